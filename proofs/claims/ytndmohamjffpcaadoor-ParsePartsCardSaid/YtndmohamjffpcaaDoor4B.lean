/-
  Contracts of the document's answer for layer 4: put.
-/
import Derived.Test.YtndmohamjffpcaaDoorApp
import Derived.Test.YtndmohamjffpcaaDoor4A
import Derived.Test.YtndmohamjffpcaaDoorRunsD
import Derived.Test.YtndmohamjffpcaaDoorRunsS
import Derived.RegionTactic
namespace Go.Proofs.YtndmohamjffpcaaDoor
open Go.RowKit
set_option linter.unusedVariables false
set_option linter.unusedSimpArgs false
def pst (st : List R × R × List R) (y : R) : List R × R × List R :=
  if y.2 < st.2.1.1 - 1 then (st.1 ++ [y], st.2.1, st.2.2) else if st.2.1.2 + 1 < y.1 then (st.1, st.2.1, st.2.2 ++ [y]) else (st.1, (min st.2.1.1 y.1, max st.2.1.2 y.2), st.2.2)
theorem pst_after : ∀ (s bf : List R) (x : R) (af : List R), sane s → okR x → (∀ y t, s = y :: t → x.2 + 1 < y.1) → s.foldl pst (bf, x, af) = (bf, x, af ++ s) := by
  intro s
  induction s with
  | nil => intro bf x af _ _ _; simp
  | cons y t ih =>
    intro bf x af hs hx hy
    have h1 := hy y t rfl
    have h2 := (sane_head hs).1
    have h3 := hx.1
    rw [List.foldl_cons]
    have e : pst (bf, x, af) y = (bf, x, af ++ [y]) := by
      unfold pst; simp only; rw [if_neg (by omega), if_pos h1]
    rw [e, ih bf x (af ++ [y]) (sane_tail hs) hx (fun z u e => by subst e; have : y.2 + 1 < z.1 := hs.2.1; omega), List.append_assoc]
    rfl
theorem pst_put : ∀ (s bf : List R) (x : R), sane s → okR x → (s.foldl pst (bf, x, [])).1 ++ (s.foldl pst (bf, x, [])).2.1 :: (s.foldl pst (bf, x, [])).2.2 = bf ++ put1 x s := by
  intro s
  induction s with
  | nil => intro bf x _ _; rfl
  | cons y t ih =>
    intro bf x hs hx
    rw [List.foldl_cons, put1]
    by_cases c1 : y.2 < x.1 - 1
    · have e : pst (bf, x, []) y = (bf ++ [y], x, []) := by unfold pst; simp only; rw [if_pos c1]
      rw [e, if_pos c1, ih (bf ++ [y]) x (sane_tail hs) hx, List.append_assoc]
      rfl
    · rw [if_neg c1]
      by_cases c2 : x.2 + 1 < y.1
      · have e : pst (bf, x, []) y = (bf, x, [y]) := by unfold pst; simp only; rw [if_neg c1, if_pos c2]; rfl
        rw [e, if_pos c2, pst_after t bf x [y] (sane_tail hs) hx (fun z u e => by subst e; have h : y.2 + 1 < z.1 := hs.2.1; have := (sane_head hs).1; omega)]
        rfl
      · have e : pst (bf, x, []) y = (bf, (min x.1 y.1, max x.2 y.2), []) := by unfold pst; simp only; rw [if_neg c1, if_neg c2]
        rw [e, if_neg c2, ih bf _ (sane_tail hs) (okR_join hx (sane_head hs))]
theorem grown_cell1 {wr w1 : World} {row : Option Nat} {o1 : Obj} {B o : Nat} (g : (wr.alloc o1).grownBy w1 row) (hB : B < wr.heap.size) (hn : ∀ j, row = some j → j ≠ B) : w1.cell? ⟨B, o, none⟩ = wr.cell? ⟨B, o, none⟩ :=
  (grown_cell g (by simp; omega) hn).trans ((Kp.alloc wr o1).cell hB)
theorem grown_frozen1 {wr w1 : World} {row : Option Nat} {o1 : Obj} {B o : Nat} (g : (wr.alloc o1).grownBy w1 row) (hB : B < wr.heap.size) (hn : ∀ j, row = some j → j ≠ B) : w1.frozen? ⟨B, o, none⟩ = wr.frozen? ⟨B, o, none⟩ :=
  (grown_frozen g (by simp; omega) hn).trans ((Kp.alloc wr o1).frozen hB)
theorem at_mem {l : List R} {k : Nat} (h : k < l.length) : at_ l k ∈ l := by
  have : at_ l k = l[k] := by unfold at_; simp [List.getD, h]
  rw [this]; exact List.getElem_mem h
theorem own_ge {w : World} {base : Nat} {e : TypeId} {size : Nat} {v : Value} {n : Nat} {xs : List Value} (h : w.ownsRow base e size v n xs) {B : Nat} (hB : B < base) : ∀ j, v.ownBlock = some j → j ≠ B := fun j hj => by
  have := (h.lt j hj).1
  omega
end Go.Proofs.YtndmohamjffpcaaDoor
