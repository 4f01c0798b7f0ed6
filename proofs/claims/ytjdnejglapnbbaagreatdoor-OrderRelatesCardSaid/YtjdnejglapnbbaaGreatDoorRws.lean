import Derived.Test.YtjdnejglapnbbaaGreatDoorGBa
import Derived.OneCell
namespace Go.Proofs.YtjdnejglapnbbaaGreatDoor
open Go.RowKit Go.Shelf
set_option linter.unusedVariables false
set_option linter.unusedSimpArgs false
theorem own_farR {w w' : World} {base : Nat} {e : TypeId} {size : Nat} {v : Value} {n : Nat} {xs : List Value} {row : Option Nat} (h : w.ownsRow base e size v n xs) (g : w.grownBy w' row) (hn : ∀ j, row = some j → v.ownBlock ≠ some j) : w'.ownsRow base e size v n xs :=
 h.kept g (by
  cases hv : v.ownBlock with
  | none => exact .inl rfl
  | some k => exact .inr fun e => hn k e.symm hv)
structure RowD where
 t : TypeId
 k : Nat
 v : Value
 n : Nat
 xs : List Value
structure Rws (w : World) (base n : Nat) (rs : Nat → RowD) : Prop where
 own : ∀ i, i < n → w.ownsRow base (rs i).t (rs i).k (rs i).v (rs i).n (rs i).xs
 apart : ∀ i j, i < n → j < n → i ≠ j → ∀ b, (rs i).v.ownBlock = some b → (rs j).v.ownBlock ≠ some b
def putD (rs : Nat → RowD) (i : Nat) (r : RowD) : Nat → RowD := fun x => if x = i then r else rs x
theorem putD_at (rs : Nat → RowD) (i : Nat) (r : RowD) : putD rs i r i = r := if_pos rfl
theorem putD_ne (rs : Nat → RowD) {i x : Nat} (r : RowD) (h : x ≠ i) : putD rs i r x = rs x := if_neg h
theorem Rws.kp {w w' : World} {base n : Nat} {rs : Nat → RowD} (h : Rws w base n rs) (k : Kp w w') : Rws w' base n rs := ⟨fun i hi => own_kp (h.own i hi) k, h.apart⟩
theorem Rws.lt {w : World} {base n : Nat} {rs : Nat → RowD} (h : Rws w base n rs) {i : Nat} (hi : i < n) : ∀ b, (rs i).v.ownBlock = some b → base ≤ b ∧ b < w.heap.size := (h.own i hi).lt
theorem Rws.put {w w' : World} {base n : Nat} {rs : Nat → RowD} (h : Rws w base n rs) {i : Nat} (hi : i < n) {r : RowD} (own : w'.ownsRow base r.t r.k r.v r.n r.xs) (g : w.grownBy w' (rs i).v.ownBlock) (at_ : r.v.ownBlock = (rs i).v.ownBlock ∨ r.v.ownBlock = none ∨ ∃ b, r.v.ownBlock = some b ∧ w.heap.size ≤ b) :
  Rws w' base n (putD rs i r) := by
 have far : ∀ j, j < n → j ≠ i → ∀ b, r.v.ownBlock = some b → (rs j).v.ownBlock ≠ some b := by
  intro j hj hne b hb e
  rcases at_ with a | a | ⟨c, a, hc⟩
  ·rw [a] at hb
   exact h.apart i j hi hj (fun e => hne e.symm) b hb e
  ·rw [a] at hb; cases hb
  ·rw [a] at hb
   cases hb
   have := (h.lt hj _ e).2
   omega
 refine ⟨fun j hj => ?_, fun j m hj hm hne b hb e => ?_⟩
 ·by_cases e : j = i
  ·subst e; rw [putD_at]; exact own
  ·rw [putD_ne _ _ e]
   exact own_farR (h.own j hj) g fun b hb e2 => h.apart i j hi hj (fun e3 => e e3.symm) b hb e2
 ·by_cases e1 : j = i
  ·subst e1
   rw [putD_at] at hb
   rw [putD_ne _ _ (fun e3 => hne e3.symm)] at e
   exact far m hm (fun e3 => hne e3.symm) b hb e
  ·rw [putD_ne _ _ e1] at hb
   by_cases e2 : m = i
   ·subst e2
    rw [putD_at] at e
    exact far j hj e1 b e hb
   ·rw [putD_ne _ _ e2] at e
    exact h.apart j m hj hm hne b hb e
theorem Rws.setCell {w : World} {base n : Nat} {rs : Nat → RowD} (h : Rws w base n rs) {a : Addr} (ha : a.block < base) (u : Value) : Rws (w.setCell a u) base n rs := ⟨fun i hi => ownsRow_setCell_below (h.own i hi) ha u, h.apart⟩
end Go.Proofs.YtjdnejglapnbbaaGreatDoor
