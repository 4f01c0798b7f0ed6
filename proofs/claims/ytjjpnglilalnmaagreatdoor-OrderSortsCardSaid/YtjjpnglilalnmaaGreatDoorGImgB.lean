/-
  Joined: ImgF, ImgG, ImgH.
-/
import Derived.Test.YtjjpnglilalnmaaGreatDoorImgE
namespace Go.Proofs.YtjjpnglilalnmaaGreatDoor
open Go.RowKit Go.Shelf
set_option linter.unusedVariables false
set_option linter.unusedSimpArgs false
attribute [local go_sem] Oper.semAt_some
theorem infoN : (Tryz.prog.info? 3).map (fun i => (i.zero, i.size, i.bytes)) = some (some (.int .i64 0), 1, 8) := by kernel_rfl
theorem intsAt_own {w : World} {base : Nat} {e : TypeId} {v : Value} {l : List Int} (h : w.ownsRow base e 1 v l.length (l.map (.int .i64))) : IntsAt w v l := by
  rcases h.2 with ⟨e1, h0⟩ | ⟨g, cp, cur, rfl, h2, h3, h4, h5, h6, h7⟩
  · exact .inl ⟨_, _, e1, List.length_eq_zero_iff.1 h0⟩
  · refine .inr ⟨g, 0, cp, rfl, h4, h5, fun i hi => ?_⟩
    rw [Nat.zero_add, h.cellAt _ (by omega)]
    simp [List.getD, hi]
theorem Boxed.at' (W : World) (B : Nat) (t : TypeId) (v : Value) (h : W.heap.size = B) : Boxed (W.alloc (.cells #[v] t)) B t v := by subst h; exact Boxed.new W t v
theorem own_set {w : World} {base : Nat} {e : TypeId} {size : Nat} {v : Value} {n : Nat} {xs : List Value} (h : w.ownsRow base e size v n xs) {B : Nat} (hB : B < base) (x : Value) : (w.setCell ⟨B, 0, none⟩ x).ownsRow base e size v n xs := by
  refine h.kept (grownBy_setCell' w B x) ?_
  rcases h.2 with ⟨rfl, _⟩ | ⟨g, cap, cur, rfl, hb, _⟩
  · exact .inl rfl
  · refine .inr fun e' => ?_
    have : g = B := by simpa [Value.ownBlock] using e'
    omega
theorem firV_bd (k i : Int) : 0 ≤ firV k i ∧ firV k i ≤ 3652425 := by
  unfold firV
  rcases Bool.eq_false_or_eq_true (okU k i) with o | o
  · rw [if_pos o]
    have := (okU_iff k i).1 o
    have := span_bd this.1 this.2
    omega
  · rw [o]; simp
theorem lasV_bd (k i : Int) : 0 ≤ lasV k i ∧ lasV k i ≤ 3652425 := by
  unfold lasV
  rcases Bool.eq_false_or_eq_true (okU k i) with o | o
  · rw [if_pos o]
    have := (okU_iff k i).1 o
    have := span_bd this.1 this.2
    omega
  · rw [o]; simp
theorem fir_i64 (k : Int) (l : List Int) : I64 (l.map (firV k)) := by
  intro n hn
  simp only [List.mem_map] at hn
  obtain ⟨i, _, rfl⟩ := hn
  have := firV_bd k i
  omega
theorem las_i64 (k : Int) (l : List Int) : I64 (l.map (lasV k)) := by
  intro n hn
  simp only [List.mem_map] at hn
  obtain ⟨i, _, rfl⟩ := hn
  have := lasV_bd k i
  omega
end Go.Proofs.YtjjpnglilalnmaaGreatDoor

namespace Go.Proofs.YtjjpnglilalnmaaGreatDoor
open Go.RowKit Go.Shelf
set_option linter.unusedVariables false
set_option linter.unusedSimpArgs false
attribute [local go_sem] Oper.semAt_some
end Go.Proofs.YtjjpnglilalnmaaGreatDoor

namespace Go.Proofs.YtjjpnglilalnmaaGreatDoor
open Go.RowKit
set_option linter.unusedVariables false
set_option linter.unusedSimpArgs false
/-- is the set of edges no wider than a set may be -/
def edgB (k : Int) (s : List R) : Bool := if k = 0 then decide ((unitsR k s).length ≤ 400) else decide ((nums (unitsR k s)).length ≤ 400)
def edgR (V : Int → Int) (k : Int) (s : List R) : List R := if edgB k s = true then (if k = 0 then unitsR k s else nf (sing ((nums (unitsR k s)).map V))) else []
theorem ofV_bd (k d : Int) : 0 ≤ ofV k d ∧ ofV k d ≤ 3652425 := by
  unfold ofV
  rcases Bool.eq_false_or_eq_true (okO k d) with o | o
  · rw [if_pos o]
    obtain ⟨u1, u2, _⟩ := unum_ok o
    have := cnt_bd k
    omega
  · rw [o]; simp
theorem own_kind (w w' : World) (v : Value) (a b : List R) (e : a = b) : w'.ownsRow w.heap.size 70 2 v a.length (cellsR a) → w'.ownsRow w.heap.size 70 2 v b.length (cellsR b) := by subst e; exact id
end Go.Proofs.YtjjpnglilalnmaaGreatDoor
