/-
  The iterator over the numbers of a set that are units': image.units.
-/
import Derived.RangeFuncNested
import Derived.RangeFuncBound
import Derived.RangeFuncCalls
import Derived.RangeFuncLeaves
import Derived.Shelf.Abstract
import Derived.Shelf.AbstractIn
import Derived.Shelf.RegionOpen
import Derived.WalkKit
import Derived.OwnWalkIn
import Derived.TacticsInMore
import Derived.LoopNIn
import Derived.LoopIn
import Derived.Maps.AppendAt
import Derived.Test.YtjjpnglilalnmaaGreatDoorImgA
namespace Go.Proofs.YtjjpnglilalnmaaGreatDoor
open Go.RowKit Go.Shelf
set_option linter.unusedVariables false
set_option linter.unusedSimpArgs false
attribute [local go_sem] Oper.semAt_some
/-- the numbers from one on -/
def upF (lo : Int) (m : Nat) : List Int := (List.range m).map fun (i : Nat) => lo + (i : Int)
theorem upF_succ (lo : Int) (m : Nat) : upF lo (m + 1) = upF lo m ++ [lo + (m : Int)] := by unfold upF; rw [List.range_succ]; simp
theorem upF_len (lo : Int) (m : Nat) : (upF lo m).length = m := by simp [upF]
def runF (r : R) : List Int := upF r.1 (r.2 - r.1 + 1).toNat
/-- all numbers of runs, one by one -/
def nums (l : List R) : List Int := l.flatMap runF
theorem nums_take (l : List R) (j : Nat) (h : j < l.length) : nums (l.take (j + 1)) = nums (l.take j) ++ runF (at_ l j) := by
  unfold nums; rw [take_at l j h]; simp
theorem nums_part (l : List R) (j m : Nat) (h : j < l.length) (hm : m ≤ ((at_ l j).2 - (at_ l j).1 + 1).toNat) : nums (l.take j) ++ upF (at_ l j).1 m <+: nums l := by
  have e : nums l = nums (l.take (j + 1)) ++ nums (l.drop (j + 1)) := by unfold nums; rw [← List.flatMap_append, List.take_append_drop]
  rw [e, nums_take l j h, List.append_assoc]
  refine List.prefix_append_right_inj _ |>.2 ?_
  refine List.IsPrefix.trans ?_ (List.prefix_append _ _)
  obtain ⟨q, hq⟩ : ∃ q, ((at_ l j).2 - (at_ l j).1 + 1).toNat = m + q := ⟨_, (Nat.add_sub_of_le hm).symm⟩
  unfold runF upF
  rw [hq, List.range_add]
  simp
/-- an int's row, that a caller may write -/
def isRowOf (t : TypeId) : Obj → Bool
  | .cells _ t' _ => t' == t
  | _ => false
/-- what the caller's rounds keep: all cells but one box and rows of one type -/
structure IK (B : Nat) (t : TypeId) (W W' : World) : Prop where
  size : W.heap.size ≤ W'.heap.size
  same : ∀ (k : Nat) (o : Obj), W.heap[k]? = some o → o.isCells = true → isRowOf t o = false → k ≠ B → W'.heap[k]? = some o
theorem IK.refl (B : Nat) (t : TypeId) (W : World) : IK B t W W := ⟨Nat.le_refl _, fun _ _ h _ _ _ => h⟩
theorem IK.trans {B : Nat} {t : TypeId} {X Y Z : World} (h : IK B t X Y) (k : IK B t Y Z) : IK B t X Z := ⟨Nat.le_trans h.size k.size, fun i o hi hc hr hb => k.same i o (h.same i o hi hc hr hb) hc hr hb⟩
theorem IK.kp {B : Nat} {t : TypeId} {W W' : World} (h : Kp W W') : IK B t W W' :=
  ⟨h.size, fun k o hk _ _ _ => (h.block k (Array.getElem?_eq_some_iff.1 hk).1).trans hk⟩
theorem IK.putObj {B : Nat} {t : TypeId} (W : World) (l : Nat) (o o' : Obj) (h : W.heap[l]? = some o) (hc : o.isCells = false) : IK B t W (W.putObj l o') :=
  ⟨by simp, fun k q hk hq _ _ => by
    have g := grownBy_putObj' W l o'
    exact (g.block k (Array.getElem?_eq_some_iff.1 hk).1 (fun e => by cases e; rw [h] at hk; cases hk; rw [hc] at hq; cases hq)).trans hk⟩
theorem IK.setCell {B : Nat} {t : TypeId} (W : World) (v : Value) : IK B t W (W.setCell ⟨B, 0, none⟩ v) :=
  ⟨(grownBy_setCell' W B v).size, fun k o hk _ _ hb => ((grownBy_setCell' W B v).block k (Array.getElem?_eq_some_iff.1 hk).1 (fun e => hb (by cases e; rfl))).trans hk⟩
theorem IK.grown {B : Nat} {t : TypeId} {W W' : World} {base size n : Nat} {v : Value} {xs : List Value} (h : W.ownsRow base t size v n xs) (g : W.grownBy W' v.ownBlock) : IK B t W W' := by
  refine ⟨g.size, fun k o hk _ hr _ => (g.block k (Array.getElem?_eq_some_iff.1 hk).1 (fun e => ?_)).trans hk⟩
  rcases h.2 with ⟨rfl, _⟩ | ⟨q, cap, cur, rfl, _, hgb, _⟩
  · cases e
  · cases e
    rw [hgb] at hk
    cases hk
    simp [isRowOf] at hr
theorem own_ik {B : Nat} {t : TypeId} {w w' : World} {base : Nat} {e : TypeId} {size : Nat} {v : Value} {n : Nat} {xs : List Value} (h : w.ownsRow base e size v n xs) (k : IK B t w w') (hB : B < base) (ht : (e == t) = false) : w'.ownsRow base e size v n xs := by
  refine ⟨h.1, ?_⟩
  rcases h.2 with h2 | ⟨g, cap, cur, e1, hb, hg, rest⟩
  · exact .inl h2
  · exact .inr ⟨g, cap, cur, e1, hb, k.same g _ hg rfl (by simpa [isRowOf] using ht) (by omega), rest⟩
theorem kp_none {w w' : World} (h : Kp w w') : w.grownBy w' none := ⟨h.os, h.tape, h.output, h.size, fun k hk _ => h.block k hk⟩
theorem J_kp {β : Type} {B : Nat} {J : β → World → Prop} (hJ : AbidesFrom B J) {s : β} {W W' : World} (h : J s W) (k : Kp W W') : J s W' := hJ s W W' none h (kp_none k) (fun r e => by cases e)
theorem runsAt_two {w : World} {lo hi' : Int} (t : TypeId) : (w.alloc (.cells #[.int .i64 lo, .int .i64 hi'] t)).heap[w.heap.size]? = some (.cells #[.int .i64 lo, .int .i64 hi'] t) := World.alloc_heap_new w _
theorem two_ik {B : Nat} {t e : TypeId} {w w' : World} {b : Nat} {x y : Value} (h : w.heap[b]? = some (.cells #[x, y] e)) (k : IK B t w w') (hb : b ≠ B) (ht : (e == t) = false) : w'.heap[b]? = some (.cells #[x, y] e) :=
  k.same b _ h rfl (by simpa [isRowOf] using ht) hb
theorem two_cell {w : World} {b : Nat} {x y : Value} {e : TypeId} (h : w.heap[b]? = some (.cells #[x, y] e)) : w.cell? ⟨b, 1, none⟩ = some y := by
  simp [World.cell?, h]
end Go.Proofs.YtjjpnglilalnmaaGreatDoor
