/-
  The iterator over the numbers of a set that are units': image.units.
-/
import Derived.RangeFuncNested
import Derived.RangeFuncBound
import Derived.RangeFuncCalls
import Derived.RangeFuncLeaves
import Derived.Shelf.Abstract
import Derived.Shelf.AbstractIn
import Derived.Shelf.RegionOpen
import Derived.WalkKit
import Derived.OwnWalkIn
import Derived.TacticsInMore
import Derived.LoopNIn
import Derived.LoopIn
import Derived.Maps.AppendAt
import Derived.Test.YtinpglfclbnhlaaGreatDoorImgA
namespace Go.Proofs.YtinpglfclbnhlaaGreatDoor
open Go.RowKit Go.Shelf
set_option linter.unusedVariables false
set_option linter.unusedSimpArgs false
attribute [local go_sem] Oper.semAt_some
/-- the numbers from one on -/
def upF (lo : Int) (m : Nat) : List Int := (List.range m).map fun (i : Nat) => lo + (i : Int)
theorem upF_succ (lo : Int) (m : Nat) : upF lo (m + 1) = upF lo m ++ [lo + (m : Int)] := by unfold upF; rw [List.range_succ]; simp
theorem upF_len (lo : Int) (m : Nat) : (upF lo m).length = m := by simp [upF]
def runF (r : R) : List Int := upF r.1 (r.2 - r.1 + 1).toNat
/-- all numbers of runs, one by one -/
def nums (l : List R) : List Int := l.flatMap runF
theorem nums_take (l : List R) (j : Nat) (h : j < l.length) : nums (l.take (j + 1)) = nums (l.take j) ++ runF (at_ l j) := by
  unfold nums; rw [take_at l j h]; simp
theorem nums_part (l : List R) (j m : Nat) (h : j < l.length) (hm : m ≤ ((at_ l j).2 - (at_ l j).1 + 1).toNat) : nums (l.take j) ++ upF (at_ l j).1 m <+: nums l := by
  have e : nums l = nums (l.take (j + 1)) ++ nums (l.drop (j + 1)) := by unfold nums; rw [← List.flatMap_append, List.take_append_drop]
  rw [e, nums_take l j h, List.append_assoc]
  refine List.prefix_append_right_inj _ |>.2 ?_
  refine List.IsPrefix.trans ?_ (List.prefix_append _ _)
  obtain ⟨q, hq⟩ : ∃ q, ((at_ l j).2 - (at_ l j).1 + 1).toNat = m + q := ⟨_, (Nat.add_sub_of_le hm).symm⟩
  unfold runF upF
  rw [hq, List.range_add]
  simp
/-- an int's row, that a caller may write -/
def isRowOf (t : TypeId) : Obj → Bool
  | .cells _ t' _ => t' == t
  | _ => false
/-- what the caller's rounds keep: all cells but one box and rows of one type -/
structure IK (B : Nat) (t : TypeId) (W W' : World) : Prop where
  size : W.heap.size ≤ W'.heap.size
  same : ∀ (k : Nat) (o : Obj), W.heap[k]? = some o → o.isCells = true → isRowOf t o = false → k ≠ B → W'.heap[k]? = some o
theorem IK.refl (B : Nat) (t : TypeId) (W : World) : IK B t W W := ⟨Nat.le_refl _, fun _ _ h _ _ _ => h⟩
theorem IK.trans {B : Nat} {t : TypeId} {X Y Z : World} (h : IK B t X Y) (k : IK B t Y Z) : IK B t X Z := ⟨Nat.le_trans h.size k.size, fun i o hi hc hr hb => k.same i o (h.same i o hi hc hr hb) hc hr hb⟩
theorem IK.kp {B : Nat} {t : TypeId} {W W' : World} (h : Kp W W') : IK B t W W' :=
  ⟨h.size, fun k o hk _ _ _ => (h.block k (Array.getElem?_eq_some_iff.1 hk).1).trans hk⟩
theorem IK.putObj {B : Nat} {t : TypeId} (W : World) (l : Nat) (o o' : Obj) (h : W.heap[l]? = some o) (hc : o.isCells = false) : IK B t W (W.putObj l o') :=
  ⟨by simp, fun k q hk hq _ _ => by
    have g := grownBy_putObj' W l o'
    exact (g.block k (Array.getElem?_eq_some_iff.1 hk).1 (fun e => by cases e; rw [h] at hk; cases hk; rw [hc] at hq; cases hq)).trans hk⟩
theorem IK.setCell {B : Nat} {t : TypeId} (W : World) (v : Value) : IK B t W (W.setCell ⟨B, 0, none⟩ v) :=
  ⟨(grownBy_setCell' W B v).size, fun k o hk _ _ hb => ((grownBy_setCell' W B v).block k (Array.getElem?_eq_some_iff.1 hk).1 (fun e => hb (by cases e; rfl))).trans hk⟩
theorem IK.grown {B : Nat} {t : TypeId} {W W' : World} {base size n : Nat} {v : Value} {xs : List Value} (h : W.ownsRow base t size v n xs) (g : W.grownBy W' v.ownBlock) : IK B t W W' := by
  refine ⟨g.size, fun k o hk _ hr _ => (g.block k (Array.getElem?_eq_some_iff.1 hk).1 (fun e => ?_)).trans hk⟩
  rcases h.2 with ⟨rfl, _⟩ | ⟨q, cap, cur, rfl, _, hgb, _⟩
  · cases e
  · cases e
    rw [hgb] at hk
    cases hk
    simp [isRowOf] at hr
theorem own_ik {B : Nat} {t : TypeId} {w w' : World} {base : Nat} {e : TypeId} {size : Nat} {v : Value} {n : Nat} {xs : List Value} (h : w.ownsRow base e size v n xs) (k : IK B t w w') (hB : B < base) (ht : (e == t) = false) : w'.ownsRow base e size v n xs := by
  refine ⟨h.1, ?_⟩
  rcases h.2 with h2 | ⟨g, cap, cur, e1, hb, hg, rest⟩
  · exact .inl h2
  · exact .inr ⟨g, cap, cur, e1, hb, k.same g _ hg rfl (by simpa [isRowOf] using ht) (by omega), rest⟩
theorem kp_none {w w' : World} (h : Kp w w') : w.grownBy w' none := ⟨h.os, h.tape, h.output, h.size, fun k hk _ => h.block k hk⟩
theorem J_kp {β : Type} {B : Nat} {J : β → World → Prop} (hJ : AbidesFrom B J) {s : β} {W W' : World} (h : J s W) (k : Kp W W') : J s W' := hJ s W W' none h (kp_none k) (fun r e => by cases e)
theorem runsAt_two {w : World} {lo hi' : Int} (t : TypeId) : (w.alloc (.cells #[.int .i64 lo, .int .i64 hi'] t)).heap[w.heap.size]? = some (.cells #[.int .i64 lo, .int .i64 hi'] t) := World.alloc_heap_new w _
theorem two_ik {B : Nat} {t e : TypeId} {w w' : World} {b : Nat} {x y : Value} (h : w.heap[b]? = some (.cells #[x, y] e)) (k : IK B t w w') (hb : b ≠ B) (ht : (e == t) = false) : w'.heap[b]? = some (.cells #[x, y] e) :=
  k.same b _ h rfl (by simpa [isRowOf] using ht) hb
theorem two_cell {w : World} {b : Nat} {x y : Value} {e : TypeId} (h : w.heap[b]? = some (.cells #[x, y] e)) : w.cell? ⟨b, 1, none⟩ = some y := by
  simp [World.cell?, h]
set_option maxRecDepth 100000 in
set_option maxHeartbeats 4000000 in
theorem units1_in (n : Nat) (hn : 1 ≤ n) (l Bk Bs B0 : Nat) (k : Int) (v : Value) (s : List R) (J Jx : List Int → World → Prop) (W : World)
    (hY : ∀ pre x W, J pre W → pre.length < (nums (unitsR k s)).length → YieldAt Fence.wide (n - 1) Tryz.prog l #[.int .i64 x] W fun e W' =>
      (e = .returned (.bool true) ∧ J (pre ++ [x]) W' ∧ IK B0 3 W W') ∨ (e = .returned (.bool false) ∧ Jx (pre ++ [x]) W'))
    (hJ : AbidesFrom W.heap.size J)
    (hk : W.cell? ⟨Bk, 0, none⟩ = some (.int .i64 k)) (hs : W.cell? ⟨Bs, 0, none⟩ = some v) (hv : RunsAt W v s) (hl : I64R s) (hn2 : s.length ≤ 1000000) (T : Tabs W) (hB0 : B0 < W.heap.size) (h0 : J [] W) :
    CallsIn Fence.wide n Tryz.prog 90 #[.func (.yield l) #[] #[], .pointer (some ⟨Bk, 0, none⟩), .pointer (some ⟨Bs, 0, none⟩)] W fun e W' => (∃ v, e = .returned v) ∧
      ((∃ ys, ys = nums (unitsR k s) ∧ J ys W') ∨ (∃ pre, pre <+: nums (unitsR k s) ∧ Jx pre W')) := by
  have C := Lib.hid (existing_any k v s W hv hl hn2 T)
  have hi := fun r hr => unitsR_in (k := k) (s := s) (r := r) hr
  have hlen : (unitsR k s).length ≤ 1000000 := unitsR_len hn2
  have cb := cnt_bd k
  clear hv hl hn2 T
  generalize unitsR k s = L at *
  have HN := Lib.hid (show (nums L).length = (nums L).length from rfl)
  refine callsIn_of_wp Tryz.func90 rfl trivial ?_ rfl
  simp only [Tryz.ntmps90, List.size_toArray, List.length_cons, List.length_nil, Nat.reduceAdd, Nat.reduceSub, Array.replicate_succ, Array.replicate_zero, List.push_toArray, List.append_toArray, List.nil_append, List.cons_append]
  gi_wp2_with (refine ⟨trivial, ?_⟩; gi_at_call 73; refine (callsIn_wide.2 (C.out)).mono ?_; rintro e W1 ⟨v1, rfl, own1, kk⟩)
  have K1 := Lib.hid kk
  have O1 := Lib.hid own1
  have hJ1 := J_kp hJ h0 kk
  have hB1 : B0 < W1.heap.size := Nat.lt_of_lt_of_le hB0 kk.size
  have R1 := Lib.hid (runsAt_own own1)
  obtain ⟨ad1, c1, rfl⟩ := R1.out.slice
  clear own1 kk C R1 h0
  gi_wp2
  go_simp
  gi_wp2
  gi_loopw [11] (fun i wr => ∃ j : Nat, j ≤ L.length ∧ i = .int .i64 j ∧ J (nums (L.take j)) wr ∧ Hid (IK B0 3 W1 wr)) (fun i _ => L.length - (intOf i).toNat)
  case atStart => exact ⟨0, Nat.zero_le _, rfl, hJ1, Lib.hid (IK.refl _ _ _)⟩
  case round =>
    obtain ⟨j, hj, rfl, hJs, K2⟩ := hrel
    obtain ⟨wo, HW⟩ : ∃ x, x = wr := ⟨_, rfl⟩
    subst HW
    by_cases hlt : j < L.length
    · have OW := own_ik O1.out K2.out hB0 (by decide)
      rcases runsAt_own OW with ⟨_, _, _, e⟩ | ⟨b0, off, cap, ev, hc, hm, hx⟩
      · rw [e] at hlt; simp at hlt
      cases ev
      obtain ⟨d1, d2⟩ := hx j hlt
      have NT := Lib.hid (nums_take L j hlt)
      have NP := Lib.hid (fun m hm => nums_part L j m hlt hm)
      obtain ⟨h1, h2, h3⟩ := hi (at_ L j) (by unfold at_; simp [List.getD, hlt])
      clear hx hc hm OW
      obtain ⟨lo, hi', ee⟩ : ∃ x y, at_ L j = (x, y) := ⟨_, _, rfl⟩
      rw [ee] at d1 d2 h1 h2 h3 NT NP
      simp only at d1 d2 h1 h2 h3 NP
      clear ee
      have hsz := K2.out.size
      have hz1 : lo ≤ 3652425 := by omega
      have hz2 : hi' ≤ 3652425 := by omega
      have z1 : (j : Int) < (L.length : Int) := by omega
      gi_wp2
      have hsz2 : B0 < wo.heap.size := by omega
      have K3 := Lib.hid (fun o => IK.trans K2.out (IK.kp (B := B0) (t := 3) (Kp.alloc wo o)))
      have hJ3 := fun o => J_kp hJ hJs (Kp.alloc wo o)
      gi_loopw [6] (fun i ws => ∃ m : Nat, m ≤ (hi' - lo + 1).toNat ∧ i = .int .i64 (lo + (m : Int)) ∧ J (nums (L.take j) ++ upF lo m) ws ∧ Hid (IK B0 3 W1 ws) ∧ Hid (ws.heap[wo.heap.size]? = some (.cells #[.int .i64 lo, .int .i64 hi'] 37))) (fun i _ => (hi' + 1 - intOf i).toNat)
      case atStart => exact ⟨0, Nat.zero_le _, by simp, by rw [show upF lo 0 = [] from rfl, List.append_nil]; exact hJ3 _, Lib.hid (K3.out _), Lib.hid (World.alloc_heap_new _ _)⟩
      case round =>
        obtain ⟨m, hm, rfl, hJm, K4, H4⟩ := hrel
        have c4 := two_cell H4.out
        by_cases hlm : lo + (m : Int) ≤ hi'
        · have q1 : decide (lo + (m : Int) ≤ hi') = true := decide_eq_true hlm
          have hm1 : m + 1 ≤ (hi' - lo + 1).toNat := by omega
          have pf := NP.out (m + 1) hm1
          rw [upF_succ, ← List.append_assoc] at pf
          obtain ⟨fn, tmps, assign, body, hy, hR⟩ := hY _ (lo + (m : Int)) wr hJm (by have := pf.length_le; simp only [List.length_append, List.length_singleton] at this ⊢; omega)
          gi_wp2
          refine hR.mono ?_
          rintro e W3 (⟨rfl, hJ5, k5⟩ | ⟨rfl, hJx⟩)
          · have K5 := Lib.hid (K4.out.trans k5)
            have H5 := Lib.hid (two_ik H4.out k5 (by omega) (by decide))
            clear k5 hR hy
            gi_wp2
            go_roundw
            case rel => exact ⟨m + 1, hm1, by go_num, by rw [upF_succ, ← List.append_assoc]; exact hJ5, K5, H5⟩
            case measure => simp [intOf]; omega
          · clear hR hy
            gi_wp2
            refine bodyPost_ret (results_none rfl _ _ _) rfl ?_
            exact ⟨⟨_, rfl⟩, .inr ⟨_, pf, hJx⟩⟩
        · have q1 : decide (lo + (m : Int) ≤ hi') = false := decide_eq_false hlm
          have em : m = (hi' - lo + 1).toNat := by omega
          gi_wp2
          go_roundw
          case rel => exact ⟨j + 1, by omega, by go_num, by rw [NT.out]; unfold runF; simp only; rw [← em]; exact hJm, K4⟩
          case measure => simp [intOf]; omega
    · obtain rfl : j = L.length := by omega
      rw [List.take_length] at hJs
      gi_wp2
      go_end0
      exact ⟨⟨_, rfl⟩, .inl ⟨_, rfl, hJs⟩⟩
end Go.Proofs.YtinpglfclbnhlaaGreatDoor
