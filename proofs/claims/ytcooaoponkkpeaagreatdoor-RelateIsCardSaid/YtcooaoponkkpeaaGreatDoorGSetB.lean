import Derived.Test.YtcooaoponkkpeaaGreatDoorGSetA
import Derived.StillTailTactics
import Derived.Test.YtcooaoponkkpeaaGreatDoorGBa
import Derived.Deep.RegionHeld3
set_option maxHeartbeats 8000000
set_option maxRecDepth 100000
namespace Go.Proofs.YtcooaoponkkpeaaGreatDoor
open Go.RowKit
set_option linter.unusedVariables false
set_option linter.unusedSimpArgs false
theorem union_any (v u : Value) (l m : List R) (w : World) (hv : RunsAt w v l) (hu : RunsAt w u m) (hl : I64R l) (hm : I64R m) (hn : l.length + m.length ≤ 1000000) :
  Calls Tryz.prog 43 #[v, u] w fun e w' => ∃ v' : Value, e = .returned v' ∧ w'.ownsRow w.heap.size 42 2 v' (nf (l ++ m)).length (cellsR (nf (l ++ m))) ∧ Kp w w' := by
 obtain ⟨i0, hi, hz0, hz1, hz2⟩ := info_parts infoR
 obtain ⟨ad, c, rfl⟩ := hv.slice
 obtain ⟨ad2, c2, rfl⟩ := hu.slice
 have HV := Hd hv
 have HU := Hd hu
 have HI := Hd (show I64R (l ++ m) from fun r hr => (List.mem_append.1 hr).elim (hl r) (hm r))
 have ws : IntKind.i64.wrap ((l.length : Int) + (m.length : Int)) = (l.length : Int) + (m.length : Int) := by rw [IntKind.wrap_i64]; omega
 clear hv hu hl hm
 go_enter Tryz.func43, Tryz.ntmps43
 go_wp2_with (first
  | (at_make; refine wpList_make_own _ rfl _ _ 34 rfl w.heap.size 42 i0 (.agg #[.int .i64 0, .int .i64 0]) 2 Tryz.underlying34 hi hz0 hz1 .i64 .i64 _ (l.length + m.length) rfl rfl rfl (by rw [hz2]; omega) (by unfold maxLen; omega) (Nat.le_refl _) ?_; intro w0 hown0 hgrow0; have K0 := Hd ((Kp.refl w).grown hgrow0 (fun k h => by cases h)))
  | (at_builtin; refine wpList_app rfl (.tmp 12) (.tmp 13) 34 rfl w.heap.size 42 i0 (.agg #[.int .i64 0, .int .i64 0]) 2 16 Tryz.underlying34 hi hz0 hz1 hz2 rfl (by decide) _ _ _ rfl hown0 _ _ _ rfl (HV.out.kp K0.out).src (cellsR_length _) (cells_one _) (by unfold maxLen; omega) (by omega) K0.out.size ?_; intro v1 w1 hown1 hgrow1 hat1; have K1 := Hd (K0.out.grown hgrow1 (fun j hj => (hown0.lt j hj).1)); have O1 := Hd (own_len (l := []) hown1))
  | (at_builtin; refine wpList_app rfl (.tmp 15) (.tmp 16) 34 rfl w.heap.size 42 i0 (.agg #[.int .i64 0, .int .i64 0]) 2 16 Tryz.underlying34 hi hz0 hz1 hz2 rfl (by decide) _ _ _ rfl O1.out _ _ _ rfl (HU.out.kp K1.out).src (cellsR_length _) (cells_one _) (by simp; unfold maxLen; omega) (by simp; omega) K1.out.size ?_; intro v2 w2 hown2 hgrow2 hat2; have K2 := Hd (K1.out.grown hgrow2 (fun j hj => (O1.out.lt j hj).1)); have O2 := Hd (own_len hown2))
  | (go_at_call 53; refine (make_any v2 (([] ++ l) ++ m) w2 (runsAt_own O2.out) (by rw [List.nil_append]; exact HI.out) (by simp; omega)).mono ?_; rintro e w3 ⟨v3, rfl, own3, k3⟩))
 go_ret
 rw [List.nil_append] at own3
 exact ⟨_, rfl, own_mono own3 K2.out.size, K2.out.trans k3⟩
theorem one_src2 (w : World) (o : Obj) (lo hi' : Int) (t : TypeId) : SrcAt ((w.alloc o).alloc (.cells #[.int .i64 lo, .int .i64 hi'] t)) (.slice (some ⟨w.heap.size + 1, 0, none⟩) 1 1) 1 [.int .i64 lo, .int .i64 hi'] := by
 have h := one_src (w.alloc o) lo hi' t
 simpa using h
def shR (a b : Int) (l : List R) : List R := l.map fun r => (r.1 + a, r.2 + b)
theorem shR_len (a b : Int) (l : List R) : (shR a b l).length = l.length := by unfold shR; simp
theorem shR_take (a b : Int) (l : List R) (k : Nat) (h : k < l.length) : shR a b (l.take (k + 1)) = shR a b (l.take k) ++ [((at_ l k).1 + a, (at_ l k).2 + b)] := by
 rw [take_at l k h]; unfold shR; simp
theorem shR_i64 {a b : Int} {l : List R} (h : ∀ r ∈ l, okR r) (a1 : -2199023255552 ≤ a) (a2 : a ≤ 2199023255552) (b1 : -2199023255552 ≤ b) (b2 : b ≤ 2199023255552) : I64R (shR a b l) := by
 intro r hr
 unfold shR at hr
 simp only [List.mem_map] at hr
 obtain ⟨q, hq, rfl⟩ := hr
 obtain ⟨o1, o2, o3⟩ := h q hq
 simp only
 omega
theorem moved_any (v : Value) (l : List R) (a b : Int) (w : World) (hv : RunsAt w v l) (hl : I64R l) (hn : l.length ≤ 1000000) (a1 : -2199023255552 ≤ a) (a2 : a ≤ 2199023255552) (b1 : -2199023255552 ≤ b) (b2 : b ≤ 2199023255552) :
  Calls Tryz.prog 182 #[v, .int .i64 a, .int .i64 b] w fun e w' => ∃ v' : Value, e = .returned v' ∧ w'.ownsRow w.heap.size 42 2 v' (nf (shR a b (nf l))).length (cellsR (nf (shR a b (nf l)))) ∧ Kp w w' := by
 obtain ⟨i0, hi, hz0, hz1, hz2⟩ := info_parts infoR
 have C1 := Hd (make_any v l w hv hl hn)
 have nl := nf_len l
 have OK := Hd (sane_ok (nf_sane l))
 have SI := Hd (shR_i64 OK.out a1 a2 b1 b2)
 have hL : (nf l).length ≤ 1000000 := by omega
 clear hv hl nl hn
 generalize nf l = L at *
 go_enter Tryz.func182, Tryz.ntmps182
 go_wp2_with fail
 refine (C1.out).mono ?_
 rintro e w1 ⟨v1, rfl, own1, kk⟩
 have K1 := Hd kk
 have R1 := Hd (runsAt_own own1)
 obtain ⟨ad1, c1, rfl⟩ := R1.out.slice
 clear own1 kk C1
 go_wp2_with (at_make; refine wpList_make_own _ rfl _ _ 34 rfl w1.heap.size 42 i0 (.agg #[.int .i64 0, .int .i64 0]) 2 Tryz.underlying34 hi hz0 hz1 .i64 .i64 _ L.length rfl rfl rfl (by rw [hz2]; omega) (by unfold maxLen; omega) (Nat.le_refl _) ?_; intro w0 hown0 hgrow0)
 go_loopw [7, 17] (fun u7 i wr => ∃ k : Nat, k ≤ L.length ∧ i = .int .i64 k ∧ Hid (wr.ownsRow w1.heap.size 42 2 u7 (shR a b (L.take k)).length (cellsR (shR a b (L.take k)))) ∧ Hid (Kp w1 wr)) (fun _ i _ => L.length - (intOf i).toNat)
 case atStart => exact ⟨0, Nat.zero_le _, rfl, Hd hown0, Hd ((Kp.refl w1).grown hgrow0 (fun k h => by cases h))⟩
 case round =>
  obtain ⟨k, hk, rfl, O, K2⟩ := hrel
  by_cases hlt : k < L.length
  ·rcases R1.out with ⟨_, _, _, e⟩ | ⟨b0, off, cap, ev, hc, hm, hx⟩
   ·rw [e] at hlt; simp at hlt
   cases ev
   obtain ⟨d1, d2⟩ := rd_at hx K2.out k hlt
   clear hx
   obtain ⟨o1, o2, o3⟩ := OK.out _ (at_mem hlt)
   have S := Hd (shR_take a b L k hlt)
   have tl : (shR a b (L.take k)).length ≤ k := by rw [shR_len]; exact List.length_take_le _ _
   obtain ⟨lo, hi', ee⟩ : ∃ x y, at_ L k = (x, y) := ⟨_, _, rfl⟩
   rw [ee] at d1 d2 o1 o2 o3 S
   simp only at d1 d2 o1 o2 o3 S
   clear ee
   have hsz := K2.out.size
   have wa : IntKind.i64.wrap (lo + a) = lo + a := by rw [IntKind.wrap_i64]; omega
   have wb : IntKind.i64.wrap (hi' + b) = hi' + b := by rw [IntKind.wrap_i64]; omega
   have z0 : (0 : Int) ≤ (k : Int) := by omega
   have z1 : (k : Int) < (L.length : Int) := by omega
   go_wp2_with (at_builtin; refine wpList_app rfl (.tmp 21) (.tmp 31) 34 rfl w1.heap.size 42 i0 (.agg #[.int .i64 0, .int .i64 0]) 2 16 Tryz.underlying34 hi hz0 hz1 hz2 rfl (by decide) _ _ _ rfl ((O.out.alloc _).alloc _) _ _ _ rfl (one_src2 _ _ _ _ _) rfl (by intro u hu; simp at hu; rcases hu with rfl | rfl <;> rfl) (by unfold maxLen; omega) (by omega) (by simp; omega) ?_; intro v4 w4 hown4 hgrow4 hat4)
   go_roundw
   case rel => exact ⟨k + 1, by omega, by go_num, Hd (by rw [S.out]; exact own_snoc hown4), Hd (Kp.grown (K2.out.trans ((Kp.alloc _ _).trans (Kp.alloc _ _))) hgrow4 (fun j hj => (O.out.lt j hj).1))⟩
   case measure => simp [intOf]; omega
  ·have A : L.take k = L := by rw [show k = L.length by omega, List.take_length]
   rw [A] at O
   clear A
   have q : decide ((k : Int) < L.length) = false := by simp; omega
   have C := Hd (make_any _ (shR a b L) wr (runsAt_own O.out) SI.out (by rw [shR_len]; exact hL))
   have hsz := Nat.le_trans K1.out.size K2.out.size
   go_wp2_with fail
   refine (C.out).mono ?_
   rintro e w5 ⟨v5, rfl, own5, kk⟩
   have KK := Hd (K1.out.trans (K2.out.trans kk))
   have OO := Hd (own_mono own5 hsz)
   clear kk own5
   go_wp2
   go_ret
   exact ⟨_, rfl, OO.out, KK.out⟩
theorem sh_out {l : List R} (h : sane l) {k : Int} (hk : k < -2199023255552 ∨ 2199023255552 < k) : nf (shR k k l) = [] := by
 refine nf_eq trivial fun n => ⟨fun g => absurd g (memR_nil n), ?_⟩
 rintro ⟨r, hr, g1, g2, g3, g4⟩
 unfold shR at hr
 simp only [List.mem_map] at hr
 obtain ⟨q, hq, rfl⟩ := hr
 obtain ⟨o1, o2, o3⟩ := sane_ok h q hq
 simp only at g1 g2
 exfalso; omega
theorem shift_any (v : Value) (l : List R) (k : Int) (w : World) (hv : RunsAt w v l) (hl : I64R l) (hn : l.length ≤ 1000000) :
  Calls Tryz.prog 115 #[v, .int .i64 k] w fun e w' => ∃ v' : Value, e = .returned v' ∧ w'.ownsRow w.heap.size 42 2 v' (nf (shR k k (nf l))).length (cellsR (nf (shR k k (nf l)))) ∧ Kp w w' := by
 by_cases h1 : 2199023255552 < k
 ·have q1 : decide (2199023255552 < k) = true := decide_eq_true h1
  rw [sh_out (nf_sane l) (.inr h1)]
  clear hv
  go_enter Tryz.func115, Tryz.ntmps115
  go_wp2
  go_ret
  exact ⟨_, rfl, World.ownsRow_nil _ _ _ _, Kp.refl _⟩
 ·have q1 : decide (2199023255552 < k) = false := decide_eq_false h1
  by_cases h2 : k < -2199023255552
  ·have q2 : decide (k < -2199023255552) = true := decide_eq_true h2
   rw [sh_out (nf_sane l) (.inl h2)]
   clear hv
   go_enter Tryz.func115, Tryz.ntmps115
   go_wp2
   go_ret
   exact ⟨_, rfl, World.ownsRow_nil _ _ _ _, Kp.refl _⟩
  ·have q2 : decide (k < -2199023255552) = false := decide_eq_false h2
   have C := Hd (moved_any v l k k w hv hl hn (by omega) (by omega) (by omega) (by omega))
   clear hv
   go_enter Tryz.func115, Tryz.ntmps115
   go_wp2_with fail
   refine (C.out).mono ?_
   rintro e w1 ⟨v1, rfl, own1, kk⟩
   have O := Hd own1
   have K := Hd kk
   clear own1 kk
   go_wp2
   go_ret
   exact ⟨_, rfl, O.out, K.out⟩
theorem wide_any (v : Value) (l : List R) (w : World) (hv : RunsAt w v l) (hl : I64R l) (hn : l.length ≤ 1000000) :
  Calls Tryz.prog 80 #[v] w fun e w' => e = .returned (.bool (decide (400 < (nf l).length))) ∧ Kp w w' := by
 have C := Hd (make_any v l w hv hl hn)
 clear hv hl
 generalize nf l = L at *
 have E : Hid (decide ((400 : Int) < (L.length : Int)) = decide (400 < L.length)) := by
  unfold Hid
  have : ((400 : Int) < (L.length : Int)) ↔ 400 < L.length := by omega
  simp only [this]
 go_enter Tryz.func80, Tryz.ntmps80
 go_wp2_with fail
 refine (C.out).mono ?_
 rintro e w1 ⟨v1, rfl, own1, kk⟩
 obtain ⟨ad, c, rfl⟩ := (runsAt_own own1).slice
 have K := Hd kk
 clear own1 kk C
 go_wp2
 go_ret
 exact ⟨ret_bool E.out, K.out⟩
theorem hasB_nf (l : List R) (n : Int) : hasB (nf l) n = true ↔ memR l n := by
 rw [has_sane (nf_sane l) n, ← nf_mem l n]
 constructor
 ·rintro ⟨r, hr, h⟩
  have := sane_ok (nf_sane l) r hr
  obtain ⟨o1, o2, o3⟩ := this
  exact ⟨r, hr, h.1, h.2, by omega, by omega⟩
 ·rintro ⟨r, hr, h⟩
  exact ⟨r, hr, h.1, h.2.1⟩
def inn (L : List R) (k : Nat) (n : Int) : Prop := (at_ L k).1 ≤ n ∧ n ≤ (at_ L k).2
theorem memI {L : List R} (h : sane L) (n : Int) : memR L n ↔ ∃ k, k < L.length ∧ inn L k n := by
 constructor
 ·rintro ⟨r, hr, g1, g2, _⟩
  obtain ⟨i, hi, e⟩ := List.getElem_of_mem hr
  refine ⟨i, hi, ?_⟩
  unfold inn at_
  simp [List.getD, hi, e]
  exact ⟨g1, g2⟩
 ·rintro ⟨k, hk, g1, g2⟩
  obtain ⟨o1, o2, o3⟩ := sane_ok h _ (at_mem hk)
  exact ⟨_, at_mem hk, g1, g2, by omega, by omega⟩
theorem gapI {L : List R} (h : sane L) : ∀ {j k : Nat}, j < k → k < L.length → (at_ L j).2 + 1 < (at_ L k).1 := by
 intro j k hjk hk
 induction k with
 | zero => omega
 | succ k ih =>
  have g := ((sane_idx L).1 h (k + 1) hk).2 (by omega)
  simp only [Nat.add_sub_cancel] at g
  by_cases e : j = k
  ·subst e; exact g
  ·have := ih (by omega) (by omega)
   have o := ((sane_idx L).1 h k (by omega)).1.1
   omega
theorem okI {L : List R} (h : sane L) {k : Nat} (hk : k < L.length) : okR (at_ L k) := ((sane_idx L).1 h k hk).1
structure MI (A B : List R) (i a : Nat) (out : List R) : Prop where
 s : sane out
 m : ∀ n, memR out n ↔ (∃ k, k < i ∧ inn A k n ∧ memR B n) ∨ (inn A i n ∧ ∃ j, j < a ∧ inn B j n)
 g : ∀ q ∈ out, (∃ j, j < a ∧ q.2 ≤ (at_ B j).2) ∨ (∃ k, k < i ∧ q.2 ≤ (at_ A k).2)
 b : ∀ j, j < a → (at_ B j).2 ≤ (at_ A i).2
structure MO (A B : List R) (i a : Nat) (out : List R) : Prop where
 s : sane out
 m : ∀ n, memR out n ↔ ∃ k, k < i ∧ inn A k n ∧ memR B n
 g : ∀ q ∈ out, (∃ j, j < a ∧ q.2 ≤ (at_ B j).2) ∨ (∃ k, k < i ∧ q.2 ≤ (at_ A k).2)
 b : ∀ j, j < a → ∃ k, k < i ∧ (at_ B j).2 ≤ (at_ A k).2
section
variable {A B : List R} (hA : sane A) (hB : sane B)
theorem MO.start : MO A B 0 0 [] := ⟨trivial, fun n => ⟨fun h => absurd h (memR_nil n), fun ⟨k, h, _⟩ => by omega⟩, fun q h => (by cases h), fun j h => by omega⟩
include hA in
theorem MO.inner {i a : Nat} {out : List R} (h : MO A B i a out) (hi : i < A.length) : MI A B i a out := by
 refine ⟨h.s, fun n => ?_, h.g, fun j hj => ?_⟩
 ·rw [h.m]
  refine ⟨.inl, fun g => g.elim id ?_⟩
  rintro ⟨⟨g1, g2⟩, j, hj, _, g4⟩
  obtain ⟨k, hk, g5⟩ := h.b j hj
  have := gapI hA hk hi
  omega
 ·obtain ⟨k, hk, g5⟩ := h.b j hj
  have := gapI hA hk hi
  have := (okI hA hi).1
  omega
include hA hB in
theorem MI.past {i a : Nat} {out : List R} (h : MI A B i a out) (hi : i < A.length) (ha : a < B.length) (c : (at_ A i).2 < (at_ B a).1) : MO A B (i + 1) a out := by
 have _ := hA
 refine ⟨h.s, fun n => ?_, fun q hq => (h.g q hq).imp id (fun ⟨k, hk, g⟩ => ⟨k, by omega, g⟩), fun j hj => ⟨i, by omega, h.b j hj⟩⟩
 rw [h.m]
 constructor
 ·rintro (⟨k, hk, g⟩ | ⟨g, j, hj, g2⟩)
  ·exact ⟨k, by omega, g⟩
  ·exact ⟨i, by omega, g, (memI hB n).2 ⟨j, by omega, g2⟩⟩
 ·rintro ⟨k, hk, g, g2⟩
  by_cases e : k < i
  ·exact .inl ⟨k, e, g, g2⟩
  ·obtain rfl : k = i := by omega
   obtain ⟨j, hj, g3⟩ := (memI hB n).1 g2
   refine .inr ⟨g, j, ?_, g3⟩
   rcases Nat.lt_or_ge j a with q | q
   ·exact q
   ·exfalso
    have h1 := g.2
    have h2 := g3.1
    by_cases e2 : j = a
    ·subst e2; omega
    ·have := gapI hB (show a < j by omega) hj
     have := (okI hB ha).1
     omega
include hA hB in
theorem MI.put {i a : Nat} {out : List R} (h : MI A B i a out) (hi : i < A.length) (ha : a < B.length) (c1 : (at_ B a).1 ≤ (at_ A i).2) (c2 : (at_ A i).1 ≤ (at_ B a).2) :
  sane (out ++ [(max (at_ A i).1 (at_ B a).1, min (at_ A i).2 (at_ B a).2)]) ∧
  (∀ n, memR (out ++ [(max (at_ A i).1 (at_ B a).1, min (at_ A i).2 (at_ B a).2)]) n ↔ (∃ k, k < i ∧ inn A k n ∧ memR B n) ∨ (inn A i n ∧ ∃ j, j < a + 1 ∧ inn B j n)) := by
 obtain ⟨o1, o2, o3⟩ := okI hA hi
 obtain ⟨p1, p2, p3⟩ := okI hB ha
 have ok : okR (max (at_ A i).1 (at_ B a).1, min (at_ A i).2 (at_ B a).2) := ⟨by simp only; omega, by simp only; omega, by simp only; omega⟩
 refine ⟨sane_snoc.2 ⟨h.s, ok, fun b q e => ?_⟩, fun n => ?_⟩
 ·simp only
  rcases h.g q (by rw [e]; simp) with ⟨j, hj, g⟩ | ⟨k, hk, g⟩
  ·have := gapI hB hj ha; omega
  ·have := gapI hA hk hi; omega
 ·rw [memR_append, h.m, memR_cons]
  have := memR_nil n
  simp only
  constructor
  ·rintro ((g | ⟨g, j, hj, g2⟩) | g | g)
   ·exact .inl g
   ·exact .inr ⟨g, j, by omega, g2⟩
   ·exact .inr ⟨⟨by omega, by omega⟩, a, by omega, ⟨by omega, by omega⟩⟩
   ·exact absurd g this
  ·rintro (g | ⟨g, j, hj, g2⟩)
   ·exact .inl (.inl g)
   ·by_cases e : j < a
    ·exact .inl (.inr ⟨g, j, e, g2⟩)
    ·obtain rfl : j = a := by omega
     exact .inr (.inl ⟨by have := g.1; have := g2.1; omega, by have := g.2; have := g2.2; omega, by have := g.1; omega, by have := g.2; omega⟩)
include hA hB in
theorem MI.skip {i a : Nat} {out : List R} (h : MI A B i a out) (hi : i < A.length) (ha : a < B.length) (c2 : (at_ B a).2 < (at_ A i).1) :
  ∀ n, memR out n ↔ (∃ k, k < i ∧ inn A k n ∧ memR B n) ∨ (inn A i n ∧ ∃ j, j < a + 1 ∧ inn B j n) := by
 have _ := hA
 have _ := hB
 intro n
 rw [h.m]
 constructor
 ·rintro (g | ⟨g, j, hj, g2⟩)
  ·exact .inl g
  ·exact .inr ⟨g, j, by omega, g2⟩
 ·rintro (g | ⟨g, j, hj, g2⟩)
  ·exact .inl g
  ·by_cases e : j < a
   ·exact .inr ⟨g, j, e, g2⟩
   ·obtain rfl : j = a := by omega
    exfalso
    have := g.1; have := g2.2; omega
include hA hB in
theorem MI.next {i a : Nat} {out out' : List R} (h : MI A B i a out) (hi : i < A.length) (ha : a < B.length) (c : (at_ B a).2 ≤ (at_ A i).2) (hs : sane out')
  (hm : ∀ n, memR out' n ↔ (∃ k, k < i ∧ inn A k n ∧ memR B n) ∨ (inn A i n ∧ ∃ j, j < a + 1 ∧ inn B j n)) (hq : ∀ q ∈ out', q ∈ out ∨ q.2 ≤ (at_ B a).2) : MI A B i (a + 1) out' := by
 have _ := hA
 have _ := hB
 refine ⟨hs, hm, fun q h2 => ?_, fun j hj => ?_⟩
 ·rcases hq q h2 with g | g
  ·exact (h.g q g).imp (fun ⟨j, hj, g⟩ => ⟨j, by omega, g⟩) id
  ·exact .inl ⟨a, by omega, g⟩
 ·by_cases e : j < a
  ·exact h.b j e
  ·obtain rfl : j = a := by omega
   exact c
include hA hB in
theorem MI.over {i a : Nat} {out out' : List R} (h : MI A B i a out) (hi : i < A.length) (ha : a < B.length) (c : (at_ A i).2 < (at_ B a).2) (hs : sane out')
  (hm : ∀ n, memR out' n ↔ (∃ k, k < i ∧ inn A k n ∧ memR B n) ∨ (inn A i n ∧ ∃ j, j < a + 1 ∧ inn B j n)) (hq : ∀ q ∈ out', q ∈ out ∨ q.2 ≤ (at_ A i).2) : MO A B (i + 1) a out' := by
 have _ := hA
 refine ⟨hs, fun n => ?_, fun q h2 => ?_, fun j hj => ⟨i, by omega, h.b j hj⟩⟩
 ·rw [hm]
  constructor
  ·rintro (⟨k, hk, g⟩ | ⟨g, j, hj, g2⟩)
   ·exact ⟨k, by omega, g⟩
   ·exact ⟨i, by omega, g, (memI hB n).2 ⟨j, by omega, g2⟩⟩
  ·rintro ⟨k, hk, g, g2⟩
   by_cases e : k < i
   ·exact .inl ⟨k, e, g, g2⟩
   ·obtain rfl : k = i := by omega
    obtain ⟨j, hj, g3⟩ := (memI hB n).1 g2
    refine .inr ⟨g, j, ?_, g3⟩
    rcases Nat.lt_or_ge j (a + 1) with q | q
    ·exact q
    ·exfalso
     have h1 := g.2
     have h2 := g3.1
     have := gapI hB (show a < j by omega) hj
     omega
 ·rcases hq q h2 with g | g
  ·exact (h.g q g).imp id (fun ⟨k, hk, g⟩ => ⟨k, by omega, g⟩)
  ·exact .inr ⟨i, by omega, g⟩
include hA hB in
theorem MI.done {i : Nat} {out : List R} (h : MI A B i B.length out) (hi : i < A.length) (n : Int) : memR out n ↔ memR A n ∧ memR B n := by
 rw [h.m, memI hA]
 constructor
 ·rintro (⟨k, hk, g, g2⟩ | ⟨g, j, hj, g2⟩)
  ·exact ⟨⟨k, by omega, g⟩, g2⟩
  ·exact ⟨⟨i, hi, g⟩, (memI hB n).2 ⟨j, hj, g2⟩⟩
 ·rintro ⟨⟨k, hk, g⟩, g2⟩
  obtain ⟨j, hj, g3⟩ := (memI hB n).1 g2
  by_cases e : k < i
  ·exact .inl ⟨k, e, g, g2⟩
  ·by_cases e2 : k = i
   ·subst e2; exact .inr ⟨g, j, hj, g3⟩
   ·exfalso
    have := gapI hA (show i < k by omega) hk
    have := h.b j hj
    have h1 := g.1
    have h2 := g3.2
    omega
include hA in
theorem MO.done {a : Nat} {out : List R} (h : MO A B A.length a out) (n : Int) : memR out n ↔ memR A n ∧ memR B n := by
 rw [h.m, memI hA]
 exact ⟨fun ⟨k, hk, g, g2⟩ => ⟨⟨k, hk, g⟩, g2⟩, fun ⟨⟨k, hk, g⟩, g2⟩ => ⟨k, hk, g, g2⟩⟩
end
def interR (a b : List R) : List R := nf (a.flatMap fun r => b.map fun s => (max r.1 s.1, min r.2 s.2))
theorem interR_mem (a b : List R) (n : Int) : memR (interR a b) n ↔ memR a n ∧ memR b n := by
 unfold interR
 rw [nf_mem]
 unfold memR
 constructor
 ·rintro ⟨r, hr, g1, g2, g3⟩
  simp only [List.mem_flatMap, List.mem_map] at hr
  obtain ⟨x, hx, y, hy, rfl⟩ := hr
  simp only at g1 g2
  exact ⟨⟨x, hx, by omega, by omega, g3⟩, ⟨y, hy, by omega, by omega, g3⟩⟩
 ·rintro ⟨⟨x, hx, g1, g2, g3⟩, ⟨y, hy, g4, g5, _⟩⟩
  refine ⟨(max x.1 y.1, min x.2 y.2), ?_, by simp only; omega, by simp only; omega, g3⟩
  simp only [List.mem_flatMap, List.mem_map]
  exact ⟨x, hx, y, hy, rfl⟩
theorem interR_sane (a b : List R) : sane (interR a b) := nf_sane _
theorem mixedS : Tryz.prog.follows .mixedOrders = true := by kernel_rfl
theorem cell_one_at (w : World) (a b : Value) (t : TypeId) : ∀ j u, [a, b][j]? = some u → (w.drew.alloc (.cells #[a, b] t)).cell? ((⟨w.heap.size, 0, none⟩ : Addr).add j) = some u := by
 have h := cell_two_new w.drew a b t
 simpa using h
theorem meet_any (v u : Value) (l m : List R) (w : World) (hv : RunsAt w v l) (hu : RunsAt w u m) (hl : I64R l) (hm : I64R m) (hn : l.length ≤ 1000000) (hn2 : m.length ≤ 1000000) :
  Calls Tryz.prog 78 #[v, u] w fun e w' => ∃ v' : Value, e = .returned v' ∧ w'.ownsRow w.heap.size 42 2 v' (interR l m).length (cellsR (interR l m)) ∧ Kp w w' := by
 obtain ⟨i0, hi, hz0, hz1, hz2⟩ := info_parts infoR
 have mx := mixedS
 have C1 := Hd (fun w' (k : Kp w w') => make_any v l w' (hv.kp k) hl hn)
 have C2 := Hd (fun w' (k : Kp w w') => make_any u m w' (hu.kp k) hm hn2)
 have nlA := nf_len l
 have nlB := nf_len m
 have SA := Hd (nf_sane l)
 have SB := Hd (nf_sane m)
 have FIN := Hd (show ∀ out, sane out → (∀ n, memR out n ↔ memR (nf l) n ∧ memR (nf m) n) → out = interR l m from fun out h1 h2 => sane_ext h1 (interR_sane l m) (fun n => by rw [h2, interR_mem, nf_mem, nf_mem]))
 have lA : (nf l).length ≤ 1000000 := by omega
 have lB : (nf m).length ≤ 1000000 := by omega
 clear hv hu hl hm nlA nlB hn hn2
 generalize nf l = A at *
 generalize nf m = B at *
 generalize interR l m = RES at *
 go_enter Tryz.func78, Tryz.ntmps78
 go_wp2
 go_step3
 go_wp2_with fail
 refine (C1.out _ (Kp.refl _)).mono ?_
 rintro e w1 ⟨v1, rfl, own1, k2⟩
 have C3 := Hd (C2.out w1 k2)
 clear C2
 go_wp2_with fail
 refine (C3.out).mono ?_
 rintro e w2 ⟨v2, rfl, own2, kk2⟩
 have R1 := Hd (runsAt_own own1)
 have K2 := Hd (k2.trans kk2)
 have R2 := Hd (runsAt_own own2)
 have R1' := Hd (R1.out.kp kk2)
 obtain ⟨ad1, c1, rfl⟩ := R1.out.slice
 obtain ⟨ad2, c2, rfl⟩ := R2.out.slice
 clear own1 own2 kk2 k2 C1 C3 R1
 go_wp2
 go_step3
 go_wp2
 go_loopw [5, 6, 8, 15] (fun u5 u6 u8 u15 wr => ∃ (i a : Nat) (out : List R), i ≤ A.length ∧ a ≤ B.length ∧ u6 = .int .i64 a ∧ u15 = .int .i64 i ∧ Hid (MO A B i a out) ∧ out.length ≤ i + a ∧
  Hid (wr.ownsRow w2.heap.size 42 2 u5 out.length (cellsR out)) ∧ Hid (Kp w2 wr)) (fun _ _ _ u15 _ => A.length - (intOf u15).toNat)
 case atStart => exact ⟨0, 0, [], by omega, by omega, rfl, rfl, Hd MO.start, by simp, Hd (World.ownsRow_nil _ _ _ _), Hd (Kp.refl _)⟩
 case round =>
  obtain ⟨wo, hwo⟩ : ∃ x : World, x = wr := ⟨wr, rfl⟩
  subst hwo
  obtain ⟨i, a, out, hiA, haB, rfl, rfl, MOO, hlen, O, K3⟩ := hrel
  by_cases hlt : i < A.length
  ·rcases R1'.out with ⟨_, _, _, e⟩ | ⟨b1, off1, cap1, ev, hc, hm, hx⟩
   ·rw [e] at hlt; simp at hlt
   cases ev
   obtain ⟨d1, d2⟩ := rd_at hx K3.out i hlt
   clear hx hc hm
   obtain ⟨rl, rh, ee⟩ : ∃ x y, at_ A i = (x, y) := ⟨_, _, rfl⟩
   rw [ee] at d1 d2
   simp only at d1 d2
   have EA := Hd ee
   clear ee
   have z0 : (0 : Int) ≤ (i : Int) := by omega
   have z1 : (i : Int) < (A.length : Int) := by omega
   have hsz := K3.out.size
   have INN := Hd (MOO.out.inner SA.out hlt)
   have OA := okI SA.out hlt
   rw [EA.out] at OA
   obtain ⟨oa1, oa2, oa3⟩ := OA
   simp only at oa1 oa2 oa3
   go_wp2
   go_loopw [5, 6] (fun u5 u6 wq => ∃ (a' : Nat) (out' : List R), a' ≤ B.length ∧ u6 = .int .i64 a' ∧ Hid (MI A B i a' out') ∧ out'.length ≤ i + a' ∧ Hid (wq.ownsRow w2.heap.size 42 2 u5 out'.length (cellsR out')) ∧ Hid (Kp w2 wq) ∧
    wq.cell? ⟨wo.heap.size, 0, none⟩ = some (.int .i64 rl) ∧ wq.cell? ⟨wo.heap.size, 1, none⟩ = some (.int .i64 rh) ∧ Hid (∀ j, u5.ownBlock = some j → j ≠ wo.heap.size) ∧ wo.heap.size < wq.heap.size) (fun _ u6 _ => B.length - (intOf u6).toNat)
   case atStart => exact ⟨a, out, haB, rfl, INN, hlen, Hd (O.out.alloc _), Hd (K3.out.trans (Kp.alloc _ _)), by simp, by simp, Hd (fun j hj => by have := (O.out.lt j hj).2; omega), by simp⟩
   case round =>
    obtain ⟨wq, hwq⟩ : ∃ x : World, x = wr := ⟨wr, rfl⟩
    subst hwq
    clear d1 d2 INN MOO O hlen haB
    obtain ⟨a', out', haB, rfl, INN, hlen, O, K4, x0, x1, NE, xs⟩ := hrel
    by_cases hla : a' < B.length
    ·rcases R2.out with ⟨_, _, _, e⟩ | ⟨b2, off2, cap2, ev, hc, hm, hx⟩
     ·rw [e] at hla; simp at hla
     cases ev
     obtain ⟨d1, d2⟩ := rd_at hx K4.out a' hla
     have RD := Hd (fun w' (kk : Kp w2 w') => rd_at hx kk a' hla)
     clear hx hc hm
     have PAST := Hd (INN.out.past SA.out SB.out hlt hla)
     have PUT := Hd (INN.out.put SA.out SB.out hlt hla)
     have SKIP := Hd (INN.out.skip SA.out SB.out hlt hla)
     have NEXT := Hd (fun out' => INN.out.next (out' := out') SA.out SB.out hlt hla)
     have OVER := Hd (fun out' => INN.out.over (out' := out') SA.out SB.out hlt hla)
     have SO := Hd INN.out.s
     have OB := okI SB.out hla
     obtain ⟨bl, bh, ee⟩ : ∃ x y, at_ B a' = (x, y) := ⟨_, _, rfl⟩
     rw [ee] at d1 d2 PAST PUT SKIP NEXT OVER OB RD
     rw [EA.out] at PAST PUT SKIP NEXT OVER
     simp only at d1 d2 PAST PUT SKIP NEXT OVER RD
     obtain ⟨ob1, ob2, ob3⟩ := OB
     simp only at ob1 ob2 ob3
     clear ee INN
     have y0 : (0 : Int) ≤ (a' : Int) := by omega
     have y1 : (a' : Int) < (B.length : Int) := by omega
     have hsq := K4.out.size
     have KS := Hd (fun w' (kk : Kp wq w') => (show w'.cell? ⟨wo.heap.size, 0, none⟩ = some (.int .i64 rl) ∧ w'.cell? ⟨wo.heap.size, 1, none⟩ = some (.int .i64 rh) ∧ w'.cell? ⟨b2, off2 + a' * 2, none⟩ = some (.int .i64 bl) ∧ w'.cell? ⟨b2, off2 + a' * 2 + 1, none⟩ = some (.int .i64 bh) from
      ⟨(kk.cell (p := ⟨wo.heap.size, 0, none⟩) xs).trans x0, (kk.cell (p := ⟨wo.heap.size, 1, none⟩) xs).trans x1, RD.out _ (K4.out.trans kk)⟩))
     have KG := Hd (fun ws w' (kk : Kp wq ws) (g : ws.grownBy w' u5.ownBlock) => (show (w'.cell? ⟨wo.heap.size, 0, none⟩ = some (.int .i64 rl) ∧ w'.cell? ⟨wo.heap.size, 1, none⟩ = some (.int .i64 rh) ∧ w'.cell? ⟨b2, off2 + a' * 2, none⟩ = some (.int .i64 bl) ∧ w'.cell? ⟨b2, off2 + a' * 2 + 1, none⟩ = some (.int .i64 bh)) ∧ Kp w2 w' from
      have k5 : Kp w2 w' := Kp.grown (K4.out.trans kk) g (fun j hj => (O.out.lt j hj).1)
      have xs2 : wo.heap.size < ws.heap.size := Nat.lt_of_lt_of_le xs kk.size
      ⟨⟨(grown_cell g xs2 NE.out).trans ((kk.cell (p := ⟨wo.heap.size, 0, none⟩) xs).trans x0), (grown_cell g xs2 NE.out).trans ((kk.cell (p := ⟨wo.heap.size, 1, none⟩) xs).trans x1), RD.out _ k5⟩, k5⟩))
     by_cases c1 : rh < bl
     ·have q1 : decide (rh < bl) = true := decide_eq_true c1
      have F := Hd (PAST.out c1)
      go_wp2_with fail
      go_quiet (fail)
      go_wp2
      refine ⟨⟨i + 1, a', out', by omega, by omega, rfl, by go_num, F, by omega, O, Hd (K4.out.trans (by first | exact Kp.drew _ | exact Kp.drewN _ _))⟩, by simp only [intOf]; omega⟩
     ·have q1 : decide (rh < bl) = false := decide_eq_false c1
      have c1' : bl ≤ rh := by omega
      go_wp2_with fail
      go_quiet (fail)
      clear x0 x1 d1 d2
      have KQ0 := Hd (Kp.drewN wq nq)
      generalize wq.drewN nq = wx at KQ0 ⊢
      obtain ⟨x0, x1, d1, d2⟩ := KS.out _ KQ0.out
      go_upto_if 40 with (go_quiet (fail))
      clear x0 x1 d1 d2
      have KQ := Hd (KQ0.out.trans (Kp.drewN wx nq))
      have O2 := Hd (own_kp O.out KQ.out)
      generalize wx.drewN nq = wy at KQ O2 ⊢
      have hsy := Nat.le_trans hsq KQ.out.size
      clear KQ0 PAST
      go_cut [5] from 40 to 60 (fun v5 w' => ∃ out'' : List R, Hid (sane out'') ∧ Hid (∀ n, memR out'' n ↔ (∃ k, k < i ∧ inn A k n ∧ memR B n) ∨ (inn A i n ∧ ∃ j, j < a' + 1 ∧ inn B j n)) ∧ Hid (∀ q ∈ out'', q ∈ out' ∨ (q.2 ≤ bh ∧ q.2 ≤ rh)) ∧ out''.length ≤ out'.length + 1 ∧
       Hid (w'.ownsRow w2.heap.size 42 2 v5 out''.length (cellsR out'')) ∧ Hid (∀ j, v5.ownBlock = some j → j ≠ wo.heap.size) ∧ wo.heap.size < w'.heap.size ∧
       Hid ((w'.cell? ⟨wo.heap.size, 0, none⟩ = some (.int .i64 rl) ∧ w'.cell? ⟨wo.heap.size, 1, none⟩ = some (.int .i64 rh) ∧ w'.cell? ⟨b2, off2 + a' * 2, none⟩ = some (.int .i64 bl) ∧ w'.cell? ⟨b2, off2 + a' * 2 + 1, none⟩ = some (.int .i64 bh)) ∧ Kp w2 w'))
      case first =>
       by_cases c2 : rl ≤ bh
       ·have q2 : decide (rl ≤ bh) = true := decide_eq_true c2
        obtain ⟨F1, F2⟩ := PUT.out c1' c2
        have FF1 := Hd F1
        have FF2 := Hd F2
        clear F1 F2 SKIP PUT
        obtain ⟨x0, x1, d1, d2⟩ := KS.out _ KQ.out
        have xsy : wo.heap.size < wy.heap.size := Nat.lt_of_lt_of_le xs KQ.out.size
        go_wp2_with fail
        go_region_held3 (fun w' => w'.cell? ⟨wo.heap.size, 0, none⟩ = some (.int .i64 rl) ∧ w'.cell? ⟨wo.heap.size, 1, none⟩ = some (.int .i64 rh) ∧ w'.cell? ⟨b2, off2 + a' * 2, none⟩ = some (.int .i64 bl) ∧ w'.cell? ⟨b2, off2 + a' * 2 + 1, none⟩ = some (.int .i64 bh))
         (first | assumption | exact KS.out _ (KQ.out.trans (by first | exact Kp.drew _ | exact Kp.drewN _ _ | exact (Kp.drew _).trans (Kp.alloc _ _) | exact (Kp.drewN _ _).trans (Kp.alloc _ _))))
         (first | (refine step_append_lies _ rfl (.tmp 41) (.tmp 59) 34 rfl w2.heap.size 42 i0 (.agg #[.int .i64 0, .int .i64 0]) 2 16 Tryz.underlying34 hi hz0 hz1 hz2 rfl (by decide) u5 out'.length (cellsR out') (by simp [Act.eval, Act.put]) (World.ownsRow.alloc O2.out _) ⟨wy.heap.size, 0, none⟩ 1 1 [.int .i64 (max rl bl), .int .i64 (min rh bh)] (by simp [Act.eval, Act.put]) rfl (cell_one_at _ _ _ _) (by intro u hu; simp at hu; rcases hu with rfl | rfl <;> rfl) (by decide) (by unfold maxLen; omega) (by omega) (by simp; omega) _ rfl ?_; intro g4 cap4 w4 hown4 hgrow4 hat4 hlt4; have kg4 := KG.out _ _ (KQ.out.trans ((Kp.drew _).trans (Kp.alloc _ _))) hgrow4; have kg5 := kg4.1; have kg6 := kg4.2))
        all_goals go_wp2
        all_goals go_meet
        all_goals exact ⟨out' ++ [(max rl bl, min rh bh)], FF1, FF2, Hd (fun q hq => (List.mem_append.1 hq).imp id (fun h => by rw [List.mem_singleton] at h; subst h; exact ⟨by simp only; omega, by simp only; omega⟩)), by simp, Hd (own_snoc hown4), Hd (fun j hj => by
         have e := Option.some.inj hj
         rcases hat4 with h | h
         ·exact NE.out j (by rw [h]; exact hj)
         ·have e2 : g4 = j := e
          rw [← e2, h]
          simp
          omega), (by have := hgrow4.size; simp at this; omega), Hd kg4⟩
       ·have q2 : decide (rl ≤ bh) = false := decide_eq_false c2
        go_wp2
        go_meet
        case rel => exact ⟨out', SO, Hd (SKIP.out (by omega)), Hd (fun q hq => .inl hq), by omega, O2, NE, Nat.lt_of_lt_of_le xs KQ.out.size, Hd ⟨KS.out _ KQ.out, K4.out.trans KQ.out⟩⟩
      case rest =>
       obtain ⟨o3, G1, G2, G3, l3, O3, NE3, xs3, S3⟩ := hcut
       clear NE O2 KS KG SKIP PUT KQ O
       obtain ⟨x0, x1, d1, d2⟩ := S3.out.1
       by_cases c3 : rh < bh
       ·have q3 : decide (rh < bh) = true := decide_eq_true c3
        have F := Hd (OVER.out o3 c3 G1.out G2.out (fun q hq => (G3.out q hq).imp id (fun h => h.2)))
        go_wp2_with fail
        go_quiet (fail)
        go_wp2
        refine ⟨⟨i + 1, a', o3, by omega, by omega, rfl, by go_num, F, by omega, own_kp O3.out (by first | exact Kp.drew _ | exact Kp.drewN _ _), Hd (S3.out.2.trans (by first | exact Kp.drew _ | exact Kp.drewN _ _))⟩, by simp only [intOf]; omega⟩
       ·have q3 : decide (rh < bh) = false := decide_eq_false c3
        have F := Hd (NEXT.out o3 (by omega) G1.out G2.out (fun q hq => (G3.out q hq).imp id (fun h => h.1)))
        go_wp2_with fail
        go_quiet (fail)
        go_wp2
        refine ⟨⟨a' + 1, o3, by omega, by go_num, F, by omega, own_kp O3.out (by first | exact Kp.drew _ | exact Kp.drewN _ _), Hd (S3.out.2.trans (by first | exact Kp.drew _ | exact Kp.drewN _ _)), x0, x1, NE3, xs3⟩, by simp only [intOf]; omega⟩
    ·obtain rfl : a' = B.length := by omega
     have q0 : decide ((B.length : Int) < B.length) = false := by simp
     have E := FIN.out out' INN.out.s (fun n => INN.out.done SA.out SB.out hlt n)
     subst E
     go_wp2
     try rw [Exit.noGoto_ret]
     go_ret
     exact ⟨_, rfl, own_mono O.out K2.out.size, K2.out.trans K4.out⟩
  ·obtain rfl : i = A.length := by omega
   have q0 : decide ((A.length : Int) < A.length) = false := by simp
   have E := FIN.out out MOO.out.s (fun n => MOO.out.done SA.out n)
   subst E
   go_wp2
   try rw [Exit.noGoto_ret]
   go_ret
   exact ⟨_, rfl, own_mono O.out K2.out.size, K2.out.trans K3.out⟩
section
variable {A B : List R}
end
end Go.Proofs.YtcooaoponkkpeaaGreatDoor
