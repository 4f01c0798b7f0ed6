/-
  Joined: SetsA, L4B, SetsM, SetsB, SetsN, SetsC.
-/
import Derived.Test.YtinpglfclbnhlaaGreatDoorGSetA
import Derived.StillTailTactics
import Derived.Test.YtinpglfclbnhlaaGreatDoorGBa
import Derived.Deep.RegionHeld3
namespace Go.Proofs.YtinpglfclbnhlaaGreatDoor
open Go.RowKit
set_option linter.unusedVariables false
set_option linter.unusedSimpArgs false
theorem RunsAt.len {w : World} {v : Value} {l : List R} (h : RunsAt w v l) : l.length ≤ maxLen := by
  rcases h with ⟨ad, cp, rfl, rfl⟩ | ⟨b, off, cap, rfl, h1, h2, _⟩
  · simp
  · omega
theorem one_src2 (w : World) (o : Obj) (lo hi' : Int) (t : TypeId) : SrcAt ((w.alloc o).alloc (.cells #[.int .i64 lo, .int .i64 hi'] t)) (.slice (some ⟨w.heap.size + 1, 0, none⟩) 1 1) 1 [.int .i64 lo, .int .i64 hi'] := by
  have h := one_src (w.alloc o) lo hi' t
  simpa using h
/-- each run, moved -/
def shR (a b : Int) (l : List R) : List R := l.map fun r => (r.1 + a, r.2 + b)
theorem shR_len (a b : Int) (l : List R) : (shR a b l).length = l.length := by unfold shR; simp
theorem shR_take (a b : Int) (l : List R) (k : Nat) (h : k < l.length) : shR a b (l.take (k + 1)) = shR a b (l.take k) ++ [((at_ l k).1 + a, (at_ l k).2 + b)] := by
  rw [take_at l k h]; unfold shR; simp
theorem shR_i64 {a b : Int} {l : List R} (h : ∀ r ∈ l, okR r) (a1 : -2199023255552 ≤ a) (a2 : a ≤ 2199023255552) (b1 : -2199023255552 ≤ b) (b2 : b ≤ 2199023255552) : I64R (shR a b l) := by
  intro r hr
  unfold shR at hr
  simp only [List.mem_map] at hr
  obtain ⟨q, hq, rfl⟩ := hr
  obtain ⟨o1, o2, o3⟩ := h q hq
  simp only
  omega
set_option maxHeartbeats 2000000 in
set_option maxRecDepth 100000 in
theorem moved_any (v : Value) (l : List R) (a b : Int) (w : World) (hv : RunsAt w v l) (hl : I64R l) (hn : l.length ≤ 1000000) (a1 : -2199023255552 ≤ a) (a2 : a ≤ 2199023255552) (b1 : -2199023255552 ≤ b) (b2 : b ≤ 2199023255552) :
    Calls Tryz.prog 48 #[v, .int .i64 a, .int .i64 b] w fun e w' => ∃ v' : Value, e = .returned v' ∧ w'.ownsRow w.heap.size 37 2 v' (nf (shR a b (nf l))).length (cellsR (nf (shR a b (nf l)))) ∧ Kp w w' := by
  obtain ⟨i0, hi, hz0, hz1, hz2⟩ := info_parts infoR
  have C1 := Lib.hid (make_any v l w hv hl hn)
  have nl := nf_len l
  have OK := Lib.hid (sane_ok (nf_sane l))
  have SI := Lib.hid (shR_i64 OK.out a1 a2 b1 b2)
  have hL : (nf l).length ≤ 1000000 := by omega
  clear hv hl nl hn
  generalize nf l = L at *
  go_enter Tryz.func48, Tryz.ntmps48
  go_wp2_with fail
  refine (C1.out).mono ?_
  rintro e w1 ⟨v1, rfl, own1, kk⟩
  have K1 := Lib.hid kk
  have R1 := Lib.hid (runsAt_own own1)
  obtain ⟨ad1, c1, rfl⟩ := R1.out.slice
  clear own1 kk C1
  go_wp2_with (at_make; refine wpList_make_own _ rfl _ _ 28 rfl w1.heap.size 37 i0 (.agg #[.int .i64 0, .int .i64 0]) 2 Tryz.underlying28 hi hz0 hz1 .i64 .i64 _ L.length rfl rfl rfl (by rw [hz2]; omega) (by unfold maxLen; omega) (Nat.le_refl _) ?_; intro w0 hown0 hgrow0)
  go_loopw [7, 17] (fun u7 i wr => ∃ k : Nat, k ≤ L.length ∧ i = .int .i64 k ∧ Hid (wr.ownsRow w1.heap.size 37 2 u7 (shR a b (L.take k)).length (cellsR (shR a b (L.take k)))) ∧ Hid (Kp w1 wr)) (fun _ i _ => L.length - (intOf i).toNat)
  case atStart => exact ⟨0, Nat.zero_le _, rfl, Lib.hid hown0, Lib.hid ((Kp.refl w1).grown hgrow0 (fun k h => by cases h))⟩
  case round =>
    obtain ⟨k, hk, rfl, O, K2⟩ := hrel
    by_cases hlt : k < L.length
    · rcases R1.out with ⟨_, _, _, e⟩ | ⟨b0, off, cap, ev, hc, hm, hx⟩
      · rw [e] at hlt; simp at hlt
      cases ev
      obtain ⟨d1, d2⟩ := rd_at hx K2.out k hlt
      clear hx
      obtain ⟨o1, o2, o3⟩ := OK.out _ (at_mem hlt)
      have S := Lib.hid (shR_take a b L k hlt)
      have tl : (shR a b (L.take k)).length ≤ k := by rw [shR_len]; exact List.length_take_le _ _
      obtain ⟨lo, hi', ee⟩ : ∃ x y, at_ L k = (x, y) := ⟨_, _, rfl⟩
      rw [ee] at d1 d2 o1 o2 o3 S
      simp only at d1 d2 o1 o2 o3 S
      clear ee
      have hsz := K2.out.size
      have wa : IntKind.i64.wrap (lo + a) = lo + a := by rw [IntKind.wrap_i64]; omega
      have wb : IntKind.i64.wrap (hi' + b) = hi' + b := by rw [IntKind.wrap_i64]; omega
      have z0 : (0 : Int) ≤ (k : Int) := by omega
      have z1 : (k : Int) < (L.length : Int) := by omega
      go_wp2_with (at_builtin; refine wpList_app rfl (.tmp 21) (.tmp 31) 28 rfl w1.heap.size 37 i0 (.agg #[.int .i64 0, .int .i64 0]) 2 16 Tryz.underlying28 hi hz0 hz1 hz2 rfl (by decide) _ _ _ rfl ((O.out.alloc _).alloc _) _ _ _ rfl (one_src2 _ _ _ _ _) rfl (by intro u hu; simp at hu; rcases hu with rfl | rfl <;> rfl) (by unfold maxLen; omega) (by omega) (by simp; omega) ?_; intro v4 w4 hown4 hgrow4 hat4)
      go_roundw
      case rel => exact ⟨k + 1, by omega, by go_num, Lib.hid (by rw [S.out]; exact own_snoc hown4), Lib.hid (Kp.grown (K2.out.trans ((Kp.alloc _ _).trans (Kp.alloc _ _))) hgrow4 (fun j hj => (O.out.lt j hj).1))⟩
      case measure => simp [intOf]; omega
    · have A : L.take k = L := by rw [show k = L.length by omega, List.take_length]
      rw [A] at O
      clear A
      have q : decide ((k : Int) < L.length) = false := by simp; omega
      have C := Lib.hid (make_any _ (shR a b L) wr (runsAt_own O.out) SI.out (by rw [shR_len]; exact hL))
      have hsz := Nat.le_trans K1.out.size K2.out.size
      go_wp2_with fail
      refine (C.out).mono ?_
      rintro e w5 ⟨v5, rfl, own5, kk⟩
      have KK := Lib.hid (K1.out.trans (K2.out.trans kk))
      have OO := Lib.hid (own_mono own5 hsz)
      clear kk own5
      go_wp2
      go_ret
      exact ⟨_, rfl, OO.out, KK.out⟩
theorem nf_nil : nf [] = [] := rfl
theorem sh_out {l : List R} (h : sane l) {k : Int} (hk : k < -2199023255552 ∨ 2199023255552 < k) : nf (shR k k l) = [] := by
  refine nf_eq trivial fun n => ⟨fun g => absurd g (memR_nil n), ?_⟩
  rintro ⟨r, hr, g1, g2, g3, g4⟩
  unfold shR at hr
  simp only [List.mem_map] at hr
  obtain ⟨q, hq, rfl⟩ := hr
  obtain ⟨o1, o2, o3⟩ := sane_ok h q hq
  simp only at g1 g2
  exfalso; omega
def grK (k : Int) : Int := min (max k 0) 2199023255552
set_option maxHeartbeats 1000000 in
set_option maxRecDepth 100000 in
theorem grow_any (v : Value) (l : List R) (k : Int) (w : World) (hv : RunsAt w v l) (hl : I64R l) (hn : l.length ≤ 1000000) :
    Calls Tryz.prog 25 #[v, .int .i64 k] w fun e w' => ∃ v' : Value, e = .returned v' ∧ w'.ownsRow w.heap.size 37 2 v' (nf (shR (-(grK k)) (grK k) (nf l))).length (cellsR (nf (shR (-(grK k)) (grK k) (nf l)))) ∧ Kp w w' := by
  have g : 0 ≤ grK k ∧ grK k ≤ 2199023255552 := by unfold grK; omega
  have C := Lib.hid (moved_any v l (-(grK k)) (grK k) w hv hl hn (by omega) (by omega) (by omega) (by omega))
  obtain ⟨x, hx⟩ : ∃ x, min (max k 0) 2199023255552 = x := ⟨_, rfl⟩
  have E : grK k = x := hx
  rw [E] at C g ⊢
  have wn : IntKind.i64.wrap (-x) = -x := by rw [IntKind.wrap_i64]; omega
  clear E hv hl
  go_enter Tryz.func25, Tryz.ntmps25
  go_wp2_with fail
  refine (C.out).mono ?_
  rintro e w1 ⟨v1, rfl, own1, kk⟩
  have O := Lib.hid own1
  have K := Lib.hid kk
  clear own1 kk
  go_wp2
  go_ret
  exact ⟨_, rfl, O.out, K.out⟩
theorem wide_any (v : Value) (l : List R) (w : World) (hv : RunsAt w v l) (hl : I64R l) (hn : l.length ≤ 1000000) :
    Calls Tryz.prog 42 #[v] w fun e w' => e = .returned (.bool (decide (400 < (nf l).length))) ∧ Kp w w' := by
  have C := Lib.hid (make_any v l w hv hl hn)
  clear hv hl
  generalize nf l = L at *
  have E : Hid (decide ((400 : Int) < (L.length : Int)) = decide (400 < L.length)) := by
    unfold Hid
    have : ((400 : Int) < (L.length : Int)) ↔ 400 < L.length := by omega
    simp only [this]
  go_enter Tryz.func42, Tryz.ntmps42
  go_wp2_with fail
  refine (C.out).mono ?_
  rintro e w1 ⟨v1, rfl, own1, kk⟩
  obtain ⟨ad, c, rfl⟩ := (runsAt_own own1).slice
  have K := Lib.hid kk
  clear own1 kk C
  go_wp2
  go_ret
  exact ⟨ret_bool E.out, K.out⟩
end Go.Proofs.YtinpglfclbnhlaaGreatDoor

namespace Go.Proofs.YtinpglfclbnhlaaGreatDoor
open Go.RowKit
set_option linter.unusedVariables false
set_option linter.unusedSimpArgs false
theorem memR_take (l : List R) (k : Nat) (n : Int) (h : k < l.length) : memR (l.take (k + 1)) n ↔ memR (l.take k) n ∨ ((at_ l k).1 ≤ n ∧ n ≤ (at_ l k).2 ∧ -1099511627776 ≤ n ∧ n ≤ 1099511627776) := by
  rw [take_at l k h, memR_append, memR_cons]
  have := memR_nil n
  constructor
  · rintro (q | q | q)
    · exact .inl q
    · exact .inr q
    · exact absurd q this
  · rintro (q | q)
    · exact .inl q
    · exact .inr (.inl q)
theorem hasB_nf (l : List R) (n : Int) : hasB (nf l) n = true ↔ memR l n := by
  rw [has_sane (nf_sane l) n, ← nf_mem l n]
  constructor
  · rintro ⟨r, hr, h⟩
    have := sane_ok (nf_sane l) r hr
    obtain ⟨o1, o2, o3⟩ := this
    exact ⟨r, hr, h.1, h.2, by omega, by omega⟩
  · rintro ⟨r, hr, h⟩
    exact ⟨r, hr, h.1, h.2.1⟩
theorem bool_iff {a b : Bool} (h : a = true ↔ b = true) : a = b := by cases a <;> cases b <;> simp_all
end Go.Proofs.YtinpglfclbnhlaaGreatDoor

namespace Go.Proofs.YtinpglfclbnhlaaGreatDoor
set_option linter.unusedVariables false
set_option linter.unusedSimpArgs false
def inn (L : List R) (k : Nat) (n : Int) : Prop := (at_ L k).1 ≤ n ∧ n ≤ (at_ L k).2
theorem memI {L : List R} (h : sane L) (n : Int) : memR L n ↔ ∃ k, k < L.length ∧ inn L k n := by
  constructor
  · rintro ⟨r, hr, g1, g2, _⟩
    obtain ⟨i, hi, e⟩ := List.getElem_of_mem hr
    refine ⟨i, hi, ?_⟩
    unfold inn at_
    simp [List.getD, hi, e]
    exact ⟨g1, g2⟩
  · rintro ⟨k, hk, g1, g2⟩
    obtain ⟨o1, o2, o3⟩ := sane_ok h _ (at_mem hk)
    exact ⟨_, at_mem hk, g1, g2, by omega, by omega⟩
theorem gapI {L : List R} (h : sane L) : ∀ {j k : Nat}, j < k → k < L.length → (at_ L j).2 + 1 < (at_ L k).1 := by
  intro j k hjk hk
  induction k with
  | zero => omega
  | succ k ih =>
    have g := ((sane_idx L).1 h (k + 1) hk).2 (by omega)
    simp only [Nat.add_sub_cancel] at g
    by_cases e : j = k
    · subst e; exact g
    · have := ih (by omega) (by omega)
      have o := ((sane_idx L).1 h k (by omega)).1.1
      omega
theorem okI {L : List R} (h : sane L) {k : Nat} (hk : k < L.length) : okR (at_ L k) := ((sane_idx L).1 h k hk).1
/-- no later run of a set has an end that is less -/
theorem upI {L : List R} (h : sane L) {j k : Nat} (hjk : j ≤ k) (hk : k < L.length) : (at_ L j).2 ≤ (at_ L k).2 := by
  by_cases e : j = k
  · subst e; exact Int.le_refl _
  · have := gapI h (show j < k by omega) hk
    have := (okI h hk).1
    omega
/-- what the output has when the runs of A ahead of i, and of run i those of B ahead of a, are done -/
structure MI (A B : List R) (i a : Nat) (out : List R) : Prop where
  s : sane out
  m : ∀ n, memR out n ↔ (∃ k, k < i ∧ inn A k n ∧ memR B n) ∨ (inn A i n ∧ ∃ j, j < a ∧ inn B j n)
  g : ∀ q ∈ out, (∃ j, j < a ∧ q.2 ≤ (at_ B j).2) ∨ (∃ k, k < i ∧ q.2 ≤ (at_ A k).2)
  b : ∀ j, j < a → (at_ B j).2 ≤ (at_ A i).2
structure MO (A B : List R) (i a : Nat) (out : List R) : Prop where
  s : sane out
  m : ∀ n, memR out n ↔ ∃ k, k < i ∧ inn A k n ∧ memR B n
  g : ∀ q ∈ out, (∃ j, j < a ∧ q.2 ≤ (at_ B j).2) ∨ (∃ k, k < i ∧ q.2 ≤ (at_ A k).2)
  b : ∀ j, j < a → ∃ k, k < i ∧ (at_ B j).2 ≤ (at_ A k).2
section
variable {A B : List R} (hA : sane A) (hB : sane B)
theorem MO.start : MO A B 0 0 [] := ⟨trivial, fun n => ⟨fun h => absurd h (memR_nil n), fun ⟨k, h, _⟩ => by omega⟩, fun q h => (by cases h), fun j h => by omega⟩
include hA in
theorem MO.inner {i a : Nat} {out : List R} (h : MO A B i a out) (hi : i < A.length) : MI A B i a out := by
  refine ⟨h.s, fun n => ?_, h.g, fun j hj => ?_⟩
  · rw [h.m]
    refine ⟨.inl, fun g => g.elim id ?_⟩
    rintro ⟨⟨g1, g2⟩, j, hj, _, g4⟩
    obtain ⟨k, hk, g5⟩ := h.b j hj
    have := gapI hA hk hi
    omega
  · obtain ⟨k, hk, g5⟩ := h.b j hj
    have := gapI hA hk hi
    have := (okI hA hi).1
    omega
include hA hB in
/-- the next run of B begins behind run i -/
theorem MI.past {i a : Nat} {out : List R} (h : MI A B i a out) (hi : i < A.length) (ha : a < B.length) (c : (at_ A i).2 < (at_ B a).1) : MO A B (i + 1) a out := by
  have _ := hA
  refine ⟨h.s, fun n => ?_, fun q hq => (h.g q hq).imp id (fun ⟨k, hk, g⟩ => ⟨k, by omega, g⟩), fun j hj => ⟨i, by omega, h.b j hj⟩⟩
  rw [h.m]
  constructor
  · rintro (⟨k, hk, g⟩ | ⟨g, j, hj, g2⟩)
    · exact ⟨k, by omega, g⟩
    · exact ⟨i, by omega, g, (memI hB n).2 ⟨j, by omega, g2⟩⟩
  · rintro ⟨k, hk, g, g2⟩
    by_cases e : k < i
    · exact .inl ⟨k, e, g, g2⟩
    · obtain rfl : k = i := by omega
      obtain ⟨j, hj, g3⟩ := (memI hB n).1 g2
      refine .inr ⟨g, j, ?_, g3⟩
      rcases Nat.lt_or_ge j a with q | q
      · exact q
      · exfalso
        have h1 := g.2
        have h2 := g3.1
        by_cases e2 : j = a
        · subst e2; omega
        · have := gapI hB (show a < j by omega) hj
          have := (okI hB ha).1
          omega
include hA hB in
/-- what run i and run a of B have in common, laid behind the others -/
theorem MI.put {i a : Nat} {out : List R} (h : MI A B i a out) (hi : i < A.length) (ha : a < B.length) (c1 : (at_ B a).1 ≤ (at_ A i).2) (c2 : (at_ A i).1 ≤ (at_ B a).2) :
    sane (out ++ [(max (at_ A i).1 (at_ B a).1, min (at_ A i).2 (at_ B a).2)]) ∧
    (∀ n, memR (out ++ [(max (at_ A i).1 (at_ B a).1, min (at_ A i).2 (at_ B a).2)]) n ↔ (∃ k, k < i ∧ inn A k n ∧ memR B n) ∨ (inn A i n ∧ ∃ j, j < a + 1 ∧ inn B j n)) := by
  obtain ⟨o1, o2, o3⟩ := okI hA hi
  obtain ⟨p1, p2, p3⟩ := okI hB ha
  have ok : okR (max (at_ A i).1 (at_ B a).1, min (at_ A i).2 (at_ B a).2) := ⟨by simp only; omega, by simp only; omega, by simp only; omega⟩
  refine ⟨sane_snoc.2 ⟨h.s, ok, fun b q e => ?_⟩, fun n => ?_⟩
  · simp only
    rcases h.g q (by rw [e]; simp) with ⟨j, hj, g⟩ | ⟨k, hk, g⟩
    · have := gapI hB hj ha; omega
    · have := gapI hA hk hi; omega
  · rw [memR_append, h.m, memR_cons]
    have := memR_nil n
    simp only
    constructor
    · rintro ((g | ⟨g, j, hj, g2⟩) | g | g)
      · exact .inl g
      · exact .inr ⟨g, j, by omega, g2⟩
      · exact .inr ⟨⟨by omega, by omega⟩, a, by omega, ⟨by omega, by omega⟩⟩
      · exact absurd g this
    · rintro (g | ⟨g, j, hj, g2⟩)
      · exact .inl (.inl g)
      · by_cases e : j < a
        · exact .inl (.inr ⟨g, j, e, g2⟩)
        · obtain rfl : j = a := by omega
          exact .inr (.inl ⟨by have := g.1; have := g2.1; omega, by have := g.2; have := g2.2; omega, by have := g.1; omega, by have := g.2; omega⟩)
include hA hB in
theorem MI.skip {i a : Nat} {out : List R} (h : MI A B i a out) (hi : i < A.length) (ha : a < B.length) (c2 : (at_ B a).2 < (at_ A i).1) :
    ∀ n, memR out n ↔ (∃ k, k < i ∧ inn A k n ∧ memR B n) ∨ (inn A i n ∧ ∃ j, j < a + 1 ∧ inn B j n) := by
  have _ := hA
  have _ := hB
  intro n
  rw [h.m]
  constructor
  · rintro (g | ⟨g, j, hj, g2⟩)
    · exact .inl g
    · exact .inr ⟨g, j, by omega, g2⟩
  · rintro (g | ⟨g, j, hj, g2⟩)
    · exact .inl g
    · by_cases e : j < a
      · exact .inr ⟨g, j, e, g2⟩
      · obtain rfl : j = a := by omega
        exfalso
        have := g.1; have := g2.2; omega
include hA hB in
/-- run a of B ends no later than run i: the next one of B -/
theorem MI.next {i a : Nat} {out out' : List R} (h : MI A B i a out) (hi : i < A.length) (ha : a < B.length) (c : (at_ B a).2 ≤ (at_ A i).2) (hs : sane out')
    (hm : ∀ n, memR out' n ↔ (∃ k, k < i ∧ inn A k n ∧ memR B n) ∨ (inn A i n ∧ ∃ j, j < a + 1 ∧ inn B j n)) (hq : ∀ q ∈ out', q ∈ out ∨ q.2 ≤ (at_ B a).2) : MI A B i (a + 1) out' := by
  have _ := hA
  have _ := hB
  refine ⟨hs, hm, fun q h2 => ?_, fun j hj => ?_⟩
  · rcases hq q h2 with g | g
    · exact (h.g q g).imp (fun ⟨j, hj, g⟩ => ⟨j, by omega, g⟩) id
    · exact .inl ⟨a, by omega, g⟩
  · by_cases e : j < a
    · exact h.b j e
    · obtain rfl : j = a := by omega
      exact c
include hA hB in
/-- run a of B ends later: the next run of A -/
theorem MI.over {i a : Nat} {out out' : List R} (h : MI A B i a out) (hi : i < A.length) (ha : a < B.length) (c : (at_ A i).2 < (at_ B a).2) (hs : sane out')
    (hm : ∀ n, memR out' n ↔ (∃ k, k < i ∧ inn A k n ∧ memR B n) ∨ (inn A i n ∧ ∃ j, j < a + 1 ∧ inn B j n)) (hq : ∀ q ∈ out', q ∈ out ∨ q.2 ≤ (at_ A i).2) : MO A B (i + 1) a out' := by
  have _ := hA
  refine ⟨hs, fun n => ?_, fun q h2 => ?_, fun j hj => ⟨i, by omega, h.b j hj⟩⟩
  · rw [hm]
    constructor
    · rintro (⟨k, hk, g⟩ | ⟨g, j, hj, g2⟩)
      · exact ⟨k, by omega, g⟩
      · exact ⟨i, by omega, g, (memI hB n).2 ⟨j, by omega, g2⟩⟩
    · rintro ⟨k, hk, g, g2⟩
      by_cases e : k < i
      · exact .inl ⟨k, e, g, g2⟩
      · obtain rfl : k = i := by omega
        obtain ⟨j, hj, g3⟩ := (memI hB n).1 g2
        refine .inr ⟨g, j, ?_, g3⟩
        rcases Nat.lt_or_ge j (a + 1) with q | q
        · exact q
        · exfalso
          have h1 := g.2
          have h2 := g3.1
          have := gapI hB (show a < j by omega) hj
          omega
  · rcases hq q h2 with g | g
    · exact (h.g q g).imp id (fun ⟨k, hk, g⟩ => ⟨k, by omega, g⟩)
    · exact .inr ⟨i, by omega, g⟩
include hA hB in
theorem MI.done {i : Nat} {out : List R} (h : MI A B i B.length out) (hi : i < A.length) (n : Int) : memR out n ↔ memR A n ∧ memR B n := by
  rw [h.m, memI hA]
  constructor
  · rintro (⟨k, hk, g, g2⟩ | ⟨g, j, hj, g2⟩)
    · exact ⟨⟨k, by omega, g⟩, g2⟩
    · exact ⟨⟨i, hi, g⟩, (memI hB n).2 ⟨j, hj, g2⟩⟩
  · rintro ⟨⟨k, hk, g⟩, g2⟩
    obtain ⟨j, hj, g3⟩ := (memI hB n).1 g2
    by_cases e : k < i
    · exact .inl ⟨k, e, g, g2⟩
    · by_cases e2 : k = i
      · subst e2; exact .inr ⟨g, j, hj, g3⟩
      · exfalso
        have := gapI hA (show i < k by omega) hk
        have := h.b j hj
        have h1 := g.1
        have h2 := g3.2
        omega
include hA in
theorem MO.done {a : Nat} {out : List R} (h : MO A B A.length a out) (n : Int) : memR out n ↔ memR A n ∧ memR B n := by
  rw [h.m, memI hA]
  exact ⟨fun ⟨k, hk, g, g2⟩ => ⟨⟨k, hk, g⟩, g2⟩, fun ⟨⟨k, hk, g⟩, g2⟩ => ⟨k, hk, g, g2⟩⟩
end
/-- the numbers in both -/
def interR (a b : List R) : List R := nf (a.flatMap fun r => b.map fun s => (max r.1 s.1, min r.2 s.2))
theorem interR_mem (a b : List R) (n : Int) : memR (interR a b) n ↔ memR a n ∧ memR b n := by
  unfold interR
  rw [nf_mem]
  unfold memR
  constructor
  · rintro ⟨r, hr, g1, g2, g3⟩
    simp only [List.mem_flatMap, List.mem_map] at hr
    obtain ⟨x, hx, y, hy, rfl⟩ := hr
    simp only at g1 g2
    exact ⟨⟨x, hx, by omega, by omega, g3⟩, ⟨y, hy, by omega, by omega, g3⟩⟩
  · rintro ⟨⟨x, hx, g1, g2, g3⟩, ⟨y, hy, g4, g5, _⟩⟩
    refine ⟨(max x.1 y.1, min x.2 y.2), ?_, by simp only; omega, by simp only; omega, g3⟩
    simp only [List.mem_flatMap, List.mem_map]
    exact ⟨x, hx, y, hy, rfl⟩
theorem interR_sane (a b : List R) : sane (interR a b) := nf_sane _
end Go.Proofs.YtinpglfclbnhlaaGreatDoor

namespace Go.Proofs.YtinpglfclbnhlaaGreatDoor
open Go.RowKit
set_option linter.unusedVariables false
set_option linter.unusedSimpArgs false
theorem mixedS : Tryz.prog.follows .mixedOrders = true := by kernel_rfl
theorem cell_one_at (w : World) (a b : Value) (t : TypeId) : ∀ j u, [a, b][j]? = some u → (w.drew.alloc (.cells #[a, b] t)).cell? ((⟨w.heap.size, 0, none⟩ : Addr).add j) = some u := by
  have h := cell_two_new w.drew a b t
  simpa using h
theorem at_ne {v v' : Value} {H X : Nat} (h : ∀ j, v.ownBlock = some j → j ≠ X) (hX : X < H) (a : v'.ownBlock = v.ownBlock ∨ v'.ownBlock = some H) : ∀ j, v'.ownBlock = some j → j ≠ X := by
  intro j hj
  rcases a with a | a
  · exact h j (by rw [← a]; exact hj)
  · rw [a] at hj; cases hj; omega
set_option maxHeartbeats 8000000 in
set_option maxRecDepth 100000 in
theorem meet_any (v u : Value) (l m : List R) (w : World) (hv : RunsAt w v l) (hu : RunsAt w u m) (hl : I64R l) (hm : I64R m) (hn : l.length ≤ 1000000) (hn2 : m.length ≤ 1000000) :
    Calls Tryz.prog 49 #[v, u] w fun e w' => ∃ v' : Value, e = .returned v' ∧ w'.ownsRow w.heap.size 37 2 v' (interR l m).length (cellsR (interR l m)) ∧ Kp w w' := by
  obtain ⟨i0, hi, hz0, hz1, hz2⟩ := info_parts infoR
  have mx := mixedS
  have C1 := Lib.hid (fun w' (k : Kp w w') => make_any v l w' (hv.kp k) hl hn)
  have C2 := Lib.hid (fun w' (k : Kp w w') => make_any u m w' (hu.kp k) hm hn2)
  have nlA := nf_len l
  have nlB := nf_len m
  have SA := Lib.hid (nf_sane l)
  have SB := Lib.hid (nf_sane m)
  have FIN := Lib.hid (show ∀ out, sane out → (∀ n, memR out n ↔ memR (nf l) n ∧ memR (nf m) n) → out = interR l m from fun out h1 h2 => sane_ext h1 (interR_sane l m) (fun n => by rw [h2, interR_mem, nf_mem, nf_mem]))
  have lA : (nf l).length ≤ 1000000 := by omega
  have lB : (nf m).length ≤ 1000000 := by omega
  clear hv hu hl hm nlA nlB hn hn2
  generalize nf l = A at *
  generalize nf m = B at *
  generalize interR l m = RES at *
  go_enter Tryz.func49, Tryz.ntmps49
  go_wp2
  go_step3
  go_wp2_with fail
  refine (C1.out _ (Kp.refl _)).mono ?_
  rintro e w1 ⟨v1, rfl, own1, k2⟩
  have C3 := Lib.hid (C2.out w1 k2)
  clear C2
  go_wp2_with fail
  refine (C3.out).mono ?_
  rintro e w2 ⟨v2, rfl, own2, kk2⟩
  have R1 := Lib.hid (runsAt_own own1)
  have K2 := Lib.hid (k2.trans kk2)
  have R2 := Lib.hid (runsAt_own own2)
  have R1' := Lib.hid (R1.out.kp kk2)
  obtain ⟨ad1, c1, rfl⟩ := R1.out.slice
  obtain ⟨ad2, c2, rfl⟩ := R2.out.slice
  clear own1 own2 kk2 k2 C1 C3 R1
  go_wp2
  go_step3
  go_wp2
  go_loopw [5, 6, 8, 15] (fun u5 u6 u8 u15 wr => ∃ (i a : Nat) (out : List R), i ≤ A.length ∧ a ≤ B.length ∧ u6 = .int .i64 a ∧ u15 = .int .i64 i ∧ Hid (MO A B i a out) ∧ out.length ≤ i + a ∧
    Hid (wr.ownsRow w2.heap.size 37 2 u5 out.length (cellsR out)) ∧ Hid (Kp w2 wr)) (fun _ _ _ u15 _ => A.length - (intOf u15).toNat)
  case atStart => exact ⟨0, 0, [], by omega, by omega, rfl, rfl, Lib.hid MO.start, by simp, Lib.hid (World.ownsRow_nil _ _ _ _), Lib.hid (Kp.refl _)⟩
  case round =>
    obtain ⟨wo, hwo⟩ : ∃ x : World, x = wr := ⟨wr, rfl⟩
    subst hwo
    obtain ⟨i, a, out, hiA, haB, rfl, rfl, MOO, hlen, O, K3⟩ := hrel
    by_cases hlt : i < A.length
    · rcases R1'.out with ⟨_, _, _, e⟩ | ⟨b1, off1, cap1, ev, hc, hm, hx⟩
      · rw [e] at hlt; simp at hlt
      cases ev
      obtain ⟨d1, d2⟩ := rd_at hx K3.out i hlt
      clear hx hc hm
      obtain ⟨rl, rh, ee⟩ : ∃ x y, at_ A i = (x, y) := ⟨_, _, rfl⟩
      rw [ee] at d1 d2
      simp only at d1 d2
      have EA := Lib.hid ee
      clear ee
      have z0 : (0 : Int) ≤ (i : Int) := by omega
      have z1 : (i : Int) < (A.length : Int) := by omega
      have hsz := K3.out.size
      have INN := Lib.hid (MOO.out.inner SA.out hlt)
      have OA := okI SA.out hlt
      rw [EA.out] at OA
      obtain ⟨oa1, oa2, oa3⟩ := OA
      simp only at oa1 oa2 oa3
      go_wp2
      go_loopw [5, 6] (fun u5 u6 wq => ∃ (a' : Nat) (out' : List R), a' ≤ B.length ∧ u6 = .int .i64 a' ∧ Hid (MI A B i a' out') ∧ out'.length ≤ i + a' ∧ Hid (wq.ownsRow w2.heap.size 37 2 u5 out'.length (cellsR out')) ∧ Hid (Kp w2 wq) ∧
        wq.cell? ⟨wo.heap.size, 0, none⟩ = some (.int .i64 rl) ∧ wq.cell? ⟨wo.heap.size, 1, none⟩ = some (.int .i64 rh) ∧ Hid (∀ j, u5.ownBlock = some j → j ≠ wo.heap.size) ∧ wo.heap.size < wq.heap.size) (fun _ u6 _ => B.length - (intOf u6).toNat)
      case atStart => exact ⟨a, out, haB, rfl, INN, hlen, Lib.hid (O.out.alloc _), Lib.hid (K3.out.trans (Kp.alloc _ _)), by simp, by simp, Lib.hid (fun j hj => by have := (O.out.lt j hj).2; omega), by simp⟩
      case round =>
        obtain ⟨wq, hwq⟩ : ∃ x : World, x = wr := ⟨wr, rfl⟩
        subst hwq
        clear d1 d2 INN MOO O hlen haB
        obtain ⟨a', out', haB, rfl, INN, hlen, O, K4, x0, x1, NE, xs⟩ := hrel
        by_cases hla : a' < B.length
        · rcases R2.out with ⟨_, _, _, e⟩ | ⟨b2, off2, cap2, ev, hc, hm, hx⟩
          · rw [e] at hla; simp at hla
          cases ev
          obtain ⟨d1, d2⟩ := rd_at hx K4.out a' hla
          have RD := Lib.hid (fun w' (kk : Kp w2 w') => rd_at hx kk a' hla)
          clear hx hc hm
          have PAST := Lib.hid (INN.out.past SA.out SB.out hlt hla)
          have PUT := Lib.hid (INN.out.put SA.out SB.out hlt hla)
          have SKIP := Lib.hid (INN.out.skip SA.out SB.out hlt hla)
          have NEXT := Lib.hid (fun out' => INN.out.next (out' := out') SA.out SB.out hlt hla)
          have OVER := Lib.hid (fun out' => INN.out.over (out' := out') SA.out SB.out hlt hla)
          have SO := Lib.hid INN.out.s
          have OB := okI SB.out hla
          obtain ⟨bl, bh, ee⟩ : ∃ x y, at_ B a' = (x, y) := ⟨_, _, rfl⟩
          rw [ee] at d1 d2 PAST PUT SKIP NEXT OVER OB RD
          rw [EA.out] at PAST PUT SKIP NEXT OVER
          simp only at d1 d2 PAST PUT SKIP NEXT OVER RD
          obtain ⟨ob1, ob2, ob3⟩ := OB
          simp only at ob1 ob2 ob3
          clear ee INN
          have y0 : (0 : Int) ≤ (a' : Int) := by omega
          have y1 : (a' : Int) < (B.length : Int) := by omega
          have hsq := K4.out.size
          have KS := Lib.hid (fun w' (kk : Kp wq w') => (show w'.cell? ⟨wo.heap.size, 0, none⟩ = some (.int .i64 rl) ∧ w'.cell? ⟨wo.heap.size, 1, none⟩ = some (.int .i64 rh) ∧ w'.cell? ⟨b2, off2 + a' * 2, none⟩ = some (.int .i64 bl) ∧ w'.cell? ⟨b2, off2 + a' * 2 + 1, none⟩ = some (.int .i64 bh) from
            ⟨(kk.cell (p := ⟨wo.heap.size, 0, none⟩) xs).trans x0, (kk.cell (p := ⟨wo.heap.size, 1, none⟩) xs).trans x1, RD.out _ (K4.out.trans kk)⟩))
          have KG := Lib.hid (fun ws w' (kk : Kp wq ws) (g : ws.grownBy w' u5.ownBlock) => (show (w'.cell? ⟨wo.heap.size, 0, none⟩ = some (.int .i64 rl) ∧ w'.cell? ⟨wo.heap.size, 1, none⟩ = some (.int .i64 rh) ∧ w'.cell? ⟨b2, off2 + a' * 2, none⟩ = some (.int .i64 bl) ∧ w'.cell? ⟨b2, off2 + a' * 2 + 1, none⟩ = some (.int .i64 bh)) ∧ Kp w2 w' from
            have k5 : Kp w2 w' := Kp.grown (K4.out.trans kk) g (fun j hj => (O.out.lt j hj).1)
            have xs2 : wo.heap.size < ws.heap.size := Nat.lt_of_lt_of_le xs kk.size
            ⟨⟨(grown_cell g xs2 NE.out).trans ((kk.cell (p := ⟨wo.heap.size, 0, none⟩) xs).trans x0), (grown_cell g xs2 NE.out).trans ((kk.cell (p := ⟨wo.heap.size, 1, none⟩) xs).trans x1), RD.out _ k5⟩, k5⟩))
          by_cases c1 : rh < bl
          · have q1 : decide (rh < bl) = true := decide_eq_true c1
            have F := Lib.hid (PAST.out c1)
            go_wp2_with fail
            go_quiet (fail)
            go_wp2
            refine ⟨⟨i + 1, a', out', by omega, by omega, rfl, by go_num, F, by omega, O, Lib.hid (K4.out.trans (by first | exact Kp.drew _ | exact Kp.drewN _ _))⟩, by simp only [intOf]; omega⟩
          · have q1 : decide (rh < bl) = false := decide_eq_false c1
            have c1' : bl ≤ rh := by omega
            go_wp2_with fail
            go_quiet (fail)
            clear x0 x1 d1 d2
            have KQ0 := Lib.hid (Kp.drewN wq nq)
            generalize wq.drewN nq = wx at KQ0 ⊢
            obtain ⟨x0, x1, d1, d2⟩ := KS.out _ KQ0.out
            go_upto_if 40 with (go_quiet (fail))
            clear x0 x1 d1 d2
            have KQ := Lib.hid (KQ0.out.trans (Kp.drewN wx nq))
            have O2 := Lib.hid (own_kp O.out KQ.out)
            generalize wx.drewN nq = wy at KQ O2 ⊢
            have hsy := Nat.le_trans hsq KQ.out.size
            clear KQ0 PAST
            go_cut [5] from 40 to 60 (fun v5 w' => ∃ out'' : List R, Hid (sane out'') ∧ Hid (∀ n, memR out'' n ↔ (∃ k, k < i ∧ inn A k n ∧ memR B n) ∨ (inn A i n ∧ ∃ j, j < a' + 1 ∧ inn B j n)) ∧ Hid (∀ q ∈ out'', q ∈ out' ∨ (q.2 ≤ bh ∧ q.2 ≤ rh)) ∧ out''.length ≤ out'.length + 1 ∧
              Hid (w'.ownsRow w2.heap.size 37 2 v5 out''.length (cellsR out'')) ∧ Hid (∀ j, v5.ownBlock = some j → j ≠ wo.heap.size) ∧ wo.heap.size < w'.heap.size ∧
              Hid ((w'.cell? ⟨wo.heap.size, 0, none⟩ = some (.int .i64 rl) ∧ w'.cell? ⟨wo.heap.size, 1, none⟩ = some (.int .i64 rh) ∧ w'.cell? ⟨b2, off2 + a' * 2, none⟩ = some (.int .i64 bl) ∧ w'.cell? ⟨b2, off2 + a' * 2 + 1, none⟩ = some (.int .i64 bh)) ∧ Kp w2 w'))
            case first =>
              by_cases c2 : rl ≤ bh
              · have q2 : decide (rl ≤ bh) = true := decide_eq_true c2
                obtain ⟨F1, F2⟩ := PUT.out c1' c2
                have FF1 := Lib.hid F1
                have FF2 := Lib.hid F2
                clear F1 F2 SKIP PUT
                obtain ⟨x0, x1, d1, d2⟩ := KS.out _ KQ.out
                have xsy : wo.heap.size < wy.heap.size := Nat.lt_of_lt_of_le xs KQ.out.size
                go_wp2_with fail
                go_region_held3 (fun w' => w'.cell? ⟨wo.heap.size, 0, none⟩ = some (.int .i64 rl) ∧ w'.cell? ⟨wo.heap.size, 1, none⟩ = some (.int .i64 rh) ∧ w'.cell? ⟨b2, off2 + a' * 2, none⟩ = some (.int .i64 bl) ∧ w'.cell? ⟨b2, off2 + a' * 2 + 1, none⟩ = some (.int .i64 bh))
                  (first | assumption | exact KS.out _ (KQ.out.trans (by first | exact Kp.drew _ | exact Kp.drewN _ _ | exact (Kp.drew _).trans (Kp.alloc _ _) | exact (Kp.drewN _ _).trans (Kp.alloc _ _))))
                  (first | (refine step_append_lies _ rfl (.tmp 41) (.tmp 59) 28 rfl w2.heap.size 37 i0 (.agg #[.int .i64 0, .int .i64 0]) 2 16 Tryz.underlying28 hi hz0 hz1 hz2 rfl (by decide) u5 out'.length (cellsR out') (by simp [Act.eval, Act.put]) (World.ownsRow.alloc O2.out _) ⟨wy.heap.size, 0, none⟩ 1 1 [.int .i64 (max rl bl), .int .i64 (min rh bh)] (by simp [Act.eval, Act.put]) rfl (cell_one_at _ _ _ _) (by intro u hu; simp at hu; rcases hu with rfl | rfl <;> rfl) (by decide) (by unfold maxLen; omega) (by omega) (by simp; omega) _ rfl ?_; intro g4 cap4 w4 hown4 hgrow4 hat4 hlt4; have kg4 := KG.out _ _ (KQ.out.trans ((Kp.drew _).trans (Kp.alloc _ _))) hgrow4; have kg5 := kg4.1; have kg6 := kg4.2))
                all_goals go_wp2
                all_goals go_meet
                all_goals exact ⟨out' ++ [(max rl bl, min rh bh)], FF1, FF2, Lib.hid (fun q hq => (List.mem_append.1 hq).imp id (fun h => by rw [List.mem_singleton] at h; subst h; exact ⟨by simp only; omega, by simp only; omega⟩)), by simp, Lib.hid (own_snoc hown4), Lib.hid (fun j hj => by
                  have e := Option.some.inj hj
                  rcases hat4 with h | h
                  · exact NE.out j (by rw [h]; exact hj)
                  · have e2 : g4 = j := e
                    rw [← e2, h]
                    simp
                    omega), (by have := hgrow4.size; simp at this; omega), Lib.hid kg4⟩
              · have q2 : decide (rl ≤ bh) = false := decide_eq_false c2
                go_wp2
                go_meet
                case rel => exact ⟨out', SO, Lib.hid (SKIP.out (by omega)), Lib.hid (fun q hq => .inl hq), by omega, O2, NE, Nat.lt_of_lt_of_le xs KQ.out.size, Lib.hid ⟨KS.out _ KQ.out, K4.out.trans KQ.out⟩⟩
            case rest =>
              obtain ⟨o3, G1, G2, G3, l3, O3, NE3, xs3, S3⟩ := hcut
              clear NE O2 KS KG SKIP PUT KQ O
              obtain ⟨x0, x1, d1, d2⟩ := S3.out.1
              by_cases c3 : rh < bh
              · have q3 : decide (rh < bh) = true := decide_eq_true c3
                have F := Lib.hid (OVER.out o3 c3 G1.out G2.out (fun q hq => (G3.out q hq).imp id (fun h => h.2)))
                go_wp2_with fail
                go_quiet (fail)
                go_wp2
                refine ⟨⟨i + 1, a', o3, by omega, by omega, rfl, by go_num, F, by omega, own_kp O3.out (by first | exact Kp.drew _ | exact Kp.drewN _ _), Lib.hid (S3.out.2.trans (by first | exact Kp.drew _ | exact Kp.drewN _ _))⟩, by simp only [intOf]; omega⟩
              · have q3 : decide (rh < bh) = false := decide_eq_false c3
                have F := Lib.hid (NEXT.out o3 (by omega) G1.out G2.out (fun q hq => (G3.out q hq).imp id (fun h => h.1)))
                go_wp2_with fail
                go_quiet (fail)
                go_wp2
                refine ⟨⟨a' + 1, o3, by omega, by go_num, F, by omega, own_kp O3.out (by first | exact Kp.drew _ | exact Kp.drewN _ _), Lib.hid (S3.out.2.trans (by first | exact Kp.drew _ | exact Kp.drewN _ _)), x0, x1, NE3, xs3⟩, by simp only [intOf]; omega⟩
        · obtain rfl : a' = B.length := by omega
          have q0 : decide ((B.length : Int) < B.length) = false := by simp
          have E := FIN.out out' INN.out.s (fun n => INN.out.done SA.out SB.out hlt n)
          subst E
          go_wp2
          try rw [Exit.noGoto_ret]
          go_ret
          exact ⟨_, rfl, own_mono O.out K2.out.size, K2.out.trans K4.out⟩
    · obtain rfl : i = A.length := by omega
      have q0 : decide ((A.length : Int) < A.length) = false := by simp
      have E := FIN.out out MOO.out.s (fun n => MOO.out.done SA.out n)
      subst E
      go_wp2
      try rw [Exit.noGoto_ret]
      go_ret
      exact ⟨_, rfl, own_mono O.out K2.out.size, K2.out.trans K3.out⟩
end Go.Proofs.YtinpglfclbnhlaaGreatDoor

namespace Go.Proofs.YtinpglfclbnhlaaGreatDoor
set_option linter.unusedVariables false
set_option linter.unusedSimpArgs false
structure NO (A B : List R) (i a : Nat) (out : List R) : Prop where
  s : sane out
  m : ∀ n, memR out n ↔ ∃ k, k < i ∧ inn A k n ∧ ¬ memR B n
  g : ∀ q ∈ out, ∃ k, k < i ∧ q.2 ≤ (at_ A k).2
  b : ∀ j, j < a → ∃ k, k < i ∧ (at_ B j).2 ≤ (at_ A k).2
/-- run i is done up to x -/
structure NI (A B : List R) (i a : Nat) (x : Int) (out : List R) : Prop where
  s : sane out
  m : ∀ n, memR out n ↔ (∃ k, k < i ∧ inn A k n ∧ ¬ memR B n) ∨ (inn A i n ∧ n < x ∧ ¬ memR B n)
  g : ∀ q ∈ out, q.2 + 1 < x ∧ ((∃ k, k < i ∧ q.2 ≤ (at_ A k).2) ∨ q.2 ≤ (at_ A i).2)
  b : ∀ j, j < a → (at_ B j).2 < x
  x1 : (at_ A i).1 ≤ x
  x2 : x ≤ (at_ A i).2
section
variable {A B : List R}
theorem NO.start : NO A B 0 0 [] := ⟨trivial, fun n => ⟨fun h => absurd h (memR_nil n), fun ⟨k, h, _⟩ => by omega⟩, fun q h => (by cases h), fun j h => by omega⟩
theorem NO.inner (hA : sane A) {i a : Nat} {out : List R} (h : NO A B i a out) (hi : i < A.length) : NI A B i a (at_ A i).1 out := by
  refine ⟨h.s, fun n => ?_, fun q hq => ?_, fun j hj => ?_, Int.le_refl _, (okI hA hi).1⟩
  · rw [h.m]
    refine ⟨.inl, fun g => g.elim id ?_⟩
    rintro ⟨⟨g1, _⟩, g2, _⟩
    omega
  · obtain ⟨k, hk, g⟩ := h.g q hq
    have := gapI hA hk hi
    exact ⟨by omega, .inl ⟨k, hk, g⟩⟩
  · obtain ⟨k, hk, g5⟩ := h.b j hj
    have := gapI hA hk hi
    omega
/-- what is free of B from x on -/
theorem free_of (hB : sane B) {a : Nat} {x y : Int} (hb : ∀ j, j < a → (at_ B j).2 < x) (ha : ∀ j, a ≤ j → j < B.length → y < (at_ B j).1) {n : Int} (h1 : x ≤ n) (h2 : n ≤ y) : ¬ memR B n := by
  intro g
  obtain ⟨j, hj, g1, g2⟩ := (memI hB n).1 g
  by_cases e : j < a
  · have := hb j e; omega
  · have := ha j (by omega) hj; omega
/-- the rest of run i, laid behind the others -/
theorem NI.rest (hA : sane A) (hB : sane B) {i a : Nat} {x : Int} {out : List R} (h : NI A B i a x out) (hi : i < A.length) (c : ∀ j, a ≤ j → j < B.length → (at_ A i).2 < (at_ B j).1) : NO A B (i + 1) a (out ++ [(x, (at_ A i).2)]) := by
  obtain ⟨o1, o2, o3⟩ := okI hA hi
  have hx1 := h.x1
  have hx2 := h.x2
  refine ⟨sane_snoc.2 ⟨h.s, ⟨hx2, by simp only; omega, o3⟩, fun b q e => (h.g q (by rw [e]; simp)).1⟩, fun n => ?_, fun q hq => ?_, fun j hj => ⟨i, by omega, by have := h.b j hj; omega⟩⟩
  · rw [memR_append, h.m, memR_cons]
    have := memR_nil n
    simp only
    constructor
    · rintro ((⟨k, hk, g⟩ | ⟨g, _, g2⟩) | g | g)
      · exact ⟨k, by omega, g⟩
      · exact ⟨i, by omega, g, g2⟩
      · exact ⟨i, by omega, ⟨by omega, g.2.1⟩, free_of hB h.b c g.1 g.2.1⟩
      · exact absurd g this
    · rintro ⟨k, hk, g, g2⟩
      by_cases e : k < i
      · exact .inl (.inl ⟨k, e, g, g2⟩)
      · obtain rfl : k = i := by omega
        by_cases e2 : n < x
        · exact .inl (.inr ⟨g, e2, g2⟩)
        · exact .inr (.inl ⟨by omega, g.2, by have := g.1; omega, by have := g.2; omega⟩)
  · rcases List.mem_append.1 hq with q1 | q1
    · rcases (h.g q q1).2 with ⟨k, hk, g⟩ | g
      · exact ⟨k, by omega, g⟩
      · exact ⟨i, by omega, g⟩
    · rw [List.mem_singleton] at q1
      subst q1
      exact ⟨i, by omega, Int.le_refl _⟩
/-- what run i has ahead of run a of B -/
theorem NI.cut (hA : sane A) (hB : sane B) {i a : Nat} {x : Int} {out : List R} (h : NI A B i a x out) (hi : i < A.length) (ha : a < B.length) (c : (at_ B a).1 ≤ (at_ A i).2) :
    ∃ out', out' = (if x < (at_ B a).1 then out ++ [(x, (at_ B a).1 - 1)] else out) ∧ sane out' ∧
      (∀ n, memR out' n ↔ (∃ k, k < i ∧ inn A k n ∧ ¬ memR B n) ∨ (inn A i n ∧ n < max x ((at_ B a).2 + 1) ∧ ¬ memR B n)) ∧
      (∀ q ∈ out', q.2 + 1 < max x ((at_ B a).2 + 1) ∧ ((∃ k, k < i ∧ q.2 ≤ (at_ A k).2) ∨ q.2 ≤ (at_ A i).2)) ∧ out'.length ≤ out.length + 1 := by
  obtain ⟨o1, o2, o3⟩ := okI hA hi
  obtain ⟨p1, p2, p3⟩ := okI hB ha
  have hx1 := h.x1
  have hx2 := h.x2
  refine ⟨_, rfl, ?_⟩
  have inB : ∀ n, (at_ B a).1 ≤ n → n ≤ (at_ B a).2 → memR B n := fun n g1 g2 => (memI hB n).2 ⟨a, ha, g1, g2⟩
  by_cases c1 : x < (at_ B a).1
  · rw [if_pos c1]
    have FR : ∀ n, x ≤ n → n ≤ (at_ B a).1 - 1 → ¬ memR B n := fun n g1 g2 => free_of hB h.b (y := (at_ B a).1 - 1) (fun j hj hj2 => by
      by_cases e : j = a
      · subst e; omega
      · have := gapI hB (show a < j by omega) hj2; omega) g1 g2
    refine ⟨sane_snoc.2 ⟨h.s, ⟨by simp only; omega, by simp only; omega, by simp only; omega⟩, fun b q e => (h.g q (by rw [e]; simp)).1⟩, fun n => ?_, fun q hq => ?_, by simp⟩
    · rw [memR_append, h.m, memR_cons]
      have := memR_nil n
      simp only
      constructor
      · rintro ((g | ⟨g, g1, g2⟩) | g | g)
        · exact .inl g
        · exact .inr ⟨g, by omega, g2⟩
        · exact .inr ⟨⟨by omega, by omega⟩, by omega, FR n g.1 g.2.1⟩
        · exact absurd g this
      · rintro (g | ⟨g, g1, g2⟩)
        · exact .inl (.inl g)
        · by_cases e : n < x
          · exact .inl (.inr ⟨g, e, g2⟩)
          · by_cases e2 : n < (at_ B a).1
            · exact .inr (.inl ⟨by omega, by omega, by have := g.1; omega, by have := g.2; omega⟩)
            · exact absurd (inB n (by omega) (by omega)) g2
    · rcases List.mem_append.1 hq with q1 | q1
      · obtain ⟨g1, g2⟩ := h.g q q1
        exact ⟨by omega, g2⟩
      · rw [List.mem_singleton] at q1
        subst q1
        exact ⟨by simp only; omega, .inr (by simp only; omega)⟩
  · rw [if_neg c1]
    refine ⟨h.s, fun n => ?_, fun q hq => ⟨by have := (h.g q hq).1; omega, (h.g q hq).2⟩, by omega⟩
    rw [h.m]
    constructor
    · rintro (g | ⟨g, g1, g2⟩)
      · exact .inl g
      · exact .inr ⟨g, by omega, g2⟩
    · rintro (g | ⟨g, g1, g2⟩)
      · exact .inl g
      · by_cases e : n < x
        · exact .inr ⟨g, e, g2⟩
        · exact absurd (inB n (by omega) (by omega)) g2
/-- nothing is left of run i -/
theorem NI.gone {i a : Nat} {x y : Int} {out out' : List R} (h : NI A B i a x out) (c : (at_ A i).2 < y) (hs : sane out')
    (hm : ∀ n, memR out' n ↔ (∃ k, k < i ∧ inn A k n ∧ ¬ memR B n) ∨ (inn A i n ∧ n < y ∧ ¬ memR B n)) (hg : ∀ q ∈ out', q.2 + 1 < y ∧ ((∃ k, k < i ∧ q.2 ≤ (at_ A k).2) ∨ q.2 ≤ (at_ A i).2)) : NO A B (i + 1) a out' := by
  refine ⟨hs, fun n => ?_, fun q hq => ?_, fun j hj => ⟨i, by omega, by have := h.b j hj; have := h.x2; omega⟩⟩
  · rw [hm]
    constructor
    · rintro (⟨k, hk, g⟩ | ⟨g, _, g2⟩)
      · exact ⟨k, by omega, g⟩
      · exact ⟨i, by omega, g, g2⟩
    · rintro ⟨k, hk, g, g2⟩
      by_cases e : k < i
      · exact .inl ⟨k, e, g, g2⟩
      · obtain rfl : k = i := by omega
        exact .inr ⟨g, by have := g.2; omega, g2⟩
  · rcases (hg q hq).2 with ⟨k, hk, g⟩ | g
    · exact ⟨k, by omega, g⟩
    · exact ⟨i, by omega, g⟩
theorem NI.next {i a : Nat} {x y : Int} {out out' : List R} (h : NI A B i a x out) (c : y ≤ (at_ A i).2) (hy : x ≤ y) (hy2 : (at_ B a).2 < y) (hs : sane out')
    (hm : ∀ n, memR out' n ↔ (∃ k, k < i ∧ inn A k n ∧ ¬ memR B n) ∨ (inn A i n ∧ n < y ∧ ¬ memR B n)) (hg : ∀ q ∈ out', q.2 + 1 < y ∧ ((∃ k, k < i ∧ q.2 ≤ (at_ A k).2) ∨ q.2 ≤ (at_ A i).2)) : NI A B i (a + 1) y out' := by
  refine ⟨hs, hm, hg, fun j hj => ?_, by have := h.x1; omega, c⟩
  by_cases e : j < a
  · have := h.b j e; omega
  · obtain rfl : j = a := by omega
    exact hy2
theorem NO.done (hA : sane A) {a : Nat} {out : List R} (h : NO A B A.length a out) (n : Int) : memR out n ↔ memR A n ∧ ¬ memR B n := by
  rw [h.m, memI hA]
  exact ⟨fun ⟨k, hk, g, g2⟩ => ⟨⟨k, hk, g⟩, g2⟩, fun ⟨⟨k, hk, g⟩, g2⟩ => ⟨k, hk, g, g2⟩⟩
end
/-- what is in no run -/
def gaps : Int → List R → List R
  | f, [] => if f ≤ 1099511627776 then [(f, 1099511627776)] else []
  | f, r :: t => (if f < r.1 then [(f, r.1 - 1)] else []) ++ gaps (r.2 + 1) t
theorem gaps_ok : ∀ (s : List R) (f : Int), sane s → (∀ r t, s = r :: t → f ≤ r.1) → -1099511627776 ≤ f →
    sane (gaps f s) ∧ (∀ n, memR (gaps f s) n ↔ f ≤ n ∧ n ≤ 1099511627776 ∧ ¬ memR s n) ∧ (∀ q ∈ gaps f s, f ≤ q.1) := by
  intro s
  induction s with
  | nil =>
    intro f _ _ hf
    rw [gaps]
    have := memR_nil
    split
    · rename_i c
      refine ⟨⟨⟨c, hf, Int.le_refl _⟩, trivial, trivial⟩, fun n => ?_, fun q hq => by simp at hq; rw [hq]; exact Int.le_refl _⟩
      rw [memR_cons]
      simp only
      exact ⟨fun g => g.elim (fun g => ⟨g.1, g.2.1, this n⟩) (fun g => absurd g (this n)), fun g => .inl ⟨g.1, g.2.1, by omega, g.2.1⟩⟩
    · exact ⟨trivial, fun n => ⟨fun g => absurd g (this n), fun g => by omega⟩, fun q hq => by cases hq⟩
  | cons r t ih =>
    intro f hs hf0 hf
    have hfr := hf0 r t rfl
    obtain ⟨o1, o2, o3⟩ := sane_head hs
    have B := sane_beyond hs
    obtain ⟨i1, i2, i3⟩ := ih (r.2 + 1) (sane_tail hs) (fun q u e => by subst e; have : r.2 + 1 < q.1 := hs.2.1; omega) (by omega)
    rw [gaps]
    by_cases c : f < r.1
    · rw [if_pos c]
      refine ⟨sane_cons (r := (f, r.1 - 1)) ⟨by simp only; omega, hf, by simp only; omega⟩ (fun q u e => by have := i3 q (by rw [show gaps (r.2 + 1) t = q :: u from e]; simp); simp only; omega) i1, fun n => ?_, fun q hq => ?_⟩
      · rw [List.cons_append, List.nil_append, memR_cons, i2, sane_mem_head hs]
        simp only
        constructor
        · rintro (g | g)
          · exact ⟨g.1, by omega, fun h => h.elim (fun h => by omega) (fun h => by have := B n h; omega)⟩
          · exact ⟨by omega, g.2.1, fun h => h.elim (fun h => by omega) g.2.2⟩
        · rintro ⟨g1, g2, g3⟩
          by_cases e : n < r.1
          · exact .inl ⟨g1, by omega, by omega, g2⟩
          · refine .inr ⟨?_, g2, fun h => g3 (.inr h)⟩
            rcases Int.lt_or_le r.2 n with h | h
            · omega
            · exact absurd (.inl ⟨by omega, h⟩) g3
      · simp only [List.cons_append, List.nil_append, List.mem_cons] at hq
        rcases hq with rfl | hq
        · exact Int.le_refl _
        · have := i3 q hq; omega
    · rw [if_neg c, List.nil_append]
      refine ⟨i1, fun n => ?_, fun q hq => by have := i3 q hq; omega⟩
      rw [i2, sane_mem_head hs]
      constructor
      · rintro g
        exact ⟨by omega, g.2.1, fun h => h.elim (fun h => by omega) g.2.2⟩
      · rintro ⟨g1, g2, g3⟩
        refine ⟨?_, g2, fun h => g3 (.inr h)⟩
        rcases Int.lt_or_le r.2 n with h | h
        · omega
        · exact absurd (.inl ⟨by omega, h⟩) g3
def restR (b : List R) : List R := gaps (-1099511627776) (nf b)
theorem restR_ok (b : List R) : sane (restR b) ∧ ∀ n, memR (restR b) n ↔ -1099511627776 ≤ n ∧ n ≤ 1099511627776 ∧ ¬ memR b n := by
  obtain ⟨g1, g2, _⟩ := gaps_ok (nf b) (-1099511627776) (nf_sane b) (fun r t e => by have := nf_sane b; rw [e] at this; exact (sane_head this).2.1) (Int.le_refl _)
  exact ⟨g1, fun n => by rw [show restR b = gaps _ _ from rfl, g2, nf_mem]⟩
/-- the numbers in a, but not in b -/
def diffR (a b : List R) : List R := interR a (restR b)
theorem diffR_mem (a b : List R) (n : Int) : memR (diffR a b) n ↔ memR a n ∧ ¬ memR b n := by
  unfold diffR
  rw [interR_mem, (restR_ok b).2]
  constructor
  · rintro ⟨g, _, _, g2⟩; exact ⟨g, g2⟩
  · rintro ⟨g, g2⟩
    obtain ⟨r, _, _, _, h3, h4⟩ := g
    exact ⟨⟨r, ‹_›, ‹_›, ‹_›, h3, h4⟩, h3, h4, g2⟩
theorem diffR_sane (a b : List R) : sane (diffR a b) := nf_sane _
end Go.Proofs.YtinpglfclbnhlaaGreatDoor

namespace Go.Proofs.YtinpglfclbnhlaaGreatDoor
open Go.RowKit
set_option linter.unusedVariables false
set_option linter.unusedSimpArgs false
/-- a box of a run -/
structure Box (w : World) (b : Nat) (x y : Int) : Prop where
  c0 : w.cell? ⟨b, 0, none⟩ = some (.int .i64 x)
  c1 : w.cell? ⟨b, 1, none⟩ = some (.int .i64 y)
  f : w.frozen? ⟨b, 0, none⟩ = false
  lt : b < w.heap.size
theorem Box.kp {w w' : World} {b : Nat} {x y : Int} (h : Box w b x y) (k : Kp w w') : Box w' b x y :=
  ⟨(k.cell (p := ⟨b, 0, none⟩) h.lt).trans h.c0, (k.cell (p := ⟨b, 1, none⟩) h.lt).trans h.c1, (k.frozen (p := ⟨b, 0, none⟩) h.lt).trans h.f, Nat.lt_of_lt_of_le h.lt k.size⟩
theorem Box.grown {w w' : World} {b : Nat} {x y : Int} {row : Option Nat} (h : Box w b x y) (g : w.grownBy w' row) (hn : ∀ j, row = some j → j ≠ b) : Box w' b x y :=
  ⟨(grown_cell g h.lt hn).trans h.c0, (grown_cell g h.lt hn).trans h.c1, (grown_frozen g h.lt hn).trans h.f, Nat.lt_of_lt_of_le h.lt g.size⟩
theorem Box.set {w : World} {b : Nat} {x y : Int} (h : Box w b x y) (z : Int) : Box (w.setCell ⟨b, 0, none⟩ (.int .i64 z)) b z y :=
  ⟨World.cell?_setCell_same' _ _ _ (by rw [h.c0]; rfl), by rw [World.cell?_setCell_other _ _ _ _ (by simp)]; exact h.c1, by rw [World.frozen?_setCell]; exact h.f, by have := h.lt; simp [World.setCell]; omega⟩
theorem box_new (w : World) (x y : Int) (t : TypeId) : Box (w.alloc (.cells #[.int .i64 x, .int .i64 y] t)) w.heap.size x y :=
  ⟨by simp, by simp, by rw [show (w.alloc _).frozen? _ = w.frozen? _ from RowKit.frozen?_alloc_cells _ _ _ _]; simp [World.frozen?], by simp⟩
end Go.Proofs.YtinpglfclbnhlaaGreatDoor
