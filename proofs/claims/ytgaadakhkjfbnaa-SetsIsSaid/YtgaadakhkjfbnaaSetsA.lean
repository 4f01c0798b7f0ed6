/-
  Contracts of package sets: Union, moved, Shift, Grow, Wide.
-/
import Derived.Test.YtgaadakhkjfbnaaL4A
import Derived.StillTailTactics
namespace Go.Proofs.Ytgaadakhkjfbnaa
open Go.RowKit
set_option linter.unusedVariables false
set_option linter.unusedSimpArgs false
theorem RunsAt.len {w : World} {v : Value} {l : List R} (h : RunsAt w v l) : l.length ≤ maxLen := by
  rcases h with ⟨ad, cp, rfl, rfl⟩ | ⟨b, off, cap, rfl, h1, h2, _⟩
  · simp
  · omega
set_option maxHeartbeats 1000000 in
set_option maxRecDepth 100000 in
theorem union_any (v u : Value) (l m : List R) (w : World) (hv : RunsAt w v l) (hu : RunsAt w u m) (hl : I64R l) (hm : I64R m) (hn : l.length + m.length ≤ 1000000) :
    Calls Try.prog 38 #[v, u] w fun e w' => ∃ v' : Value, e = .returned v' ∧ w'.ownsRow w.heap.size 35 2 v' (nf (l ++ m)).length (cellsR (nf (l ++ m))) ∧ Kp w w' := by
  obtain ⟨i0, hi, hz0, hz1, hz2⟩ := info_parts infoR
  obtain ⟨ad, c, rfl⟩ := hv.slice
  obtain ⟨ad2, c2, rfl⟩ := hu.slice
  have HV := Lib.hid hv
  have HU := Lib.hid hu
  have HI := Lib.hid (show I64R (l ++ m) from fun r hr => (List.mem_append.1 hr).elim (hl r) (hm r))
  have ws : IntKind.i64.wrap ((l.length : Int) + (m.length : Int)) = (l.length : Int) + (m.length : Int) := by rw [IntKind.wrap_i64]; omega
  clear hv hu hl hm
  go_enter Try.func38, Try.ntmps38
  go_wp2_with (first
    | (at_make; refine wpList_make_own _ rfl _ _ 22 rfl w.heap.size 35 i0 (.agg #[.int .i64 0, .int .i64 0]) 2 Try.underlying22 hi hz0 hz1 .i64 .i64 _ (l.length + m.length) rfl rfl rfl (by rw [hz2]; omega) (by unfold maxLen; omega) (Nat.le_refl _) ?_; intro w0 hown0 hgrow0; have K0 := Lib.hid ((Kp.refl w).grown hgrow0 (fun k h => by cases h)))
    | (at_builtin; refine wpList_app rfl (.tmp 12) (.tmp 13) 22 rfl w.heap.size 35 i0 (.agg #[.int .i64 0, .int .i64 0]) 2 16 Try.underlying22 hi hz0 hz1 hz2 rfl (by decide) _ _ _ rfl hown0 _ _ _ rfl (HV.out.kp K0.out).src (cellsR_length _) (cells_one _) (by unfold maxLen; omega) (by omega) K0.out.size ?_; intro v1 w1 hown1 hgrow1 hat1; have K1 := Lib.hid (K0.out.grown hgrow1 (fun j hj => (hown0.lt j hj).1)); have O1 := Lib.hid (own_len (l := []) hown1))
    | (at_builtin; refine wpList_app rfl (.tmp 15) (.tmp 16) 22 rfl w.heap.size 35 i0 (.agg #[.int .i64 0, .int .i64 0]) 2 16 Try.underlying22 hi hz0 hz1 hz2 rfl (by decide) _ _ _ rfl O1.out _ _ _ rfl (HU.out.kp K1.out).src (cellsR_length _) (cells_one _) (by simp; unfold maxLen; omega) (by simp; omega) K1.out.size ?_; intro v2 w2 hown2 hgrow2 hat2; have K2 := Lib.hid (K1.out.grown hgrow2 (fun j hj => (O1.out.lt j hj).1)); have O2 := Lib.hid (own_len hown2))
    | (go_at_call 29; refine (make_any v2 (([] ++ l) ++ m) w2 (runsAt_own O2.out) (by rw [List.nil_append]; exact HI.out) (by simp; omega)).mono ?_; rintro e w3 ⟨v3, rfl, own3, k3⟩))
  go_ret
  rw [List.nil_append] at own3
  exact ⟨_, rfl, own_mono own3 K2.out.size, K2.out.trans k3⟩
theorem one_src2 (w : World) (o : Obj) (lo hi' : Int) (t : TypeId) : SrcAt ((w.alloc o).alloc (.cells #[.int .i64 lo, .int .i64 hi'] t)) (.slice (some ⟨w.heap.size + 1, 0, none⟩) 1 1) 1 [.int .i64 lo, .int .i64 hi'] := by
  have h := one_src (w.alloc o) lo hi' t
  simpa using h
/-- each run, moved -/
def shR (a b : Int) (l : List R) : List R := l.map fun r => (r.1 + a, r.2 + b)
theorem shR_len (a b : Int) (l : List R) : (shR a b l).length = l.length := by unfold shR; simp
theorem shR_take (a b : Int) (l : List R) (k : Nat) (h : k < l.length) : shR a b (l.take (k + 1)) = shR a b (l.take k) ++ [((at_ l k).1 + a, (at_ l k).2 + b)] := by
  rw [take_at l k h]; unfold shR; simp
theorem shR_i64 {a b : Int} {l : List R} (h : ∀ r ∈ l, okR r) (a1 : -2199023255552 ≤ a) (a2 : a ≤ 2199023255552) (b1 : -2199023255552 ≤ b) (b2 : b ≤ 2199023255552) : I64R (shR a b l) := by
  intro r hr
  unfold shR at hr
  simp only [List.mem_map] at hr
  obtain ⟨q, hq, rfl⟩ := hr
  obtain ⟨o1, o2, o3⟩ := h q hq
  simp only
  omega
set_option maxHeartbeats 2000000 in
set_option maxRecDepth 100000 in
theorem moved_any (v : Value) (l : List R) (a b : Int) (w : World) (hv : RunsAt w v l) (hl : I64R l) (hn : l.length ≤ 1000000) (a1 : -2199023255552 ≤ a) (a2 : a ≤ 2199023255552) (b1 : -2199023255552 ≤ b) (b2 : b ≤ 2199023255552) :
    Calls Try.prog 70 #[v, .int .i64 a, .int .i64 b] w fun e w' => ∃ v' : Value, e = .returned v' ∧ w'.ownsRow w.heap.size 35 2 v' (nf (shR a b (nf l))).length (cellsR (nf (shR a b (nf l)))) ∧ Kp w w' := by
  obtain ⟨i0, hi, hz0, hz1, hz2⟩ := info_parts infoR
  have C1 := Lib.hid (make_any v l w hv hl hn)
  have nl := nf_len l
  have OK := Lib.hid (sane_ok (nf_sane l))
  have SI := Lib.hid (shR_i64 OK.out a1 a2 b1 b2)
  have hL : (nf l).length ≤ 1000000 := by omega
  clear hv hl nl hn
  generalize nf l = L at *
  go_enter Try.func70, Try.ntmps70
  go_wp2_with fail
  refine (C1.out).mono ?_
  rintro e w1 ⟨v1, rfl, own1, kk⟩
  have K1 := Lib.hid kk
  have R1 := Lib.hid (runsAt_own own1)
  obtain ⟨ad1, c1, rfl⟩ := R1.out.slice
  clear own1 kk C1
  go_wp2_with (at_make; refine wpList_make_own _ rfl _ _ 22 rfl w1.heap.size 35 i0 (.agg #[.int .i64 0, .int .i64 0]) 2 Try.underlying22 hi hz0 hz1 .i64 .i64 _ L.length rfl rfl rfl (by rw [hz2]; omega) (by unfold maxLen; omega) (Nat.le_refl _) ?_; intro w0 hown0 hgrow0)
  go_loopw [7, 17] (fun u7 i wr => ∃ k : Nat, k ≤ L.length ∧ i = .int .i64 k ∧ Hid (wr.ownsRow w1.heap.size 35 2 u7 (shR a b (L.take k)).length (cellsR (shR a b (L.take k)))) ∧ Hid (Kp w1 wr)) (fun _ i _ => L.length - (intOf i).toNat)
  case atStart => exact ⟨0, Nat.zero_le _, rfl, Lib.hid hown0, Lib.hid ((Kp.refl w1).grown hgrow0 (fun k h => by cases h))⟩
  case round =>
    obtain ⟨k, hk, rfl, O, K2⟩ := hrel
    by_cases hlt : k < L.length
    · rcases R1.out with ⟨_, _, _, e⟩ | ⟨b0, off, cap, ev, hc, hm, hx⟩
      · rw [e] at hlt; simp at hlt
      cases ev
      obtain ⟨d1, d2⟩ := rd_at hx K2.out k hlt
      clear hx
      obtain ⟨o1, o2, o3⟩ := OK.out _ (at_mem hlt)
      have S := Lib.hid (shR_take a b L k hlt)
      have tl : (shR a b (L.take k)).length ≤ k := by rw [shR_len]; exact List.length_take_le _ _
      obtain ⟨lo, hi', ee⟩ : ∃ x y, at_ L k = (x, y) := ⟨_, _, rfl⟩
      rw [ee] at d1 d2 o1 o2 o3 S
      simp only at d1 d2 o1 o2 o3 S
      clear ee
      have hsz := K2.out.size
      have wa : IntKind.i64.wrap (lo + a) = lo + a := by rw [IntKind.wrap_i64]; omega
      have wb : IntKind.i64.wrap (hi' + b) = hi' + b := by rw [IntKind.wrap_i64]; omega
      have z0 : (0 : Int) ≤ (k : Int) := by omega
      have z1 : (k : Int) < (L.length : Int) := by omega
      go_wp2_with (at_builtin; refine wpList_app rfl (.tmp 21) (.tmp 31) 22 rfl w1.heap.size 35 i0 (.agg #[.int .i64 0, .int .i64 0]) 2 16 Try.underlying22 hi hz0 hz1 hz2 rfl (by decide) _ _ _ rfl ((O.out.alloc _).alloc _) _ _ _ rfl (one_src2 _ _ _ _ _) rfl (by intro u hu; simp at hu; rcases hu with rfl | rfl <;> rfl) (by unfold maxLen; omega) (by omega) (by simp; omega) ?_; intro v4 w4 hown4 hgrow4 hat4)
      go_roundw
      case rel => exact ⟨k + 1, by omega, by go_num, Lib.hid (by rw [S.out]; exact own_snoc hown4), Lib.hid (Kp.grown (K2.out.trans ((Kp.alloc _ _).trans (Kp.alloc _ _))) hgrow4 (fun j hj => (O.out.lt j hj).1))⟩
      case measure => simp [intOf]; omega
    · have A : L.take k = L := by rw [show k = L.length by omega, List.take_length]
      rw [A] at O
      clear A
      have q : decide ((k : Int) < L.length) = false := by simp; omega
      have C := Lib.hid (make_any _ (shR a b L) wr (runsAt_own O.out) SI.out (by rw [shR_len]; exact hL))
      have hsz := Nat.le_trans K1.out.size K2.out.size
      go_wp2_with fail
      refine (C.out).mono ?_
      rintro e w5 ⟨v5, rfl, own5, kk⟩
      have KK := Lib.hid (K1.out.trans (K2.out.trans kk))
      have OO := Lib.hid (own_mono own5 hsz)
      clear kk own5
      go_wp2
      go_ret
      exact ⟨_, rfl, OO.out, KK.out⟩
theorem nf_nil : nf [] = [] := rfl
theorem sh_out {l : List R} (h : sane l) {k : Int} (hk : k < -2199023255552 ∨ 2199023255552 < k) : nf (shR k k l) = [] := by
  refine nf_eq trivial fun n => ⟨fun g => absurd g (memR_nil n), ?_⟩
  rintro ⟨r, hr, g1, g2, g3, g4⟩
  unfold shR at hr
  simp only [List.mem_map] at hr
  obtain ⟨q, hq, rfl⟩ := hr
  obtain ⟨o1, o2, o3⟩ := sane_ok h q hq
  simp only at g1 g2
  exfalso; omega
set_option maxHeartbeats 1000000 in
theorem shift_any (v : Value) (l : List R) (k : Int) (w : World) (hv : RunsAt w v l) (hl : I64R l) (hn : l.length ≤ 1000000) :
    Calls Try.prog 44 #[v, .int .i64 k] w fun e w' => ∃ v' : Value, e = .returned v' ∧ w'.ownsRow w.heap.size 35 2 v' (nf (shR k k (nf l))).length (cellsR (nf (shR k k (nf l)))) ∧ Kp w w' := by
  by_cases h1 : 2199023255552 < k
  · have q1 : decide (2199023255552 < k) = true := decide_eq_true h1
    rw [sh_out (nf_sane l) (.inr h1)]
    clear hv
    go_enter Try.func44, Try.ntmps44
    go_wp2
    go_ret
    exact ⟨_, rfl, World.ownsRow_nil _ _ _ _, Kp.refl _⟩
  · have q1 : decide (2199023255552 < k) = false := decide_eq_false h1
    by_cases h2 : k < -2199023255552
    · have q2 : decide (k < -2199023255552) = true := decide_eq_true h2
      rw [sh_out (nf_sane l) (.inl h2)]
      clear hv
      go_enter Try.func44, Try.ntmps44
      go_wp2
      go_ret
      exact ⟨_, rfl, World.ownsRow_nil _ _ _ _, Kp.refl _⟩
    · have q2 : decide (k < -2199023255552) = false := decide_eq_false h2
      have C := Lib.hid (moved_any v l k k w hv hl hn (by omega) (by omega) (by omega) (by omega))
      clear hv
      go_enter Try.func44, Try.ntmps44
      go_wp2_with fail
      refine (C.out).mono ?_
      rintro e w1 ⟨v1, rfl, own1, kk⟩
      have O := Lib.hid own1
      have K := Lib.hid kk
      clear own1 kk
      go_wp2
      go_ret
      exact ⟨_, rfl, O.out, K.out⟩
def grK (k : Int) : Int := min (max k 0) 2199023255552
set_option maxHeartbeats 1000000 in
set_option maxRecDepth 100000 in
theorem grow_any (v : Value) (l : List R) (k : Int) (w : World) (hv : RunsAt w v l) (hl : I64R l) (hn : l.length ≤ 1000000) :
    Calls Try.prog 46 #[v, .int .i64 k] w fun e w' => ∃ v' : Value, e = .returned v' ∧ w'.ownsRow w.heap.size 35 2 v' (nf (shR (-(grK k)) (grK k) (nf l))).length (cellsR (nf (shR (-(grK k)) (grK k) (nf l)))) ∧ Kp w w' := by
  have g : 0 ≤ grK k ∧ grK k ≤ 2199023255552 := by unfold grK; omega
  have C := Lib.hid (moved_any v l (-(grK k)) (grK k) w hv hl hn (by omega) (by omega) (by omega) (by omega))
  obtain ⟨x, hx⟩ : ∃ x, min (max k 0) 2199023255552 = x := ⟨_, rfl⟩
  have E : grK k = x := hx
  rw [E] at C g ⊢
  have wn : IntKind.i64.wrap (-x) = -x := by rw [IntKind.wrap_i64]; omega
  clear E hv hl
  go_enter Try.func46, Try.ntmps46
  go_wp2_with fail
  refine (C.out).mono ?_
  rintro e w1 ⟨v1, rfl, own1, kk⟩
  have O := Lib.hid own1
  have K := Lib.hid kk
  clear own1 kk
  go_wp2
  go_ret
  exact ⟨_, rfl, O.out, K.out⟩
theorem wide_any (v : Value) (l : List R) (w : World) (hv : RunsAt w v l) (hl : I64R l) (hn : l.length ≤ 1000000) :
    Calls Try.prog 50 #[v] w fun e w' => e = .returned (.bool (decide (400 < (nf l).length))) ∧ Kp w w' := by
  have C := Lib.hid (make_any v l w hv hl hn)
  clear hv hl
  generalize nf l = L at *
  have E : Hid (decide ((400 : Int) < (L.length : Int)) = decide (400 < L.length)) := by
    unfold Hid
    have : ((400 : Int) < (L.length : Int)) ↔ 400 < L.length := by omega
    simp only [this]
  go_enter Try.func50, Try.ntmps50
  go_wp2_with fail
  refine (C.out).mono ?_
  rintro e w1 ⟨v1, rfl, own1, kk⟩
  obtain ⟨ad, c, rfl⟩ := (runsAt_own own1).slice
  have K := Lib.hid kk
  clear own1 kk C
  go_wp2
  go_ret
  exact ⟨ret_bool E.out, K.out⟩
end Go.Proofs.Ytgaadakhkjfbnaa
