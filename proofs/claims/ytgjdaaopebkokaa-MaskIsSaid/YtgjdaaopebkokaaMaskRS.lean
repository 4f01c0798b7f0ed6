/-
  Contracts of the document's answer for layer 6: Set, number by number.
-/
import Derived.Test.YtgjdaaopebkokaaMaskRA
import Derived.Test.YtgjdaaopebkokaaRunsJ
import Derived.Test.YtgjdaaopebkokaaMaskC
import Derived.Test.YtgjdaaopebkokaaMaskD
namespace Go.Proofs.Ytgjdaaopebkokaa
open Go.RowKit
set_option linter.unusedVariables false
def mL (s : ByteArray) : Nat → List R
  | 0 => []
  | k + 1 => if matchM s k = true then mL s k ++ [((k : Int), (k : Int))] else mL s k
theorem mL_mem (s : ByteArray) (x : R) : ∀ k, x ∈ mL s k ↔ ∃ j : Nat, j < k ∧ matchM s j = true ∧ x = ((j : Int), (j : Int)) := by
  intro k
  induction k with
  | zero => simp [mL]
  | succ k ih =>
    rw [mL]
    by_cases h : matchM s k = true
    · rw [if_pos h, List.mem_append, ih, List.mem_singleton]
      constructor
      · rintro (⟨j, h1, h2⟩ | rfl)
        · exact ⟨j, by omega, h2⟩
        · exact ⟨k, by omega, h, rfl⟩
      · rintro ⟨j, h1, h2, h3⟩
        by_cases e : j = k
        · subst e; exact .inr h3
        · exact .inl ⟨j, by omega, h2, h3⟩
    · rw [if_neg h, ih]
      constructor
      · rintro ⟨j, h1, h2⟩; exact ⟨j, by omega, h2⟩
      · rintro ⟨j, h1, h2, h3⟩
        by_cases e : j = k
        · subst e; exact absurd h2 h
        · exact ⟨j, by omega, h2, h3⟩
theorem mL_ok (s : ByteArray) (k : Nat) (hk : k ≤ 10000) : ∀ r ∈ mL s k, okR r := by
  intro r hr
  obtain ⟨j, h1, h2, rfl⟩ := (mL_mem s r k).1 hr
  exact ⟨by simp, by simp only; omega, by simp only; omega⟩
theorem mL_rises (s : ByteArray) (k : Nat) : rises (mL s k) := by
  induction k with
  | zero => exact List.Pairwise.nil
  | succ k ih =>
    rw [mL]
    split
    · refine List.pairwise_append.2 ⟨ih, List.pairwise_singleton _ _, ?_⟩
      intro a ha b hb
      obtain ⟨j, h1, h2, rfl⟩ := (mL_mem s a k).1 ha
      simp only [List.mem_singleton] at hb
      subst hb
      simp only; omega
    · exact ih
theorem mL_memR (s : ByteArray) (k : Nat) (hk : k ≤ 10000) (n : Int) : memR (mL s k) n ↔ 0 ≤ n ∧ n < k ∧ matchM s n = true := by
  constructor
  · rintro ⟨r, hr, h1, h2, _⟩
    obtain ⟨j, j1, j2, rfl⟩ := (mL_mem s r k).1 hr
    simp only at h1 h2
    have e : n = j := by omega
    subst e
    exact ⟨by omega, by omega, j2⟩
  · rintro ⟨h0, h1, h2⟩
    obtain ⟨j, rfl⟩ := Int.eq_ofNat_of_zero_le h0
    exact ⟨_, (mL_mem s _ k).2 ⟨j, by omega, h2, rfl⟩, Int.le_refl _, Int.le_refl _, by omega, by omega⟩
theorem jm_rng (s : ByteArray) (k : Nat) (hk : k ≤ 10000) : ∀ q ∈ jn (mL s k), 0 ≤ q.1 ∧ q.1 ≤ q.2 ∧ q.2 < k := by
  intro q hq
  have o := jn_all _ (mL_ok s k hk) q hq
  obtain ⟨o1, o2, o3⟩ := o
  have m := (jn_ok _ (mL_ok s k hk) (mL_rises s k)).2.1
  have m2 := (mL_memR s k hk q.2).1 ((m q.2).1 ⟨q, hq, o1, Int.le_refl _, by omega, o3⟩)
  have m1 := (mL_memR s k hk q.1).1 ((m q.1).1 ⟨q, hq, Int.le_refl _, o1, o2, by omega⟩)
  omega
theorem jm_set (s : ByteArray) (h : saneM s = true) : jn (mL s (T10 s.size)) = setM s := by
  have m := mk_of h
  have t := T10_le s.size m.hi
  have j := jn_ok _ (mL_ok s _ t) (mL_rises s (T10 s.size))
  refine sane_ext j.1 (setM_sane s) fun n => ?_
  rw [j.2.1, mL_memR s _ t]
  have hh := setM_has s n
  have hs := has_sane (setM_sane s) n
  have gd := setM_gd s
  have tp := T10_P10 s.size
  constructor
  · rintro ⟨h0, h1, h2⟩
    rw [← hh, hs] at h2
    obtain ⟨r, hr, r1, r2⟩ := h2
    exact ⟨r, hr, r1, r2, by omega, by omega⟩
  · rintro ⟨r, hr, r1, r2, _⟩
    have g := gd r hr
    have h2 : matchM s n = true := by rw [← hh, hs]; exact ⟨r, hr, r1, r2⟩
    have h3 := (match_iff h n).1 h2
    exact ⟨by omega, by omega, h2⟩
theorem jm_len (s : ByteArray) (k : Nat) : (jn (mL s k)).length ≤ k := by
  refine Nat.le_trans (jn_len _) ?_
  induction k with
  | zero => simp [mL]
  | succ k ih =>
    rw [mL]
    split
    · rw [List.length_append, List.length_singleton]; omega
    · omega
theorem cells_set2 (bb : List R) (q1 q2 x : Int) : ((cellsR (bb ++ [(q1, q2)])).set (bb.length * 2) (.int .i64 q1)).set (bb.length * 2 + 1) (.int .i64 x) = cellsR (bb ++ [(q1, x)]) := by
  rw [cellsR_append, cellsR_append, List.set_append_right _ _ (by rw [cellsR_length]; omega), cellsR_length, List.set_append_right _ _ (by rw [cellsR_length]; omega), cellsR_length]
  congr 1
  rw [show bb.length * 2 - bb.length * 2 = 0 by omega, show bb.length * 2 + 1 - bb.length * 2 = 1 by omega]
  rfl
set_option maxHeartbeats 4000000 in
set_option maxRecDepth 100000 in
theorem rset_any (s : ByteArray) (w : World) (hs : s.size ≤ maxLen) :
    Calls Try.prog 24 #[.string s] w fun e w' => ∃ v : Value, e = .returned v ∧ w'.ownsRow w.heap.size 40 2 v (setM s).length (cellsR (setM s)) ∧ Kp w w' := by
  obtain ⟨i0, hi, hz0, hz1, hz2⟩ := info_parts infoR
  have C := Lib.hid (rsane_any s w hs)
  rcases Bool.eq_false_or_eq_true (saneM s) with h | h
  · rw [h] at C
    have M := mk_of h
    obtain ⟨m1, m2, m3⟩ := M
    have C2 := Lib.hid (fun w => rmost_any s.size w m2)
    have tb := T10_le s.size m2
    rw [← T10_P10] at C2
    have CM := Lib.hid (fun (k : Nat) w (hk : k ≤ 10000) => rmatch_any s k w hs (by omega) (by omega))
    have JS := Lib.hid (jm_set s h)
    have JR := Lib.hid (jm_rng s)
    have JL := Lib.hid (jm_len s)
    obtain ⟨N, hN⟩ : ∃ N, N = T10 s.size := ⟨_, rfl⟩
    rw [← hN] at C2 tb JS
    clear h hs m3 hN
    go_enter Try.func24, Try.ntmps24
    go_wp2_with fail; refine (C.out).mono ?_; rintro e w' ⟨rfl, rfl⟩
    go_wp2
    go_loopw [3, 4] (fun v i wr => ∃ k : Nat, k ≤ N ∧ i = .int .i64 k ∧ wr.ownsRow w.heap.size 40 2 v (jn (mL s k)).length (cellsR (jn (mL s k))) ∧ Kp w wr) (fun _ i _ => N - (intOf i).toNat)
    case atStart => exact ⟨0, by omega, rfl, World.ownsRow_nil _ _ _ _, Kp.refl _⟩
    case round =>
      obtain ⟨k, hk, rfl, hown, k1⟩ := hrel
      have K1 := Lib.hid k1
      have hsz := k1.size
      clear k1
      by_cases hlt : k < N
      · have C3 := Lib.hid (fun w => CM.out k w (by omega))
        have al := JL.out k
        have rg := Lib.hid (JR.out k (by omega))
        rcases Bool.eq_false_or_eq_true (matchM s k) with g | g
        · rw [g] at C3
          have S := show mL s (k + 1) = mL s k ++ [((k : Int), (k : Int))] by rw [mL, if_pos g]
          have S2 : jn (mL s (k + 1)) = jstep (jn (mL s k)) ((k : Int), (k : Int)) := by rw [S, jn_snoc]
          clear S g
          obtain ⟨a, ea⟩ : ∃ a, jn (mL s k) = a := ⟨_, rfl⟩
          rw [ea] at hown S2 al rg
          clear ea
          rcases snoc_cases a with rfl | ⟨bb, q, rfl⟩
          · have S3 := Lib.hid (show jn (mL s (k + 1)) = [((k : Int), (k : Int))] by rw [S2]; simp [jstep])
            clear S2
            simp only [List.length_nil] at hown
            obtain ⟨ad, cp, rfl⟩ : ∃ ad cp, u3 = .slice ad 0 cp := by
              rcases hown.2 with ⟨h, _⟩ | ⟨g, cp, cur, h, _⟩
              · exact ⟨_, _, h⟩
              · exact ⟨_, _, h⟩
            go_wp2_with fail; refine ((C2.out _)).mono ?_; rintro e w' ⟨rfl, rfl⟩
            go_wp2_with fail; refine ((C3.out _)).mono ?_; rintro e w' ⟨rfl, rfl⟩
            go_wp2_with (at_builtin; go_must (refine wpList_append_own _ rfl (.tmp 45) (.tmp 49) 30 rfl w.heap.size 40 i0 (.agg #[.int .i64 0, .int .i64 0]) 2 16 Try.underlying30 hi hz0 hz1 hz2 rfl (by decide) _ _ _ rfl (hown.alloc _) ⟨_, 0, none⟩ 1 1 [.int .i64 k, .int .i64 k] rfl rfl (cell_two_a _ _ _ _) (by intro u hu; simp at hu; rcases hu with rfl | rfl <;> rfl) (by unfold maxLen; omega) (by omega) (by simp; omega) ?_); intro v1 w1 hown1 hgrow1 hnil1)
            go_roundw
            case rel => exact ⟨k + 1, by omega, by go_num, by rw [S3.out]; exact hown1, kp_grown1 K1.out hgrow1 (fun j hj => (hown.lt j hj).1)⟩
            case measure => simp [intOf] <;> omega
          · rw [jstep_snoc] at S2
            obtain ⟨gb, cp, rfl, gb1, gl⟩ := World.ownsRow.form hown (by simp)
            have cq : wr.cell? ⟨gb, bb.length * 2 + 1, none⟩ = some (.int .i64 q.2) := by
              rw [hown.cellAt _ (by simp; omega), cellsR_append, List.getElem?_append_right (by rw [cellsR_length]; omega), cellsR_length]
              simp [cellsR]
            have cq0 : wr.cell? ⟨gb, bb.length * 2, none⟩ = some (.int .i64 q.1) := by
              rw [hown.cellAt _ (by simp), cellsR_append, List.getElem?_append_right (by rw [cellsR_length]; omega), cellsR_length]
              simp [cellsR]
            have fz := hown.frozenAt (bb.length * 2 + 1)
            have fz0 := hown.frozenAt (bb.length * 2)
            have rq := rg.out q (by simp)
            obtain ⟨q1, q2⟩ := q
            simp only at cq cq0 rq S2
            obtain ⟨r1, r2, r3⟩ := rq
            rw [List.length_append, List.length_singleton] at al
            have H := Lib.hid hown
            clear hown
            obtain ⟨m, em⟩ : ∃ m, bb.length = m := ⟨_, rfl⟩
            rw [em] at cq cq0 fz fz0 al
            have EM := Lib.hid em
            by_cases c : (k : Int) ≤ q2 + 1
            · have S3 := Lib.hid (show jn (mL s (k + 1)) = bb ++ [(q1, (k : Int))] by rw [S2, if_pos c, Int.max_eq_right (by omega)])
              have g2 : (q2 == (k : Int) - 1) = true := by simp; omega
              clear S2 c
              simp only [List.length_append, List.length_singleton, em] at H ⊢
              go_wp2_with fail; refine ((C2.out _)).mono ?_; rintro e w' ⟨rfl, rfl⟩
              go_wp2_with fail; refine ((C3.out _)).mono ?_; rintro e w' ⟨rfl, rfl⟩
              go_wp2
              have s1 := (World.ownsRow.stored H.out (m * 2) (.int .i64 q1)).1
              have s2 := (World.ownsRow.stored s1 (m * 2 + 1) (.int .i64 k)).1
              rw [← em, cells_set2, em] at s2
              refine ⟨⟨k + 1, by omega, by go_num, ?_, ?_⟩, by simp [intOf] <;> omega⟩
              · rw [S3.out, List.length_append, List.length_singleton, em]
                exact s2
              · exact Below.setCell (p := ⟨gb, m * 2 + 1, none⟩) (Below.setCell (p := ⟨gb, m * 2, none⟩) K1.out gb1 _) gb1 _
            · have S3 := Lib.hid (show jn (mL s (k + 1)) = (bb ++ [(q1, q2)]) ++ [((k : Int), (k : Int))] by rw [S2, if_neg c])
              have g2 : (q2 == (k : Int) - 1) = false := by simp; omega
              clear S2 c
              have hown := H.out
              simp only [List.length_append, List.length_singleton, em] at hown ⊢
              go_wp2_with fail; refine ((C2.out _)).mono ?_; rintro e w' ⟨rfl, rfl⟩
              go_wp2_with fail; refine ((C3.out _)).mono ?_; rintro e w' ⟨rfl, rfl⟩
              go_wp2_with (at_builtin; go_must (refine wpList_append_own _ rfl (.tmp 45) (.tmp 49) 30 rfl w.heap.size 40 i0 (.agg #[.int .i64 0, .int .i64 0]) 2 16 Try.underlying30 hi hz0 hz1 hz2 rfl (by decide) _ _ _ rfl (hown.alloc _) ⟨_, 0, none⟩ 1 1 [.int .i64 k, .int .i64 k] rfl rfl (cell_two_a _ _ _ _) (by intro u hu; simp at hu; rcases hu with rfl | rfl <;> rfl) (by unfold maxLen; omega) (by omega) (by simp; omega) ?_); intro v1 w1 hown1 hgrow1 hnil1)
              refine ⟨⟨k + 1, by omega, by go_num, ?_, kp_grown1 K1.out hgrow1 (fun j hj => (hown.lt j hj).1)⟩, by simp [intOf] <;> omega⟩
              rw [S3.out, cellsR_append, List.length_append, List.length_append, List.length_singleton, em]
              exact hown1
        · rw [g] at C3
          have S2 := Lib.hid (show mL s (k + 1) = mL s k by rw [mL, if_neg (by rw [g]; simp)])
          clear g
          have H := Lib.hid hown
          clear hown
          go_wp2_with fail; refine ((C2.out _)).mono ?_; rintro e w' ⟨rfl, rfl⟩
          go_wp2_with fail; refine ((C3.out _)).mono ?_; rintro e w' ⟨rfl, rfl⟩
          go_wp2
          go_roundw
          case rel => exact ⟨k + 1, by omega, by go_num, by rw [S2.out]; exact H.out, K1.out⟩
          case measure => simp [intOf] <;> omega
      · obtain rfl : k = N := by omega
        rw [JS.out] at hown
        have H := Lib.hid hown
        clear hown
        go_wp2_with fail; refine ((C2.out _)).mono ?_; rintro e w' ⟨rfl, rfl⟩
        go_wp2
        go_ret
        exact ⟨_, rfl, H.out, K1.out⟩
  · rw [h] at C
    rw [show setM s = [] by unfold setM; rw [h]; rfl]
    clear h
    go_enter Try.func24, Try.ntmps24
    go_wp2_with fail; refine (C.out).mono ?_; rintro e w' ⟨rfl, rfl⟩
    go_wp2
    go_ret
    exact ⟨_, rfl, World.ownsRow_nil _ _ _ _, Kp.refl _⟩
end Go.Proofs.Ytgjdaaopebkokaa
