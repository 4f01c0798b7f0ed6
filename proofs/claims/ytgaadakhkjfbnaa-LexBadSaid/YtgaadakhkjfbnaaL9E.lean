/-
  Layer 9: the walk of LexBad.
-/
import Derived.Test.YtgaadakhkjfbnaaL9A
import Derived.LoopTactic
import Derived.Laws.BytesArg
namespace Go.Proofs.Ytgaadakhkjfbnaa
open Go.RowKit Go.Shelf
set_option linter.unusedVariables false
set_option linter.unusedSimpArgs false
theorem isW_hi (c : UInt8) (h : c.toNat ≤ 32 ∨ 128 ≤ c.toNat ∨ c = 101) : isW c = false ∧ sgn [c] = 0 ∧ c ≠ 46 := by
  have g : ∀ n : Fin 256, (n.val ≤ 32 ∨ 128 ≤ n.val ∨ n.val = 101) → isW ⟨⟨n⟩⟩ = false ∧ sgn [⟨⟨n⟩⟩] = 0 ∧ (⟨⟨n⟩⟩ : UInt8) ≠ 46 := by decide +kernel
  refine g c.toBitVec.toFin ?_
  rcases h with h | h | h
  · exact .inl h
  · exact .inr (.inl h)
  · subst h; exact .inr (.inr rfl)
/-- with a byte that no token has behind it -/
theorem lx_odd {l : List UInt8} {ts : List Tk} (h : Lx l 0 ts none) {c : UInt8} (t : List UInt8) (h32 : c ≠ 32) (hw : isW c = false) (ht : tok (c :: t) = none) : Lx (l ++ c :: t) 0 ts (some l.length) := by
  have := lx_more h rfl (startsW_of hw t) (ts2 := []) (e2 := some l.length) (by rw [Nat.zero_add]; exact .bad h32 ht)
  rwa [List.append_nil] at this
def ones : Nat → ByteArray
  | 0 => { data := #[] }
  | k + 1 => ones k ++ { data := #[49] }
theorem ones_size (k : Nat) : (ones k).size = k := by
  induction k with
  | zero => rfl
  | succ k ih => rw [ones, ByteArray.size_append, ih]; rfl
set_option maxHeartbeats 8000000 in
set_option maxRecDepth 100000 in
theorem lexBad_walk (s : ByteArray) (c : Int) (m : ByteArray) (w : World) (hs : s.size ≤ maxLen) (hm : m.size ≤ maxLen) (c0 : 0 ≤ c) (c1 : c ≤ 255) :
    Calls Try.prog 19 #[.string s, .int .u8 c, .string m] w fun e w' => e = .returned (.bool true) ∧ Kp w w' := by
  have hs' : s.size ≤ 9223372036854775807 := by unfold maxLen at hs; omega
  have hm' : m.size ≤ 9223372036854775807 := by unfold maxLen at hm; omega
  by_cases h4 : 400 < s.size
  · have q : decide ((400 : Int) < s.size) = true := decide_eq_true (by omega)
    go_enter Try.func19, Try.ntmps19
    go_wp2_with fail; refine (awake09 _).mono ?_; rintro e w1 ⟨rfl, kk⟩; have K1 := Lib.hid ((Lib.hid (Kp.refl w)).out.trans kk); clear kk
    go_wp2
    go_ret
    exact ⟨rfl, K1.out⟩
  have q : decide ((400 : Int) < s.size) = false := decide_eq_false (by omega)
  by_cases h5 : 400 < m.size
  · have q2 : decide ((400 : Int) < m.size) = true := decide_eq_true (by omega)
    go_enter Try.func19, Try.ntmps19
    go_wp2_with fail; refine (awake09 _).mono ?_; rintro e w1 ⟨rfl, kk⟩; have K1 := Lib.hid ((Lib.hid (Kp.refl w)).out.trans kk); clear kk
    go_wp2
    go_ret
    exact ⟨rfl, K1.out⟩
  have q2 : decide ((400 : Int) < m.size) = false := decide_eq_false (by omega)
  obtain ⟨ts, e0, hx⟩ := lx_ex s.data.toList 0
  have HL : s.data.toList.length = s.size := by simp
  have hs4 : (s.size : Int) ≤ 400 := by omega
  have hm4 : (m.size : Int) ≤ 400 := by omega
  cases e0 with
  | some p =>
    have C1 := Lib.hid (fun w1 => lallS s ts p w1 (by omega) hx)
    clear hs hm hx HL
    by_cases g1 : 32 < c
    · have d1 : decide (32 < c) = true := decide_eq_true g1
      by_cases g2 : c < 128
      · have d2 : decide (c < 128) = true := decide_eq_true g2
        go_enter Try.func19, Try.ntmps19
        go_wp2_with fail; refine (awake09 _).mono ?_; rintro e w1 ⟨rfl, kk⟩; have K1 := Lib.hid ((Lib.hid (Kp.refl w)).out.trans kk); clear kk
        go_wp2_with fail; refine (C1.out _).mono ?_; rintro e w2 ⟨rfl, kk⟩; have K2 := Lib.hid (K1.out.trans kk); clear kk
        go_wp2
        go_ret
        exact ⟨rfl, K2.out⟩
      · have d2 : decide (c < 128) = false := decide_eq_false g2
        go_enter Try.func19, Try.ntmps19
        go_wp2_with fail; refine (awake09 _).mono ?_; rintro e w1 ⟨rfl, kk⟩; have K1 := Lib.hid ((Lib.hid (Kp.refl w)).out.trans kk); clear kk
        go_wp2_with fail; refine (C1.out _).mono ?_; rintro e w2 ⟨rfl, kk⟩; have K2 := Lib.hid (K1.out.trans kk); clear kk
        go_wp2
        go_ret
        exact ⟨rfl, K2.out⟩
    · have d1 : decide (32 < c) = false := decide_eq_false g1
      go_enter Try.func19, Try.ntmps19
      go_wp2_with fail; refine (awake09 _).mono ?_; rintro e w1 ⟨rfl, kk⟩; have K1 := Lib.hid ((Lib.hid (Kp.refl w)).out.trans kk); clear kk
      go_wp2_with fail; refine (C1.out _).mono ?_; rintro e w2 ⟨rfl, kk⟩; have K2 := Lib.hid (K1.out.trans kk); clear kk
      go_wp2
      go_ret
      exact ⟨rfl, K2.out⟩
  | none =>
    have C1 := Lib.hid (fun w1 => lallN s ts w1 (by omega) hx)
    -- the byte that stands there
    have key : ∀ x : UInt8, x ≠ 32 → (x.toNat ≤ 32 ∨ 128 ≤ x.toNat ∨ x = 101) → ∀ w1, Calls Try.prog 54 #[.string (s ++ { data := #[x] } ++ m)] w1 fun en w' => en = .returned (.tuple #[.slice none 0 0, .int .i64 (s.size : Nat), .int .i64 1]) ∧ Kp w1 w' := by
      intro x x32 hxx w1
      obtain ⟨a1, a2, a3⟩ := isW_hi x hxx
      have E : (s ++ { data := #[x] } ++ m).data.toList = s.data.toList ++ x :: m.data.toList := by simp [ByteArray.data_append]
      have L := lx_odd hx m.data.toList x32 a1 (tok_odd _ a1 a2 a3)
      rw [← E, HL] at L
      exact lallS _ ts s.size w1 (by rw [ByteArray.size_append, ByteArray.size_append]; show s.size + 1 + m.size ≤ 2000; omega) L
    have CD := Lib.hid (show ∀ w1, Calls Try.prog 54 #[.string (s ++ { data := #[46] })] w1 fun en w' => en = .returned (.tuple #[.slice none 0 0, .int .i64 (s.size : Nat), .int .i64 1]) ∧ Kp w1 w' by
      intro w1
      have E : (s ++ { data := #[46] }).data.toList = s.data.toList ++ [46] := by simp [ByteArray.data_append]
      have L := lx_odd hx [] (c := 46) (by decide) (by decide) tok_dot
      rw [← E, HL] at L
      exact lallS _ ts s.size w1 (by rw [ByteArray.size_append]; show s.size + 1 ≤ 2000; omega) L)
    have CL := Lib.hid (fun w1 => lallW (ones 2001) w1 (by rw [ones_size]; omega) (by rw [ones_size]; unfold maxLen; omega))
    have KEY := Lib.hid key
    clear hx HL key hs hm
    by_cases g32 : c = 32
    · subst g32
      clear KEY CD CL
      go_enter Try.func19, Try.ntmps19
      go_wp2_with fail; refine (awake09 _).mono ?_; rintro e w1 ⟨rfl, kk⟩; have K1 := Lib.hid ((Lib.hid (Kp.refl w)).out.trans kk); clear kk
      go_wp2_with fail
      refine (C1.out _).mono ?_
      rintro e w2 ⟨v1, rfl, t1, kk⟩
      have K2 := Lib.hid (K1.out.trans kk)
      clear kk t1
      go_wp2
      go_ret
      exact ⟨rfl, K2.out⟩
    · have q32 : (c == 32) = false := by simpa using g32
      by_cases g1 : 32 < c ∧ c < 128
      · have d1 : decide (32 < c) = true := decide_eq_true g1.1
        have d2 : decide (c < 128) = true := decide_eq_true g1.2
        have KE := KEY.out 101 (by decide) (.inr (.inr rfl))
        have US := Lib.hid (show strOfNums [101] = { data := #[101] } by rfl)
        rw [← US.out] at KE
        clear KEY g1
        have KE2 := Lib.hid KE; have lu := strOfNums_size [101]; clear KE
        go_enter Try.func19, Try.ntmps19
        go_wp2_with fail; refine (awake09 _).mono ?_; rintro e w1 ⟨rfl, kk⟩; have K1 := Lib.hid ((Lib.hid (Kp.refl w)).out.trans kk); clear kk
        go_wp2_with fail
        refine (C1.out _).mono ?_
        rintro e w2 ⟨v1, rfl, t1, kk⟩
        have K2 := Lib.hid (K1.out.trans kk)
        obtain ⟨ad1, cc1, rfl⟩ := t1.slice
        clear kk t1
        have hcv := run_convert_bytes_arg (P := Try.prog) (w2.alloc (.cells #[.int .u8 (101)] 5)) 57 5 Try.underlying57 Try.underlying5 w2.heap.size 0 1 1 [101] rfl (by intro i hi; obtain rfl : i = 0 := (by omega); simp) 9 Try.underlying9
        generalize strOfNums [101] = u at *
        simp only [List.length_singleton] at lu
        go_wp2_with fail
        refine (KE2.out _).mono ?_
        rintro e w3 ⟨rfl, kk⟩
        have K3 := Lib.hid (K2.out.trans ((Kp.alloc _ _).trans kk))
        clear kk hcv
        go_wp2_with fail; refine (CD.out _).mono ?_; rintro e w4 ⟨rfl, kk⟩; have K4 := Lib.hid (K3.out.trans kk); clear kk
        go_wp2
        go_loopw [18, 19] (fun u18 u19 wr => ∃ k : Nat, k ≤ 2001 ∧ u19 = .int .i64 k ∧ u18 = .string (ones k) ∧ Hid (Kp w4 wr)) (fun _ u19 _ => 2001 - (intOf u19).toNat)
        case atStart => exact ⟨0, Nat.zero_le _, rfl, rfl, Lib.hid (Kp.refl _)⟩
        case round =>
          obtain ⟨k, hk, rfl, rfl, K5⟩ := hrel
          have LS := ones_size k
          by_cases hlt : k < 2001
          · have z1 : decide ((k : Int) < 2001) = true := decide_eq_true (by omega)
            have z2 : (k : Int) < 2001 := by omega
            have NX := Lib.hid (show ones (k + 1) = ones k ++ { data := #[49] } from rfl)
            generalize ones k = o at *
            go_wp2
            refine ⟨⟨k + 1, by omega, by go_num, by rw [NX.out], K5⟩, by simp only [intOf]; omega⟩
          · have z1 : decide ((k : Int) < 2001) = false := decide_eq_false (by omega)
            obtain rfl : k = 2001 := by omega
            generalize ones 2001 = o at *
            go_wp2_with fail
            refine (CL.out _).mono ?_
            rintro e w6 ⟨rfl, kk⟩
            have K6 := Lib.hid (K4.out.trans (K5.out.trans kk))
            clear kk
            go_wp2
            go_ret
            exact ⟨rfl, K6.out⟩
      · have HX : (c.toNat.toUInt8).toNat = c.toNat := by simp; omega
        have KE := KEY.out c.toNat.toUInt8 (by intro h; apply g32; have := congrArg UInt8.toNat h; rw [HX] at this; have h2 : (32 : UInt8).toNat = 32 := rfl; omega) (by rw [HX]; omega)
        have US := Lib.hid (show strOfNums [c] = { data := #[c.toNat.toUInt8] } by unfold strOfNums; simp)
        rw [← US.out] at KE
        clear KEY HX
        by_cases g2 : 32 < c
        · have d1 : decide (32 < c) = true := decide_eq_true g2
          have d2 : decide (c < 128) = false := decide_eq_false (by omega)
          clear g1 g2
          have KE2 := Lib.hid KE; have lu := strOfNums_size [c]; clear KE
          go_enter Try.func19, Try.ntmps19
          go_wp2_with fail; refine (awake09 _).mono ?_; rintro e w1 ⟨rfl, kk⟩; have K1 := Lib.hid ((Lib.hid (Kp.refl w)).out.trans kk); clear kk
          go_wp2_with fail
          refine (C1.out _).mono ?_
          rintro e w2 ⟨v1, rfl, t1, kk⟩
          have K2 := Lib.hid (K1.out.trans kk)
          obtain ⟨ad1, cc1, rfl⟩ := t1.slice
          clear kk t1
          have hcv := run_convert_bytes_arg (P := Try.prog) (w2.alloc (.cells #[.int .u8 (c)] 5)) 57 5 Try.underlying57 Try.underlying5 w2.heap.size 0 1 1 [c] rfl (by intro i hi; obtain rfl : i = 0 := (by omega); simp) 9 Try.underlying9
          generalize strOfNums [c] = u at *
          simp only [List.length_singleton] at lu
          go_wp2_with fail
          refine (KE2.out _).mono ?_
          rintro e w3 ⟨rfl, kk⟩
          have K3 := Lib.hid (K2.out.trans ((Kp.alloc _ _).trans kk))
          clear kk hcv
          go_wp2_with fail; refine (CD.out _).mono ?_; rintro e w4 ⟨rfl, kk⟩; have K4 := Lib.hid (K3.out.trans kk); clear kk
          go_wp2
          go_loopw [18, 19] (fun u18 u19 wr => ∃ k : Nat, k ≤ 2001 ∧ u19 = .int .i64 k ∧ u18 = .string (ones k) ∧ Hid (Kp w4 wr)) (fun _ u19 _ => 2001 - (intOf u19).toNat)
          case atStart => exact ⟨0, Nat.zero_le _, rfl, rfl, Lib.hid (Kp.refl _)⟩
          case round =>
            obtain ⟨k, hk, rfl, rfl, K5⟩ := hrel
            have LS := ones_size k
            by_cases hlt : k < 2001
            · have z1 : decide ((k : Int) < 2001) = true := decide_eq_true (by omega)
              have z2 : (k : Int) < 2001 := by omega
              have NX := Lib.hid (show ones (k + 1) = ones k ++ { data := #[49] } from rfl)
              generalize ones k = o at *
              go_wp2
              refine ⟨⟨k + 1, by omega, by go_num, by rw [NX.out], K5⟩, by simp only [intOf]; omega⟩
            · have z1 : decide ((k : Int) < 2001) = false := decide_eq_false (by omega)
              obtain rfl : k = 2001 := by omega
              generalize ones 2001 = o at *
              go_wp2_with fail
              refine (CL.out _).mono ?_
              rintro e w6 ⟨rfl, kk⟩
              have K6 := Lib.hid (K4.out.trans (K5.out.trans kk))
              clear kk
              go_wp2
              go_ret
              exact ⟨rfl, K6.out⟩
        · have d1 : decide (32 < c) = false := decide_eq_false g2
          clear g1 g2
          have KE2 := Lib.hid KE; have lu := strOfNums_size [c]; clear KE
          go_enter Try.func19, Try.ntmps19
          go_wp2_with fail; refine (awake09 _).mono ?_; rintro e w1 ⟨rfl, kk⟩; have K1 := Lib.hid ((Lib.hid (Kp.refl w)).out.trans kk); clear kk
          go_wp2_with fail
          refine (C1.out _).mono ?_
          rintro e w2 ⟨v1, rfl, t1, kk⟩
          have K2 := Lib.hid (K1.out.trans kk)
          obtain ⟨ad1, cc1, rfl⟩ := t1.slice
          clear kk t1
          have hcv := run_convert_bytes_arg (P := Try.prog) (w2.alloc (.cells #[.int .u8 (c)] 5)) 57 5 Try.underlying57 Try.underlying5 w2.heap.size 0 1 1 [c] rfl (by intro i hi; obtain rfl : i = 0 := (by omega); simp) 9 Try.underlying9
          generalize strOfNums [c] = u at *
          simp only [List.length_singleton] at lu
          go_wp2_with fail
          refine (KE2.out _).mono ?_
          rintro e w3 ⟨rfl, kk⟩
          have K3 := Lib.hid (K2.out.trans ((Kp.alloc _ _).trans kk))
          clear kk hcv
          go_wp2_with fail; refine (CD.out _).mono ?_; rintro e w4 ⟨rfl, kk⟩; have K4 := Lib.hid (K3.out.trans kk); clear kk
          go_wp2
          go_loopw [18, 19] (fun u18 u19 wr => ∃ k : Nat, k ≤ 2001 ∧ u19 = .int .i64 k ∧ u18 = .string (ones k) ∧ Hid (Kp w4 wr)) (fun _ u19 _ => 2001 - (intOf u19).toNat)
          case atStart => exact ⟨0, Nat.zero_le _, rfl, rfl, Lib.hid (Kp.refl _)⟩
          case round =>
            obtain ⟨k, hk, rfl, rfl, K5⟩ := hrel
            have LS := ones_size k
            by_cases hlt : k < 2001
            · have z1 : decide ((k : Int) < 2001) = true := decide_eq_true (by omega)
              have z2 : (k : Int) < 2001 := by omega
              have NX := Lib.hid (show ones (k + 1) = ones k ++ { data := #[49] } from rfl)
              generalize ones k = o at *
              go_wp2
              refine ⟨⟨k + 1, by omega, by go_num, by rw [NX.out], K5⟩, by simp only [intOf]; omega⟩
            · have z1 : decide ((k : Int) < 2001) = false := decide_eq_false (by omega)
              obtain rfl : k = 2001 := by omega
              generalize ones 2001 = o at *
              go_wp2_with fail
              refine (CL.out _).mono ?_
              rintro e w6 ⟨rfl, kk⟩
              have K6 := Lib.hid (K4.out.trans (K5.out.trans kk))
              clear kk
              go_wp2
              go_ret
              exact ⟨rfl, K6.out⟩
end Go.Proofs.Ytgaadakhkjfbnaa
