/-
  Layer 9: the walk of LexIs.
-/
import Derived.Test.YtgaadakhkjfbnaaL9A
namespace Go.Proofs.Ytgaadakhkjfbnaa
open Go.RowKit Go.Shelf
set_option linter.unusedVariables false
set_option linter.unusedSimpArgs false
theorem few_of {l : List Tk} (h : fewB l = true) : l.length ≤ 60 ∧ ∀ t ∈ l, t.2.2.length ≤ 40 := by
  unfold fewB at h
  rw [Bool.and_eq_true, List.all_eq_true] at h
  exact ⟨by simpa using h.2, fun t ht => by simpa using h.1 t ht⟩
set_option maxHeartbeats 8000000 in
set_option maxRecDepth 100000 in
theorem lexIs_walk (s : ByteArray) (v : Value) (l : List Tk) (w : World) (hs : s.size ≤ maxLen) (hv : ToksAt w v l) (hi : ∀ t ∈ l, (Lit.int .i64 t.1).wf = true) :
    Calls Try.prog 16 #[.string s, v] w fun e w' => e = .returned (.bool true) ∧ Kp w w' := by
  obtain ⟨ad, c, rfl⟩ := hv.slice
  have hs' : s.size ≤ 9223372036854775807 := by unfold maxLen at hs; omega
  by_cases h3 : 3000 < s.size
  · have q : decide ((3000 : Int) < s.size) = true := decide_eq_true (by omega)
    clear hv hs
    go_enter Try.func16, Try.ntmps16
    go_wp2_with fail; refine (awake09 _).mono ?_; rintro e w1 ⟨rfl, kk⟩; have K1 := Lib.hid ((Lib.hid (Kp.refl w)).out.trans kk); clear kk
    go_wp2
    go_ret
    exact ⟨rfl, K1.out⟩
  · have q : decide ((3000 : Int) < s.size) = false := decide_eq_false (by omega)
    have F := Lib.hid (fun w1 (k : Kp w w1) => few_any _ l w1 (hv.kp k))
    rcases Bool.eq_false_or_eq_true (fewB l) with hf | hf
    · rw [hf] at F
      obtain ⟨f1, f2⟩ := few_of hf
      have S := Lib.hid (fun (w1 : World) (x y : Value) (hx : ToksAt w1 x []) (hy : ToksAt w1 y []) => sameT_any x y [] w1 hx hy)
      have L1 := Lib.hid (fun w1 (k : Kp w w1) => lshow_any _ l w1 (hv.kp k) (by omega) (fun t ht => by have := f2 t ht; omega) hi)
      have L2 := Lib.hid (fun w1 (k : Kp w w1) => rshow_any _ l w1 (hv.kp k) (by omega) (fun t ht => by have := f2 t ht; omega))
      generalize bs (sh false l) = SH at *
      obtain ⟨ts, e0, hx⟩ := lx_ex s.data.toList 0
      by_cases h2 : 2000 < s.size
      · have C1 := Lib.hid (fun w1 => lallW s w1 h2 hs)
        have C2 := Lib.hid (fun w1 => rallW s w1 h2 hs)
        clear hv hs hi f1 f2 hx hf
        go_enter Try.func16, Try.ntmps16
        go_wp2_with fail; refine (awake09 _).mono ?_; rintro e w1 ⟨rfl, kk⟩; have K1 := Lib.hid ((Lib.hid (Kp.refl w)).out.trans kk); clear kk
        go_wp2_with fail; refine (F.out _ K1.out).mono ?_; rintro e w2 ⟨rfl, kk⟩; have K2 := Lib.hid (K1.out.trans kk); clear kk
        go_wp2_with fail; refine (C1.out _).mono ?_; rintro e w3 ⟨rfl, kk⟩; have K3 := Lib.hid (K2.out.trans kk); clear kk
        go_wp2_with fail; refine (C2.out _).mono ?_; rintro e w4 ⟨rfl, kk⟩; have K4 := Lib.hid (K3.out.trans kk); clear kk
        have R1 := Lib.hid (show ToksAt w4 (.slice none 0 0) [] from .inl ⟨_, _, rfl, rfl⟩)
        have R2 := Lib.hid (show ToksAt w4 (.slice none 0 0) [] from .inl ⟨_, _, rfl, rfl⟩)
        go_wp2_with fail; refine (S.out _ _ _ R1.out R2.out).mono ?_; rintro e w5 ⟨rfl, kk⟩; have K5 := Lib.hid (K4.out.trans kk); clear kk; go_wp2_with fail; refine (L1.out _ K5.out).mono ?_; rintro e w6 ⟨rfl, kk⟩; have K6 := Lib.hid (K5.out.trans kk); clear kk; go_wp2_with fail; refine (L2.out _ K6.out).mono ?_; rintro e w7 ⟨rfl, kk⟩; have K7 := Lib.hid (K6.out.trans kk); clear kk; go_wp2; go_ret; exact ⟨by simp, K7.out⟩
      · cases e0 with
        | some p =>
          have C1 := Lib.hid (fun w1 => lallS s ts p w1 (by omega) hx)
          have C2 := Lib.hid (fun w1 => rallS s ts p w1 (by omega) hx)
          clear hv hs hi f1 f2 hx hf
          go_enter Try.func16, Try.ntmps16
          go_wp2_with fail; refine (awake09 _).mono ?_; rintro e w1 ⟨rfl, kk⟩; have K1 := Lib.hid ((Lib.hid (Kp.refl w)).out.trans kk); clear kk
          go_wp2_with fail; refine (F.out _ K1.out).mono ?_; rintro e w2 ⟨rfl, kk⟩; have K2 := Lib.hid (K1.out.trans kk); clear kk
          go_wp2_with fail; refine (C1.out _).mono ?_; rintro e w3 ⟨rfl, kk⟩; have K3 := Lib.hid (K2.out.trans kk); clear kk
          go_wp2_with fail; refine (C2.out _).mono ?_; rintro e w4 ⟨rfl, kk⟩; have K4 := Lib.hid (K3.out.trans kk); clear kk
          have R1 := Lib.hid (show ToksAt w4 (.slice none 0 0) [] from .inl ⟨_, _, rfl, rfl⟩)
          have R2 := Lib.hid (show ToksAt w4 (.slice none 0 0) [] from .inl ⟨_, _, rfl, rfl⟩)
          go_wp2_with fail; refine (S.out _ _ _ R1.out R2.out).mono ?_; rintro e w5 ⟨rfl, kk⟩; have K5 := Lib.hid (K4.out.trans kk); clear kk; go_wp2_with fail; refine (L1.out _ K5.out).mono ?_; rintro e w6 ⟨rfl, kk⟩; have K6 := Lib.hid (K5.out.trans kk); clear kk; go_wp2_with fail; refine (L2.out _ K6.out).mono ?_; rintro e w7 ⟨rfl, kk⟩; have K7 := Lib.hid (K6.out.trans kk); clear kk; go_wp2; go_ret; exact ⟨by simp, K7.out⟩
        | none =>
          have C1 := Lib.hid (fun w1 => lallN s ts w1 (by omega) hx)
          have C2 := Lib.hid (fun w1 => rallN s ts w1 (by omega) hx)
          have S := Lib.hid (fun (w1 : World) (x y : Value) (hx : ToksAt w1 x (ts ++ [endT s])) (hy : ToksAt w1 y (ts ++ [endT s])) => sameT_any x y (ts ++ [endT s]) w1 hx hy)
          generalize ts ++ [endT s] = TS at *
          clear hv hs hi f1 f2 hx hf
          go_enter Try.func16, Try.ntmps16
          go_wp2_with fail; refine (awake09 _).mono ?_; rintro e w1 ⟨rfl, kk⟩; have K1 := Lib.hid ((Lib.hid (Kp.refl w)).out.trans kk); clear kk
          go_wp2_with fail; refine (F.out _ K1.out).mono ?_; rintro e w2 ⟨rfl, kk⟩; have K2 := Lib.hid (K1.out.trans kk); clear kk
          go_wp2_with fail
          refine (C1.out _).mono ?_
          rintro e w3 ⟨v1, rfl, t1, kk⟩
          have K3 := Lib.hid (K2.out.trans kk)
          obtain ⟨ad1, cc1, rfl⟩ := t1.slice
          have R0 := Lib.hid t1
          clear kk t1
          go_wp2_with fail
          refine (C2.out _).mono ?_
          rintro e w4 ⟨v2, rfl, t2, kk⟩
          obtain ⟨ad2, cc2, rfl⟩ := t2.slice
          have R1 := Lib.hid (R0.out.kp kk)
          have R2 := Lib.hid t2
          have K4 := Lib.hid (K3.out.trans kk)
          clear kk t2
          go_wp2_with fail; refine (S.out _ _ _ R1.out R2.out).mono ?_; rintro e w5 ⟨rfl, kk⟩; have K5 := Lib.hid (K4.out.trans kk); clear kk; go_wp2_with fail; refine (L1.out _ K5.out).mono ?_; rintro e w6 ⟨rfl, kk⟩; have K6 := Lib.hid (K5.out.trans kk); clear kk; go_wp2_with fail; refine (L2.out _ K6.out).mono ?_; rintro e w7 ⟨rfl, kk⟩; have K7 := Lib.hid (K6.out.trans kk); clear kk; go_wp2; go_ret; exact ⟨by simp, K7.out⟩
    · rw [hf] at F
      clear hv hs
      go_enter Try.func16, Try.ntmps16
      go_wp2_with fail; refine (awake09 _).mono ?_; rintro e w1 ⟨rfl, kk⟩; have K1 := Lib.hid ((Lib.hid (Kp.refl w)).out.trans kk); clear kk
      go_wp2_with fail; refine (F.out _ K1.out).mono ?_; rintro e w2 ⟨rfl, kk⟩; have K2 := Lib.hid (K1.out.trans kk); clear kk
      go_wp2
      go_ret
      exact ⟨rfl, K2.out⟩
end Go.Proofs.Ytgaadakhkjfbnaa
