/-
  Layer 9: the walk of LexPlaces.
-/
import Derived.Test.YtgaadakhkjfbnaaL9A
namespace Go.Proofs.Ytgaadakhkjfbnaa
open Go.RowKit Go.Shelf
set_option linter.unusedVariables false
set_option linter.unusedSimpArgs false
/-- where one is in a text, and in its tokens -/
def PlS (s : ByteArray) (ts : List Tk) (p i : Nat) : Prop :=
  (i ≤ ts.length ∧ p ≤ s.size ∧ Lx (s.data.toList.drop p) p (ts.drop i) none) ∨ (i = ts.length + 1 ∧ p = s.size)
theorem tk_left (ts : List Tk) (u : Tk) (i : Nat) (h : i < ts.length) : tk (ts ++ [u]) i = tk ts i := by
  unfold tk; simp [List.getD, List.getElem?_append, h]
theorem tk_last (ts : List Tk) (u : Tk) : tk (ts ++ [u]) ts.length = u := by
  unfold tk; simp [List.getD]
theorem tk_drop (ts : List Tk) (i : Nat) (h : i < ts.length) : ts.drop i = tk ts i :: ts.drop (i + 1) := by
  rw [List.drop_eq_getElem_cons h]; unfold tk; simp [List.getD, h]
theorem pl_step {s : ByteArray} {ts : List Tk} {p i : Nat} (h : PlS s ts p i) (hi : i ≤ ts.length) :
    ∃ q : Nat, p ≤ q ∧ q + (bs (txt (tk (ts ++ [endT s]) i))).size ≤ s.size ∧ (∀ j, p ≤ j → (hj : j < q) → (hj2 : j < s.size) → (s[j]'hj2).toNat = 32) ∧ (tk (ts ++ [endT s]) i).2.1 = (q : Int) ∧
      s.extract q (q + (bs (txt (tk (ts ++ [endT s]) i))).size) = bs (txt (tk (ts ++ [endT s]) i)) ∧ PlS s ts (q + (bs (txt (tk (ts ++ [endT s]) i))).size) (i + 1) := by
  have HL : s.data.toList.length = s.size := by simp
  have blank : ∀ b : Nat, (∀ j, j < b → (s.data.toList.drop p)[j]? = some 32) → ∀ j, p ≤ j → j < p + b → (hj2 : j < s.size) → (s[j]'hj2).toNat = 32 := by
    intro b hb j h1 h2 h3
    have := hb (j - p) (by omega)
    rw [List.getElem?_drop, show p + (j - p) = j by omega, List.getElem?_eq_getElem (by omega)] at this
    have e : s[j]'h3 = s.data.toList[j]'(by omega) := rfl
    rw [e, Option.some.inj this]; rfl
  rcases h with ⟨_, hp, hx⟩ | ⟨h1, _⟩
  · by_cases hlt : i < ts.length
    · rw [tk_left ts _ i hlt]
      rw [tk_drop ts i hlt] at hx
      obtain ⟨b, g1, g2, g3, g4, g5⟩ := lx_next hx _ _ rfl
      rw [List.length_drop, HL] at g1
      rw [bs_size, txt_len]
      rw [List.drop_drop] at g4 g5
      refine ⟨p + b, by omega, by omega, fun j h1 h2 h3 => blank b g2 j h1 h2 h3, g3, ?_, .inl ⟨by omega, by omega, ?_⟩⟩
      · have e : (s.extract (p + b) (p + b + tlen (tk ts i))).data.toList = txt (tk ts i) := by
          rw [ex_list, ← g4]; congr 1; omega
        rw [← e, bs_list]
      · rw [show p + b + tlen (tk ts i) = p + (b + tlen (tk ts i)) by omega]; exact g5
    · obtain rfl : i = ts.length := by omega
      rw [tk_last]
      rw [List.drop_length] at hx
      have hb := lx_end hx rfl rfl
      rw [List.length_drop, HL] at hb
      have e0 : bs (txt (endT s)) = (⟨#[]⟩ : ByteArray) := rfl
      rw [e0]
      refine ⟨s.size, hp, by show s.size + 0 ≤ s.size; omega, fun j h1 h2 h3 => blank (s.size - p) (fun j hj => hb j hj) j h1 (by omega) h3, rfl, ?_, .inr ⟨rfl, rfl⟩⟩
      apply ByteArray.ext
      simp [ByteArray.data_extract]
  · omega
set_option maxHeartbeats 8000000 in
set_option maxRecDepth 100000 in
theorem lexPlaces_walk (s : ByteArray) (w : World) (hs : s.size ≤ maxLen) :
    Calls Try.prog 18 #[.string s] w fun e w' => e = .returned (.bool true) ∧ Kp w w' := by
  have hs' : s.size ≤ 9223372036854775807 := by unfold maxLen at hs; omega
  by_cases h4 : 400 < s.size
  · have q : decide ((400 : Int) < s.size) = true := decide_eq_true (by omega)
    clear hs
    go_enter Try.func18, Try.ntmps18
    go_wp2_with fail; refine (awake09 _).mono ?_; rintro e w1 ⟨rfl, kk⟩; have K1 := Lib.hid ((Lib.hid (Kp.refl w)).out.trans kk); clear kk
    go_wp2
    go_ret
    exact ⟨rfl, K1.out⟩
  · have q : decide ((400 : Int) < s.size) = false := decide_eq_false (by omega)
    obtain ⟨ts, e0, hx⟩ := lx_ex s.data.toList 0
    have HL : s.data.toList.length = s.size := by simp
    have hs4 : (s.size : Int) ≤ 400 := by omega
    cases e0 with
    | some p =>
      have C1 := Lib.hid (fun w1 => lallS s ts p w1 (by omega) hx)
      have hp := lx_place hx p rfl
      rw [HL] at hp
      have q1 : decide ((p : Int) < s.size) = true := decide_eq_true (by omega)
      have q2 : decide ((0 : Int) ≤ p) = true := decide_eq_true (by omega)
      have q3 : decide (p < s.size) = true := decide_eq_true (by omega)
      clear hs hx HL
      go_enter Try.func18, Try.ntmps18
      go_wp2_with fail; refine (awake09 _).mono ?_; rintro e w1 ⟨rfl, kk⟩; have K1 := Lib.hid ((Lib.hid (Kp.refl w)).out.trans kk); clear kk
      go_wp2_with fail; refine (C1.out _).mono ?_; rintro e w2 ⟨rfl, kk⟩; have K2 := Lib.hid (K1.out.trans kk); clear kk
      go_wp2
      go_ret
      exact ⟨rfl, K2.out⟩
    | none =>
      have C1 := Lib.hid (fun w1 => lallN s ts w1 (by omega) hx)
      have SHO := Lib.hid (lx_show s hx (by omega))
      have STEP := Lib.hid (fun p i => pl_step (s := s) (ts := ts) (p := p) (i := i))
      have P0 := Lib.hid (show PlS s ts 0 0 from .inl ⟨Nat.zero_le _, Nat.zero_le _, hx⟩)
      have LAST := Lib.hid (tk_last ts (endT s))
      have TL : (ts ++ [endT s]).length = ts.length + 1 := by simp
      have hN : ts.length ≤ 400 := by have := lx_len hx; omega
      obtain ⟨N, eN⟩ : ∃ N, ts.length = N := ⟨_, rfl⟩
      have PEND := Lib.hid (fun p (h : PlS s ts p (N + 1)) => (show p = s.size by rcases h with ⟨a, _⟩ | ⟨_, b⟩; · omega
                                                                                  · exact b))
      rw [eN] at TL hN LAST
      have EN := Lib.hid eN
      have HTL := Lib.hid TL
      clear hs hx HL eN TL
      go_enter Try.func18, Try.ntmps18
      go_wp2_with fail; refine (awake09 _).mono ?_; rintro e w1 ⟨rfl, kk⟩; have K1 := Lib.hid ((Lib.hid (Kp.refl w)).out.trans kk); clear kk
      go_wp2_with fail
      refine (C1.out _).mono ?_
      rintro e w2 ⟨v1, rfl, t1, kk⟩
      have K2 := Lib.hid (K1.out.trans kk)
      have ev := t1.slice
      rw [HTL.out] at ev
      obtain ⟨ad1, cc1, rfl⟩ := ev
      have R0 := Lib.hid t1
      clear kk t1
      obtain ⟨b, off, cap, ev, hcap, hx⟩ : ∃ b off cap, Value.slice ad1 (N + 1) cc1 = .slice (some ⟨b, off, none⟩) (N + 1) cap ∧ (N + 1 ≤ cap ∧ cap ≤ maxLen) ∧ (∀ i, i < (ts ++ [endT s]).length → w2.cell? ⟨b, off + i * 3, none⟩ = some (.int .i64 (tk (ts ++ [endT s]) i).1) ∧ w2.cell? ⟨b, off + i * 3 + 1, none⟩ = some (.int .i64 (tk (ts ++ [endT s]) i).2.1) ∧ w2.cell? ⟨b, off + i * 3 + 2, none⟩ = some (.string (bs (tk (ts ++ [endT s]) i).2.2))) := by
        rcases R0.out with ⟨_, _, _, e⟩ | ⟨b, off, cap, ev, h1, h2, hx⟩
        · have := HTL.out; rw [e] at this; simp at this
        · refine ⟨b, off, cap, ?_, ⟨by rw [← HTL.out]; exact h1, h2⟩, hx⟩
          rw [← HTL.out]; rw [← HTL.out] at ev; exact ev
      cases ev
      have cl := (hx N (by rw [HTL.out]; omega)).1
      rw [LAST.out] at cl
      have cl : w2.cell? ⟨b, off + N * 3, none⟩ = some (.int .i64 9) := cl
      have HX := Lib.hid hx
      have b1 : (N : Int) + 1 ≤ 401 := by omega
      have b2 : (0 : Int) ≤ N := by omega
      have n0 : ((N : Int) + 1 == 0) = false := by simp; omega
      clear hx LAST C1
      go_wp2
      go_loopw [7, 8] (fun u7 u8 wr => ∃ p i : Nat, i ≤ N + 1 ∧ p ≤ s.size ∧ u7 = .int .i64 p ∧ u8 = .int .i64 i ∧ Hid (PlS s ts p i) ∧ Hid (Kp w2 wr)) (fun _ u8 _ => N + 1 - (intOf u8).toNat)
      case atStart => exact ⟨0, 0, Nat.zero_le _, Nat.zero_le _, rfl, rfl, P0, Lib.hid (Kp.refl _)⟩
      case round =>
        obtain ⟨p, i, hi, hp, rfl, rfl, PS, K3⟩ := hrel
        clear cl n0
        by_cases hlt : i < N + 1
        · obtain ⟨q', g1, g2, g3, g4, g5, g6⟩ := STEP.out p i PS.out (by rw [EN.out]; omega)
          have hT := HX.out i (by rw [HTL.out]; exact hlt)
          obtain ⟨c1, c2, c3⟩ := hT
          have T1 := Lib.hid (show ToksAt w2 (.slice (some ⟨b, off + i * 3, none⟩) 1 (cc1 - i)) [tk (ts ++ [endT s]) i] from by
            refine .inr ⟨b, off + i * 3, cc1 - i, rfl, by show 1 ≤ _; omega, by omega, fun j hj => ?_⟩
            obtain rfl : j = 0 := by simp at hj; omega
            exact ⟨c1, c2, c3⟩)
          have HT := Lib.hid (SHO.out.2.1 _ (tk_mem (l := ts ++ [endT s]) (i := i) (by rw [HTL.out]; exact hlt)))
          have HW := Lib.hid (SHO.out.2.2 _ (tk_mem (l := ts ++ [endT s]) (i := i) (by rw [HTL.out]; exact hlt)))
          have SHOW := Lib.hid (fun w' (kk : Kp w2 w') => (show Calls Try.prog 57 #[.slice (some ⟨b, off + i * 3, none⟩) 1 (cc1 - i)] w' fun e w'' => e = .returned (.string (bs (txt (tk (ts ++ [endT s]) i)))) ∧ Kp w' w'' from by
            have h := lshow_any _ _ w' (T1.out.kp kk) (by simp) (by intro t ht; rw [List.mem_singleton] at ht; subst ht; exact HT.out) (by intro t ht; rw [List.mem_singleton] at ht; subst ht; exact HW.out)
            rw [sh_txt] at h
            exact h))
          have CEL := Lib.hid (fun w' (kk : Kp w2 w') => (show w'.cell? ⟨b, off + i * 3 + 1, none⟩ = some (.int .i64 (q' : Int)) from by rw [← g4]; exact (Below.cell (p := ⟨b, off + i * 3 + 1, none⟩) kk (World.block_lt_of_cell? _ _ c2)).trans c2))
          have G3 := Lib.hid g3
          have G6 := Lib.hid g6
          have hcut := cut_str s q' (bs (txt (tk (ts ++ [endT s]) i))).size g2
          rw [g5] at hcut
          clear g3 g4 g5 g6 c1 c2 c3 T1 HT HW
          generalize bs (txt (tk (ts ++ [endT s]) i)) = x at *
          obtain ⟨tl, etl⟩ : ∃ tl, x.size = tl := ⟨_, rfl⟩
          rw [etl] at hcut g2 G6
          have hz : x.size ≤ 9223372036854775807 := by omega
          have z0 : (0 : Int) ≤ i := by omega
          have z1 : (i : Int) < (N : Int) + 1 := by omega
          have z2 : (i : Int) + 1 ≤ cc1 := by omega
          have z3 : (cc1 : Int) ≤ 9223372036854775807 := by have := hcap.2; unfold maxLen at this; omega
          go_wp2_with fail
          refine (SHOW.out _ K3.out).mono ?_
          rintro e w3 ⟨rfl, kk⟩
          have K4 := Lib.hid (K3.out.trans kk)
          have d1 := CEL.out _ K4.out
          clear kk SHOW
          have qa : decide ((q' : Int) < p) = false := decide_eq_false (by omega)
          have qb : decide ((s.size : Int) < (q' : Int) + (tl : Int)) = false := decide_eq_false (by omega)
          have wq : IntKind.i64.wrap ((q' : Int) + (tl : Int)) = (q' : Int) + (tl : Int) := by rw [IntKind.wrap_i64]; omega
          go_wp2_with fail
          go_quiet (fail)
          have K5 := Lib.hid (K4.out.trans (Kp.drewN w3 nq))
          generalize w3.drewN nq = w5 at K5 ⊢
          clear d1 hcut K4
          have d1 := CEL.out _ K5.out
          go_wp2_with fail
          go_loopw [7] (fun u7 wq => ∃ j : Nat, p ≤ j ∧ j ≤ q' ∧ u7 = .int .i64 j ∧ wq = w5) (fun u7 _ => q' - (intOf u7).toNat)
          case atStart => exact ⟨p, Nat.le_refl _, g1, rfl, rfl⟩
          case round =>
            obtain ⟨j, h1, h2, rfl, rfl⟩ := hrel
            by_cases hj : j < q'
            · have eb := G3.out j h1 hj (by omega)
              have y0 : (0 : Int) ≤ j := by omega
              have y1 : (j : Int) < s.size := by omega
              have y2 : (j : Int) < q' := by omega
              have y3 : decide ((j : Int) < q') = true := decide_eq_true y2
              have y4 : decide (j < q') = true := decide_eq_true hj
              go_wp2
              refine ⟨⟨j + 1, by omega, by omega, by go_num, by first | rfl | trivial⟩, by simp only [intOf]; omega⟩
            · obtain rfl : j = q' := by omega
              have y3 : decide ((j : Int) < j) = false := by simp
              go_wp2
              refine ⟨⟨j + tl, i + 1, by omega, by omega, by go_num, by go_num, G6, K5⟩, by simp only [intOf]; omega⟩
        · obtain rfl : i = N + 1 := by omega
          have e := PEND.out p PS.out
          subst e
          have y3 : decide ((N : Int) + 1 < (N : Int) + 1) = false := by simp
          go_wp2
          go_ret
          exact ⟨by simp, K2.out.trans K3.out⟩
end Go.Proofs.Ytgaadakhkjfbnaa
