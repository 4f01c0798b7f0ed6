/-
  Contracts of package lex: wordLength, signs, signLength.
-/
import Derived.Test.YtgaadakhkjfbnaaLexA
import Derived.Test.YtgaadakhkjfbnaaLexM
import Derived.Test.YtgaadakhkjfbnaaApp
import Derived.Maps.OwnOps
import Derived.Maps.OwnSet
import Derived.Maps.StringElems
import Derived.StringKeys
namespace Go.Proofs.Ytgaadakhkjfbnaa
open Go.RowKit Go.Shelf
open Go.Maps (Keyed)
set_option linter.unusedVariables false
set_option linter.unusedSimpArgs false
theorem ex_list (s : ByteArray) (a b : Nat) : (s.extract a b).data.toList = (s.data.toList.drop a).take (b - a) := by
  simp [ByteArray.data_extract, Array.toList_extract, List.extract]
theorem ix_w (c : UInt8) : decide (0 ≤ Lib.indexByte [48, 49, 50, 51, 52, 53, 54, 55, 56, 57, 88, 45, 115, 100, 99] c) = isW c := by
  have h : ∀ n : Fin 256, decide (0 ≤ Lib.indexByte [48, 49, 50, 51, 52, 53, 54, 55, 56, 57, 88, 45, 115, 100, 99] ⟨⟨n⟩⟩) = isW ⟨⟨n⟩⟩ := by decide +kernel
  exact h c.toBitVec.toFin
theorem ixw_any (c : UInt8) (w : World) :
    Calls Try.prog 82 #[.string { data := #[48, 49, 50, 51, 52, 53, 54, 55, 56, 57, 88, 45, 115, 100, 99] }, .int .u8 (c.toNat : Int)] w fun e w' => ∃ n : Int, e = .returned (.int .i64 n) ∧ decide (0 ≤ n) = isW c ∧ w = w' := by
  refine (ixb_any _ _ w).mono ?_
  rintro e w' ⟨rfl, rfl⟩
  refine ⟨_, rfl, ?_, rfl⟩
  have e1 : ((c.toNat : Int)).toNat.toUInt8 = c := by simp
  rw [e1]
  exact ix_w c
theorem takeW_lt {l : List UInt8} {k : Nat} (hk : k ≤ wl l) (h : k < l.length) : (isW l[k] = true → k + 1 ≤ wl l) ∧ (isW l[k] = false → k = wl l) := by
  unfold wl at hk ⊢
  induction l generalizing k with
  | nil => simp at h
  | cons c t ih =>
    cases hc : isW c with
    | false =>
      simp only [List.takeWhile, hc, List.length_nil] at hk ⊢
      obtain rfl : k = 0 := by omega
      simp [hc]
    | true =>
      simp only [List.takeWhile, hc, List.length_cons] at hk ⊢
      cases k with
      | zero => simp [hc]
      | succ k =>
        have := ih (k := k) (by omega) (by simpa using h)
        simp only [List.getElem_cons_succ]
        exact ⟨fun h => by have := this.1 h; omega, fun h => by have := this.2 h; omega⟩
theorem wl_all {l : List UInt8} (h : wl l ≤ l.length) (k : Nat) (hk : k ≤ wl l) (h2 : ¬ k < l.length) : k = wl l := by omega
set_option maxHeartbeats 1000000 in
theorem wlen_any (s : ByteArray) (w : World) (hs : s.size ≤ 9223372036854775807) :
    Calls Try.prog 72 #[.string s] w fun e w' => e = .returned (.int .i64 (wl s.data.toList : Nat)) ∧ w = w' := by
  have HL : s.data.toList.length = s.size := by simp
  have W0 := wl_le s.data.toList
  go_enter Try.func72, Try.ntmps72
  go_wp2
  go_loop [3] (fun i => ∃ k : Nat, k ≤ wl s.data.toList ∧ i = .int .i64 k) (fun i => s.size - (intOf i).toNat)
  case atStart => exact ⟨0, Nat.zero_le _, rfl⟩
  case round =>
    obtain ⟨k, hk, rfl⟩ := hrel
    by_cases hlt : k < s.size
    · have T := takeW_lt hk (by omega)
      have eb : (s[k]'hlt) = s.data.toList[k]'(by omega) := by rfl
      rw [← eb] at T
      have T1 := Lib.hid T
      have C := Lib.hid (ixw_any (s[k]'hlt))
      have HK := Lib.hid (And.intro hk W0)
      clear T eb hk W0
      have z0 : (0 : Int) ≤ (k : Int) := by omega
      have z1 : (k : Int) < (s.size : Int) := by omega
      rcases Bool.eq_false_or_eq_true (isW (s[k]'hlt)) with h | h
      · rw [h] at T1 C
        have T2 := T1.out.1 rfl
        go_wp2_with fail
        refine (C.out _).mono ?_
        rintro e w' ⟨n, rfl, hn, rfl⟩
        go_wp2
        go_round
        case rel => exact ⟨k + 1, T2, by go_num⟩
        case measure => simp [intOf]; omega
      · rw [h] at T1 C
        have T2 := Lib.hid (T1.out.2 rfl)
        go_wp2_with fail
        refine (C.out _).mono ?_
        rintro e w' ⟨n, rfl, hn, rfl⟩
        go_wp2
        go_ret
        exact ⟨ret_int (by rw [← T2.out]), rfl⟩
    · have T2 := Lib.hid (wl_all W0 k hk (by omega))
      have q : decide ((k : Int) < s.size) = false := by simp; omega
      clear hk W0
      go_wp2
      go_ret
      exact ⟨ret_int (by rw [← T2.out]), rfl⟩
theorem keyS : Keyed Try.prog 9 := Go.Maps.string_keyed Try.underlying9
theorem keyI : Keyed Try.prog 3 := Go.Maps.int_keyed Try.underlying3
def sD (D : DataW Unit) (b : List UInt8) (k : Int) : DataW Unit := D.put (.string b) (.lit (.int .i64 k))
/-- what the map of signs reads as -/
def signsD : DataW Unit := sD (sD (sD (sD (sD (sD (sD (sD (.map []) [47] 1) [46, 46] 2) [42] 3) [91] 4) [93] 5) [44] 6) [63] 7) [126] 8
theorem sD_map {D : DataW Unit} (h : Go.Maps.IsMap D) (b : List UInt8) (k : Int) : Go.Maps.IsMap (sD D b k) := Go.Maps.IsMap.put h _ _
theorem sD_at {D : DataW Unit} (h : Go.Maps.IsMap D) (b : List UInt8) (k : Int) (c : List UInt8) (z : DataW Unit) : (sD D b k).atKey (.string c) z = if c = b then .lit (.int .i64 k) else D.atKey (.string c) z := by
  unfold sD
  split
  · subst_vars; exact Go.Maps.atKey_put_same h (show WideAt.IsKeyLit (.string c) from trivial) _ _
  · exact Go.Maps.atKey_put_other (by intro e; cases e; contradiction) _ _
theorem sD_has {D : DataW Unit} (h : Go.Maps.IsMap D) (b : List UInt8) (k : Int) (c : List UInt8) : Go.Maps.has (sD D b k) (.string c) = (decide (c = b) || Go.Maps.has D (.string c)) := by
  unfold sD
  by_cases e : c = b
  · subst e; rw [Go.Maps.has_put_same h (show WideAt.IsKeyLit (.string c) from trivial)]; simp
  · rw [Go.Maps.has_put_other (by intro g; cases g; contradiction)]; simp [e]
theorem signsD_map : Go.Maps.IsMap signsD := by
  unfold signsD
  repeat' apply sD_map
  exact Go.Maps.isMap_empty
theorem signsD_at (c : List UInt8) : signsD.atKey (.string c) (.lit (.int .i64 0)) = .lit (.int .i64 (sgn c)) := by
  have m0 : Go.Maps.IsMap (.map [] : DataW Unit) := Go.Maps.isMap_empty
  have m1 := sD_map m0 [47] 1
  have m2 := sD_map m1 [46, 46] 2
  have m3 := sD_map m2 [42] 3
  have m4 := sD_map m3 [91] 4
  have m5 := sD_map m4 [93] 5
  have m6 := sD_map m5 [44] 6
  have m7 := sD_map m6 [63] 7
  unfold signsD
  rw [sD_at m7, sD_at m6, sD_at m5, sD_at m4, sD_at m3, sD_at m2, sD_at m1, sD_at m0]
  have e0 : (.map [] : DataW Unit).atKey (.string c) (.lit (.int .i64 0)) = .lit (.int .i64 0) := rfl
  rw [e0]
  unfold sgn
  by_cases h1 : c = [126]
  · subst h1; rfl
  by_cases h2 : c = [63]
  · subst h2; rfl
  by_cases h3 : c = [44]
  · subst h3; rfl
  by_cases h4 : c = [93]
  · subst h4; rfl
  by_cases h5 : c = [91]
  · subst h5; rfl
  by_cases h6 : c = [42]
  · subst h6; rfl
  by_cases h7 : c = [46, 46]
  · subst h7; rfl
  by_cases h8 : c = [47]
  · subst h8; rfl
  simp only [h1, h2, h3, h4, h5, h6, h7, h8, if_false]
theorem signsD_has (c : List UInt8) : Go.Maps.has signsD (.string c) = decide (sgn c ≠ 0) := by
  have m0 : Go.Maps.IsMap (.map [] : DataW Unit) := Go.Maps.isMap_empty
  have m1 := sD_map m0 [47] 1
  have m2 := sD_map m1 [46, 46] 2
  have m3 := sD_map m2 [42] 3
  have m4 := sD_map m3 [91] 4
  have m5 := sD_map m4 [93] 5
  have m6 := sD_map m5 [44] 6
  have m7 := sD_map m6 [63] 7
  unfold signsD
  rw [sD_has m7, sD_has m6, sD_has m5, sD_has m4, sD_has m3, sD_has m2, sD_has m1, sD_has m0]
  have e0 : Go.Maps.has (.map [] : DataW Unit) (.string c) = false := rfl
  rw [e0]
  unfold sgn
  by_cases h1 : c = [126]
  · subst h1; rfl
  by_cases h2 : c = [63]
  · subst h2; rfl
  by_cases h3 : c = [44]
  · subst h3; rfl
  by_cases h4 : c = [93]
  · subst h4; rfl
  by_cases h5 : c = [91]
  · subst h5; rfl
  by_cases h6 : c = [42]
  · subst h6; rfl
  by_cases h7 : c = [46, 46]
  · subst h7; rfl
  by_cases h8 : c = [47]
  · subst h8; rfl
  simp only [h1, h2, h3, h4, h5, h6, h7, h8, if_false]
  rfl
abbrev SM (w : World) (m n : Nat) (D : DataW Unit) : Prop := w.ownsMap Try.prog 9 (plainElem Try.prog 3) m n D
set_option maxHeartbeats 2000000 in
set_option maxRecDepth 100000 in
theorem signs_any (w : World) :
    Calls Try.prog 71 #[] w fun e w' => ∃ m, e = .returned (.map (some m)) ∧ SM w' m 8 signsD ∧ w.heap.size ≤ m ∧ Kp w w' := by
  have hmm := @run_makeMap Try.prog
  have HO := Lib.hid (World.ownsMap_made (H := Unit) w Try.prog 9 (plainElem Try.prog 3))
  have KK := Lib.hid (Kp.alloc w (.map #[] 0))
  go_enter Try.func71, Try.ntmps71
  go_wp2
  obtain ⟨w1, hrun, hown, hgrow⟩ := HO.out.update keyS Try.underlying67 (by unfold maxLen; omega) (Go.WideMaps.keyOf_string_mk Try.underlying9 (s := { data := #[47] }) (by unfold maxLen; decide)) (plainElem_int Try.underlying3 (a := 1) (by decide)); rw [hrun]; simp only [Result.andThen]; rw [Oper.upon_skip]; have HO := Lib.hid hown; have KK := Lib.hid (Kp.grown KK.out hgrow (fun j hj => by cases hj; exact Nat.le_refl _)); clear hown hgrow hrun; go_wp2
  obtain ⟨w1, hrun, hown, hgrow⟩ := HO.out.update keyS Try.underlying67 (by unfold maxLen; omega) (Go.WideMaps.keyOf_string_mk Try.underlying9 (s := { data := #[46, 46] }) (by unfold maxLen; decide)) (plainElem_int Try.underlying3 (a := 2) (by decide)); rw [hrun]; simp only [Result.andThen]; rw [Oper.upon_skip]; have HO := Lib.hid hown; have KK := Lib.hid (Kp.grown KK.out hgrow (fun j hj => by cases hj; exact Nat.le_refl _)); clear hown hgrow hrun; go_wp2
  obtain ⟨w1, hrun, hown, hgrow⟩ := HO.out.update keyS Try.underlying67 (by unfold maxLen; omega) (Go.WideMaps.keyOf_string_mk Try.underlying9 (s := { data := #[42] }) (by unfold maxLen; decide)) (plainElem_int Try.underlying3 (a := 3) (by decide)); rw [hrun]; simp only [Result.andThen]; rw [Oper.upon_skip]; have HO := Lib.hid hown; have KK := Lib.hid (Kp.grown KK.out hgrow (fun j hj => by cases hj; exact Nat.le_refl _)); clear hown hgrow hrun; go_wp2
  obtain ⟨w1, hrun, hown, hgrow⟩ := HO.out.update keyS Try.underlying67 (by unfold maxLen; omega) (Go.WideMaps.keyOf_string_mk Try.underlying9 (s := { data := #[91] }) (by unfold maxLen; decide)) (plainElem_int Try.underlying3 (a := 4) (by decide)); rw [hrun]; simp only [Result.andThen]; rw [Oper.upon_skip]; have HO := Lib.hid hown; have KK := Lib.hid (Kp.grown KK.out hgrow (fun j hj => by cases hj; exact Nat.le_refl _)); clear hown hgrow hrun; go_wp2
  obtain ⟨w1, hrun, hown, hgrow⟩ := HO.out.update keyS Try.underlying67 (by unfold maxLen; omega) (Go.WideMaps.keyOf_string_mk Try.underlying9 (s := { data := #[93] }) (by unfold maxLen; decide)) (plainElem_int Try.underlying3 (a := 5) (by decide)); rw [hrun]; simp only [Result.andThen]; rw [Oper.upon_skip]; have HO := Lib.hid hown; have KK := Lib.hid (Kp.grown KK.out hgrow (fun j hj => by cases hj; exact Nat.le_refl _)); clear hown hgrow hrun; go_wp2
  obtain ⟨w1, hrun, hown, hgrow⟩ := HO.out.update keyS Try.underlying67 (by unfold maxLen; omega) (Go.WideMaps.keyOf_string_mk Try.underlying9 (s := { data := #[44] }) (by unfold maxLen; decide)) (plainElem_int Try.underlying3 (a := 6) (by decide)); rw [hrun]; simp only [Result.andThen]; rw [Oper.upon_skip]; have HO := Lib.hid hown; have KK := Lib.hid (Kp.grown KK.out hgrow (fun j hj => by cases hj; exact Nat.le_refl _)); clear hown hgrow hrun; go_wp2
  obtain ⟨w1, hrun, hown, hgrow⟩ := HO.out.update keyS Try.underlying67 (by unfold maxLen; omega) (Go.WideMaps.keyOf_string_mk Try.underlying9 (s := { data := #[63] }) (by unfold maxLen; decide)) (plainElem_int Try.underlying3 (a := 7) (by decide)); rw [hrun]; simp only [Result.andThen]; rw [Oper.upon_skip]; have HO := Lib.hid hown; have KK := Lib.hid (Kp.grown KK.out hgrow (fun j hj => by cases hj; exact Nat.le_refl _)); clear hown hgrow hrun; go_wp2
  obtain ⟨w1, hrun, hown, hgrow⟩ := HO.out.update keyS Try.underlying67 (by unfold maxLen; omega) (Go.WideMaps.keyOf_string_mk Try.underlying9 (s := { data := #[126] }) (by unfold maxLen; decide)) (plainElem_int Try.underlying3 (a := 8) (by decide)); rw [hrun]; simp only [Result.andThen]; rw [Oper.upon_skip]; have HO := Lib.hid hown; have KK := Lib.hid (Kp.grown KK.out hgrow (fun j hj => by cases hj; exact Nat.le_refl _)); clear hown hgrow hrun; go_wp2
  go_ret
  exact ⟨_, rfl, HO.out, Nat.le_refl _, KK.out⟩
theorem SM.kp {w w' : World} {m n : Nat} {D : DataW Unit} (h : SM w m n D) (k : Kp w w') : SM w' m n D := by
  have hm := World.ownsMap.lt h
  obtain ⟨es, c, h1, h2⟩ := h
  exact ⟨es, c, (k.block m hm).trans h1, h2⟩
theorem sl_cases (l : List UInt8) : (1 ≤ l.length ∧ sgn (l.take 1) ≠ 0 ∧ sl l = 1) ∨ (l = [] ∧ sl l = 0) ∨ (l.length = 1 ∧ sgn (l.take 1) = 0 ∧ sl l = 0) ∨ (2 ≤ l.length ∧ sgn (l.take 1) = 0 ∧ sgn (l.take 2) ≠ 0 ∧ sl l = 2) ∨ (2 ≤ l.length ∧ sgn (l.take 1) = 0 ∧ sgn (l.take 2) = 0 ∧ sl l = 0) := by
  unfold sl
  by_cases h0 : l = []
  · subst h0; simp
  have : 1 ≤ l.length := List.length_pos_iff.2 h0
  by_cases h1 : sgn (l.take 1) = 0
  · by_cases h2 : 2 ≤ l.length
    · by_cases h3 : sgn (l.take 2) = 0
      · simp [h1, h2, h3]
      · simp [h1, h2, h3]
    · have : l.length = 1 := by omega
      simp [h0, h1, h2, this]
  · simp [h0, h1, this]
  all_goals omega
set_option maxHeartbeats 2000000 in
set_option maxRecDepth 100000 in
theorem slen_any (s : ByteArray) (m : Nat) (w : World) (hs : s.size ≤ maxLen) (hm : SM w m 8 signsD) :
    Calls Try.prog 73 #[.string s, .map (some m)] w fun e w' => e = .returned (.int .i64 (sl s.data.toList : Nat)) ∧ w = w' := by
  have HM := Lib.hid hm
  have HL : s.data.toList.length = s.size := by simp
  have hs' : s.size ≤ 9223372036854775807 := by unfold maxLen at hs; omega
  have E1 := Lib.hid (show (s.extract 0 1).data.toList = s.data.toList.take 1 by rw [ex_list]; simp)
  have E2 := Lib.hid (show (s.extract 0 2).data.toList = s.data.toList.take 2 by rw [ex_list]; simp)
  have H1 := Lib.hid (signsD_has (s.data.toList.take 1))
  have H2 := Lib.hid (signsD_has (s.data.toList.take 2))
  have hc := sl_cases s.data.toList
  rw [HL] at hc
  generalize sl s.data.toList = R at *
  clear hm HL
  obtain ⟨h1, e1⟩ : ∃ h1, h1 = decide (sgn (s.data.toList.take 1) ≠ 0) := ⟨_, rfl⟩
  obtain ⟨h2, e2⟩ : ∃ h2, h2 = decide (sgn (s.data.toList.take 2) ≠ 0) := ⟨_, rfl⟩
  rw [← e1, ← E1.out] at H1
  rw [← e2, ← E2.out] at H2
  have c' : (1 ≤ s.size ∧ h1 = true ∧ R = 1) ∨ (s.size = 0 ∧ R = 0) ∨ (s.size = 1 ∧ h1 = false ∧ R = 0) ∨ (2 ≤ s.size ∧ h1 = false ∧ h2 = true ∧ R = 2) ∨ (2 ≤ s.size ∧ h1 = false ∧ h2 = false ∧ R = 0) := by
    rcases hc with ⟨a, b, c⟩ | ⟨a, c⟩ | ⟨a, b, c⟩ | ⟨a, b, b', c⟩ | ⟨a, b, b', c⟩
    · exact .inl ⟨a, by rw [e1]; simpa using b, c⟩
    · exact .inr (.inl ⟨by have := congrArg List.length a; simpa using this, c⟩)
    · exact .inr (.inr (.inl ⟨a, by rw [e1]; simpa using b, c⟩))
    · exact .inr (.inr (.inr (.inl ⟨a, by rw [e1]; simpa using b, by rw [e2]; simpa using b', c⟩)))
    · exact .inr (.inr (.inr (.inr ⟨a, by rw [e1]; simpa using b, by rw [e2]; simpa using b', c⟩)))
  have K1 := Lib.hid (Go.WideMaps.keyOf_string_mk Try.underlying9 (s := s.extract 0 1) (by rw [ByteArray.size_extract]; unfold maxLen; omega))
  have K2 := Lib.hid (Go.WideMaps.keyOf_string_mk Try.underlying9 (s := s.extract 0 2) (by rw [ByteArray.size_extract]; unfold maxLen; omega))
  clear hc e1 e2 E1 E2 hs
  go_enter Try.func73, Try.ntmps73
  go_wp2
  go_loop [5] (fun u5 => (u5 = .int .i64 1) ∨ (u5 = .int .i64 2 ∧ 1 ≤ s.size ∧ h1 = false) ∨ (u5 = .int .i64 3 ∧ 2 ≤ s.size ∧ h1 = false ∧ h2 = false)) (fun u5 => (3 - intOf u5).toNat)
  case atStart => exact .inl rfl
  case round =>
    rcases hrel with rfl | ⟨rfl, g1, g2⟩ | ⟨rfl, g1, g2, g3⟩
    · by_cases z : s.size = 0
      · obtain rfl : R = 0 := by omega
        have q : decide ((1 : Int) ≤ min 2 (s.size : Int)) = false := decide_eq_false (by omega)
        have q' : ¬ ((1 : Int) ≤ (s.size : Int)) := by omega
        clear c'
        go_wp2
        go_ret
        exact ⟨rfl, rfl⟩
      · have q : decide ((1 : Int) ≤ min 2 (s.size : Int)) = true := decide_eq_true (by omega)
        have q' : ((1 : Int) ≤ (s.size : Int)) := by omega
        have q2 : 1 ≤ s.size := by omega
        cases h1 with
        | true =>
          obtain rfl : R = 1 := by rcases c' with ⟨_, _, c⟩ | ⟨a, c⟩ | ⟨_, c, _⟩ | ⟨_, c, _⟩ | ⟨_, c, _⟩ <;> first | exact c | omega | cases c
          clear c'
          go_wp2_with (at_lookup; refine wpList_lookup_own_ok_int _ rfl _ _ 67 rfl 9 3 .i64 keyS Try.underlying67 Try.underlying3 (Try.zeroValue3 _) m 8 signsD rfl HM.out _ _ rfl K1.out ?_; intro c hat hwc; rw [H1])
          go_ret
          exact ⟨rfl, rfl⟩
        | false =>
          have c2 := Lib.hid c'
          clear c'
          go_wp2_with (at_lookup; refine wpList_lookup_own_ok_int _ rfl _ _ 67 rfl 9 3 .i64 keyS Try.underlying67 Try.underlying3 (Try.zeroValue3 _) m 8 signsD rfl HM.out _ _ rfl K1.out ?_; intro c hat hwc; rw [H1])
          go_round
          case rel => exact .inr (.inl ⟨by go_num, by simp [q2]⟩)
          case measure => simp [intOf]
    · by_cases z : s.size = 1
      · obtain rfl : R = 0 := by
          rcases c' with ⟨_, c, _⟩ | ⟨_, c⟩ | ⟨_, _, c⟩ | ⟨a, _⟩ | ⟨a, _⟩ <;> first | exact c | omega | (rw [c] at g2; cases g2)
        have q : decide ((2 : Int) ≤ min 2 (s.size : Int)) = false := decide_eq_false (by omega)
        have q' : ¬ ((2 : Int) ≤ (s.size : Int)) := by omega
        clear c'
        go_wp2
        go_ret
        exact ⟨rfl, rfl⟩
      · have q : decide ((2 : Int) ≤ min 2 (s.size : Int)) = true := decide_eq_true (by omega)
        have q' : ((2 : Int) ≤ (s.size : Int)) := by omega
        have q2 : 2 ≤ s.size := by omega
        subst g2
        cases h2 with
        | true =>
          obtain rfl : R = 2 := by rcases c' with ⟨_, c, _⟩ | ⟨a, c⟩ | ⟨a, c, _⟩ | ⟨_, _, _, c⟩ | ⟨_, _, c, _⟩ <;> first | exact c | omega | cases c
          clear c'
          go_wp2_with (at_lookup; refine wpList_lookup_own_ok_int _ rfl _ _ 67 rfl 9 3 .i64 keyS Try.underlying67 Try.underlying3 (Try.zeroValue3 _) m 8 signsD rfl HM.out _ _ rfl K2.out ?_; intro c hat hwc; rw [H2])
          go_ret
          exact ⟨rfl, rfl⟩
        | false =>
          have c2 := Lib.hid c'
          clear c'
          go_wp2_with (at_lookup; refine wpList_lookup_own_ok_int _ rfl _ _ 67 rfl 9 3 .i64 keyS Try.underlying67 Try.underlying3 (Try.zeroValue3 _) m 8 signsD rfl HM.out _ _ rfl K2.out ?_; intro c hat hwc; rw [H2])
          go_round
          case rel => exact .inr (.inr ⟨by go_num, by simp [q2]⟩)
          case measure => simp [intOf]
    · obtain rfl : R = 0 := by
        subst g2 g3
        rcases c' with ⟨_, c, _⟩ | ⟨a, c⟩ | ⟨a, _, c⟩ | ⟨_, _, c, _⟩ | ⟨_, _, _, c⟩ <;> first | exact c | omega | cases c
      have q : decide ((3 : Int) ≤ min 2 (s.size : Int)) = false := decide_eq_false (by omega)
      clear c'
      go_wp2
      go_ret
      exact ⟨rfl, rfl⟩
end Go.Proofs.Ytgaadakhkjfbnaa
