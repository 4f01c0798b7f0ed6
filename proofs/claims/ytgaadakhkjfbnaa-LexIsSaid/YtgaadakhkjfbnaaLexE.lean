/-
  Contracts of the document's answer for layer 9: one.
-/
import Derived.Test.YtgaadakhkjfbnaaLexD
namespace Go.Proofs.Ytgaadakhkjfbnaa
open Go.RowKit Go.Shelf
set_option linter.unusedVariables false
set_option linter.unusedSimpArgs false
/-- what one tells at a place -/
def OneOut (l : List UInt8) (k : Nat) (w : World) (en : Ending) (w' : World) : Prop :=
  Kp w w' ∧ match tok l with
    | none => en = .returned (.tuple #[.agg #[.int .i64 0, .int .i64 0, .string { data := #[] }], .int .i64 0])
    | some (kd, n, x) => en = .returned (.tuple #[.agg #[.int .i64 kd, .int .i64 (k : Int), .string (bs x)], .int .i64 (n : Nat)])
theorem tok_sign1 {c : UInt8} {t : List UInt8} (h : isW c = false) (h46 : c ≠ 46) : tok (c :: t) = if sgn [c] = 0 then none else some (sgn [c], 1, []) := by
  split
  · rename_i h2; exact tok_odd t h h2 h46
  · rename_i h2
    have e : wl (c :: t) = 0 := by simp [wl, List.takeWhile, h]
    have e2 : sl (c :: t) = 1 := by unfold sl; rw [if_pos ⟨by simp, by simpa using h2⟩]
    unfold tok
    rw [e, e2, if_neg (by omega), if_neg (by omega)]
    simp
theorem tok_dots (d : UInt8) (t : List UInt8) : tok (46 :: d :: t) = if d = 46 then some (2, 2, []) else none := by
  have e : wl (46 :: d :: t) = 0 := by simp [wl, List.takeWhile, show isW 46 = false by decide]
  unfold tok
  rw [e, if_neg (by omega)]
  by_cases h : d = 46
  · subst h
    have e2 : sl (46 :: 46 :: t) = 2 := by unfold sl; simp [show sgn [46] = 0 by decide, show sgn [46, 46] = 2 by decide]
    rw [e2, if_neg (by omega), if_pos rfl]; rfl
  · have e2 : sl (46 :: d :: t) = 0 := by
      unfold sl
      have : sgn [46, d] = 0 := by
        by_cases g : sgn [46, d] = 0
        · exact g
        · exact absurd (sgn_two 46 d g).2 h
      simp [show sgn [46] = 0 by decide, this]
    rw [e2, if_pos rfl, if_neg h]
theorem ix_str (s : ByteArray) (k n : Nat) (h : k + n < s.size) (wx : World) : (Instr.index 9 (.string s) (.int .i64 ((k : Int) + (n : Int)))).run Try.prog wx = .ok (.int .u8 ((s[k + n]'h).toNat : Int)) wx := by
  rw [run_index_string _ _ _ _ _ Try.underlying9]
  have e : ((k : Int) + (n : Int)).toNat = k + n := by omega
  rw [dif_pos ⟨by omega, by omega⟩]
  simp only [e]
set_option maxHeartbeats 8000000 in
set_option maxRecDepth 100000 in
theorem one_any (s : ByteArray) (k : Nat) (w : World) (hk : k < s.size) (hs : s.size ≤ 1000000) :
    Calls Try.prog 74 #[.string s, .int .i64 (k : Int)] w (OneOut (s.data.toList.drop k) k w) := by
  have HL : s.data.toList.length = s.size := by simp
  have W0 := wl_le (s.data.toList.drop k)
  rw [List.length_drop, HL] at W0
  have D0 := Lib.hid (drop_at s k hk)
  have EX := Lib.hid (fun n => show (s.extract k (k + n)).data.toList = (s.data.toList.drop k).take n by rw [ex_list]; congr 1; omega)
  have z0 : (0 : Int) ≤ (k : Int) := by omega
  have z1 : (k : Int) < (s.size : Int) := by omega
  go_enter Try.func74, Try.ntmps74
  go_wp2
  go_loopw [6] (fun u6 wr => ∃ n : Nat, n ≤ wl (s.data.toList.drop k) ∧ u6 = .int .i64 n ∧ wr = w.alloc (.cells #[.int .i64 0, .int .i64 0, .string { data := #[] }] 55)) (fun u6 _ => s.size - (intOf u6).toNat)
  case atStart => exact ⟨0, Nat.zero_le _, rfl, rfl⟩
  case round =>
    obtain ⟨n, hn, rfl, rfl⟩ := hrel
    by_cases hlt : k + n < s.size
    · have T := takeW_lt (l := s.data.toList.drop k) hn (by rw [List.length_drop]; omega)
      have eb : (s[k + n]'hlt) = (s.data.toList.drop k)[n]'(by rw [List.length_drop]; omega) := by rw [List.getElem_drop]; rfl
      rw [← eb] at T
      have T1 := Lib.hid T
      have C := Lib.hid (letter_any (s[k + n]'hlt))
      have IX := ix_str s k n hlt
      have OUT := Lib.hid (show wl (s.data.toList.drop k) = n → n ≠ 0 → tok (s.data.toList.drop k) = some (0, n, (s.data.toList.drop k).take n) from fun h h0 => by unfold tok; rw [h, if_pos (by omega)])
      clear T eb
      rcases Bool.eq_false_or_eq_true (isW (s[k + n]'hlt)) with h | h
      · have T2 := T1.out.1 h
        rw [h] at C
        go_wp2_with fail
        refine (C.out _).mono ?_
        rintro e w' ⟨rfl, rfl⟩
        go_wp2
        refine ⟨⟨n + 1, T2, by go_num, by first | rfl | trivial⟩, by simp only [intOf]; omega⟩
      · have T2 := T1.out.2 h
        by_cases hn0 : n = 0
        · have q0 : decide ((0 : Int) < n) = false := by simp; omega
          have q0' : decide (0 < n) = false := by simp; omega
          have hcW : isW (s[k]'hk) = false := by
            have e : s[k + n]'hlt = s[k]'hk := by congr 1; omega
            rw [← e]; exact h
          have D := D0.out
          rw [h] at C
          have b1 : (k : Int) + n ≤ 1000000 := by omega
          have HN := Lib.hid hn0
          clear hn0 T2 OUT T1 hn W0 h
          obtain ⟨b, eb⟩ : ∃ b : Nat, (s[k]'hk).toNat = b := ⟨_, rfl⟩
          have hb0 : (s[k]'hk) = 46 ↔ b = 46 := ⟨fun h => by rw [← eb, h]; rfl, fun h => UInt8.toNat_inj.1 (by rw [eb, h]; rfl)⟩
          by_cases h46 : (s[k]'hk) = 46
          · have hb : ((b : Int) == 46) = true := by simp; exact_mod_cast hb0.1 h46
            rw [h46] at D
            by_cases hk2 : k + 1 < s.size
            · have IX2 := ix_str s k 1 hk2
              obtain ⟨c2, ec2⟩ : ∃ c2, (s[k + 1]'hk2) = c2 := ⟨_, rfl⟩
              obtain ⟨b2, eb2⟩ : ∃ b2 : Nat, c2.toNat = b2 := ⟨_, rfl⟩
              rw [drop_at s (k + 1) hk2, ec2] at D
              rw [ec2, eb2, show ((1 : Nat) : Int) = 1 from rfl] at IX2
              have O := Lib.hid (show tok (s.data.toList.drop k) = if c2 = 46 then some (2, 2, []) else none by rw [D]; exact tok_dots c2 _)
              have hb2 : c2 = 46 ↔ b2 = 46 := ⟨fun h => by rw [← eb2, h]; rfl, fun h => UInt8.toNat_inj.1 (by rw [eb2, h]; rfl)⟩
              have q4 : decide ((k : Int) + 1 < s.size) = true := by simp; omega
              by_cases h2 : c2 = 46
              · have hq2 : ((b2 : Int) == 46) = true := by simp; exact_mod_cast hb2.1 h2
                rw [if_pos h2] at O
                clear h2 hb2 hb0 h46 D ec2 eb2
                go_wp2_with fail; refine (C.out _).mono ?_; rintro e w' ⟨rfl, rfl⟩; go_wp2_with fail
                refine bodyPost_ret (v := .tuple #[.agg #[.int .i64 2, .int .i64 (k : Int), .string ({ data := #[] })], .int .i64 2]) (by simp [results, Try.results74, go_sem]) rfl ⟨Kp.alloc _ _, ?_⟩
                rw [O.out]
                rfl
              · have hq2 : ((b2 : Int) == 46) = false := by simp; intro g; exact h2 (hb2.2 (by exact_mod_cast g))
                rw [if_neg h2] at O
                clear h2 hb2 hb0 h46 D ec2 eb2
                go_wp2_with fail; refine (C.out _).mono ?_; rintro e w' ⟨rfl, rfl⟩; go_wp2_with fail
                refine bodyPost_ret (v := .tuple #[.agg #[.int .i64 0, .int .i64 0, .string ({ data := #[] })], .int .i64 0]) (by simp [results, Try.results74, go_sem]) rfl ⟨Kp.alloc _ _, ?_⟩
                rw [O.out]
            · have q4 : decide ((k : Int) + 1 < s.size) = false := by simp; omega
              have O := Lib.hid (show tok (s.data.toList.drop k) = none by rw [D, List.drop_of_length_le (by omega)]; exact tok_dot)
              clear hb0 h46 D
              go_wp2_with fail; refine (C.out _).mono ?_; rintro e w' ⟨rfl, rfl⟩; go_wp2_with fail
              refine bodyPost_ret (v := .tuple #[.agg #[.int .i64 0, .int .i64 0, .string ({ data := #[] })], .int .i64 0]) (by simp [results, Try.results74, go_sem]) rfl ⟨Kp.alloc _ _, ?_⟩
              rw [O.out]
          · have hb : ((b : Int) == 46) = false := by simp; intro g; exact h46 (hb0.2 (by exact_mod_cast g))
            have O := Lib.hid (show tok (s.data.toList.drop k) = if sgn [s[k]'hk] = 0 then none else some (sgn [s[k]'hk], 1, []) by rw [D]; exact tok_sign1 hcW h46)
            have S1 := Lib.hid (rsign_any (s[k]'hk))
            rw [eb] at S1
            have SD := Lib.hid (show sg1 (s[k]'hk) = if sgn [s[k]'hk] = 0 then -1 else sgn [s[k]'hk] from rfl)
            have SR := sgn_rng [s[k]'hk]
            clear hb0 h46 D hcW
            generalize sgn [s[k]'hk] = z at *
            generalize sg1 (s[k]'hk) = y at *
            by_cases hz : z = 0
            · rw [if_pos hz] at O SD
              have SD' := SD.out
              subst SD'
              clear SD SR
              go_wp2_with fail; refine (C.out _).mono ?_; rintro e w' ⟨rfl, rfl⟩; go_wp2_with fail
              go_wp2_with fail
              refine (S1.out _).mono ?_
              rintro e w' ⟨rfl, rfl⟩
              go_wp2
              refine bodyPost_ret (v := .tuple #[.agg #[.int .i64 0, .int .i64 0, .string ({ data := #[] })], .int .i64 0]) (by simp [results, Try.results74, go_sem]) rfl ⟨Kp.alloc _ _, ?_⟩
              rw [O.out]
            · rw [if_neg hz] at O SD
              have SD' := SD.out
              subst SD'
              have qy : decide (y < 0) = false := by simp; omega
              clear SD SR
              go_wp2_with fail; refine (C.out _).mono ?_; rintro e w' ⟨rfl, rfl⟩; go_wp2_with fail
              go_wp2_with fail
              refine (S1.out _).mono ?_
              rintro e w' ⟨rfl, rfl⟩
              go_wp2
              refine bodyPost_ret (v := .tuple #[.agg #[.int .i64 y, .int .i64 (k : Int), .string ({ data := #[] })], .int .i64 1]) (by simp [results, Try.results74, go_sem]) rfl ⟨Kp.alloc _ _, ?_⟩
              rw [O.out]
              rfl
        · have O := Lib.hid (OUT.out T2.symm hn0)
          rw [h] at C
          have q : decide ((0 : Int) < n) = true := by simp; omega
          have q' : decide (0 < n) = true := by simp; omega
          have hcut := cut_str s k n (by omega)
          clear T2 W0 hn OUT T1
          go_wp2_with fail
          refine (C.out _).mono ?_
          rintro e w' ⟨rfl, rfl⟩
          go_wp2
          refine bodyPost_ret (v := .tuple #[.agg #[.int .i64 0, .int .i64 (k : Int), .string (s.extract k (k + n))], .int .i64 (n : Int)]) (by simp [results, Try.results74, go_sem]) rfl ⟨Kp.alloc _ _, ?_⟩
          rw [O.out]
          show _ = Ending.returned (.tuple #[.agg #[.int .i64 0, .int .i64 (k : Int), .string (bs ((s.data.toList.drop k).take n))], .int .i64 (n : Int)])
          rw [← EX.out n, bs_list]
    · have hn0 : n ≠ 0 := by omega
      have hw : n = wl (s.data.toList.drop k) := by omega
      have O := Lib.hid (show tok (s.data.toList.drop k) = some (0, n, (s.data.toList.drop k).take n) by unfold tok; rw [← hw, if_pos (by omega)])
      have q : decide ((0 : Int) < n) = true := by simp; omega
      have q' : decide (0 < n) = true := by simp; omega
      have q2 : decide ((k : Int) + n < s.size) = false := by simp; omega
      have q3 : ¬ ((k : Int) + n < s.size) := by omega
      have hcut := cut_str s k n (by omega)
      have b1 : (k : Int) + n ≤ 1000000 := by omega
      clear hw W0 hn
      go_wp2
      refine bodyPost_ret (v := .tuple #[.agg #[.int .i64 0, .int .i64 (k : Int), .string (s.extract k (k + n))], .int .i64 (n : Int)]) (by simp [results, Try.results74, go_sem]) rfl ⟨Kp.alloc _ _, ?_⟩
      rw [O.out]
      show _ = Ending.returned (.tuple #[.agg #[.int .i64 0, .int .i64 (k : Int), .string (bs ((s.data.toList.drop k).take n))], .int .i64 (n : Int)])
      rw [← EX.out n, bs_list]
end Go.Proofs.Ytgaadakhkjfbnaa
