/-
  Layer 9: the walk of LexBack.
-/
import Derived.Test.YtgaadakhkjfbnaaL9A
namespace Go.Proofs.Ytgaadakhkjfbnaa
open Go.RowKit Go.Shelf
set_option linter.unusedVariables false
set_option linter.unusedSimpArgs false
theorem sameKS_at {a b : List Tk} (h : SameKS a b) : a.length = b.length ∧ ∀ i, i < a.length → (tk a i).1 = (tk b i).1 ∧ (tk a i).2.2 = (tk b i).2.2 := by
  have hl : a.length = b.length := by
    have := congrArg List.length h
    simpa using this
  refine ⟨hl, fun i hi => ?_⟩
  have g := congrArg (fun l => l[i]?) h
  simp only [List.getElem?_map] at g
  rw [List.getElem?_eq_getElem hi, List.getElem?_eq_getElem (by omega : i < b.length)] at g
  simp only [Option.map_some, Option.some.injEq, Prod.mk.injEq] at g
  unfold tk
  simp only [List.getD, List.getElem?_eq_getElem hi, List.getElem?_eq_getElem (by omega : i < b.length), Option.getD_some]
  exact g
theorem sameKS_end {a b : List Tk} (h : SameKS a b) (s t : ByteArray) : SameKS (a ++ [endT s]) (b ++ [endT t]) := by
  unfold SameKS at *
  rw [List.map_append, List.map_append, h]
  rfl
set_option maxHeartbeats 8000000 in
set_option maxRecDepth 100000 in
theorem lexBack_walk (s : ByteArray) (w : World) (hs : s.size ≤ maxLen) :
    Calls Try.prog 17 #[.string s] w fun e w' => e = .returned (.bool true) ∧ Kp w w' := by
  have hs' : s.size ≤ 9223372036854775807 := by unfold maxLen at hs; omega
  by_cases h4 : 400 < s.size
  · have q : decide ((400 : Int) < s.size) = true := decide_eq_true (by omega)
    clear hs
    go_enter Try.func17, Try.ntmps17
    go_wp2_with fail; refine (awake09 _).mono ?_; rintro e w1 ⟨rfl, kk⟩; have K1 := Lib.hid ((Lib.hid (Kp.refl w)).out.trans kk); clear kk
    go_wp2
    go_ret
    exact ⟨rfl, K1.out⟩
  · have q : decide ((400 : Int) < s.size) = false := decide_eq_false (by omega)
    obtain ⟨ts, e0, hx⟩ := lx_ex s.data.toList 0
    have HL : s.data.toList.length = s.size := by simp
    cases e0 with
    | some p =>
      have C1 := Lib.hid (fun w1 => lallS s ts p w1 (by omega) hx)
      clear hs hx HL
      go_enter Try.func17, Try.ntmps17
      go_wp2_with fail; refine (awake09 _).mono ?_; rintro e w1 ⟨rfl, kk⟩; have K1 := Lib.hid ((Lib.hid (Kp.refl w)).out.trans kk); clear kk
      go_wp2_with fail; refine (C1.out _).mono ?_; rintro e w2 ⟨rfl, kk⟩; have K2 := Lib.hid (K1.out.trans kk); clear kk
      go_wp2
      go_ret
      exact ⟨rfl, K2.out⟩
    | none =>
      have C1 := Lib.hid (fun w1 => lallN s ts w1 (by omega) hx)
      obtain ⟨ts', hx', hsame⟩ := relex ts (lx_good hx) false 0
      have SHL := sh_len hx false
      rw [HL] at SHL
      have C2 := Lib.hid (fun w1 v h => lshowT s v _ ts none w1 h hx (by omega))
      have E3 := list_bs (sh false ts)
      have E4 := bs_size (sh false ts)
      have C3 := Lib.hid (fun w1 => lallN (bs (sh false ts)) ts' w1 (by omega) (by rw [E3]; exact hx'))
      have C4 := Lib.hid (fun w1 v h => lshowT (bs (sh false ts)) v _ ts' none w1 h hx' (by omega))
      rw [← sh_same hsame false] at C4
      obtain ⟨SL, SE⟩ := sameKS_at (sameKS_end hsame s (bs (sh false ts)))
      have SZ : (bs (sh false ts)).size ≤ 9223372036854775807 := by omega
      have TL : (ts ++ [endT s]).length ≤ 1000 := (lx_show s hx (by omega)).1
      generalize bs (sh false ts) = t at *
      generalize ts ++ [endT s] = TS at *
      generalize ts' ++ [endT t] = TS' at *
      have SEE := Lib.hid SE
      have HSL := Lib.hid SL
      have HTL := Lib.hid TL
      clear hs hx HL hx' hsame SHL E3 E4 SE SL
      go_enter Try.func17, Try.ntmps17
      go_wp2_with fail; refine (awake09 _).mono ?_; rintro e w1 ⟨rfl, kk⟩; have K1 := Lib.hid ((Lib.hid (Kp.refl w)).out.trans kk); clear kk
      go_wp2_with fail
      refine (C1.out _).mono ?_
      rintro e w2 ⟨v1, rfl, t1, kk⟩
      have K2 := Lib.hid (K1.out.trans kk)
      obtain ⟨ad1, cc1, rfl⟩ := t1.slice
      have R0 := Lib.hid t1
      clear kk t1
      go_wp2_with fail
      refine (C2.out _ _ R0.out).mono ?_
      rintro e w3 ⟨rfl, kk⟩
      have K3 := Lib.hid (K2.out.trans kk)
      have R1 := Lib.hid (R0.out.kp kk)
      clear kk R0
      go_wp2_with fail
      refine (C3.out _).mono ?_
      rintro e w4 ⟨v2, rfl, t2, kk⟩
      have K4 := Lib.hid (K3.out.trans kk)
      have R2 := Lib.hid (R1.out.kp kk)
      have T2 := Lib.hid t2
      have ev := t2.slice
      rw [← HSL.out] at ev
      obtain ⟨ad2, cc2, rfl⟩ := ev
      clear kk t2 R1
      have ql : ((TS.length : Int) != TS.length) = false := by simp
      go_wp2
      go_loopw [11] (fun u11 wr => ∃ k : Nat, k ≤ TS.length ∧ u11 = .int .i64 k ∧ Hid (Kp w4 wr)) (fun u11 _ => TS.length - (intOf u11).toNat)
      case atStart => exact ⟨0, Nat.zero_le _, rfl, Lib.hid (Kp.refl _)⟩
      case round =>
        obtain ⟨k, hk, rfl, K5⟩ := hrel
        by_cases hlt : k < TS.length
        · rcases R2.out with ⟨_, _, _, e⟩ | ⟨b, off, cap, ev, hc, hm, hx⟩
          · rw [e] at hlt; simp at hlt
          cases ev
          rcases T2.out with ⟨_, _, _, e⟩ | ⟨b', off', cap', ev', hc', hm', hx'⟩
          · rw [HSL.out, e] at hlt; simp at hlt
          rw [← HSL.out] at ev'
          cases ev'
          obtain ⟨d1, _, d3⟩ := rd_tok hx K5.out k hlt
          obtain ⟨d4, _, d6⟩ := rd_tok hx' K5.out k (by rw [← HSL.out]; exact hlt)
          obtain ⟨s1, s2⟩ := SEE.out k hlt
          rw [← s1] at d4
          rw [← s2] at d6
          clear hx hx' s1 s2
          generalize bs (tk TS k).2.2 = x at *
          generalize (tk TS k).1 = y at *
          have z1 : (0 : Int) ≤ (k : Int) := by omega
          have z2 : (k : Int) < TS.length := by omega
          go_wp2_with fail
          go_quiet (fail)
          go_wp2
          go_roundw
          case rel => exact ⟨k + 1, by omega, by go_num, Lib.hid (K5.out.trans (Kp.drewN _ _))⟩
          case measure => simp [intOf]; omega
        · have q3 : decide ((k : Int) < TS.length) = false := by simp; omega
          have C5 := Lib.hid (C4.out _ _ (T2.out.kp K5.out))
          clear C4
          go_wp2_with fail
          refine (C5.out).mono ?_
          rintro e w6 ⟨rfl, kk⟩
          have K6 := Lib.hid (K4.out.trans (K5.out.trans kk))
          clear kk
          go_wp2
          go_ret
          exact ⟨by simp, K6.out⟩
end Go.Proofs.Ytgaadakhkjfbnaa
