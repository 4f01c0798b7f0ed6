import Derived.Test.YtjdnejglapnbbaaGreatDoorGOrdA
import Derived.LoopTactic
import Derived.Laws.EntriesVeiled
import Derived.Shelf.Abstract
set_option maxHeartbeats 16000000
set_option maxRecDepth 100000
namespace Go.Proofs.YtjdnejglapnbbaaGreatDoor
open Go.RowKit
set_option linter.unusedVariables false
set_option linter.unusedSimpArgs false
def hIf (B : Nat) : Value := .iface 126 (.pointer (some ⟨B, 0, none⟩))
theorem mLen (B : Nat) (w : World) : (method 361 126 (.pointer (some ⟨B, 0, none⟩)) "Len").run Tryz.prog w = .ok (105, .pointer (some ⟨B, 0, none⟩)) w := by kernel_rfl
theorem mLess (B : Nat) (w : World) : (method 361 126 (.pointer (some ⟨B, 0, none⟩)) "Less").run Tryz.prog w = .ok (316, .pointer (some ⟨B, 0, none⟩)) w := by kernel_rfl
theorem mSwap (B : Nat) (w : World) : (method 361 126 (.pointer (some ⟨B, 0, none⟩)) "Swap").run Tryz.prog w = .ok (318, .pointer (some ⟨B, 0, none⟩)) w := by kernel_rfl
theorem mPop (B : Nat) (w : World) : (method 361 126 (.pointer (some ⟨B, 0, none⟩)) "Pop").run Tryz.prog w = .ok (317, .pointer (some ⟨B, 0, none⟩)) w := by kernel_rfl
theorem down_any (w0 : World) (B : Nat) (L : List PLC) (x y : Int) (i0 n : Nat) (w : World) (h : HPs w0 B L w) (hn : n ≤ L.length) (hL : L.length ≤ 1000) (h0 : i0 ≤ 1000) (hh : hpF L (i0 + 1) n) (hx : x = i0) (hy : y = n) :
  Calls Tryz.prog 183 #[hIf B, .int .i64 x, .int .i64 y] w fun e w' => ∃ v L', e = .returned v ∧ HPs w0 B L' w' ∧ PW w w' ∧ L'.Perm L ∧ hpF L' i0 n ∧ ∀ q, n ≤ q → plAt L' q = plAt L q := by
 subst hx hy
 have CL := Lib.hid (fun (x y : Int) (a b : Nat) (LL : List PLC) (w1 : World) (h1 : HPs w0 B LL w1) (ha : a < LL.length) (hb : b < LL.length) (hx : x = a) (hy : y = b) => (by subst hx hy; exact hless_any w0 B LL a b w1 h1 ha hb : Calls Tryz.prog 316 #[.pointer (some ⟨B, 0, none⟩), .int .i64 x, .int .i64 y] w1 fun e w' => e = .returned (.bool (lessP (plAt LL a) (plAt LL b))) ∧ Kp w1 w'))
 have CS := Lib.hid (fun (x y : Int) (a b : Nat) (LL : List PLC) (w1 : World) (h1 : HPs w0 B LL w1) (ha : a < LL.length) (hb : b < LL.length) (hx : x = a) (hy : y = b) => (by subst hx hy; exact hswap_any w0 B LL a b w1 h1 ha hb : Calls Tryz.prog 318 #[.pointer (some ⟨B, 0, none⟩), .int .i64 x, .int .i64 y] w1 fun e w' => e = .returned (.tuple #[]) ∧ HPs w0 B (swp LL a b) w' ∧ PW w1 w'))
 have ml := mLess B
 have ms := mSwap B
 have SF0 := Lib.hid (sft_first hh)
 have HP0 := Lib.hid h
 have PW0 := Lib.hid (PW.refl w)
 unfold hIf
 clear h hh
 go_enter Tryz.func183, Tryz.ntmps183
 go_wp2
 go_loopw [7] (fun i wr => ∃ (k : Nat) (Lc : List PLC), k ≤ 1000 ∧ i = .int .i64 k ∧ Hid (i0 ≤ k ∧ Lc.length = L.length) ∧ Hid (HPs w0 B Lc wr) ∧ Hid (PW w wr) ∧ Hid (Lc.Perm L) ∧ Hid (sft Lc i0 k n) ∧ Hid (∀ q, n ≤ q → plAt Lc q = plAt L q)) (fun i _ => 1000 - (intOf i).toNat)
 case atStart => exact ⟨i0, L, h0, rfl, Lib.hid ⟨Nat.le_refl _, rfl⟩, HP0, PW0, Lib.hid (List.Perm.refl _), SF0, Lib.hid (fun _ _ => rfl)⟩
 case round =>
  obtain ⟨k, Lc, hk, rfl, LN, HPL, PWL, PM, SF, TL⟩ := hrel
  by_cases h1 : 2 * k + 1 < n
  ·by_cases h2 : 2 * k + 2 < n
   ·cases hlb : lessP (plAt Lc (2 * k + 2)) (plAt Lc (2 * k + 1)) with
    | true =>
     have HLB := Lib.hid hlb
     have CLb := Lib.hid (fun x y w1 (h1 : HPs w0 B Lc w1) hx hy => CL.out x y (2 * k + 2) (2 * k + 1) Lc w1 h1 (by have := LN.out.2; omega) (by have := LN.out.2; omega) hx hy)
     rw [hlb] at CLb
     clear hlb
     go_wp2_with fail
     refine (CLb.out _ _ _ HPL.out (by omega) (by omega)).mono ?_
     rintro e w7 ⟨rfl, kk⟩
     replace PWL := Lib.hid (PWL.out.trans (PW.kp kk))
     replace HPL := Lib.hid (HPL.out.kp kk)
     clear kk CLb
     have MN := Lib.hid (show ∀ c, kid c k → c < n → leP (plAt Lc (2 * k + 2)) (plAt Lc c) from fun c hc hcn => by rcases hc with rfl | rfl; exact less_le HLB.out; exact leP_refl _)
     clear HLB
     cases hl : lessP (plAt Lc (2 * k + 2)) (plAt Lc k) with
     | true =>
      have HL2 := Lib.hid hl
      have CL2 := Lib.hid (fun x y w1 (h1 : HPs w0 B Lc w1) hx hy => CL.out x y (2 * k + 2) k Lc w1 h1 (by have := LN.out.2; omega) (by have := LN.out.2; omega) hx hy)
      rw [hl] at CL2
      clear hl
      go_wp2_with fail
      refine (CL2.out _ _ _ HPL.out (by omega) (by omega)).mono ?_
      rintro e w8 ⟨rfl, kk⟩
      have HP8 := Lib.hid (HPL.out.kp kk)
      have PW8 := Lib.hid (PWL.out.trans (PW.kp kk))
      clear kk
      go_wp2_with fail
      refine (CS.out _ _ k (2 * k + 2) Lc _ HP8.out (by have := LN.out.2; omega) (by have := LN.out.2; omega) (by omega) (by omega)).mono ?_
      rintro e w9 ⟨rfl, hp9, pw9⟩
      have HP9 := Lib.hid hp9
      have PW9 := Lib.hid (PW8.out.trans pw9)
      clear hp9 pw9
      go_wp2
      go_roundw
      case rel => exact ⟨(2 * k + 2), swp Lc k (2 * k + 2), by omega, by go_num, Lib.hid ⟨by have := LN.out.1; omega, by rw [swp_length]; exact LN.out.2⟩, HP9, PW9, Lib.hid ((swp_perm (by have := LN.out.2; omega) (by have := LN.out.2; omega)).trans PM.out), Lib.hid (sft_step SF.out LN.out.1 (by unfold kid; omega) (by omega) (by have := LN.out.2; omega) HL2.out MN.out), Lib.hid (fun q hq => by rw [plAt_swp (by have := LN.out.2; omega) (by have := LN.out.2; omega), if_neg (by omega), if_neg (by omega)]; exact TL.out q hq)⟩
      case measure => simp [intOf]; omega
     | false =>
      have HL2 := Lib.hid (show leP (plAt Lc k) (plAt Lc (2 * k + 2)) from hl)
      have CL2 := Lib.hid (fun x y w1 (h1 : HPs w0 B Lc w1) hx hy => CL.out x y (2 * k + 2) k Lc w1 h1 (by have := LN.out.2; omega) (by have := LN.out.2; omega) hx hy)
      rw [hl] at CL2
      clear hl
      go_wp2_with fail
      refine (CL2.out _ _ _ HPL.out (by omega) (by omega)).mono ?_
      rintro e w8 ⟨rfl, kk⟩
      have HP8 := Lib.hid (HPL.out.kp kk)
      have PW8 := Lib.hid (PWL.out.trans (PW.kp kk))
      clear kk
      go_wp2
      go_ret
      first | exact ⟨_, Lc, rfl, HP8.out, PW8.out, PM.out, sft_last SF.out (fun c hc hcn => leP_trans HL2.out (MN.out c hc hcn)), TL.out⟩ | exact ⟨Lc, HP8.out, PW8.out, PM.out, sft_last SF.out (fun c hc hcn => leP_trans HL2.out (MN.out c hc hcn)), TL.out⟩
    | false =>
     have HLB := Lib.hid (show leP (plAt Lc (2 * k + 1)) (plAt Lc (2 * k + 2)) from hlb)
     have CLb := Lib.hid (fun x y w1 (h1 : HPs w0 B Lc w1) hx hy => CL.out x y (2 * k + 2) (2 * k + 1) Lc w1 h1 (by have := LN.out.2; omega) (by have := LN.out.2; omega) hx hy)
     rw [hlb] at CLb
     clear hlb
     go_wp2_with fail
     refine (CLb.out _ _ _ HPL.out (by omega) (by omega)).mono ?_
     rintro e w7 ⟨rfl, kk⟩
     replace PWL := Lib.hid (PWL.out.trans (PW.kp kk))
     replace HPL := Lib.hid (HPL.out.kp kk)
     clear kk CLb
     have MN := Lib.hid (show ∀ c, kid c k → c < n → leP (plAt Lc (2 * k + 1)) (plAt Lc c) from fun c hc hcn => by rcases hc with rfl | rfl; exact leP_refl _; exact HLB.out)
     clear HLB
     cases hl : lessP (plAt Lc (2 * k + 1)) (plAt Lc k) with
     | true =>
      have HL2 := Lib.hid hl
      have CL2 := Lib.hid (fun x y w1 (h1 : HPs w0 B Lc w1) hx hy => CL.out x y (2 * k + 1) k Lc w1 h1 (by have := LN.out.2; omega) (by have := LN.out.2; omega) hx hy)
      rw [hl] at CL2
      clear hl
      go_wp2_with fail
      refine (CL2.out _ _ _ HPL.out (by omega) (by omega)).mono ?_
      rintro e w8 ⟨rfl, kk⟩
      have HP8 := Lib.hid (HPL.out.kp kk)
      have PW8 := Lib.hid (PWL.out.trans (PW.kp kk))
      clear kk
      go_wp2_with fail
      refine (CS.out _ _ k (2 * k + 1) Lc _ HP8.out (by have := LN.out.2; omega) (by have := LN.out.2; omega) (by omega) (by omega)).mono ?_
      rintro e w9 ⟨rfl, hp9, pw9⟩
      have HP9 := Lib.hid hp9
      have PW9 := Lib.hid (PW8.out.trans pw9)
      clear hp9 pw9
      go_wp2
      go_roundw
      case rel => exact ⟨(2 * k + 1), swp Lc k (2 * k + 1), by omega, by go_num, Lib.hid ⟨by have := LN.out.1; omega, by rw [swp_length]; exact LN.out.2⟩, HP9, PW9, Lib.hid ((swp_perm (by have := LN.out.2; omega) (by have := LN.out.2; omega)).trans PM.out), Lib.hid (sft_step SF.out LN.out.1 (by unfold kid; omega) (by omega) (by have := LN.out.2; omega) HL2.out MN.out), Lib.hid (fun q hq => by rw [plAt_swp (by have := LN.out.2; omega) (by have := LN.out.2; omega), if_neg (by omega), if_neg (by omega)]; exact TL.out q hq)⟩
      case measure => simp [intOf]; omega
     | false =>
      have HL2 := Lib.hid (show leP (plAt Lc k) (plAt Lc (2 * k + 1)) from hl)
      have CL2 := Lib.hid (fun x y w1 (h1 : HPs w0 B Lc w1) hx hy => CL.out x y (2 * k + 1) k Lc w1 h1 (by have := LN.out.2; omega) (by have := LN.out.2; omega) hx hy)
      rw [hl] at CL2
      clear hl
      go_wp2_with fail
      refine (CL2.out _ _ _ HPL.out (by omega) (by omega)).mono ?_
      rintro e w8 ⟨rfl, kk⟩
      have HP8 := Lib.hid (HPL.out.kp kk)
      have PW8 := Lib.hid (PWL.out.trans (PW.kp kk))
      clear kk
      go_wp2
      go_ret
      first | exact ⟨_, Lc, rfl, HP8.out, PW8.out, PM.out, sft_last SF.out (fun c hc hcn => leP_trans HL2.out (MN.out c hc hcn)), TL.out⟩ | exact ⟨Lc, HP8.out, PW8.out, PM.out, sft_last SF.out (fun c hc hcn => leP_trans HL2.out (MN.out c hc hcn)), TL.out⟩
   ·have HLB := Lib.hid h2
    have MN := Lib.hid (show ∀ c, kid c k → c < n → leP (plAt Lc (2 * k + 1)) (plAt Lc c) from fun c hc hcn => by rcases hc with rfl | rfl; exact leP_refl _; exact absurd hcn HLB.out)
    clear HLB
    cases hl : lessP (plAt Lc (2 * k + 1)) (plAt Lc k) with
    | true =>
     have HL2 := Lib.hid hl
     have CL2 := Lib.hid (fun x y w1 (h1 : HPs w0 B Lc w1) hx hy => CL.out x y (2 * k + 1) k Lc w1 h1 (by have := LN.out.2; omega) (by have := LN.out.2; omega) hx hy)
     rw [hl] at CL2
     clear hl
     go_wp2_with fail
     refine (CL2.out _ _ _ HPL.out (by omega) (by omega)).mono ?_
     rintro e w8 ⟨rfl, kk⟩
     have HP8 := Lib.hid (HPL.out.kp kk)
     have PW8 := Lib.hid (PWL.out.trans (PW.kp kk))
     clear kk
     go_wp2_with fail
     refine (CS.out _ _ k (2 * k + 1) Lc _ HP8.out (by have := LN.out.2; omega) (by have := LN.out.2; omega) (by omega) (by omega)).mono ?_
     rintro e w9 ⟨rfl, hp9, pw9⟩
     have HP9 := Lib.hid hp9
     have PW9 := Lib.hid (PW8.out.trans pw9)
     clear hp9 pw9
     go_wp2
     go_roundw
     case rel => exact ⟨(2 * k + 1), swp Lc k (2 * k + 1), by omega, by go_num, Lib.hid ⟨by have := LN.out.1; omega, by rw [swp_length]; exact LN.out.2⟩, HP9, PW9, Lib.hid ((swp_perm (by have := LN.out.2; omega) (by have := LN.out.2; omega)).trans PM.out), Lib.hid (sft_step SF.out LN.out.1 (by unfold kid; omega) (by omega) (by have := LN.out.2; omega) HL2.out MN.out), Lib.hid (fun q hq => by rw [plAt_swp (by have := LN.out.2; omega) (by have := LN.out.2; omega), if_neg (by omega), if_neg (by omega)]; exact TL.out q hq)⟩
     case measure => simp [intOf]; omega
    | false =>
     have HL2 := Lib.hid (show leP (plAt Lc k) (plAt Lc (2 * k + 1)) from hl)
     have CL2 := Lib.hid (fun x y w1 (h1 : HPs w0 B Lc w1) hx hy => CL.out x y (2 * k + 1) k Lc w1 h1 (by have := LN.out.2; omega) (by have := LN.out.2; omega) hx hy)
     rw [hl] at CL2
     clear hl
     go_wp2_with fail
     refine (CL2.out _ _ _ HPL.out (by omega) (by omega)).mono ?_
     rintro e w8 ⟨rfl, kk⟩
     have HP8 := Lib.hid (HPL.out.kp kk)
     have PW8 := Lib.hid (PWL.out.trans (PW.kp kk))
     clear kk
     go_wp2
     go_ret
     first | exact ⟨_, Lc, rfl, HP8.out, PW8.out, PM.out, sft_last SF.out (fun c hc hcn => leP_trans HL2.out (MN.out c hc hcn)), TL.out⟩ | exact ⟨Lc, HP8.out, PW8.out, PM.out, sft_last SF.out (fun c hc hcn => leP_trans HL2.out (MN.out c hc hcn)), TL.out⟩
  ·go_wp2
   go_ret
   have DN := show HPs w0 B Lc wr ∧ PW w wr ∧ Lc.Perm L ∧ hpF Lc i0 n ∧ ∀ q, n ≤ q → plAt Lc q = plAt L q from ⟨HPL.out, PWL.out, PM.out, sft_last SF.out (fun c hc hcn => by unfold kid at hc; omega), TL.out⟩
   first
    | exact ⟨_, Lc, rfl, DN⟩
    | exact ⟨⟨_, rfl⟩, Lc, DN⟩
theorem hinit_any (w0 : World) (B : Nat) (L : List PLC) (w : World) (h : HPs w0 B L w) (hL : L.length ≤ 1000) :
  Calls Tryz.prog 104 #[hIf B] w fun e w' => ∃ L', e = .returned (.tuple #[]) ∧ HPs w0 B L' w' ∧ PW w w' ∧ L'.Perm L ∧ hpF L' 0 L'.length := by
 have CN := Lib.hid (hlen_any w0 B L w h)
 have CD := Lib.hid (fun (x y : Int) (i0 : Nat) (LL : List PLC) (w1 : World) (h1 : HPs w0 B LL w1) (hl : LL.length = L.length) (hi : i0 ≤ 1000) (hh : hpF LL (i0 + 1) L.length) (hx : x = i0) (hy : y = L.length) => down_any w0 B LL x y i0 L.length w1 h1 (by omega) (by omega) hi hh hx hy)
 have ml := mLen B
 have HP0 := Lib.hid h
 have PW0 := Lib.hid (PW.refl w)
 have SF0 := Lib.hid (show hpF L (L.length / 2) L.length from fun k c h1 h2 h3 => by unfold kid at h2; omega)
 have z0 : (0 : Int) ≤ (L.length : Int) := by omega
 unfold hIf at *
 clear h
 generalize hN : L.length = n at *
 have NN := Lib.hid hN
 clear hN
 go_enter Tryz.func104, Tryz.ntmps104
 go_wp2_with fail
 refine CN.out.mono ?_
 rintro e w1 ⟨rfl, rfl⟩
 go_wp2
 go_loopw [3] (fun i wr => ∃ (k : Nat) (Lc : List PLC), k ≤ 1000 ∧ i = .int .i64 ((k : Int) - 1) ∧ Hid (Lc.length = n) ∧ Hid (HPs w0 B Lc wr) ∧ Hid (PW w wr) ∧ Hid (Lc.Perm L) ∧ Hid (hpF Lc k n)) (fun i _ => (intOf i + 1).toNat)
 case atStart => exact ⟨n / 2, L, by omega, by first | rfl | (congr 1; omega), NN, HP0, PW0, Lib.hid (List.Perm.refl _), SF0⟩
 case round =>
  obtain ⟨k, Lc, hk, rfl, LN, HPL, PWL, PM, SF⟩ := hrel
  by_cases h1 : 0 < k
  ·go_wp2_with fail
   refine (CD.out _ _ (k - 1) Lc _ HPL.out LN.out (by omega) (by rw [show k - 1 + 1 = k by omega]; exact SF.out) (by omega) rfl).mono ?_
   rintro e w2 ⟨b, L2, rfl, hp2, pw2, pm2, hf2, tl2⟩
   have HP2 := Lib.hid hp2
   have PW2 := Lib.hid (PWL.out.trans pw2)
   have PM2 := Lib.hid (pm2.trans PM.out)
   have SF2 := Lib.hid hf2
   have LN2 := Lib.hid (pm2.length_eq.trans LN.out)
   clear hp2 pw2 pm2 hf2 tl2
   go_wp2
   go_roundw
   case rel => exact ⟨k - 1, L2, by omega, by first | rfl | go_num | (congr 1; omega), LN2, HP2, PW2, PM2, SF2⟩
   case measure => simp [intOf]; omega
  ·obtain rfl : k = 0 := by omega
   go_wp2
   go_end0
   exact ⟨Lc, rfl, HPL.out, PWL.out, PM.out, by rw [LN.out]; exact SF.out⟩
def pcV (p : PLC) : Value := .agg #[.int .i64 p.at_, .int .i64 p.lo, .int .i64 p.hi, .bool p.em]
theorem own_take {w : World} {base : Nat} {e : TypeId} {size g n m cap : Nat} {xs : List Value} (h : w.ownsRow base e size (.slice (some ⟨g, 0, none⟩) n cap) n xs) (hm : m ≤ n) : w.ownsRow base e size (.slice (some ⟨g, 0, none⟩) m cap) m (xs.take (m * size)) := by
 obtain ⟨hl, h⟩ := h
 have hq : m * size ≤ n * size := Nat.mul_le_mul_right _ hm
 refine ⟨by rw [List.length_take, hl]; omega, ?_⟩
 rcases h with ⟨h, _⟩ | ⟨g', cap', cur, e1, hb, hg, h1, h2, h3, h4⟩
 ·cases h
 ·cases e1
  refine .inr ⟨g, cap, cur, rfl, hb, hg, by omega, h2, h3, ?_⟩
  rw [← h4, List.take_take, Nat.min_eq_left hq]
theorem hpop_any (w0 : World) (B : Nat) (L : List PLC) (n : Nat) (w : World) (h : HPs w0 B L w) (hn : L.length = n + 1) (hm : L.length ≤ 1000) :
  Calls Tryz.prog 317 #[.pointer (some ⟨B, 0, none⟩)] w fun e w' => e = .returned (.iface 132 (pcV (plAt L n))) ∧ HPs w0 B (L.take n) w' ∧ PW w w' := by
 obtain ⟨g, cap, h3, h4, hc, hx, hgB, hg1, hg2⟩ := h.open (by omega)
 obtain ⟨ca, cb, cc, cd⟩ := hx n (by omega)
 have hlt : (L.take n).length = n := by rw [List.length_take]; omega
 have o1 := own_take h4 (m := n) (by omega)
 rw [cellsK_take] at o1
 have gB := (Array.getElem?_eq_some_iff.1 h3).1
 obtain ⟨W1, hW1⟩ : ∃ x, w.setCell ⟨B, 0, none⟩ (.slice (some ⟨g, 0, none⟩) n cap) = x := ⟨_, rfl⟩
 have k1 : Kp w0 W1 := by rw [← hW1]; exact Below.setCell h.1 (p := ⟨B, 0, none⟩) h.2.1 _
 have b1 : W1.heap[B]? = some (.cells #[.slice (some ⟨g, 0, none⟩) n cap] 129 (0, 0)) := by rw [← hW1]; exact cs1_heap h3 0 _
 have r1 : W1.ownsRow w0.heap.size 132 4 (.slice (some ⟨g, 0, none⟩) n cap) (L.take n).length (cellsK (L.take n)) := by
  rw [hlt]
  refine ⟨o1.1, ?_⟩
  rcases o1.2 with q | ⟨g', cap', cur, e1, hb, hg, rest⟩
  ·exact .inl q
  ·cases e1
   exact .inr ⟨g, cap, cur, rfl, hb, by rw [← hW1]; exact (cs1_other hgB _ _).trans hg, rest⟩
 have p1 : PW w W1 := by rw [← hW1]; exact PW.set h3 (by simp [plB]) 0 _
 have DN := Lib.hid (fun w' (k : Kp W1 w') => show HPs w0 B (L.take n) w' ∧ PW w w' from ⟨HPs.kp ⟨k1, h.2.1, _, b1, r1⟩ k, p1.trans (PW.kp k)⟩)
 have HW1 := Lib.hid hW1
 have q : w.cell? ⟨B, 0, none⟩ = some (.slice (some ⟨g, 0, none⟩) L.length cap) := by simp [World.cell?, h3]
 have f : w.frozen? ⟨B, 0, none⟩ = false := by simp [World.frozen?, h3]
 have hcn : n ≤ cap := by omega
 rw [hn] at q
 generalize L.take n = M at *
 generalize plAt L n = p at *
 obtain ⟨pa, pl, ph, pe⟩ := p
 simp only [pcV] at *
 have hn2 : n ≤ 1000 := by omega
 clear h3 h4 hx h o1 r1 b1 k1 p1 hW1 hc hn hm hlt hg1 hg2
 go_enter Tryz.func317, Tryz.ntmps317
 go_wp2
 rw [HW1.out]
 go_ret
 exact ⟨rfl, DN.out _ (Kp.alloc _ _)⟩
abbrev pU0 : Oper := { dst := some 12, op := Go.Op.move (Go.Operand.tmp 0), type := 126, pos := "order.go:100", after := #[], guard := none }
abbrev pU1 : Oper := { dst := some 13, op := Go.Op.move (Go.Operand.tmp 0), type := 126, pos := "order.go:100", after := #[], guard := none }
abbrev pU2 : Oper := { dst := some 14, op := Go.Op.nilCheck (Go.Operand.tmp 13), type := 0, pos := "order.go:100", after := #[{ on := 1, ground := Go.Ground.data }], guard := none }
abbrev pU3 : Oper := { dst := some 15, op := Go.Op.fieldAddr 129 (Go.Operand.tmp 14) 0, type := 0, pos := "order.go:100", after := #[{ on := 2, ground := Go.Ground.data }], guard := none }
abbrev pU4 : Oper := { dst := some 16, op := Go.Op.load 127 (Go.Operand.tmp 15), type := 127, pos := "order.go:100", after := #[{ on := 3, ground := Go.Ground.data }], guard := none }
abbrev pU5 : Oper := { dst := some 17, op := Go.Op.load 132 (Go.Operand.tmp 4), type := 132, pos := "order.go:100", after := #[], guard := none }
abbrev pU6 : Oper := { dst := some 18, op := Go.Op.buildSlice 127 1 #[(0, Go.Operand.tmp 17)], type := 127, pos := "order.go:100", after := #[{ on := 5, ground := Go.Ground.data }], guard := none }
abbrev pU7 : Oper := { dst := some 19, op := Go.Op.call { callee := Go.Callee.builtin Go.Builtin.append, args := #[Go.Operand.tmp 16, Go.Operand.tmp 18], argTypes := #[127, 127] }, type := 127, pos := "order.go:100", after := #[{ on := 4, ground := Go.Ground.data }, { on := 6, ground := Go.Ground.data }], guard := none }
abbrev pU8 : Oper := { dst := some 20, op := Go.Op.nilCheck (Go.Operand.tmp 12), type := 0, pos := "order.go:100", after := #[{ on := 0, ground := Go.Ground.data }, { on := 0, ground := Go.Ground.phase }, { on := 1, ground := Go.Ground.phase }, { on := 2, ground := Go.Ground.phase }, { on := 3, ground := Go.Ground.phase }, { on := 4, ground := Go.Ground.phase }, { on := 5, ground := Go.Ground.phase }, { on := 6, ground := Go.Ground.phase }, { on := 7, ground := Go.Ground.phase }], guard := none }
abbrev pU9 : Oper := { dst := some 21, op := Go.Op.fieldAddr 129 (Go.Operand.tmp 20) 0, type := 0, pos := "order.go:100", after := #[{ on := 8, ground := Go.Ground.data }, { on := 0, ground := Go.Ground.phase }, { on := 1, ground := Go.Ground.phase }, { on := 2, ground := Go.Ground.phase }, { on := 3, ground := Go.Ground.phase }, { on := 4, ground := Go.Ground.phase }, { on := 5, ground := Go.Ground.phase }, { on := 6, ground := Go.Ground.phase }, { on := 7, ground := Go.Ground.phase }], guard := none }
abbrev pU10 : Oper := { dst := none, op := Go.Op.store 127 (Go.Operand.tmp 21) (Go.Operand.tmp 19), type := 0, pos := "order.go:100", after := #[{ on := 9, ground := Go.Ground.data }, { on := 7, ground := Go.Ground.data }, { on := 7, ground := Go.Ground.chain }, { on := 0, ground := Go.Ground.phase }, { on := 1, ground := Go.Ground.phase }, { on := 2, ground := Go.Ground.phase }, { on := 3, ground := Go.Ground.phase }, { on := 4, ground := Go.Ground.phase }, { on := 5, ground := Go.Ground.phase }, { on := 6, ground := Go.Ground.phase }, { on := 7, ground := Go.Ground.phase }], guard := none }
theorem infoPlace : (Tryz.prog.info? 132).map (fun i => (i.zero, i.size, i.bytes)) = some (some (.agg #[.int .i64 0, .int .i64 0, .int .i64 0, .bool false]), 4, 32) := by kernel_rfl
theorem cellsP_one (p : PLC) : ∀ u ∈ cellsP p, u.oneCell' = true := by
 intro u hu
 unfold cellsP at hu
 simp only [List.mem_cons, List.not_mem_nil, or_false] at hu
 rcases hu with rfl | rfl | rfl | rfl <;> rfl
theorem own_setc {w : World} {base : Nat} {e t : TypeId} {size n B : Nat} {v y x : Value} {xs : List Value} {fr : Nat × Nat} (h : w.ownsRow base e size v n xs) (hB : w.heap[B]? = some (.cells #[y] t fr)) (ht : (t == e) = false) : (w.setCell ⟨B, 0, none⟩ x).ownsRow base e size v n xs := by
 have hn := own_blk_ne h hB ht
 refine ⟨h.1, ?_⟩
 rcases h.2 with h2 | ⟨g, cap, cur, e1, hb, hg, rest⟩
 ·exact .inl h2
 ·exact .inr ⟨g, cap, cur, e1, hb, (cs1_other (hn g (by rw [e1]; rfl)) _ _).trans hg, rest⟩
theorem place_src {w' : World} {g : Nat} {p : PLC} (h : w'.heap[g]? = some (.cells #[.int .i64 p.at_, .int .i64 p.lo, .int .i64 p.hi, .bool p.em] 132 (0, 0))) : SrcAt w' (.slice (some ⟨g, 0, none⟩) 1 1) 1 (cellsP p) := by
 refine .inr ⟨_, _, rfl, fun j u hu => ?_⟩
 rw [Addr.add_lit]
 match j with
 | 0 => cases hu; simp [World.cell?, h]
 | 1 => cases hu; simp [World.cell?, h]
 | 2 => cases hu; simp [World.cell?, h]
 | 3 => cases hu; simp [World.cell?, h]
 | j + 4 => simp [cellsP] at hu
theorem hpush_any (w0 : World) (B : Nat) (L : List PLC) (p : PLC) (w : World) (h : HPs w0 B L w) (hm : L.length ≤ 1000) :
  Calls Tryz.prog 103 #[.pointer (some ⟨B, 0, none⟩), .iface 132 (pcV p)] w fun e w' => e = .returned (.tuple #[]) ∧ HPs w0 B (L ++ [p]) w' := by
 have as_ : ∀ (v : Value) (w : World), (Instr.typeAssert (.iface 132 v) 20 132 true).run Tryz.prog w = .ok (.tuple #[v, .bool true]) w := fun _ _ => by kernel_rfl
 obtain ⟨i0, hi, hz0, hz1, hz2⟩ := info_parts infoPlace
 obtain ⟨k0, hB, v0, bx, own⟩ := h
 obtain ⟨ad, c0, rfl⟩ := own_slice own
 obtain ⟨pa, pl, ph, pe⟩ := p
 simp only [pcV]
 obtain ⟨V, hV⟩ : ∃ x, x = w.alloc (.cells #[.int .i64 pa, .int .i64 pl, .int .i64 ph, .bool pe] 132) := ⟨_, rfl⟩
 have kv : Kp w V := by rw [hV]; exact Kp.alloc _ _
 have hgq : V.heap[w.heap.size]? = some (.cells #[.int .i64 pa, .int .i64 pl, .int .i64 ph, .bool pe] 132 (0, 0)) := by rw [hV]; exact heap_at _ _ _ rfl
 have gBw := (Array.getElem?_eq_some_iff.1 bx).1
 have bxV := heap_block kv bx
 have ownV := own_kp own kv
 have cB : V.cell? ⟨B, 0, none⟩ = some (.slice ad L.length c0) := by simp [World.cell?, bxV]
 have gB := (Array.getElem?_eq_some_iff.1 bxV).1
 have neB : (⟨B, 0, none⟩ : Addr).block ≠ w.heap.size := by simp only; omega
 have HS := Lib.hid (fun w' (k : Kp V w') => show w'.cell? ⟨w.heap.size, 0, none⟩ = some (.int .i64 pa) ∧ w'.cell? ⟨w.heap.size, 1, none⟩ = some (.int .i64 pl) ∧ w'.cell? ⟨w.heap.size, 2, none⟩ = some (.int .i64 ph) ∧ w'.cell? ⟨w.heap.size, 3, none⟩ = some (.bool pe) from ⟨cell_up k (by simp [World.cell?, hgq]), cell_up k (by simp [World.cell?, hgq]), cell_up k (by simp [World.cell?, hgq]), cell_up k (by simp [World.cell?, hgq])⟩)
 have HVV := Lib.hid hV
 have KV0 := Lib.hid (k0.trans kv)
 have kx := ((Kp.alloc _ _).trans (Kp.drew _) : Kp V (V.alloc (.cells #[.int .i64 pa, .int .i64 pl, .int .i64 ph, .bool pe] 132)).drew)
 have SRC := Lib.hid (place_src (w' := (V.alloc (.cells #[.int .i64 pa, .int .i64 pl, .int .i64 ph, .bool pe] 132)).drew) (g := V.heap.size) (p := ⟨pa, pl, ph, pe⟩) (heap_block (Kp.drew _) (heap_at V _ _ rfl)))
 have own5 := Lib.hid (own_kp ownV kx)
 have BX5 := Lib.hid (heap_block kx bxV)
 have NE5 := Lib.hid (own_blk_ne own5.out BX5.out (by kernel_rfl))
 have LT5 := Lib.hid ((Array.getElem?_eq_some_iff.1 BX5.out).1)
 have NEB := Lib.hid (fun j (hj : (Value.slice ad L.length c0).ownBlock = some j) => (fun (e : j = w.heap.size) => by have := (own.lt j hj).2; omega : j ≠ w.heap.size))
 have LB5 := Lib.hid (Nat.lt_of_lt_of_le (Array.getElem?_eq_some_iff.1 hgq).1 kx.size)
 have LE5 := Lib.hid (Nat.le_trans k0.size (Nat.le_trans kv.size kx.size))
 have hS5 := Lib.hid (HS.out _ kx)
 clear own bx hV kv hgq bxV ownV k0 kx
 go_enter Tryz.func103, Tryz.ntmps103
 go_wp2_with fail
 rw [← HVV.out]
 refine wp_region_held_drew (S := fun w' => w'.cell? ⟨w.heap.size, 0, none⟩ = some (.int .i64 pa) ∧ w'.cell? ⟨w.heap.size, 1, none⟩ = some (.int .i64 pl) ∧ w'.cell? ⟨w.heap.size, 2, none⟩ = some (.int .i64 ph) ∧ w'.cell? ⟨w.heap.size, 3, none⟩ = some (.bool pe)) (by kernel_rfl) ?_ (fun hHeld0 => ?_)
 ·(try dsimp only); first | with_reducible exact HS.out _ (Kp.drew _) | with_reducible exact HS.out _ ((Kp.alloc _ _).trans (Kp.drew _)) | with_reducible exact hS6 | exact ⟨by rw [World.cell?_setCell_far _ _ _ _ neB]; exact hS6.1, by rw [World.cell?_setCell_far _ _ _ _ neB]; exact hS6.2.1, by rw [World.cell?_setCell_far _ _ _ _ neB]; exact hS6.2.2.1, by rw [World.cell?_setCell_far _ _ _ _ neB]; exact hS6.2.2.2⟩
 refine tkv 0 pU0 ?_
 (try simp only [Act.put, pU0, List.setIfInBounds_toArray, List.set_cons_zero, List.set_cons_succ])
 refine tkv 1 pU1 ?_
 (try simp only [Act.put, pU1, List.setIfInBounds_toArray, List.set_cons_zero, List.set_cons_succ])
 refine tkv 2 pU2 ?_
 (try simp only [Act.put, pU2, List.setIfInBounds_toArray, List.set_cons_zero, List.set_cons_succ])
 refine tkv 3 pU3 ?_
 (try simp only [Act.put, pU3, List.setIfInBounds_toArray, List.set_cons_zero, List.set_cons_succ])
 refine tkv 5 pU5 ?_
 (try simp only [Act.put, pU5, List.setIfInBounds_toArray, List.set_cons_zero, List.set_cons_succ])
 refine tkE2 4 6 pU4 pU6 rfl rfl (by kernel_rfl) (fun K hK => ?_) (fun K hK => ?_)
 ·go_simp
  skip
  (try go_wp2_with fail)
  refine hK.out _ _ ?_ (fun hHeld1 => ?_)
  ·(try dsimp only); first | with_reducible exact HS.out _ (Kp.drew _) | with_reducible exact HS.out _ ((Kp.alloc _ _).trans (Kp.drew _)) | with_reducible exact hS6 | exact ⟨by rw [World.cell?_setCell_far _ _ _ _ neB]; exact hS6.1, by rw [World.cell?_setCell_far _ _ _ _ neB]; exact hS6.2.1, by rw [World.cell?_setCell_far _ _ _ _ neB]; exact hS6.2.2.1, by rw [World.cell?_setCell_far _ _ _ _ neB]; exact hS6.2.2.2⟩
  clear hK K hHeld0
  (try simp only [Act.put, pU4, List.setIfInBounds_toArray, List.set_cons_zero, List.set_cons_succ])
  refine tkE 6 pU6 rfl (by kernel_rfl) (fun K hK => ?_)
  go_simp
  skip
  (try go_wp2_with fail)
  refine hK.out _ _ ?_ (fun hHeld2 => ?_)
  ·(try dsimp only); first | with_reducible exact HS.out _ (Kp.drew _) | with_reducible exact HS.out _ ((Kp.alloc _ _).trans (Kp.drew _)) | with_reducible exact hS6 | exact ⟨by rw [World.cell?_setCell_far _ _ _ _ neB]; exact hS6.1, by rw [World.cell?_setCell_far _ _ _ _ neB]; exact hS6.2.1, by rw [World.cell?_setCell_far _ _ _ _ neB]; exact hS6.2.2.1, by rw [World.cell?_setCell_far _ _ _ _ neB]; exact hS6.2.2.2⟩
  clear hK K hHeld1
  (try simp only [Act.put, pU6, List.setIfInBounds_toArray, List.set_cons_zero, List.set_cons_succ])
  refine tkE 7 pU7 rfl (by kernel_rfl) (fun K hK => ?_)
  (refine step_app rfl (.tmp 16) (.tmp 18) 127 rfl w0.heap.size 132 i0 (.agg #[.int .i64 0, .int .i64 0, .int .i64 0, .bool false]) 4 32 Tryz.underlying127 hi hz0 hz1 hz2 rfl (by decide) _ _ _ (by simp [Act.eval, Act.put]) own5.out _ _ _ (by simp [Act.eval, Act.put]) SRC.out rfl (cellsP_one ⟨pa, pl, ph, pe⟩) (by unfold maxLen; omega) (by omega) LE5.out ?_; intro v6 w6 own6 grow6; obtain ⟨ad6, c6, rfl⟩ := own_slice own6; have bx6 : w6.heap[B]? = some (.cells #[.slice ad L.length c0] 129 (0, 0)) := (grow6.block B LT5.out (fun c => NE5.out B c.symm rfl)).trans BX5.out; have hS6 : w6.cell? ⟨w.heap.size, 0, none⟩ = some (.int .i64 pa) ∧ w6.cell? ⟨w.heap.size, 1, none⟩ = some (.int .i64 pl) ∧ w6.cell? ⟨w.heap.size, 2, none⟩ = some (.int .i64 ph) ∧ w6.cell? ⟨w.heap.size, 3, none⟩ = some (.bool pe) := ⟨(grown_cell grow6 LB5.out NEB.out).trans hS5.out.1, (grown_cell grow6 LB5.out NEB.out).trans hS5.out.2.1, (grown_cell grow6 LB5.out NEB.out).trans hS5.out.2.2.1, (grown_cell grow6 LB5.out NEB.out).trans hS5.out.2.2.2⟩; have cB6 : w6.cell? ⟨B, 0, none⟩ = some (.slice ad L.length c0) := (by simp [World.cell?, bx6]); have fB6 : w6.frozen? ⟨B, 0, none⟩ = false := (by simp [World.frozen?, bx6]))
  (try go_wp2_with fail)
  refine hK.out _ _ ?_ (fun hHeld3 => ?_)
  ·(try dsimp only); first | with_reducible exact HS.out _ (Kp.drew _) | with_reducible exact HS.out _ ((Kp.alloc _ _).trans (Kp.drew _)) | with_reducible exact hS6 | exact ⟨by rw [World.cell?_setCell_far _ _ _ _ neB]; exact hS6.1, by rw [World.cell?_setCell_far _ _ _ _ neB]; exact hS6.2.1, by rw [World.cell?_setCell_far _ _ _ _ neB]; exact hS6.2.2.1, by rw [World.cell?_setCell_far _ _ _ _ neB]; exact hS6.2.2.2⟩
  clear hK K hHeld2
  (try simp only [Act.put, pU7, List.setIfInBounds_toArray, List.set_cons_zero, List.set_cons_succ])
  refine tkv 8 pU8 ?_
  (try simp only [Act.put, pU8, List.setIfInBounds_toArray, List.set_cons_zero, List.set_cons_succ])
  refine tkv 9 pU9 ?_
  (try simp only [Act.put, pU9, List.setIfInBounds_toArray, List.set_cons_zero, List.set_cons_succ])
  refine tkE 10 pU10 rfl (by kernel_rfl) (fun K hK => ?_)
  go_simp
  skip
  (try go_wp2_with fail)
  refine hK.out _ _ ?_ (fun hHeld4 => ?_)
  ·(try dsimp only); first | with_reducible exact HS.out _ (Kp.drew _) | with_reducible exact HS.out _ ((Kp.alloc _ _).trans (Kp.drew _)) | with_reducible exact hS6 | exact ⟨by rw [World.cell?_setCell_far _ _ _ _ neB]; exact hS6.1, by rw [World.cell?_setCell_far _ _ _ _ neB]; exact hS6.2.1, by rw [World.cell?_setCell_far _ _ _ _ neB]; exact hS6.2.2.1, by rw [World.cell?_setCell_far _ _ _ _ neB]; exact hS6.2.2.2⟩
  clear hK K hHeld3
  (try simp only [Act.put, pU10, List.setIfInBounds_toArray, List.set_cons_zero, List.set_cons_succ])
  refine wpAnyH_done (by kernel_rfl) ?_ _
  have O6 : w6.ownsRow w0.heap.size 132 4 (.slice ad6 (L.length + 1) c6) (L ++ [PLC.mk pa pl ph pe]).length (cellsK (L ++ [PLC.mk pa pl ph pe])) := by rewrite [cellsK_append, List.length_append]; exact own6
  have K6 : Kp w0 w6 := (KV0.out.trans ((Kp.alloc _ _).trans (Kp.drew _))).grown grow6 (fun j hj => (own5.out.lt j hj).1)
  have DF : HPs w0 B (L ++ [PLC.mk pa pl ph pe]) (w6.setCell ⟨B, 0, none⟩ (.slice ad6 (L.length + 1) c6)) := ⟨Below.setCell K6 (p := ⟨B, 0, none⟩) hB _, hB, _, cs1_heap bx6 0 _, own_setc O6 bx6 (by kernel_rfl)⟩
  have DH := Lib.hid DF
  clear O6 K6 DF
  go_wp2
  go_end0
  exact ⟨rfl, DH.out⟩
 ·go_simp
  skip
  (try go_wp2_with fail)
  refine hK.out _ _ ?_ (fun hHeld1 => ?_)
  ·(try dsimp only); first | with_reducible exact HS.out _ (Kp.drew _) | with_reducible exact HS.out _ ((Kp.alloc _ _).trans (Kp.drew _)) | with_reducible exact hS6 | exact ⟨by rw [World.cell?_setCell_far _ _ _ _ neB]; exact hS6.1, by rw [World.cell?_setCell_far _ _ _ _ neB]; exact hS6.2.1, by rw [World.cell?_setCell_far _ _ _ _ neB]; exact hS6.2.2.1, by rw [World.cell?_setCell_far _ _ _ _ neB]; exact hS6.2.2.2⟩
  clear hK K hHeld0
  (try simp only [Act.put, pU6, List.setIfInBounds_toArray, List.set_cons_zero, List.set_cons_succ])
  refine tkE 4 pU4 rfl (by kernel_rfl) (fun K hK => ?_)
  go_simp
  skip
  (try go_wp2_with fail)
  refine hK.out _ _ ?_ (fun hHeld2 => ?_)
  ·(try dsimp only); first | with_reducible exact HS.out _ (Kp.drew _) | with_reducible exact HS.out _ ((Kp.alloc _ _).trans (Kp.drew _)) | with_reducible exact hS6 | exact ⟨by rw [World.cell?_setCell_far _ _ _ _ neB]; exact hS6.1, by rw [World.cell?_setCell_far _ _ _ _ neB]; exact hS6.2.1, by rw [World.cell?_setCell_far _ _ _ _ neB]; exact hS6.2.2.1, by rw [World.cell?_setCell_far _ _ _ _ neB]; exact hS6.2.2.2⟩
  clear hK K hHeld1
  (try simp only [Act.put, pU4, List.setIfInBounds_toArray, List.set_cons_zero, List.set_cons_succ])
  refine tkE 7 pU7 rfl (by kernel_rfl) (fun K hK => ?_)
  (refine step_app rfl (.tmp 16) (.tmp 18) 127 rfl w0.heap.size 132 i0 (.agg #[.int .i64 0, .int .i64 0, .int .i64 0, .bool false]) 4 32 Tryz.underlying127 hi hz0 hz1 hz2 rfl (by decide) _ _ _ (by simp [Act.eval, Act.put]) own5.out _ _ _ (by simp [Act.eval, Act.put]) SRC.out rfl (cellsP_one ⟨pa, pl, ph, pe⟩) (by unfold maxLen; omega) (by omega) LE5.out ?_; intro v6 w6 own6 grow6; obtain ⟨ad6, c6, rfl⟩ := own_slice own6; have bx6 : w6.heap[B]? = some (.cells #[.slice ad L.length c0] 129 (0, 0)) := (grow6.block B LT5.out (fun c => NE5.out B c.symm rfl)).trans BX5.out; have hS6 : w6.cell? ⟨w.heap.size, 0, none⟩ = some (.int .i64 pa) ∧ w6.cell? ⟨w.heap.size, 1, none⟩ = some (.int .i64 pl) ∧ w6.cell? ⟨w.heap.size, 2, none⟩ = some (.int .i64 ph) ∧ w6.cell? ⟨w.heap.size, 3, none⟩ = some (.bool pe) := ⟨(grown_cell grow6 LB5.out NEB.out).trans hS5.out.1, (grown_cell grow6 LB5.out NEB.out).trans hS5.out.2.1, (grown_cell grow6 LB5.out NEB.out).trans hS5.out.2.2.1, (grown_cell grow6 LB5.out NEB.out).trans hS5.out.2.2.2⟩; have cB6 : w6.cell? ⟨B, 0, none⟩ = some (.slice ad L.length c0) := (by simp [World.cell?, bx6]); have fB6 : w6.frozen? ⟨B, 0, none⟩ = false := (by simp [World.frozen?, bx6]))
  (try go_wp2_with fail)
  refine hK.out _ _ ?_ (fun hHeld3 => ?_)
  ·(try dsimp only); first | with_reducible exact HS.out _ (Kp.drew _) | with_reducible exact HS.out _ ((Kp.alloc _ _).trans (Kp.drew _)) | with_reducible exact hS6 | exact ⟨by rw [World.cell?_setCell_far _ _ _ _ neB]; exact hS6.1, by rw [World.cell?_setCell_far _ _ _ _ neB]; exact hS6.2.1, by rw [World.cell?_setCell_far _ _ _ _ neB]; exact hS6.2.2.1, by rw [World.cell?_setCell_far _ _ _ _ neB]; exact hS6.2.2.2⟩
  clear hK K hHeld2
  (try simp only [Act.put, pU7, List.setIfInBounds_toArray, List.set_cons_zero, List.set_cons_succ])
  refine tkv 8 pU8 ?_
  (try simp only [Act.put, pU8, List.setIfInBounds_toArray, List.set_cons_zero, List.set_cons_succ])
  refine tkv 9 pU9 ?_
  (try simp only [Act.put, pU9, List.setIfInBounds_toArray, List.set_cons_zero, List.set_cons_succ])
  refine tkE 10 pU10 rfl (by kernel_rfl) (fun K hK => ?_)
  go_simp
  skip
  (try go_wp2_with fail)
  refine hK.out _ _ ?_ (fun hHeld4 => ?_)
  ·(try dsimp only); first | with_reducible exact HS.out _ (Kp.drew _) | with_reducible exact HS.out _ ((Kp.alloc _ _).trans (Kp.drew _)) | with_reducible exact hS6 | exact ⟨by rw [World.cell?_setCell_far _ _ _ _ neB]; exact hS6.1, by rw [World.cell?_setCell_far _ _ _ _ neB]; exact hS6.2.1, by rw [World.cell?_setCell_far _ _ _ _ neB]; exact hS6.2.2.1, by rw [World.cell?_setCell_far _ _ _ _ neB]; exact hS6.2.2.2⟩
  clear hK K hHeld3
  (try simp only [Act.put, pU10, List.setIfInBounds_toArray, List.set_cons_zero, List.set_cons_succ])
  refine wpAnyH_done (by kernel_rfl) ?_ _
  have O6 : w6.ownsRow w0.heap.size 132 4 (.slice ad6 (L.length + 1) c6) (L ++ [PLC.mk pa pl ph pe]).length (cellsK (L ++ [PLC.mk pa pl ph pe])) := by rewrite [cellsK_append, List.length_append]; exact own6
  have K6 : Kp w0 w6 := (KV0.out.trans ((Kp.alloc _ _).trans (Kp.drew _))).grown grow6 (fun j hj => (own5.out.lt j hj).1)
  have DF : HPs w0 B (L ++ [PLC.mk pa pl ph pe]) (w6.setCell ⟨B, 0, none⟩ (.slice ad6 (L.length + 1) c6)) := ⟨Below.setCell K6 (p := ⟨B, 0, none⟩) hB _, hB, _, cs1_heap bx6 0 _, own_setc O6 bx6 (by kernel_rfl)⟩
  have DH := Lib.hid DF
  clear O6 K6 DF
  go_wp2
  go_end0
  exact ⟨rfl, DH.out⟩
theorem popped {L L2 : List PLC} {n : Nat} (hn : L.length = n + 1) (pm : L2.Perm (swp L 0 n)) (hf : hpF L2 0 n) (tl : ∀ q, n ≤ q → plAt L2 q = plAt (swp L 0 n) q) :
  L2.length = n + 1 ∧ plAt L2 n = plAt L 0 ∧ (L2.take n ++ [plAt L 0]).Perm L ∧ hpF (L2.take n) 0 (L2.take n).length := by
 have hl : L2.length = n + 1 := by rw [pm.length_eq, swp_length]; exact hn
 have e : plAt L2 n = plAt L 0 := by rw [tl n (Nat.le_refl _), plAt_swp (by omega) (by omega), if_pos rfl]
 refine ⟨hl, e, ?_, ?_⟩
 ·rw [← e, plAt_eq (by omega), ← List.take_succ_eq_append_getElem (by omega), List.take_of_length_le (by omega)]
  exact pm.trans (swp_perm (by omega) (by omega))
 ·rw [List.length_take, Nat.min_eq_left (by omega)]
  exact hp_take hf
theorem heapPop_any (w0 : World) (B : Nat) (L : List PLC) (n : Nat) (w : World) (h : HPs w0 B L w) (hn : L.length = n + 1) (hm : L.length ≤ 1000) (hh : hpF L 0 L.length) :
  Calls Tryz.prog 106 #[hIf B] w fun e w' => ∃ M, e = .returned (.iface 132 (pcV (plAt L 0))) ∧ HPs w0 B M w' ∧ PW w w' ∧ (M ++ [plAt L 0]).Perm L ∧ hpF M 0 M.length := by
 have CN := Lib.hid (hlen_any w0 B L w h)
 rw [hn] at CN
 have CS := Lib.hid (fun (x y : Int) (hx : x = (0 : Nat)) (hy : y = n) => (by subst hx hy; exact hswap_any w0 B L 0 n w h (by omega) (by omega) : Calls Tryz.prog 318 #[.pointer (some ⟨B, 0, none⟩), .int .i64 x, .int .i64 y] w fun e w' => e = .returned (.tuple #[]) ∧ HPs w0 B (swp L 0 n) w' ∧ PW w w'))
 rw [hn] at hh
 have hf1 := hp_swap hh (by omega)
 have hl1 : (swp L 0 n).length = n + 1 := by rw [swp_length]; exact hn
 have CD := Lib.hid (fun (x y : Int) (w1 : World) (h1 : HPs w0 B (swp L 0 n) w1) (hx : x = (0 : Nat)) (hy : y = n) => down_any w0 B (swp L 0 n) x y 0 n w1 h1 (by omega) (by omega) (by omega) hf1 hx hy)
 have CP := Lib.hid (fun (L2 : List PLC) (w1 : World) (h1 : HPs w0 B L2 w1) (pm : L2.Perm (swp L 0 n)) (hf : hpF L2 0 n) (tl : ∀ q, n ≤ q → plAt L2 q = plAt (swp L 0 n) q) => (by
  have p := popped hn pm hf tl
  have := hpop_any w0 B L2 n w1 h1 p.1 (by omega)
  rw [p.2.1] at this
  exact this : Calls Tryz.prog 317 #[.pointer (some ⟨B, 0, none⟩)] w1 fun e w' => e = .returned (.iface 132 (pcV (plAt L 0))) ∧ HPs w0 B (L2.take n) w' ∧ PW w1 w'))
 have PP := Lib.hid (fun (L2 : List PLC) (pm : L2.Perm (swp L 0 n)) (hf : hpF L2 0 n) (tl : ∀ q, n ≤ q → plAt L2 q = plAt (swp L 0 n) q) => (popped hn pm hf tl).2.2)
 have ml := mLen B
 have ms := mSwap B
 have mp := mPop B
 have hn2 : n ≤ 1000 := by omega
 clear h hn hm hh hf1 hl1
 generalize swp L 0 n = L1 at *
 obtain ⟨u, hu⟩ : ∃ u, Value.iface 132 (pcV (plAt L 0)) = u := ⟨_, rfl⟩
 rw [hu] at CP ⊢
 clear hu
 generalize plAt L 0 = p0 at *
 unfold hIf at *
 go_enter Tryz.func106, Tryz.ntmps106
 go_wp2_with fail
 refine CN.out.mono ?_
 rintro e w1 ⟨rfl, rfl⟩
 go_wp2_with fail
 refine (CS.out _ _ (by first | rfl | omega) (by first | rfl | omega)).mono ?_
 rintro e w2 ⟨rfl, hp2, pw2⟩
 have HP2 := Lib.hid hp2
 have PW2 := Lib.hid pw2
 clear hp2 pw2
 go_wp2_with fail
 refine (CD.out _ _ _ HP2.out (by first | rfl | omega) (by first | rfl | omega)).mono ?_
 rintro e w3 ⟨v3, L2, rfl, hp3, pw3, pm3, hf3, tl3⟩
 have HP3 := Lib.hid hp3
 have PW3 := Lib.hid (PW2.out.trans pw3)
 have PM3 := Lib.hid pm3
 have HF3 := Lib.hid hf3
 have TL3 := Lib.hid tl3
 clear hp3 pw3 pm3 hf3 tl3
 go_wp2_with fail
 refine (CP.out L2 _ HP3.out PM3.out HF3.out TL3.out).mono ?_
 rintro e w4 ⟨rfl, hp4, pw4⟩
 have HP4 := Lib.hid hp4
 have PW4 := Lib.hid (PW3.out.trans pw4)
 clear hp4 pw4
 go_wp2
 go_ret
 exact ⟨_, rfl, HP4.out, PW4.out, PP.out L2 PM3.out HF3.out TL3.out⟩
theorem erE_f : erE false = 9 := rfl
theorem erE_t : erE true = 0 := rfl
theorem oahead_any (g1 g2 : FuncId) (x1 x2 : Int) (b1 b2 : Bool) (v u : Value) (w : World)
  (e1 : ∀ args w, (callFunc g1 args).run Tryz.prog w = .ok (.enter g1 args) w) (e2 : ∀ args w, (callFunc g2 args).run Tryz.prog w = .ok (.enter g2 args) w)
  (p1 : ∀ w1, Kp w w1 → Calls Tryz.prog g1 #[v] w1 fun e w' => e = .returned (.tuple #[.int .i64 x1, .int .i64 (erE b1)]) ∧ Kp w1 w')
  (p2 : ∀ w1, Kp w w1 → Calls Tryz.prog g2 #[u] w1 fun e w' => e = .returned (.tuple #[.int .i64 x2, .int .i64 (erE b2)]) ∧ Kp w1 w') :
  Calls Tryz.prog 55 #[v, u, .func (.func g1) #[] #[], .func (.func g2) #[] #[]] w fun e w' => e = .returned (.tuple #[.bool (b1 && b2 && decide (x1 < x2)), .int .i64 (erE (b1 && b2))]) ∧ Kp w w' := by
 have K0 := Lib.hid (Kp.refl w)
 obtain ⟨rb, hrb⟩ : ∃ r, (b1 && b2 && decide (x1 < x2)) = r := ⟨_, rfl⟩
 obtain ⟨re, hre⟩ : ∃ r, erE (b1 && b2) = r := ⟨_, rfl⟩
 rw [hrb, hre]
 cases b1 with
 | false =>
  rw [erE_f] at p1
  have P1 := Lib.hid p1
  have HB := Lib.hid (show false = rb from hrb)
  have HE := Lib.hid (show (9 : Int) = re from hre)
  clear p1 p2 hrb hre
  go_enter Tryz.func55, Tryz.ntmps55
  go_wp2_with fail
  go_at_fn g1
  refine (P1.out _ (by first | with_reducible exact K0.out | with_reducible exact K0.out.trans (Kp.alloc _ _) | with_reducible exact (K0.out.trans (Kp.alloc _ _)).trans (Kp.alloc _ _) | with_reducible exact ((K0.out.trans (Kp.alloc _ _)).trans (Kp.alloc _ _)).trans (Kp.alloc _ _) | with_reducible exact K0.out.trans (Kp.drew _) | with_reducible exact K0.out.trans (Kp.drewN _ _))).mono ?_
  rintro e w1 ⟨rfl, kk⟩
  have K1 := Lib.hid ((show Kp w _ from (by first | with_reducible exact K0.out | with_reducible exact K0.out.trans (Kp.alloc _ _) | with_reducible exact (K0.out.trans (Kp.alloc _ _)).trans (Kp.alloc _ _) | with_reducible exact ((K0.out.trans (Kp.alloc _ _)).trans (Kp.alloc _ _)).trans (Kp.alloc _ _) | with_reducible exact K0.out.trans (Kp.drew _) | with_reducible exact K0.out.trans (Kp.drewN _ _))).trans kk)
  clear kk
  go_wp2
  refine bodyPost_ret (results_tmp2 rfl _ _ _) rfl ?_
  exact ⟨by rewrite [← HB.out, ← HE.out]; rfl, K1.out⟩
 | true =>
  rw [erE_t] at p1
  have P1 := Lib.hid p1
  cases b2 with
  | false =>
   rw [erE_f] at p2
   have P2 := Lib.hid p2
   have HB := Lib.hid (show false = rb from hrb)
   have HE := Lib.hid (show (9 : Int) = re from hre)
   clear p1 p2 hrb hre
   go_enter Tryz.func55, Tryz.ntmps55
   go_wp2_with fail
   go_at_fn g1
   refine (P1.out _ (by first | with_reducible exact K0.out | with_reducible exact K0.out.trans (Kp.alloc _ _) | with_reducible exact (K0.out.trans (Kp.alloc _ _)).trans (Kp.alloc _ _) | with_reducible exact ((K0.out.trans (Kp.alloc _ _)).trans (Kp.alloc _ _)).trans (Kp.alloc _ _) | with_reducible exact K0.out.trans (Kp.drew _) | with_reducible exact K0.out.trans (Kp.drewN _ _))).mono ?_
   rintro e w1 ⟨rfl, kk⟩
   have K1 := Lib.hid ((show Kp w _ from (by first | with_reducible exact K0.out | with_reducible exact K0.out.trans (Kp.alloc _ _) | with_reducible exact (K0.out.trans (Kp.alloc _ _)).trans (Kp.alloc _ _) | with_reducible exact ((K0.out.trans (Kp.alloc _ _)).trans (Kp.alloc _ _)).trans (Kp.alloc _ _) | with_reducible exact K0.out.trans (Kp.drew _) | with_reducible exact K0.out.trans (Kp.drewN _ _))).trans kk)
   clear kk
   go_wp2_with fail
   go_at_fn g2
   refine (P2.out _ (by first | with_reducible exact K1.out | with_reducible exact K1.out.trans (Kp.alloc _ _) | with_reducible exact (K1.out.trans (Kp.alloc _ _)).trans (Kp.alloc _ _) | with_reducible exact ((K1.out.trans (Kp.alloc _ _)).trans (Kp.alloc _ _)).trans (Kp.alloc _ _) | with_reducible exact K1.out.trans (Kp.drew _) | with_reducible exact K1.out.trans (Kp.drewN _ _))).mono ?_
   rintro e w2 ⟨rfl, kk⟩
   have K2 := Lib.hid ((show Kp w _ from (by first | with_reducible exact K1.out | with_reducible exact K1.out.trans (Kp.alloc _ _) | with_reducible exact (K1.out.trans (Kp.alloc _ _)).trans (Kp.alloc _ _) | with_reducible exact ((K1.out.trans (Kp.alloc _ _)).trans (Kp.alloc _ _)).trans (Kp.alloc _ _) | with_reducible exact K1.out.trans (Kp.drew _) | with_reducible exact K1.out.trans (Kp.drewN _ _))).trans kk)
   clear kk
   go_wp2
   refine bodyPost_ret (results_tmp2 rfl _ _ _) rfl ?_
   exact ⟨by rewrite [← HB.out, ← HE.out]; rfl, K2.out⟩
  | true =>
   rw [erE_t] at p2
   have P2 := Lib.hid p2
   have HB := Lib.hid (show decide (x1 < x2) = rb from hrb)
   have HE := Lib.hid (show (0 : Int) = re from hre)
   clear p1 p2 hrb hre
   go_enter Tryz.func55, Tryz.ntmps55
   go_wp2_with fail
   go_at_fn g1
   refine (P1.out _ (by first | with_reducible exact K0.out | with_reducible exact K0.out.trans (Kp.alloc _ _) | with_reducible exact (K0.out.trans (Kp.alloc _ _)).trans (Kp.alloc _ _) | with_reducible exact ((K0.out.trans (Kp.alloc _ _)).trans (Kp.alloc _ _)).trans (Kp.alloc _ _) | with_reducible exact K0.out.trans (Kp.drew _) | with_reducible exact K0.out.trans (Kp.drewN _ _))).mono ?_
   rintro e w1 ⟨rfl, kk⟩
   have K1 := Lib.hid ((show Kp w _ from (by first | with_reducible exact K0.out | with_reducible exact K0.out.trans (Kp.alloc _ _) | with_reducible exact (K0.out.trans (Kp.alloc _ _)).trans (Kp.alloc _ _) | with_reducible exact ((K0.out.trans (Kp.alloc _ _)).trans (Kp.alloc _ _)).trans (Kp.alloc _ _) | with_reducible exact K0.out.trans (Kp.drew _) | with_reducible exact K0.out.trans (Kp.drewN _ _))).trans kk)
   clear kk
   go_wp2_with fail
   go_at_fn g2
   refine (P2.out _ (by first | with_reducible exact K1.out | with_reducible exact K1.out.trans (Kp.alloc _ _) | with_reducible exact (K1.out.trans (Kp.alloc _ _)).trans (Kp.alloc _ _) | with_reducible exact ((K1.out.trans (Kp.alloc _ _)).trans (Kp.alloc _ _)).trans (Kp.alloc _ _) | with_reducible exact K1.out.trans (Kp.drew _) | with_reducible exact K1.out.trans (Kp.drewN _ _))).mono ?_
   rintro e w2 ⟨rfl, kk⟩
   have K2 := Lib.hid ((show Kp w _ from (by first | with_reducible exact K1.out | with_reducible exact K1.out.trans (Kp.alloc _ _) | with_reducible exact (K1.out.trans (Kp.alloc _ _)).trans (Kp.alloc _ _) | with_reducible exact ((K1.out.trans (Kp.alloc _ _)).trans (Kp.alloc _ _)).trans (Kp.alloc _ _) | with_reducible exact K1.out.trans (Kp.drew _) | with_reducible exact K1.out.trans (Kp.drewN _ _))).trans kk)
   clear kk
   go_wp2
   refine bodyPost_ret (results_tmp2 rfl _ _ _) rfl ?_
   exact ⟨by rewrite [← HB.out, ← HE.out]; rfl, K2.out⟩
theorem ordCertainly_any (v u : Value) (l m : List LF) (w : World) (hv : LeavesAt w v l) (hu : LeavesAt w u m) (hl : LsOk l) (hm : LsOk m) (T : Tabs w) :
  Calls Tryz.prog 23 #[v, u] w fun e w' => e = .returned (.tuple #[.bool (cerO l m), .int .i64 (erE (bothB l m))]) ∧ Kp w w' := by
 have C := Lib.hid (oahead_any 56 57 (envF dGE max l).1 (envF dLS min m).1 (anyB l) (anyB m) v u w (enters_of Tryz.func56 (by kernel_rfl) rfl) (enters_of Tryz.func57 (by kernel_rfl) rfl)
  (fun w1 k => by rw [← env_er dGE max l (.inr rfl)]; exact envLatest_any v l w1 (hv.kp k) hl (T.kp k)) (fun w1 k => by rw [← env_er dLS min m (.inl rfl)]; exact envEarliest_any u m w1 (hu.kp k) hm (T.kp k)))
 rw [show (anyB l && anyB m && decide ((envF dGE max l).1 < (envF dLS min m).1)) = cerO l m from rfl, show (anyB l && anyB m) = bothB l m from rfl] at C
 generalize cerO l m = rb at *
 generalize erE (bothB l m) = re at *
 clear hv hu hl hm T
 go_enter Tryz.func23, Tryz.ntmps23
 go_wp2_with fail
 refine C.out.mono ?_
 rintro e w' ⟨rfl, kk⟩
 go_wp2
 exact bodyPost_ret (results_tmp2 rfl _ _ _) rfl ⟨rfl, kk⟩
theorem ordPossibly_any (v u : Value) (l m : List LF) (w : World) (hv : LeavesAt w v l) (hu : LeavesAt w u m) (hl : LsOk l) (hm : LsOk m) (T : Tabs w) :
  Calls Tryz.prog 24 #[v, u] w fun e w' => e = .returned (.tuple #[.bool (posO l m), .int .i64 (erE (bothB l m))]) ∧ Kp w w' := by
 have C := Lib.hid (oahead_any 58 59 (envF dLE min l).1 (envF dGS max m).1 (anyB l) (anyB m) v u w (enters_of Tryz.func58 (by kernel_rfl) rfl) (enters_of Tryz.func59 (by kernel_rfl) rfl)
  (fun w1 k => by rw [← env_er dLE min l (.inl rfl)]; exact envFirstEnd_any v l w1 (hv.kp k) hl (T.kp k)) (fun w1 k => by rw [← env_er dGS max m (.inr rfl)]; exact envLastStart_any u m w1 (hu.kp k) hm (T.kp k)))
 rw [show (anyB l && anyB m && decide ((envF dLE min l).1 < (envF dGS max m).1)) = posO l m from rfl, show (anyB l && anyB m) = bothB l m from rfl] at C
 generalize posO l m = rb at *
 generalize erE (bothB l m) = re at *
 clear hv hu hl hm T
 go_enter Tryz.func24, Tryz.ntmps24
 go_wp2_with fail
 refine C.out.mono ?_
 rintro e w' ⟨rfl, kk⟩
 go_wp2
 exact bodyPost_ret (results_tmp2 rfl _ _ _) rfl ⟨rfl, kk⟩
theorem okey_any (v : Value) (l : List LF) (w : World) (hv : LeavesAt w v l) (hl : LsOk l) (T : Tabs w) :
  Calls Tryz.prog 50 #[v] w fun e w' => e = .returned (.tuple #[.agg #[.int .i64 (keyA l), .int .i64 (keyB l)], .int .i64 (erE (anyB l))]) ∧ Kp w w' := by
 obtain ⟨W0, hW⟩ : ∃ x, x = w.alloc (.cells #[.int .i64 0, .int .i64 0] 72) := ⟨_, rfl⟩
 have k0 : Kp w W0 := by rw [hW]; exact Kp.alloc _ _
 have hg : W0.heap[w.heap.size]? = some (.cells #[.int .i64 0, .int .i64 0] 72 (0, 0)) := by rw [hW]; exact heap_at _ _ _ rfl
 have HG := Lib.hid (fun w1 (k : Kp W0 w1) => heap_block k hg)
 have HW := Lib.hid hW
 have K0 := Lib.hid k0
 have J0 := Lib.hid (Kp.refl W0)
 have C1 := Lib.hid (fun w1 (k : Kp w w1) => envEarliest_any v l w1 (hv.kp k) hl (T.kp k))
 have C2 := Lib.hid (fun w1 (k : Kp w w1) => envLatest_any v l w1 (hv.kp k) hl (T.kp k))
 have q1 := env_er dLS min l (.inl rfl)
 have q2 := env_er dGE max l (.inr rfl)
 rw [q1] at C1
 rw [q2] at C2
 unfold keyA keyB
 clear q1 q2 hv hl T k0 hg hW
 generalize anyB l = bb at *
 generalize (envF dLS min l).1 = x at *
 generalize (envF dGE max l).1 = y at *
 cases bb with
 | false =>
  rw [erE_f] at C1 C2 ⊢
  rw [if_neg (by decide), if_neg (by decide)]
  go_enter Tryz.func50, Tryz.ntmps50
  go_wp2_with fail
  rw [← HW.out]
  refine (C1.out _ (K0.out.trans (by first | with_reducible exact J0.out | with_reducible exact J0.out.trans (Kp.alloc _ _) | with_reducible exact (J0.out.trans (Kp.alloc _ _)).trans (Kp.alloc _ _) | with_reducible exact ((J0.out.trans (Kp.alloc _ _)).trans (Kp.alloc _ _)).trans (Kp.alloc _ _) | with_reducible exact J0.out.trans (Kp.drew _) | with_reducible exact J0.out.trans (Kp.drewN _ _)))).mono ?_
  rintro e w1 ⟨rfl, kk⟩
  have J1 := Lib.hid ((show Kp W0 _ from (by first | with_reducible exact J0.out | with_reducible exact J0.out.trans (Kp.alloc _ _) | with_reducible exact (J0.out.trans (Kp.alloc _ _)).trans (Kp.alloc _ _) | with_reducible exact ((J0.out.trans (Kp.alloc _ _)).trans (Kp.alloc _ _)).trans (Kp.alloc _ _) | with_reducible exact J0.out.trans (Kp.drew _) | with_reducible exact J0.out.trans (Kp.drewN _ _))).trans kk)
  clear kk
  have b2 := HG.out _ J1.out
  have c0 : w1.cell? ⟨w.heap.size, 0, none⟩ = some (.int .i64 0) := by simp [World.cell?, b2]
  have c1 : w1.cell? ⟨w.heap.size, 1, none⟩ = some (.int .i64 0) := by simp [World.cell?, b2]
  have f0 : w1.frozen? ⟨w.heap.size, 0, none⟩ = false := by simp [World.frozen?, b2]
  have f1 : w1.frozen? ⟨w.heap.size, 1, none⟩ = false := by simp [World.frozen?, b2]
  have e0 : ((w1.setCell ⟨w.heap.size, 0, none⟩ (.int .i64 0)).setCell ⟨w.heap.size, 1, none⟩ (.int .i64 0)).cell? ⟨w.heap.size, 0, none⟩ = some (.int .i64 0) := by simp [World.cell?, cs1_heap (cs1_heap b2 0 (.int .i64 0)) 1 (.int .i64 0)]
  have e2 : (w1.setCell ⟨w.heap.size, 0, none⟩ (.int .i64 0)).cell? ⟨w.heap.size, 0, none⟩ = some (.int .i64 0) := by simp [World.cell?, cs1_heap b2 0 (.int .i64 0)]
  have e1 : ((w1.setCell ⟨w.heap.size, 0, none⟩ (.int .i64 0)).setCell ⟨w.heap.size, 1, none⟩ (.int .i64 0)).cell? ⟨w.heap.size, 1, none⟩ = some (.int .i64 0) := by simp [World.cell?, cs1_heap (cs1_heap b2 0 (.int .i64 0)) 1 (.int .i64 0)]
  clear b2
  go_wp2
  exact bodyPost_ret (v := .tuple #[.agg #[.int .i64 0, .int .i64 0], .int .i64 9]) (by simp [results, Tryz.results50, go_sem, e0, e1, e2]) rfl ⟨rfl, Below.setCell (Below.setCell (K0.out.trans J1.out) (p := ⟨_, 0, none⟩) (Nat.le_refl _) _) (p := ⟨_, 1, none⟩) (Nat.le_refl _) _⟩
 | true =>
  rw [erE_t] at C1 C2 ⊢
  rw [if_pos rfl, if_pos rfl]
  go_enter Tryz.func50, Tryz.ntmps50
  go_wp2_with fail
  rw [← HW.out]
  refine (C1.out _ (K0.out.trans (by first | with_reducible exact J0.out | with_reducible exact J0.out.trans (Kp.alloc _ _) | with_reducible exact (J0.out.trans (Kp.alloc _ _)).trans (Kp.alloc _ _) | with_reducible exact ((J0.out.trans (Kp.alloc _ _)).trans (Kp.alloc _ _)).trans (Kp.alloc _ _) | with_reducible exact J0.out.trans (Kp.drew _) | with_reducible exact J0.out.trans (Kp.drewN _ _)))).mono ?_
  rintro e w1 ⟨rfl, kk⟩
  have J1 := Lib.hid ((show Kp W0 _ from (by first | with_reducible exact J0.out | with_reducible exact J0.out.trans (Kp.alloc _ _) | with_reducible exact (J0.out.trans (Kp.alloc _ _)).trans (Kp.alloc _ _) | with_reducible exact ((J0.out.trans (Kp.alloc _ _)).trans (Kp.alloc _ _)).trans (Kp.alloc _ _) | with_reducible exact J0.out.trans (Kp.drew _) | with_reducible exact J0.out.trans (Kp.drewN _ _))).trans kk)
  clear kk
  go_wp2_with fail
  refine (C2.out _ (K0.out.trans (by first | with_reducible exact J1.out | with_reducible exact J1.out.trans (Kp.alloc _ _) | with_reducible exact (J1.out.trans (Kp.alloc _ _)).trans (Kp.alloc _ _) | with_reducible exact ((J1.out.trans (Kp.alloc _ _)).trans (Kp.alloc _ _)).trans (Kp.alloc _ _) | with_reducible exact J1.out.trans (Kp.drew _) | with_reducible exact J1.out.trans (Kp.drewN _ _)))).mono ?_
  rintro e w2 ⟨rfl, kk⟩
  have J2 := Lib.hid ((show Kp W0 _ from (by first | with_reducible exact J1.out | with_reducible exact J1.out.trans (Kp.alloc _ _) | with_reducible exact (J1.out.trans (Kp.alloc _ _)).trans (Kp.alloc _ _) | with_reducible exact ((J1.out.trans (Kp.alloc _ _)).trans (Kp.alloc _ _)).trans (Kp.alloc _ _) | with_reducible exact J1.out.trans (Kp.drew _) | with_reducible exact J1.out.trans (Kp.drewN _ _))).trans kk)
  clear kk
  have b2 := HG.out _ J2.out
  have c0 : w2.cell? ⟨w.heap.size, 0, none⟩ = some (.int .i64 0) := by simp [World.cell?, b2]
  have c1 : w2.cell? ⟨w.heap.size, 1, none⟩ = some (.int .i64 0) := by simp [World.cell?, b2]
  have f0 : w2.frozen? ⟨w.heap.size, 0, none⟩ = false := by simp [World.frozen?, b2]
  have f1 : w2.frozen? ⟨w.heap.size, 1, none⟩ = false := by simp [World.frozen?, b2]
  have e0 : ((w2.setCell ⟨w.heap.size, 0, none⟩ (.int .i64 x)).setCell ⟨w.heap.size, 1, none⟩ (.int .i64 y)).cell? ⟨w.heap.size, 0, none⟩ = some (.int .i64 x) := by simp [World.cell?, cs1_heap (cs1_heap b2 0 (.int .i64 x)) 1 (.int .i64 y)]
  have e2 : (w2.setCell ⟨w.heap.size, 0, none⟩ (.int .i64 x)).cell? ⟨w.heap.size, 0, none⟩ = some (.int .i64 x) := by simp [World.cell?, cs1_heap b2 0 (.int .i64 x)]
  have e1 : ((w2.setCell ⟨w.heap.size, 0, none⟩ (.int .i64 x)).setCell ⟨w.heap.size, 1, none⟩ (.int .i64 y)).cell? ⟨w.heap.size, 1, none⟩ = some (.int .i64 y) := by simp [World.cell?, cs1_heap (cs1_heap b2 0 (.int .i64 x)) 1 (.int .i64 y)]
  clear b2
  go_wp2
  exact bodyPost_ret (v := .tuple #[.agg #[.int .i64 x, .int .i64 y], .int .i64 0]) (by simp [results, Tryz.results50, go_sem, e0, e1, e2]) rfl ⟨rfl, Below.setCell (Below.setCell (K0.out.trans J2.out) (p := ⟨_, 0, none⟩) (Nat.le_refl _) _) (p := ⟨_, 1, none⟩) (Nat.le_refl _) _⟩
def cellsN (l : List Int) : List Value := l.map (Value.int .i64)
theorem ordInts_own {w : World} {base : Nat} {e : TypeId} {v : Value} {l : List Int} (h : w.ownsRow base e 1 v l.length (cellsN l)) : IntsAt w v l := by
 rcases h.2 with ⟨e1, h0⟩ | ⟨g, cp, cur, rfl, h2, h3, h4, h5, h6, h7⟩
 ·exact .inl ⟨_, _, e1, List.length_eq_zero_iff.1 h0⟩
 ·refine .inr ⟨g, 0, cp, rfl, h4, h5, fun i hi => ?_⟩
  rw [Nat.zero_add, h.cellAt i (by omega)]
  unfold cellsN
  simp [List.getD, hi]
theorem cell_newN (w : World) (o : Obj) (a : Value) (t : TypeId) : ∀ j u, [a][j]? = some u → ((w.alloc o).alloc (.cells #[a] t)).cell? ((⟨w.heap.size + 1, 0, none⟩ : Addr).add j) = some u := by
 intro j u hu
 rcases j with _ | j
 ·simp at hu
  subst hu
  simp [Addr.add]
 ·simp at hu
theorem infoOrd : (Tryz.prog.info? 3).map (fun i => (i.zero, i.size, i.bytes)) = some (some (.int .i64 0), 1, 8) := by kernel_rfl
theorem ordRow {w5 : World} {base : Nat} {e : TypeId} {v : Value} (O : List PLC) (pa pl ph : Int) (pe : Bool) (h : w5.ownsRow base e 1 v (O.length + 1) (cellsN (O.map PLC.at_) ++ [.int .i64 pa])) : w5.ownsRow base e 1 v (O ++ [PLC.mk pa pl ph pe]).length (cellsN ((O ++ [PLC.mk pa pl ph pe]).map PLC.at_)) := by
 rw [List.length_append, List.map_append, cellsN, List.map_append]
 exact h
theorem HPs.appended {w0 w4 w5 : World} {B : Nat} {M : List PLC} {o1 o2 : Obj} (h : HPs w0 B M w4) {v : Value} {n : Nat} {xs : List Value} (hown : w4.ownsRow w0.heap.size 3 1 v n xs) (g : ((w4.alloc o1).alloc o2).grownBy w5 v.ownBlock) : HPs w0 B M w5 := by
 have h2 : HPs w0 B M ((w4.alloc o1).alloc o2) := (h.kp (Kp.alloc _ _)).kp (Kp.alloc _ _)
 have o2' : ((w4.alloc o1).alloc o2).ownsRow w0.heap.size 3 1 v n xs := (hown.alloc _).alloc _
 exact h2.grown o2' (by decide) (by decide) (Nat.le_refl _) g
def slLen : Value → Nat
 | .slice _ n _ => n
 | _ => 0
theorem slLen_s (a : Option Addr) (n c : Nat) : slLen (.slice a n c) = n := rfl
theorem HPs.first (w : World) : HPs w w.heap.size [] (w.alloc (.cells #[.slice none 0 0] 129)) :=
 ⟨Kp.alloc _ _, Nat.le_refl _, _, heap_at _ _ _ rfl, World.ownsRow_nil _ _ _ _⟩
theorem osort_any (v : Value) (LL : List (List LF)) (w : World) (hv : LvsAt w v LL) (hl : ∀ l ∈ LL, LsOk l) (hm : LL.length ≤ 1000) (T : Tabs w) :
  Calls Tryz.prog 51 #[v] w fun e w' => ∃ v' o, e = .returned v' ∧ IntsAt w' v' o ∧ Srt LL o ∧ Kp w w' := by
 obtain ⟨i0, hi, hz0, hz1, hz2⟩ := info_parts infoOrd
 have as_ : ∀ (v : Value) (w : World), (Instr.typeAssert (.iface 132 v) 20 132 true).run Tryz.prog w = .ok (.tuple #[v, .bool true]) w := fun _ _ => by kernel_rfl
 obtain ⟨ad0, cp0, rfl⟩ := hv.slice
 have HV := Lib.hid hv
 have TT := Lib.hid T
 have HL := Lib.hid hl
 have H0 := Lib.hid (HPs.first w)
 have CI := Lib.hid (fun (L : List PLC) w1 (h1 : HPs w w.heap.size L w1) (hL : L.length ≤ 1000) => hinit_any w w.heap.size L w1 h1 hL)
 have CN := Lib.hid (fun (L : List PLC) w1 (h1 : HPs w w.heap.size L w1) => hlen_any w w.heap.size L w1 h1)
 have CO := Lib.hid (fun (L : List PLC) n w1 (h1 : HPs w w.heap.size L w1) (hn : L.length = n + 1) (hL : L.length ≤ 1000) (hh : hpF L 0 L.length) => heapPop_any w w.heap.size L n w1 h1 hn hL hh)
 unfold hIf at *
 have hm2 : (LL.length : Int) ≤ 1000 := by omega
 clear hv hl T
 go_enter Tryz.func51, Tryz.ntmps51
 go_wp2
 go_loopw [15] (fun i wr => ∃ k : Nat, k ≤ LL.length ∧ i = .int .i64 k ∧ Hid (HPs w w.heap.size (plcs LL k) wr)) (fun i _ => LL.length - (intOf i).toNat)
 case atStart => exact ⟨0, Nat.zero_le _, rfl, H0⟩
 case round =>
  obtain ⟨k, hk, rfl, J⟩ := hrel
  by_cases hlt : k < LL.length
  ·rcases HV.out.kp J.out.1 with ⟨_, _, _, e⟩ | ⟨b, off, cap, ev, hc, hmx, hx⟩
   ·rw [e] at hlt; simp at hlt
   cases ev
   obtain ⟨u, c0, ru⟩ := hx k hlt
   obtain ⟨ua, uc, rfl⟩ := ru.slice
   have z1 : (k : Int) < (LL.length : Int) := by omega
   have z2 : (0 : Int) ≤ (k : Int) := by omega
   have CK := Lib.hid (fun w1 (kk : Kp wr w1) => okey_any _ (lls LL k) w1 (ru.kp kk) (HL.out _ (lls_mem hlt)) (TT.out.kp (J.out.1.trans kk)))
   have PK := show plc LL k = ⟨(k : Int), keyA (lls LL k), keyB (lls LL k), !anyB (lls LL k)⟩ from rfl
   have PK2 := Lib.hid (plcs_succ LL k)
   have KR := Lib.hid (Kp.refl wr)
   rw [PK] at PK2
   generalize keyA (lls LL k) = ka at *
   generalize keyB (lls LL k) = kb at *
   clear hx hc hmx ru
   cases hb : anyB (lls LL k) with
   | false =>
    rw [hb] at CK PK PK2
    have PK := Lib.hid (show plc LL k = ⟨(k : Int), ka, kb, true⟩ from PK)
    have PK2 := Lib.hid (show plcs LL (k + 1) = plcs LL k ++ [⟨(k : Int), ka, kb, true⟩] from PK2.out)
    clear hb
    rw [erE_f] at CK
    have CP := Lib.hid (fun (x : Int) (w1 : World) (h1 : HPs w w.heap.size (plcs LL k) w1) (hx : x = k) => (by
     subst hx
     have := hpush_any w w.heap.size (plcs LL k) (plc LL k) w1 h1 (by rw [plcs_length]; omega)
     rw [show plc LL k = ⟨(k : Int), ka, kb, true⟩ from PK.out, ← PK2.out] at this
     simp only [pcV] at this
     exact this : Calls Tryz.prog 103 #[.pointer (some ⟨w.heap.size, 0, none⟩), .iface 132 (.agg #[.int .i64 x, .int .i64 ka, .int .i64 kb, .bool true])] w1 fun e w' => e = .returned (.tuple #[]) ∧ HPs w w.heap.size (plcs LL (k + 1)) w'))
    clear PK PK2
    go_wp2_with fail
    refine (CK.out _ (by first | with_reducible exact KR.out | with_reducible exact KR.out.trans (Kp.alloc _ _) | with_reducible exact (KR.out.trans (Kp.alloc _ _)).trans (Kp.alloc _ _) | with_reducible exact ((KR.out.trans (Kp.alloc _ _)).trans (Kp.alloc _ _)).trans (Kp.alloc _ _) | with_reducible exact KR.out.trans (Kp.drew _) | with_reducible exact KR.out.trans (Kp.drewN _ _))).mono ?_
    rintro e w1 ⟨rfl, kk⟩
    have K1 := Lib.hid ((show Kp wr _ from (by first | with_reducible exact KR.out | with_reducible exact KR.out.trans (Kp.alloc _ _) | with_reducible exact (KR.out.trans (Kp.alloc _ _)).trans (Kp.alloc _ _) | with_reducible exact ((KR.out.trans (Kp.alloc _ _)).trans (Kp.alloc _ _)).trans (Kp.alloc _ _) | with_reducible exact KR.out.trans (Kp.drew _) | with_reducible exact KR.out.trans (Kp.drewN _ _))).trans kk)
    clear kk c0
    go_wp2_with fail
    refine (CP.out _ _ (J.out.kp (K1.out.trans (Kp.alloc _ _))) rfl).mono ?_
    rintro e w2 ⟨rfl, hp⟩
    have J2 := Lib.hid hp
    clear hp
    go_wp2
    go_roundw
    case rel => exact ⟨k + 1, by omega, by go_num, J2⟩
    case measure => simp [intOf]; omega
   | true =>
    rw [hb] at CK PK PK2
    have PK := Lib.hid (show plc LL k = ⟨(k : Int), ka, kb, false⟩ from PK)
    have PK2 := Lib.hid (show plcs LL (k + 1) = plcs LL k ++ [⟨(k : Int), ka, kb, false⟩] from PK2.out)
    clear hb
    rw [erE_t] at CK
    have CP := Lib.hid (fun (x : Int) (w1 : World) (h1 : HPs w w.heap.size (plcs LL k) w1) (hx : x = k) => (by
     subst hx
     have := hpush_any w w.heap.size (plcs LL k) (plc LL k) w1 h1 (by rw [plcs_length]; omega)
     rw [show plc LL k = ⟨(k : Int), ka, kb, false⟩ from PK.out, ← PK2.out] at this
     simp only [pcV] at this
     exact this : Calls Tryz.prog 103 #[.pointer (some ⟨w.heap.size, 0, none⟩), .iface 132 (.agg #[.int .i64 x, .int .i64 ka, .int .i64 kb, .bool false])] w1 fun e w' => e = .returned (.tuple #[]) ∧ HPs w w.heap.size (plcs LL (k + 1)) w'))
    clear PK PK2
    go_wp2_with fail
    refine (CK.out _ (by first | with_reducible exact KR.out | with_reducible exact KR.out.trans (Kp.alloc _ _) | with_reducible exact (KR.out.trans (Kp.alloc _ _)).trans (Kp.alloc _ _) | with_reducible exact ((KR.out.trans (Kp.alloc _ _)).trans (Kp.alloc _ _)).trans (Kp.alloc _ _) | with_reducible exact KR.out.trans (Kp.drew _) | with_reducible exact KR.out.trans (Kp.drewN _ _))).mono ?_
    rintro e w1 ⟨rfl, kk⟩
    have K1 := Lib.hid ((show Kp wr _ from (by first | with_reducible exact KR.out | with_reducible exact KR.out.trans (Kp.alloc _ _) | with_reducible exact (KR.out.trans (Kp.alloc _ _)).trans (Kp.alloc _ _) | with_reducible exact ((KR.out.trans (Kp.alloc _ _)).trans (Kp.alloc _ _)).trans (Kp.alloc _ _) | with_reducible exact KR.out.trans (Kp.drew _) | with_reducible exact KR.out.trans (Kp.drewN _ _))).trans kk)
    clear kk c0
    go_wp2_with fail
    refine (CP.out _ _ (J.out.kp (K1.out.trans (Kp.alloc _ _))) rfl).mono ?_
    rintro e w2 ⟨rfl, hp⟩
    have J2 := Lib.hid hp
    clear hp
    go_wp2
    go_roundw
    case rel => exact ⟨k + 1, by omega, by go_num, J2⟩
    case measure => simp [intOf]; omega
  ·obtain rfl : k = LL.length := by omega
   go_wp2_with fail
   refine (CI.out _ _ J.out (by rw [plcs_length]; omega)).mono ?_
   rintro e w1 ⟨L1, rfl, hp1, pw1, pm1, hf1⟩
   have hsz := hp1.1.size
   have HP1 := Lib.hid hp1
   have AW1 := Lib.hid (Away.first pm1)
   have HF1 := Lib.hid hf1
   have LN1 := Lib.hid (show 0 + L1.length = LL.length by rw [pm1.length_eq, plcs_length, Nat.zero_add])
   clear hp1 pw1 pm1 hf1 J
   go_wp2_with (at_make; refine wpList_make_own _ rfl _ _ 75 rfl w.heap.size 3 i0 (.int .i64 0) 1 Tryz.underlying75 hi hz0 hz1 .i64 .i64 _ LL.length rfl rfl rfl (by rw [hz2]; omega) (by unfold maxLen; omega) hsz ?_; intro w2 hown0 hgrow0)
   have HP2 := Lib.hid (HP1.out.kp ((Below.refl _ _).grown hgrow0 (Nat.le_refl _) (fun k h => by cases h)))
   have OW2 := Lib.hid hown0
   clear hown0 hgrow0
   go_loopw [8] (fun s wr => ∃ (O L : List PLC), Hid (wr.ownsRow w.heap.size 3 1 s O.length (cellsN (O.map PLC.at_))) ∧ Hid (HPs w w.heap.size L wr) ∧ Hid (Away LL O L) ∧ Hid (hpF L 0 L.length) ∧ Hid (O.length + L.length = LL.length)) (fun s _ => LL.length - slLen s)
   case atStart => exact ⟨[], L1, OW2, HP2, AW1, HF1, LN1⟩
   case round =>
    obtain ⟨O, L, OW, HPL, AW, HF, LN⟩ := hrel
    obtain ⟨sa, sc, rfl⟩ := own_slice OW.out
    have CNn := CN.out L
    cases hn : L.length with
    | zero =>
     rw [hn] at CNn
     have CN2 := Lib.hid CNn
     have hL0 := Lib.hid hn
     clear CNn hn
     go_wp2_with fail
     refine (CN2.out _ HPL.out).mono ?_
     rintro e w3 ⟨rfl, rfl⟩
     go_wp2
     go_ret
     exact ⟨_, O.map PLC.at_, rfl, ordInts_own (by rw [List.length_map]; exact OW.out), by have a := AW.out; rw [List.length_eq_zero_iff.1 hL0.out] at a; exact a.done, HPL.out.1⟩
    | succ n =>
     rw [hn] at CNn
     have CN2 := Lib.hid CNn
     have HN := Lib.hid hn
     have hO : O.length ≤ 1000 := by have := LN.out; omega
     have hO2 : O.length < LL.length := by have := LN.out; omega
     have hL3 : L.length ≤ 1000 := by have := LN.out; omega
     have C3 := Lib.hid (CO.out L n _ HPL.out hn hL3 HF.out)
     have NX := Lib.hid (fun M (g : (M ++ [plAt L 0]).Perm L) => AW.out.next (by omega) HF.out g)
     clear CNn hn hL3
     generalize plAt L 0 = p at *
     obtain ⟨pa, pl, ph, pe⟩ := p
     simp only [pcV] at C3
     go_wp2_with fail
     refine (CN2.out _ HPL.out).mono ?_
     rintro e w3 ⟨rfl, rfl⟩
     go_wp2_with fail
     refine (C3.out).mono ?_
     rintro e w4 ⟨M, rfl, hp4, pw4, pm4, hf4⟩
     have OW4 := pw4.own OW.out (by kernel_rfl)
     have HP4 := Lib.hid hp4
     have hsz4 := hp4.1.size
     have AW4 := Lib.hid (NX.out M pm4)
     have HF4 := Lib.hid hf4
     have LN4 := Lib.hid (show (O ++ [PLC.mk pa pl ph pe]).length + M.length = LL.length by
      have a := pm4.length_eq
      have b := LN.out
      rw [List.length_append, List.length_singleton] at a
      rw [List.length_append, List.length_singleton]
      omega)
     clear hp4 pw4 pm4 hf4
     go_wp2_with (at_builtin; refine wpList_append_own _ rfl (.tmp 51) (.tmp 54) 75 rfl w.heap.size 3 i0 (.int .i64 0) 1 8 Tryz.underlying75 hi hz0 hz1 hz2 rfl (by decide) _ _ _ rfl ((OW4.alloc _).alloc _) ⟨w4.heap.size + 1, 0, none⟩ 1 1 [.int .i64 pa] rfl rfl (cell_newN _ _ _ _) (by intro u hu; simp at hu; subst hu; rfl) (by unfold maxLen; omega) (by omega) (by simp; omega) ?_; intro v5 w5 hown5 hgrow5 hnil5; obtain ⟨s5, c5, rfl⟩ := own_slice hown5; have HP5 := Lib.hid (HP4.out.appended OW4 hgrow5); have OW5 := Lib.hid (ordRow O pa pl ph pe hown5); clear hown5 hgrow5 hnil5 OW4)
     go_roundw
     case rel => exact ⟨O ++ [PLC.mk pa pl ph pe], M, OW5, HP5, AW4, HF4, LN4⟩
     case measure => simp only [slLen_s]; omega
def yr (lo hi : Int) : LF := ⟨false, 3, [(lo, hi)], []⟩
theorem yr_env {lo hi : Int} (h : leafB (yr lo hi) = true) : anyB [yr lo hi] = true ∧ (envF dLS min [yr lo hi]).1 = firV 3 lo ∧ (envF dGE max [yr lo hi]).1 = lasV 3 hi ∧ (envF dLE min [yr lo hi]).1 = lasV 3 lo ∧ (envF dGS max [yr lo hi]).1 = firV 3 hi := by
 have f : famR (yr lo hi) = .units 3 [(lo, hi)] := famR_units h rfl
 refine ⟨?_, ?_, ?_, ?_, ?_⟩
 ·simp [anyB, fullB, f, emptyF]
 ·simp [envF, envS, f, emptyF, dLS, leastR, at_]
 ·simp [envF, envS, f, emptyF, dGE, greatR, at_]
 ·simp [envF, envS, f, emptyF, dLE, leastR, at_]
 ·simp [envF, envS, f, emptyF, dGS, greatR, at_]
theorem yr_ok {lo hi : Int} (h1 : 0 ≤ lo) (h2 : lo ≤ 9999) (h3 : 0 ≤ hi) (h4 : hi ≤ 9999) : LsOk [yr lo hi] := by
 intro f hf
 rw [List.mem_singleton.1 hf]
 refine ⟨fun r hr => ?_, fun r hr => (by cases hr), by simp [yr], by simp [yr]⟩
 rw [List.mem_singleton.1 hr]
 exact ⟨by simp only; omega, by simp only; omega, by simp only; omega, by simp only; omega⟩
theorem yr_l1_1 : leafB (yr 1 1) = true := by decide +kernel
theorem yr_l4_4 : leafB (yr 4 4) = true := by decide +kernel
theorem yr_l5_5 : leafB (yr 5 5) = true := by decide +kernel
theorem yr_l1980_1989 : leafB (yr 1980 1989) = true := by decide +kernel
theorem yr_l1984_1984 : leafB (yr 1984 1984) = true := by decide +kernel
theorem yr_l1985_1985 : leafB (yr 1985 1985) = true := by decide +kernel
theorem yr_v1 : firV 3 1 = 366 ∧ lasV 3 1 = 730 := by decide +kernel
theorem yr_v4 : firV 3 4 = 1461 ∧ lasV 3 4 = 1826 := by decide +kernel
theorem yr_v5 : firV 3 5 = 1827 ∧ lasV 3 5 = 2191 := by decide +kernel
theorem yr_v1980 : firV 3 1980 = 723180 ∧ lasV 3 1980 = 723545 := by decide +kernel
theorem yr_v1984 : firV 3 1984 = 724641 ∧ lasV 3 1984 = 725006 := by decide +kernel
theorem yr_v1985 : firV 3 1985 = 725007 ∧ lasV 3 1985 = 725371 := by decide +kernel
theorem yr_v1989 : firV 3 1989 = 726468 ∧ lasV 3 1989 = 726832 := by decide +kernel
theorem ex21_1 : cerO [yr 1984 1984] [yr 1985 1985] = true ∧ bothB [yr 1984 1984] [yr 1985 1985] = true := by
 have a := yr_env yr_l1984_1984
 have b := yr_env yr_l1985_1985
 unfold cerO bothB
 rw [a.1, b.1, a.2.2.1, b.2.1, yr_v1984.2, yr_v1985.1]
 decide
theorem ex21_2 : posO [yr 1980 1989] [yr 1984 1984] = true ∧ cerO [yr 1980 1989] [yr 1984 1984] = false ∧ bothB [yr 1980 1989] [yr 1984 1984] = true := by
 have a := yr_env yr_l1980_1989
 have b := yr_env yr_l1984_1984
 unfold posO cerO bothB
 rw [a.1, b.1, a.2.2.1, b.2.1, a.2.2.2.1, b.2.2.2.2, yr_v1989.2, yr_v1980.2, yr_v1984.1]
 decide
theorem yr_key {lo hi : Int} (h : leafB (yr lo hi) = true) : keyA [yr lo hi] = firV 3 lo ∧ keyB [yr lo hi] = lasV 3 hi := by
 have a := yr_env h
 unfold keyA keyB
 rw [if_pos a.1, if_pos a.1]
 exact ⟨a.2.1, a.2.2.1⟩
theorem ex21_3 : keyA [yr 1 1] = 366 ∧ keyB [yr 1 1] = 730 ∧ anyB [yr 1 1] = true := by
 have a := yr_key yr_l1_1
 exact ⟨a.1.trans yr_v1.1, a.2.trans yr_v1.2, (yr_env yr_l1_1).1⟩
def exLL : List (List LF) := [[yr 5 5], [], [yr 4 4]]
theorem ex21_4 : Srt exLL [2, 0, 1] := by
 have a := yr_key yr_l5_5
 have b := yr_key yr_l4_4
 have a1 := (yr_env yr_l5_5).1
 have b1 := (yr_env yr_l4_4).1
 have e0 : plc exLL 0 = ⟨0, 1827, 2191, false⟩ := by unfold plc; rw [show lls exLL 0 = [yr 5 5] from rfl, a.1, a.2, a1, yr_v5.1, yr_v5.2]; rfl
 have e1 : plc exLL 1 = ⟨1, 0, 0, true⟩ := rfl
 have e2 : plc exLL 2 = ⟨2, 1461, 1826, false⟩ := by unfold plc; rw [show lls exLL 2 = [yr 4 4] from rfl, b.1, b.2, b1, yr_v4.1, yr_v4.2]; rfl
 refine ⟨[plc exLL 2, plc exLL 0, plc exLL 1], ?_, ?_, rfl⟩
 ·show List.Perm [plc exLL 2, plc exLL 0, plc exLL 1] [plc exLL 0, plc exLL 1, plc exLL 2]
  exact (List.perm_append_comm (l₁ := [plc exLL 2]) (l₂ := [plc exLL 0, plc exLL 1]))
 ·rw [e0, e1, e2]
  simp [leP_iff]
theorem years_any (lo hi : Int) (w : World) : Calls Tryz.prog 49 #[.int .i64 lo, .int .i64 hi] w fun e w' => ∃ ad, e = .returned (.slice ad 1 1) ∧ LeavesAt w' (.slice ad 1 1) [yr lo hi] ∧ Kp w w' := by
 obtain ⟨V, hV⟩ : ∃ x, x = w.alloc (.cells #[.int .i64 lo, .int .i64 hi] 53) := ⟨_, rfl⟩
 have kv : Kp w V := by rw [hV]; exact Kp.alloc _ _
 have r1 : RunsAt V (.slice (some ⟨w.heap.size, 0, none⟩) 1 1) [(lo, hi)] := by rw [hV]; exact one_at w lo hi 53
 have hsz : V.heap.size = w.heap.size + 1 := by rw [hV]; simp
 obtain ⟨X, hX⟩ : ∃ x, x = V.alloc (.cells #[.bool false, .int .i64 3, .slice (some ⟨w.heap.size, 0, none⟩) 1 1, .slice none 0 0] 47) := ⟨_, rfl⟩
 have kx : Kp V X := by rw [hX]; exact Kp.alloc _ _
 have hg : X.heap[w.heap.size + 1]? = some (.cells #[.bool false, .int .i64 3, .slice (some ⟨w.heap.size, 0, none⟩) 1 1, .slice none 0 0] 47 (0, 0)) := by rw [hX]; exact heap_at _ _ _ hsz
 have hv : LeavesAt X (.slice (some ⟨w.heap.size + 1, 0, none⟩) 1 1) [yr lo hi] := by
  refine .inr ⟨w.heap.size + 1, 0, 1, rfl, Nat.le_refl _, by unfold maxLen; omega, fun i hi' => ?_⟩
  obtain rfl : i = 0 := by simp at hi'; omega
  exact ⟨.slice (some ⟨w.heap.size, 0, none⟩) 1 1, .slice none 0 0, by simp [World.cell?, hg, lat, yr], by simp [World.cell?, hg, lat, yr], by simp [World.cell?, hg, lat, yr], by simp [World.cell?, hg, lat, yr], r1.kp kx, .inl ⟨_, _, rfl, rfl⟩⟩
 have HV := Lib.hid hv
 have KK := Lib.hid (kv.trans kx)
 have HX := Lib.hid (hX.trans (by rw [hV]))
 clear hv kv kx hX hV hg hsz r1
 go_enter Tryz.func49, Tryz.ntmps49
 go_wp2
 rw [← HX.out]
 go_ret
 exact ⟨_, rfl, HV.out, KK.out⟩
theorem lvs_three (w : World) (a b : Option Addr) {lo hi lo' hi' : Int} (h1 : LeavesAt w (.slice a 1 1) [yr lo hi]) (h2 : LeavesAt w (.slice b 1 1) [yr lo' hi']) :
  LvsAt (w.alloc (.cells #[.slice a 1 1, .slice none 0 0, .slice b 1 1] 22)) (.slice (some ⟨w.heap.size, 0, none⟩) 3 3) [[yr lo hi], [], [yr lo' hi']] := by
 obtain ⟨X, hX⟩ : ∃ x, x = w.alloc (.cells #[.slice a 1 1, .slice none 0 0, .slice b 1 1] 22) := ⟨_, rfl⟩
 have hg : X.heap[w.heap.size]? = some (.cells #[.slice a 1 1, .slice none 0 0, .slice b 1 1] 22 (0, 0)) := by rw [hX]; exact heap_at _ _ _ rfl
 have k : Kp w X := by rw [hX]; exact Kp.alloc _ _
 rw [← hX]
 refine .inr ⟨w.heap.size, 0, 3, rfl, Nat.le_refl _, by unfold maxLen; omega, fun i hi' => ?_⟩
 have hi3 : i < 3 := hi'
 obtain rfl | rfl | rfl : i = 0 ∨ i = 1 ∨ i = 2 := by omega
 ·exact ⟨.slice a 1 1, by simp [World.cell?, hg], h1.kp k⟩
 ·exact ⟨.slice none 0 0, by simp [World.cell?, hg], .inl ⟨_, _, rfl, rfl⟩⟩
 ·exact ⟨.slice b 1 1, by simp [World.cell?, hg], h2.kp k⟩
theorem awake21 (w : World) (T : Tabs w) : Calls Tryz.prog 20 #[] w fun e w' => e = .returned (.bool true) ∧ Kp w w' := by
 have CY := Lib.hid (fun lo hi w1 => years_any lo hi w1)
 have CC := Lib.hid (fun v u l m w1 (hv : LeavesAt w1 v l) (hu : LeavesAt w1 u m) hl hm (k : Kp w w1) {r} (x1 : cerO l m = r) (x2 : bothB l m = true) => (by have := ordCertainly_any v u l m w1 hv hu hl hm (T.kp k); rw [x1, x2, erE_t] at this; exact this : Calls Tryz.prog 23 #[v, u] w1 fun e w' => e = .returned (.tuple #[.bool r, .int .i64 0]) ∧ Kp w1 w'))
 have CP := Lib.hid (fun v u l m w1 (hv : LeavesAt w1 v l) (hu : LeavesAt w1 u m) hl hm (k : Kp w w1) {r} (x1 : posO l m = r) (x2 : bothB l m = true) => (by have := ordPossibly_any v u l m w1 hv hu hl hm (T.kp k); rw [x1, x2, erE_t] at this; exact this : Calls Tryz.prog 24 #[v, u] w1 fun e w' => e = .returned (.tuple #[.bool r, .int .i64 0]) ∧ Kp w1 w'))
 have CF := Lib.hid (fun v l w1 (hv : LeavesAt w1 v l) hl (k : Kp w w1) {x y} (x1 : keyA l = x) (x2 : keyB l = y) (x3 : anyB l = true) => (by have := okey_any v l w1 hv hl (T.kp k); rw [x1, x2, x3, erE_t] at this; exact this : Calls Tryz.prog 50 #[v] w1 fun e w' => e = .returned (.tuple #[.agg #[.int .i64 x, .int .i64 y], .int .i64 0]) ∧ Kp w1 w'))
 have CS := Lib.hid (fun v LL w1 (hv : LvsAt w1 v LL) hl hm (k : Kp w w1) => osort_any v LL w1 hv hl hm (T.kp k))
 have CK := Lib.hid (fun w1 => kcmp_any 366 730 366 730 w1)
 rw [show cmpK 366 730 366 730 = 0 by decide] at CK
 have X1 := Lib.hid ex21_1
 have X2 := Lib.hid ex21_2
 have X3 := Lib.hid ex21_3
 have o1 := Lib.hid (yr_ok (lo := 1984) (hi := 1984) (by decide) (by decide) (by decide) (by decide))
 have o2 := Lib.hid (yr_ok (lo := 1985) (hi := 1985) (by decide) (by decide) (by decide) (by decide))
 have o3 := Lib.hid (yr_ok (lo := 1980) (hi := 1989) (by decide) (by decide) (by decide) (by decide))
 have o4 := Lib.hid (yr_ok (lo := 1) (hi := 1) (by decide) (by decide) (by decide) (by decide))
 have ls := Lib.hid (show ∀ l ∈ exLL, LsOk l from fun l hl => by
  unfold exLL at hl
  rcases List.mem_cons.1 hl with rfl | hl
  ·exact yr_ok (by decide) (by decide) (by decide) (by decide)
  rcases List.mem_cons.1 hl with rfl | hl
  ·exact fun f hf => by cases hf
  rw [List.mem_singleton.1 hl]
  exact yr_ok (by decide) (by decide) (by decide) (by decide))
 have K0 := Lib.hid (Kp.refl w)
 clear T
 go_enter Tryz.func20, Tryz.ntmps20
 go_wp2_with fail
 refine (CY.out 1984 1984 _).mono ?_
 rintro e w1 ⟨a1, rfl, r, kk⟩
 have R1 := Lib.hid r
 have K1 := Lib.hid ((show Kp w _ from (by first | with_reducible exact K0.out | with_reducible exact K0.out.trans (Kp.alloc _ _) | with_reducible exact (K0.out.trans (Kp.alloc _ _)).trans (Kp.alloc _ _) | with_reducible exact ((K0.out.trans (Kp.alloc _ _)).trans (Kp.alloc _ _)).trans (Kp.alloc _ _) | with_reducible exact K0.out.trans (Kp.drew _) | with_reducible exact K0.out.trans (Kp.drewN _ _))).trans kk)
 clear kk r
 go_wp2_with fail
 refine (CY.out 1985 1985 _).mono ?_
 rintro e w2 ⟨a2, rfl, r, kk⟩
 have R2 := Lib.hid r
 have K2 := Lib.hid ((show Kp w _ from (by first | with_reducible exact K1.out | with_reducible exact K1.out.trans (Kp.alloc _ _) | with_reducible exact (K1.out.trans (Kp.alloc _ _)).trans (Kp.alloc _ _) | with_reducible exact ((K1.out.trans (Kp.alloc _ _)).trans (Kp.alloc _ _)).trans (Kp.alloc _ _) | with_reducible exact K1.out.trans (Kp.drew _) | with_reducible exact K1.out.trans (Kp.drewN _ _))).trans kk)
 replace R1 := Lib.hid (R1.out.kp (Kp.trans (by first | with_reducible exact Kp.refl _ | with_reducible exact Kp.alloc _ _ | with_reducible exact (Kp.alloc _ _).trans (Kp.alloc _ _) | with_reducible exact ((Kp.alloc _ _).trans (Kp.alloc _ _)).trans (Kp.alloc _ _) | with_reducible exact Kp.drew _ | with_reducible exact Kp.drewN _ _) kk))
 clear kk r
 go_wp2_with fail
 refine (CC.out _ _ _ _ _ R1.out R2.out o1.out o2.out (by first | with_reducible exact K2.out | with_reducible exact K2.out.trans (Kp.alloc _ _) | with_reducible exact (K2.out.trans (Kp.alloc _ _)).trans (Kp.alloc _ _) | with_reducible exact ((K2.out.trans (Kp.alloc _ _)).trans (Kp.alloc _ _)).trans (Kp.alloc _ _) | with_reducible exact K2.out.trans (Kp.drew _) | with_reducible exact K2.out.trans (Kp.drewN _ _)) X1.out.1 X1.out.2).mono ?_
 rintro e w3 ⟨rfl, kk⟩
 have K3 := Lib.hid ((show Kp w _ from (by first | with_reducible exact K2.out | with_reducible exact K2.out.trans (Kp.alloc _ _) | with_reducible exact (K2.out.trans (Kp.alloc _ _)).trans (Kp.alloc _ _) | with_reducible exact ((K2.out.trans (Kp.alloc _ _)).trans (Kp.alloc _ _)).trans (Kp.alloc _ _) | with_reducible exact K2.out.trans (Kp.drew _) | with_reducible exact K2.out.trans (Kp.drewN _ _))).trans kk)
 clear kk
 clear R1 R2
 go_wp2_with fail
 refine (CY.out 1980 1989 _).mono ?_
 rintro e w4 ⟨a4, rfl, r, kk⟩
 have R4 := Lib.hid r
 have K4 := Lib.hid ((show Kp w _ from (by first | with_reducible exact K3.out | with_reducible exact K3.out.trans (Kp.alloc _ _) | with_reducible exact (K3.out.trans (Kp.alloc _ _)).trans (Kp.alloc _ _) | with_reducible exact ((K3.out.trans (Kp.alloc _ _)).trans (Kp.alloc _ _)).trans (Kp.alloc _ _) | with_reducible exact K3.out.trans (Kp.drew _) | with_reducible exact K3.out.trans (Kp.drewN _ _))).trans kk)
 clear kk r
 go_wp2_with fail
 refine (CY.out 1984 1984 _).mono ?_
 rintro e w5 ⟨a5, rfl, r, kk⟩
 have R5 := Lib.hid r
 have K5 := Lib.hid ((show Kp w _ from (by first | with_reducible exact K4.out | with_reducible exact K4.out.trans (Kp.alloc _ _) | with_reducible exact (K4.out.trans (Kp.alloc _ _)).trans (Kp.alloc _ _) | with_reducible exact ((K4.out.trans (Kp.alloc _ _)).trans (Kp.alloc _ _)).trans (Kp.alloc _ _) | with_reducible exact K4.out.trans (Kp.drew _) | with_reducible exact K4.out.trans (Kp.drewN _ _))).trans kk)
 replace R4 := Lib.hid (R4.out.kp (Kp.trans (by first | with_reducible exact Kp.refl _ | with_reducible exact Kp.alloc _ _ | with_reducible exact (Kp.alloc _ _).trans (Kp.alloc _ _) | with_reducible exact ((Kp.alloc _ _).trans (Kp.alloc _ _)).trans (Kp.alloc _ _) | with_reducible exact Kp.drew _ | with_reducible exact Kp.drewN _ _) kk))
 clear kk r
 go_wp2_with fail
 refine (CP.out _ _ _ _ _ R4.out R5.out o3.out o1.out (by first | with_reducible exact K5.out | with_reducible exact K5.out.trans (Kp.alloc _ _) | with_reducible exact (K5.out.trans (Kp.alloc _ _)).trans (Kp.alloc _ _) | with_reducible exact ((K5.out.trans (Kp.alloc _ _)).trans (Kp.alloc _ _)).trans (Kp.alloc _ _) | with_reducible exact K5.out.trans (Kp.drew _) | with_reducible exact K5.out.trans (Kp.drewN _ _)) X2.out.1 X2.out.2.2).mono ?_
 rintro e w6 ⟨rfl, kk⟩
 have K6 := Lib.hid ((show Kp w _ from (by first | with_reducible exact K5.out | with_reducible exact K5.out.trans (Kp.alloc _ _) | with_reducible exact (K5.out.trans (Kp.alloc _ _)).trans (Kp.alloc _ _) | with_reducible exact ((K5.out.trans (Kp.alloc _ _)).trans (Kp.alloc _ _)).trans (Kp.alloc _ _) | with_reducible exact K5.out.trans (Kp.drew _) | with_reducible exact K5.out.trans (Kp.drewN _ _))).trans kk)
 clear kk
 clear R4 R5
 go_wp2_with fail
 refine (CY.out 1980 1989 _).mono ?_
 rintro e w7 ⟨a7, rfl, r, kk⟩
 have R7 := Lib.hid r
 have K7 := Lib.hid ((show Kp w _ from (by first | with_reducible exact K6.out | with_reducible exact K6.out.trans (Kp.alloc _ _) | with_reducible exact (K6.out.trans (Kp.alloc _ _)).trans (Kp.alloc _ _) | with_reducible exact ((K6.out.trans (Kp.alloc _ _)).trans (Kp.alloc _ _)).trans (Kp.alloc _ _) | with_reducible exact K6.out.trans (Kp.drew _) | with_reducible exact K6.out.trans (Kp.drewN _ _))).trans kk)
 clear kk r
 go_wp2_with fail
 refine (CY.out 1984 1984 _).mono ?_
 rintro e w8 ⟨a8, rfl, r, kk⟩
 have R8 := Lib.hid r
 have K8 := Lib.hid ((show Kp w _ from (by first | with_reducible exact K7.out | with_reducible exact K7.out.trans (Kp.alloc _ _) | with_reducible exact (K7.out.trans (Kp.alloc _ _)).trans (Kp.alloc _ _) | with_reducible exact ((K7.out.trans (Kp.alloc _ _)).trans (Kp.alloc _ _)).trans (Kp.alloc _ _) | with_reducible exact K7.out.trans (Kp.drew _) | with_reducible exact K7.out.trans (Kp.drewN _ _))).trans kk)
 replace R7 := Lib.hid (R7.out.kp (Kp.trans (by first | with_reducible exact Kp.refl _ | with_reducible exact Kp.alloc _ _ | with_reducible exact (Kp.alloc _ _).trans (Kp.alloc _ _) | with_reducible exact ((Kp.alloc _ _).trans (Kp.alloc _ _)).trans (Kp.alloc _ _) | with_reducible exact Kp.drew _ | with_reducible exact Kp.drewN _ _) kk))
 clear kk r
 go_wp2_with fail
 refine (CC.out _ _ _ _ _ R7.out R8.out o3.out o1.out (by first | with_reducible exact K8.out | with_reducible exact K8.out.trans (Kp.alloc _ _) | with_reducible exact (K8.out.trans (Kp.alloc _ _)).trans (Kp.alloc _ _) | with_reducible exact ((K8.out.trans (Kp.alloc _ _)).trans (Kp.alloc _ _)).trans (Kp.alloc _ _) | with_reducible exact K8.out.trans (Kp.drew _) | with_reducible exact K8.out.trans (Kp.drewN _ _)) X2.out.2.1 X2.out.2.2).mono ?_
 rintro e w9 ⟨rfl, kk⟩
 have K9 := Lib.hid ((show Kp w _ from (by first | with_reducible exact K8.out | with_reducible exact K8.out.trans (Kp.alloc _ _) | with_reducible exact (K8.out.trans (Kp.alloc _ _)).trans (Kp.alloc _ _) | with_reducible exact ((K8.out.trans (Kp.alloc _ _)).trans (Kp.alloc _ _)).trans (Kp.alloc _ _) | with_reducible exact K8.out.trans (Kp.drew _) | with_reducible exact K8.out.trans (Kp.drewN _ _))).trans kk)
 clear kk
 clear R7 R8
 go_wp2_with fail
 refine (CY.out 1 1 _).mono ?_
 rintro e w10 ⟨a10, rfl, r, kk⟩
 have R10 := Lib.hid r
 have K10 := Lib.hid ((show Kp w _ from (by first | with_reducible exact K9.out | with_reducible exact K9.out.trans (Kp.alloc _ _) | with_reducible exact (K9.out.trans (Kp.alloc _ _)).trans (Kp.alloc _ _) | with_reducible exact ((K9.out.trans (Kp.alloc _ _)).trans (Kp.alloc _ _)).trans (Kp.alloc _ _) | with_reducible exact K9.out.trans (Kp.drew _) | with_reducible exact K9.out.trans (Kp.drewN _ _))).trans kk)
 clear kk r
 go_wp2_with fail
 refine (CF.out _ _ _ R10.out o4.out (by first | with_reducible exact K10.out | with_reducible exact K10.out.trans (Kp.alloc _ _) | with_reducible exact (K10.out.trans (Kp.alloc _ _)).trans (Kp.alloc _ _) | with_reducible exact ((K10.out.trans (Kp.alloc _ _)).trans (Kp.alloc _ _)).trans (Kp.alloc _ _) | with_reducible exact K10.out.trans (Kp.drew _) | with_reducible exact K10.out.trans (Kp.drewN _ _)) X3.out.1 X3.out.2.1 X3.out.2.2).mono ?_
 rintro e w11 ⟨rfl, kk⟩
 have K11 := Lib.hid ((show Kp w _ from (by first | with_reducible exact K10.out | with_reducible exact K10.out.trans (Kp.alloc _ _) | with_reducible exact (K10.out.trans (Kp.alloc _ _)).trans (Kp.alloc _ _) | with_reducible exact ((K10.out.trans (Kp.alloc _ _)).trans (Kp.alloc _ _)).trans (Kp.alloc _ _) | with_reducible exact K10.out.trans (Kp.drew _) | with_reducible exact K10.out.trans (Kp.drewN _ _))).trans kk)
 clear kk
 clear R10
 obtain ⟨V, hV⟩ : ∃ x, x = w11.alloc (.cells #[.int .i64 366, .int .i64 730] 72) := ⟨_, rfl⟩
 have kv : Kp w11 V := by rw [hV]; exact Kp.alloc _ _
 have hg : V.heap[w11.heap.size]? = some (.cells #[.int .i64 366, .int .i64 730] 72 (0, 0)) := by rw [hV]; exact heap_at _ _ _ rfl
 have HC := Lib.hid (fun w' (k : Kp V w') => show w'.cell? ⟨w11.heap.size, 0, none⟩ = some (.int .i64 366) ∧ w'.cell? ⟨w11.heap.size, 1, none⟩ = some (.int .i64 730) from ⟨cell_up k (by simp [World.cell?, hg]), cell_up k (by simp [World.cell?, hg])⟩)
 have KV := Lib.hid (K11.out.trans kv)
 have HV := Lib.hid hV
 clear hV hg kv
 go_wp2_with fail
 rw [← HV.out]
 refine (CY.out 5 5 _).mono ?_
 rintro e w12 ⟨a12, rfl, r, kk⟩
 have R12 := Lib.hid r
 have G12 := Lib.hid kk
 clear kk r
 go_wp2_with fail
 refine (CY.out 4 4 _).mono ?_
 rintro e w13 ⟨a13, rfl, r, kk⟩
 have R13 := Lib.hid r
 replace R12 := Lib.hid (R12.out.kp kk)
 have G13 := Lib.hid (G12.out.trans kk)
 clear kk r
 have hX := lvs_three w13 a12 a13 R12.out R13.out
 have HX := Lib.hid hX
 clear hX
 go_wp2_with fail
 refine (CS.out _ _ _ HX.out ls.out (by decide) (KV.out.trans (G13.out.trans (Kp.alloc _ _)))).mono ?_
 rintro e w14 ⟨v14, out, rfl, iv, so, kk⟩
 obtain rfl := so.once ex21_4
 have G14 := Lib.hid ((G13.out.trans (Kp.alloc _ _)).trans kk)
 clear kk so
 rcases iv with ⟨_, _, _, e0⟩ | ⟨b, off, cap, rfl, hc, hm, hx⟩
 ·cases e0
 have x0 := hx 0 (by decide)
 have x1 := hx 1 (by decide)
 have x2 := hx 2 (by decide)
 simp only [List.getD_cons_zero, List.getD_cons_succ, Nat.add_zero, List.length_cons, List.length_nil, Nat.zero_add, Nat.reduceAdd] at x0 x1 x2
 obtain ⟨c0, c1⟩ := HC.out w14 G14.out
 clear hx hc hm
 go_wp2_with fail
 refine (CK.out _).mono ?_
 rintro e w15 ⟨rfl, kk⟩
 have K15 := Lib.hid ((KV.out.trans G14.out).trans kk)
 clear kk
 go_wp2
 go_ret
 exact ⟨rfl, K15.out⟩
end Go.Proofs.YtjdnejglapnbbaaGreatDoor
