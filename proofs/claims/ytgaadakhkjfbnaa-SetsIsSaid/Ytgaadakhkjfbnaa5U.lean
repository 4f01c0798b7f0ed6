/-
  Contracts of the document's answer for layer 5: Union, rest, Minus, Clip, Wide.
-/
import Derived.Test.Ytgaadakhkjfbnaa5R
import Derived.Test.Ytgaadakhkjfbnaa5S
import Derived.Test.Ytgaadakhkjfbnaa5T
namespace Go.Proofs.Ytgaadakhkjfbnaa
open Go.RowKit
set_option linter.unusedVariables false
set_option linter.unusedSimpArgs false
set_option maxHeartbeats 4000000 in
set_option maxRecDepth 100000 in
theorem rrest_any (v : Value) (l : List R) (w : World) (hv : RunsAt w v l) (hl : I64R l) (hn : l.length ≤ 1000000) :
    Calls Try.prog 69 #[v] w fun e w' => ∃ v' : Value, e = .returned v' ∧ RunsAt w' v' (restR l) ∧ Kp w w' := by
  obtain ⟨i0, hi, hz0, hz1, hz2⟩ := info_parts infoR
  have C := Lib.hid (asR_any v l w hv hl hn w (Kp.refl w))
  have nl := nf_len l
  have OK := Lib.hid (sane_ok (nf_sane l))
  have E : restR l = gaps (-1099511627776) (nf l) := rfl
  have hL : (nf l).length ≤ 1000000 := by omega
  rw [E]
  clear hv hl nl hn E
  generalize nf l = L at *
  obtain ⟨G, hG⟩ : ∃ G, gaps (-1099511627776) L = G := ⟨_, rfl⟩
  rw [hG]
  have HG := Lib.hid hG
  clear hG
  go_enter Try.func69, Try.ntmps69
  go_wp2_with fail
  refine (C.out).mono ?_
  rintro e w1 ⟨v1, rfl, R0, kk⟩
  have K1 := Lib.hid kk
  have R1 := Lib.hid R0
  obtain ⟨ad1, c1, rfl⟩ := R1.out.slice
  clear R0 kk C
  go_wp2
  go_loopw [4, 5, 6] (fun u4 u5 u6 wr => ∃ (j : Nat) (f : Int) (out : List R), j ≤ L.length ∧ u6 = .int .i64 j ∧ u5 = .int .i64 f ∧ -1099511627776 ≤ f ∧ f ≤ 1099511627777 ∧ out.length ≤ j ∧ Hid (out ++ gaps f (L.drop j) = G) ∧
    Hid (wr.ownsRow w1.heap.size 35 2 u4 out.length (cellsR out)) ∧ Hid (Kp w1 wr)) (fun _ _ u6 _ => L.length - (intOf u6).toNat)
  case atStart => exact ⟨0, -1099511627776, [], Nat.zero_le _, rfl, rfl, by omega, by omega, Nat.le_refl _, HG, Lib.hid (World.ownsRow_nil _ _ _ _), Lib.hid (Kp.refl _)⟩
  case round =>
    obtain ⟨j, f, out, hj, rfl, rfl, f1, f2, hlen, P, O, K2⟩ := hrel
    by_cases hlt : j < L.length
    · rcases R1.out with ⟨_, _, _, e⟩ | ⟨b0, off, cap, ev, hc, hm, hx⟩
      · rw [e] at hlt; simp at hlt
      cases ev
      obtain ⟨d1, d2⟩ := rd_at hx K2.out j hlt
      have RD := Lib.hid (fun w' (kk : Kp w1 w') => rd_at hx kk j hlt)
      clear hx hc hm
      obtain ⟨o1, o2, o3⟩ := OK.out _ (at_mem hlt)
      have NX := Lib.hid (gaps_next L j hlt f)
      obtain ⟨lo, hi', ee⟩ : ∃ x y, at_ L j = (x, y) := ⟨_, _, rfl⟩
      rw [ee] at d1 d2 o1 o2 o3 NX RD
      simp only at d1 d2 o1 o2 o3 NX RD
      clear ee
      have hsz := K2.out.size
      have z0 : (0 : Int) ≤ (j : Int) := by omega
      have z1 : (j : Int) < (L.length : Int) := by omega
      by_cases c : f < lo
      · have q1 : decide (f < lo) = true := decide_eq_true c
        have P2 := Lib.hid (show (out ++ [(f, lo - 1)]) ++ gaps (hi' + 1) (L.drop (j + 1)) = G by rw [List.append_assoc, ← P.out, NX.out, if_pos c])
        have KG := Lib.hid (fun ws w' (kk : Kp wr ws) (g : ws.grownBy w' u4.ownBlock) => (show ((w'.cell? ⟨b0, off + j * 2, none⟩ = some (.int .i64 lo) ∧ w'.cell? ⟨b0, off + j * 2 + 1, none⟩ = some (.int .i64 hi'))) ∧ Kp w1 w' from
          have k5 : Kp w1 w' := Kp.grown (K2.out.trans kk) g (fun j hj => (O.out.lt j hj).1)
          ⟨RD.out _ k5, k5⟩))
        clear NX P
        go_wp2_with (at_builtin; refine wpList_app rfl (.tmp 22) (.tmp 31) 22 rfl w1.heap.size 35 i0 (.agg #[.int .i64 0, .int .i64 0]) 2 16 Try.underlying22 hi hz0 hz1 hz2 rfl (by decide) _ _ _ rfl (O.out.alloc _) _ _ _ rfl (one_src _ _ _ _) rfl (by intro u hu; simp at hu; rcases hu with rfl | rfl <;> rfl) (by unfold maxLen; omega) (by omega) (by simp; omega) ?_; intro v4 w4 hown4 hgrow4 hat4; (obtain ⟨⟨g1, g2⟩, kg⟩ := KG.out _ _ (Kp.alloc _ _) hgrow4; clear d1 d2))
        have KK := Lib.hid kg
        have OO := Lib.hid (own_snoc hown4)
        clear kg hown4 hgrow4 hat4 KG
        go_wp2
        go_roundw
        case rel => exact ⟨j + 1, hi' + 1, out ++ [(f, lo - 1)], by omega, by go_num, rfl, by omega, by omega, by simp; omega, P2, OO, KK⟩
        case measure => simp [intOf]; omega
      · have q1 : decide (f < lo) = false := decide_eq_false c
        have P2 := Lib.hid (show out ++ gaps (hi' + 1) (L.drop (j + 1)) = G by rw [← P.out, NX.out, if_neg c]; rfl)
        clear NX P
        go_wp2
        go_roundw
        case rel => exact ⟨j + 1, hi' + 1, out, by omega, by go_num, rfl, by omega, by omega, by omega, P2, O, K2⟩
        case measure => simp [intOf]; omega
    · obtain rfl : j = L.length := by omega
      have q : decide ((L.length : Int) < L.length) = false := by simp
      have P2 := P.out
      rw [List.drop_length, gaps] at P2
      have hsz := K2.out.size
      by_cases c : f ≤ 1099511627776
      · have q1 : decide (f ≤ 1099511627776) = true := decide_eq_true c
        rw [if_pos c] at P2
        have P3 := Lib.hid P2
        clear P2 P
        have ge4 := Lib.hid (fun j (hj : u4.ownBlock = some j) => (O.out.lt j hj).1)
        go_wp2_with (at_builtin; refine wpList_app rfl (.tmp 41) (.tmp 44) 22 rfl w1.heap.size 35 i0 (.agg #[.int .i64 0, .int .i64 0]) 2 16 Try.underlying22 hi hz0 hz1 hz2 rfl (by decide) _ _ _ rfl (O.out.alloc _) _ _ _ rfl (one_src _ _ _ _) rfl (by intro u hu; simp at hu; rcases hu with rfl | rfl <;> rfl) (by unfold maxLen; omega) (by omega) (by simp; omega) ?_; intro v4 w4 hown4 hgrow4 hat4; skip)
        have KK := Lib.hid (Kp.grown (K2.out.trans (Kp.alloc _ _)) hgrow4 ge4.out)
        have OO := Lib.hid (own_snoc hown4)
        clear hown4 hgrow4 hat4
        go_wp2
        go_ret
        exact ⟨_, rfl, by rw [← P3.out]; exact runsAt_own OO.out, K1.out.trans KK.out⟩
      · have q1 : decide (f ≤ 1099511627776) = false := decide_eq_false c
        rw [if_neg c, List.append_nil] at P2
        subst P2
        clear P
        go_wp2
        go_ret
        exact ⟨_, rfl, runsAt_own O.out, K1.out.trans K2.out⟩
set_option maxHeartbeats 1000000 in
theorem rminus_any (v u : Value) (l m : List R) (w : World) (hv : RunsAt w v l) (hu : RunsAt w u m) (hl : I64R l) (hm : I64R m) (hn : l.length ≤ 1000) (hn2 : m.length ≤ 1000) :
    Calls Try.prog 43 #[v, u] w fun e w' => ∃ v' : Value, e = .returned v' ∧ RunsAt w' v' (diffR l m) ∧ Kp w w' := by
  have C := Lib.hid (rrest_any u m w hu hm (by omega))
  have rl : (restR m).length ≤ 2000 := by have h1 := gaps_len (nf m) (-1099511627776); have h2 := nf_len m; unfold restR; omega
  have D := Lib.hid (fun (w1 : World) (x : Value) (k : Kp w w1) (hx : RunsAt w1 x (restR m)) => rmeet_any v x l (restR m) w1 (hv.kp k) hx hl (sane_i64 (restR_ok m).1) (by omega) rl)
  have E : diffR l m = interR l (restR m) := rfl
  rw [E]
  generalize interR l (restR m) = RES at *
  generalize restR m = M at *
  clear hv hu hl hm E
  go_enter Try.func43, Try.ntmps43
  go_wp2_with fail
  refine (C.out).mono ?_
  rintro e w1 ⟨v1, rfl, R1, kk⟩
  have C2 := Lib.hid (D.out w1 v1 kk R1)
  have K := Lib.hid kk
  clear R1 kk C D
  go_wp2_with fail
  refine (C2.out).mono ?_
  rintro e w2 ⟨v2, rfl, R2, kk⟩
  have K2 := Lib.hid (K.out.trans kk)
  have RR := Lib.hid R2
  clear R2 kk C2
  go_wp2
  go_ret
  exact ⟨_, rfl, RR.out, K2.out⟩
set_option maxHeartbeats 1000000 in
theorem rclip_any (v : Value) (l : List R) (lo hi' : Int) (w : World) (hv : RunsAt w v l) (hl : I64R l) (hn : l.length ≤ 2000) (hi64 : I64R [(lo, hi')]) :
    Calls Try.prog 49 #[v, .int .i64 lo, .int .i64 hi'] w fun e w' => ∃ v' : Value, e = .returned v' ∧ RunsAt w' v' (interR l [(lo, hi')]) ∧ Kp w w' := by
  have C := Lib.hid (fun t => rmeet_any v (.slice (some ⟨w.heap.size, 0, none⟩) 1 1) l [(lo, hi')] (w.alloc (.cells #[.int .i64 lo, .int .i64 hi'] t)) (hv.kp (Kp.alloc _ _)) (lit_at w [(lo, hi')] _ _ rfl (by simp [maxLen])) hl hi64 hn (by simp))
  clear hv hl
  generalize interR l [(lo, hi')] = RES at *
  go_enter Try.func49, Try.ntmps49
  go_wp2_with fail
  refine (C.out _).mono ?_
  rintro e w1 ⟨v1, rfl, R1, kk⟩
  have RR := Lib.hid R1
  have K := Lib.hid kk
  clear R1 kk C
  go_wp2
  go_ret
  exact ⟨_, rfl, RR.out, (Kp.alloc _ _).trans K.out⟩
theorem rwide_any (v : Value) (l : List R) (w : World) (hv : RunsAt w v l) (hl : I64R l) (hn : l.length ≤ 1000000) :
    Calls Try.prog 51 #[v] w fun e w' => e = .returned (.bool (decide (400 < (nf l).length))) ∧ Kp w w' := by
  have C := Lib.hid (asR_any v l w hv hl hn w (Kp.refl w))
  clear hv hl
  generalize nf l = L at *
  have E : Hid (decide ((400 : Int) < (L.length : Int)) = decide (400 < L.length)) := by
    unfold Hid
    have : ((400 : Int) < (L.length : Int)) ↔ 400 < L.length := by omega
    simp only [this]
  go_enter Try.func51, Try.ntmps51
  go_wp2_with fail
  refine (C.out).mono ?_
  rintro e w1 ⟨v1, rfl, R1, kk⟩
  obtain ⟨ad, c, rfl⟩ := R1.slice
  have K := Lib.hid kk
  clear R1 kk C
  go_wp2
  go_ret
  exact ⟨ret_bool E.out, K.out⟩
set_option maxHeartbeats 4000000 in
set_option maxRecDepth 100000 in
theorem runion_any (v u : Value) (l m : List R) (w : World) (hv : RunsAt w v l) (hu : RunsAt w u m) (hl : I64R l) (hm : I64R m) (hn : l.length + m.length ≤ 1000000) :
    Calls Try.prog 39 #[v, u] w fun e w' => ∃ v' : Value, e = .returned v' ∧ RunsAt w' v' (nf (l ++ m)) ∧ Kp w w' := by
  obtain ⟨i0, hi, hz0, hz1, hz2⟩ := info_parts infoR
  obtain ⟨ad, c, rfl⟩ := hv.slice
  obtain ⟨ad2, c2, rfl⟩ := hu.slice
  have HV := Lib.hid hv
  have HU := Lib.hid hu
  have HI := Lib.hid (show I64R (l ++ m) from fun r hr => (List.mem_append.1 hr).elim (hl r) (hm r))
  clear hv hu hl hm
  go_enter Try.func39, Try.ntmps39
  have O0 := Lib.hid (World.ownsRow_made (base := w.heap.size) (e := 35) (size := 2) w #[] 0 (Nat.le_refl _) (by simp) rfl)
  go_wp2_with (first
    | (at_builtin; refine wpList_app rfl (.tmp 6) (.tmp 7) 22 rfl w.heap.size 35 i0 (.agg #[.int .i64 0, .int .i64 0]) 2 16 Try.underlying22 hi hz0 hz1 hz2 rfl (by decide) _ _ _ rfl O0.out _ _ _ rfl (HV.out.kp (Kp.alloc _ _)).src (cellsR_length _) (cells_one _) (by unfold maxLen; omega) (by omega) (by simp) ?_; intro v1 w1 hown1 hgrow1 hat1; have K1 := Lib.hid ((Kp.alloc w _).grown hgrow1 (fun j hj => (O0.out.lt j hj).1)); have O1 := Lib.hid (own_len (l := []) hown1))
    | (at_builtin; refine wpList_app rfl (.tmp 9) (.tmp 10) 22 rfl w.heap.size 35 i0 (.agg #[.int .i64 0, .int .i64 0]) 2 16 Try.underlying22 hi hz0 hz1 hz2 rfl (by decide) _ _ _ rfl O1.out _ _ _ rfl (HU.out.kp K1.out).src (cellsR_length _) (cells_one _) (by simp; unfold maxLen; omega) (by simp; omega) K1.out.size ?_; intro v2 w2 hown2 hgrow2 hat2; have K2 := Lib.hid (K1.out.grown hgrow2 (fun j hj => (O1.out.lt j hj).1)); have O2 := Lib.hid (own_len hown2))
    | (go_at_call 30; refine (rmake_any v2 (([] ++ l) ++ m) w2 (runsAt_own O2.out) (by rw [List.nil_append]; exact HI.out) (by simp; omega)).mono ?_; rintro e w3 ⟨v3, rfl, own3, k3⟩))
  go_ret
  rw [List.nil_append] at own3
  exact ⟨_, rfl, own3, K2.out.trans k3⟩
end Go.Proofs.Ytgaadakhkjfbnaa
