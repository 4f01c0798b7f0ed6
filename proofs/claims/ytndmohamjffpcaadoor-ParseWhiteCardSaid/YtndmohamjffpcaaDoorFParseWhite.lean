/-
  Joined: L13W, LParseWhite.
-/
import Derived.Test.YtndmohamjffpcaaDoorGPsR
import Derived.Test.YtndmohamjffpcaaDoorGTrB
import Derived.Test.YtndmohamjffpcaaDoorGLex
import Derived.LoopTactic
import Derived.Test.YtndmohamjffpcaaDoorCards
import Derived.Test.YtndmohamjffpcaaDoorTie
import Derived.WalkKit
import Derived.ProofKit
import Derived.OpenShut
import Derived.ShutString
import Derived.ChangeOld
import Derived.Below
import Derived.Deep.DeepHandedRow
import Derived.Lib.LaidTab
namespace Go.Proofs.YtndmohamjffpcaaDoor
open Go.RowKit Go.Shelf
set_option linter.unusedVariables false
set_option linter.unusedSimpArgs false
theorem wh_step {l : List Tk} {i : Nat} (h : i < l.length) : bs (wh (l.take i)) ++ (⟨#[32]⟩ : ByteArray) ++ bs (txt (tk l i)) = bs (wh (l.take (i + 1))) := by
  rw [tk_take l i h, wh_append]
  have e : wh [tk l i] = [32] ++ txt (tk l i) := by simp [wh]
  rw [e, bs_append, bs_append, ← ByteArray.append_assoc]
  rfl
theorem wh_take_len (l : List Tk) (i : Nat) : (wh (l.take i)).length ≤ (wh l).length := by
  have := congrArg List.length (wh_append (l.take i) (l.drop i))
  rw [List.take_append_drop, List.length_append] at this
  omega
theorem out_cnt {s : ByteArray} {o : Out} (h : PR s o) : cntN (outN o) ≤ 1000 := by
  cases o with
  | ok n => have := (cn_right (pr_ok h).2.1).2; show cntN n ≤ 1000; omega
  | er a x => show cntN nd0 ≤ 1000; decide
set_option maxHeartbeats 16000000 in
set_option maxRecDepth 100000 in
theorem pwhi_long (s : ByteArray) (w : World) (hm : s.size ≤ maxLen) (T : TabSH w) (hs : 400 < s.size) :
    Calls Tryd.prog 5 #[.string s] w fun e w' => e = .returned (.bool true) ∧ Kp w w' := by
  have AW := Lib.hid (fun w1 (kk : Kp w w1) => show Calls Tryd.prog 8 #[] w1 fun e w' => e = .returned (.bool true) ∧ Kp w1 w' from awake13 w1 (T.kp kk))
  have z0 : decide ((s.size : Int) > 400) = true := decide_eq_true (by omega)
  clear hs
  have K00 := Lib.hid (Kp.refl w)
  clear T
  go_enter Tryd.func5, Tryd.ntmps5
  go_upto_region 1 with fail
  go_wp2_with fail
  refine (AW.out _ (K00.out.trans (by first | with_reducible exact (Kp.refl w) | ((repeat (first | with_reducible refine Kp.trans ?_ (Kp.drew _) | with_reducible refine Kp.trans ?_ (Kp.alloc _ _))); with_reducible exact (Kp.refl w))))).mono ?_
  rintro e w1 ⟨rfl, kk⟩
  have kz : Kp w w1 := Kp.trans (show Kp w _ from (by first | with_reducible exact (Kp.refl w) | ((repeat (first | with_reducible refine Kp.trans ?_ (Kp.drew _) | with_reducible refine Kp.trans ?_ (Kp.alloc _ _))); with_reducible exact (Kp.refl w)))) kk
  clear kk
  have Kw1 := Lib.hid (K00.out.trans kz)
  clear kz
  go_wp2
  go_ret
  exact ⟨rfl, Kw1.out⟩
set_option maxHeartbeats 16000000 in
set_option maxRecDepth 100000 in
theorem pwhi_er (s : ByteArray) (w : World) (hm : s.size ≤ maxLen) (T : TabSH w) (hs : s.size ≤ 400) (ts : List Tk) (q : Nat) (hx : Lx s.data.toList 0 ts (some q)) :
    Calls Tryd.prog 5 #[.string s] w fun e w' => e = .returned (.bool true) ∧ Kp w w' := by
  have AW := Lib.hid (fun w1 (kk : Kp w w1) => show Calls Tryd.prog 8 #[] w1 fun e w' => e = .returned (.bool true) ∧ Kp w1 w' from awake13 w1 (T.kp kk))
  have z0 : decide ((s.size : Int) > 400) = false := decide_eq_false (by omega)
  have P1 := Lib.hid (fun w1 (kk : Kp w w1) => show Calls Tryd.prog 12 #[.string s] w1 fun en w' => ∃ ad cp, en = .returned (.tuple #[.agg #[.int .i64 nd0.k, .int .i64 nd0.p.k, .string nd0.p.y, .string nd0.p.m, .string nd0.p.d, .bool nd0.a, .bool nd0.t, .slice ad nd0.l.length cp], .int .i64 (q : Nat), .int .i64 1]) ∧ Fnd w' w1.heap.size (fun _ => False) (.slice ad nd0.l.length cp) nd0.l ∧ Kp w1 w' from parse_any (show PR s (.er (q : Int) 1) from .inr (.inl ⟨by omega, ts, q, hx, rfl⟩)) w1 (by unfold maxLen; omega) (T.kp kk))
  have LA := Lib.hid (fun w1 => lallS s ts q w1 (by omega) hx)
  clear hx hs
  generalize nd0 = n at *
  have K00 := Lib.hid (Kp.refl w)
  clear T
  go_enter Tryd.func5, Tryd.ntmps5
  go_upto_region 1 with fail
  go_wp2_with fail
  refine (AW.out _ (K00.out.trans (by first | with_reducible exact (Kp.refl w) | ((repeat (first | with_reducible refine Kp.trans ?_ (Kp.drew _) | with_reducible refine Kp.trans ?_ (Kp.alloc _ _))); with_reducible exact (Kp.refl w))))).mono ?_
  rintro e w1 ⟨rfl, kk⟩
  have kz : Kp w w1 := Kp.trans (show Kp w _ from (by first | with_reducible exact (Kp.refl w) | ((repeat (first | with_reducible refine Kp.trans ?_ (Kp.drew _) | with_reducible refine Kp.trans ?_ (Kp.alloc _ _))); with_reducible exact (Kp.refl w)))) kk
  clear kk
  have Kw1 := Lib.hid (K00.out.trans kz)
  clear kz
  go_upto_region 4 with fail
  go_wp2_with fail
  refine (LA.out _).mono ?_
  rintro e w2 ⟨rfl, kk⟩
  have kz : Kp w1 w2 := Kp.trans (show Kp w1 _ from (by first | with_reducible exact (Kp.refl w1) | ((repeat (first | with_reducible refine Kp.trans ?_ (Kp.drew _) | with_reducible refine Kp.trans ?_ (Kp.alloc _ _))); with_reducible exact (Kp.refl w1)))) kk
  clear kk
  have Kw2 := Lib.hid (Kw1.out.trans kz)
  clear kz
  go_wp2_with fail
  refine (P1.out _ (Kw2.out.trans (by first | with_reducible exact (Kp.refl w2) | ((repeat (first | with_reducible refine Kp.trans ?_ (Kp.drew _) | with_reducible refine Kp.trans ?_ (Kp.alloc _ _))); with_reducible exact (Kp.refl w2))))).mono ?_
  rintro e w3 ⟨ad1, cp1, rfl, f1, kk⟩
  have kz : Kp w2 w3 := Kp.trans (show Kp w2 _ from (by first | with_reducible exact (Kp.refl w2) | ((repeat (first | with_reducible refine Kp.trans ?_ (Kp.drew _) | with_reducible refine Kp.trans ?_ (Kp.alloc _ _))); with_reducible exact (Kp.refl w2)))) kk
  clear kk
  have Kw3 := Lib.hid (Kw2.out.trans kz)
  clear kz
  obtain ⟨vw3, hV⟩ : ∃ x, x = w3.alloc (.cells #[.int .i64 n.k, .int .i64 n.p.k, .string n.p.y, .string n.p.m, .string n.p.d, .bool n.a, .bool n.t, .slice ad1 n.l.length cp1] 26) := ⟨_, rfl⟩
  have ka : Kp w3 vw3 := by rw [hV]; exact Kp.alloc _ _
  have Bx' := Lib.hid (show NB vw3 w3.heap.size n from NB.of (by rw [hV]; exact heap_at _ _ _ rfl) ((f1.nodes).kp ka))
  have Kvw3 := Lib.hid (Kw3.out.trans ka)
  have Bx := Bx'
  have HV := Lib.hid hV
  clear hV ka Bx'
  go_upto_region 7 with fail
  rw [← HV.out]
  clear HV
  clear f1
  go_wp2_with fail
  refine (LA.out _).mono ?_
  rintro e w4 ⟨rfl, kk⟩
  have kz : Kp vw3 w4 := Kp.trans (show Kp vw3 _ from (by first | with_reducible exact (Kp.refl vw3) | ((repeat (first | with_reducible refine Kp.trans ?_ (Kp.drew _) | with_reducible refine Kp.trans ?_ (Kp.alloc _ _))); with_reducible exact (Kp.refl vw3)))) kk
  clear kk
  have Kw4 := Lib.hid (Kvw3.out.trans kz)
  have Bx := Lib.hid (Bx.out.kp kz)
  clear kz
  go_wp2
  go_ret
  exact ⟨rfl, Kw4.out⟩
set_option maxHeartbeats 16000000 in
set_option maxRecDepth 100000 in
theorem pwhi_ok (s : ByteArray) (w : World) (hm : s.size ≤ maxLen) (T : TabSH w) (hs : s.size ≤ 400) (ts : List Tk) (hx : Lx s.data.toList 0 ts none) (o o' : Out) (pr : PR s o) (pr' : PR (bs (wh (ts ++ [endT s]))) o') :
    Calls Tryd.prog 5 #[.string s] w fun e w' => e = .returned (.bool true) ∧ Kp w w' := by
  have AW := Lib.hid (fun w1 (kk : Kp w w1) => show Calls Tryd.prog 8 #[] w1 fun e w' => e = .returned (.bool true) ∧ Kp w1 w' from awake13 w1 (T.kp kk))
  have z0 : decide ((s.size : Int) > 400) = false := decide_eq_false (by omega)
  obtain ⟨en, ee⟩ := pr_white hs hx pr pr'
  obtain ⟨wl1, wl2⟩ := white_len hs hx
  have c1 := out_cnt pr
  have hz : (bs (wh (ts ++ [endT s]))).size ≤ 2000 := by rw [bs_size]; omega
  have P1 := Lib.hid (fun w1 (kk : Kp w w1) => show Calls Tryd.prog 12 #[.string s] w1 fun en w' => ∃ ad cp, en = .returned (.tuple #[.agg #[.int .i64 (outN o).k, .int .i64 (outN o).p.k, .string (outN o).p.y, .string (outN o).p.m, .string (outN o).p.d, .bool (outN o).a, .bool (outN o).t, .slice ad (outN o).l.length cp], .int .i64 (outA s o), .int .i64 (outE o)]) ∧ Fnd w' w1.heap.size (fun _ => False) (.slice ad (outN o).l.length cp) (outN o).l ∧ Kp w1 w' from parse_any pr w1 (by unfold maxLen; omega) (T.kp kk))
  have P2' := Lib.hid (fun w1 (kk : Kp w w1) => show Calls Tryd.prog 12 #[.string (bs (wh (ts ++ [endT s])))] w1 fun en w' => ∃ ad cp, en = .returned (.tuple #[.agg #[.int .i64 (outN o').k, .int .i64 (outN o').p.k, .string (outN o').p.y, .string (outN o').p.m, .string (outN o').p.d, .bool (outN o').a, .bool (outN o').t, .slice ad (outN o').l.length cp], .int .i64 (outA (bs (wh (ts ++ [endT s]))) o'), .int .i64 (outE o')]) ∧ Fnd w' w1.heap.size (fun _ => False) (.slice ad (outN o').l.length cp) (outN o').l ∧ Kp w1 w' from parse_any pr' w1 (by unfold maxLen; omega) (T.kp kk))
  have P2 := P2'.out
  rw [en, ee] at P2
  have P2 := Lib.hid P2
  clear P2'
  have SM := Lib.hid (fun ad1 cp1 ad2 cp2 w1 (h : NodesAt w1 (.slice ad1 (outN o).l.length cp1) (outN o).l) (h2 : NodesAt w1 (.slice ad2 (outN o).l.length cp2) (outN o).l) (kk : Kp w w1) => show Calls Tryd.prog 13 #[.agg #[.int .i64 (outN o).k, .int .i64 (outN o).p.k, .string (outN o).p.y, .string (outN o).p.m, .string (outN o).p.d, .bool (outN o).a, .bool (outN o).t, .slice ad1 (outN o).l.length cp1], .agg #[.int .i64 (outN o).k, .int .i64 (outN o).p.k, .string (outN o).p.y, .string (outN o).p.m, .string (outN o).p.d, .bool (outN o).a, .bool (outN o).t, .slice ad2 (outN o).l.length cp2]] w1 fun e w' => e = .returned (.bool true) ∧ Kp w1 w' from same_refl _ ▸ tSame_any (outN o) (outN o) _ _ w1 h h2 (by omega))
  have LA := Lib.hid (fun w1 => lallN s ts w1 (by omega) hx)
  have SHO := Lib.hid (lx_show s hx (by rw [size_list]; omega))
  clear en ee pr pr' c1 hz
  generalize outN o = n at *
  generalize outA s o = a1 at *
  generalize outE o = x1 at *
  generalize outA (bs (wh (ts ++ [endT s]))) o' = a2 at *
  have TL : (ts ++ [endT s]).length = ts.length + 1 := by simp
  obtain ⟨TS, hTS⟩ : ∃ z, ts ++ [endT s] = z := ⟨_, rfl⟩
  rw [hTS] at P2 LA SHO TL wl1 wl2
  obtain ⟨N, eN⟩ : ∃ N, ts.length = N := ⟨_, rfl⟩
  rw [eN] at TL
  have WS := Lib.hid (fun i (h : i < TS.length) => wh_step h)
  have WL := Lib.hid (fun i => show (bs (wh (TS.take i))).size ≤ 1201 by rw [bs_size]; exact Nat.le_trans (wh_take_len TS i) wl1)
  have hN : N ≤ 400 := by omega
  have WE := Lib.hid (show TS.take (N + 1) = TS from List.take_of_length_le (by omega))
  have HTL := Lib.hid TL
  clear hx hs hTS eN TL wl1 wl2
  have K00 := Lib.hid (Kp.refl w)
  clear T
  go_enter Tryd.func5, Tryd.ntmps5
  go_upto_region 1 with fail
  go_wp2_with fail
  refine (AW.out _ (K00.out.trans (by first | with_reducible exact (Kp.refl w) | ((repeat (first | with_reducible refine Kp.trans ?_ (Kp.drew _) | with_reducible refine Kp.trans ?_ (Kp.alloc _ _))); with_reducible exact (Kp.refl w))))).mono ?_
  rintro e w1 ⟨rfl, kk⟩
  have kz : Kp w w1 := Kp.trans (show Kp w _ from (by first | with_reducible exact (Kp.refl w) | ((repeat (first | with_reducible refine Kp.trans ?_ (Kp.drew _) | with_reducible refine Kp.trans ?_ (Kp.alloc _ _))); with_reducible exact (Kp.refl w)))) kk
  clear kk
  have Kw1 := Lib.hid (K00.out.trans kz)
  clear kz
  go_upto_region 4 with fail
  go_wp2_with fail
  refine (LA.out _).mono ?_
  rintro e w2 ⟨v1, rfl, t1, kk⟩
  have kz : Kp w1 w2 := Kp.trans (show Kp w1 _ from (by first | with_reducible exact (Kp.refl w1) | ((repeat (first | with_reducible refine Kp.trans ?_ (Kp.drew _) | with_reducible refine Kp.trans ?_ (Kp.alloc _ _))); with_reducible exact (Kp.refl w1)))) kk
  clear kk
  have Kw2 := Lib.hid (Kw1.out.trans kz)
  have R0 := Lib.hid t1
  have ev := t1.slice
  rw [HTL.out] at ev
  obtain ⟨ad1, cc1, rfl⟩ := ev
  clear t1
  clear kz
  obtain ⟨b, off, cap, ev, hcap, hx⟩ : ∃ b off cap, Value.slice ad1 (N + 1) cc1 = .slice (some ⟨b, off, none⟩) (N + 1) cap ∧ (N + 1 ≤ cap ∧ cap ≤ maxLen) ∧ (∀ i, i < TS.length → w2.cell? ⟨b, off + i * 3, none⟩ = some (.int .i64 (tk TS i).1) ∧ w2.cell? ⟨b, off + i * 3 + 1, none⟩ = some (.int .i64 (tk TS i).2.1) ∧ w2.cell? ⟨b, off + i * 3 + 2, none⟩ = some (.string (bs (tk TS i).2.2))) := by
    rcases R0.out with ⟨_, _, _, e⟩ | ⟨b, off, cap, ev, h1, h2, hx⟩
    · have := HTL.out; rw [e] at this; simp at this
    · refine ⟨b, off, cap, ?_, ⟨by rw [← HTL.out]; exact h1, h2⟩, hx⟩
      rw [← HTL.out]; rw [← HTL.out] at ev; exact ev
  cases ev
  have HX := Lib.hid hx
  have b1 : (N : Int) + 1 ≤ 401 := by omega
  have b2 : (0 : Int) ≤ N := by omega
  clear hx R0
  go_wp2
  go_loopw [13, 14] (fun u13 u14 wr => ∃ (i : Nat) (x : ByteArray), i ≤ N + 1 ∧ u13 = .string x ∧ u14 = .int .i64 i ∧ Hid (x = bs (wh (TS.take i))) ∧ Hid (Kp w2 wr)) (fun _ u14 _ => N + 1 - (intOf u14).toNat)
  case atStart => exact ⟨0, _, Nat.zero_le _, rfl, rfl, Lib.hid rfl, Lib.hid (Kp.refl _)⟩
  case round =>
    obtain ⟨i, x, hi, rfl, rfl, EX, K3⟩ := hrel
    have xs : x.size ≤ 1201 := by rw [EX.out]; exact WL.out i
    by_cases hlt : i < N + 1
    · have hl : i < TS.length := by rw [HTL.out]; exact hlt
      have ws := WS.out i hl
      rw [← EX.out] at ws
      have T1 := Lib.hid (show ToksAt w2 (.slice (some ⟨b, off + i * 3, none⟩) 1 (cc1 - i)) [tk TS i] from by
        refine .inr ⟨b, off + i * 3, cc1 - i, rfl, by show 1 ≤ _; omega, by omega, fun j hj => ?_⟩
        obtain rfl : j = 0 := by simp at hj; omega
        exact HX.out i hl)
      have HT := Lib.hid (SHO.out.2.1 _ (tk_mem (l := TS) (i := i) hl))
      have HW := Lib.hid (SHO.out.2.2 _ (tk_mem (l := TS) (i := i) hl))
      have SHOW := Lib.hid (fun w' (kk : Kp w2 w') => (show Calls Tryd.prog 17 #[.slice (some ⟨b, off + i * 3, none⟩) 1 (cc1 - i)] w' fun e w'' => e = .returned (.string (bs (txt (tk TS i)))) ∧ Kp w' w'' from by
        have h := lshow_any _ _ w' (T1.out.kp kk) (by simp) (by intro t ht; rw [List.mem_singleton] at ht; subst ht; exact HT.out) (by intro t ht; rw [List.mem_singleton] at ht; subst ht; exact HW.out)
        rw [sh_txt] at h
        exact h))
      have tz := WL.out (i + 1)
      rw [← ws] at tz
      clear T1 HT HW hl
      generalize bs (txt (tk TS i)) = y at *
      have ys : x.size + 1 + y.size ≤ 1201 := by rw [ByteArray.size_append, ByteArray.size_append] at tz; exact tz
      have WSH := Lib.hid ws
      have z3 : (0 : Int) ≤ i := by omega
      have z4 : (i : Int) < (N : Int) + 1 := by omega
      have z5 : (i : Int) + 1 ≤ cc1 := by omega
      have z6 : (cc1 : Int) ≤ 9223372036854775807 := by have := hcap.2; unfold maxLen at this; omega
      have y1 : (9223372036854775807 < x.size + 1) = False := eq_false (by omega)
      have y2 : (9223372036854775807 < x.size + 1 + y.size) = False := eq_false (by omega)
      clear ws tz
      go_wp2_with fail
      refine (SHOW.out _ (K3.out.trans (by first | with_reducible exact Kp.refl _ | with_reducible exact Kp.alloc _ _ | with_reducible exact (Kp.alloc _ _).trans (Kp.alloc _ _) | with_reducible exact ((Kp.alloc _ _).trans (Kp.alloc _ _)).trans (Kp.alloc _ _) | with_reducible exact Kp.drew _ | with_reducible exact Kp.drewN _ _))).mono ?_
      rintro e w3 ⟨rfl, kk⟩
      have K4 := Lib.hid (K3.out.trans ((show Kp wr _ from (by first | with_reducible exact Kp.refl _ | with_reducible exact Kp.alloc _ _ | with_reducible exact (Kp.alloc _ _).trans (Kp.alloc _ _) | with_reducible exact ((Kp.alloc _ _).trans (Kp.alloc _ _)).trans (Kp.alloc _ _) | with_reducible exact Kp.drew _ | with_reducible exact Kp.drewN _ _)).trans kk))
      clear kk SHOW
      go_wp2
      go_roundw
      case rel => exact ⟨i + 1, _, by omega, rfl, by go_num, WSH, K4⟩
      case measure => simp [intOf]; omega
    · obtain rfl : i = N + 1 := by omega
      have ex := EX.out
      rw [WE.out] at ex
      subst ex
      generalize bs (wh TS) = x at *
      clear EX WE
      have Kwr := Lib.hid (Kw2.out.trans K3.out)
      go_upto_region 14 with fail
      go_wp2_with fail
      refine (P1.out _ (Kwr.out.trans (by first | with_reducible exact (Kp.refl wr) | ((repeat (first | with_reducible refine Kp.trans ?_ (Kp.drew _) | with_reducible refine Kp.trans ?_ (Kp.alloc _ _))); with_reducible exact (Kp.refl wr))))).mono ?_
      rintro e w5 ⟨ad1, cp1, rfl, f1, kk⟩
      have kz : Kp wr w5 := Kp.trans (show Kp wr _ from (by first | with_reducible exact (Kp.refl wr) | ((repeat (first | with_reducible refine Kp.trans ?_ (Kp.drew _) | with_reducible refine Kp.trans ?_ (Kp.alloc _ _))); with_reducible exact (Kp.refl wr)))) kk
      clear kk
      have Kw5 := Lib.hid (Kwr.out.trans kz)
      clear kz
      obtain ⟨vw5, hV⟩ : ∃ x, x = w5.alloc (.cells #[.int .i64 n.k, .int .i64 n.p.k, .string n.p.y, .string n.p.m, .string n.p.d, .bool n.a, .bool n.t, .slice ad1 n.l.length cp1] 26) := ⟨_, rfl⟩
      have ka : Kp w5 vw5 := by rw [hV]; exact Kp.alloc _ _
      have Bx' := Lib.hid (show NB vw5 w5.heap.size n from NB.of (by rw [hV]; exact heap_at _ _ _ rfl) ((f1.nodes).kp ka))
      have Kvw5 := Lib.hid (Kw5.out.trans ka)
      have Bx := Bx'
      have HV := Lib.hid hV
      clear hV ka Bx'
      go_upto_region 15 with fail
      rw [← HV.out]
      clear HV
      clear f1
      go_wp2_with fail
      refine (P2.out _ (Kvw5.out.trans (by first | with_reducible exact (Kp.refl vw5) | ((repeat (first | with_reducible refine Kp.trans ?_ (Kp.drew _) | with_reducible refine Kp.trans ?_ (Kp.alloc _ _))); with_reducible exact (Kp.refl vw5))))).mono ?_
      rintro e w6 ⟨ad2, cp2, rfl, f2, kk⟩
      have kz : Kp vw5 w6 := Kp.trans (show Kp vw5 _ from (by first | with_reducible exact (Kp.refl vw5) | ((repeat (first | with_reducible refine Kp.trans ?_ (Kp.drew _) | with_reducible refine Kp.trans ?_ (Kp.alloc _ _))); with_reducible exact (Kp.refl vw5)))) kk
      clear kk
      have Kw6 := Lib.hid (Kvw5.out.trans kz)
      have Bx := Lib.hid (Bx.out.kp kz)
      clear kz
      obtain ⟨vw6, hV⟩ : ∃ x, x = w6.alloc (.cells #[.int .i64 n.k, .int .i64 n.p.k, .string n.p.y, .string n.p.m, .string n.p.d, .bool n.a, .bool n.t, .slice ad2 n.l.length cp2] 26) := ⟨_, rfl⟩
      have ka : Kp w6 vw6 := by rw [hV]; exact Kp.alloc _ _
      have By' := Lib.hid (show NB vw6 w6.heap.size n from NB.of (by rw [hV]; exact heap_at _ _ _ rfl) ((f2.nodes).kp ka))
      have Kvw6 := Lib.hid (Kw6.out.trans ka)
      have Bx := Lib.hid (Bx.out.kp ka)
      have By := By'
      have HV := Lib.hid hV
      clear hV ka By'
      go_upto_region 16 with fail
      rw [← HV.out]
      clear HV
      clear f2
      obtain ⟨adx, cpx, gx, nx⟩ := Bx.out.opn
      have Nx := Lib.hid nx
      obtain ⟨cx0, cx1, cx2, cx3, cx4, cx5, cx6, cx7⟩ := row8 gx
      clear nx gx
      obtain ⟨ady, cpy, gy, ny⟩ := By.out.opn
      have Ny := Lib.hid ny
      obtain ⟨cy0, cy1, cy2, cy3, cy4, cy5, cy6, cy7⟩ := row8 gy
      clear ny gy
      go_wp2_with fail
      refine (SM.out _ _ _ _ _ Nx.out Ny.out (Kvw6.out.trans (by first | with_reducible exact (Kp.refl vw6) | ((repeat (first | with_reducible refine Kp.trans ?_ (Kp.drew _) | with_reducible refine Kp.trans ?_ (Kp.alloc _ _))); with_reducible exact (Kp.refl vw6))))).mono ?_
      rintro e w7 ⟨rfl, kk⟩
      have kz : Kp vw6 w7 := Kp.trans (show Kp vw6 _ from (by first | with_reducible exact (Kp.refl vw6) | ((repeat (first | with_reducible refine Kp.trans ?_ (Kp.drew _) | with_reducible refine Kp.trans ?_ (Kp.alloc _ _))); with_reducible exact (Kp.refl vw6)))) kk
      clear kk
      clear cx0 cx1 cx2 cx3 cx4 cx5 cx6 cx7 cy0 cy1 cy2 cy3 cy4 cy5 cy6 cy7
      have Kw7 := Lib.hid (Kvw6.out.trans kz)
      have Bx := Lib.hid (Bx.out.kp kz)
      have By := Lib.hid (By.out.kp kz)
      clear kz
      go_wp2
      go_ret
      exact ⟨rfl, Kw7.out⟩
theorem parseWhite_walk (s : ByteArray) (w : World) (hm : s.size ≤ maxLen) (T : TabSH w) :
    Calls Tryd.prog 5 #[.string s] w fun e w' => e = .returned (.bool true) ∧ Kp w w' := by
  by_cases hs : s.size ≤ 400
  · obtain ⟨ts, e, hx⟩ := lx_ex s.data.toList 0
    cases e with
    | some q => exact pwhi_er s w hm T hs ts q hx
    | none =>
      obtain ⟨o, pr⟩ := pr_ex s
      obtain ⟨o', pr'⟩ := pr_ex (bs (wh (ts ++ [endT s])))
      exact pwhi_ok s w hm T hs ts hx o o' pr pr'
  · exact pwhi_long s w hm T (by omega)
end Go.Proofs.YtndmohamjffpcaaDoor

namespace Go.Proofs.YtndmohamjffpcaaDoor.lawParseWhite
open Go.ChangeShapes Go.WideShapes Go.ChangeAt Go.RowKit
open Go.ChangeMaps (open_string shut_string)
set_option linter.unusedVariables false

theorem own : ownKnob Tryd.prog.godebug = none := by kernel_rfl
theorem laidOut : laidOutB Tryd.prog = true := by kernel_rfl

/-- A world for the witness: the settled one, each table holding what its initialiser lays. -/
noncomputable def laidWorld (os : Os) : World :=
  { World.holding Tryd.prog os ⟨#[], #[], []⟩ with heap := ((World.holding Tryd.prog os ⟨#[], #[], []⟩).heap.modify 0 fun
      | .cells _ t frozen => .cells #[.int .i64 4, .int .i64 2, .int .i64 2, .int .i64 12, .string ⟨#[]⟩, .int .i64 4, .int .i64 2, .int .i64 0, .int .i64 12, .string ⟨#[]⟩, .int .i64 4, .int .i64 1, .int .i64 0, .int .i64 4, .string ⟨#[]⟩, .int .i64 4, .int .i64 0, .int .i64 0, .int .i64 0, .string ⟨#[]⟩, .int .i64 3, .int .i64 0, .int .i64 0, .int .i64 0, .string ⟨#[100]⟩, .int .i64 2, .int .i64 0, .int .i64 0, .int .i64 0, .string ⟨#[99]⟩] t frozen
      | o => o) }
theorem laid_met (os : Os) : laidMet Tryd.prog Rows.parseWhiteRow.laid ((laidWorld os).forCall (fun _ _ => 0) ⟨#[], #[.string ByteArray.empty], []⟩).memory :=
  laidMet_of_run' 8 (by kernel_rfl) (by kernel_rfl)
theorem reads (os : Os) {H : Type} (enc : TypeId × Value → H) : ∃ places, DataW.whole enc Tryd.prog ((laidWorld os).forCall (fun _ _ => 0) ⟨#[], #[.string ByteArray.empty], []⟩).memory Tryd.f5.params.toList Rows.parseWhiteSpec.vars false (#[.string ByteArray.empty] : Array Value).toList 8 = some ([.lit (.string [])], [], places) :=
  ⟨[], by kernel_rfl⟩

set_option maxRecDepth 100000 in
theorem contract (H : Type) (enc : TypeId × Value → H) (W : World) (base : Nat) (args : Array Value) (ds gs : List (DataW H)) (before : List MemPlace)
    (hval : ∀ (j : Nat) t v, Tryd.f5.params[j]? = some t → args[j]? = some v → Value.okWide Tryd.prog W .any base t v)
    (hW : DataW.Whole enc Tryd.prog Tryd.f5.params.toList Rows.parseWhiteSpec.vars false W args.toList ds gs before) (hL : laidMetH Tryd.prog Rows.parseWhiteRow.laid W) :
    Calls Tryd.prog 5 args W fun e W' => ∃ v, e = .returned v ∧ Rows.parseWhiteSpec.post enc Tryd.prog Tryd.f5 false true false false W args v W' := by
  have hW' := hW
  have hltA : ∀ x ∈ before, x.block < W.heap.size := fun x hx => by simpa using hW'.lt x hx
  obtain ⟨p, q, hA0, hV, rfl, hfz, hnd⟩ := hW
  have hA : DataW.TrodAll enc Tryd.prog W 0 (fun _ => true) true Tryd.f5.params.toList args.toList ds p := hA0
  rw [Tryd.params5] at hA hval
  obtain ⟨v0, vs0, d0, ds0, p0, q0, hargs, rfl, rfl, h0, r0⟩ := trodAll_cons hA
  obtain ⟨rfl, rfl, rfl⟩ := trodAll_nil r0
  obtain rfl : args = #[v0] := by cases args; simp_all
  obtain ⟨rfl, rfl⟩ := trodVars_none hV
  have hk0 := h0
  obtain ⟨a0, rfl, rfl, rfl, w0⟩ := open_string Tryd.underlying9 (hval 0 9 v0 rfl rfl) h0
  clear hA0
  simp only [List.append_nil] at hW'
  refine (parseWhite_walk a0 W w0 (tabs_of1 hL)).mono fun e W' ⟨he, hg⟩ => ?_
  subst he
  have bel : Below W.heap.size W W' := hg
  exact ⟨_, rfl, _, _, _, [], _, [], hW', trodAll_mk1 (shut_bool Tryd.underlying4 _), (trodAll_cons_mk (shut_string Tryd.underlying9 w0) trodAll_mk0), rfl, bel.frame _, fun h => by cases h⟩

set_option maxRecDepth 100000 in
theorem lifted (os : Os) (started : os.Started) (H : Type) (enc : TypeId × Value → H) (F : Stop.Interp) :
    ReturnsInHanded {} Tryd.checked os 5 .any ((OpenSpec.ofChange Rows.parseWhiteSpec).preRow enc Tryd.prog Tryd.f5 Rows.parseWhiteRow.domain false Rows.parseWhiteRow.laid) (((OpenSpec.ofChange Rows.parseWhiteSpec).at F).post enc Tryd.prog Tryd.f5 false true false false) := by
  obtain ⟨places, hx⟩ := reads os enc
  refine returnsInHanded_of_row (C := Tryd.checked) (s := OpenSpec.ofChange Rows.parseWhiteSpec) own started (by kernel_rfl) Tryd.func5
    (witness_row_at (enc := enc) (C := Tryd.checked) false (laidWorld os) #[.string ByteArray.empty] rfl (by kernel_rfl) (by kernel_rfl) (by kernel_rfl)
      (OpenSpec.preRow_of_cond 8 hx (by kernel_rfl) (fun k hk => by cases hk) (by kernel_rfl) (laid_met os))) ?_
  intro W base args ds gs before hval hW _ hcond _ hL _ _
  exact contract H enc W base args ds gs before hval hW hL

theorem said : Rows.ParseWhiteSaid :=
  OpenClaim.holds_of_cond 5 Tryd.f5 rfl rfl rfl rfl rfl rfl rfl ⟨rfl, rfl, rfl, rfl, rfl⟩ rfl rfl rfl rfl rfl (by kernel_rfl) Tryd.func5 (by kernel_rfl)
    (of_decide_eq_true (by kernel_rfl)) (by unfold Func.isWrapper; first | (rw [if_pos (by decide +kernel)]; kernel_rfl) | (rw [if_neg (by decide +kernel)]; exact ⟨rfl, rfl⟩))
    (fun os started H enc _ F => by rw [OpenClaim.pre_eq_preRow]; exact lifted os started H enc F)

theorem plain (f : FuncId) (fn : Func) (hf : Tryd.pinned.checked.prog.funcNamed "lustrum/lustrumlaw13.ParseWhite" = some f) (hfn : Tryd.pinned.checked.prog.funcs[f]? = some fn) :
    true = Tryd.pinned.checked.prog.looks [] ∧ ∀ (j : Nat) t, fn.params[j]? = some t → Tryd.pinned.checked.prog.wantsStandIn t = false := by
  obtain rfl : f = 5 := Option.some.inj ((show Tryd.prog.funcNamed "lustrum/lustrumlaw13.ParseWhite" = some 5 by kernel_rfl).symm.trans hf) |>.symm
  obtain rfl : fn = Tryd.f5 := (Option.some.inj (Tryd.func5.symm.trans hfn)).symm
  refine ⟨by kernel_rfl, fun j t ht => ?_⟩
  rw [Tryd.params5] at ht
  have hm := Array.mem_of_getElem? ht
  have ho : t = 9 := by first | simpa using hm | (simp at hm; rcases hm with h <;> simp [h])
  subst ho
  exact (show Tryd.prog.wantsStandIn 9 = false by kernel_rfl)

/-- THE CARD. -/
theorem proved : Rows.ParseWhiteCardSaid :=
  Claim7.holds_tied_plain_at .later [] _ _ _ _ said (fun _ h => by cases h) (by kernel_rfl) (fun _ h => by cases h) parseWhite_row_tie rfl ⟨rfl, rfl⟩ (by kernel_rfl) rfl plain (by kernel_rfl)
#print axioms proved
end Go.Proofs.YtndmohamjffpcaaDoor.lawParseWhite
