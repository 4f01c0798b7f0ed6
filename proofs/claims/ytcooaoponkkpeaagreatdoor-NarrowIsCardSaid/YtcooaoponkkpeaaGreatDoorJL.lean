import Derived.Test.YtcooaoponkkpeaaGreatDoorJK
import Derived.Test.YtcooaoponkkpeaaGreatDoorNwB
import Derived.Test.YtcooaoponkkpeaaGreatDoorGLeafA
set_option maxHeartbeats 16000000
set_option maxRecDepth 100000
namespace Go.Proofs.YtcooaoponkkpeaaGreatDoor
open Go.RowKit
set_option linter.unusedVariables false
set_option linter.unusedSimpArgs false
def yrsF (lo hi' : Int) : LF := ⟨false, 3, [(lo, hi')], []⟩
def spnF (a b : Int) : LF := ⟨true, 0, [(a, a)], [(b, b)]⟩
theorem leaf_oneN {w : World} {B : Nat} {s : Bool} {u : Int} {va vb : Value} {a b : List R} {T : TypeId} (h : w.heap[B]? = some (.cells #[.bool s, .int .i64 u, va, vb] T (0, 0))) (ha : RunsAt w va a) (hb : RunsAt w vb b) : LeavesAt w (.slice (some ⟨B, 0, none⟩) 1 1) [⟨s, u, a, b⟩] := by
 refine .inr ⟨B, 0, 1, rfl, Nat.le_refl _, by unfold maxLen; omega, fun i hi => ?_⟩
 obtain rfl : i = 0 := by simp at hi; omega
 obtain ⟨c0, c1, c2, c3⟩ := row4 h
 exact ⟨va, vb, c0, c1, c2, c3, ha, hb⟩
theorem years_any (lo hi' : Int) (w : World) : Calls Tryz.prog 33 #[.int .i64 lo, .int .i64 hi'] w fun e w' => ∃ b, e = .returned (.slice (some ⟨b, 0, none⟩) 1 1) ∧ LeavesAt w' (.slice (some ⟨b, 0, none⟩) 1 1) [yrsF lo hi'] ∧ Kp w w' := by
 obtain ⟨W0, hW⟩ : ∃ W0, W0 = (w.alloc (.cells #[.int .i64 lo, .int .i64 hi'] 42)).alloc (.cells #[.bool false, .int .i64 3, .slice (some ⟨w.heap.size, 0, none⟩) 1 1, .slice none 0 0] 44) := ⟨_, rfl⟩
 have k0 : Kp w W0 := by rw [hW]; exact (Kp.alloc _ _).trans (Kp.alloc _ _)
 have g : W0.heap[w.heap.size + 1]? = some (.cells #[.bool false, .int .i64 3, .slice (some ⟨w.heap.size, 0, none⟩) 1 1, .slice none 0 0] 44 (0, 0)) := by rw [hW]; exact heap_at _ _ _ (by simp)
 have r : RunsAt W0 (.slice (some ⟨w.heap.size, 0, none⟩) 1 1) [(lo, hi')] := by rw [hW]; exact (one_at w lo hi' _).kp (Kp.alloc _ _)
 have D := Hd (show LeavesAt W0 (.slice (some ⟨w.heap.size + 1, 0, none⟩) 1 1) [yrsF lo hi'] ∧ Kp w W0 from ⟨leaf_oneN g r (.inl ⟨_, _, rfl, rfl⟩), k0⟩)
 have HW := Hd hW
 clear hW k0 g r
 go_enter Tryz.func33, Tryz.ntmps33
 go_wp2
 rw [← HW.out]
 go_ret
 exact ⟨_, rfl, D.out.1, D.out.2⟩
theorem yr_i64 {lo hi' : Int} (h1 : -9223372036854775808 ≤ lo) (h2 : lo ≤ 9223372036854775807) (h3 : -9223372036854775808 ≤ hi') (h4 : hi' ≤ 9223372036854775807) : LsOk [yrsF lo hi'] := by
 intro f hf
 rw [List.mem_singleton.1 hf]
 exact ⟨i64_one h1 h2 h3 h4, fun r h => (by cases h), by simp [yrsF], by simp [yrsF]⟩
theorem sp_i64 {a b : Int} (h1 : -9223372036854775808 ≤ a) (h2 : a ≤ 9223372036854775807) (h3 : -9223372036854775808 ≤ b) (h4 : b ≤ 9223372036854775807) : LsOk [spnF a b] := by
 intro f hf
 rw [List.mem_singleton.1 hf]
 exact ⟨i64_one h1 h2 h1 h2, i64_one h3 h4 h3 h4, by simp [spnF], by simp [spnF]⟩
theorem sml_one {f : LF} (ha : f.a.length ≤ 40) (hb : f.b.length ≤ 40) : Sml [f] := ⟨fun g hg => by rw [List.mem_singleton.1 hg]; exact ⟨ha, hb⟩, by simp⟩
theorem nar_some {l m : List LF} {n : Int} {L : List LF} (h : NarP l m n L) (ok : (okEs l && okEs m) = true) (np : (l.flatMap fun f => pairsF (famR f)).length ≤ 400) {S T : Int} (q : leftP l m S T) : n = 0 ∧ (∀ g ∈ L, GLf g) ∧ ∀ S T, hasL L S T = true ↔ leftP l m S T := by
 rcases h with ⟨_, _, h | ⟨_, h⟩⟩ | ⟨_, _, _, h⟩ | ⟨h1, _, _, h2, h3, _⟩
 ·rw [ok] at h; cases h
 ·have := wide_pairs h; omega
 ·exact absurd q (h S T)
 ·exact ⟨h1, h2, h3⟩
theorem nar_none {l m : List LF} {n : Int} {L : List LF} (h : NarP l m n L) (ok : (okEs l && okEs m) = true) (q : ∀ S T, ¬ leftP l m S T) : n = 9 := by
 rcases h with ⟨_, _, h | ⟨_, h⟩⟩ | ⟨h, _⟩ | ⟨_, h0, _, h2, h3, _⟩
 ·rw [ok] at h; cases h
 ·obtain ⟨S, T, p⟩ := wideS_some h
  exact absurd p (q S T)
 ·exact h
 ·obtain ⟨S, T, p⟩ := good_some h2 h0
  exact absurd ((h3 S T).1 p) (q S T)
theorem yr_has {lo hi' S T : Int} (hl : leafB (yrsF lo hi') = true) : hasL [yrsF lo hi'] S T = true ↔ ∃ i, memR [(lo, hi')] i ∧ fst 3 i = S ∧ lst 3 i = T := by
 rw [hasL_iff]
 constructor
 ·rintro ⟨f, hf, g⟩
  rw [List.mem_singleton.1 hf] at g
  exact (hasF_un hl rfl S T).1 g
 ·intro h
  exact ⟨_, List.mem_singleton.2 rfl, (hasF_un hl rfl S T).2 h⟩
theorem yr_in {lo hi' S T : Int} (hl : leafB (yrsF lo hi') = true) : inL [yrsF lo hi'] S T ↔ S ≤ T ∧ ∃ i, memR [(lo, hi')] i ∧ fst 3 i ≤ S ∧ T ≤ lst 3 i := by
 unfold inL inF
 constructor
 ·rintro ⟨h, f, hf, x, y, g, a, b⟩
  rw [List.mem_singleton.1 hf] at g
  obtain ⟨i, m, rfl, rfl⟩ := (hasF_un hl rfl x y).1 g
  exact ⟨h, i, m, a, b⟩
 ·rintro ⟨h, i, m, a, b⟩
  exact ⟨h, _, List.mem_singleton.2 rfl, _, _, (hasF_un hl rfl _ _).2 ⟨i, m, rfl, rfl⟩, a, b⟩
theorem awA {n : Int} {L : List LF} (h : NarP [yrsF 1980 1989] [spnF 724276 725736] n L) : n = 0 ∧ LsOk L ∧ hasL L 724641 725006 = true ∧ hasL L 723911 724275 = false := by
 have p1 : leftP [yrsF 1980 1989] [spnF 724276 725736] 724641 725006 := ⟨(yr_has (by decide +kernel)).2 ⟨1984, (memR_one _ _ _).2 (by omega), by decide +kernel, by decide +kernel⟩, (inB_iff _ _ _).1 (by decide +kernel)⟩
 obtain ⟨h1, h2, h3⟩ := nar_some h (by decide +kernel) (by decide +kernel) p1
 refine ⟨h1, good_ok h2, (h3 _ _).2 p1, ?_⟩
 rcases Bool.eq_false_or_eq_true (hasL L 723911 724275) with q | q
 ·have := (inB_iff _ _ _).2 ((h3 _ _).1 q).2
  rw [show inB [spnF 724276 725736] 723911 724275 = false by decide +kernel] at this
  cases this
 ·exact q
theorem awB {n : Int} {L : List LF} (h : NarP [yrsF 1 1] [yrsF 2 2] n L) : n = 9 := by
 refine nar_none h (by decide +kernel) fun S T q => ?_
 obtain ⟨i, m1, rfl, rfl⟩ := (yr_has (by decide +kernel)).1 q.1
 obtain ⟨_, k, m2, a, b⟩ := (yr_in (by decide +kernel)).1 q.2
 rw [memR_one] at m1 m2
 obtain rfl : i = 1 := by omega
 obtain rfl : k = 2 := by omega
 have : fst 3 1 < fst 3 2 := by decide +kernel
 omega
theorem awC : inB [yrsF 1984 1984] 724641 724641 = true := (inB_iff _ _ _).2 ((yr_in (by decide +kernel)).2 ⟨Int.le_refl _, 1984, (memR_one _ _ _).2 (by omega), by decide +kernel, by decide +kernel⟩)
theorem nwHas_any (v : Value) (l : List LF) (S E : Int) (w : World) (hv : LeavesAt w v l) (hl : LsOk l) (T : Tabs w) (b1 : -9223372036854775808 ≤ S) (b2 : S ≤ 9223372036854775807) (b3 : -9223372036854775808 ≤ E) (b4 : E ≤ 9223372036854775807) :
  Calls Tryz.prog 20 #[v, .agg #[.int .i64 S, .int .i64 E]] w fun e w' => e = .returned (.bool (hasL l S E)) ∧ Kp w w' := by
 have hm := hv.len
 unfold maxLen at hm
 obtain ⟨ad, cp, rfl⟩ := hv.slice
 obtain ⟨W0, hW⟩ : ∃ x, x = w.alloc (.cells #[.int .i64 S, .int .i64 E] 31) := ⟨_, rfl⟩
 have k0 : Kp w W0 := by rw [hW]; exact Kp.alloc _ _
 have g0 : W0.heap[w.heap.size]? = some (.cells #[.int .i64 S, .int .i64 E] 31 (0, 0)) := by rw [hW]; exact heap_at _ _ _ rfl
 have HB := Hd (fun w' (kq : Kp W0 w') => row2 (heap_block kq g0))
 have HV := Hd (hv.kp k0)
 have HL := Hd hl
 have TT := Hd (T.kp k0)
 have NO := Hd (fun h => hasL_no (l := l) (S := S) (T := E) h)
 have YES := Hd (fun k (h : k < l.length) g => hasL_yes (l := l) (S := S) (T := E) h g)
 have K0 := Hd k0
 have HW := Hd hW
 clear hv hl T k0 g0 hW
 generalize hasL l S E = r at *
 go_enter Tryz.func20, Tryz.ntmps20
 go_wp2_with fail
 rw [← HW.out]
 go_loopw [9] (fun i wr => ∃ k : Nat, k ≤ l.length ∧ i = .int .i64 k ∧ Hid (∀ i, i < k → hasF (famR (lat l i)) S E = false) ∧ Hid (Kp W0 wr)) (fun i _ => l.length - (intOf i).toNat)
 case atStart => exact ⟨0, Nat.zero_le _, rfl, Hd (fun i h => by omega), Hd (Kp.refl _)⟩
 case round =>
  obtain ⟨k, hk, rfl, FA, J⟩ := hrel
  by_cases hlt : k < l.length
  ·have q1 : decide ((k : Int) < (l.length : Int)) = true := dT
   rcases HV.out.kp J.out with ⟨_, _, _, e⟩ | ⟨b0, off, cap, ev, hc, hmx, hx⟩
   ·rw [e] at hlt; simp at hlt
   cases ev
   obtain ⟨va, vb, d0, d1, d2, d3, ra, rb⟩ := hx k hlt
   have LOK := HL.out _ (lat_mem hlt)
   obtain ⟨f, hf⟩ : ∃ f, lat l k = f := ⟨_, rfl⟩
   rw [hf] at d0 d1 ra rb
   (try rw [hf] at LOK)
   obtain ⟨sp, u, a, b⟩ := f
   simp only at d0 d1 ra rb
   (try simp only at LOK)
   obtain ⟨aa, ca, rfl⟩ := ra.slice
   obtain ⟨ab, cb, rfl⟩ := rb.slice
   have HF := Hd hf
   have z1 : (k : Int) < (l.length : Int) := by omega
   have z2 : (0 : Int) ≤ (k : Int) := by omega
   clear hx hc hmx hf
   have C := Hd (fun w1 (kk : Kp wr w1) => leafHas_any ⟨sp, u, a, b⟩ _ _ S E w1 ⟨ra.kp kk, rb.kp kk, LOK.1, LOK.2.1, LOK.2.2.1, LOK.2.2.2⟩ (TT.out.kp (J.out.trans kk)) b1 b2 b3 b4)
   simp only [leafV] at C
   have N := Hd (fun (g : hasF (famR ⟨sp, u, a, b⟩) S E = true) => YES.out k hlt (show hasF (famR (lat l k)) S E = true by rw [HF.out]; exact g))
   have Y := Hd (fun (g : hasF (famR ⟨sp, u, a, b⟩) S E = false) => (by rw [HF.out]; exact g : hasF (famR (lat l k)) S E = false))
   generalize hasF (famR ⟨sp, u, a, b⟩) S E = eb at *
   obtain ⟨V, hV⟩ : ∃ x, x = wr.alloc (.cells #[.bool sp, .int .i64 u, .slice aa a.length ca, .slice ab b.length cb] 44) := ⟨_, rfl⟩
   have kv : Kp wr V := by rw [hV]; exact Kp.alloc _ _
   have gv : V.heap[wr.heap.size]? = some (.cells #[.bool sp, .int .i64 u, .slice aa a.length ca, .slice ab b.length cb] 44 (0, 0)) := by rw [hV]; exact heap_at _ _ _ rfl
   obtain ⟨e0, e1, e2, e3⟩ := row4 gv
   obtain ⟨s0, s1⟩ := HB.out V (J.out.trans kv)
   have KV := Hd kv
   have HVV := Hd hV
   clear ra rb YES hV kv gv
   go_upto_region 4 with fail
   rw [← HVV.out]
   clear HVV d0 d1 d2 d3
   cases eb with
   | true =>
    have hr := N.out (by first | rfl | trivial)
    subst hr
    go_wp2_with fail
    refine (C.out _ KV.out).mono ?_
    rintro e w1 ⟨rfl, kk⟩
    have J1 := Hd (K0.out.trans (J.out.trans (KV.out.trans kk)))
    clear kk e0 e1 e2 e3 s0 s1
    go_wp2
    go_ret
    exact ⟨rfl, J1.out⟩
   | false =>
    go_wp2_with fail
    refine (C.out _ KV.out).mono ?_
    rintro e w1 ⟨rfl, kk⟩
    have J1 := Hd (J.out.trans (KV.out.trans kk))
    clear kk e0 e1 e2 e3 s0 s1
    go_wp2
    go_roundw
    case rel => exact ⟨k + 1, by omega, by go_num, Hd (fun i hi => by
     by_cases c : i < k
     ·exact FA.out i c
     ·obtain rfl : i = k := by omega
      exact Y.out (by first | rfl | trivial)), J1⟩
    case measure => simp [intOf]; omega
  ·have q1 : decide ((k : Int) < (l.length : Int)) = false := dF
   obtain rfl : k = l.length := by omega
   have hr := NO.out FA.out
   subst hr
   go_wp2
   go_ret
   exact ⟨rfl, K0.out.trans J.out⟩
theorem few22_any (v : Value) (l : List LF) (w : World) (hv : LeavesAt w v l) (g : ∀ f ∈ l, LeafG f) :
  Calls Tryz.prog 14 #[v] w fun e w' => e = .returned (.bool (few22 l)) ∧ Kp w w' := by
 have hm := hv.len
 unfold maxLen at hm
 have C1 := Hd (fewL_any v l w hv)
 have C2 := Hd (fun (h : fewL l = true) w1 (k : Kp w w1) => units20_any v l w1 (hv.kp k) (fewL_ok h g).1 (by have := (fewL_ok h g).2; omega))
 have FE : few22 l = (fewL l && (decide (unitsN l ≤ 60) && decide ((l.length : Int) ≤ 6))) := by
  unfold few22
  congr 2
  exact decide_eq_decide.2 (by omega)
 obtain ⟨ad, cp, rfl⟩ := hv.slice
 rw [FE]
 clear hv g FE
 generalize fewL l = q at *
 cases q with
 | false =>
  go_enter Tryz.func14, Tryz.ntmps14
  go_wp2_with fail
  refine C1.out.mono ?_
  rintro e w1 ⟨rfl, k1⟩
  have K1 := Hd k1
  clear k1
  go_wp2
  go_ret
  exact ⟨rfl, K1.out⟩
 | true =>
  generalize unitsN l = n at *
  obtain ⟨q, hq⟩ : ∃ q : Bool, decide (n ≤ 60) = q := ⟨_, rfl⟩
  obtain ⟨p, hp⟩ : ∃ q : Bool, decide ((l.length : Int) ≤ 6) = q := ⟨_, rfl⟩
  have hp2 : decide (l.length ≤ 6) = p := by rw [← hp]; exact decide_eq_decide.2 (by omega)
  rw [hq, hp]
  cases q with
  | false =>
   go_enter Tryz.func14, Tryz.ntmps14
   go_wp2_with fail
   refine C1.out.mono ?_
   rintro e w1 ⟨rfl, k1⟩
   have K1 := Hd k1
   clear k1
   go_wp2_with fail
   refine (C2.out (by first | rfl | trivial) _ K1.out).mono ?_
   rintro e w2 ⟨rfl, k2⟩
   have K2 := Hd (K1.out.trans k2)
   clear k2
   go_wp2
   go_ret
   exact ⟨rfl, K2.out⟩
  | true =>
   go_enter Tryz.func14, Tryz.ntmps14
   go_wp2_with fail
   refine C1.out.mono ?_
   rintro e w1 ⟨rfl, k1⟩
   have K1 := Hd k1
   clear k1
   go_wp2_with fail
   refine (C2.out (by first | rfl | trivial) _ K1.out).mono ?_
   rintro e w2 ⟨rfl, k2⟩
   have K2 := Hd (K1.out.trans k2)
   clear k2
   go_wp2
   go_ret
   exact ⟨rfl, K2.out⟩
theorem awake22 (w : World) (T : Tabs w) : Calls Tryz.prog 13 #[] w fun e w' => e = .returned (.bool true) ∧ Kp w w' := by
 have CM := Hd (fun lo hi' w1 => years_any lo hi' w1)
 have N1 := Hd (fun va vb w1 (h1 : LeavesAt w1 va [yrsF 1980 1989]) (h2 : LeavesAt w1 vb [spnF 724276 725736]) (k : Kp w w1) => show Calls Tryz.prog 15 #[va, vb] w1 fun e w' => ∃ ad L c, e = .returned (.tuple #[.slice ad L.length c, .int .i64 0]) ∧ (LeavesAt w' (.slice ad L.length c) L ∧ LsOk L ∧ hasL L 724641 725006 = true ∧ hasL L 723911 724275 = false) ∧ Kp w1 w' from
  (nwNarrow_any va vb _ _ w1 h1 h2 (yr_i64 (by decide) (by decide) (by decide) (by decide)) (sp_i64 (by decide) (by decide) (by decide) (by decide)) (T.kp k) (by decide +kernel) (by decide +kernel) (nW_of (sml_one (by decide) (by decide)) (by decide +kernel) (by decide +kernel))).mono (by
   rintro e w' ⟨⟨v, L, n, rfl, lv, np⟩, k⟩
   obtain ⟨ad, c, rfl⟩ := lv.slice
   obtain ⟨rfl, a, b, d⟩ := awA np
   exact ⟨ad, L, c, rfl, ⟨lv, a, b, d⟩, k⟩))
 have N2 := Hd (fun va vb w1 (h1 : LeavesAt w1 va [yrsF 1 1]) (h2 : LeavesAt w1 vb [yrsF 2 2]) (k : Kp w w1) => show Calls Tryz.prog 15 #[va, vb] w1 fun e w' => ∃ ad n c, e = .returned (.tuple #[.slice ad n c, .int .i64 9]) ∧ Kp w1 w' from
  (nwNarrow_any va vb _ _ w1 h1 h2 (yr_i64 (by decide) (by decide) (by decide) (by decide)) (yr_i64 (by decide) (by decide) (by decide) (by decide)) (T.kp k) (by decide +kernel) (by decide +kernel) (nW_of (sml_one (by decide) (by decide)) (by decide +kernel) (by decide +kernel))).mono (by
   rintro e w' ⟨⟨v, L, n, rfl, lv, np⟩, k⟩
   obtain ⟨ad, c, rfl⟩ := lv.slice
   obtain rfl := awB np
   exact ⟨ad, _, c, rfl, k⟩))
 have HS := Hd (fun v L S E w1 (hv : LeavesAt w1 v L) (hl : LsOk L) (k : Kp w w1) b1 b2 b3 b4 => nwHas_any v L S E w1 hv hl (T.kp k) b1 b2 b3 b4)
 have IN := Hd (fun v w1 (hv : LeavesAt w1 v [yrsF 1984 1984]) (k : Kp w w1) => show Calls Tryz.prog 18 #[v, .agg #[.int .i64 724641, .int .i64 724641]] w1 fun e w' => e = .returned (.bool true) ∧ Kp w1 w' from by
  have h := nwInside_any v [yrsF 1984 1984] 724641 724641 w1 hv (yr_i64 (by decide) (by decide) (by decide) (by decide)) (T.kp k) (by decide) (by decide) (by decide) (by decide)
  rw [awC] at h
  exact h)
 have K0 := Hd (Kp.refl w)
 clear T
 go_enter Tryz.func13, Tryz.ntmps13
 go_wp2_with fail
 refine (CM.out 1980 1989 _).mono ?_
 rintro e w1 ⟨b1, rfl, lv, k1⟩
 have L1 := Hd lv
 have K1 := Hd (K0.out.trans ((show Kp w _ from kx).trans k1))
 clear lv k1
 obtain ⟨V, hV⟩ : ∃ x, x = ((w1.alloc (.cells #[.int .i64 724276, .int .i64 724276] 42)).alloc (.cells #[.int .i64 725736, .int .i64 725736] 42)).alloc (.cells #[.bool true, .int .i64 0, .slice (some ⟨w1.heap.size, 0, none⟩) 1 1, .slice (some ⟨w1.heap.size + 1, 0, none⟩) 1 1] 44) := ⟨_, rfl⟩
 have kv : Kp w1 V := by rw [hV]; exact ((Kp.alloc _ _).trans (Kp.alloc _ _)).trans (Kp.alloc _ _)
 have gv : V.heap[w1.heap.size + 2]? = some (.cells #[.bool true, .int .i64 0, .slice (some ⟨w1.heap.size, 0, none⟩) 1 1, .slice (some ⟨w1.heap.size + 1, 0, none⟩) 1 1] 44 (0, 0)) := by rw [hV]; exact heap_at _ _ _ (by simp)
 have r1 : RunsAt V (.slice (some ⟨w1.heap.size, 0, none⟩) 1 1) [(724276, 724276)] := by rw [hV]; exact (one_at w1 724276 724276 _).kp ((Kp.alloc _ _).trans (Kp.alloc _ _))
 have r2 : RunsAt V (.slice (some ⟨w1.heap.size + 1, 0, none⟩) 1 1) [(725736, 725736)] := by
  have h := one_at (w1.alloc (.cells #[.int .i64 724276, .int .i64 724276] 42)) 725736 725736 42
  rw [show (w1.alloc (.cells #[.int .i64 724276, .int .i64 724276] 42)).heap.size = w1.heap.size + 1 by simp] at h
  rw [hV]
  exact h.kp (Kp.alloc _ _)
 have LY := Hd (show LeavesAt V (.slice (some ⟨w1.heap.size + 2, 0, none⟩) 1 1) [spnF 724276 725736] from leaf_oneN gv r1 r2)
 have L1' := Hd (L1.out.kp kv)
 have KV := Hd (K1.out.trans kv)
 have HV := Hd hV
 clear hV kv gv r1 r2
 go_wp2_with fail
 rw [← HV.out]
 refine (N1.out _ _ _ L1'.out LY.out KV.out).mono ?_
 rintro e w2 ⟨ad, L, c, rfl, ⟨lv, ok, h1, h2⟩, k1⟩
 have K2 := Hd (KV.out.trans k1)
 have LL := Hd lv
 have H1 := Hd (fun w' (kk : Kp w2 w') => HS.out _ L 724641 725006 w' (lv.kp kk) ok ((KV.out.trans k1).trans kk) (by decide) (by decide) (by decide) (by decide))
 have H2 := Hd (fun w' (kk : Kp w2 w') => HS.out _ L 723911 724275 w' (lv.kp kk) ok ((KV.out.trans k1).trans kk) (by decide) (by decide) (by decide) (by decide))
 rw [h1] at H1
 rw [h2] at H2
 have Z2 := Hd (Kp.refl w2)
 clear lv ok h1 h2 k1
 go_wp2_with fail
 refine (CM.out 1 1 _).mono ?_
 rintro e w3 ⟨b3, rfl, lv, k1⟩
 have L3 := Hd lv
 have K3 := Hd (K2.out.trans ((show Kp w2 _ from kx).trans k1))
 have Z3 := Hd (Z2.out.trans ((show Kp w2 _ from kx).trans k1))
 clear lv k1
 go_wp2_with fail
 refine (CM.out 2 2 _).mono ?_
 rintro e w4 ⟨b4, rfl, lv, k1⟩
 have L4 := Hd lv
 have K4 := Hd (K3.out.trans ((show Kp w3 _ from kx).trans k1))
 replace L3 := Hd (L3.out.kp ((show Kp w3 _ from kx).trans k1))
 have Z4 := Hd (Z3.out.trans ((show Kp w3 _ from kx).trans k1))
 clear lv k1
 go_wp2_with fail
 refine (N2.out _ _ _ L3.out L4.out K4.out).mono ?_
 rintro e w5 ⟨ad2, n2, c2, rfl, k1⟩
 have K5 := Hd (K4.out.trans k1)
 have Z5 := Hd (Z4.out.trans k1)
 clear k1
 go_wp2_with fail
 refine (H1.out _ (Z5.out.trans kx)).mono ?_
 rintro e w6 ⟨rfl, k1⟩
 have K6 := Hd (K5.out.trans ((show Kp w5 _ from kx).trans k1))
 have Z6 := Hd (Z5.out.trans ((show Kp w5 _ from kx).trans k1))
 clear k1
 go_wp2_with fail
 refine (H2.out _ (Z6.out.trans kx)).mono ?_
 rintro e w7 ⟨rfl, k1⟩
 have K7 := Hd (K6.out.trans ((show Kp w6 _ from kx).trans k1))
 clear k1
 go_wp2_with fail
 refine (CM.out 1984 1984 _).mono ?_
 rintro e w8 ⟨b8, rfl, lv, k1⟩
 have L8 := Hd lv
 have K8 := Hd (K7.out.trans ((show Kp w7 _ from kx).trans k1))
 clear lv k1
 go_wp2_with fail
 refine (IN.out _ _ (L8.out.kp kx) (K8.out.trans kx)).mono ?_
 rintro e w9 ⟨rfl, k1⟩
 go_wp2
 go_ret
 exact ⟨rfl, K8.out.trans ((show Kp w8 _ from kx).trans k1)⟩
theorem nar_ok {l m : List LF} {n : Int} {L : List LF} (h : NarP l m n L) : LsOk L ∧ (n ≠ 0 → L = []) ∧ (∀ g ∈ L, GLf g) := by
 rcases h with ⟨rfl, rfl, _⟩ | ⟨rfl, rfl, _⟩ | ⟨rfl, _, _, h, _⟩
 ·exact ⟨fun f hf => (by cases hf), fun _ => rfl, fun f hf => (by cases hf)⟩
 ·exact ⟨fun f hf => (by cases hf), fun _ => rfl, fun f hf => (by cases hf)⟩
 ·exact ⟨good_ok h, fun q => absurd rfl q, h⟩
theorem boolN_iff {a : Bool} {P : Prop} (h : a = true ↔ P) {b : Bool} (g : b = true ↔ P) : a = b := by
 cases a <;> cases b <;> simp_all
theorem nwN_any (vl vm : Value) (l m : List LF) (w : World) (hv : LeavesAt w vl l) (hu : LeavesAt w vm m) (hl : LsOk l) (hm : LsOk m) (T : Tabs w) (sl : Sml l) (nI : (rawI m).length ≤ 120) (nD : (rawD m).length ≤ 480) :
  Calls Tryz.prog 15 #[vl, vm] w fun e w' => ∃ ad L c n, e = .returned (.tuple #[.slice ad L.length c, .int .i64 n]) ∧ (LeavesAt w' (.slice ad L.length c) L ∧ NarP l m n L) ∧ Kp w w' :=
 (nwNarrow_any vl vm l m w hv hu hl hm T (by omega) (by omega) (nW_of sl nI nD)).mono (by
  rintro e w' ⟨⟨v, L, n, rfl, lv, np⟩, k⟩
  obtain ⟨ad, c, rfl⟩ := lv.slice
  exact ⟨ad, L, c, n, rfl, ⟨lv, np⟩, k⟩)
end Go.Proofs.YtcooaoponkkpeaaGreatDoor
