import Derived.Test.YtjdnejglapnbbaaGreatDoorGOpen
import Derived.Test.YtjdnejglapnbbaaGreatDoorGLeafA
import Derived.Deep.RegionHeld3
import Derived.LoopTactic
import Derived.Shelf.Abstract
import Derived.Laws.EntriesVeiled
import Derived.Test.YtjdnejglapnbbaaGreatDoorGLeafB
import Derived.Test.YtjdnejglapnbbaaGreatDoorGBa
set_option maxHeartbeats 16000000
set_option maxRecDepth 100000
namespace Go.Proofs.YtjdnejglapnbbaaGreatDoor
open Go.RowKit
set_option linter.unusedVariables false
set_option linter.unusedSimpArgs false
theorem nxt_low {s : List R} (h : sane s) (h0 : 0 < s.length) : nxt s (-1099511627776) = (leastR s, true) := by
 have o := sane_ok h _ (at_mem h0)
 unfold okR at o
 rw [nxt_at s (-1099511627776) 0 (by omega) (fun k hk => by omega) (fun _ => by omega), if_neg (by omega)]
 unfold leastR
 rw [show max (-1099511627776) (at_ s 0).1 = (at_ s 0).1 by omega]
theorem prv_high {s : List R} (h : sane s) (h0 : 0 < s.length) : prv s 1099511627776 = (greatR s, true) := by
 have o := sane_ok h _ (at_mem (show s.length - 1 < s.length by omega))
 unfold okR at o
 rw [prv_at s 1099511627776 s.length (Nat.le_refl _) (fun k hk => by omega) (fun _ => by omega), if_neg (by omega)]
 unfold greatR
 rw [show min 1099511627776 (at_ s (s.length - 1)).2 = (at_ s (s.length - 1)).2 by omega]
theorem eleast_any (v : Value) (s : List R) (w : World) (hv : RunsAt w v s) (hs : sane s) (h0 : 0 < s.length) (hn : s.length ≤ 1000000) :
  Calls Tryz.prog 187 #[v] w fun e w' => e = .returned (.int .i64 (leastR s)) ∧ Kp w w' := by
 obtain ⟨ad, c, rfl⟩ := hv.slice
 have N := Lib.hid (next_of ad s.length c s (-1099511627776) w (asS_sane _ s w hv (sane_i64 hs) hs) hs (by omega) (by omega) (by omega))
 rw [nxt_low hs h0] at N
 clear hv
 generalize leastR s = x at *
 go_enter Tryz.func187, Tryz.ntmps187
 go_wp2_with fail
 refine (N.out).mono ?_
 rintro e w1 ⟨rfl, kk⟩
 have K1 := Lib.hid kk
 clear kk
 go_wp2
 go_ret
 exact ⟨rfl, K1.out⟩
theorem egreatest_any (v : Value) (s : List R) (w : World) (hv : RunsAt w v s) (hs : sane s) (h0 : 0 < s.length) (hn : s.length ≤ 1000000) :
  Calls Tryz.prog 185 #[v] w fun e w' => e = .returned (.int .i64 (greatR s)) ∧ Kp w w' := by
 obtain ⟨ad, c, rfl⟩ := hv.slice
 have N := Lib.hid (prev_of ad s.length c s 1099511627776 w (asS_sane _ s w hv (sane_i64 hs) hs) hs (by omega) (by omega) (by omega))
 rw [prv_high hs h0] at N
 clear hv
 generalize greatR s = x at *
 go_enter Tryz.func185, Tryz.ntmps185
 go_wp2_with fail
 refine (N.out).mono ?_
 rintro e w1 ⟨rfl, kk⟩
 have K1 := Lib.hid kk
 clear kk
 go_wp2
 go_ret
 exact ⟨rfl, K1.out⟩
def endL (f : LF) : List R := if f.sp = true then f.b else f.a
theorem ending_any (f : LF) (va vb : Value) (w : World) (h : LeafOk w f va vb) :
  Calls Tryz.prog 186 #[leafV f va vb] w fun e w' => ∃ v, e = .returned v ∧ RunsAt w' v (endL f) ∧ Kp w w' := by
 have HO := Lib.hid h
 obtain ⟨sp, u, a, b⟩ := f
 obtain ⟨ad, ca, rfl⟩ := h.a.slice
 obtain ⟨bd, cb, rfl⟩ := h.b.slice
 unfold leafV
 simp only
 clear h
 cases sp with
 | true =>
  rw [show endL ⟨true, u, a, b⟩ = b from rfl]
  go_enter Tryz.func186, Tryz.ntmps186
  go_wp2
  go_ret
  exact ⟨_, rfl, HO.out.b.kp (by first | with_reducible exact Kp.refl _ | with_reducible exact Kp.alloc _ _ | with_reducible exact (Kp.alloc _ _).trans (Kp.alloc _ _) | with_reducible exact ((Kp.alloc _ _).trans (Kp.alloc _ _)).trans (Kp.alloc _ _) | with_reducible exact Kp.drew _ | with_reducible exact Kp.drewN _ _), (by first | with_reducible exact Kp.refl _ | with_reducible exact Kp.alloc _ _ | with_reducible exact (Kp.alloc _ _).trans (Kp.alloc _ _) | with_reducible exact ((Kp.alloc _ _).trans (Kp.alloc _ _)).trans (Kp.alloc _ _) | with_reducible exact Kp.drew _ | with_reducible exact Kp.drewN _ _)⟩
 | false =>
  rw [show endL ⟨false, u, a, b⟩ = a from rfl]
  go_enter Tryz.func186, Tryz.ntmps186
  go_wp2
  go_ret
  exact ⟨_, rfl, HO.out.a.kp (by first | with_reducible exact Kp.refl _ | with_reducible exact Kp.alloc _ _ | with_reducible exact (Kp.alloc _ _).trans (Kp.alloc _ _) | with_reducible exact ((Kp.alloc _ _).trans (Kp.alloc _ _)).trans (Kp.alloc _ _) | with_reducible exact Kp.drew _ | with_reducible exact Kp.drewN _ _), (by first | with_reducible exact Kp.refl _ | with_reducible exact Kp.alloc _ _ | with_reducible exact (Kp.alloc _ _).trans (Kp.alloc _ _) | with_reducible exact ((Kp.alloc _ _).trans (Kp.alloc _ _)).trans (Kp.alloc _ _) | with_reducible exact Kp.drew _ | with_reducible exact Kp.drewN _ _)⟩
theorem leastStart_any (f : LF) (va vb : Value) (w : World) (h : LeafOk w f va vb) (hs : sane f.a) (h0 : 0 < f.a.length) (T : Tabs w) :
  Calls Tryz.prog 112 #[leafV f va vb] w fun e w' => e = .returned (.int .i64 (firV f.u (leastR f.a))) ∧ Kp w w' := by
 have HO := Lib.hid h
 have ln : f.a.length ≤ 1000 := by exact h.na
 skip
 obtain ⟨sp, u, a, b⟩ := f
 obtain ⟨ad, ca, rfl⟩ := h.a.slice
 obtain ⟨bd, cb, rfl⟩ := h.b.slice
 unfold leafV at *
 simp only at *
 skip
 have P := Lib.hid (fun w1 v (hv : RunsAt w1 v a) => eleast_any v a w1 hv hs h0 (by omega))
 generalize leastR a = x at *
 have F := Lib.hid (fun w1 (kk : Kp w w1) => firstC u x w1 (T.kp kk))
 generalize firV u x = y at *
 generalize okU u x = o at *
 clear h T hs h0
 obtain ⟨W1, hW⟩ : ∃ W1, W1 = w.alloc (.cells #[.bool sp, .int .i64 u, .slice ad a.length ca, .slice bd b.length cb] 47) := ⟨_, rfl⟩
 have K0 := Lib.hid (show Kp w W1 by rw [hW]; exact Kp.alloc _ _)
 have c0 : W1.cell? ⟨w.heap.size, 0, none⟩ = some (.bool sp) := by rw [hW]; simp
 have c1 : W1.cell? ⟨w.heap.size, 1, none⟩ = some (.int .i64 u) := by rw [hW]; simp
 have c2 : W1.cell? ⟨w.heap.size, 2, none⟩ = some (.slice ad a.length ca) := by rw [hW]; simp
 have c3 : W1.cell? ⟨w.heap.size, 3, none⟩ = some (.slice bd b.length cb) := by rw [hW]; simp
 have KS := Lib.hid (fun w' (k : Kp W1 w') => show w'.cell? ⟨w.heap.size, 0, none⟩ = some (.bool sp) ∧ w'.cell? ⟨w.heap.size, 1, none⟩ = some (.int .i64 u) ∧ w'.cell? ⟨w.heap.size, 2, none⟩ = some (.slice ad a.length ca) ∧ w'.cell? ⟨w.heap.size, 3, none⟩ = some (.slice bd b.length cb) ∧ Kp W1 w' from ⟨cell_up k c0, cell_up k c1, cell_up k c2, cell_up k c3, k⟩)
 have HW := Lib.hid hW
 clear hW
 go_enter Tryz.func112, Tryz.ntmps112
 go_wp2_with fail
 rw [← HW.out]
 go_region_held3 (fun w' => w'.cell? ⟨w.heap.size, 0, none⟩ = some (.bool sp) ∧ w'.cell? ⟨w.heap.size, 1, none⟩ = some (.int .i64 u) ∧ w'.cell? ⟨w.heap.size, 2, none⟩ = some (.slice ad a.length ca) ∧ w'.cell? ⟨w.heap.size, 3, none⟩ = some (.slice bd b.length cb) ∧ Kp W1 w') (first | exact KS.out _ (by first | assumption | exact Kp.drew _))
  (first | (go_at_call 187; refine (P.out _ _ (HO.out.a.kp (K0.out.trans (by first | assumption | exact Kp.drew _)))).mono ?_; rintro e w' ⟨rfl, k1⟩; have k3 := Kp.trans (show Kp W1 _ from (by first | assumption | exact Kp.drew _)) k1; clear k1) | (go_at_call 144; refine (F.out _ (K0.out.trans (by first | assumption | exact Kp.drew _))).mono ?_; rintro e w' ⟨rfl, k1⟩; have k4 := Kp.trans (show Kp W1 _ from (by first | assumption | exact Kp.drew _)) k1; clear k1))
 have K4 := Lib.hid (K0.out.trans k4)
 clear k4
 go_wp2
 go_ret
 exact ⟨rfl, K4.out⟩
theorem greatestStart_any (f : LF) (va vb : Value) (w : World) (h : LeafOk w f va vb) (hs : sane f.a) (h0 : 0 < f.a.length) (T : Tabs w) :
  Calls Tryz.prog 115 #[leafV f va vb] w fun e w' => e = .returned (.int .i64 (firV f.u (greatR f.a))) ∧ Kp w w' := by
 have HO := Lib.hid h
 have ln : f.a.length ≤ 1000 := by exact h.na
 skip
 obtain ⟨sp, u, a, b⟩ := f
 obtain ⟨ad, ca, rfl⟩ := h.a.slice
 obtain ⟨bd, cb, rfl⟩ := h.b.slice
 unfold leafV at *
 simp only at *
 skip
 have P := Lib.hid (fun w1 v (hv : RunsAt w1 v a) => egreatest_any v a w1 hv hs h0 (by omega))
 generalize greatR a = x at *
 have F := Lib.hid (fun w1 (kk : Kp w w1) => firstC u x w1 (T.kp kk))
 generalize firV u x = y at *
 generalize okU u x = o at *
 clear h T hs h0
 obtain ⟨W1, hW⟩ : ∃ W1, W1 = w.alloc (.cells #[.bool sp, .int .i64 u, .slice ad a.length ca, .slice bd b.length cb] 47) := ⟨_, rfl⟩
 have K0 := Lib.hid (show Kp w W1 by rw [hW]; exact Kp.alloc _ _)
 have c0 : W1.cell? ⟨w.heap.size, 0, none⟩ = some (.bool sp) := by rw [hW]; simp
 have c1 : W1.cell? ⟨w.heap.size, 1, none⟩ = some (.int .i64 u) := by rw [hW]; simp
 have c2 : W1.cell? ⟨w.heap.size, 2, none⟩ = some (.slice ad a.length ca) := by rw [hW]; simp
 have c3 : W1.cell? ⟨w.heap.size, 3, none⟩ = some (.slice bd b.length cb) := by rw [hW]; simp
 have KS := Lib.hid (fun w' (k : Kp W1 w') => show w'.cell? ⟨w.heap.size, 0, none⟩ = some (.bool sp) ∧ w'.cell? ⟨w.heap.size, 1, none⟩ = some (.int .i64 u) ∧ w'.cell? ⟨w.heap.size, 2, none⟩ = some (.slice ad a.length ca) ∧ w'.cell? ⟨w.heap.size, 3, none⟩ = some (.slice bd b.length cb) ∧ Kp W1 w' from ⟨cell_up k c0, cell_up k c1, cell_up k c2, cell_up k c3, k⟩)
 have HW := Lib.hid hW
 clear hW
 go_enter Tryz.func115, Tryz.ntmps115
 go_wp2_with fail
 rw [← HW.out]
 go_region_held3 (fun w' => w'.cell? ⟨w.heap.size, 0, none⟩ = some (.bool sp) ∧ w'.cell? ⟨w.heap.size, 1, none⟩ = some (.int .i64 u) ∧ w'.cell? ⟨w.heap.size, 2, none⟩ = some (.slice ad a.length ca) ∧ w'.cell? ⟨w.heap.size, 3, none⟩ = some (.slice bd b.length cb) ∧ Kp W1 w') (first | exact KS.out _ (by first | assumption | exact Kp.drew _))
  (first | (go_at_call 185; refine (P.out _ _ (HO.out.a.kp (K0.out.trans (by first | assumption | exact Kp.drew _)))).mono ?_; rintro e w' ⟨rfl, k1⟩; have k3 := Kp.trans (show Kp W1 _ from (by first | assumption | exact Kp.drew _)) k1; clear k1) | (go_at_call 144; refine (F.out _ (K0.out.trans (by first | assumption | exact Kp.drew _))).mono ?_; rintro e w' ⟨rfl, k1⟩; have k4 := Kp.trans (show Kp W1 _ from (by first | assumption | exact Kp.drew _)) k1; clear k1))
 have K4 := Lib.hid (K0.out.trans k4)
 clear k4
 go_wp2
 go_ret
 exact ⟨rfl, K4.out⟩
theorem leastEnd_any (f : LF) (va vb : Value) (w : World) (h : LeafOk w f va vb) (hs : sane (endL f)) (h0 : 0 < (endL f).length) (T : Tabs w) :
  Calls Tryz.prog 114 #[leafV f va vb] w fun e w' => e = .returned (.int .i64 (lasV f.u (leastR (endL f)))) ∧ Kp w w' := by
 have HO := Lib.hid h
 have ln : (endL f).length ≤ 1000 := by unfold endL; split; exact h.nb; exact h.na
 have E := Lib.hid (fun w1 (kk : Kp w w1) => ending_any f va vb w1 (h.kp kk))
 obtain ⟨sp, u, a, b⟩ := f
 obtain ⟨ad, ca, rfl⟩ := h.a.slice
 obtain ⟨bd, cb, rfl⟩ := h.b.slice
 unfold leafV at *
 simp only at *
 generalize endL ⟨sp, u, a, b⟩ = L at *
 have P := Lib.hid (fun w1 v (hv : RunsAt w1 v L) => eleast_any v L w1 hv hs h0 (by omega))
 generalize leastR L = x at *
 have F := Lib.hid (fun w1 (kk : Kp w w1) => lastC u x w1 (T.kp kk))
 generalize lasV u x = y at *
 generalize okU u x = o at *
 clear h T hs h0
 obtain ⟨W1, hW⟩ : ∃ W1, W1 = w.alloc (.cells #[.bool sp, .int .i64 u, .slice ad a.length ca, .slice bd b.length cb] 47) := ⟨_, rfl⟩
 have K0 := Lib.hid (show Kp w W1 by rw [hW]; exact Kp.alloc _ _)
 have c0 : W1.cell? ⟨w.heap.size, 0, none⟩ = some (.bool sp) := by rw [hW]; simp
 have c1 : W1.cell? ⟨w.heap.size, 1, none⟩ = some (.int .i64 u) := by rw [hW]; simp
 have c2 : W1.cell? ⟨w.heap.size, 2, none⟩ = some (.slice ad a.length ca) := by rw [hW]; simp
 have c3 : W1.cell? ⟨w.heap.size, 3, none⟩ = some (.slice bd b.length cb) := by rw [hW]; simp
 have KS := Lib.hid (fun w' (k : Kp W1 w') => show w'.cell? ⟨w.heap.size, 0, none⟩ = some (.bool sp) ∧ w'.cell? ⟨w.heap.size, 1, none⟩ = some (.int .i64 u) ∧ w'.cell? ⟨w.heap.size, 2, none⟩ = some (.slice ad a.length ca) ∧ w'.cell? ⟨w.heap.size, 3, none⟩ = some (.slice bd b.length cb) ∧ Kp W1 w' from ⟨cell_up k c0, cell_up k c1, cell_up k c2, cell_up k c3, k⟩)
 have HW := Lib.hid hW
 clear hW
 go_enter Tryz.func114, Tryz.ntmps114
 go_wp2_with fail
 rw [← HW.out]
 go_region_held3 (fun w' => w'.cell? ⟨w.heap.size, 0, none⟩ = some (.bool sp) ∧ w'.cell? ⟨w.heap.size, 1, none⟩ = some (.int .i64 u) ∧ w'.cell? ⟨w.heap.size, 2, none⟩ = some (.slice ad a.length ca) ∧ w'.cell? ⟨w.heap.size, 3, none⟩ = some (.slice bd b.length cb) ∧ Kp W1 w') (first | exact KS.out _ (by first | assumption | exact Kp.drew _))
  (first | (go_at_call 186; refine (E.out _ (K0.out.trans (by first | assumption | exact Kp.drew _))).mono ?_; rintro e w' ⟨v1, rfl, R1, k1⟩; obtain ⟨ad1, c1, rfl⟩ := R1.slice; have RR := Lib.hid R1; have k2 := Kp.trans (show Kp W1 _ from (by first | assumption | exact Kp.drew _)) k1; clear k1 R1) | (go_at_call 187; refine (P.out _ _ RR.out).mono ?_; rintro e w' ⟨rfl, k1⟩; have k3 := Kp.trans (show Kp W1 _ from (by first | assumption | exact Kp.drew _)) k1; clear k1) | (go_at_call 145; refine (F.out _ (K0.out.trans (by first | assumption | exact Kp.drew _))).mono ?_; rintro e w' ⟨rfl, k1⟩; have k4 := Kp.trans (show Kp W1 _ from (by first | assumption | exact Kp.drew _)) k1; clear k1))
 have K4 := Lib.hid (K0.out.trans k4)
 clear k4
 go_wp2
 go_ret
 exact ⟨rfl, K4.out⟩
theorem greatestEnd_any (f : LF) (va vb : Value) (w : World) (h : LeafOk w f va vb) (hs : sane (endL f)) (h0 : 0 < (endL f).length) (T : Tabs w) :
  Calls Tryz.prog 109 #[leafV f va vb] w fun e w' => e = .returned (.int .i64 (lasV f.u (greatR (endL f)))) ∧ Kp w w' := by
 have HO := Lib.hid h
 have ln : (endL f).length ≤ 1000 := by unfold endL; split; exact h.nb; exact h.na
 have E := Lib.hid (fun w1 (kk : Kp w w1) => ending_any f va vb w1 (h.kp kk))
 obtain ⟨sp, u, a, b⟩ := f
 obtain ⟨ad, ca, rfl⟩ := h.a.slice
 obtain ⟨bd, cb, rfl⟩ := h.b.slice
 unfold leafV at *
 simp only at *
 generalize endL ⟨sp, u, a, b⟩ = L at *
 have P := Lib.hid (fun w1 v (hv : RunsAt w1 v L) => egreatest_any v L w1 hv hs h0 (by omega))
 generalize greatR L = x at *
 have F := Lib.hid (fun w1 (kk : Kp w w1) => lastC u x w1 (T.kp kk))
 generalize lasV u x = y at *
 generalize okU u x = o at *
 clear h T hs h0
 obtain ⟨W1, hW⟩ : ∃ W1, W1 = w.alloc (.cells #[.bool sp, .int .i64 u, .slice ad a.length ca, .slice bd b.length cb] 47) := ⟨_, rfl⟩
 have K0 := Lib.hid (show Kp w W1 by rw [hW]; exact Kp.alloc _ _)
 have c0 : W1.cell? ⟨w.heap.size, 0, none⟩ = some (.bool sp) := by rw [hW]; simp
 have c1 : W1.cell? ⟨w.heap.size, 1, none⟩ = some (.int .i64 u) := by rw [hW]; simp
 have c2 : W1.cell? ⟨w.heap.size, 2, none⟩ = some (.slice ad a.length ca) := by rw [hW]; simp
 have c3 : W1.cell? ⟨w.heap.size, 3, none⟩ = some (.slice bd b.length cb) := by rw [hW]; simp
 have KS := Lib.hid (fun w' (k : Kp W1 w') => show w'.cell? ⟨w.heap.size, 0, none⟩ = some (.bool sp) ∧ w'.cell? ⟨w.heap.size, 1, none⟩ = some (.int .i64 u) ∧ w'.cell? ⟨w.heap.size, 2, none⟩ = some (.slice ad a.length ca) ∧ w'.cell? ⟨w.heap.size, 3, none⟩ = some (.slice bd b.length cb) ∧ Kp W1 w' from ⟨cell_up k c0, cell_up k c1, cell_up k c2, cell_up k c3, k⟩)
 have HW := Lib.hid hW
 clear hW
 go_enter Tryz.func109, Tryz.ntmps109
 go_wp2_with fail
 rw [← HW.out]
 go_region_held3 (fun w' => w'.cell? ⟨w.heap.size, 0, none⟩ = some (.bool sp) ∧ w'.cell? ⟨w.heap.size, 1, none⟩ = some (.int .i64 u) ∧ w'.cell? ⟨w.heap.size, 2, none⟩ = some (.slice ad a.length ca) ∧ w'.cell? ⟨w.heap.size, 3, none⟩ = some (.slice bd b.length cb) ∧ Kp W1 w') (first | exact KS.out _ (by first | assumption | exact Kp.drew _))
  (first | (go_at_call 186; refine (E.out _ (K0.out.trans (by first | assumption | exact Kp.drew _))).mono ?_; rintro e w' ⟨v1, rfl, R1, k1⟩; obtain ⟨ad1, c1, rfl⟩ := R1.slice; have RR := Lib.hid R1; have k2 := Kp.trans (show Kp W1 _ from (by first | assumption | exact Kp.drew _)) k1; clear k1 R1) | (go_at_call 185; refine (P.out _ _ RR.out).mono ?_; rintro e w' ⟨rfl, k1⟩; have k3 := Kp.trans (show Kp W1 _ from (by first | assumption | exact Kp.drew _)) k1; clear k1) | (go_at_call 145; refine (F.out _ (K0.out.trans (by first | assumption | exact Kp.drew _))).mono ?_; rintro e w' ⟨rfl, k1⟩; have k4 := Kp.trans (show Kp W1 _ from (by first | assumption | exact Kp.drew _)) k1; clear k1))
 have K4 := Lib.hid (K0.out.trans k4)
 clear k4
 go_wp2
 go_ret
 exact ⟨rfl, K4.out⟩
def LsOk (l : List LF) : Prop := ∀ f ∈ l, I64R f.a ∧ I64R f.b ∧ f.a.length ≤ 1000 ∧ f.b.length ≤ 1000
def dLS : Fam → Int
 | .units k s => firV k (leastR s)
 | .span s e => leastR s
def dGS : Fam → Int
 | .units k s => firV k (greatR s)
 | .span s e => greatR s
def dLE : Fam → Int
 | .units k s => lasV k (leastR s)
 | .span s e => leastR e
def dGE : Fam → Int
 | .units k s => lasV k (greatR s)
 | .span s e => greatR e
theorem fir_day {n : Int} (h : 0 ≤ n ∧ n < cnt 0) : firV 0 n = n := by rw [firV_yes h.1 h.2, fst_zero]
theorem las_day {n : Int} (h : 0 ≤ n ∧ n < cnt 0) : lasV 0 n = n := by rw [lasV_yes h.1 h.2, lst_zero]
theorem lfOf_days {F : Fam} (h : FOK F) (h0 : emptyF F = false) : sane (lfOf F).a ∧ 0 < (lfOf F).a.length ∧ sane (endL (lfOf F)) ∧ 0 < (endL (lfOf F)).length ∧
  firV (lfOf F).u (leastR (lfOf F).a) = dLS F ∧ firV (lfOf F).u (greatR (lfOf F).a) = dGS F ∧ lasV (lfOf F).u (leastR (endL (lfOf F))) = dLE F ∧ lasV (lfOf F).u (greatR (endL (lfOf F))) = dGE F := by
 cases F with
 | units k s =>
  unfold emptyF at h0
  have h1 := of_decide_eq_false h0
  have e : lfOf (.units k s) = ⟨false, k, s, []⟩ := lfOf_u1 h1
  rw [e]
  exact ⟨setB_sane h, by simp only; omega, setB_sane h, by show 0 < s.length; omega, rfl, rfl, rfl, rfl⟩
 | span s t =>
  unfold emptyF at h0
  have h1 := of_decide_eq_false h0
  have e : lfOf (.span s t) = ⟨true, 0, s, t⟩ := lfOf_s1 h1
  have ss := setB_sane h.1
  have st := setB_sane h.2.1
  obtain ⟨m, hm, _⟩ := h.2.2.1 _ (least_mem ss (by omega))
  have t0 := mem_pos hm
  rw [e]
  exact ⟨ss, by simp only; omega, st, t0, fir_day (setB_mem h.1 (least_mem ss (by omega))), fir_day (setB_mem h.1 (great_mem ss (by omega))), las_day (setB_mem h.2.1 (least_mem st t0)), las_day (setB_mem h.2.1 (great_mem st t0))⟩
def envS (d : Fam → Int) (pk : Int → Int → Int) (st : Int × Int) (f : LF) : Int × Int :=
 if emptyF (famR f) = true then st else (if st.2 = 0 then pk st.1 (d (famR f)) else d (famR f), 0)
def envF (d : Fam → Int) (pk : Int → Int → Int) (l : List LF) : Int × Int := l.foldl (envS d pk) (0, 9)
theorem envF_next (d : Fam → Int) (pk : Int → Int → Int) (l : List LF) (k : Nat) (h : k < l.length) : envF d pk (l.take (k + 1)) = envS d pk (envF d pk (l.take k)) (lat l k) := by
 unfold envF
 rw [take_lat l k h, List.foldl_append]
 rfl
theorem envF_nine (d : Fam → Int) (pk : Int → Int → Int) (l : List LF) : (envF d pk l).2 = 0 ∨ (envF d pk l).2 = 9 := by
 have : ∀ (l : List LF) (st : Int × Int), (st.2 = 0 ∨ st.2 = 9) → (l.foldl (envS d pk) st).2 = 0 ∨ (l.foldl (envS d pk) st).2 = 9 := by
  intro l
  induction l with
  | nil => intro st h; exact h
  | cons f t ih =>
   intro st h
   rw [List.foldl_cons]
   refine ih _ ?_
   unfold envS
   split
   ·exact h
   ·exact .inl rfl
 exact this l (0, 9) (.inr rfl)
theorem lesser_any (a b : Int) (w : World) : Calls Tryz.prog 113 #[.int .i64 a, .int .i64 b] w fun e w' => e = .returned (.int .i64 (min a b)) ∧ w = w' := by
 go_enter Tryz.func113, Tryz.ntmps113
 go_wp2
 go_ret
 exact ⟨rfl, rfl⟩
theorem greater_any (a b : Int) (w : World) : Calls Tryz.prog 110 #[.int .i64 a, .int .i64 b] w fun e w' => e = .returned (.int .i64 (max a b)) ∧ w = w' := by
 go_enter Tryz.func110, Tryz.ntmps110
 go_wp2
 go_ret
 exact ⟨rfl, rfl⟩
theorem question_any (g1 g2 : FuncId) (d : Fam → Int) (pk : Int → Int → Int) (v : Value) (l : List LF) (w : World)
  (e1 : ∀ args w, (callFunc g1 args).run Tryz.prog w = .ok (.enter g1 args) w) (e2 : ∀ args w, (callFunc g2 args).run Tryz.prog w = .ok (.enter g2 args) w)
  (p1 : ∀ F va vb w, FOK F → emptyF F = false → LeafOk w (lfOf F) va vb → Tabs w → Calls Tryz.prog g1 #[leafV (lfOf F) va vb] w fun e w' => e = .returned (.int .i64 (d F)) ∧ Kp w w')
  (p2 : ∀ a b w, Calls Tryz.prog g2 #[.int .i64 a, .int .i64 b] w fun e w' => e = .returned (.int .i64 (pk a b)) ∧ w = w')
  (hv : LeavesAt w v l) (hl : LsOk l) (T : Tabs w) :
  Calls Tryz.prog 111 #[.agg #[.func (.func g1) #[] #[], .func (.func g2) #[] #[]], v] w fun e w' => e = .returned (.tuple #[.int .i64 (envF d pk l).1, .int .i64 (envF d pk l).2]) ∧ Kp w w' := by
 have hm := hv.len
 unfold maxLen at hm
 obtain ⟨ad, cp, rfl⟩ := hv.slice
 have HV := Lib.hid hv
 have TT := Lib.hid T
 have Z0 := Lib.hid (Kp.refl w)
 have P1 := Lib.hid p1
 have P2 := Lib.hid p2
 have HL := Lib.hid hl
 obtain ⟨W0, hW⟩ : ∃ W0, W0 = w.alloc (.cells #[.func (.func g1) #[] #[], .func (.func g2) #[] #[]] 140) := ⟨_, rfl⟩
 have k0 : Kp w W0 := by rw [hW]; exact Kp.alloc _ _
 have HB := Lib.hid (fun w1 (k : Kp W0 w1) => show w1.cell? ⟨w.heap.size, 0, none⟩ = some (.func (.func g1) #[] #[]) ∧ w1.cell? ⟨w.heap.size, 1, none⟩ = some (.func (.func g2) #[] #[]) from ⟨cell_up k (by rw [hW]; simp), cell_up k (by rw [hW]; simp)⟩)
 have K0 := Lib.hid k0
 have HW := Lib.hid hW
 have E0 := Lib.hid (show envF d pk (l.take 0) = (0, 9) from rfl)
 have E9 := Lib.hid (fun k => envF_nine d pk (l.take k))
 have EN := Lib.hid (fun k (h : k < l.length) => envF_next d pk l k h)
 have EL := Lib.hid (show envF d pk (l.take l.length) = envF d pk l by rw [List.take_length])
 generalize hE : (fun k => envF d pk (l.take k)) = E at *
 have E0' : E 0 = (0, 9) := by rw [← hE]; exact E0.out
 have E9' : ∀ k, (E k).2 = 0 ∨ (E k).2 = 9 := fun k => by rw [← hE]; exact E9.out k
 have EN' : ∀ k, k < l.length → E (k + 1) = envS d pk (E k) (lat l k) := fun k h => by rw [← hE]; exact EN.out k h
 have EL' : E l.length = envF d pk l := by rw [← hE]; exact EL.out
 have F0 := Lib.hid E0'
 have F9 := Lib.hid E9'
 have FN := Lib.hid EN'
 have FL := Lib.hid EL'
 clear E0 E9 EN EL E0' E9' EN' EL' hE T hv hW k0 p1 p2 hl
 go_enter Tryz.func111, Tryz.ntmps111
 go_wp2_with fail
 rw [← HW.out]
 have KW := Lib.hid (Kp.refl W0)
 go_loopw [6, 7, 13] (fun s e i wr => ∃ (k : Nat) (x y : Int), k ≤ l.length ∧ s = .int .i64 x ∧ e = .int .i64 y ∧ i = .int .i64 k ∧ Hid (E k = (x, y)) ∧ Hid (Kp W0 wr)) (fun _ _ i _ => l.length - (intOf i).toNat)
 case atStart => exact ⟨0, 0, 9, Nat.zero_le _, rfl, rfl, rfl, F0, KW⟩
 case round =>
  obtain ⟨k, told, en, hk, rfl, rfl, rfl, HE, J⟩ := hrel
  by_cases hlt : k < l.length
  ·rcases HV.out.kp (K0.out.trans J.out) with ⟨_, _, _, e⟩ | ⟨b0, off, cap, ev, hc, hm', hx⟩
   ·rw [e] at hlt; simp at hlt
   cases ev
   obtain ⟨va, vb, d0, d1, d2, d3, ra, rb⟩ := hx k hlt
   have LO := HL.out _ (lat_mem hlt)
   have NX := FN.out k hlt
   obtain ⟨f, hf⟩ : ∃ f, lat l k = f := ⟨_, rfl⟩
   rw [hf] at d0 d1 ra rb LO NX
   unfold envS at NX
   rw [HE.out] at NX
   simp only at NX
   have fk := famR_ok f
   have ok : LeafOk wr f va vb := ⟨ra, rb, LO.1, LO.2.1, LO.2.2.1, LO.2.2.2⟩
   have CE := Lib.hid (fun w1 (kk : Kp wr w1) => leafEmpty_any f va vb w1 (ok.kp kk) (TT.out.kp (K0.out.trans (J.out.trans kk))).2)
   have CT := Lib.hid (fun w1 (kk : Kp wr w1) => leafTidy_any f va vb w1 (ok.kp kk) (TT.out.kp (K0.out.trans (J.out.trans kk))))
   generalize famR f = F at *
   obtain ⟨sp, u, a, b⟩ := f
   simp only at d0 d1 ra rb
   obtain ⟨aa, ca, rfl⟩ := ra.slice
   obtain ⟨ab, cb, rfl⟩ := rb.slice
   simp only [leafV] at CE
   rw [show leafV ⟨sp, u, a, b⟩ (.slice aa a.length ca) (.slice ab b.length cb) = .agg #[.bool sp, .int .i64 u, .slice aa a.length ca, .slice ab b.length cb] from rfl] at CT
   have z1 : (k : Int) < (l.length : Int) := by omega
   have z2 : (0 : Int) ≤ (k : Int) := by omega
   obtain ⟨V, hV⟩ : ∃ x, x = wr.alloc (.cells #[.bool sp, .int .i64 u, .slice aa a.length ca, .slice ab b.length cb] 47) := ⟨_, rfl⟩
   have ka : Kp wr V := by rw [hV]; exact Kp.alloc _ _
   have hgq : V.heap[wr.heap.size]? = some (.cells #[.bool sp, .int .i64 u, .slice aa a.length ca, .slice ab b.length cb] 47 (0, 0)) := by rw [hV]; exact heap_at _ _ _ rfl
   have q0 : V.cell? ⟨wr.heap.size, 0, none⟩ = some (.bool sp) := by simp [World.cell?, hgq]
   have q1 : V.cell? ⟨wr.heap.size, 1, none⟩ = some (.int .i64 u) := by simp [World.cell?, hgq]
   have q2 : V.cell? ⟨wr.heap.size, 2, none⟩ = some (.slice aa a.length ca) := by simp [World.cell?, hgq]
   have q3 : V.cell? ⟨wr.heap.size, 3, none⟩ = some (.slice ab b.length cb) := by simp [World.cell?, hgq]
   have HB2 := Lib.hid (fun w1 (kk : Kp V w1) => show w1.cell? ⟨w.heap.size, 0, none⟩ = some (.func (.func g1) #[] #[]) ∧ w1.cell? ⟨w.heap.size, 1, none⟩ = some (.func (.func g2) #[] #[]) ∧ w1.cell? ⟨wr.heap.size, 0, none⟩ = some (.bool sp) ∧ w1.cell? ⟨wr.heap.size, 1, none⟩ = some (.int .i64 u) ∧ w1.cell? ⟨wr.heap.size, 2, none⟩ = some (.slice aa a.length ca) ∧ w1.cell? ⟨wr.heap.size, 3, none⟩ = some (.slice ab b.length cb) from ⟨(HB.out w1 (J.out.trans (ka.trans kk))).1, (HB.out w1 (J.out.trans (ka.trans kk))).2, cell_up kk q0, cell_up kk q1, cell_up kk q2, cell_up kk q3⟩)
   have KA := Lib.hid ka
   have HV2 := Lib.hid hV
   have FK := Lib.hid fk
   have N := Lib.hid NX
   clear hx hc hm' hf hgq q0 q1 q2 q3 ka hV fk NX ra rb LO ok
   have KV := Lib.hid (Kp.refl V)
   go_wp2_with fail
   rw [← HV2.out]
   obtain ⟨c0, c1, c2, c3, c4, c5⟩ := HB2.out V (Kp.refl _)
   go_wp2_with fail
   refine (CE.out _ (KA.out.trans (by first | with_reducible exact KV.out | with_reducible exact KV.out.trans (Kp.alloc _ _) | with_reducible exact (KV.out.trans (Kp.alloc _ _)).trans (Kp.alloc _ _) | with_reducible exact ((KV.out.trans (Kp.alloc _ _)).trans (Kp.alloc _ _)).trans (Kp.alloc _ _) | with_reducible exact KV.out.trans (Kp.drew _) | with_reducible exact KV.out.trans (Kp.drewN _ _)))).mono ?_
   rintro e w1 ⟨rfl, kk⟩
   have K1 := Lib.hid ((show Kp V _ from (by first | with_reducible exact KV.out | with_reducible exact KV.out.trans (Kp.alloc _ _) | with_reducible exact (KV.out.trans (Kp.alloc _ _)).trans (Kp.alloc _ _) | with_reducible exact ((KV.out.trans (Kp.alloc _ _)).trans (Kp.alloc _ _)).trans (Kp.alloc _ _) | with_reducible exact KV.out.trans (Kp.drew _) | with_reducible exact KV.out.trans (Kp.drewN _ _))).trans kk)
   have J1 := Lib.hid (J.out.trans (KA.out.trans K1.out))
   clear kk c0 c1 c2 c3 c4 c5 d0 d1 d2 d3
   obtain ⟨c0, c1, c2, c3, c4, c5⟩ := HB2.out w1 K1.out
   have h9 := F9.out k
   rw [HE.out] at h9
   simp only at h9
   cases hF : emptyF F with
   | true =>
    have N2 := N.out
    rw [if_pos hF] at N2
    have N3 := Lib.hid N2
    clear N2 hF h9 c0 c1 c2 c3 c4 c5
    go_wp2
    go_roundw
    case rel => exact ⟨k + 1, told, en, by omega, rfl, rfl, by go_num, N3, J1⟩
    case measure => simp [intOf]; omega
   | false =>
    have N2 := N.out
    rw [if_neg (by rw [hF]; exact Bool.false_ne_true)] at N2
    have hF2 := Lib.hid hF
    have N3 := Lib.hid N2
    clear N2 hF N
    have KS := Lib.hid (fun w' (kq : Kp w1 w') => show w'.cell? ⟨w.heap.size, 0, none⟩ = some (.func (.func g1) #[] #[]) ∧ w'.cell? ⟨w.heap.size, 1, none⟩ = some (.func (.func g2) #[] #[]) ∧ w'.cell? ⟨wr.heap.size, 0, none⟩ = some (.bool sp) ∧ w'.cell? ⟨wr.heap.size, 1, none⟩ = some (.int .i64 u) ∧ w'.cell? ⟨wr.heap.size, 2, none⟩ = some (.slice aa a.length ca) ∧ w'.cell? ⟨wr.heap.size, 3, none⟩ = some (.slice ab b.length cb) ∧ Kp w1 w' from ⟨(HB2.out w' (K1.out.trans kq)).1, (HB2.out w' (K1.out.trans kq)).2.1, (HB2.out w' (K1.out.trans kq)).2.2.1, (HB2.out w' (K1.out.trans kq)).2.2.2.1, (HB2.out w' (K1.out.trans kq)).2.2.2.2.1, (HB2.out w' (K1.out.trans kq)).2.2.2.2.2, kq⟩)
    go_wp2_with fail
    refine wp_region_held_drew (S := fun w' => w'.cell? ⟨w.heap.size, 0, none⟩ = some (.func (.func g1) #[] #[]) ∧ w'.cell? ⟨w.heap.size, 1, none⟩ = some (.func (.func g2) #[] #[]) ∧ w'.cell? ⟨wr.heap.size, 0, none⟩ = some (.bool sp) ∧ w'.cell? ⟨wr.heap.size, 1, none⟩ = some (.int .i64 u) ∧ w'.cell? ⟨wr.heap.size, 2, none⟩ = some (.slice aa a.length ca) ∧ w'.cell? ⟨wr.heap.size, 3, none⟩ = some (.slice ab b.length cb) ∧ Kp w1 w') (by kernel_rfl) ?_ (fun hHeld0 => ?_)
    ·(try dsimp only); exact KS.out _ (by first | assumption | exact Kp.drew _)
    refine tkv 0 ({ dst := some 19, op := Go.Op.fieldAddr 140 (Go.Operand.tmp 2) 0, type := 0, pos := "env.go:44", after := #[], guard := none }) ?_
    (try simp only [Act.put, List.setIfInBounds_toArray, List.set_cons_zero, List.set_cons_succ])
    refine tkv 1 ({ dst := some 20, op := Go.Op.load 138 (Go.Operand.tmp 19), type := 138, pos := "env.go:44", after := #[{ on := 0, ground := Go.Ground.data }], guard := none }) ?_
    (try simp only [Act.put, List.setIfInBounds_toArray, List.set_cons_zero, List.set_cons_succ])
    refine tkv 2 ({ dst := some 21, op := Go.Op.load 47 (Go.Operand.tmp 9), type := 47, pos := "env.go:44", after := #[], guard := none }) ?_
    (try simp only [Act.put, List.setIfInBounds_toArray, List.set_cons_zero, List.set_cons_succ])
    refine tkE 3 ({ dst := some 22, op := Go.Op.call { callee := Go.Callee.value (Go.Operand.func 70), args := #[Go.Operand.tmp 21], argTypes := #[47] }, type := 47, pos := "env.go:44", after := #[{ on := 2, ground := Go.Ground.data }], guard := none }) rfl (by kernel_rfl) (fun K hK => ?_)
    go_simp
    (refine (CT.out _ (KA.out.trans (K1.out.trans (by first | assumption | exact Kp.drew _)))).mono ?_; rintro e w' ⟨ta, tb, rfl, okt, k1⟩; have k2 := Kp.trans (show Kp w1 _ from (by first | assumption | exact Kp.drew _)) k1; clear k1)
    (try go_wp2_with fail)
    refine hK.out _ _ ?_ (fun hHeld1 => ?_)
    ·(try dsimp only); exact KS.out _ (by first | assumption | exact Kp.drew _)
    clear hK K hHeld0
    (try simp only [Act.put, List.setIfInBounds_toArray, List.set_cons_zero, List.set_cons_succ])
    refine tkE 4 ({ dst := some 23, op := Go.Op.call { callee := Go.Callee.value (Go.Operand.tmp 20), args := #[Go.Operand.tmp 22], argTypes := #[47] }, type := 3, pos := "env.go:44", after := #[{ on := 1, ground := Go.Ground.data }, { on := 3, ground := Go.Ground.data }, { on := 3, ground := Go.Ground.chain }], guard := none }) rfl (by kernel_rfl) (fun K hK => ?_)
    go_simp
    (go_at_fn g1; refine (P1.out F _ _ _ FK.out hF2.out okt (TT.out.kp (K0.out.trans (J1.out.trans k2)))).mono ?_; rintro e w' ⟨rfl, k1⟩; have k3 := Kp.trans k2 k1; clear k1)
    (try go_wp2_with fail)
    refine hK.out _ _ ?_ (fun hHeld2 => ?_)
    ·(try dsimp only); exact KS.out _ (by first | assumption | exact Kp.drew _)
    clear hK K hHeld1
    (try simp only [Act.put, List.setIfInBounds_toArray, List.set_cons_zero, List.set_cons_succ])
    refine tkv 5 ({ dst := some 10, op := Go.Op.assign (Go.Operand.tmp 23), type := 3, pos := "env.go:44", after := #[{ on := 4, ground := Go.Ground.data }, { on := 4, ground := Go.Ground.chain }, { on := 0, ground := Go.Ground.phase }, { on := 1, ground := Go.Ground.phase }, { on := 2, ground := Go.Ground.phase }, { on := 3, ground := Go.Ground.phase }, { on := 4, ground := Go.Ground.phase }], guard := none }) ?_
    (try simp only [Act.put, List.setIfInBounds_toArray, List.set_cons_zero, List.set_cons_succ])
    refine wpAnyH_done (by kernel_rfl) ?_ _
    obtain ⟨w2, hw2⟩ : ∃ x : World, x = w' := ⟨_, rfl⟩
    subst hw2
    have K3 := Lib.hid k3
    have J3 := Lib.hid (J1.out.trans k3)
    clear KS k2 k3 okt c0 c1 c2 c3 c4 c5
    obtain ⟨c0, c1, c2, c3, c4, c5⟩ := HB2.out w2 (K1.out.trans K3.out)
    rcases h9 with h9 | h9
    ·subst h9
     have N4 := Lib.hid (show E (k + 1) = (pk told (d F), 0) by have := N3.out; rwa [if_pos rfl] at this)
     clear N3
     go_wp2_with (go_at_fn g2; refine (P2.out _ _ _).mono ?_; rintro e w' ⟨rfl, rfl⟩)
     go_roundw
     case rel => exact ⟨k + 1, _, _, by omega, rfl, rfl, by go_num, N4, J3⟩
     case measure => simp [intOf]; omega
    ·subst h9
     have N4 := Lib.hid (show E (k + 1) = (d F, 0) by have := N3.out; rwa [if_neg (by decide)] at this)
     clear N3
     go_wp2
     go_roundw
     case rel => exact ⟨k + 1, _, _, by omega, rfl, rfl, by go_num, N4, J3⟩
     case measure => simp [intOf]; omega
  ·obtain rfl : k = l.length := by omega
   go_wp2
   have hE := FL.out
   rw [HE.out] at hE
   rw [← hE]
   exact bodyPost_ret (results_tmp2 rfl _ _ _) rfl ⟨rfl, K0.out.trans J.out⟩
theorem leastStart_fam (F : Fam) (va vb : Value) (w : World) (hF : FOK F) (h0 : emptyF F = false) (ok : LeafOk w (lfOf F) va vb) (T : Tabs w) :
  Calls Tryz.prog 112 #[leafV (lfOf F) va vb] w fun e w' => e = .returned (.int .i64 (dLS F)) ∧ Kp w w' := by
 have := leastStart_any (lfOf F) va vb w ok (lfOf_days hF h0).1 (lfOf_days hF h0).2.1 T
 rw [(lfOf_days hF h0).2.2.2.2.1] at this
 exact this
theorem envEarliest_any (v : Value) (l : List LF) (w : World) (hv : LeavesAt w v l) (hl : LsOk l) (T : Tabs w) :
  Calls Tryz.prog 57 #[v] w fun e w' => e = .returned (.tuple #[.int .i64 (envF dLS min l).1, .int .i64 (envF dLS min l).2]) ∧ Kp w w' := by
 have C := Lib.hid (question_any 112 113 dLS min v l w (enters_of Tryz.func112 (by kernel_rfl) rfl) (enters_of Tryz.func113 (by kernel_rfl) rfl) leastStart_fam lesser_any hv hl T)
 generalize envF dLS min l = r at *
 obtain ⟨x, y⟩ := r
 clear hv hl T
 go_enter Tryz.func57, Tryz.ntmps57
 go_wp2_with fail
 refine (C.out).mono ?_
 rintro e w' ⟨rfl, kk⟩
 go_wp2
 exact bodyPost_ret (results_tmp2 rfl _ _ _) rfl ⟨rfl, kk⟩
theorem greatestEnd_fam (F : Fam) (va vb : Value) (w : World) (hF : FOK F) (h0 : emptyF F = false) (ok : LeafOk w (lfOf F) va vb) (T : Tabs w) :
  Calls Tryz.prog 109 #[leafV (lfOf F) va vb] w fun e w' => e = .returned (.int .i64 (dGE F)) ∧ Kp w w' := by
 have := greatestEnd_any (lfOf F) va vb w ok (lfOf_days hF h0).2.2.1 (lfOf_days hF h0).2.2.2.1 T
 rw [(lfOf_days hF h0).2.2.2.2.2.2.2] at this
 exact this
theorem envLatest_any (v : Value) (l : List LF) (w : World) (hv : LeavesAt w v l) (hl : LsOk l) (T : Tabs w) :
  Calls Tryz.prog 56 #[v] w fun e w' => e = .returned (.tuple #[.int .i64 (envF dGE max l).1, .int .i64 (envF dGE max l).2]) ∧ Kp w w' := by
 have C := Lib.hid (question_any 109 110 dGE max v l w (enters_of Tryz.func109 (by kernel_rfl) rfl) (enters_of Tryz.func110 (by kernel_rfl) rfl) greatestEnd_fam greater_any hv hl T)
 generalize envF dGE max l = r at *
 obtain ⟨x, y⟩ := r
 clear hv hl T
 go_enter Tryz.func56, Tryz.ntmps56
 go_wp2_with fail
 refine (C.out).mono ?_
 rintro e w' ⟨rfl, kk⟩
 go_wp2
 exact bodyPost_ret (results_tmp2 rfl _ _ _) rfl ⟨rfl, kk⟩
theorem leastEnd_fam (F : Fam) (va vb : Value) (w : World) (hF : FOK F) (h0 : emptyF F = false) (ok : LeafOk w (lfOf F) va vb) (T : Tabs w) :
  Calls Tryz.prog 114 #[leafV (lfOf F) va vb] w fun e w' => e = .returned (.int .i64 (dLE F)) ∧ Kp w w' := by
 have := leastEnd_any (lfOf F) va vb w ok (lfOf_days hF h0).2.2.1 (lfOf_days hF h0).2.2.2.1 T
 rw [(lfOf_days hF h0).2.2.2.2.2.2.1] at this
 exact this
theorem envFirstEnd_any (v : Value) (l : List LF) (w : World) (hv : LeavesAt w v l) (hl : LsOk l) (T : Tabs w) :
  Calls Tryz.prog 58 #[v] w fun e w' => e = .returned (.tuple #[.int .i64 (envF dLE min l).1, .int .i64 (envF dLE min l).2]) ∧ Kp w w' := by
 have C := Lib.hid (question_any 114 113 dLE min v l w (enters_of Tryz.func114 (by kernel_rfl) rfl) (enters_of Tryz.func113 (by kernel_rfl) rfl) leastEnd_fam lesser_any hv hl T)
 generalize envF dLE min l = r at *
 obtain ⟨x, y⟩ := r
 clear hv hl T
 go_enter Tryz.func58, Tryz.ntmps58
 go_wp2_with fail
 refine (C.out).mono ?_
 rintro e w' ⟨rfl, kk⟩
 go_wp2
 exact bodyPost_ret (results_tmp2 rfl _ _ _) rfl ⟨rfl, kk⟩
theorem greatestStart_fam (F : Fam) (va vb : Value) (w : World) (hF : FOK F) (h0 : emptyF F = false) (ok : LeafOk w (lfOf F) va vb) (T : Tabs w) :
  Calls Tryz.prog 115 #[leafV (lfOf F) va vb] w fun e w' => e = .returned (.int .i64 (dGS F)) ∧ Kp w w' := by
 have := greatestStart_any (lfOf F) va vb w ok (lfOf_days hF h0).1 (lfOf_days hF h0).2.1 T
 rw [(lfOf_days hF h0).2.2.2.2.2.1] at this
 exact this
theorem envLastStart_any (v : Value) (l : List LF) (w : World) (hv : LeavesAt w v l) (hl : LsOk l) (T : Tabs w) :
  Calls Tryz.prog 59 #[v] w fun e w' => e = .returned (.tuple #[.int .i64 (envF dGS max l).1, .int .i64 (envF dGS max l).2]) ∧ Kp w w' := by
 have C := Lib.hid (question_any 115 110 dGS max v l w (enters_of Tryz.func115 (by kernel_rfl) rfl) (enters_of Tryz.func110 (by kernel_rfl) rfl) greatestStart_fam greater_any hv hl T)
 generalize envF dGS max l = r at *
 obtain ⟨x, y⟩ := r
 clear hv hl T
 go_enter Tryz.func59, Tryz.ntmps59
 go_wp2_with fail
 refine (C.out).mono ?_
 rintro e w' ⟨rfl, kk⟩
 go_wp2
 exact bodyPost_ret (results_tmp2 rfl _ _ _) rfl ⟨rfl, kk⟩
def fullB (f : LF) : Bool := !emptyF (famR f)
theorem envS_no (d : Fam → Int) (pk : Int → Int → Int) (st : Int × Int) (f : LF) (h : fullB f = false) : envS d pk st f = st := by
 unfold envS
 unfold fullB at h
 rw [if_pos (by simpa using h)]
theorem envS_yes (d : Fam → Int) (pk : Int → Int → Int) (st : Int × Int) (f : LF) (h : fullB f = true) : envS d pk st f = (if st.2 = 0 then pk st.1 (d (famR f)) else d (famR f), 0) := by
 unfold envS
 unfold fullB at h
 rw [if_neg (by simpa using h)]
theorem env_told (d : Fam → Int) (pk : Int → Int → Int) (le : Int → Int → Prop) (hr : ∀ a, le a a) (ht : ∀ a b c, le a b → le b c → le a c) (hp : ∀ a b, le (pk a b) a ∧ le (pk a b) b ∧ (pk a b = a ∨ pk a b = b)) :
  ∀ (l : List LF) (x : Int), ((l.foldl (envS d pk) (x, 0)).2 = 0) ∧ le (l.foldl (envS d pk) (x, 0)).1 x ∧ (∀ f ∈ l, fullB f = true → le (l.foldl (envS d pk) (x, 0)).1 (d (famR f))) ∧
   ((l.foldl (envS d pk) (x, 0)).1 = x ∨ ∃ f ∈ l, fullB f = true ∧ d (famR f) = (l.foldl (envS d pk) (x, 0)).1) := by
 intro l
 induction l with
 | nil => intro x; exact ⟨rfl, hr x, fun f h => by simp at h, .inl rfl⟩
 | cons f t ih =>
  intro x
  rw [List.foldl_cons]
  rcases Bool.eq_false_or_eq_true (fullB f) with hf | hf
  ·rw [envS_yes _ _ _ _ hf, if_pos rfl]
   obtain ⟨a1, a2, a3, a4⟩ := ih (pk x (d (famR f)))
   obtain ⟨p1, p2, p3⟩ := hp x (d (famR f))
   refine ⟨a1, ht _ _ _ a2 p1, fun g hg hgf => ?_, ?_⟩
   ·rcases List.mem_cons.1 hg with rfl | hg
    ·exact ht _ _ _ a2 p2
    ·exact a3 g hg hgf
   ·rcases a4 with a4 | ⟨g, hg, hgf, e⟩
    ·rw [a4]
     rcases p3 with p3 | p3
     ·exact .inl p3
     ·exact .inr ⟨f, List.mem_cons_self, hf, p3.symm⟩
    ·exact .inr ⟨g, List.mem_cons_of_mem _ hg, hgf, e⟩
  ·rw [envS_no _ _ _ _ hf]
   obtain ⟨a1, a2, a3, a4⟩ := ih x
   refine ⟨a1, a2, fun g hg hgf => ?_, ?_⟩
   ·rcases List.mem_cons.1 hg with rfl | hg
    ·rw [hf] at hgf; cases hgf
    ·exact a3 g hg hgf
   ·rcases a4 with a4 | ⟨g, hg, hgf, e⟩
    ·exact .inl a4
    ·exact .inr ⟨g, List.mem_cons_of_mem _ hg, hgf, e⟩
def anyB (l : List LF) : Bool := l.any fullB
theorem env_none (d : Fam → Int) (pk : Int → Int → Int) (l : List LF) (h : anyB l = false) (st : Int × Int) : l.foldl (envS d pk) st = st := by
 induction l generalizing st with
 | nil => rfl
 | cons f t ih =>
  unfold anyB at h
  rw [List.any_cons, Bool.or_eq_false_iff] at h
  rw [List.foldl_cons, envS_no _ _ _ _ h.1]
  exact ih h.2 st
theorem env_some (d : Fam → Int) (pk : Int → Int → Int) (le : Int → Int → Prop) (hr : ∀ a, le a a) (ht : ∀ a b c, le a b → le b c → le a c) (hp : ∀ a b, le (pk a b) a ∧ le (pk a b) b ∧ (pk a b = a ∨ pk a b = b)) :
  ∀ (l : List LF), anyB l = true → (envF d pk l).2 = 0 ∧ (∀ f ∈ l, fullB f = true → le (envF d pk l).1 (d (famR f))) ∧ ∃ f ∈ l, fullB f = true ∧ d (famR f) = (envF d pk l).1 := by
 intro l
 unfold envF
 induction l with
 | nil => intro h; cases h
 | cons f t ih =>
  intro h
  unfold anyB at h
  rw [List.any_cons, Bool.or_eq_true] at h
  rw [List.foldl_cons]
  rcases Bool.eq_false_or_eq_true (fullB f) with hf | hf
  ·rw [envS_yes _ _ _ _ hf, if_neg (by decide)]
   obtain ⟨a1, a2, a3, a4⟩ := env_told d pk le hr ht hp t (d (famR f))
   refine ⟨a1, fun g hg hgf => ?_, ?_⟩
   ·rcases List.mem_cons.1 hg with rfl | hg
    ·exact a2
    ·exact a3 g hg hgf
   ·rcases a4 with a4 | ⟨g, hg, hgf, e⟩
    ·exact ⟨f, List.mem_cons_self, hf, a4.symm⟩
    ·exact ⟨g, List.mem_cons_of_mem _ hg, hgf, e⟩
  ·rw [envS_no _ _ _ _ hf]
   obtain ⟨a1, a2, g, hg, hgf, e⟩ := ih (by rcases h with h | h; rw [hf] at h; cases h; exact h)
   refine ⟨a1, fun g hg hgf => ?_, g, List.mem_cons_of_mem _ hg, hgf, e⟩
   rcases List.mem_cons.1 hg with rfl | hg
   ·rw [hf] at hgf; cases hgf
   ·exact a2 g hg hgf
theorem env_min (d : Fam → Int) (l : List LF) (h : anyB l = true) : (envF d min l).2 = 0 ∧ (∀ f ∈ l, fullB f = true → (envF d min l).1 ≤ d (famR f)) ∧ ∃ f ∈ l, fullB f = true ∧ d (famR f) = (envF d min l).1 :=
 env_some d min (· ≤ ·) (fun a => Int.le_refl a) (fun a b c => Int.le_trans) (fun a b => ⟨Int.min_le_left a b, Int.min_le_right a b, by omega⟩) l h
theorem env_max (d : Fam → Int) (l : List LF) (h : anyB l = true) : (envF d max l).2 = 0 ∧ (∀ f ∈ l, fullB f = true → d (famR f) ≤ (envF d max l).1) ∧ ∃ f ∈ l, fullB f = true ∧ d (famR f) = (envF d max l).1 :=
 env_some d max (fun a b => b ≤ a) (fun a => Int.le_refl a) (fun a b c h g => Int.le_trans g h) (fun a b => ⟨Int.le_max_left a b, Int.le_max_right a b, by omega⟩) l h
theorem env_nil (d : Fam → Int) (pk : Int → Int → Int) (l : List LF) (h : anyB l = false) : envF d pk l = (0, 9) := env_none d pk l h (0, 9)
theorem days_bound {F : Fam} (h : FOK F) {S T : Int} (g : hasF F S T = true) : dLS F ≤ S ∧ S ≤ dGS F ∧ dLE F ≤ T ∧ T ≤ dGE F := by
 cases F with
 | units k s =>
  obtain ⟨i, hi, rfl, rfl⟩ := (hasF_units h S T).1 g
  have ss := setB_sane h
  have l1 := least_min ss hi
  have g1 := great_max ss hi
  have u0 := setB_mem h (least_mem ss (mem_pos hi))
  have u1 := setB_mem h (great_mem ss (mem_pos hi))
  have ui := setB_mem h hi
  unfold dLS dGS dLE dGE
  simp only
  rw [firV_yes u0.1 u0.2, firV_yes u1.1 u1.2, lasV_yes u0.1 u0.2, lasV_yes u1.1 u1.2]
  exact ⟨fst_mono u0.1 l1 ui.2, fst_mono ui.1 g1 u1.2, lst_mono u0.1 l1 ui.2, lst_mono ui.1 g1 u1.2⟩
 | span s e =>
  obtain ⟨h1, h2, h3⟩ := (hasF_span (setB_sane h.1) (setB_sane h.2.1) S T).1 g
  exact ⟨least_min (setB_sane h.1) h2, great_max (setB_sane h.1) h2, least_min (setB_sane h.2.1) h3, great_max (setB_sane h.2.1) h3⟩
theorem days_met {F : Fam} (h : FOK F) (h0 : emptyF F = false) : (∃ T, hasF F (dLS F) T = true) ∧ (∃ T, hasF F (dGS F) T = true) ∧ (∃ S, hasF F S (dLE F) = true) ∧ (∃ S, hasF F S (dGE F) = true) := by
 cases F with
 | units k s =>
  unfold emptyF at h0
  have p0 : 0 < s.length := by have := of_decide_eq_false h0; omega
  have ss := setB_sane h
  have m0 := least_mem ss p0
  have m1 := great_mem ss p0
  have u0 := setB_mem h m0
  have u1 := setB_mem h m1
  unfold dLS dGS dLE dGE
  simp only
  rw [firV_yes u0.1 u0.2, firV_yes u1.1 u1.2, lasV_yes u0.1 u0.2, lasV_yes u1.1 u1.2]
  exact ⟨⟨_, (hasF_units h _ _).2 ⟨_, m0, rfl, rfl⟩⟩, ⟨_, (hasF_units h _ _).2 ⟨_, m1, rfl, rfl⟩⟩, ⟨_, (hasF_units h _ _).2 ⟨_, m0, rfl, rfl⟩⟩, ⟨_, (hasF_units h _ _).2 ⟨_, m1, rfl, rfl⟩⟩⟩
 | span s e =>
  unfold emptyF at h0
  have p0 : 0 < s.length := by have := of_decide_eq_false h0; omega
  have ss := setB_sane h.1
  have se := setB_sane h.2.1
  have m0 := least_mem ss p0
  have m1 := great_mem ss p0
  obtain ⟨t0, a1, a2⟩ := h.2.2.1 _ m0
  obtain ⟨t1, b1, b2⟩ := h.2.2.1 _ m1
  have p1 := mem_pos a1
  have m2 := least_mem se p1
  have m3 := great_mem se p1
  obtain ⟨s0, c1, c2⟩ := h.2.2.2 _ m2
  obtain ⟨s1, d1, d2⟩ := h.2.2.2 _ m3
  exact ⟨⟨t0, (hasF_span ss se _ _).2 ⟨a2, m0, a1⟩⟩, ⟨t1, (hasF_span ss se _ _).2 ⟨b2, m1, b1⟩⟩, ⟨s0, (hasF_span ss se _ _).2 ⟨c2, c1, m2⟩⟩, ⟨s1, (hasF_span ss se _ _).2 ⟨d2, d1, m3⟩⟩⟩
noncomputable def hasL (l : List LF) (S T : Int) : Bool := l.any fun f => hasF (famR f) S T
theorem full_of {f : LF} {S T : Int} (g : hasF (famR f) S T = true) : fullB f = true := by
 unfold fullB
 rcases Bool.eq_false_or_eq_true (emptyF (famR f)) with h | h
 ·rw [(empty_iff (famR_ok f)).1 h S T] at g; cases g
 ·rw [h]; rfl
theorem hasL_bound {l : List LF} {S T : Int} (g : hasL l S T = true) : anyB l = true ∧ (envF dLS min l).1 ≤ S ∧ T ≤ (envF dGE max l).1 ∧ (envF dLE min l).1 ≤ T ∧ S ≤ (envF dGS max l).1 := by
 obtain ⟨f, hf, hg⟩ := List.any_eq_true.1 g
 have full := full_of hg
 have a : anyB l = true := List.any_eq_true.2 ⟨f, hf, full⟩
 obtain ⟨b1, b2, b3, b4⟩ := days_bound (famR_ok f) hg
 refine ⟨a, ?_, ?_, ?_, ?_⟩
 ·exact Int.le_trans ((env_min dLS l a).2.1 f hf full) b1
 ·exact Int.le_trans b4 ((env_max dGE l a).2.1 f hf full)
 ·exact Int.le_trans ((env_min dLE l a).2.1 f hf full) b3
 ·exact Int.le_trans b2 ((env_max dGS l a).2.1 f hf full)
def fewL (l : List LF) : Bool := l.all fewB && decide (l.length ≤ 12)
theorem fewL_no {l : List LF} {k : Nat} (h : k < l.length) (g : fewB (lat l k) = false) : fewL l = false := by
 unfold fewL
 rw [Bool.and_eq_false_iff]
 left
 rw [List.all_eq_false]
 exact ⟨_, lat_mem h, by rw [g]; decide⟩
theorem fewL_yes {l : List LF} (h : ∀ i, i < l.length → fewB (lat l i) = true) : fewL l = decide (l.length ≤ 12) := by
 unfold fewL
 have : l.all fewB = true := by
  rw [List.all_eq_true]
  intro f hf
  obtain ⟨i, hi, rfl⟩ := List.mem_iff_getElem.1 hf
  have := h i hi
  unfold lat at this
  rwa [List.getD_eq_getElem?_getD, List.getElem?_eq_getElem hi] at this
 rw [this]
 rfl
theorem fewL_ok {l : List LF} (h : fewL l = true) (g : ∀ f ∈ l, LeafG f) : LsOk l ∧ l.length ≤ 12 := by
 unfold fewL at h
 rw [Bool.and_eq_true, List.all_eq_true] at h
 refine ⟨fun f hf => ?_, of_decide_eq_true h.2⟩
 have := fewB_yes (h.1 f hf)
 have := g f hf
 exact ⟨this.1, this.2.1, by omega, by omega⟩
theorem fewL_any (v : Value) (l : List LF) (w : World) (hv : LeavesAt w v l) :
  Calls Tryz.prog 21 #[v] w fun e w' => e = .returned (.bool (fewL l)) ∧ Kp w w' := by
 have hm := hv.len
 unfold maxLen at hm
 obtain ⟨ad, cp, rfl⟩ := hv.slice
 have HV := Lib.hid hv
 have NO := Lib.hid (fun k (h : k < l.length) g => fewL_no (l := l) h g)
 have YES := Lib.hid (fun h => fewL_yes (l := l) h)
 have HL : Hid (∀ f ∈ l, True) := Lib.hid (fun _ _ => trivial)
 have Z0 := Lib.hid (Kp.refl w)
 clear hv
 generalize fewL l = r at *
 go_enter Tryz.func21, Tryz.ntmps21
 go_wp2
 go_loopw [3] (fun i wr => ∃ k : Nat, k ≤ l.length ∧ i = .int .i64 k ∧ Hid (∀ i, i < k → fewB (lat l i) = true) ∧ Hid (Kp w wr)) (fun i _ => l.length - (intOf i).toNat)
 case atStart => exact ⟨0, Nat.zero_le _, rfl, Lib.hid (fun i h => by omega), Z0⟩
 case round =>
  obtain ⟨k, hk, rfl, FA, J⟩ := hrel
  by_cases hlt : k < l.length
  ·rcases HV.out.kp J.out with ⟨_, _, _, e⟩ | ⟨b0, off, cap, ev, hc, hmx, hx⟩
   ·rw [e] at hlt; simp at hlt
   cases ev
   obtain ⟨va, vb, d0, d1, d2, d3, ra, rb⟩ := hx k hlt
   have LOK := HL.out _ (lat_mem hlt)
   obtain ⟨f, hf⟩ : ∃ f, lat l k = f := ⟨_, rfl⟩
   rw [hf] at d0 d1 ra rb
   (try rw [hf] at LOK)
   obtain ⟨sp, u, a, b⟩ := f
   simp only at d0 d1 ra rb
   (try simp only at LOK)
   obtain ⟨aa, ca, rfl⟩ := ra.slice
   obtain ⟨ab, cb, rfl⟩ := rb.slice
   have HF := Lib.hid hf
   have z1 : (k : Int) < (l.length : Int) := by omega
   have z2 : (0 : Int) ≤ (k : Int) := by omega
   clear hx hc hmx hf
   have C := Lib.hid (fun w1 (kk : Kp wr w1) => few_any ⟨sp, u, a, b⟩ _ _ w1 (ra.kp kk) (rb.kp kk))
   simp only [leafV] at C
   have N := Lib.hid (fun g => NO.out k hlt (show fewB (lat l k) = false by rw [HF.out]; exact g))
   have Y := Lib.hid (fun (g : fewB ⟨sp, u, a, b⟩ = true) => (by rw [HF.out]; exact g : fewB (lat l k) = true))
   generalize fewB ⟨sp, u, a, b⟩ = fb at *
   have KR := Lib.hid (Kp.refl wr)
   clear ra rb NO
   cases fb with
   | false =>
    have hr := N.out (by first | rfl | trivial)
    subst hr
    go_wp2_with fail
    refine (C.out _ (by first | with_reducible exact KR.out | with_reducible exact KR.out.trans (Kp.alloc _ _) | with_reducible exact (KR.out.trans (Kp.alloc _ _)).trans (Kp.alloc _ _) | with_reducible exact ((KR.out.trans (Kp.alloc _ _)).trans (Kp.alloc _ _)).trans (Kp.alloc _ _) | with_reducible exact KR.out.trans (Kp.drew _) | with_reducible exact KR.out.trans (Kp.drewN _ _))).mono ?_
    rintro e w1 ⟨rfl, kk⟩
    have J1 := Lib.hid (J.out.trans ((show Kp wr _ from (by first | with_reducible exact KR.out | with_reducible exact KR.out.trans (Kp.alloc _ _) | with_reducible exact (KR.out.trans (Kp.alloc _ _)).trans (Kp.alloc _ _) | with_reducible exact ((KR.out.trans (Kp.alloc _ _)).trans (Kp.alloc _ _)).trans (Kp.alloc _ _) | with_reducible exact KR.out.trans (Kp.drew _) | with_reducible exact KR.out.trans (Kp.drewN _ _))).trans kk))
    go_wp2
    go_ret
    exact ⟨rfl, J1.out⟩
   | true =>
    go_wp2_with fail
    refine (C.out _ (by first | with_reducible exact KR.out | with_reducible exact KR.out.trans (Kp.alloc _ _) | with_reducible exact (KR.out.trans (Kp.alloc _ _)).trans (Kp.alloc _ _) | with_reducible exact ((KR.out.trans (Kp.alloc _ _)).trans (Kp.alloc _ _)).trans (Kp.alloc _ _) | with_reducible exact KR.out.trans (Kp.drew _) | with_reducible exact KR.out.trans (Kp.drewN _ _))).mono ?_
    rintro e w1 ⟨rfl, kk⟩
    have J1 := Lib.hid (J.out.trans ((show Kp wr _ from (by first | with_reducible exact KR.out | with_reducible exact KR.out.trans (Kp.alloc _ _) | with_reducible exact (KR.out.trans (Kp.alloc _ _)).trans (Kp.alloc _ _) | with_reducible exact ((KR.out.trans (Kp.alloc _ _)).trans (Kp.alloc _ _)).trans (Kp.alloc _ _) | with_reducible exact KR.out.trans (Kp.drew _) | with_reducible exact KR.out.trans (Kp.drewN _ _))).trans kk))
    clear kk
    go_wp2
    go_roundw
    case rel => exact ⟨k + 1, by omega, by go_num, Lib.hid (fun i hi => by
     by_cases c : i < k
     ·exact FA.out i c
     ·obtain rfl : i = k := by omega
      exact Y.out (by first | rfl | trivial)), J1⟩
    case measure => simp [intOf]; omega
  ·obtain rfl : k = l.length := by omega
   have hr := YES.out FA.out
   have e1 : decide ((l.length : Int) ≤ 12) = r := by
    rw [hr]
    by_cases h : l.length ≤ 12
    ·rw [decide_eq_true h, decide_eq_true (by omega)]
    ·rw [decide_eq_false h, decide_eq_false (by omega)]
   have e2 : decide (l.length ≤ 12) = r := hr.symm
   clear hr
   go_wp2
   go_ret
   exact ⟨by first | rfl | simp [e1, e2] | simp, J.out⟩
abbrev VV := Value × Value
end Go.Proofs.YtjdnejglapnbbaaGreatDoor
