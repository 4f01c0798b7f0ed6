import Derived.Test.YtcooaoponkkpeaaGreatDoorJNe
set_option maxHeartbeats 16000000
set_option maxRecDepth 100000
namespace Go.Proofs.YtcooaoponkkpeaaGreatDoor
open Go.RowKit
set_option linter.unusedVariables false
set_option linter.unusedSimpArgs false
theorem rboxW_any (f : LF) (va vb : Value) (k x : Int) (w : World) (h : LeafOk w f va vb) (ii : I64R [(firV k x, lasV k x)]) :
  Calls Tryz.prog 139 #[leafV f va vb, .int .i64 (firV k x), .int .i64 (lasV k x)] w fun e w' => ∃ v' m, e = .returned v' ∧ m.map Prod.fst = wpF f.a f.b k x ∧ OwnV w' w.heap.size m ∧ w'.ownsRow w.heap.size 44 4 v' m.length (cellsV m) ∧ Kp w w' :=
 rboxO_any f va vb (firV k x) (lasV k x) w h ii
theorem rwit_u (f g : LF) (vfa vfb vga vgb : Value) (w : World) (hf : LeafOk w f vfa vfb) (hg : LeafOk w g vga vgb) {k : Int} {s : List R} (hlf : lfOf (famR f) = ⟨false, k, s, []⟩) (h0 : ¬ s.length = 0) (k0 : k ≠ 0) (ss : setB k s = true) (hn : (nums s).length ≤ 1000) :
  Calls Tryz.prog 84 #[leafV g vga vgb, leafV f vfa vfb] w fun e w' => ∃ v' x, e = .returned v' ∧ x.map Prod.fst = witL g.a g.b f ∧ OwnV w' w.heap.size x ∧ w'.ownsRow w.heap.size 44 4 v' x.length (cellsV x) ∧ Kp w w' := by
 have C := Hd (fun w1 (kk : Kp w w1) => refTidy_any f vfa vfb w1 (hf.kp kk))
 have DF : witL g.a g.b f = witT g.a g.b (lfOf (famR f)) := rfl
 rw [hlf] at C DF
 obtain ⟨sg, ug, ga, gb⟩ := g
 obtain ⟨aga, cga, rfl⟩ := hg.a.slice
 obtain ⟨agb, cgb, rfl⟩ := hg.b.slice
 generalize witL ga gb f = DX at *
 obtain ⟨sp, u, a, b⟩ := f
 obtain ⟨aa, ca, rfl⟩ := hf.a.slice
 obtain ⟨ab, cb, rfl⟩ := hf.b.slice
 simp only [leafV] at C ⊢
 simp only at DF
 rw [wit_u h0 k0] at DF
 have DF := Hd DF
 obtain ⟨i0, hi, hz0, hz1, hz2⟩ := info_parts infoLeaf
 have q0 : ((s.length : Int) == 0) = false := beq_eq_false_iff_ne.2 (by omega)
 have p0 : (k == 0) = false := beq_eq_false_iff_ne.2 k0
 have ok := sane_ok (setB_sane ss)
 have HG := Hd hg
 have n1 := hg.na
 have n2 := hg.nb
 simp only at n1 n2
 clear hf hg hlf
 obtain ⟨V3, hVb⟩ : ∃ x, x = (w.alloc (.cells #[.bool sg, .int .i64 ug, .slice aga ga.length cga, .slice agb gb.length cgb] 44)).alloc (.cells #[.bool sp, .int .i64 u, .slice aa a.length ca, .slice ab b.length cb] 44) := ⟨_, rfl⟩
 have kab : Kp w V3 := by rw [hVb]; exact (Kp.alloc _ _).trans (Kp.alloc _ _)
 have gqb0 : V3.heap[w.heap.size]? = some (.cells #[.bool sg, .int .i64 ug, .slice aga ga.length cga, .slice agb gb.length cgb] 44 (0, 0)) := by rw [hVb]; exact heap_block (Kp.alloc _ _) (heap_at _ _ _ (by first | rfl | simp))
 have gqb1 : V3.heap[w.heap.size + 1]? = some (.cells #[.bool sp, .int .i64 u, .slice aa a.length ca, .slice ab b.length cb] 44 (0, 0)) := by rw [hVb]; exact heap_at _ _ _ (by first | rfl | simp)
 have KSb := Hd (fun w' (kq : Kp V3 w') => show w'.cell? ⟨w.heap.size, 0, none⟩ = some (.bool sg) ∧ w'.cell? ⟨w.heap.size, 1, none⟩ = some (.int .i64 ug) ∧ w'.cell? ⟨w.heap.size, 2, none⟩ = some (.slice aga ga.length cga) ∧ w'.cell? ⟨w.heap.size, 3, none⟩ = some (.slice agb gb.length cgb) ∧ w'.cell? ⟨w.heap.size + 1, 0, none⟩ = some (.bool sp) ∧ w'.cell? ⟨w.heap.size + 1, 1, none⟩ = some (.int .i64 u) ∧ w'.cell? ⟨w.heap.size + 1, 2, none⟩ = some (.slice aa a.length ca) ∧ w'.cell? ⟨w.heap.size + 1, 3, none⟩ = some (.slice ab b.length cb) ∧ Kp V3 w' from ⟨(row4 (heap_block kq gqb0)).1, (row4 (heap_block kq gqb0)).2.1, (row4 (heap_block kq gqb0)).2.2.1, (row4 (heap_block kq gqb0)).2.2.2, (row4 (heap_block kq gqb1)).1, (row4 (heap_block kq gqb1)).2.1, (row4 (heap_block kq gqb1)).2.2.1, (row4 (heap_block kq gqb1)).2.2.2, kq⟩)
 have GQb0 := Hd gqb0
 have GQb1 := Hd gqb1
 have HVb := Hd hVb
 have KB := Hd kab
 clear hVb kab gqb0 gqb1
 have kkV3 : Kp V3 V3 := Kp.refl _
 go_enter Tryz.func84, Tryz.ntmps84
 go_wp2_with fail
 rw [← HVb.out]
 refine (C.out _ KB.out).mono ?_
 rintro e w1 ⟨va9, vb9, rfl, okh, kk0⟩
 obtain ⟨ax, cx, rfl⟩ := okh.a.slice
 obtain ⟨ay, cy, e2⟩ := okh.b.slice
 have e2 : vb9 = .slice ay 0 cy := e2
 subst e2
 have kk : Kp V3 w1 := kk0
 have kk1 : Kp w1 (w1.alloc (.cells #[.bool false, .int .i64 k, .slice ax s.length cx, .slice ay 0 cy] 44)) := Kp.alloc _ _
 have kk3 : Kp V3 (w1.alloc (.cells #[.bool false, .int .i64 k, .slice ax s.length cx, .slice ay 0 cy] 44)) := kk.trans (Kp.alloc _ _)
 obtain ⟨V, hVc⟩ : ∃ x, x = w1.alloc (.cells #[.bool false, .int .i64 k, .slice ax s.length cx, .slice ay 0 cy] 44) := ⟨_, rfl⟩
 have kac : Kp w1 V := by rw [hVc]; exact Kp.alloc _ _
 have gqc0 : V.heap[w1.heap.size]? = some (.cells #[.bool false, .int .i64 k, .slice ax s.length cx, .slice ay 0 cy] 44 (0, 0)) := by rw [hVc]; exact heap_at _ _ _ (by first | rfl | simp)
 rw [← hVc] at kk1 kk3
 have KSc := Hd (fun w' (kq : Kp V w') => show w'.cell? ⟨w1.heap.size, 0, none⟩ = some (.bool false) ∧ w'.cell? ⟨w1.heap.size, 1, none⟩ = some (.int .i64 k) ∧ w'.cell? ⟨w1.heap.size, 2, none⟩ = some (.slice ax s.length cx) ∧ w'.cell? ⟨w1.heap.size, 3, none⟩ = some (.slice ay 0 cy) ∧ w'.cell? ⟨w.heap.size, 0, none⟩ = some (.bool sg) ∧ w'.cell? ⟨w.heap.size, 1, none⟩ = some (.int .i64 ug) ∧ w'.cell? ⟨w.heap.size, 2, none⟩ = some (.slice aga ga.length cga) ∧ w'.cell? ⟨w.heap.size, 3, none⟩ = some (.slice agb gb.length cgb) ∧ Kp V w' from ⟨(row4 (heap_block kq gqc0)).1, (row4 (heap_block kq gqc0)).2.1, (row4 (heap_block kq gqc0)).2.2.1, (row4 (heap_block kq gqc0)).2.2.2, cell_up kq (KSb.out V kk3).1, cell_up kq (KSb.out V kk3).2.1, cell_up kq (KSb.out V kk3).2.2.1, cell_up kq (KSb.out V kk3).2.2.2.1, kq⟩)
 have GQc0 := Hd gqc0
 have HVc := Hd hVc
 have KC := Hd kac
 clear hVc kac gqc0
 have kkV : Kp V V := Kp.refl _
 have KV := Hd (KB.out.trans kk3)
 have OKH := Hd (okh.kp KC.out)
 have GV := Hd (HG.out.kp KV.out)
 have ns := okh.na
 simp only at ns
 clear okh kk kk0 kk1 kk3 HG C KSb
 go_upto_region 2 with fail
 rw [← HVc.out]
 clear HVc
 obtain ⟨xc0, xc1, xc2, xc3, xc4, xc5, xc6, xc7, _⟩ := KSc.out _ kkV
 have CF := Hd (fun x w1 => rfirst_any k x w1)
 have CL := Hd (fun x w1 => rlast_any k x w1)
 have CI := Hd (fun x w1 (kk : Kp V w1) (hx : memR s x) => rboxW_any ⟨sg, ug, ga, gb⟩ _ _ k x w1 (GV.out.kp kk) (by have := un_bd ss hx; intro r hr; rw [List.mem_singleton.1 hr]; simp only; omega))
 simp only [leafV] at CI
 have MB := Hd (fun i (hi : i < s.length) => ok _ (at_mem hi))
 have MM := Hd (fun i (hi : i < s.length) x (h1 : (at_ s i).1 ≤ x) (h2 : x ≤ (at_ s i).2) => span_sane (setB_sane ss) (at_mem hi) h1 h2)
 have MC := Hd (fun x (hx : memR s x) => setB_mem ss hx)
 have FL := wpF_len ga gb k
 generalize wpF ga gb k = F at *
 have AX := Hd (fun i t => fl_next F s i t)
 have AR := Hd (fun i t (h : i < s.length) e => fl_row F s (i := i) (t := t) h e)
 have AL := Hd (fun i t (h : i < s.length) ht => fl_len F s FL (i := i) (t := t) h ht)
 have AE := Hd (fl_all F s)
 have A0 := Hd (fl_zero F s)
 have CT := Hd (cnt_top k)
 have FLH := Hd FL
 generalize flN F s = AC at *
 generalize (nums s).length = nn at *
 have HA := Hd OKH.out.a
 clear ok ss k0 FL
 go_wp2
 go_loopw [7, 8] (fun q iv wr => ∃ (i : Nat) (xs : List (LF × VV)), i ≤ s.length ∧ iv = .int .i64 i ∧ Hid (xs.map Prod.fst = AC i 0) ∧ Hid (OwnV wr V.heap.size xs) ∧ Hid (wr.ownsRow V.heap.size 44 4 q xs.length (cellsV xs)) ∧ Hid (Kp V wr)) (fun _ iv _ => s.length - (intOf iv).toNat)
 case atStart => exact ⟨0, [], Nat.zero_le _, rfl, Hd (by rw [A0.out]; rfl), Hd (fun p hp => by cases hp), Hd (World.ownsRow_nil _ _ _ _), Hd (Kp.refl _)⟩
 case round =>
  obtain ⟨i, xs, hi2, rfl, HM, OV, OW, J⟩ := hrel
  have ow := OW.out
  obtain ⟨qa, qc, rfl⟩ := own_slice4 ow
  clear ow
  obtain ⟨wo, hwo⟩ : ∃ x, x = wr := ⟨_, rfl⟩
  subst hwo
  obtain ⟨e0, e1, e2, e3, e4, e5, e6, e7, _⟩ := KSc.out wo J.out
  by_cases hlt : i < s.length
  ·have q1 : decide ((i : Int) < (s.length : Int)) = true := dT
   have HLT := Hd hlt
   rcases HA.out with ⟨_, _, _, e⟩ | ⟨b3, off3, cap3, ev, hc3, hm3, hx3⟩
   ·rw [e] at hlt; simp at hlt
   obtain ⟨r1, r2⟩ := hx3 i hlt
   cases ev
   have mb := MB.out i hlt
   have mm := MM.out i hlt
   have ax := AX.out i
   have ar := AR.out i _ hlt rfl
   have al := fun t ht => AL.out i t hlt ht
   obtain ⟨lo, hi', elo⟩ : ∃ x y, at_ s i = (x, y) := ⟨_, _, rfl⟩
   rw [elo] at r1 r2 mb mm ax ar al
   simp only at r1 r2 mb mm ax ar al
   have okr : lo ≤ hi' := mb.1
   have b1 := MC.out lo (mm lo (Int.le_refl _) okr)
   have b2 := MC.out hi' (mm hi' okr (Int.le_refl _))
   have ct := CT.out
   have RR := Hd (fun w' (kq : Kp V w') => (show w'.cell? ⟨b3, off3 + i * 2, none⟩ = some (.int .i64 lo) ∧ w'.cell? ⟨b3, off3 + i * 2 + 1, none⟩ = some (.int .i64 hi') from ⟨cell_up kq r1, cell_up kq r2⟩))
   clear r1 r2
   obtain ⟨r1, r2⟩ := RR.out wo J.out
   have M9 := Hd mm
   have X9 := Hd ax
   have R9 := Hd ar
   have L9 := Hd al
   obtain ⟨N, hN⟩ : ∃ N, (hi' - lo + 1).toNat = N := ⟨_, rfl⟩
   rw [hN] at R9 L9
   have z1 : (0 : Int) ≤ (i : Int) := by omega
   have z3 : (i : Int) < (s.length : Int) := by omega
   clear hx3 hc3 hm3 mb mm ax ar al elo
   go_wp2
   go_loopw [7, 9] (fun q jv wr => ∃ (t : Nat) (x : Int) (ys : List (LF × VV)), t ≤ N ∧ x = lo + (t : Int) ∧ jv = .int .i64 x ∧ Hid (ys.map Prod.fst = AC i t) ∧ Hid (OwnV wr V.heap.size ys) ∧ Hid (wr.ownsRow V.heap.size 44 4 q ys.length (cellsV ys)) ∧ Hid (Kp V wr)) (fun _ jv _ => (hi' + 1 - intOf jv).toNat)
   case atStart => exact ⟨0, lo, xs, Nat.zero_le _, by simp, rfl, HM, OV, OW, J⟩
   case round =>
    obtain ⟨t, x, ys, ht, hx, rfl, HN, QV, QO, JJ⟩ := hrel
    have qo := QO.out
    obtain ⟨qb, qd, rfl⟩ := own_slice4 qo
    clear qo
    have KJ := Hd JJ.out
    obtain ⟨wi, hwi⟩ : ∃ x, x = wr := ⟨_, rfl⟩
    subst hwi
    obtain ⟨e0, e1, e2, e3, e4, e5, e6, e7, _⟩ := KSc.out wi KJ.out
    obtain ⟨r1, r2⟩ := RR.out wi JJ.out
    by_cases hxx : x ≤ hi'
    ·have q2 : decide (x ≤ hi') = true := decide_eq_true hxx
     have CI2 := CI.out x wi KJ.out (M9.out x (by omega) hxx)
     have ax := X9.out t
     have al := L9.out t (by omega)
     rw [← hx] at ax
     have fx := FLH.out x
     have yl : ys.length = (AC i t).length := by have := congrArg List.length HN.out; rwa [List.length_map] at this
     have AXH := Hd ax
     have CIH := Hd CI2
     generalize F x = FX at *
     have xb : 0 ≤ x ∧ x ≤ 4000000 := by omega
     have ybd : ys.length ≤ 1000 := by omega
     have t1 : t + 1 ≤ N := by omega
     have HX := Hd hx
     have H9 := Hd hxx
     clear CI2 ax hx hxx al yl
     go_wp2_with fail
     refine (CF.out _ _).mono ?_
     rintro e w' ⟨rfl, rfl⟩
     go_wp2_with fail
     refine (CL.out _ _).mono ?_
     rintro e w' ⟨rfl, rfl⟩
     go_wp2_with fail
     refine CIH.out.mono ?_
     rintro e w4 ⟨v6, m6, rfl, hm6, ov6, ow6, kk⟩
     obtain ⟨a6, l6, rfl⟩ := own_slice4 ow6
     have m6b : m6.length ≤ 1 := by have := congrArg List.length hm6; rw [List.length_map] at this; omega
     have OL := Hd ow6
     have OM := Hd (ov6.mono KJ.out.size)
     have Q4 := Hd (own_kp QO.out kk)
     have QV4 := Hd (QV.out.kp kk)
     have K4 := Hd (KJ.out.trans kk)
     have HM6 := Hd hm6
     clear kk CIH ow6 ov6 hm6
     go_wp2_with (at_builtin; refine wpList_app rfl (.tmp 92) (.tmp 96) 22 rfl V.heap.size 44 i0 (.agg #[.bool false, .int .i64 0, .slice none 0 0, .slice none 0 0]) 4 64 Tryz.underlying22 hi hz0 hz1 hz2 rfl (by decide) _ ys.length (cellsV ys) rfl Q4.out _ m6.length (cellsV m6) rfl (own_srcV OL.out) (cellsV_length _) (cellsV_one (OwnV.reads OM.out)) (by unfold maxLen; omega) (by omega) K4.out.size ?_; intro v5 w5 own5 grow5 _; have K5 := Hd (K4.out.grown grow5 (fun j hj => (Q4.out.lt j hj).1)); have O5 := Hd own5; have V5 := Hd ((QV4.out.append OM.out).grown grow5 Q4.out); clear own5 grow5)
     have O6 := Hd (show w5.ownsRow V.heap.size 44 4 v5 (ys ++ m6).length (cellsV (ys ++ m6)) by rw [List.length_append, cellsV_append]; exact O5.out)
     have HN6 := Hd (show (ys ++ m6).map Prod.fst = AC i (t + 1) by rw [List.map_append, HN.out, HM6.out, AXH.out])
     go_wp2
     go_roundw
     case rel => exact ⟨t + 1, x + 1, ys ++ m6, t1, by have := HX.out; omega, by go_num, HN6, V5, O6, K5⟩
     case measure => have := H9.out; simp [intOf]; omega
    ·have q2 : decide (x ≤ hi') = false := decide_eq_false hxx
     obtain rfl : t = N := by omega
     have HN2 := Hd (show ys.map Prod.fst = AC (i + 1) 0 by rw [← R9.out]; exact HN.out)
     have q9 := HLT.out
     go_wp2
     go_roundw
     case rel => exact ⟨i + 1, ys, by omega, by go_num, HN2, QV, QO, KJ⟩
     case measure => simp [intOf]; omega
  ·have q1 : decide ((i : Int) < (s.length : Int)) = false := dF
   obtain rfl : i = s.length := by omega
   have HE := Hd (show xs.map Prod.fst = DX by rw [HM.out, AE.out, DF.out])
   have OVW := Hd (OV.out.mono KV.out.size)
   have OWW := Hd (own_mono OW.out KV.out.size)
   go_wp2
   go_ret
   exact ⟨_, xs, rfl, HE.out, OVW.out, OWW.out, KV.out.trans J.out⟩
theorem rwit_any (f g : LF) (vfa vfb vga vgb : Value) (w : World) (hf : LeafOk w f vfa vfb) (hg : LeafOk w g vga vgb) (hs : FOK (.span g.a g.b)) (hn : (lfOf (famR f)).sp = false → (lfOf (famR f)).u ≠ 0 → (nums (lfOf (famR f)).a).length ≤ 1000) :
  Calls Tryz.prog 84 #[leafV g vga vgb, leafV f vfa vfb] w fun e w' => ∃ v' x, e = .returned v' ∧ x.map Prod.fst = witL g.a g.b f ∧ OwnV w' w.heap.size x ∧ w'.ownsRow w.heap.size 44 4 v' x.length (cellsV x) ∧ Kp w w' := by
 rcases tidy_cases f with ⟨k, s, e, ss⟩ | ⟨s, t, e, s1, s2, m1, m2⟩
 ·rw [e] at hn
  simp only at hn
  by_cases h0 : s.length = 0
  ·exact rwit_0 f g vfa vfb vga vgb w hf hg e h0
  ·by_cases k0 : k = 0
   ·subst k0
    exact rwit_d f g vfa vfb vga vgb w hf hg e h0 hs (setB_sane ss)
   ·exact rwit_u f g vfa vfb vga vgb w hf hg e h0 k0 ss (hn trivial k0)
 ·have h1 := setB_mem s1 (least_mem (setB_sane s1) m1)
  have h2 := setB_mem s2 (great_mem (setB_sane s2) m2)
  rw [cnt_zero] at h1 h2
  exact rwit_s f g vfa vfb vga vgb w hf hg e m1 m2 (by intro r hr; rw [List.mem_singleton.1 hr]; simp only; omega)
theorem lv_lt {w : World} {b off cap k : Nat} {m : List LF} (h : LeavesAt w (.slice (some ⟨b, off, none⟩) m.length cap) m) (hk : k < m.length) : b < w.heap.size := by
 rcases h with ⟨_, _, _, e⟩ | ⟨b0, off0, cap0, ev, hc, hm, hx⟩
 ·rw [e] at hk; simp at hk
 ·cases ev
  obtain ⟨va, vb, d0, _⟩ := hx k hk
  exact cell_lt d0
theorem span_fok {f : LF} {s t : List R} (h : lfOf (famR f) = ⟨true, 0, s, t⟩) (h0 : 0 < s.length) : FOK (.span s t) := by
 have ok := famR_ok f
 revert ok h
 generalize famR f = F
 intro h ok
 by_cases e : emptyF F = true
 ·rw [lfOf_none e] at h
  cases h
 ·cases F with
  | units k x =>
   rw [lfOf_u1 (by rw [emptyF_u] at e; simpa using e)] at h
   cases h
  | span x y =>
   rw [lfOf_s1 (by rw [emptyF_s] at e; simpa using e)] at h
   cases h
   exact ok
def FewU (f : LF) : Prop := (lfOf (famR f)).sp = false → (lfOf (famR f)).u ≠ 0 → (nums (lfOf (famR f)).a).length ≤ 60
theorem wit_len {a b : List R} {f : LF} (h : FewU f) : (witL a b f).length ≤ 60 := by
 have p1 : ∀ r, (partF a b r).length ≤ 60 := fun r => by unfold partF; split <;> simp
 unfold FewU at h
 unfold witL
 rcases tidy_cases f with ⟨k, s, e, ss⟩ | ⟨s, t, e, s1, s2, m1, m2⟩
 ·rw [e] at h ⊢
  simp only at h
  by_cases h0 : s.length = 0
  ·rw [wit_0 h0]; simp
  ·by_cases k0 : k = 0
   ·subst k0
    rw [wit_d h0]
    split <;> simp
   ·rw [wit_u h0 k0]
    have := flat_bd (nums s) (wpF a b k) 1 (fun x _ => wpF_len a b k x)
    have := h trivial k0
    omega
 ·rw [e, wit_s m1]
  exact p1 _
theorem one_0 {s : List R} {k : Int} {m : List LF} (h : s.length = 0) : oneT ⟨false, k, s, []⟩ m = [] := if_pos h
theorem one_d {s : List R} {m : List LF} (h : ¬ s.length = 0) : oneT ⟨false, 0, s, []⟩ m = dysL s m := by
 unfold oneT
 simp only
 rw [if_neg h, if_neg (by simp), if_pos (by first | rfl | trivial)]
theorem one_u {s : List R} {k : Int} {m : List LF} (h : ¬ s.length = 0) (k0 : k ≠ 0) : oneT ⟨false, k, s, []⟩ m = usL k s m := by
 unfold oneT
 simp only
 rw [if_neg h, if_neg (by simp), if_neg k0]
theorem one_s {s e : List R} {m : List LF} (h : 0 < s.length) : oneT ⟨true, 0, s, e⟩ m = m.flatMap (witL s e) := by
 unfold oneT
 simp only
 rw [if_neg (by omega), if_pos (by first | rfl | trivial)]
noncomputable def wtN (a b : List R) (m : List LF) (k : Nat) : List LF := (m.take k).flatMap (witL a b)
theorem wt_next {a b : List R} {m : List LF} {k : Nat} (h : k < m.length) : wtN a b m (k + 1) = wtN a b m k ++ witL a b (lat m k) := flat_next m _ (witL a b) k h
theorem wt_all (a b : List R) (m : List LF) : wtN a b m m.length = m.flatMap (witL a b) := by unfold wtN; rw [List.take_length]
theorem wt_len {a b : List R} {m : List LF} (h : ∀ g ∈ m, FewU g) (k : Nat) : (wtN a b m k).length ≤ m.length * 60 := by
 have h1 := flat_bd (m.take k) (witL a b) 60 (fun x hx => wit_len (h x (List.mem_of_mem_take hx)))
 have h2 : (m.take k).length ≤ m.length := List.length_take_le' _ _
 have h3 : (m.take k).length * 60 ≤ m.length * 60 := Nat.mul_le_mul_right _ h2
 unfold wtN
 omega
abbrev niR0 : Oper := ⟨some 37, .move (.tmp 6), 22, "ref.go:120", #[], none⟩
abbrev niR1 : Oper := ⟨some 38, .load 44 (.tmp 5), 44, "ref.go:120", #[], none⟩
abbrev niR2 : Oper := ⟨some 39, .move (.tmp 1), 22, "ref.go:120", #[], none⟩
abbrev niR3 : Oper := ⟨some 40, .move (.tmp 7), 3, "ref.go:120", #[], none⟩
abbrev niR4 : Oper := ⟨some 41, .indexAddr 22 (.tmp 39) (.tmp 40), 0, "ref.go:120", #[⟨2, .data⟩, ⟨3, .data⟩], none⟩
abbrev niR5 : Oper := ⟨some 42, .load 44 (.tmp 41), 44, "ref.go:120", #[⟨4, .data⟩], none⟩
abbrev niR6 : Oper := ⟨some 43, .call ⟨.value (.func 84), #[.tmp 38, .tmp 42], #[44, 44]⟩, 22, "ref.go:120", #[⟨1, .data⟩, ⟨5, .data⟩], none⟩
abbrev niR7 : Oper := ⟨some 44, .call ⟨.builtin .append, #[.tmp 37, .tmp 43], #[22, 22]⟩, 22, "ref.go:120", #[⟨0, .data⟩, ⟨6, .data⟩, ⟨6, .chain⟩], none⟩
abbrev niR8 : Oper := ⟨some 6, .assign (.tmp 44), 22, "ref.go:120", #[⟨7, .data⟩, ⟨7, .chain⟩, ⟨0, .phase⟩, ⟨1, .phase⟩, ⟨2, .phase⟩, ⟨3, .phase⟩, ⟨4, .phase⟩, ⟨5, .phase⟩, ⟨6, .phase⟩, ⟨7, .phase⟩], none⟩
theorem rone_0 (f : LF) (vfa vfb vm : Value) (m : List LF) (w : World) (hf : LeafOk w f vfa vfb) (hm : LeavesAt w vm m) {k : Int} {s : List R} (hlf : lfOf (famR f) = ⟨false, k, s, []⟩) (h0 : s.length = 0) :
  Calls Tryz.prog 38 #[leafV f vfa vfb, vm] w fun e w' => ∃ v' x, e = .returned v' ∧ x.map Prod.fst = oneL f m ∧ OwnV w' w.heap.size x ∧ w'.ownsRow w.heap.size 44 4 v' x.length (cellsV x) ∧ Kp w w' := by
 have C := Hd (fun w1 (kk : Kp w w1) => refTidy_any f vfa vfb w1 (hf.kp kk))
 have DF : oneL f m = oneT (lfOf (famR f)) m := rfl
 rw [hlf] at C DF
 generalize oneL f m = DX at *
 obtain ⟨sf, uf, af, bf⟩ := f
 obtain ⟨aaf, caf, rfl⟩ := hf.a.slice
 obtain ⟨abf, cbf, rfl⟩ := hf.b.slice
 simp only [leafV] at C ⊢
 have hmm := hm.len
 unfold maxLen at hmm
 obtain ⟨adm, cpm, rfl⟩ := hm.slice
 rw [one_0 h0] at DF
 have q0 : ((s.length : Int) == 0) = true := by rw [h0]; rfl
 clear h0
 have DF := Hd DF
 have HM0 := Hd hm
 clear hf hlf hm
 obtain ⟨V3, hVb⟩ : ∃ x, x = w.alloc (.cells #[.bool sf, .int .i64 uf, .slice aaf af.length caf, .slice abf bf.length cbf] 44) := ⟨_, rfl⟩
 have kab : Kp w V3 := by rw [hVb]; exact Kp.alloc _ _
 have gqb0 : V3.heap[w.heap.size]? = some (.cells #[.bool sf, .int .i64 uf, .slice aaf af.length caf, .slice abf bf.length cbf] 44 (0, 0)) := by rw [hVb]; exact heap_at _ _ _ (by first | rfl | simp)
 have KSb := Hd (fun w' (kq : Kp V3 w') => show w'.cell? ⟨w.heap.size, 0, none⟩ = some (.bool sf) ∧ w'.cell? ⟨w.heap.size, 1, none⟩ = some (.int .i64 uf) ∧ w'.cell? ⟨w.heap.size, 2, none⟩ = some (.slice aaf af.length caf) ∧ w'.cell? ⟨w.heap.size, 3, none⟩ = some (.slice abf bf.length cbf) ∧ Kp V3 w' from ⟨(row4 (heap_block kq gqb0)).1, (row4 (heap_block kq gqb0)).2.1, (row4 (heap_block kq gqb0)).2.2.1, (row4 (heap_block kq gqb0)).2.2.2, kq⟩)
 have GQb0 := Hd gqb0
 have HVb := Hd hVb
 have KB := Hd kab
 clear hVb kab gqb0
 have kkV3 : Kp V3 V3 := Kp.refl _
 go_enter Tryz.func38, Tryz.ntmps38
 go_wp2_with fail
 rw [← HVb.out]
 refine (C.out _ KB.out).mono ?_
 rintro e w1 ⟨va9, vb9, rfl, okh, kk0⟩
 obtain ⟨ax, cx, rfl⟩ := okh.a.slice
 obtain ⟨ay, cy, e2⟩ := okh.b.slice
 have e2 : vb9 = .slice ay 0 cy := e2
 subst e2
 have kk : Kp V3 w1 := kk0
 have kk3 : Kp V3 (w1.alloc (.cells #[.bool false, .int .i64 k, .slice ax s.length cx, .slice ay 0 cy] 44)) := kk.trans (Kp.alloc _ _)
 obtain ⟨V, hVc⟩ : ∃ x, x = w1.alloc (.cells #[.bool false, .int .i64 k, .slice ax s.length cx, .slice ay 0 cy] 44) := ⟨_, rfl⟩
 have kac : Kp w1 V := by rw [hVc]; exact Kp.alloc _ _
 have gqc0 : V.heap[w1.heap.size]? = some (.cells #[.bool false, .int .i64 k, .slice ax s.length cx, .slice ay 0 cy] 44 (0, 0)) := by rw [hVc]; exact heap_at _ _ _ (by first | rfl | simp)
 rw [← hVc] at kk3
 have KSc := Hd (fun w' (kq : Kp V w') => show w'.cell? ⟨w1.heap.size, 0, none⟩ = some (.bool false) ∧ w'.cell? ⟨w1.heap.size, 1, none⟩ = some (.int .i64 k) ∧ w'.cell? ⟨w1.heap.size, 2, none⟩ = some (.slice ax s.length cx) ∧ w'.cell? ⟨w1.heap.size, 3, none⟩ = some (.slice ay 0 cy) ∧ Kp V w' from ⟨(row4 (heap_block kq gqc0)).1, (row4 (heap_block kq gqc0)).2.1, (row4 (heap_block kq gqc0)).2.2.1, (row4 (heap_block kq gqc0)).2.2.2, kq⟩)
 have GQc0 := Hd gqc0
 have HVc := Hd hVc
 have KC := Hd kac
 clear hVc kac gqc0
 have kkV : Kp V V := Kp.refl _
 have KV := Hd (KB.out.trans kk3)
 have OKH := Hd (okh.kp KC.out)
 have HVM := Hd (HM0.out.kp KV.out)
 have ns := okh.na
 simp only at ns
 clear okh kk kk0 kk3 C KSb HM0
 go_upto_region 2 with fail
 rw [← HVc.out]
 clear HVc
 obtain ⟨xc0, xc1, xc2, xc3, _⟩ := KSc.out _ kkV
 go_wp2
 go_ret
 exact ⟨_, [], rfl, DF.out.symm, fun p hp => (by cases hp), World.ownsRow_nil _ _ _ _, KV.out⟩
theorem rone_d (f : LF) (vfa vfb vm : Value) (m : List LF) (w : World) (hf : LeafOk w f vfa vfb) (hm : LeavesAt w vm m) {s : List R} (hlf : lfOf (famR f) = ⟨false, 0, s, []⟩) (h0 : ¬ s.length = 0) (hl : LsOk m) (n1 : ∀ g ∈ m, (posR [g]).length ≤ 400) (n2 : ∀ k, (preN m k).length ≤ 1000) :
  Calls Tryz.prog 38 #[leafV f vfa vfb, vm] w fun e w' => ∃ v' x, e = .returned v' ∧ x.map Prod.fst = oneL f m ∧ OwnV w' w.heap.size x ∧ w'.ownsRow w.heap.size 44 4 v' x.length (cellsV x) ∧ Kp w w' := by
 have C := Hd (fun w1 (kk : Kp w w1) => refTidy_any f vfa vfb w1 (hf.kp kk))
 have DF : oneL f m = oneT (lfOf (famR f)) m := rfl
 rw [hlf] at C DF
 generalize oneL f m = DX at *
 obtain ⟨sf, uf, af, bf⟩ := f
 obtain ⟨aaf, caf, rfl⟩ := hf.a.slice
 obtain ⟨abf, cbf, rfl⟩ := hf.b.slice
 simp only [leafV] at C ⊢
 have hmm := hm.len
 unfold maxLen at hmm
 obtain ⟨adm, cpm, rfl⟩ := hm.slice
 rw [one_d h0] at DF
 have q0 : ((s.length : Int) == 0) = false := beq_eq_false_iff_ne.2 (by omega)
 have DF := Hd DF
 have HM0 := Hd hm
 clear hf hlf hm
 obtain ⟨V3, hVb⟩ : ∃ x, x = w.alloc (.cells #[.bool sf, .int .i64 uf, .slice aaf af.length caf, .slice abf bf.length cbf] 44) := ⟨_, rfl⟩
 have kab : Kp w V3 := by rw [hVb]; exact Kp.alloc _ _
 have gqb0 : V3.heap[w.heap.size]? = some (.cells #[.bool sf, .int .i64 uf, .slice aaf af.length caf, .slice abf bf.length cbf] 44 (0, 0)) := by rw [hVb]; exact heap_at _ _ _ (by first | rfl | simp)
 have KSb := Hd (fun w' (kq : Kp V3 w') => show w'.cell? ⟨w.heap.size, 0, none⟩ = some (.bool sf) ∧ w'.cell? ⟨w.heap.size, 1, none⟩ = some (.int .i64 uf) ∧ w'.cell? ⟨w.heap.size, 2, none⟩ = some (.slice aaf af.length caf) ∧ w'.cell? ⟨w.heap.size, 3, none⟩ = some (.slice abf bf.length cbf) ∧ Kp V3 w' from ⟨(row4 (heap_block kq gqb0)).1, (row4 (heap_block kq gqb0)).2.1, (row4 (heap_block kq gqb0)).2.2.1, (row4 (heap_block kq gqb0)).2.2.2, kq⟩)
 have GQb0 := Hd gqb0
 have HVb := Hd hVb
 have KB := Hd kab
 clear hVb kab gqb0
 have kkV3 : Kp V3 V3 := Kp.refl _
 go_enter Tryz.func38, Tryz.ntmps38
 go_wp2_with fail
 rw [← HVb.out]
 refine (C.out _ KB.out).mono ?_
 rintro e w1 ⟨va9, vb9, rfl, okh, kk0⟩
 obtain ⟨ax, cx, rfl⟩ := okh.a.slice
 obtain ⟨ay, cy, e2⟩ := okh.b.slice
 have e2 : vb9 = .slice ay 0 cy := e2
 subst e2
 have kk : Kp V3 w1 := kk0
 have kk3 : Kp V3 (w1.alloc (.cells #[.bool false, .int .i64 0, .slice ax s.length cx, .slice ay 0 cy] 44)) := kk.trans (Kp.alloc _ _)
 obtain ⟨V, hVc⟩ : ∃ x, x = w1.alloc (.cells #[.bool false, .int .i64 0, .slice ax s.length cx, .slice ay 0 cy] 44) := ⟨_, rfl⟩
 have kac : Kp w1 V := by rw [hVc]; exact Kp.alloc _ _
 have gqc0 : V.heap[w1.heap.size]? = some (.cells #[.bool false, .int .i64 0, .slice ax s.length cx, .slice ay 0 cy] 44 (0, 0)) := by rw [hVc]; exact heap_at _ _ _ (by first | rfl | simp)
 rw [← hVc] at kk3
 have KSc := Hd (fun w' (kq : Kp V w') => show w'.cell? ⟨w1.heap.size, 0, none⟩ = some (.bool false) ∧ w'.cell? ⟨w1.heap.size, 1, none⟩ = some (.int .i64 0) ∧ w'.cell? ⟨w1.heap.size, 2, none⟩ = some (.slice ax s.length cx) ∧ w'.cell? ⟨w1.heap.size, 3, none⟩ = some (.slice ay 0 cy) ∧ Kp V w' from ⟨(row4 (heap_block kq gqc0)).1, (row4 (heap_block kq gqc0)).2.1, (row4 (heap_block kq gqc0)).2.2.1, (row4 (heap_block kq gqc0)).2.2.2, kq⟩)
 have GQc0 := Hd gqc0
 have HVc := Hd hVc
 have KC := Hd kac
 clear hVc kac gqc0
 have kkV : Kp V V := Kp.refl _
 have KV := Hd (KB.out.trans kk3)
 have OKH := Hd (okh.kp KC.out)
 have HVM := Hd (HM0.out.kp KV.out)
 have ns := okh.na
 simp only at ns
 clear okh kk kk0 kk3 C KSb HM0
 go_upto_region 2 with fail
 rw [← HVc.out]
 clear HVc
 obtain ⟨xc0, xc1, xc2, xc3, _⟩ := KSc.out _ kkV
 have CC := Hd (fun w2 (kk : Kp V w2) => nidaysO_any ⟨false, 0, s, []⟩ _ _ _ m w2 (OKH.out.kp kk) (HVM.out.kp kk) hl n1 n2)
 simp only [leafV] at CC
 go_wp2_with fail
 refine (CC.out _ (Kp.refl _)).mono ?_
 rintro e w2 ⟨v6, m6, rfl, hm6, ov6, ow6, kk⟩
 have K2 := Hd (KV.out.trans kk)
 have M6 := Hd (hm6.trans DF.out.symm)
 have OV := Hd (ov6.mono KV.out.size)
 have OW := Hd (own_mono ow6 KV.out.size)
 clear kk hm6 ov6 ow6
 go_wp2
 go_ret
 exact ⟨_, m6, rfl, M6.out, OV.out, OW.out, K2.out⟩
theorem rone_u (f : LF) (vfa vfb vm : Value) (m : List LF) (w : World) (hf : LeafOk w f vfa vfb) (hm : LeavesAt w vm m) {k : Int} {s : List R} (hlf : lfOf (famR f) = ⟨false, k, s, []⟩) (h0 : ¬ s.length = 0) (k0 : k ≠ 0) (ss : setB k s = true) (hn : (nums s).length ≤ 1000) (hl : LsOk m) :
  Calls Tryz.prog 38 #[leafV f vfa vfb, vm] w fun e w' => ∃ v' x, e = .returned v' ∧ x.map Prod.fst = oneL f m ∧ OwnV w' w.heap.size x ∧ w'.ownsRow w.heap.size 44 4 v' x.length (cellsV x) ∧ Kp w w' := by
 have C := Hd (fun w1 (kk : Kp w w1) => refTidy_any f vfa vfb w1 (hf.kp kk))
 have DF : oneL f m = oneT (lfOf (famR f)) m := rfl
 rw [hlf] at C DF
 generalize oneL f m = DX at *
 obtain ⟨sf, uf, af, bf⟩ := f
 obtain ⟨aaf, caf, rfl⟩ := hf.a.slice
 obtain ⟨abf, cbf, rfl⟩ := hf.b.slice
 simp only [leafV] at C ⊢
 have hmm := hm.len
 unfold maxLen at hmm
 obtain ⟨adm, cpm, rfl⟩ := hm.slice
 rw [one_u h0 k0] at DF
 have p0 : (k == 0) = false := beq_eq_false_iff_ne.2 k0
 have q0 : ((s.length : Int) == 0) = false := beq_eq_false_iff_ne.2 (by omega)
 have DF := Hd DF
 have HM0 := Hd hm
 clear hf hlf hm
 obtain ⟨V3, hVb⟩ : ∃ x, x = w.alloc (.cells #[.bool sf, .int .i64 uf, .slice aaf af.length caf, .slice abf bf.length cbf] 44) := ⟨_, rfl⟩
 have kab : Kp w V3 := by rw [hVb]; exact Kp.alloc _ _
 have gqb0 : V3.heap[w.heap.size]? = some (.cells #[.bool sf, .int .i64 uf, .slice aaf af.length caf, .slice abf bf.length cbf] 44 (0, 0)) := by rw [hVb]; exact heap_at _ _ _ (by first | rfl | simp)
 have KSb := Hd (fun w' (kq : Kp V3 w') => show w'.cell? ⟨w.heap.size, 0, none⟩ = some (.bool sf) ∧ w'.cell? ⟨w.heap.size, 1, none⟩ = some (.int .i64 uf) ∧ w'.cell? ⟨w.heap.size, 2, none⟩ = some (.slice aaf af.length caf) ∧ w'.cell? ⟨w.heap.size, 3, none⟩ = some (.slice abf bf.length cbf) ∧ Kp V3 w' from ⟨(row4 (heap_block kq gqb0)).1, (row4 (heap_block kq gqb0)).2.1, (row4 (heap_block kq gqb0)).2.2.1, (row4 (heap_block kq gqb0)).2.2.2, kq⟩)
 have GQb0 := Hd gqb0
 have HVb := Hd hVb
 have KB := Hd kab
 clear hVb kab gqb0
 have kkV3 : Kp V3 V3 := Kp.refl _
 go_enter Tryz.func38, Tryz.ntmps38
 go_wp2_with fail
 rw [← HVb.out]
 refine (C.out _ KB.out).mono ?_
 rintro e w1 ⟨va9, vb9, rfl, okh, kk0⟩
 obtain ⟨ax, cx, rfl⟩ := okh.a.slice
 obtain ⟨ay, cy, e2⟩ := okh.b.slice
 have e2 : vb9 = .slice ay 0 cy := e2
 subst e2
 have kk : Kp V3 w1 := kk0
 have kk3 : Kp V3 (w1.alloc (.cells #[.bool false, .int .i64 k, .slice ax s.length cx, .slice ay 0 cy] 44)) := kk.trans (Kp.alloc _ _)
 obtain ⟨V, hVc⟩ : ∃ x, x = w1.alloc (.cells #[.bool false, .int .i64 k, .slice ax s.length cx, .slice ay 0 cy] 44) := ⟨_, rfl⟩
 have kac : Kp w1 V := by rw [hVc]; exact Kp.alloc _ _
 have gqc0 : V.heap[w1.heap.size]? = some (.cells #[.bool false, .int .i64 k, .slice ax s.length cx, .slice ay 0 cy] 44 (0, 0)) := by rw [hVc]; exact heap_at _ _ _ (by first | rfl | simp)
 rw [← hVc] at kk3
 have KSc := Hd (fun w' (kq : Kp V w') => show w'.cell? ⟨w1.heap.size, 0, none⟩ = some (.bool false) ∧ w'.cell? ⟨w1.heap.size, 1, none⟩ = some (.int .i64 k) ∧ w'.cell? ⟨w1.heap.size, 2, none⟩ = some (.slice ax s.length cx) ∧ w'.cell? ⟨w1.heap.size, 3, none⟩ = some (.slice ay 0 cy) ∧ Kp V w' from ⟨(row4 (heap_block kq gqc0)).1, (row4 (heap_block kq gqc0)).2.1, (row4 (heap_block kq gqc0)).2.2.1, (row4 (heap_block kq gqc0)).2.2.2, kq⟩)
 have GQc0 := Hd gqc0
 have HVc := Hd hVc
 have KC := Hd kac
 clear hVc kac gqc0
 have kkV : Kp V V := Kp.refl _
 have KV := Hd (KB.out.trans kk3)
 have OKH := Hd (okh.kp KC.out)
 have HVM := Hd (HM0.out.kp KV.out)
 have ns := okh.na
 simp only at ns
 clear okh kk kk0 kk3 C KSb HM0
 go_upto_region 2 with fail
 rw [← HVc.out]
 clear HVc
 obtain ⟨xc0, xc1, xc2, xc3, _⟩ := KSc.out _ kkV
 have CC := Hd (fun w2 (kk : Kp V w2) => niunitsO_any ⟨false, k, s, []⟩ _ _ _ m w2 (OKH.out.kp kk) ss hn (HVM.out.kp kk) hl)
 simp only [leafV] at CC
 go_wp2_with fail
 refine (CC.out _ (Kp.refl _)).mono ?_
 rintro e w2 ⟨v6, m6, rfl, hm6, ov6, ow6, kk⟩
 have K2 := Hd (KV.out.trans kk)
 have M6 := Hd (hm6.trans DF.out.symm)
 have OV := Hd (ov6.mono KV.out.size)
 have OW := Hd (own_mono ow6 KV.out.size)
 clear kk hm6 ov6 ow6
 go_wp2
 go_ret
 exact ⟨_, m6, rfl, M6.out, OV.out, OW.out, K2.out⟩
theorem rone_s (f : LF) (vfa vfb vm : Value) (m : List LF) (w : World) (hf : LeafOk w f vfa vfb) (hm : LeavesAt w vm m) {s t : List R} (hlf : lfOf (famR f) = ⟨true, 0, s, t⟩) (m1 : 0 < s.length) (hl : LsOk m) (nm : m.length ≤ 100) (hfu : ∀ g ∈ m, FewU g) (hsp : FOK (.span s t)) :
  Calls Tryz.prog 38 #[leafV f vfa vfb, vm] w fun e w' => ∃ v' x, e = .returned v' ∧ x.map Prod.fst = oneL f m ∧ OwnV w' w.heap.size x ∧ w'.ownsRow w.heap.size 44 4 v' x.length (cellsV x) ∧ Kp w w' := by
 have C := Hd (fun w1 (kk : Kp w w1) => refTidy_any f vfa vfb w1 (hf.kp kk))
 have DF : oneL f m = oneT (lfOf (famR f)) m := rfl
 rw [hlf] at C DF
 generalize oneL f m = DX at *
 obtain ⟨sf, uf, af, bf⟩ := f
 obtain ⟨aaf, caf, rfl⟩ := hf.a.slice
 obtain ⟨abf, cbf, rfl⟩ := hf.b.slice
 simp only [leafV] at C ⊢
 have hmm := hm.len
 unfold maxLen at hmm
 obtain ⟨adm, cpm, rfl⟩ := hm.slice
 rw [one_s m1] at DF
 have q0 : ((s.length : Int) == 0) = false := beq_eq_false_iff_ne.2 (by omega)
 have DF := Hd DF
 have HM0 := Hd hm
 clear hf hlf hm
 obtain ⟨V3, hVb⟩ : ∃ x, x = w.alloc (.cells #[.bool sf, .int .i64 uf, .slice aaf af.length caf, .slice abf bf.length cbf] 44) := ⟨_, rfl⟩
 have kab : Kp w V3 := by rw [hVb]; exact Kp.alloc _ _
 have gqb0 : V3.heap[w.heap.size]? = some (.cells #[.bool sf, .int .i64 uf, .slice aaf af.length caf, .slice abf bf.length cbf] 44 (0, 0)) := by rw [hVb]; exact heap_at _ _ _ (by first | rfl | simp)
 have KSb := Hd (fun w' (kq : Kp V3 w') => show w'.cell? ⟨w.heap.size, 0, none⟩ = some (.bool sf) ∧ w'.cell? ⟨w.heap.size, 1, none⟩ = some (.int .i64 uf) ∧ w'.cell? ⟨w.heap.size, 2, none⟩ = some (.slice aaf af.length caf) ∧ w'.cell? ⟨w.heap.size, 3, none⟩ = some (.slice abf bf.length cbf) ∧ Kp V3 w' from ⟨(row4 (heap_block kq gqb0)).1, (row4 (heap_block kq gqb0)).2.1, (row4 (heap_block kq gqb0)).2.2.1, (row4 (heap_block kq gqb0)).2.2.2, kq⟩)
 have GQb0 := Hd gqb0
 have HVb := Hd hVb
 have KB := Hd kab
 clear hVb kab gqb0
 have kkV3 : Kp V3 V3 := Kp.refl _
 go_enter Tryz.func38, Tryz.ntmps38
 go_wp2_with fail
 rw [← HVb.out]
 refine (C.out _ KB.out).mono ?_
 rintro e w1 ⟨va9, vb9, rfl, okh, kk0⟩
 obtain ⟨ax, cx, rfl⟩ := okh.a.slice
 obtain ⟨ay, cy, rfl⟩ := okh.b.slice
 have nt := okh.nb
 simp only at nt
 have kk : Kp V3 w1 := kk0
 have kk3 : Kp V3 (w1.alloc (.cells #[.bool true, .int .i64 0, .slice ax s.length cx, .slice ay t.length cy] 44)) := kk.trans (Kp.alloc _ _)
 obtain ⟨V, hVc⟩ : ∃ x, x = w1.alloc (.cells #[.bool true, .int .i64 0, .slice ax s.length cx, .slice ay t.length cy] 44) := ⟨_, rfl⟩
 have kac : Kp w1 V := by rw [hVc]; exact Kp.alloc _ _
 have gqc0 : V.heap[w1.heap.size]? = some (.cells #[.bool true, .int .i64 0, .slice ax s.length cx, .slice ay t.length cy] 44 (0, 0)) := by rw [hVc]; exact heap_at _ _ _ (by first | rfl | simp)
 rw [← hVc] at kk3
 have KSc := Hd (fun w' (kq : Kp V w') => show w'.cell? ⟨w1.heap.size, 0, none⟩ = some (.bool true) ∧ w'.cell? ⟨w1.heap.size, 1, none⟩ = some (.int .i64 0) ∧ w'.cell? ⟨w1.heap.size, 2, none⟩ = some (.slice ax s.length cx) ∧ w'.cell? ⟨w1.heap.size, 3, none⟩ = some (.slice ay t.length cy) ∧ Kp V w' from ⟨(row4 (heap_block kq gqc0)).1, (row4 (heap_block kq gqc0)).2.1, (row4 (heap_block kq gqc0)).2.2.1, (row4 (heap_block kq gqc0)).2.2.2, kq⟩)
 have GQc0 := Hd gqc0
 have HVc := Hd hVc
 have KC := Hd kac
 clear hVc kac gqc0
 have kkV : Kp V V := Kp.refl _
 have KV := Hd (KB.out.trans kk3)
 have OKH := Hd (okh.kp KC.out)
 have HVM := Hd (HM0.out.kp KV.out)
 have ns := okh.na
 simp only at ns
 clear okh kk kk0 kk3 C KSb HM0
 go_upto_region 2 with fail
 rw [← HVc.out]
 clear HVc
 obtain ⟨xc0, xc1, xc2, xc3, _⟩ := KSc.out _ kkV
 obtain ⟨h0, hi, hz0, hz1, hz2⟩ := info_parts infoLeaf
 have HL := Hd hl
 have PN := Hd (fun k (h : k < m.length) => wt_next (a := s) (b := t) h)
 have PA := Hd (wt_all s t m)
 have PB := Hd (fun k => wt_len (a := s) (b := t) hfu k)
 have P0 := Hd (show wtN s t m 0 = [] from rfl)
 have CW := Hd (fun (g : LF) (hg : g ∈ m) va vb w2 (kk : Kp V w2) (lk : LeafOk w2 g va vb) => rwit_any g ⟨true, 0, s, t⟩ va vb _ _ w2 lk (OKH.out.kp kk) hsp (fun h1 h2 => Nat.le_trans (hfu g hg h1 h2) (by decide)))
 have W1 := Hd (fun (g : LF) (hg : g ∈ m) => wit_len (a := s) (b := t) (hfu g hg))
 have ltc := heap_lt GQc0.out
 generalize wtN s t m = PX at *
 clear hl hfu hsp OKH
 go_wp2
 go_loopw [6, 7] (fun v i wr => ∃ (k : Nat) (x : List (LF × VV)), k ≤ m.length ∧ i = .int .i64 k ∧ Hid (x.map Prod.fst = PX k) ∧ Hid (OwnV wr V.heap.size x) ∧ Hid (wr.ownsRow V.heap.size 44 4 v x.length (cellsV x)) ∧ Hid (Kp V wr)) (fun _ i _ => m.length - (intOf i).toNat)
 case atStart => exact ⟨0, [], Nat.zero_le _, rfl, Hd (by rw [P0.out]; rfl), Hd (fun p hp => by cases hp), Hd (World.ownsRow_nil _ _ _ _), Hd (Kp.refl _)⟩
 case round =>
  obtain ⟨k, x, hk, rfl, HM, OV, OW, J⟩ := hrel
  have ow := OW.out
  obtain ⟨a5, l5, rfl⟩ := own_slice4 ow
  clear ow
  by_cases hlt : k < m.length
  ·have q1 : decide ((k : Int) < (m.length : Int)) = true := dT
   have pn := PN.out k hlt
   have pb := PB.out k
   have fm := lat_mem hlt
   rcases HVM.out.kp J.out with ⟨_, _, _, e⟩ | ⟨b0, off, cap, ev, hc, hmx, hx⟩
   ·rw [e] at hlt; simp at hlt
   cases ev
   obtain ⟨va, vb, d0, d1, d2, d3, ra, rb⟩ := hx k hlt
   have LOK := HL.out _ (lat_mem hlt)
   obtain ⟨f, hf⟩ : ∃ f, lat m k = f := ⟨_, rfl⟩
   rw [hf] at d0 d1 ra rb
   (try rw [hf] at LOK)
   obtain ⟨sp, u, a, b⟩ := f
   simp only at d0 d1 ra rb
   (try simp only at LOK)
   obtain ⟨aa, ca, rfl⟩ := ra.slice
   obtain ⟨ab, cb, rfl⟩ := rb.slice
   have HF := Hd hf
   have z1 : (k : Int) < (m.length : Int) := by omega
   have z2 : (0 : Int) ≤ (k : Int) := by omega
   clear hx hc hmx hf
   have ltb := lv_lt HVM.out hlt
   rw [HF.out] at pn fm
   have xl : x.length = (PX k).length := by have := congrArg List.length HM.out; rwa [List.length_map] at this
   have w1b := W1.out _ fm
   have FO : LeafOk wr ⟨sp, u, a, b⟩ _ _ := ⟨ra, rb, LOK.1, LOK.2.1, LOK.2.2.1, LOK.2.2.2⟩
   have CB := Hd (fun w2 (kk : Kp wr w2) => CW.out _ fm _ _ w2 (J.out.trans kk) (FO.kp kk))
   simp only [leafV] at CB
   generalize witL s t ⟨sp, u, a, b⟩ = WX at *
   have PNH := Hd pn
   have xb : x.length ≤ 1000000 := by omega
   have NEC := Hd (own_below OW.out ltc)
   have NEB := Hd (own_below OW.out ltb)
   obtain ⟨y0, y1, y2, y3, _⟩ := KSc.out wr J.out
   have kkwr : Kp wr wr := Kp.refl _
   have KSz := Hd (fun w' (kq : Kp wr w') => show w'.cell? ⟨w1.heap.size, 0, none⟩ = some (.bool true) ∧ w'.cell? ⟨w1.heap.size, 1, none⟩ = some (.int .i64 0) ∧ w'.cell? ⟨w1.heap.size, 2, none⟩ = some (.slice ax s.length cx) ∧ w'.cell? ⟨w1.heap.size, 3, none⟩ = some (.slice ay t.length cy) ∧ w'.cell? ⟨b0, off + k * 4, none⟩ = some (.bool sp) ∧ w'.cell? ⟨b0, off + k * 4 + 1, none⟩ = some (.int .i64 u) ∧ w'.cell? ⟨b0, off + k * 4 + 2, none⟩ = some (.slice aa a.length ca) ∧ w'.cell? ⟨b0, off + k * 4 + 3, none⟩ = some (.slice ab b.length cb) ∧ Kp wr w' from ⟨cell_up kq y0, cell_up kq y1, cell_up kq y2, cell_up kq y3, cell_up kq d0, cell_up kq d1, cell_up kq d2, cell_up kq d3, kq⟩)
   have KCz := Hd (fun w' (kq : Kp wr w') => show w'.cell? ⟨w1.heap.size, 0, none⟩ = some (.bool true) ∧ w'.cell? ⟨w1.heap.size, 1, none⟩ = some (.int .i64 0) ∧ w'.cell? ⟨w1.heap.size, 2, none⟩ = some (.slice ax s.length cx) ∧ w'.cell? ⟨w1.heap.size, 3, none⟩ = some (.slice ay t.length cy) ∧ w'.cell? ⟨b0, off + k * 4, none⟩ = some (.bool sp) ∧ w'.cell? ⟨b0, off + k * 4 + 1, none⟩ = some (.int .i64 u) ∧ w'.cell? ⟨b0, off + k * 4 + 2, none⟩ = some (.slice aa a.length ca) ∧ w'.cell? ⟨b0, off + k * 4 + 3, none⟩ = some (.slice ab b.length cb) from ⟨(KSz.out w' kq).1, (KSz.out w' kq).2.1, (KSz.out w' kq).2.2.1, (KSz.out w' kq).2.2.2.1, (KSz.out w' kq).2.2.2.2.1, (KSz.out w' kq).2.2.2.2.2.1, (KSz.out w' kq).2.2.2.2.2.2.1, (KSz.out w' kq).2.2.2.2.2.2.2.1⟩)
   clear ra rb FO LOK HF pn pb fm CW PN PB W1 y0 y1 y2 y3 d0 d1 d2 d3 xl ltb
   go_upto_region 12 with fail
   refine wp_region_held_drew (S := fun w' => w'.cell? ⟨w1.heap.size, 0, none⟩ = some (.bool true) ∧ w'.cell? ⟨w1.heap.size, 1, none⟩ = some (.int .i64 0) ∧ w'.cell? ⟨w1.heap.size, 2, none⟩ = some (.slice ax s.length cx) ∧ w'.cell? ⟨w1.heap.size, 3, none⟩ = some (.slice ay t.length cy) ∧ w'.cell? ⟨b0, off + k * 4, none⟩ = some (.bool sp) ∧ w'.cell? ⟨b0, off + k * 4 + 1, none⟩ = some (.int .i64 u) ∧ w'.cell? ⟨b0, off + k * 4 + 2, none⟩ = some (.slice aa a.length ca) ∧ w'.cell? ⟨b0, off + k * 4 + 3, none⟩ = some (.slice ab b.length cb)) (by kernel_rfl) ?_ (fun hHeld0 => ?_)
   ·(try dsimp only); exact KCz.out _ (ky kkwr)
   refine tkv 0 niR0 ?_
   (try simp only [Act.put, niR0, xA, xB, xC])
   refine tkv 1 niR1 ?_
   (try simp only [Act.put, niR1, xA, xB, xC])
   refine tkv 2 niR2 ?_
   (try simp only [Act.put, niR2, xA, xB, xC])
   refine tkv 3 niR3 ?_
   (try simp only [Act.put, niR3, xA, xB, xC])
   refine tkv 4 niR4 ?_
   (try simp only [Act.put, niR4, xA, xB, xC])
   refine tkv 5 niR5 ?_
   (try simp only [Act.put, niR5, xA, xB, xC])
   refine tkE 6 niR6 rfl (by kernel_rfl) (fun K hK => ?_)
   go_simp
   (refine (CB.out _ (ky kkwr)).mono ?_; rintro e wb ⟨v6, m6, rfl, hm6, ov6, ow6, kq1⟩; have kkwb : Kp wr wb := Kp.trans (show Kp wr _ from (ky kkwr)) kq1; obtain ⟨a6, l6, rfl⟩ := own_slice4 ow6; have OL := Hd ow6; have OM := Hd (ov6.mono (J.out.trans (show Kp wr _ from (ky kkwr))).size); have HM6 := Hd hm6; have l6b : m6.length ≤ 1000 := (by have := congrArg List.length hm6; rw [List.length_map] at this; omega); clear ow6 ov6 hm6; clear kq1)
   (try go_wp2_with fail)
   refine hK.out _ _ ?_ (fun hHeld1 => ?_)
   ·(try dsimp only); exact KCz.out _ (ky kkwb)
   clear hK K hHeld0
   (try simp only [Act.put, niR6, xA, xB, xC])
   refine tkE 7 niR7 rfl (by kernel_rfl) (fun K hK => ?_)
   (refine step_appS rfl (.tmp 37) (.tmp 43) 22 rfl V.heap.size 44 h0 _ 4 64 Tryz.underlying22 hi hz0 hz1 hz2 rfl (by decide) (.slice a5 x.length l5) (x.length) (cellsV x) (by simp [Act.eval, Act.put]) (own_kp OW.out (show Kp wr _ from (ky kkwb))) (.slice a6 m6.length l6) (m6.length) (cellsV m6) (by simp [Act.eval, Act.put]) (own_srcV (own_kp OL.out (ky (Kp.refl wb)))) (cellsV_length _) (cellsV_one (OwnV.reads (OM.out.kp (ky (Kp.refl wb))))) (by (try simp only [List.length_append, List.length_cons, List.length_nil]); unfold maxLen; omega) (by (try simp only [List.length_append, List.length_cons, List.length_nil]); omega) (Nat.le_trans J.out.size (show Kp wr _ from (ky kkwb)).size) ?_; intro v7 w7 hown hgrow hat; have SG := Hd (show w7.cell? ⟨w1.heap.size, 0, none⟩ = some (.bool true) ∧ w7.cell? ⟨w1.heap.size, 1, none⟩ = some (.int .i64 0) ∧ w7.cell? ⟨w1.heap.size, 2, none⟩ = some (.slice ax s.length cx) ∧ w7.cell? ⟨w1.heap.size, 3, none⟩ = some (.slice ay t.length cy) ∧ w7.cell? ⟨b0, off + k * 4, none⟩ = some (.bool sp) ∧ w7.cell? ⟨b0, off + k * 4 + 1, none⟩ = some (.int .i64 u) ∧ w7.cell? ⟨b0, off + k * 4 + 2, none⟩ = some (.slice aa a.length ca) ∧ w7.cell? ⟨b0, off + k * 4 + 3, none⟩ = some (.slice ab b.length cb) from ⟨grown_up hgrow (KCz.out _ (ky kkwb)).1 NEC.out, grown_up hgrow (KCz.out _ (ky kkwb)).2.1 NEC.out, grown_up hgrow (KCz.out _ (ky kkwb)).2.2.1 NEC.out, grown_up hgrow (KCz.out _ (ky kkwb)).2.2.2.1 NEC.out, grown_up hgrow (KCz.out _ (ky kkwb)).2.2.2.2.1 NEB.out, grown_up hgrow (KCz.out _ (ky kkwb)).2.2.2.2.2.1 NEB.out, grown_up hgrow (KCz.out _ (ky kkwb)).2.2.2.2.2.2.1 NEB.out, grown_up hgrow (KCz.out _ (ky kkwb)).2.2.2.2.2.2.2 NEB.out⟩); have SGU := Hd (fun w' (kq : Kp w7 w') => show w'.cell? ⟨w1.heap.size, 0, none⟩ = some (.bool true) ∧ w'.cell? ⟨w1.heap.size, 1, none⟩ = some (.int .i64 0) ∧ w'.cell? ⟨w1.heap.size, 2, none⟩ = some (.slice ax s.length cx) ∧ w'.cell? ⟨w1.heap.size, 3, none⟩ = some (.slice ay t.length cy) ∧ w'.cell? ⟨b0, off + k * 4, none⟩ = some (.bool sp) ∧ w'.cell? ⟨b0, off + k * 4 + 1, none⟩ = some (.int .i64 u) ∧ w'.cell? ⟨b0, off + k * 4 + 2, none⟩ = some (.slice aa a.length ca) ∧ w'.cell? ⟨b0, off + k * 4 + 3, none⟩ = some (.slice ab b.length cb) from ⟨cell_up kq SG.out.1, cell_up kq SG.out.2.1, cell_up kq SG.out.2.2.1, cell_up kq SG.out.2.2.2.1, cell_up kq SG.out.2.2.2.2.1, cell_up kq SG.out.2.2.2.2.2.1, cell_up kq SG.out.2.2.2.2.2.2.1, cell_up kq SG.out.2.2.2.2.2.2.2⟩); have OV7 := Hd (((OV.out.kp (show Kp wr _ from (ky kkwb))).append (OM.out.kp (ky (Kp.refl wb)))).grown hgrow (own_kp OW.out (show Kp wr _ from (ky kkwb)))); have OW7 := Hd hown; have KG := Hd (Kp.grown (show Kp V _ from J.out.trans (show Kp wr _ from (ky kkwb))) hgrow (fun j hj => (OW.out.lt j hj).1)); clear hown hgrow hat)
   (try go_wp2_with fail)
   refine hK.out _ _ ?_ (fun hHeld2 => ?_)
   ·(try dsimp only); exact SGU.out _ (ky (Kp.refl w7))
   clear hK K hHeld1
   (try simp only [Act.put, niR7, xA, xB, xC])
   refine tkv 8 niR8 ?_
   (try simp only [Act.put, niR8, xA, xB, xC])
   refine wpAnyH_done (by kernel_rfl) ?_ _
   go_wp2
   go_roundw
   case rel => exact ⟨k + 1, x ++ m6, by omega, by go_num, Hd (by rw [List.map_append, HM.out, HM6.out, PNH.out]), Hd (OV7.out.kp (ky (Kp.refl w7))), Hd (by rw [List.length_append, cellsV_append]; exact own_kp OW7.out (ky (Kp.refl w7))), Hd (KG.out.trans (ky (Kp.refl w7)))⟩
   case measure => simp [intOf]; omega
  ·have q1 : decide ((k : Int) < (m.length : Int)) = false := dF
   obtain rfl : k = m.length := by omega
   have HE := Hd (show x.map Prod.fst = DX by rw [HM.out, PA.out, DF.out])
   have OVW := Hd (OV.out.mono KV.out.size)
   have OWW := Hd (own_mono OW.out KV.out.size)
   go_wp2
   go_ret
   exact ⟨_, x, rfl, HE.out, OVW.out, OWW.out, KV.out.trans J.out⟩
theorem rone_any (f : LF) (vfa vfb vm : Value) (m : List LF) (w : World) (hf : LeafOk w f vfa vfb) (hm : LeavesAt w vm m) (hl : LsOk m) (nm : m.length ≤ 100) (hfu : ∀ g ∈ m, FewU g) (hf1 : FewU f) (n1 : ∀ g ∈ m, (posR [g]).length ≤ 400) (n2 : ∀ k, (preN m k).length ≤ 1000) :
  Calls Tryz.prog 38 #[leafV f vfa vfb, vm] w fun e w' => ∃ v' x, e = .returned v' ∧ x.map Prod.fst = oneL f m ∧ OwnV w' w.heap.size x ∧ w'.ownsRow w.heap.size 44 4 v' x.length (cellsV x) ∧ Kp w w' := by
 unfold FewU at hf1
 have ok := famR_ok f
 rcases tidy_cases f with ⟨k, s, e, ss⟩ | ⟨s, t, e, s1, s2, m1, m2⟩
 ·rw [e] at hf1
  simp only at hf1
  by_cases h0 : s.length = 0
  ·exact rone_0 f vfa vfb vm m w hf hm e h0
  ·by_cases k0 : k = 0
   ·subst k0
    exact rone_d f vfa vfb vm m w hf hm e h0 hl n1 n2
   ·exact rone_u f vfa vfb vm m w hf hm e h0 k0 ss (Nat.le_trans (hf1 trivial k0) (by decide)) hl
 ·exact rone_s f vfa vfb vm m w hf hm e m1 hl nm hfu (span_fok e m1)
end Go.Proofs.YtcooaoponkkpeaaGreatDoor
