import Derived.Test.YtcooaoponkkpeaaGreatDoorGLeafA
import Derived.Test.YtcooaoponkkpeaaGreatDoorGBa
import Derived.Test.YtcooaoponkkpeaaGreatDoorGImgC
set_option maxHeartbeats 4000000
set_option maxRecDepth 100000
namespace Go.Proofs.YtcooaoponkkpeaaGreatDoor
open Go.RowKit
set_option linter.unusedVariables false
set_option linter.unusedSimpArgs false
def OwnR (w : World) (base : Nat) (v : Value) (l : List R) : Prop := w.ownsRow base 42 2 v l.length (cellsR l)
theorem OwnR.nil (w : World) (base : Nat) (ad : Option Addr) (h : ad = none) : OwnR w base (.slice ad 0 0) [] := by subst h; exact World.ownsRow_nil _ _ _ _
theorem OwnR.runs {w : World} {base : Nat} {v : Value} {l : List R} (h : OwnR w base v l) : RunsAt w v l := runsAt_own h
def FamO (w : World) (base : Nat) (v : Value) : Fam → Prop
 | .units k s => ∃ ad c, v = .iface 105 (.agg #[.int .i64 k, .slice ad s.length c]) ∧ RunsAt w (.slice ad s.length c) s
 | .span s e => ∃ ad c bd d, v = .iface 108 (.agg #[.slice ad s.length c, .slice bd e.length d]) ∧ OwnR w base (.slice ad s.length c) s ∧ OwnR w base (.slice bd e.length d) e
theorem famO_none (f : LF) (hf : leafB f = true) (hs : f.sp = true) (h0 : f.a.length = 0 ∨ f.b.length = 0) (va vb : Value) (w : World) (ha : RunsAt w va f.a) (hb : RunsAt w vb f.b) (ia : I64R f.a) (ib : I64R f.b) (na : f.a.length ≤ 1000000) (nb : f.b.length ≤ 1000000) (U : TabUC w) :
  Calls Tryz.prog 86 #[leafV f va vb] w fun e w' => ∃ v, e = .returned v ∧ FamO w' w.heap.size v (famR f) ∧ Kp w w' := by
 have C := Hd (fun w1 (kk : Kp w w1) => leafSane_any f va vb w1 (ha.kp kk) (hb.kp kk) ia ib na nb (U.kp kk))
 rw [hf] at C
 have E : famR f = .span [] [] := by unfold famR; rw [if_pos hf, if_pos hs, if_pos h0]
 rw [E]
 obtain ⟨sp, u, a, b⟩ := f
 simp only at hs h0
 subst hs
 obtain ⟨ad, ca, rfl⟩ := ha.slice
 obtain ⟨bd, cb, rfl⟩ := hb.slice
 unfold leafV at C ⊢
 simp only at ha hb ia ib na nb C ⊢
 have K0 := Hd (Kp.alloc w (.cells #[.bool true, .int .i64 u, .slice ad a.length ca, .slice bd b.length cb] 44))
 clear ha hb ia ib U hf E
 obtain ⟨z, hz⟩ : ∃ z, ((a.length : Int) == 0) = z := ⟨_, rfl⟩
 have H0 := Hd h0
 clear h0
 cases z with
 | true =>
  go_enter Tryz.func86, Tryz.ntmps86
  go_wp2_with fail
  refine (C.out _ K0.out).mono ?_
  rintro e w1 ⟨rfl, kk⟩
  have c0 := (Below.cell (p := ⟨w.heap.size, 0, none⟩) kk (by simp)).trans (show _ = some (.bool true) by simp)
  have c1 := (Below.cell (p := ⟨w.heap.size, 1, none⟩) kk (by simp)).trans (show _ = some (.int .i64 u) by simp)
  have c2 := (Below.cell (p := ⟨w.heap.size, 2, none⟩) kk (by simp)).trans (show _ = some (.slice ad a.length ca) by simp)
  have c3 := (Below.cell (p := ⟨w.heap.size, 3, none⟩) kk (by simp)).trans (show _ = some (.slice bd b.length cb) by simp)
  have K1 := Hd (K0.out.trans kk)
  clear kk C
  go_wp2
  go_ret
  exact ⟨_, rfl, ⟨none, 0, none, 0, rfl, OwnR.nil _ _ _ rfl, OwnR.nil _ _ _ rfl⟩, K1.out⟩
 | false =>
  have hb0 : ((b.length : Int) == 0) = true := by
   have h1 := beq_eq_false_iff_ne.1 hz
   have h2 : b.length = 0 := by rcases H0.out with h | h <;> omega
   rw [h2]; rfl
  go_enter Tryz.func86, Tryz.ntmps86
  go_wp2_with fail
  refine (C.out _ K0.out).mono ?_
  rintro e w1 ⟨rfl, kk⟩
  have c0 := (Below.cell (p := ⟨w.heap.size, 0, none⟩) kk (by simp)).trans (show _ = some (.bool true) by simp)
  have c1 := (Below.cell (p := ⟨w.heap.size, 1, none⟩) kk (by simp)).trans (show _ = some (.int .i64 u) by simp)
  have c2 := (Below.cell (p := ⟨w.heap.size, 2, none⟩) kk (by simp)).trans (show _ = some (.slice ad a.length ca) by simp)
  have c3 := (Below.cell (p := ⟨w.heap.size, 3, none⟩) kk (by simp)).trans (show _ = some (.slice bd b.length cb) by simp)
  have K1 := Hd (K0.out.trans kk)
  clear kk C
  go_wp2
  go_ret
  exact ⟨_, rfl, ⟨none, 0, none, 0, rfl, OwnR.nil _ _ _ rfl, OwnR.nil _ _ _ rfl⟩, K1.out⟩
theorem famO_span (f : LF) (hf : leafB f = true) (hs : f.sp = true) (ha0 : f.a.length ≠ 0) (hb0 : f.b.length ≠ 0) (va vb : Value) (w : World) (ha : RunsAt w va f.a) (hb : RunsAt w vb f.b) (ia : I64R f.a) (ib : I64R f.b) (na : f.a.length ≤ 1000000) (nb : f.b.length ≤ 1000000) (U : TabUC w) :
  Calls Tryz.prog 86 #[leafV f va vb] w fun e w' => ∃ v, e = .returned v ∧ FamO w' w.heap.size v (famR f) ∧ Kp w w' := by
 have C := Hd (fun w1 (kk : Kp w w1) => leafSane_any f va vb w1 (ha.kp kk) (hb.kp kk) ia ib na nb (U.kp kk))
 rw [hf] at C
 have E : famR f = .span (interR f.a [(0, greatR f.b)]) (interR f.b [(leastR f.a, 3652424)]) := by unfold famR; rw [if_pos hf, if_pos hs, if_neg (by omega)]
 rw [E]
 have G1 := greatR_i64 ib (by omega)
 have G2 := leastR_i64 ia (by omega)
 obtain ⟨sp, u, a, b⟩ := f
 simp only at hs ha0 hb0 G1 G2
 subst hs
 obtain ⟨ad, ca, rfl⟩ := ha.slice
 obtain ⟨bd, cb, rfl⟩ := hb.slice
 unfold leafV at C ⊢
 simp only at ha hb ia ib na nb C ⊢
 have K0 := Hd (Kp.alloc w (.cells #[.bool true, .int .i64 u, .slice ad a.length ca, .slice bd b.length cb] 44))
 have P1 := Hd (fun w1 (kk : Kp w w1) => clip_any _ a 0 (greatR b) w1 (ha.kp kk) ia na (i64_one (by omega) (by omega) G1.1 G1.2))
 have P2 := Hd (fun w1 (kk : Kp w w1) => clip_any _ b (leastR a) 3652424 w1 (hb.kp kk) ib nb (i64_one G2.1 G2.2 (by omega) (by omega)))
 have Q1 := Hd (fun w1 (kk : Kp w w1) => greatest_any _ b w1 (hb.kp kk) (by omega) nb)
 have Q2 := Hd (fun w1 (kk : Kp w w1) => least_any _ a w1 (ha.kp kk) (by omega))
 have z1 : ((a.length : Int) == 0) = false := beq_eq_false_iff_ne.2 (by omega)
 have z2 : ((b.length : Int) == 0) = false := beq_eq_false_iff_ne.2 (by omega)
 clear ha hb ia ib U hf E ha0 hb0 G1 G2
 generalize interR a [(0, greatR b)] = X1 at *
 generalize interR b [(leastR a, 3652424)] = X2 at *
 generalize greatR b = g at *
 generalize leastR a = m at *
 go_enter Tryz.func86, Tryz.ntmps86
 go_wp2_with fail
 refine (C.out _ K0.out).mono ?_
 rintro e w1 ⟨rfl, kk⟩
 have c0 := (Below.cell (p := ⟨w.heap.size, 0, none⟩) kk (by simp)).trans (show _ = some (.bool true) by simp)
 have c1 := (Below.cell (p := ⟨w.heap.size, 1, none⟩) kk (by simp)).trans (show _ = some (.int .i64 u) by simp)
 have c2 := (Below.cell (p := ⟨w.heap.size, 2, none⟩) kk (by simp)).trans (show _ = some (.slice ad a.length ca) by simp)
 have c3 := (Below.cell (p := ⟨w.heap.size, 3, none⟩) kk (by simp)).trans (show _ = some (.slice bd b.length cb) by simp)
 have K1 := Hd (K0.out.trans kk)
 clear kk C
 have hB : w.heap.size < w1.heap.size := World.block_lt_of_cell? _ _ c2
 have KS := Hd (fun w' (k : Kp w1 w') => show w'.cell? ⟨w.heap.size, 2, none⟩ = some (.slice ad a.length ca) ∧ w'.cell? ⟨w.heap.size, 3, none⟩ = some (.slice bd b.length cb) ∧ Kp w1 w' from
  ⟨(Below.cell (p := ⟨w.heap.size, 2, none⟩) k hB).trans c2, (Below.cell (p := ⟨w.heap.size, 3, none⟩) k hB).trans c3, k⟩)
 go_wp2_with fail
 go_region_held3 (fun w' => w'.cell? ⟨w.heap.size, 2, none⟩ = some (.slice ad a.length ca) ∧ w'.cell? ⟨w.heap.size, 3, none⟩ = some (.slice bd b.length cb) ∧ Kp w1 w') (first | exact KS.out _ kw)
  (first | (go_at_call 142; refine (Q1.out _ (K1.out.trans (Kp.drew _))).mono ?_; rintro e w' ⟨rfl, rfl⟩) | (go_at_call 143; first | (refine (Q2.out _ (K1.out.trans k2)).mono ?_; rintro e w' ⟨rfl, rfl⟩) | (refine (Q2.out _ (K1.out.trans (Kp.drew _))).mono ?_; rintro e w' ⟨rfl, rfl⟩)) | (go_at_call 79; first | (refine (P1.out _ (K1.out.trans (Kp.drew _))).mono ?_; rintro e w' ⟨v1, rfl, own1, k1⟩; obtain ⟨a1, s1, rfl⟩ := own_slice own1; have k2 := (Kp.drew w1).trans k1; clear P1) | (refine (P2.out _ (K1.out.trans k2)).mono ?_; rintro e w' ⟨v2, rfl, own2, k3⟩; obtain ⟨a2, s2, rfl⟩ := own_slice own2; have k4 := k2.trans k3)))
 have R1 := Hd (show OwnR _ w.heap.size _ _ from own_mono (own_kp own1 k3) (by first | exact K1.out.size | (have q1 := K1.out.size; have q2 := Below.size k1; omega) | (have q1 := K1.out.size; have q2 := Below.size k2; omega) | (have q1 := K1.out.size; have q2 := Below.size k3; omega)))
 have R2 := Hd (show OwnR _ w.heap.size _ _ from own_mono own2 (by first | exact K1.out.size | (have q1 := K1.out.size; have q2 := Below.size k1; omega) | (have q1 := K1.out.size; have q2 := Below.size k2; omega) | (have q1 := K1.out.size; have q2 := Below.size k3; omega)))
 have KK := Hd (K1.out.trans k4)
 clear own1 own2 k1 k2 k3 k4
 go_wp2
 go_ret
 exact ⟨_, rfl, ⟨_, _, _, _, rfl, R1.out, R2.out⟩, KK.out⟩
theorem famO_any (f : LF) (va vb : Value) (w : World) (h : LeafOk w f va vb) (U : TabUC w) :
  Calls Tryz.prog 86 #[leafV f va vb] w fun e w' => ∃ v, e = .returned v ∧ FamO w' w.heap.size v (famR f) ∧ Kp w w' := by
 have na : f.a.length ≤ 1000000 := by have := h.na; omega
 have nb : f.b.length ≤ 1000000 := by have := h.nb; omega
 have key : ∀ {k s}, famR f = .units k s → (Calls Tryz.prog 86 #[leafV f va vb] w fun e w' => ∃ v, e = .returned v ∧ FamAt w' v (famR f) ∧ Kp w w') → Calls Tryz.prog 86 #[leafV f va vb] w fun e w' => ∃ v, e = .returned v ∧ FamO w' w.heap.size v (famR f) ∧ Kp w w' := by
  intro k s e c
  rw [e] at c ⊢
  exact c
 rcases Bool.eq_false_or_eq_true (leafB f) with hf | hf
 ·rcases Bool.eq_false_or_eq_true f.sp with hs | hs
  ·by_cases h0 : f.a.length = 0 ∨ f.b.length = 0
   ·exact famO_none f hf hs h0 va vb w h.a h.b h.ia h.ib na nb U
   ·exact famO_span f hf hs (by omega) (by omega) va vb w h.a h.b h.ia h.ib na nb U
  ·exact key (famR_units hf hs) (fam_units f hf hs va vb w h.a h.b h.ia h.ib na nb U)
 ·exact key (famR_no hf) (fam_no f hf va vb w h.a h.b h.ia h.ib na nb U)
theorem narrowO_any (v : Value) (s : List R) (w : World) {base : Nat} (hv : OwnR w base v s) (hs : sane s) (hn : s.length ≤ 1000000) :
  Calls Tryz.prog 88 #[v] w fun e w' => ∃ v', e = .returned (.tuple #[v', .bool (decide (s.length ≤ 400))]) ∧ OwnR w' base v' (if s.length ≤ 400 then s else []) ∧ Kp w w' := by
 have C := Hd (wide_any v s w hv.runs (sane_i64 hs) hn)
 rw [nf_of_sane hs] at C
 have RS := Hd hv
 obtain ⟨ad, c, rfl⟩ := hv.runs.slice
 clear hv
 by_cases h4 : s.length ≤ 400
 ·rw [decide_eq_false (show ¬ 400 < s.length by omega)] at C
  rw [decide_eq_true h4, if_pos h4]
  go_enter Tryz.func88, Tryz.ntmps88
  go_wp2_with fail
  refine (C.out).mono ?_
  rintro e w1 ⟨rfl, kk⟩
  have K1 := Hd kk
  clear kk C
  go_wp2
  go_ret2
  exact ⟨_, rfl, own_kp RS.out K1.out, K1.out⟩
 ·rw [decide_eq_true (show 400 < s.length by omega)] at C
  rw [decide_eq_false h4, if_neg h4]
  go_enter Tryz.func88, Tryz.ntmps88
  go_wp2_with fail
  refine (C.out).mono ?_
  rintro e w1 ⟨rfl, kk⟩
  have K1 := Hd kk
  clear kk C
  go_wp2
  go_ret2
  exact ⟨_, rfl, OwnR.nil _ _ _ rfl, K1.out⟩
theorem leafStartsO_any (f : LF) (va vb : Value) (w : World) (h : LeafOk w f va vb) (T : Tabs w) :
  Calls Tryz.prog 41 #[leafV f va vb] w fun e w' => ∃ v, e = .returned (.tuple #[v, .bool (startsB (famR f))]) ∧ OwnR w' w.heap.size v (startsR (famR f)) ∧ Kp w w' := by
 have C := Hd (fun w1 (kk : Kp w w1) => famO_any f va vb w1 (h.kp kk) (T.kp kk).2)
 have FK := famR_ok f
 have FL := famR_len h.na h.nb
 obtain ⟨sp, u, a, b⟩ := f
 obtain ⟨ad, ca, rfl⟩ := h.a.slice
 obtain ⟨bd, cb, rfl⟩ := h.b.slice
 unfold leafV at C ⊢
 simp only at C ⊢
 have K0 := Hd (Kp.alloc w (.cells #[.bool sp, .int .i64 u, .slice ad a.length ca, .slice bd b.length cb] 44))
 have TT := Hd T
 generalize famR ⟨sp, u, a, b⟩ = F at *
 clear h T
 have h1 := asUU
 have h2 := asSU
 have h3 := asSS
 cases F with
 | units k s =>
  have S := Hd (fun w2 v (hv : RunsAt w2 v s) (T : Tabs w2) => starts_any k v s w2 hv (sane_i64 (setB_sane FK)) (Nat.le_trans FL (by omega)) T)
  rw [show startsB (.units k s) = edgB k s from rfl, show startsR (.units k s) = edgR (firV k) k s from rfl]
  generalize edgB k s = eb at *
  generalize edgR (firV k) k s = er at *
  go_enter Tryz.func41, Tryz.ntmps41
  go_wp2_with fail
  refine (C.out _ K0.out).mono ?_
  rintro e w1 ⟨v, rfl, ⟨ad1, c1, rfl, RS⟩, kk⟩
  have K1 := Hd (K0.out.trans kk)
  have R1 := Hd RS
  clear kk RS C
  go_wp2_with fail
  refine (S.out _ _ (R1.out.kp kx) (TT.out.kp (K1.out.trans kx))).mono ?_
  rintro e w2 ⟨v2, rfl, own, kk⟩
  have K2 := Hd (K1.out.trans ((show Kp w1 _ from kx).trans kk))
  have O2 := Hd (show OwnR _ w.heap.size _ _ from own_mono own (by first | exact K1.out.size | (have q1 := K1.out.size; simp; omega)))
  clear kk own S
  go_wp2
  go_ret2
  exact ⟨_, rfl, O2.out, K2.out⟩
 | span s e =>
  have S := Hd (fun w2 v base (hv : OwnR w2 base v s) => narrowO_any v s w2 hv (setB_sane FK.1) (Nat.le_trans FL.1 (by omega)))
  rw [show startsB (.span s e) = decide (s.length ≤ 400) from rfl, show startsR (.span s e) = (if s.length ≤ 400 then s else []) from rfl]
  generalize decide (s.length ≤ 400) = eb at *
  generalize (if s.length ≤ 400 then s else []) = er at *
  go_enter Tryz.func41, Tryz.ntmps41
  go_wp2_with fail
  refine (C.out _ K0.out).mono ?_
  rintro e w1 ⟨v, rfl, ⟨ad1, c1, bd1, d1, rfl, RS, RT⟩, kk⟩
  have K1 := Hd (K0.out.trans kk)
  have R1 := Hd RS
  have Q1 := Hd RT
  clear kk RS RT C
  go_wp2_with fail
  refine (S.out _ _ _ (own_kp R1.out kx)).mono ?_
  rintro e w2 ⟨v2, rfl, own, kk⟩
  have K2 := Hd (K1.out.trans ((show Kp w1 _ from kx).trans kk))
  have O2 := Hd (show OwnR _ w.heap.size _ _ from own_mono own (by first | exact Nat.le_refl _ | simp))
  clear kk own S
  go_wp2
  go_ret2
  exact ⟨_, rfl, O2.out, K2.out⟩
theorem leafEndsO_any (f : LF) (va vb : Value) (w : World) (h : LeafOk w f va vb) (T : Tabs w) :
  Calls Tryz.prog 42 #[leafV f va vb] w fun e w' => ∃ v, e = .returned (.tuple #[v, .bool (endsB (famR f))]) ∧ OwnR w' w.heap.size v (endsR (famR f)) ∧ Kp w w' := by
 have C := Hd (fun w1 (kk : Kp w w1) => famO_any f va vb w1 (h.kp kk) (T.kp kk).2)
 have FK := famR_ok f
 have FL := famR_len h.na h.nb
 obtain ⟨sp, u, a, b⟩ := f
 obtain ⟨ad, ca, rfl⟩ := h.a.slice
 obtain ⟨bd, cb, rfl⟩ := h.b.slice
 unfold leafV at C ⊢
 simp only at C ⊢
 have K0 := Hd (Kp.alloc w (.cells #[.bool sp, .int .i64 u, .slice ad a.length ca, .slice bd b.length cb] 44))
 have TT := Hd T
 generalize famR ⟨sp, u, a, b⟩ = F at *
 clear h T
 have h1 := asUU
 have h2 := asSU
 have h3 := asSS
 cases F with
 | units k s =>
  have S := Hd (fun w2 v (hv : RunsAt w2 v s) (T : Tabs w2) => ends_any k v s w2 hv (sane_i64 (setB_sane FK)) (Nat.le_trans FL (by omega)) T)
  rw [show endsB (.units k s) = edgB k s from rfl, show endsR (.units k s) = edgR (lasV k) k s from rfl]
  generalize edgB k s = eb at *
  generalize edgR (lasV k) k s = er at *
  go_enter Tryz.func42, Tryz.ntmps42
  go_wp2_with fail
  refine (C.out _ K0.out).mono ?_
  rintro e w1 ⟨v, rfl, ⟨ad1, c1, rfl, RS⟩, kk⟩
  have K1 := Hd (K0.out.trans kk)
  have R1 := Hd RS
  clear kk RS C
  go_wp2_with fail
  refine (S.out _ _ (R1.out.kp kx) (TT.out.kp (K1.out.trans kx))).mono ?_
  rintro e w2 ⟨v2, rfl, own, kk⟩
  have K2 := Hd (K1.out.trans ((show Kp w1 _ from kx).trans kk))
  have O2 := Hd (show OwnR _ w.heap.size _ _ from own_mono own (by first | exact K1.out.size | (have q1 := K1.out.size; simp; omega)))
  clear kk own S
  go_wp2
  go_ret2
  exact ⟨_, rfl, O2.out, K2.out⟩
 | span s e =>
  have S := Hd (fun w2 v base (hv : OwnR w2 base v e) => narrowO_any v e w2 hv (setB_sane FK.2.1) (Nat.le_trans FL.2 (by omega)))
  rw [show endsB (.span s e) = decide (e.length ≤ 400) from rfl, show endsR (.span s e) = (if e.length ≤ 400 then e else []) from rfl]
  generalize decide (e.length ≤ 400) = eb at *
  generalize (if e.length ≤ 400 then e else []) = er at *
  go_enter Tryz.func42, Tryz.ntmps42
  go_wp2_with fail
  refine (C.out _ K0.out).mono ?_
  rintro e w1 ⟨v, rfl, ⟨ad1, c1, bd1, d1, rfl, RS, RT⟩, kk⟩
  have K1 := Hd (K0.out.trans kk)
  have R1 := Hd RS
  have Q1 := Hd RT
  clear kk RS RT C
  go_wp2_with fail
  refine (S.out _ _ _ (own_kp Q1.out kx)).mono ?_
  rintro e w2 ⟨v2, rfl, own, kk⟩
  have K2 := Hd (K1.out.trans ((show Kp w1 _ from kx).trans kk))
  have O2 := Hd (show OwnR _ w.heap.size _ _ from own_mono own (by first | exact Nat.le_refl _ | simp))
  clear kk own S
  go_wp2
  go_ret2
  exact ⟨_, rfl, O2.out, K2.out⟩
theorem grown_set (w : World) (b o : Nat) (v : Value) : w.grownBy (w.setCell ⟨b, o, none⟩ v) (some b) := ⟨rfl, rfl, rfl, by simp [World.setCell], fun k hk hne => by
 have hne' : b ≠ k := fun e => hne (by rw [e])
 simp [World.setCell, Array.getElem?_modify, hne']⟩
theorem own_far4 {w : World} {base : Nat} {e : TypeId} {size : Nat} {v : Value} {n : Nat} {xs : List Value} (h : w.ownsRow base e size v n xs) {B : Nat} (hB : v.ownBlock ≠ some B) (x0 x1 x2 x3 : Value) : ((((w.setCell ⟨B, 0, none⟩ x0).setCell ⟨B, 1, none⟩ x1).setCell ⟨B, 2, none⟩ x2).setCell ⟨B, 3, none⟩ x3).ownsRow base e size v n xs := by
 have f : ∀ {w : World} (o : Nat) (x : Value), w.ownsRow base e size v n xs → (w.setCell ⟨B, o, none⟩ x).ownsRow base e size v n xs := fun {w} o x h => own_apart (v := .slice (some ⟨B, 0, none⟩) 1 1) h (grown_set w B o x) (fun k e1 e2 => by
  have e3 : B = k := by simpa [Value.ownBlock] using e1
  exact hB (by rw [e2, e3]))
 exact f 3 x3 (f 2 x2 (f 1 x1 (f 0 x0 h)))
theorem own_type_ne {w : World} {b s n : Nat} {e t : TypeId} {v : Value} {xs : List Value} {B : Nat} {c : Array Value} {fr : Nat × Nat} (h : w.ownsRow b e s v n xs) (g : w.heap[B]? = some (.cells c t fr)) (ne : e ≠ t) : v.ownBlock ≠ some B := fun q => by
 rcases h.2 with ⟨rfl, _⟩ | ⟨i, cp, cur, rfl, _, h1, _⟩
 ·cases q
 ·simp only [Value.ownBlock, Option.some.injEq] at q
  subst q
  rw [h1] at g
  simp only [Option.some.injEq, Obj.cells.injEq] at g
  exact ne g.2.1
theorem rmeetO_any (v u : Value) (l m : List R) (w : World) (hv : RunsAt w v l) (hu : RunsAt w u m) (hl : I64R l) (hm : I64R m) (hn : l.length ≤ 2000) (hn2 : m.length ≤ 2000) :
  Calls Tryz.prog 67 #[v, u] w fun e w' => ∃ v' : Value, e = .returned v' ∧ OwnR w' w.heap.size v' (interR l m) ∧ Kp w w' :=
 rmeetW_any v u l m w hv hu hl hm hn hn2
theorem rclipO_any (v : Value) (l : List R) (lo hi' : Int) (w : World) (hv : RunsAt w v l) (hl : I64R l) (hn : l.length ≤ 2000) (hi64 : I64R [(lo, hi')]) :
  Calls Tryz.prog 137 #[v, .int .i64 lo, .int .i64 hi'] w fun e w' => ∃ v' : Value, e = .returned v' ∧ OwnR w' w.heap.size v' (interR l [(lo, hi')]) ∧ Kp w w' :=
 rclipW_any v l lo hi' w hv hl hn hi64
end Go.Proofs.YtcooaoponkkpeaaGreatDoor
