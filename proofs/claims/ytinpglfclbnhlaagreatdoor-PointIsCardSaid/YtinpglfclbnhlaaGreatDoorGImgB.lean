/-
  Joined: ImgF, ImgG, ImgH.
-/
import Derived.Test.YtinpglfclbnhlaaGreatDoorImgE
namespace Go.Proofs.YtinpglfclbnhlaaGreatDoor
open Go.RowKit Go.Shelf
set_option linter.unusedVariables false
set_option linter.unusedSimpArgs false
attribute [local go_sem] Oper.semAt_some
theorem infoN : (Tryz.prog.info? 3).map (fun i => (i.zero, i.size, i.bytes)) = some (some (.int .i64 0), 1, 8) := by kernel_rfl
theorem intsAt_own {w : World} {base : Nat} {e : TypeId} {v : Value} {l : List Int} (h : w.ownsRow base e 1 v l.length (l.map (.int .i64))) : IntsAt w v l := by
  rcases h.2 with ⟨e1, h0⟩ | ⟨g, cp, cur, rfl, h2, h3, h4, h5, h6, h7⟩
  · exact .inl ⟨_, _, e1, List.length_eq_zero_iff.1 h0⟩
  · refine .inr ⟨g, 0, cp, rfl, h4, h5, fun i hi => ?_⟩
    rw [Nat.zero_add, h.cellAt _ (by omega)]
    simp [List.getD, hi]
theorem units_stops (n : Nat) (hn : 1 ≤ n) (Bk Bs B0 : Nat) (k : Int) (v : Value) (s : List R) (w : World) (hk : w.cell? ⟨Bk, 0, none⟩ = some (.int .i64 k)) (hs : w.cell? ⟨Bs, 0, none⟩ = some v)
    (hv : RunsAt w v s) (hl : I64R s) (hn2 : s.length ≤ 1000000) (T : Tabs w) (hB0 : B0 < w.heap.size) :
    SeqStopsK Fence.wide n Tryz.prog 90 #[.pointer (some ⟨Bk, 0, none⟩), .pointer (some ⟨Bs, 0, none⟩)] (fun x : Int => #[Value.int .i64 x]) (IK B0 3) (fun ys => ys = nums (unitsR k s)) (fun pre => pre <+: nums (unitsR k s)) (nums (unitsR k s)).length w := fun l J Jx W hW hJ hJx hY h0 =>
  units1_in n hn l Bk Bs B0 k v s J Jx W hY hJ ((Below.cell (p := ⟨Bk, 0, none⟩) hW (World.block_lt_of_cell? _ _ hk)).trans hk) ((Below.cell (p := ⟨Bs, 0, none⟩) hW (World.block_lt_of_cell? _ _ hs)).trans hs)
    (hv.kp hW) hl hn2 (T.kp hW) (Nat.lt_of_lt_of_le hB0 hW.size) h0
theorem Boxed.at' (W : World) (B : Nat) (t : TypeId) (v : Value) (h : W.heap.size = B) : Boxed (W.alloc (.cells #[v] t)) B t v := by subst h; exact Boxed.new W t v
theorem own_set {w : World} {base : Nat} {e : TypeId} {size : Nat} {v : Value} {n : Nat} {xs : List Value} (h : w.ownsRow base e size v n xs) {B : Nat} (hB : B < base) (x : Value) : (w.setCell ⟨B, 0, none⟩ x).ownsRow base e size v n xs := by
  refine h.kept (grownBy_setCell' w B x) ?_
  rcases h.2 with ⟨rfl, _⟩ | ⟨g, cap, cur, rfl, hb, _⟩
  · exact .inl rfl
  · refine .inr fun e' => ?_
    have : g = B := by simpa [Value.ownBlock] using e'
    omega
theorem firV_bd (k i : Int) : 0 ≤ firV k i ∧ firV k i ≤ 3652425 := by
  unfold firV
  rcases Bool.eq_false_or_eq_true (okU k i) with o | o
  · rw [if_pos o]
    have := (okU_iff k i).1 o
    have := span_bd this.1 this.2
    omega
  · rw [o]; simp
theorem lasV_bd (k i : Int) : 0 ≤ lasV k i ∧ lasV k i ≤ 3652425 := by
  unfold lasV
  rcases Bool.eq_false_or_eq_true (okU k i) with o | o
  · rw [if_pos o]
    have := (okU_iff k i).1 o
    have := span_bd this.1 this.2
    omega
  · rw [o]; simp
theorem fir_i64 (k : Int) (l : List Int) : I64 (l.map (firV k)) := by
  intro n hn
  simp only [List.mem_map] at hn
  obtain ⟨i, _, rfl⟩ := hn
  have := firV_bd k i
  omega
theorem las_i64 (k : Int) (l : List Int) : I64 (l.map (lasV k)) := by
  intro n hn
  simp only [List.mem_map] at hn
  obtain ⟨i, _, rfl⟩ := hn
  have := lasV_bd k i
  omega
theorem units_in (n : Nat) (k : Int) (ad : Option Addr) (ln cp : Nat) (w : World) :
    CallsIn Fence.wide n Tryz.prog 81 #[.int .i64 k, .slice ad ln cp] w fun e w' => e = .returned (.func (.func 90) #[] #[.pointer (some ⟨w.heap.size, 0, none⟩), .pointer (some ⟨w.heap.size + 1, 0, none⟩)]) ∧ w' = (w.alloc (.cells #[.int .i64 k] 3)).alloc (.cells #[.slice ad ln cp] 28) := by
  refine callsIn_of_wp Tryz.func81 rfl trivial ?_ rfl
  simp only [Tryz.ntmps81, List.size_toArray, List.length_cons, List.length_nil, Nat.reduceAdd, Nat.reduceSub, Array.replicate_succ, Array.replicate_zero, List.push_toArray, List.append_toArray, List.nil_append, List.cons_append]
  gi_wp2
  go_ret
  exact ⟨rfl, rfl⟩
set_option maxRecDepth 100000 in
set_option maxHeartbeats 4000000 in
theorem edgesF_any (k : Int) (hk0 : k ≠ 0) (v : Value) (s : List R) (w : World) (hv : RunsAt w v s) (hl : I64R s) (hn : s.length ≤ 1000000) (T : Tabs w) :
    Calls Tryz.prog 63 #[.int .i64 k, v, .func (.func 64) #[] #[]] w fun e W' => ∃ v', e = .returned (.tuple #[v', .bool (decide ((nums (unitsR k s)).length ≤ 400))]) ∧
      W'.ownsRow w.heap.size 37 2 v' (if (nums (unitsR k s)).length ≤ 400 then nf (sing ((nums (unitsR k s)).map (firV k))) else []).length (cellsR (if (nums (unitsR k s)).length ≤ 400 then nf (sing ((nums (unitsR k s)).map (firV k))) else [])) ∧ Kp w W' := by
  have C := Lib.hid (fun n h1 Bk Bs B0 w a b c d => units_stops n h1 Bk Bs B0 k v s w a b c hl hn d)
  have q0 : (k == 0) = false := by simp [hk0]
  generalize unitsR k s = L at *
  obtain ⟨i0, hi, hz0, hz1, hz2⟩ := info_parts infoN
  obtain ⟨ad, cp, rfl⟩ := hv.slice
  refine (callsIn_wide (n := 9)).1 ?_
  refine callsIn_of_wp_marks Tryz.func63 rfl trivial ?_ rfl
  simp only [Tryz.ntmps63, List.size_toArray, List.length_cons, List.length_nil, Nat.reduceAdd, Nat.reduceSub, Array.replicate_succ, Array.replicate_zero, List.push_toArray, List.append_toArray, List.nil_append, List.cons_append]
  gi_wp2_with (refine ⟨trivial, ?_⟩; gi_at_call 81; refine (units_in _ k _ _ _ _).mono ?_; rintro e w' ⟨rfl, rfl⟩)
  obtain ⟨W0, hW0⟩ : ∃ x, x = ((((((w.alloc (.cells #[.int .i64 k] 3)).alloc (.cells #[.func (.func 64) #[] #[]] 79)).alloc (.cells #[.slice none 0 0] 28)).alloc (.cells #[.bool false] 4)).alloc (.cells #[.slice none 0 0] 67)).alloc (.cells #[.int .i64 k] 3)).alloc (.cells #[.slice ad s.length cp] 28) := ⟨_, rfl⟩
  have b0 : Boxed W0 w.heap.size 3 (.int .i64 k) := by rw [hW0]; exact ((((((Boxed.new _ _ _).alloc _).alloc _).alloc _).alloc _).alloc _).alloc _
  have b1 : Boxed W0 (w.heap.size + 1) 79 (.func (.func 64) #[] #[]) := by rw [hW0]; exact (((((Boxed.at' _ _ _ _ (by simp)).alloc _).alloc _).alloc _).alloc _).alloc _
  have b2 : Boxed W0 (w.heap.size + 1 + 1) 28 (.slice none 0 0) := by rw [hW0]; exact ((((Boxed.at' _ _ _ _ (by simp)).alloc _).alloc _).alloc _).alloc _
  have b3 : Boxed W0 (w.heap.size + 1 + 1 + 1) 4 (.bool false) := by rw [hW0]; exact (((Boxed.at' _ _ _ _ (by simp)).alloc _).alloc _).alloc _
  have b4 : Boxed W0 (w.heap.size + 1 + 1 + 1 + 1) 67 (.slice none 0 0) := by rw [hW0]; exact ((Boxed.at' _ _ _ _ (by simp)).alloc _).alloc _
  have b5 : Boxed W0 (w.heap.size + 1 + 1 + 1 + 1 + 1) 3 (.int .i64 k) := by rw [hW0]; exact (Boxed.at' _ _ _ _ (by simp)).alloc _
  have b6 : Boxed W0 (w.heap.size + 1 + 1 + 1 + 1 + 1 + 1) 28 (.slice ad s.length cp) := by rw [hW0]; exact Boxed.at' _ _ _ _ (by simp)
  have hsz : W0.heap.size = w.heap.size + 7 := by rw [hW0]; simp
  have k0 : Kp w W0 := by rw [hW0]; exact ((((((Kp.alloc _ _).trans (Kp.alloc _ _)).trans (Kp.alloc _ _)).trans (Kp.alloc _ _)).trans (Kp.alloc _ _)).trans (Kp.alloc _ _)).trans (Kp.alloc _ _)
  rw [← hW0]
  clear hW0
  refine wpIn_rangeFunc_ownG rfl (by omega) (gf := 90) (lb := #[.pointer (some ⟨w.heap.size + 1 + 1 + 1 + 1 + 1, 0, none⟩), .pointer (some ⟨w.heap.size + 1 + 1 + 1 + 1 + 1 + 1, 0, none⟩)]) rfl trivial (enters_of Tryz.func90 (by kernel_rfl) rfl)
    (C.out 8 (by omega) _ _ (w.heap.size + 1 + 1 + 1 + 1) W0 b5.cell b6.cell (hv.kp k0) (T.kp k0) (by omega)) (fun h g => h.trans g) (fun W l o o' _ h hc _ => IK.putObj W l o o' h hc) (Below.refl _ _) (fun _ => rfl)
    (fun pre W => (∃ v, Boxed W (w.heap.size + 1 + 1 + 1 + 1) 67 v ∧ W.ownsRow (w.heap.size + 1 + 1 + 1 + 1) 3 1 v pre.length ((pre.map (firV k)).map (.int .i64)) ∧ pre.length ≤ 400) ∧ Below (w.heap.size + 1 + 1 + 1 + 1) W0 W)
    (fun c pre W => (c = .ret ∧ pre.length = 401 ∧ W.cell? ⟨w.heap.size + 1 + 1, 0, none⟩ = some (.slice none 0 0) ∧ W.cell? ⟨w.heap.size + 1 + 1 + 1, 0, none⟩ = some (.bool false)) ∧ Below w.heap.size w W)
    (OwnFrom.and (Own.from (holdsRow_own _ _ 67 3 1 (fun (pre : List Int) => pre.length) (fun (pre : List Int) => (pre.map (firV k)).map (.int .i64)) (fun (pre : List Int) _ => pre.length ≤ 400)) _) (ownFrom_below (by omega) (by omega)))
    (fun c => OwnFrom.and (Own.from (fun (s : List Int) A B row hs hg hr => ⟨hs.1, hs.2.1, cell_kept hs.2.2.1 hg hr, cell_kept hs.2.2.2 hg hr⟩) _) (ownFrom_below (Nat.le_refl _) (by omega)))
    ⟨⟨_, b4, World.ownsRow_nil _ _ _ _, by simp⟩, Below.refl _ _⟩
    (fun x => { tmps := #[.int .i64 k, .slice ad s.length cp, .func (.func 64) #[] #[], .pointer (some ⟨w.heap.size, 0, none⟩), undef, .pointer (some ⟨w.heap.size + 1, 0, none⟩), .pointer (some ⟨w.heap.size + 1 + 1, 0, none⟩), .pointer (some ⟨w.heap.size + 1 + 1 + 1, 0, none⟩), undef, .pointer (some ⟨w.heap.size + 1 + 1 + 1 + 1, 0, none⟩), .int .i64 x, undef, undef, .int .i64 k, .bool false, undef, undef, undef, undef, undef, undef, .int .i64 k, .slice ad s.length cp, .func (.func 90) #[] #[.pointer (some ⟨w.heap.size + 1 + 1 + 1 + 1 + 1, 0, none⟩), .pointer (some ⟨w.heap.size + 1 + 1 + 1 + 1 + 1 + 1, 0, none⟩)], .int .i64 x, undef, undef, undef, undef, undef, undef, undef, undef, undef, undef, undef, undef, undef, undef, undef, undef], defers := [] }) ?assign ?body ?done ?stop
  case assign =>
    intro l x W K hK
    gi_wp2
    exact hK
  case body =>
    rintro l pre x W ⟨⟨v, hv, hrow, hp⟩, hB⟩ hlt
    obtain ⟨a1, c1, rfl⟩ := own_slice hrow
    have hc := hv.cell
    have g0 : W.cell? ⟨w.heap.size, 0, none⟩ = some (.int .i64 k) := (hB.cell (p := ⟨w.heap.size, 0, none⟩) (by simp only; omega)).trans b0.cell
    have g1 : W.cell? ⟨w.heap.size + 1, 0, none⟩ = some (.func (.func 64) #[] #[]) := (hB.cell (p := ⟨w.heap.size + 1, 0, none⟩) (by simp only; omega)).trans b1.cell
    have kw : Kp w W := Below.trans k0 (hB.mono (by omega))
    by_cases e4 : pre.length = 400
    · have q : ((pre.length : Int) == 400) = true := by rw [e4]; rfl
      have B2 : Boxed W (w.heap.size + 1 + 1) 28 (.slice none 0 0) := (hB.block _ (by omega)).trans b2
      have B3 : Boxed W (w.heap.size + 1 + 1 + 1) 4 (.bool false) := (hB.block _ (by omega)).trans b3
      have c2 := B2.cell
      have f2 := B2.frozen
      have B3' := B3.other (show w.heap.size + 1 + 1 + 1 ≠ w.heap.size + 1 + 1 by omega) (.slice none 0 0)
      have c3 := B3'.cell
      have f3 := B3'.frozen
      have KW := Lib.hid kw
      clear kw hB hrow
      gi_wp2
      exact ⟨((KeepsOthers.setCell W _ _).trans (KeepsOthers.setCell _ _ _)).from _, ⟨rfl, by rw [List.length_append, e4]; rfl, ((B2.set _).other (by omega) _).cell, (B3'.set _).cell⟩, ((Below.setCell KW.out (p := ⟨w.heap.size + 1 + 1, 0, none⟩) (by simp only; omega) _).setCell (p := ⟨w.heap.size + 1 + 1 + 1, 0, none⟩) (by simp only; omega) _)⟩
    · have q : ((pre.length : Int) == 400) = false := by simp; omega
      have FF := Lib.hid (first_any k x W (T.kp kw).1 (T.kp kw).2)
      have HB := Lib.hid hB
      have HR := Lib.hid hrow
      have HV := Lib.hid hv
      clear hB hrow hv kw
      gi_wp2_with fail
      refine ⟨trivial, ?_⟩
      refine (CallsIn.inRound l (callsIn_wide.2 FF.out)).mono ?_
      rintro e W2 ⟨rfl, kk⟩
      have bD2 : Boxed W2 (w.heap.size + 1 + 1 + 1 + 1) 67 (.slice a1 pre.length c1) := (kk.block _ HV.out.lt).trans HV.out
      have hc2 := bD2.cell
      have KK := Lib.hid kk
      have HR2 := own_kp HR.out kk
      have hs2 : w.heap.size + 1 + 1 + 1 + 1 ≤ W2.heap.size := by have := HB.out.size; have := kk.size; omega
      have HB2 := Lib.hid (show Below (w.heap.size + 1 + 1 + 1 + 1) W0 W2 from HB.out.trans (Below.mono kk (by have := HB.out.size; omega)))
      clear kk FF hc
      obtain ⟨d, hd⟩ : ∃ d, firV k x = d := ⟨_, rfl⟩
      rw [hd]
      gi_wp2_with (gi_at_builtin; refine wpListIn_append_own _ rfl _ _ 67 rfl (w.heap.size + 1 + 1 + 1 + 1) 3 i0 (.int .i64 0) 1 8 Tryz.underlying67 hi hz0 hz1 hz2 rfl (by decide) _ _ _ rfl (HR2.alloc _) ⟨W2.heap.size, 0, none⟩ 1 1 [.int .i64 d] rfl rfl (cell_one_new _ _ _) (by simp [Value.oneCell']) (by unfold maxLen; omega) (by omega) (by simp; omega) ?_; intro v' w1 hown' hgrow _; obtain ⟨g', cap', rfl⟩ := ownsRow_succ hown'; obtain ⟨hv1, hv2, hr2, hk2, hb2⟩ := bD2.appended (by decide) HR2 hs2 (Nat.le_refl _) hown' hgrow; have hc1 := hv1.cell; have hf1 := hv1.frozen)
      refine ⟨?_, (IK.kp KK.out).trans (((IK.kp (Kp.alloc _ _)).trans (IK.grown (HR2.alloc _) hgrow)).trans (IK.setCell _ _)), ⟨_, hv2, by rw [List.length_append, List.map_append, List.map_append, List.map_singleton, List.map_singleton, hd]; exact hr2, by rw [List.length_append, List.length_singleton]; omega⟩, HB2.out.trans hb2⟩
      exact KeepsFrom.trans ⟨KK.out.size, fun i o _ hi _ => (KK.out.block i (Array.getElem?_eq_some_iff.1 hi).1).trans hi⟩ (hk2.from _)
  case done =>
    rintro D ys W hD rfl ⟨⟨v, hv, hrow, hp⟩, hB⟩ hK
    obtain ⟨a1, c1, rfl⟩ := own_slice hrow
    have hc := hv.cell
    have kw : Kp w W := Below.trans k0 (hB.mono (by omega))
    have OF := Lib.hid (sof_any _ ((nums L).map (firV k)) W (intsAt_own (by rw [List.length_map]; exact hrow)) (fir_i64 k _) (by rw [List.length_map]; omega))
    have B2 : Boxed W (w.heap.size + 1 + 1) 28 (.slice none 0 0) := (hB.block _ (by omega)).trans b2
    have B3 : Boxed W (w.heap.size + 1 + 1 + 1) 4 (.bool false) := (hB.block _ (by omega)).trans b3
    have KW := Lib.hid kw
    have hzw := kw.size
    have hzB := hB.size
    clear hv hrow hB kw
    obtain ⟨RES, hRES⟩ : ∃ x, x = nf (sing ((nums L).map (firV k))) := ⟨_, rfl⟩
    rw [← hRES] at OF
    have HRES := Lib.hid hRES
    clear hRES
    gi_wp2_with fail
    refine ⟨trivial, ?_⟩
    refine (callsIn_wide.2 OF.out).mono ?_
    rintro e W3 ⟨v3, rfl, own3, kk⟩
    obtain ⟨a3, c3, rfl⟩ := own_slice own3
    have O3 := Lib.hid own3
    have K3 := Lib.hid kk
    have B2' : Boxed W3 (w.heap.size + 1 + 1) 28 (.slice none 0 0) := (kk.block _ (by omega)).trans B2
    have B3' : Boxed W3 (w.heap.size + 1 + 1 + 1) 4 (.bool false) := (kk.block _ (by omega)).trans B3
    have d2 := B2'.cell
    have f2 := B2'.frozen
    have B3'' := B3'.other (show w.heap.size + 1 + 1 + 1 ≠ w.heap.size + 1 + 1 by omega) (.slice a3 RES.length c3)
    have d3 := B3'.cell
    have f3 := B3'.frozen
    have hKD := Lib.hid ((kk.block D (Array.getElem?_eq_some_iff.1 hK).1).trans hK)
    clear kk own3 OF
    gi_wp2
    have hKD2 := Lib.hid (((KeepsOthers.setCell W3 ⟨w.heap.size + 1 + 1, 0, none⟩ (.slice a3 RES.length c3)).trans (KeepsOthers.setCell _ ⟨w.heap.size + 1 + 1 + 1, 0, none⟩ (.bool true))).same D _ hKD.out rfl)
    have e2 := ((B2'.set (.slice a3 RES.length c3)).other (show w.heap.size + 1 + 1 ≠ w.heap.size + 1 + 1 + 1 by omega) (.bool true)).cell
    have e3 := (B3''.set (.bool true)).cell
    have g2 := cell_kept e2 (grownBy_putObj' _ D (.deferred none)) (fun r e => by cases e; exact ⟨_, hKD2.out, rfl⟩)
    have g3 := cell_kept e3 (grownBy_putObj' _ D (.deferred none)) (fun r e => by cases e; exact ⟨_, hKD2.out, rfl⟩)
    refine ⟨by simp, .inl ⟨_, _, rfl, run_takeDeferred hKD2.out, ?_⟩⟩
    try rw [if_pos hp, decide_eq_true hp]
    rw [← HRES.out]
    refine ⟨.tuple #[.slice a3 RES.length c3, .bool true], ?_, _, rfl, ?_, ?_⟩
    · simp [results, Tryz.f63, go_sem, g2, g3]
    · exact ownsRow_putObj (own_mono (own_set (own_set O3.out (by omega) _) (by omega) _) (by omega)) _ hKD2.out rfl
    · exact ((Below.setCell (Kp.trans KW.out K3.out) (p := ⟨w.heap.size + 1 + 1, 0, none⟩) (by simp only; omega) _).setCell (p := ⟨w.heap.size + 1 + 1 + 1, 0, none⟩) (by simp only; omega) _).trans (belowK_b (w := w) (Nat.le_refl _) _ D _ _ (by omega) hKD2.out rfl rfl)
  case stop =>
    rintro D c pre W hD hpre ⟨⟨rfl, hlen, h2, h3⟩, hB⟩ hK
    have hle := hpre.length_le
    gi_wp2
    refine ⟨by simp, .inl ⟨_, _, rfl, run_takeDeferred hK, ?_⟩⟩
    try rw [if_neg (by omega), decide_eq_false (by omega)]
    have g2 := cell_kept h2 (grownBy_putObj' _ D (.deferred none)) (fun r e => by cases e; exact ⟨_, hK, rfl⟩)
    have g3 := cell_kept h3 (grownBy_putObj' _ D (.deferred none)) (fun r e => by cases e; exact ⟨_, hK, rfl⟩)
    refine ⟨.tuple #[.slice none 0 0, .bool false], ?_, _, rfl, World.ownsRow_nil _ _ _ _, hB.trans (belowK_b (w := w) (Nat.le_refl _) W D _ _ (by omega) hK rfl rfl)⟩
    simp [results, Tryz.f63, go_sem, g2, g3]
end Go.Proofs.YtinpglfclbnhlaaGreatDoor

namespace Go.Proofs.YtinpglfclbnhlaaGreatDoor
open Go.RowKit Go.Shelf
set_option linter.unusedVariables false
set_option linter.unusedSimpArgs false
attribute [local go_sem] Oper.semAt_some
set_option maxRecDepth 100000 in
set_option maxHeartbeats 4000000 in
theorem edgesL_any (k : Int) (hk0 : k ≠ 0) (v : Value) (s : List R) (w : World) (hv : RunsAt w v s) (hl : I64R s) (hn : s.length ≤ 1000000) (T : Tabs w) :
    Calls Tryz.prog 63 #[.int .i64 k, v, .func (.func 74) #[] #[]] w fun e W' => ∃ v', e = .returned (.tuple #[v', .bool (decide ((nums (unitsR k s)).length ≤ 400))]) ∧
      W'.ownsRow w.heap.size 37 2 v' (if (nums (unitsR k s)).length ≤ 400 then nf (sing ((nums (unitsR k s)).map (lasV k))) else []).length (cellsR (if (nums (unitsR k s)).length ≤ 400 then nf (sing ((nums (unitsR k s)).map (lasV k))) else [])) ∧ Kp w W' := by
  have C := Lib.hid (fun n h1 Bk Bs B0 w a b c d => units_stops n h1 Bk Bs B0 k v s w a b c hl hn d)
  have q0 : (k == 0) = false := by simp [hk0]
  generalize unitsR k s = L at *
  obtain ⟨i0, hi, hz0, hz1, hz2⟩ := info_parts infoN
  obtain ⟨ad, cp, rfl⟩ := hv.slice
  refine (callsIn_wide (n := 9)).1 ?_
  refine callsIn_of_wp_marks Tryz.func63 rfl trivial ?_ rfl
  simp only [Tryz.ntmps63, List.size_toArray, List.length_cons, List.length_nil, Nat.reduceAdd, Nat.reduceSub, Array.replicate_succ, Array.replicate_zero, List.push_toArray, List.append_toArray, List.nil_append, List.cons_append]
  gi_wp2_with (refine ⟨trivial, ?_⟩; gi_at_call 81; refine (units_in _ k _ _ _ _).mono ?_; rintro e w' ⟨rfl, rfl⟩)
  obtain ⟨W0, hW0⟩ : ∃ x, x = ((((((w.alloc (.cells #[.int .i64 k] 3)).alloc (.cells #[.func (.func 74) #[] #[]] 79)).alloc (.cells #[.slice none 0 0] 28)).alloc (.cells #[.bool false] 4)).alloc (.cells #[.slice none 0 0] 67)).alloc (.cells #[.int .i64 k] 3)).alloc (.cells #[.slice ad s.length cp] 28) := ⟨_, rfl⟩
  have b0 : Boxed W0 w.heap.size 3 (.int .i64 k) := by rw [hW0]; exact ((((((Boxed.new _ _ _).alloc _).alloc _).alloc _).alloc _).alloc _).alloc _
  have b1 : Boxed W0 (w.heap.size + 1) 79 (.func (.func 74) #[] #[]) := by rw [hW0]; exact (((((Boxed.at' _ _ _ _ (by simp)).alloc _).alloc _).alloc _).alloc _).alloc _
  have b2 : Boxed W0 (w.heap.size + 1 + 1) 28 (.slice none 0 0) := by rw [hW0]; exact ((((Boxed.at' _ _ _ _ (by simp)).alloc _).alloc _).alloc _).alloc _
  have b3 : Boxed W0 (w.heap.size + 1 + 1 + 1) 4 (.bool false) := by rw [hW0]; exact (((Boxed.at' _ _ _ _ (by simp)).alloc _).alloc _).alloc _
  have b4 : Boxed W0 (w.heap.size + 1 + 1 + 1 + 1) 67 (.slice none 0 0) := by rw [hW0]; exact ((Boxed.at' _ _ _ _ (by simp)).alloc _).alloc _
  have b5 : Boxed W0 (w.heap.size + 1 + 1 + 1 + 1 + 1) 3 (.int .i64 k) := by rw [hW0]; exact (Boxed.at' _ _ _ _ (by simp)).alloc _
  have b6 : Boxed W0 (w.heap.size + 1 + 1 + 1 + 1 + 1 + 1) 28 (.slice ad s.length cp) := by rw [hW0]; exact Boxed.at' _ _ _ _ (by simp)
  have hsz : W0.heap.size = w.heap.size + 7 := by rw [hW0]; simp
  have k0 : Kp w W0 := by rw [hW0]; exact ((((((Kp.alloc _ _).trans (Kp.alloc _ _)).trans (Kp.alloc _ _)).trans (Kp.alloc _ _)).trans (Kp.alloc _ _)).trans (Kp.alloc _ _)).trans (Kp.alloc _ _)
  rw [← hW0]
  clear hW0
  refine wpIn_rangeFunc_ownG rfl (by omega) (gf := 90) (lb := #[.pointer (some ⟨w.heap.size + 1 + 1 + 1 + 1 + 1, 0, none⟩), .pointer (some ⟨w.heap.size + 1 + 1 + 1 + 1 + 1 + 1, 0, none⟩)]) rfl trivial (enters_of Tryz.func90 (by kernel_rfl) rfl)
    (C.out 8 (by omega) _ _ (w.heap.size + 1 + 1 + 1 + 1) W0 b5.cell b6.cell (hv.kp k0) (T.kp k0) (by omega)) (fun h g => h.trans g) (fun W l o o' _ h hc _ => IK.putObj W l o o' h hc) (Below.refl _ _) (fun _ => rfl)
    (fun pre W => (∃ v, Boxed W (w.heap.size + 1 + 1 + 1 + 1) 67 v ∧ W.ownsRow (w.heap.size + 1 + 1 + 1 + 1) 3 1 v pre.length ((pre.map (lasV k)).map (.int .i64)) ∧ pre.length ≤ 400) ∧ Below (w.heap.size + 1 + 1 + 1 + 1) W0 W)
    (fun c pre W => (c = .ret ∧ pre.length = 401 ∧ W.cell? ⟨w.heap.size + 1 + 1, 0, none⟩ = some (.slice none 0 0) ∧ W.cell? ⟨w.heap.size + 1 + 1 + 1, 0, none⟩ = some (.bool false)) ∧ Below w.heap.size w W)
    (OwnFrom.and (Own.from (holdsRow_own _ _ 67 3 1 (fun (pre : List Int) => pre.length) (fun (pre : List Int) => (pre.map (lasV k)).map (.int .i64)) (fun (pre : List Int) _ => pre.length ≤ 400)) _) (ownFrom_below (by omega) (by omega)))
    (fun c => OwnFrom.and (Own.from (fun (s : List Int) A B row hs hg hr => ⟨hs.1, hs.2.1, cell_kept hs.2.2.1 hg hr, cell_kept hs.2.2.2 hg hr⟩) _) (ownFrom_below (Nat.le_refl _) (by omega)))
    ⟨⟨_, b4, World.ownsRow_nil _ _ _ _, by simp⟩, Below.refl _ _⟩
    (fun x => { tmps := #[.int .i64 k, .slice ad s.length cp, .func (.func 74) #[] #[], .pointer (some ⟨w.heap.size, 0, none⟩), undef, .pointer (some ⟨w.heap.size + 1, 0, none⟩), .pointer (some ⟨w.heap.size + 1 + 1, 0, none⟩), .pointer (some ⟨w.heap.size + 1 + 1 + 1, 0, none⟩), undef, .pointer (some ⟨w.heap.size + 1 + 1 + 1 + 1, 0, none⟩), .int .i64 x, undef, undef, .int .i64 k, .bool false, undef, undef, undef, undef, undef, undef, .int .i64 k, .slice ad s.length cp, .func (.func 90) #[] #[.pointer (some ⟨w.heap.size + 1 + 1 + 1 + 1 + 1, 0, none⟩), .pointer (some ⟨w.heap.size + 1 + 1 + 1 + 1 + 1 + 1, 0, none⟩)], .int .i64 x, undef, undef, undef, undef, undef, undef, undef, undef, undef, undef, undef, undef, undef, undef, undef, undef], defers := [] }) ?assign ?body ?done ?stop
  case assign =>
    intro l x W K hK
    gi_wp2
    exact hK
  case body =>
    rintro l pre x W ⟨⟨v, hv, hrow, hp⟩, hB⟩ hlt
    obtain ⟨a1, c1, rfl⟩ := own_slice hrow
    have hc := hv.cell
    have g0 : W.cell? ⟨w.heap.size, 0, none⟩ = some (.int .i64 k) := (hB.cell (p := ⟨w.heap.size, 0, none⟩) (by simp only; omega)).trans b0.cell
    have g1 : W.cell? ⟨w.heap.size + 1, 0, none⟩ = some (.func (.func 74) #[] #[]) := (hB.cell (p := ⟨w.heap.size + 1, 0, none⟩) (by simp only; omega)).trans b1.cell
    have kw : Kp w W := Below.trans k0 (hB.mono (by omega))
    by_cases e4 : pre.length = 400
    · have q : ((pre.length : Int) == 400) = true := by rw [e4]; rfl
      have B2 : Boxed W (w.heap.size + 1 + 1) 28 (.slice none 0 0) := (hB.block _ (by omega)).trans b2
      have B3 : Boxed W (w.heap.size + 1 + 1 + 1) 4 (.bool false) := (hB.block _ (by omega)).trans b3
      have c2 := B2.cell
      have f2 := B2.frozen
      have B3' := B3.other (show w.heap.size + 1 + 1 + 1 ≠ w.heap.size + 1 + 1 by omega) (.slice none 0 0)
      have c3 := B3'.cell
      have f3 := B3'.frozen
      have KW := Lib.hid kw
      clear kw hB hrow
      gi_wp2
      exact ⟨((KeepsOthers.setCell W _ _).trans (KeepsOthers.setCell _ _ _)).from _, ⟨rfl, by rw [List.length_append, e4]; rfl, ((B2.set _).other (by omega) _).cell, (B3'.set _).cell⟩, ((Below.setCell KW.out (p := ⟨w.heap.size + 1 + 1, 0, none⟩) (by simp only; omega) _).setCell (p := ⟨w.heap.size + 1 + 1 + 1, 0, none⟩) (by simp only; omega) _)⟩
    · have q : ((pre.length : Int) == 400) = false := by simp; omega
      have FF := Lib.hid (last_any k x W (T.kp kw).1 (T.kp kw).2)
      have HB := Lib.hid hB
      have HR := Lib.hid hrow
      have HV := Lib.hid hv
      clear hB hrow hv kw
      gi_wp2_with fail
      refine ⟨trivial, ?_⟩
      refine (CallsIn.inRound l (callsIn_wide.2 FF.out)).mono ?_
      rintro e W2 ⟨rfl, kk⟩
      have bD2 : Boxed W2 (w.heap.size + 1 + 1 + 1 + 1) 67 (.slice a1 pre.length c1) := (kk.block _ HV.out.lt).trans HV.out
      have hc2 := bD2.cell
      have KK := Lib.hid kk
      have HR2 := own_kp HR.out kk
      have hs2 : w.heap.size + 1 + 1 + 1 + 1 ≤ W2.heap.size := by have := HB.out.size; have := kk.size; omega
      have HB2 := Lib.hid (show Below (w.heap.size + 1 + 1 + 1 + 1) W0 W2 from HB.out.trans (Below.mono kk (by have := HB.out.size; omega)))
      clear kk FF hc
      obtain ⟨d, hd⟩ : ∃ d, lasV k x = d := ⟨_, rfl⟩
      rw [hd]
      gi_wp2_with (gi_at_builtin; refine wpListIn_append_own _ rfl _ _ 67 rfl (w.heap.size + 1 + 1 + 1 + 1) 3 i0 (.int .i64 0) 1 8 Tryz.underlying67 hi hz0 hz1 hz2 rfl (by decide) _ _ _ rfl (HR2.alloc _) ⟨W2.heap.size, 0, none⟩ 1 1 [.int .i64 d] rfl rfl (cell_one_new _ _ _) (by simp [Value.oneCell']) (by unfold maxLen; omega) (by omega) (by simp; omega) ?_; intro v' w1 hown' hgrow _; obtain ⟨g', cap', rfl⟩ := ownsRow_succ hown'; obtain ⟨hv1, hv2, hr2, hk2, hb2⟩ := bD2.appended (by decide) HR2 hs2 (Nat.le_refl _) hown' hgrow; have hc1 := hv1.cell; have hf1 := hv1.frozen)
      refine ⟨?_, (IK.kp KK.out).trans (((IK.kp (Kp.alloc _ _)).trans (IK.grown (HR2.alloc _) hgrow)).trans (IK.setCell _ _)), ⟨_, hv2, by rw [List.length_append, List.map_append, List.map_append, List.map_singleton, List.map_singleton, hd]; exact hr2, by rw [List.length_append, List.length_singleton]; omega⟩, HB2.out.trans hb2⟩
      exact KeepsFrom.trans ⟨KK.out.size, fun i o _ hi _ => (KK.out.block i (Array.getElem?_eq_some_iff.1 hi).1).trans hi⟩ (hk2.from _)
  case done =>
    rintro D ys W hD rfl ⟨⟨v, hv, hrow, hp⟩, hB⟩ hK
    obtain ⟨a1, c1, rfl⟩ := own_slice hrow
    have hc := hv.cell
    have kw : Kp w W := Below.trans k0 (hB.mono (by omega))
    have OF := Lib.hid (sof_any _ ((nums L).map (lasV k)) W (intsAt_own (by rw [List.length_map]; exact hrow)) (las_i64 k _) (by rw [List.length_map]; omega))
    have B2 : Boxed W (w.heap.size + 1 + 1) 28 (.slice none 0 0) := (hB.block _ (by omega)).trans b2
    have B3 : Boxed W (w.heap.size + 1 + 1 + 1) 4 (.bool false) := (hB.block _ (by omega)).trans b3
    have KW := Lib.hid kw
    have hzw := kw.size
    have hzB := hB.size
    clear hv hrow hB kw
    obtain ⟨RES, hRES⟩ : ∃ x, x = nf (sing ((nums L).map (lasV k))) := ⟨_, rfl⟩
    rw [← hRES] at OF
    have HRES := Lib.hid hRES
    clear hRES
    gi_wp2_with fail
    refine ⟨trivial, ?_⟩
    refine (callsIn_wide.2 OF.out).mono ?_
    rintro e W3 ⟨v3, rfl, own3, kk⟩
    obtain ⟨a3, c3, rfl⟩ := own_slice own3
    have O3 := Lib.hid own3
    have K3 := Lib.hid kk
    have B2' : Boxed W3 (w.heap.size + 1 + 1) 28 (.slice none 0 0) := (kk.block _ (by omega)).trans B2
    have B3' : Boxed W3 (w.heap.size + 1 + 1 + 1) 4 (.bool false) := (kk.block _ (by omega)).trans B3
    have d2 := B2'.cell
    have f2 := B2'.frozen
    have B3'' := B3'.other (show w.heap.size + 1 + 1 + 1 ≠ w.heap.size + 1 + 1 by omega) (.slice a3 RES.length c3)
    have d3 := B3'.cell
    have f3 := B3'.frozen
    have hKD := Lib.hid ((kk.block D (Array.getElem?_eq_some_iff.1 hK).1).trans hK)
    clear kk own3 OF
    gi_wp2
    have hKD2 := Lib.hid (((KeepsOthers.setCell W3 ⟨w.heap.size + 1 + 1, 0, none⟩ (.slice a3 RES.length c3)).trans (KeepsOthers.setCell _ ⟨w.heap.size + 1 + 1 + 1, 0, none⟩ (.bool true))).same D _ hKD.out rfl)
    have e2 := ((B2'.set (.slice a3 RES.length c3)).other (show w.heap.size + 1 + 1 ≠ w.heap.size + 1 + 1 + 1 by omega) (.bool true)).cell
    have e3 := (B3''.set (.bool true)).cell
    have g2 := cell_kept e2 (grownBy_putObj' _ D (.deferred none)) (fun r e => by cases e; exact ⟨_, hKD2.out, rfl⟩)
    have g3 := cell_kept e3 (grownBy_putObj' _ D (.deferred none)) (fun r e => by cases e; exact ⟨_, hKD2.out, rfl⟩)
    refine ⟨by simp, .inl ⟨_, _, rfl, run_takeDeferred hKD2.out, ?_⟩⟩
    try rw [if_pos hp, decide_eq_true hp]
    rw [← HRES.out]
    refine ⟨.tuple #[.slice a3 RES.length c3, .bool true], ?_, _, rfl, ?_, ?_⟩
    · simp [results, Tryz.f63, go_sem, g2, g3]
    · exact ownsRow_putObj (own_mono (own_set (own_set O3.out (by omega) _) (by omega) _) (by omega)) _ hKD2.out rfl
    · exact ((Below.setCell (Kp.trans KW.out K3.out) (p := ⟨w.heap.size + 1 + 1, 0, none⟩) (by simp only; omega) _).setCell (p := ⟨w.heap.size + 1 + 1 + 1, 0, none⟩) (by simp only; omega) _).trans (belowK_b (w := w) (Nat.le_refl _) _ D _ _ (by omega) hKD2.out rfl rfl)
  case stop =>
    rintro D c pre W hD hpre ⟨⟨rfl, hlen, h2, h3⟩, hB⟩ hK
    have hle := hpre.length_le
    gi_wp2
    refine ⟨by simp, .inl ⟨_, _, rfl, run_takeDeferred hK, ?_⟩⟩
    try rw [if_neg (by omega), decide_eq_false (by omega)]
    have g2 := cell_kept h2 (grownBy_putObj' _ D (.deferred none)) (fun r e => by cases e; exact ⟨_, hK, rfl⟩)
    have g3 := cell_kept h3 (grownBy_putObj' _ D (.deferred none)) (fun r e => by cases e; exact ⟨_, hK, rfl⟩)
    refine ⟨.tuple #[.slice none 0 0, .bool false], ?_, _, rfl, World.ownsRow_nil _ _ _ _, hB.trans (belowK_b (w := w) (Nat.le_refl _) W D _ _ (by omega) hK rfl rfl)⟩
    simp [results, Tryz.f63, go_sem, g2, g3]
end Go.Proofs.YtinpglfclbnhlaaGreatDoor

namespace Go.Proofs.YtinpglfclbnhlaaGreatDoor
open Go.RowKit
set_option linter.unusedVariables false
set_option linter.unusedSimpArgs false
/-- is the set of edges no wider than a set may be -/
def edgB (k : Int) (s : List R) : Bool := if k = 0 then decide ((unitsR k s).length ≤ 400) else decide ((nums (unitsR k s)).length ≤ 400)
def edgR (V : Int → Int) (k : Int) (s : List R) : List R := if edgB k s = true then (if k = 0 then unitsR k s else nf (sing ((nums (unitsR k s)).map V))) else []
theorem ofV_bd (k d : Int) : 0 ≤ ofV k d ∧ ofV k d ≤ 3652425 := by
  unfold ofV
  rcases Bool.eq_false_or_eq_true (okO k d) with o | o
  · rw [if_pos o]
    obtain ⟨u1, u2, _⟩ := unum_ok o
    have := cnt_bd k
    omega
  · rw [o]; simp
theorem own_kind (w w' : World) (v : Value) (a b : List R) (e : a = b) : w'.ownsRow w.heap.size 37 2 v a.length (cellsR a) → w'.ownsRow w.heap.size 37 2 v b.length (cellsR b) := by subst e; exact id
set_option maxHeartbeats 1000000 in
theorem edges0_any (f : Nat) (v : Value) (s : List R) (w : World) (hv : RunsAt w v s) (hl : I64R s) (hn : s.length ≤ 1000000) (T : Tabs w) (V : Int → Int) :
    Calls Tryz.prog 63 #[.int .i64 0, v, .func (.func f) #[] #[]] w fun e w' => ∃ v', e = .returned (.tuple #[v', .bool (edgB 0 s)]) ∧ w'.ownsRow w.heap.size 37 2 v' (edgR V 0 s).length (cellsR (edgR V 0 s)) ∧ Kp w w' := by
  have C := Lib.hid (fun wx (kx : Kp w wx) => existing_any 0 v s wx (hv.kp kx) hl hn (T.kp kx))
  have us := unitsR_sane 0 s
  have hlen := unitsR_len (k := 0) hn
  have W' := Lib.hid (fun v1 wx (h : RunsAt wx v1 (unitsR 0 s)) => wide_any v1 (unitsR 0 s) wx h (ok_i64 (sane_ok us)) hlen)
  rw [nf_of_sane us] at W'
  obtain ⟨ad, cp, rfl⟩ := hv.slice
  have EB : edgB 0 s = decide ((unitsR 0 s).length ≤ 400) := by unfold edgB; rw [if_pos rfl]
  have ER : edgR V 0 s = if (unitsR 0 s).length ≤ 400 then unitsR 0 s else [] := by
    unfold edgR; rw [EB, if_pos rfl]; simp
  rw [EB, ER]
  clear EB ER hv hl T us
  generalize unitsR 0 s = L at *
  have b2 : Boxed ((((w.alloc (.cells #[.int .i64 0] 3)).alloc (.cells #[.func (.func f) #[] #[]] 79)).alloc (.cells #[.slice none 0 0] 28)).alloc (.cells #[.bool false] 4)) (w.heap.size + 1 + 1) 28 (.slice none 0 0) := (Boxed.at' _ _ _ _ (by simp)).alloc _
  have b3 : Boxed ((((w.alloc (.cells #[.int .i64 0] 3)).alloc (.cells #[.func (.func f) #[] #[]] 79)).alloc (.cells #[.slice none 0 0] 28)).alloc (.cells #[.bool false] 4)) (w.heap.size + 1 + 1 + 1) 4 (.bool false) := Boxed.at' _ _ _ _ (by simp)
  have B2 := Lib.hid b2
  have B3 := Lib.hid b3
  have K0 := Lib.hid ((((Kp.alloc w (.cells #[.int .i64 0] 3)).trans (Kp.alloc _ (.cells #[.func (.func f) #[] #[]] 79))).trans (Kp.alloc _ (.cells #[.slice none 0 0] 28))).trans (Kp.alloc _ (.cells #[.bool false] 4)))
  have Z0 := Lib.hid (show ((((w.alloc (.cells #[.int .i64 0] 3)).alloc (.cells #[.func (.func f) #[] #[]] 79)).alloc (.cells #[.slice none 0 0] 28)).alloc (.cells #[.bool false] 4)).heap.size = w.heap.size + 4 by simp)
  clear b2 b3
  by_cases h : L.length ≤ 400
  · have q : decide (400 < L.length) = false := decide_eq_false (by omega)
    rw [decide_eq_true h, if_pos h]
    rw [q] at W'
    clear q h
    go_enter Tryz.func63, Tryz.ntmps63
    go_wp2_with fail
    refine (C.out _ K0.out).mono ?_
    rintro e w1 ⟨v1, rfl, own1, kk⟩
    obtain ⟨a1, c1, rfl⟩ := own_slice own1
    have O1 := Lib.hid own1
    have K1 := Lib.hid kk
    have RA := Lib.hid (runsAt_own own1)
    clear own1 kk C
    go_wp2_with fail
    refine (W'.out _ _ RA.out).mono ?_
    rintro e w2 ⟨rfl, kk⟩
    have K2 := Lib.hid (K1.out.trans kk)
    have O2 := Lib.hid (own_kp O1.out kk)
    have hz : w.heap.size + 4 ≤ w2.heap.size := by have := K2.out.size; rw [Z0.out] at this; exact this
    have B2' : Boxed w2 (w.heap.size + 1 + 1) 28 (.slice none 0 0) := (K2.out.block _ (by rw [Z0.out]; omega)).trans B2.out
    have B3' : Boxed w2 (w.heap.size + 1 + 1 + 1) 4 (.bool false) := (K2.out.block _ (by rw [Z0.out]; omega)).trans B3.out
    have d2 := B2'.cell
    have d3 := B3'.cell
    have f2 := B2'.frozen
    have f3 := B3'.frozen
    have KK := Lib.hid (K0.out.trans K2.out)
    rw [Z0.out] at O2
    clear kk
    go_wp2
    have e2 := ((B2'.set (.slice a1 L.length c1)).other (show w.heap.size + 1 + 1 ≠ w.heap.size + 1 + 1 + 1 by omega) (.bool true)).cell
    have e3 := ((B3'.other (show w.heap.size + 1 + 1 + 1 ≠ w.heap.size + 1 + 1 by omega) (.slice a1 L.length c1)).set (.bool true)).cell
    refine bodyPost_ret (v := .tuple #[(.slice a1 L.length c1), (.bool true)]) (by simp [results, Tryz.f63, go_sem, e2, e3]) rfl ?_
    refine ⟨_, rfl, own_mono (own_set (own_set O2.out (by omega) _) (by omega) _) (by omega), (Below.setCell KK.out (p := ⟨w.heap.size + 1 + 1, 0, none⟩) (by simp only; omega) _).setCell (p := ⟨w.heap.size + 1 + 1 + 1, 0, none⟩) (by simp only; omega) _⟩
  · have q : decide (400 < L.length) = true := decide_eq_true (by omega)
    rw [decide_eq_false h, if_neg h]
    rw [q] at W'
    clear q h
    go_enter Tryz.func63, Tryz.ntmps63
    go_wp2_with fail
    refine (C.out _ K0.out).mono ?_
    rintro e w1 ⟨v1, rfl, own1, kk⟩
    obtain ⟨a1, c1, rfl⟩ := own_slice own1
    have O1 := Lib.hid own1
    have K1 := Lib.hid kk
    have RA := Lib.hid (runsAt_own own1)
    clear own1 kk C
    go_wp2_with fail
    refine (W'.out _ _ RA.out).mono ?_
    rintro e w2 ⟨rfl, kk⟩
    have K2 := Lib.hid (K1.out.trans kk)
    have O2 := Lib.hid (own_kp O1.out kk)
    have hz : w.heap.size + 4 ≤ w2.heap.size := by have := K2.out.size; rw [Z0.out] at this; exact this
    have B2' : Boxed w2 (w.heap.size + 1 + 1) 28 (.slice none 0 0) := (K2.out.block _ (by rw [Z0.out]; omega)).trans B2.out
    have B3' : Boxed w2 (w.heap.size + 1 + 1 + 1) 4 (.bool false) := (K2.out.block _ (by rw [Z0.out]; omega)).trans B3.out
    have d2 := B2'.cell
    have d3 := B3'.cell
    have f2 := B2'.frozen
    have f3 := B3'.frozen
    have KK := Lib.hid (K0.out.trans K2.out)
    rw [Z0.out] at O2
    clear kk
    go_wp2
    have e2 := ((B2'.set (.slice none 0 0)).other (show w.heap.size + 1 + 1 ≠ w.heap.size + 1 + 1 + 1 by omega) (.bool false)).cell
    have e3 := ((B3'.other (show w.heap.size + 1 + 1 + 1 ≠ w.heap.size + 1 + 1 by omega) (.slice none 0 0)).set (.bool false)).cell
    refine bodyPost_ret (v := .tuple #[(.slice none 0 0), (.bool false)]) (by simp [results, Tryz.f63, go_sem, e2, e3]) rfl ?_
    refine ⟨_, rfl, World.ownsRow_nil _ _ _ _, (Below.setCell KK.out (p := ⟨w.heap.size + 1 + 1, 0, none⟩) (by simp only; omega) _).setCell (p := ⟨w.heap.size + 1 + 1 + 1, 0, none⟩) (by simp only; omega) _⟩
theorem edgesF_all (k : Int) (v : Value) (s : List R) (w : World) (hv : RunsAt w v s) (hl : I64R s) (hn : s.length ≤ 1000000) (T : Tabs w) :
    Calls Tryz.prog 63 #[.int .i64 k, v, .func (.func 64) #[] #[]] w fun e w' => ∃ v', e = .returned (.tuple #[v', .bool (edgB k s)]) ∧ w'.ownsRow w.heap.size 37 2 v' (edgR (firV k) k s).length (cellsR (edgR (firV k) k s)) ∧ Kp w w' := by
  by_cases h : k = 0
  · subst h; exact edges0_any _ v s w hv hl hn T (firV 0)
  · have E : edgB k s = decide ((nums (unitsR k s)).length ≤ 400) := by unfold edgB; rw [if_neg h]
    have E2 : edgR (firV k) k s = if (nums (unitsR k s)).length ≤ 400 then nf (sing ((nums (unitsR k s)).map (firV k))) else [] := by unfold edgR; rw [E, if_neg h]; simp
    rw [E, E2]
    exact edgesF_any k h v s w hv hl hn T
theorem edgesL_all (k : Int) (v : Value) (s : List R) (w : World) (hv : RunsAt w v s) (hl : I64R s) (hn : s.length ≤ 1000000) (T : Tabs w) :
    Calls Tryz.prog 63 #[.int .i64 k, v, .func (.func 74) #[] #[]] w fun e w' => ∃ v', e = .returned (.tuple #[v', .bool (edgB k s)]) ∧ w'.ownsRow w.heap.size 37 2 v' (edgR (lasV k) k s).length (cellsR (edgR (lasV k) k s)) ∧ Kp w w' := by
  by_cases h : k = 0
  · subst h; exact edges0_any _ v s w hv hl hn T (lasV 0)
  · have E : edgB k s = decide ((nums (unitsR k s)).length ≤ 400) := by unfold edgB; rw [if_neg h]
    have E2 : edgR (lasV k) k s = if (nums (unitsR k s)).length ≤ 400 then nf (sing ((nums (unitsR k s)).map (lasV k))) else [] := by unfold edgR; rw [E, if_neg h]; simp
    rw [E, E2]
    exact edgesL_any k h v s w hv hl hn T
set_option maxHeartbeats 1000000 in
theorem starts_any (k : Int) (v : Value) (s : List R) (w : World) (hv : RunsAt w v s) (hl : I64R s) (hn : s.length ≤ 1000000) (T : Tabs w) :
    Calls Tryz.prog 43 #[.int .i64 k, v] w fun e w' => ∃ v', e = .returned (.tuple #[v', .bool (edgB k s)]) ∧ w'.ownsRow w.heap.size 37 2 v' (edgR (firV k) k s).length (cellsR (edgR (firV k) k s)) ∧ Kp w w' := by
  have C := Lib.hid (edgesF_all k v s w hv hl hn T)
  generalize edgR (firV k) k s = L at *
  generalize edgB k s = b at *
  obtain ⟨ad, cp, rfl⟩ := hv.slice
  clear hv hl T
  go_enter Tryz.func43, Tryz.ntmps43
  go_wp2_with fail
  refine (C.out).mono ?_
  rintro e w1 ⟨v1, rfl, own1, kk⟩
  have O1 := Lib.hid own1
  have K1 := Lib.hid kk
  clear own1 kk C
  go_wp2
  go_ret2
  exact ⟨_, rfl, O1.out, K1.out⟩
end Go.Proofs.YtinpglfclbnhlaaGreatDoor
