import Derived.Test.YtcooaoponkkpeaaGreatDoorJM
import Derived.Test.YtcooaoponkkpeaaGreatDoorJB
import Derived.Test.YtcooaoponkkpeaaGreatDoorGLeafA
import Derived.Deep.CutRange
set_option maxHeartbeats 16000000
set_option maxRecDepth 100000
namespace Go.Proofs.YtcooaoponkkpeaaGreatDoor
open Go.RowKit Go.Shelf
set_option linter.unusedVariables false
set_option linter.unusedSimpArgs false
theorem ss_one {w : World} {t : TypeId} {u : Value} {l : List R} (h : RunsAt w u l) : SsAt (w.alloc (.cells #[u] t)) (.slice (some ⟨w.heap.size, 0, none⟩) 1 1) [l] := by
 refine ⟨w.heap.size, 1, rfl, fun i hi => ?_⟩
 obtain rfl : i = 0 := by simp at hi; omega
 exact ⟨u, by simp, h.kp (Kp.alloc _ _)⟩
theorem ss_four {w : World} {t : TypeId} {u1 u2 u3 u4 : Value} {l1 l2 l3 l4 : List R} (h1 : RunsAt w u1 l1) (h2 : RunsAt w u2 l2) (h3 : RunsAt w u3 l3) (h4 : RunsAt w u4 l4) :
  SsAt (w.alloc (.cells #[u1, u2, u3, u4] t)) (.slice (some ⟨w.heap.size, 0, none⟩) 4 4) [l1, l2, l3, l4] := by
 refine ⟨w.heap.size, 4, rfl, fun i hi => ?_⟩
 obtain rfl | rfl | rfl | rfl : i = 0 ∨ i = 1 ∨ i = 2 ∨ i = 3 := by simp at hi; omega
 ·exact ⟨u1, by simp, h1.kp (Kp.alloc _ _)⟩
 ·exact ⟨u2, by simp, h2.kp (Kp.alloc _ _)⟩
 ·exact ⟨u3, by simp, h3.kp (Kp.alloc _ _)⟩
 ·exact ⟨u4, by simp, h4.kp (Kp.alloc _ _)⟩
theorem zs_two {w : World} {t : TypeId} {u1 u2 : Value} {a b : List Int} (h1 : IntsAt w u1 a) (h2 : IntsAt w u2 b) : ZsAt (w.alloc (.cells #[u1, u2] t)) (.slice (some ⟨w.heap.size, 0, none⟩) 2 2) a b :=
 ⟨w.heap.size, u1, u2, rfl, by simp, by simp, h1.kp (Kp.alloc _ _), h2.kp (Kp.alloc _ _)⟩
theorem l1_le {a : List R} {N : Nat} (h1 : a.length ≤ N) : ∀ i, i < [a].length → ([a].getD i []).length ≤ N := by
 intro i hi
 obtain rfl : i = 0 := by simp at hi; omega
 exact h1
theorem l4_le {a b c e : List R} {N : Nat} (h1 : a.length ≤ N) (h2 : b.length ≤ N) (h3 : c.length ≤ N) (h4 : e.length ≤ N) : ∀ i, i < [a, b, c, e].length → ([a, b, c, e].getD i []).length ≤ N := by
 intro i hi
 obtain rfl | rfl | rfl | rfl : i = 0 ∨ i = 1 ∨ i = 2 ∨ i = 3 := by simp at hi; omega
 ·exact h1
 ·exact h2
 ·exact h3
 ·exact h4
abbrev exA0 : Oper := ⟨some 10, .fieldAddr 80 (.tmp 2) 1, 0, "family.go:108", #[], none⟩
abbrev exA1 : Oper := ⟨some 11, .load 34 (.tmp 10), 34, "family.go:108", #[⟨0, .data⟩], none⟩
abbrev exA2 : Oper := ⟨some 12, .fieldAddr 80 (.tmp 3) 1, 0, "family.go:108", #[], none⟩
abbrev exA3 : Oper := ⟨some 13, .load 34 (.tmp 12), 34, "family.go:108", #[⟨2, .data⟩], none⟩
abbrev exA4 : Oper := ⟨some 14, .call ⟨.value (.func 78), #[.tmp 11, .tmp 13], #[34, 34]⟩, 34, "family.go:108", #[⟨1, .data⟩, ⟨3, .data⟩], none⟩
abbrev exA5 : Oper := ⟨some 15, .fieldAddr 80 (.tmp 2) 2, 0, "family.go:108", #[], none⟩
abbrev exA6 : Oper := ⟨some 16, .load 34 (.tmp 15), 34, "family.go:108", #[⟨5, .data⟩], none⟩
abbrev exA7 : Oper := ⟨some 17, .fieldAddr 80 (.tmp 3) 2, 0, "family.go:108", #[], none⟩
abbrev exA8 : Oper := ⟨some 18, .load 34 (.tmp 17), 34, "family.go:108", #[⟨7, .data⟩], none⟩
abbrev exA9 : Oper := ⟨some 19, .call ⟨.value (.func 78), #[.tmp 16, .tmp 18], #[34, 34]⟩, 34, "family.go:108", #[⟨6, .data⟩, ⟨8, .data⟩, ⟨4, .chain⟩], none⟩
abbrev exA10 : Oper := { dst := some 5, op := Go.Op.assign (Go.Operand.tmp 14), type := 34, pos := "family.go:108", after := #[{ on := 4, ground := Go.Ground.data }, { on := 9, ground := Go.Ground.chain }, { on := 0, ground := Go.Ground.phase }, { on := 1, ground := Go.Ground.phase }, { on := 2, ground := Go.Ground.phase }, { on := 3, ground := Go.Ground.phase }, { on := 4, ground := Go.Ground.phase }, { on := 5, ground := Go.Ground.textOnly Go.Departure.lateStores }, { on := 6, ground := Go.Ground.textOnly Go.Departure.lateStores }, { on := 7, ground := Go.Ground.textOnly Go.Departure.lateStores }, { on := 8, ground := Go.Ground.textOnly Go.Departure.lateStores }, { on := 9, ground := Go.Ground.textOnly Go.Departure.lateStoresUnsure }], guard := none }
abbrev exA11 : Oper := ⟨some 6, .assign (.tmp 19), 34, "family.go:108", #[⟨9, .data⟩, ⟨10, .chain⟩, ⟨0, .phase⟩, ⟨1, .phase⟩, ⟨2, .phase⟩, ⟨3, .phase⟩, ⟨4, .phase⟩, ⟨5, .phase⟩, ⟨6, .phase⟩, ⟨7, .phase⟩, ⟨8, .phase⟩, ⟨9, .phase⟩, ⟨10, .phase⟩], none⟩
abbrev exB0 : Oper := ⟨some 25, .move (.tmp 7), 117, "family.go:110", #[], none⟩
abbrev exB1 : Oper := ⟨some 26, .fieldAddr 80 (.tmp 2) 1, 0, "family.go:110", #[], none⟩
abbrev exB2 : Oper := ⟨some 27, .load 34 (.tmp 26), 34, "family.go:110", #[⟨1, .data⟩], none⟩
abbrev exB3 : Oper := ⟨some 28, .move (.tmp 5), 34, "family.go:110", #[], none⟩
abbrev exB4 : Oper := ⟨some 29, .fieldAddr 80 (.tmp 2) 1, 0, "family.go:110", #[], none⟩
abbrev exB5 : Oper := ⟨some 30, .load 34 (.tmp 29), 34, "family.go:110", #[⟨4, .data⟩], none⟩
abbrev exB6 : Oper := ⟨some 31, .fieldAddr 80 (.tmp 3) 1, 0, "family.go:110", #[], none⟩
abbrev exB7 : Oper := ⟨some 32, .load 34 (.tmp 31), 34, "family.go:110", #[⟨6, .data⟩], none⟩
abbrev exB8 : Oper := ⟨some 33, .call ⟨.value (.func 114), #[.tmp 32], #[34]⟩, 3, "family.go:113", #[⟨7, .data⟩], none⟩
abbrev exB9 : Oper := ⟨some 34, .binOp .add 3 (.tmp 33) (.const (.int .i64 1)) 3, 3, "family.go:110", #[⟨8, .data⟩], none⟩
abbrev exB10 : Oper := ⟨some 35, .call ⟨.value (.func 79), #[.tmp 30, .tmp 34, .const (.int .i64 3652424)], #[34, 3, 3]⟩, 34, "family.go:113", #[⟨5, .data⟩, ⟨9, .data⟩, ⟨8, .chain⟩], none⟩
abbrev exB11 : Oper := ⟨some 36, .fieldAddr 80 (.tmp 2) 1, 0, "family.go:110", #[], none⟩
abbrev exB12 : Oper := ⟨some 37, .load 34 (.tmp 36), 34, "family.go:110", #[⟨11, .data⟩], none⟩
abbrev exB13 : Oper := ⟨some 38, .fieldAddr 80 (.tmp 3) 2, 0, "family.go:110", #[], none⟩
abbrev exB14 : Oper := ⟨some 39, .load 34 (.tmp 38), 34, "family.go:110", #[⟨13, .data⟩], none⟩
abbrev exB15 : Oper := ⟨some 40, .call ⟨.value (.func 115), #[.tmp 39, .const (.int .i64 1)], #[34, 3]⟩, 34, "family.go:114", #[⟨14, .data⟩, ⟨10, .chain⟩], none⟩
abbrev exB16 : Oper := ⟨some 41, .call ⟨.value (.func 78), #[.tmp 37, .tmp 40], #[34, 34]⟩, 34, "family.go:114", #[⟨12, .data⟩, ⟨15, .data⟩, ⟨15, .chain⟩], none⟩
abbrev exB17 : Oper := ⟨some 42, .buildSlice 170 4 #[(0, .tmp 27), (1, .tmp 28), (2, .tmp 35), (3, .tmp 41)], 170, "family.go:110", #[⟨2, .data⟩, ⟨3, .data⟩, ⟨10, .data⟩, ⟨16, .data⟩], none⟩
abbrev exB18 : Oper := ⟨some 43, .call ⟨.value (.func 112), #[.tmp 42], #[170]⟩, 117, "family.go:110", #[⟨17, .data⟩, ⟨16, .chain⟩], none⟩
abbrev exB19 : Oper := ⟨some 44, .buildSlice 171 2 #[(0, .tmp 25), (1, .tmp 43)], 171, "family.go:110", #[⟨0, .data⟩, ⟨18, .data⟩], none⟩
abbrev exB20 : Oper := ⟨some 45, .call ⟨.value (.func 113), #[.tmp 44], #[171]⟩, 117, "family.go:110", #[⟨19, .data⟩, ⟨18, .chain⟩], none⟩
abbrev exB21 : Oper := ⟨some 8, .assign (.tmp 45), 117, "family.go:110", #[⟨20, .data⟩, ⟨20, .chain⟩, ⟨0, .phase⟩, ⟨1, .phase⟩, ⟨2, .phase⟩, ⟨3, .phase⟩, ⟨4, .phase⟩, ⟨5, .phase⟩, ⟨6, .phase⟩, ⟨7, .phase⟩, ⟨8, .phase⟩, ⟨9, .phase⟩, ⟨10, .phase⟩, ⟨11, .phase⟩, ⟨12, .phase⟩, ⟨13, .phase⟩, ⟨14, .phase⟩, ⟨15, .phase⟩, ⟨16, .phase⟩, ⟨17, .phase⟩, ⟨18, .phase⟩, ⟨19, .phase⟩, ⟨20, .phase⟩], none⟩
abbrev exC0 : Oper := ⟨some 46, .move (.tmp 7), 117, "family.go:116", #[], none⟩
abbrev exC1 : Oper := ⟨some 47, .fieldAddr 80 (.tmp 2) 2, 0, "family.go:116", #[], none⟩
abbrev exC2 : Oper := ⟨some 48, .load 34 (.tmp 47), 34, "family.go:116", #[⟨1, .data⟩], none⟩
abbrev exC3 : Oper := ⟨some 49, .move (.tmp 6), 34, "family.go:116", #[], none⟩
abbrev exC4 : Oper := ⟨some 50, .fieldAddr 80 (.tmp 2) 2, 0, "family.go:116", #[], none⟩
abbrev exC5 : Oper := ⟨some 51, .load 34 (.tmp 50), 34, "family.go:116", #[⟨4, .data⟩], none⟩
abbrev exC6 : Oper := ⟨some 52, .fieldAddr 80 (.tmp 3) 2, 0, "family.go:116", #[], none⟩
abbrev exC7 : Oper := ⟨some 53, .load 34 (.tmp 52), 34, "family.go:116", #[⟨6, .data⟩], none⟩
abbrev exC8 : Oper := ⟨some 54, .call ⟨.value (.func 116), #[.tmp 53], #[34]⟩, 3, "family.go:119", #[⟨7, .data⟩], none⟩
abbrev exC9 : Oper := ⟨some 55, .binOp .sub 3 (.tmp 54) (.const (.int .i64 1)) 3, 3, "family.go:116", #[⟨8, .data⟩], none⟩
abbrev exC10 : Oper := ⟨some 56, .call ⟨.value (.func 79), #[.tmp 51, .const (.int .i64 0), .tmp 55], #[34, 3, 3]⟩, 34, "family.go:119", #[⟨5, .data⟩, ⟨9, .data⟩, ⟨8, .chain⟩], none⟩
abbrev exC11 : Oper := ⟨some 57, .fieldAddr 80 (.tmp 2) 2, 0, "family.go:116", #[], none⟩
abbrev exC12 : Oper := ⟨some 58, .load 34 (.tmp 57), 34, "family.go:116", #[⟨11, .data⟩], none⟩
abbrev exC13 : Oper := ⟨some 59, .fieldAddr 80 (.tmp 3) 1, 0, "family.go:116", #[], none⟩
abbrev exC14 : Oper := ⟨some 60, .load 34 (.tmp 59), 34, "family.go:116", #[⟨13, .data⟩], none⟩
abbrev exC15 : Oper := ⟨some 61, .call ⟨.value (.func 115), #[.tmp 60, .const (.int .i64 (-1))], #[34, 3]⟩, 34, "family.go:120", #[⟨14, .data⟩, ⟨10, .chain⟩], none⟩
abbrev exC16 : Oper := ⟨some 62, .call ⟨.value (.func 78), #[.tmp 58, .tmp 61], #[34, 34]⟩, 34, "family.go:120", #[⟨12, .data⟩, ⟨15, .data⟩, ⟨15, .chain⟩], none⟩
abbrev exC17 : Oper := ⟨some 63, .buildSlice 170 4 #[(0, .tmp 48), (1, .tmp 49), (2, .tmp 56), (3, .tmp 62)], 170, "family.go:116", #[⟨2, .data⟩, ⟨3, .data⟩, ⟨10, .data⟩, ⟨16, .data⟩], none⟩
abbrev exC18 : Oper := ⟨some 64, .call ⟨.value (.func 112), #[.tmp 63], #[170]⟩, 117, "family.go:116", #[⟨17, .data⟩, ⟨16, .chain⟩], none⟩
abbrev exC19 : Oper := ⟨some 65, .buildSlice 171 2 #[(0, .tmp 46), (1, .tmp 64)], 171, "family.go:116", #[⟨0, .data⟩, ⟨18, .data⟩], none⟩
abbrev exC20 : Oper := ⟨some 66, .call ⟨.value (.func 113), #[.tmp 65], #[171]⟩, 117, "family.go:116", #[⟨19, .data⟩, ⟨18, .chain⟩], none⟩
abbrev exC21 : Oper := ⟨some 9, .assign (.tmp 66), 117, "family.go:116", #[⟨20, .data⟩, ⟨20, .chain⟩, ⟨0, .phase⟩, ⟨1, .phase⟩, ⟨2, .phase⟩, ⟨3, .phase⟩, ⟨4, .phase⟩, ⟨5, .phase⟩, ⟨6, .phase⟩, ⟨7, .phase⟩, ⟨8, .phase⟩, ⟨9, .phase⟩, ⟨10, .phase⟩, ⟨11, .phase⟩, ⟨12, .phase⟩, ⟨13, .phase⟩, ⟨14, .phase⟩, ⟨15, .phase⟩, ⟨16, .phase⟩, ⟨17, .phase⟩, ⟨18, .phase⟩, ⟨19, .phase⟩, ⟨20, .phase⟩], none⟩
theorem examples_any (d d' : Bool) (A B C D : List R) (va vb vc vd : Value) (w : World) (ha : RunsAt w va A) (hb : RunsAt w vb B) (hc : RunsAt w vc C) (hd : RunsAt w vd D) (H : LsOkP d A B) (H' : LsOkP d' C D)
  (nA : A.length ≤ 100000) (nB : B.length ≤ 100000) (nC : C.length ≤ 100000) (nD : D.length ≤ 100000) :
  Calls Tryz.prog 60 #[.agg #[.bool d, va, vb], .agg #[.bool d', vc, vd]] w fun e w' => ∃ v', e = .returned v' ∧ OwnP w' w.heap.size v' (exPs d A B C D) ∧ Kp w w' := by
 obtain ⟨i0, hi, hz0, hz1, hz2⟩ := info_parts infoZ
 obtain ⟨aa, ca, rfl⟩ := ha.slice
 obtain ⟨ab, cb, rfl⟩ := hb.slice
 obtain ⟨ac, cc, rfl⟩ := hc.slice
 obtain ⟨ad, cd, rfl⟩ := hd.slice
 obtain ⟨v0, hV⟩ : ∃ x, x = (w.alloc (.cells #[.bool d, .slice aa A.length ca, .slice ab B.length cb] 80)).alloc (.cells #[.bool d', .slice ac C.length cc, .slice ad D.length cd] 80) := ⟨_, rfl⟩
 have ka : Kp w v0 := by rw [hV]; exact (Kp.alloc _ _).trans (Kp.alloc _ _)
 have gf : v0.heap[w.heap.size]? = some (.cells #[.bool d, .slice aa A.length ca, .slice ab B.length cb] 80 (0, 0)) := by rw [hV]; exact heap_block (Kp.alloc _ _) (heap_at _ _ _ rfl)
 have gg : v0.heap[w.heap.size + 1]? = some (.cells #[.bool d', .slice ac C.length cc, .slice ad D.length cd] 80 (0, 0)) := by rw [hV]; exact heap_at _ _ _ (by simp)
 have KS := Hd (fun w' (kq : Kp v0 w') => show w'.cell? ⟨w.heap.size, 0, none⟩ = some (.bool d) ∧ w'.cell? ⟨w.heap.size, 1, none⟩ = some (.slice aa A.length ca) ∧ w'.cell? ⟨w.heap.size, 2, none⟩ = some (.slice ab B.length cb) ∧ w'.cell? ⟨w.heap.size + 1, 1, none⟩ = some (.slice ac C.length cc) ∧ w'.cell? ⟨w.heap.size + 1, 2, none⟩ = some (.slice ad D.length cd) ∧ Kp v0 w' from ⟨(row3 (heap_block kq gf)).1, (row3 (heap_block kq gf)).2.1, (row3 (heap_block kq gf)).2.2, (row3 (heap_block kq gg)).2.1, (row3 (heap_block kq gg)).2.2, kq⟩)
 have HV := Hd hV
 have KA := Hd ka
 have ha := ha.kp ka
 have hb := hb.kp ka
 have hc := hc.kp ka
 have hd := hd.kp ka
 have bl := (H.ba _ H.lo.1)
 have lC := H'.ba _ H'.lo.1
 have gD := H'.bb _ H'.hi.1
 have n1 := interR_len H.sa H'.sa
 have n2 := interR_len H.sb H'.sb
 have n3 := interR_len (interR_sane A C) (interR_sane B D)
 have sh1 : nf (shR 1 1 (nf D)) = nf (shR 1 1 D) := by rw [nf_of_sane H'.sb]
 have sh2 : nf (shR (-1) (-1) (nf C)) = nf (shR (-1) (-1) C) := by rw [nf_of_sane H'.sa]
 have n5 : (nf (shR 1 1 D)).length ≤ D.length := Nat.le_trans (nf_len _) (by rw [shR_len]; exact Nat.le_refl _)
 have n8 : (nf (shR (-1) (-1) C)).length ≤ C.length := Nat.le_trans (nf_len _) (by rw [shR_len]; exact Nat.le_refl _)
 have y1 : I64R [(leastR C + 1, 3652424)] := by intro r hr; simp at hr; subst hr; simp only; omega
 have y2 : I64R [(0, greatR D - 1)] := by intro r hr; simp at hr; subst hr; simp only; omega
 have MS := Hd (fun w1 (k : Kp v0 w1) => meet_any _ _ A C w1 (ha.kp k) (hc.kp k) (sane_i64 H.sa) (sane_i64 H'.sa) (by omega) (by omega))
 have ME := Hd (fun w1 (k : Kp v0 w1) => meet_any _ _ B D w1 (hb.kp k) (hd.kp k) (sane_i64 H.sb) (sane_i64 H'.sb) (by omega) (by omega))
 have M3 := Hd (fun u1 u2 w1 (h1 : RunsAt w1 u1 (interR A C)) (h2 : RunsAt w1 u2 (interR B D)) => meet_any u1 u2 _ _ w1 h1 h2 (sane_i64 (interR_sane _ _)) (sane_i64 (interR_sane _ _)) (by omega) (by omega))
 have CL := Hd (fun w1 (k : Kp v0 w1) => clip_any _ A (leastR C + 1) 3652424 w1 (ha.kp k) (sane_i64 H.sa) (by omega) y1)
 have DL := Hd (fun w1 (k : Kp v0 w1) => clip_any _ B 0 (greatR D - 1) w1 (hb.kp k) (sane_i64 H.sb) (by omega) y2)
 have SH := Hd (fun w1 (k : Kp v0 w1) => shift_any _ D 1 w1 (hd.kp k) (sane_i64 H'.sb) (by omega))
 have TH := Hd (fun w1 (k : Kp v0 w1) => shift_any _ C (-1) w1 (hc.kp k) (sane_i64 H'.sa) (by omega))
 rw [sh1] at SH
 rw [sh2] at TH
 have M6 := Hd (fun u w1 (h : RunsAt w1 u (nf (shR 1 1 D))) (k : Kp v0 w1) => meet_any _ u A _ w1 (ha.kp k) h (sane_i64 H.sa) (sane_i64 (nf_sane _)) (by omega) (by omega))
 have M9 := Hd (fun u w1 (h : RunsAt w1 u (nf (shR (-1) (-1) C))) (k : Kp v0 w1) => meet_any _ u B _ w1 (hb.kp k) h (sane_i64 H.sb) (sane_i64 (nf_sane _)) (by omega) (by omega))
 have n4 : (interR A [(leastR C + 1, 3652424)]).length ≤ 100000 * 1 := interR_bd nA (by simp)
 have n7 : (interR B [(0, greatR D - 1)]).length ≤ 100000 * 1 := interR_bd nB (by simp)
 have n6 := interR_len H.sa (nf_sane (shR 1 1 D))
 have n9 := interR_len H.sb (nf_sane (shR (-1) (-1) C))
 have LE := Hd (fun w1 (k : Kp v0 w1) => rleast_any _ C w1 (hc.kp k) H'.na)
 have GR := Hd (fun w1 (k : Kp v0 w1) => rgreat_any _ D w1 (hd.kp k) H'.nb (by omega))
 have ED1 := Hd (fun v w1 (h : SsAt w1 v [interR (interR A C) (interR B D)]) => edges_any v _ w1 h (by simp) (l1_le (by omega)))
 have ED2 := Hd (fun v w1 (h : SsAt w1 v [A, interR A C, interR A [(leastR C + 1, 3652424)], interR A (nf (shR 1 1 D))]) => edges_any v _ w1 h (by simp) (l4_le (by omega) (by omega) (by omega) (by omega)))
 have ED3 := Hd (fun v w1 (h : SsAt w1 v [B, interR B D, interR B [(0, greatR D - 1)], interR B (nf (shR (-1) (-1) C))]) => edges_any v _ w1 h (by simp) (l4_le (by omega) (by omega) (by omega) (by omega)))
 have z1 := edg_len [interR (interR A C) (interR B D)]
 have z2 := edg_len [A, interR A C, interR A [(leastR C + 1, 3652424)], interR A (nf (shR 1 1 D))]
 have z3 := edg_len [B, interR B D, interR B [(0, greatR D - 1)], interR B (nf (shR (-1) (-1) C))]
 simp only [List.length_cons, List.length_nil] at z1 z2 z3
 have PX : exPs d A B C D = if d = true then ((edgL [interR (interR A C) (interR B D)] ++ edgL [A, interR A C, interR A [(leastR C + 1, 3652424)], interR A (nf (shR 1 1 D))]) ++ (edgL [interR (interR A C) (interR B D)] ++ edgL [B, interR B D, interR B [(0, greatR D - 1)], interR B (nf (shR (-1) (-1) C))])).map (fun x => (x, x)) else pairsL (edgL [interR (interR A C) (interR B D)] ++ edgL [A, interR A C, interR A [(leastR C + 1, 3652424)], interR A (nf (shR 1 1 D))]) (edgL [interR (interR A C) (interR B D)] ++ edgL [B, interR B D, interR B [(0, greatR D - 1)], interR B (nf (shR (-1) (-1) C))]) := rfl
 rw [PX]
 clear PX
 generalize edgL [A, interR A C, interR A [(leastR C + 1, 3652424)], interR A (nf (shR 1 1 D))] = Z2 at *
 generalize edgL [B, interR B D, interR B [(0, greatR D - 1)], interR B (nf (shR (-1) (-1) C))] = Z3 at *
 generalize edgL [interR (interR A C) (interR B D)] = Z1 at *
 have CO2 := Hd (fun v w1 (h : ZsAt w1 v Z1 Z2) => concatZ_any v _ _ w1 h (by omega) (by omega))
 have CO3 := Hd (fun v w1 (h : ZsAt w1 v Z1 Z3) => concatZ_any v _ _ w1 h (by omega) (by omega))
 have x2 : (Z1 ++ Z2).length ≤ 100 := by rw [List.length_append]; omega
 have x3 : (Z1 ++ Z3).length ≤ 100 := by rw [List.length_append]; omega
 generalize Z1 ++ Z2 = X at *
 generalize Z1 ++ Z3 = Y at *
 have HX2 := Hd x2
 have HX3 := Hd x3
 have SGL := Hd (fun v w1 (h : IntsAt w1 v (X ++ Y)) => singleDays_any v _ w1 h (by rw [List.length_append]; omega))
 generalize List.map (fun x : Int => (x, x)) (X ++ Y) = XY at *
 have PRS := Hd (fun v u w1 (h : IntsAt w1 v X) (g : IntsAt w1 u Y) => pairsOf_any v u _ _ w1 h g (by omega) (by omega))
 clear n1 n2 n3 n4 n5 n6 n7 n8 n9 z1 z2 z3 x2 x3 y1 y2 sh1 sh2
 generalize interR (interR A C) (interR B D) = E3 at *
 generalize interR A C = E1 at *
 generalize interR B D = E2 at *
 generalize interR A (nf (shR 1 1 D)) = E6 at *
 generalize interR B (nf (shR (-1) (-1) C)) = E9 at *
 generalize nf (shR 1 1 D) = E5 at *
 generalize nf (shR (-1) (-1) C) = E8 at *
 generalize interR A [(leastR C + 1, 3652424)] = E4 at *
 generalize interR B [(0, greatR D - 1)] = E7 at *
 have lc0 : 0 ≤ leastR C ∧ leastR C ≤ 3652424 := lC
 have gd0 : 0 ≤ greatR D ∧ greatR D ≤ 3652424 := gD
 generalize leastR C = lc at *
 generalize greatR D = gd at *
 have wl : IntKind.i64.wrap (lc + 1) = lc + 1 := by rw [IntKind.wrap_i64]; omega
 have wg : IntKind.i64.wrap (gd - 1) = gd - 1 := by rw [IntKind.wrap_i64]; omega
 have HA := Hd ha
 have HB := Hd hb
 clear ha hb hc hd H H' bl lC gD nA nB nC nD hV gf gg lc0 gd0 ka
 have kkv0 : Kp v0 v0 := Kp.refl _
 go_enter Tryz.func60, Tryz.ntmps60
 go_upto_region 1 with fail
 rw [← HV.out]
 clear HV
 have kbv0 : Kp v0 v0 := Kp.refl _
 go_cut [5, 6] from 10 (fun s5 s6 wx => ∃ a1 c1 a2 c2, s5 = .slice a1 E1.length c1 ∧ s6 = .slice a2 E2.length c2 ∧ Hid (RunsAt wx (.slice a1 E1.length c1) E1) ∧ Hid (RunsAt wx (.slice a2 E2.length c2) E2) ∧ Hid (Kp v0 wx))
 case first =>
  refine wp_region_held_drew (S := fun w' => w'.cell? ⟨w.heap.size, 0, none⟩ = some (.bool d) ∧ w'.cell? ⟨w.heap.size, 1, none⟩ = some (.slice aa A.length ca) ∧ w'.cell? ⟨w.heap.size, 2, none⟩ = some (.slice ab B.length cb) ∧ w'.cell? ⟨w.heap.size + 1, 1, none⟩ = some (.slice ac C.length cc) ∧ w'.cell? ⟨w.heap.size + 1, 2, none⟩ = some (.slice ad D.length cd) ∧ Kp v0 w') (by kernel_rfl) ?_ (fun hHeld0 => ?_)
  ·(try dsimp only); exact KS.out _ (ky kkv0)
  refine tkv 0 exA0 ?_
  (try simp only [Act.put, exA0, xA, xB, xC])
  refine tkv 1 exA1 ?_
  (try simp only [Act.put, exA1, xA, xB, xC])
  refine tkv 2 exA2 ?_
  (try simp only [Act.put, exA2, xA, xB, xC])
  refine tkv 3 exA3 ?_
  (try simp only [Act.put, exA3, xA, xB, xC])
  refine tkv 5 exA5 ?_
  (try simp only [Act.put, exA5, xA, xB, xC])
  refine tkv 6 exA6 ?_
  (try simp only [Act.put, exA6, xA, xB, xC])
  refine tkv 7 exA7 ?_
  (try simp only [Act.put, exA7, xA, xB, xC])
  refine tkv 8 exA8 ?_
  (try simp only [Act.put, exA8, xA, xB, xC])
  refine tkE 4 exA4 rfl (by kernel_rfl) (fun K hK => ?_)
  go_simp
  (refine (MS.out _ (ky kkv0)).mono ?_; rintro e wa ⟨v1, rfl, o1, kq1⟩; have kkwa : Kp v0 wa := Kp.trans (show Kp v0 _ from (ky kkv0)) kq1; have ks1 : Kp v0 wa := Kp.trans (show Kp v0 _ from (ky (Kp.refl v0))) kq1; have kbwa : Kp v0 wa := Kp.trans (show Kp v0 _ from (ky kbv0)) kq1; have O1 := Hd (runsAt_own o1); obtain ⟨aO1, cO1, rfl⟩ := O1.out.slice; clear o1; clear kq1 ks1)
  (try go_wp2_with fail)
  refine hK.out _ _ ?_ (fun hHeld1 => ?_)
  ·(try dsimp only); exact KS.out _ (ky kkwa)
  clear hK K hHeld0
  (try simp only [Act.put, exA4, xA, xB, xC])
  refine tkE 9 exA9 rfl (by kernel_rfl) (fun K hK => ?_)
  go_simp
  (refine (ME.out _ (ky kkwa)).mono ?_; rintro e wb ⟨v2, rfl, o2, kq1⟩; have kkwb : Kp v0 wb := Kp.trans (show Kp v0 _ from (ky kkwa)) kq1; have ks1 : Kp wa wb := Kp.trans (show Kp wa _ from (ky (Kp.refl wa))) kq1; have kbwb : Kp v0 wb := Kp.trans (show Kp v0 _ from (ky kbwa)) kq1; have O2 := Hd (runsAt_own o2); obtain ⟨aO2, cO2, rfl⟩ := O2.out.slice; clear o2; replace O1 := Hd (O1.out.kp ks1); clear kq1 ks1)
  (try go_wp2_with fail)
  refine hK.out _ _ ?_ (fun hHeld2 => ?_)
  ·(try dsimp only); exact KS.out _ (ky kkwb)
  clear hK K hHeld1
  (try simp only [Act.put, exA9, xA, xB, xC])
  refine tkv 10 exA10 ?_
  (try simp only [Act.put, exA10, xA, xB, xC])
  refine tkv 11 exA11 ?_
  (try simp only [Act.put, exA11, xA, xB, xC])
  refine wpAnyH_done (by kernel_rfl) ?_ _
  go_wp2
  go_meet
  case rel => exact ⟨_, _, _, _, rfl, rfl, Hd (O1.out.kp (ky (Kp.refl wb))), Hd (O2.out.kp (ky (Kp.refl wb))), Hd (ky kkwb)⟩
 obtain ⟨a1, c1, a2, c2, rfl, rfl, O1, O2, KC⟩ := hcut
 obtain ⟨w1, hw1⟩ : ∃ x, x = wc := ⟨_, rfl⟩
 subst hw1
 go_wp2_with fail
 refine (M3.out _ _ _ O1.out O2.out).mono ?_
 rintro e w2 ⟨v3, rfl, o3, k3⟩
 have O3 := Hd (runsAt_own o3)
 obtain ⟨a3, c3, rfl⟩ := O3.out.slice
 have K3 := Hd k3
 clear o3 k3
 go_wp2_with fail
 refine (ED1.out _ _ (ss_one O3.out)).mono ?_
 rintro e w3 ⟨v7, rfl, o7, k7⟩
 have O7 := Hd (intsAt_ownZ o7)
 obtain ⟨a7, c7, rfl⟩ := O7.out.slice
 have ks : Kp w1 w3 := K3.out.trans ((Kp.alloc _ _).trans k7)
 have kkw3 : Kp v0 w3 := KC.out.trans ks
 replace O1 := Hd (O1.out.kp ks)
 replace O2 := Hd (O2.out.kp ks)
 clear o7 k7 K3 KC O3 ks
 go_upto_region 3 with fail
 have kbw3 : Kp w3 w3 := Kp.refl _
 go_cut [8] from 10 (fun s8 wx => ∃ a8 c8, s8 = .slice a8 X.length c8 ∧ Hid (wx.ownsRow v0.heap.size 3 1 (.slice a8 X.length c8) X.length (cellsZ X)) ∧ Hid (Kp w3 wx))
 case first =>
  refine wp_region_held_drew (S := fun w' => w'.cell? ⟨w.heap.size, 0, none⟩ = some (.bool d) ∧ w'.cell? ⟨w.heap.size, 1, none⟩ = some (.slice aa A.length ca) ∧ w'.cell? ⟨w.heap.size, 2, none⟩ = some (.slice ab B.length cb) ∧ w'.cell? ⟨w.heap.size + 1, 1, none⟩ = some (.slice ac C.length cc) ∧ w'.cell? ⟨w.heap.size + 1, 2, none⟩ = some (.slice ad D.length cd) ∧ Kp v0 w') (by kernel_rfl) ?_ (fun hHeld0 => ?_)
  ·(try dsimp only); exact KS.out _ (ky kkw3)
  refine tkv 0 exB0 ?_
  (try simp only [Act.put, exB0, xA, xB, xC])
  refine tkv 1 exB1 ?_
  (try simp only [Act.put, exB1, xA, xB, xC])
  refine tkv 2 exB2 ?_
  (try simp only [Act.put, exB2, xA, xB, xC])
  refine tkv 3 exB3 ?_
  (try simp only [Act.put, exB3, xA, xB, xC])
  refine tkv 4 exB4 ?_
  (try simp only [Act.put, exB4, xA, xB, xC])
  refine tkv 5 exB5 ?_
  (try simp only [Act.put, exB5, xA, xB, xC])
  refine tkv 6 exB6 ?_
  (try simp only [Act.put, exB6, xA, xB, xC])
  refine tkv 7 exB7 ?_
  (try simp only [Act.put, exB7, xA, xB, xC])
  refine tkv 11 exB11 ?_
  (try simp only [Act.put, exB11, xA, xB, xC])
  refine tkv 12 exB12 ?_
  (try simp only [Act.put, exB12, xA, xB, xC])
  refine tkv 13 exB13 ?_
  (try simp only [Act.put, exB13, xA, xB, xC])
  refine tkv 14 exB14 ?_
  (try simp only [Act.put, exB14, xA, xB, xC])
  refine tkE 8 exB8 rfl (by kernel_rfl) (fun K hK => ?_)
  go_simp
  (refine (LE.out _ (ky kkw3)).mono ?_; rintro e w' ⟨rfl, rfl⟩)
  (try go_wp2_with fail)
  refine hK.out _ _ ?_ (fun hHeld1 => ?_)
  ·(try dsimp only); exact KS.out _ (ky kkw3)
  clear hK K hHeld0
  (try simp only [Act.put, exB8, xA, xB, xC])
  refine tkv 9 exB9 ?_
  (try simp only [Act.put, exB9, xA, xB, xC])
  refine tkE 10 exB10 rfl (by kernel_rfl) (fun K hK => ?_)
  go_simp
  ((try rw [wl]); refine (CL.out _ (ky kkw3)).mono ?_; rintro e wc1 ⟨v4, rfl, o4, kq1⟩; have kkwc1 : Kp v0 wc1 := Kp.trans (show Kp v0 _ from (ky kkw3)) kq1; have ks1 : Kp w3 wc1 := Kp.trans (show Kp w3 _ from (ky (Kp.refl w3))) kq1; have kbwc1 : Kp w3 wc1 := Kp.trans (show Kp w3 _ from (ky kbw3)) kq1; have O4 := Hd (runsAt_own o4); obtain ⟨aO4, cO4, rfl⟩ := O4.out.slice; clear o4; replace O1 := Hd (O1.out.kp ks1); replace O2 := Hd (O2.out.kp ks1); replace O7 := Hd (O7.out.kp ks1); clear kq1 ks1)
  (try go_wp2_with fail)
  refine hK.out _ _ ?_ (fun hHeld2 => ?_)
  ·(try dsimp only); exact KS.out _ (ky kkwc1)
  clear hK K hHeld1
  (try simp only [Act.put, exB10, xA, xB, xC])
  refine tkE 15 exB15 rfl (by kernel_rfl) (fun K hK => ?_)
  go_simp
  (refine (SH.out _ (ky kkwc1)).mono ?_; rintro e wc2 ⟨v5, rfl, o5, kq1⟩; have kkwc2 : Kp v0 wc2 := Kp.trans (show Kp v0 _ from (ky kkwc1)) kq1; have ks1 : Kp wc1 wc2 := Kp.trans (show Kp wc1 _ from (ky (Kp.refl wc1))) kq1; have kbwc2 : Kp w3 wc2 := Kp.trans (show Kp w3 _ from (ky kbwc1)) kq1; have O5 := Hd (runsAt_own o5); obtain ⟨aO5, cO5, rfl⟩ := O5.out.slice; clear o5; replace O1 := Hd (O1.out.kp ks1); replace O2 := Hd (O2.out.kp ks1); replace O7 := Hd (O7.out.kp ks1); replace O4 := Hd (O4.out.kp ks1); clear kq1 ks1)
  (try go_wp2_with fail)
  refine hK.out _ _ ?_ (fun hHeld3 => ?_)
  ·(try dsimp only); exact KS.out _ (ky kkwc2)
  clear hK K hHeld2
  (try simp only [Act.put, exB15, xA, xB, xC])
  refine tkE 16 exB16 rfl (by kernel_rfl) (fun K hK => ?_)
  go_simp
  (refine (M6.out _ _ (O5.out.kp (ky (Kp.refl wc2))) (ky kkwc2)).mono ?_; rintro e wc3 ⟨v6, rfl, o6, kq1⟩; have kkwc3 : Kp v0 wc3 := Kp.trans (show Kp v0 _ from (ky kkwc2)) kq1; have ks1 : Kp wc2 wc3 := Kp.trans (show Kp wc2 _ from (ky (Kp.refl wc2))) kq1; have kbwc3 : Kp w3 wc3 := Kp.trans (show Kp w3 _ from (ky kbwc2)) kq1; have O6 := Hd (runsAt_own o6); obtain ⟨aO6, cO6, rfl⟩ := O6.out.slice; clear o6; replace O1 := Hd (O1.out.kp ks1); replace O2 := Hd (O2.out.kp ks1); replace O7 := Hd (O7.out.kp ks1); replace O4 := Hd (O4.out.kp ks1); replace O5 := Hd (O5.out.kp ks1); clear kq1 ks1)
  (try go_wp2_with fail)
  refine hK.out _ _ ?_ (fun hHeld4 => ?_)
  ·(try dsimp only); exact KS.out _ (ky kkwc3)
  clear hK K hHeld3
  (try simp only [Act.put, exB16, xA, xB, xC])
  refine tkE 17 exB17 rfl (by kernel_rfl) (fun K hK => ?_)
  go_simp
  skip
  (try go_wp2_with fail)
  refine hK.out _ _ ?_ (fun hHeld5 => ?_)
  ·(try dsimp only); exact KS.out _ (ky kkwc3)
  clear hK K hHeld4
  (try simp only [Act.put, exB17, xA, xB, xC])
  refine tkE 18 exB18 rfl (by kernel_rfl) (fun K hK => ?_)
  go_simp
  (refine (ED2.out _ _ (ss_four (HA.out.kp (ky kkwc3)) (O1.out.kp (ky (Kp.refl wc3))) (O4.out.kp (ky (Kp.refl wc3))) (O6.out.kp (ky (Kp.refl wc3))))).mono ?_; rintro e wc4 ⟨v9, rfl, o9, kq1⟩; have kkwc4 : Kp v0 wc4 := Kp.trans (show Kp v0 _ from (ky kkwc3)) kq1; have ks1 : Kp wc3 wc4 := Kp.trans (show Kp wc3 _ from (ky (Kp.refl wc3))) kq1; have kbwc4 : Kp w3 wc4 := Kp.trans (show Kp w3 _ from (ky kbwc3)) kq1; have O9 := Hd (intsAt_ownZ o9); obtain ⟨a9, c9, rfl⟩ := O9.out.slice; clear o9; replace O1 := Hd (O1.out.kp ks1); replace O2 := Hd (O2.out.kp ks1); replace O7 := Hd (O7.out.kp ks1); replace O4 := Hd (O4.out.kp ks1); replace O5 := Hd (O5.out.kp ks1); replace O6 := Hd (O6.out.kp ks1); clear kq1 ks1)
  (try go_wp2_with fail)
  refine hK.out _ _ ?_ (fun hHeld6 => ?_)
  ·(try dsimp only); exact KS.out _ (ky kkwc4)
  clear hK K hHeld5
  (try simp only [Act.put, exB18, xA, xB, xC])
  refine tkE 19 exB19 rfl (by kernel_rfl) (fun K hK => ?_)
  go_simp
  skip
  (try go_wp2_with fail)
  refine hK.out _ _ ?_ (fun hHeld7 => ?_)
  ·(try dsimp only); exact KS.out _ (ky kkwc4)
  clear hK K hHeld6
  (try simp only [Act.put, exB19, xA, xB, xC])
  refine tkE 20 exB20 rfl (by kernel_rfl) (fun K hK => ?_)
  go_simp
  (refine (CO2.out _ _ (zs_two (O7.out.kp (ky (Kp.refl wc4))) (O9.out.kp (ky (Kp.refl wc4))))).mono ?_; rintro e wc5 ⟨v8, rfl, o8, kq1⟩; have kkwc5 : Kp v0 wc5 := Kp.trans (show Kp v0 _ from (ky kkwc4)) kq1; have ks1 : Kp wc4 wc5 := Kp.trans (show Kp wc4 _ from (ky (Kp.refl wc4))) kq1; have kbwc5 : Kp w3 wc5 := Kp.trans (show Kp w3 _ from (ky kbwc4)) kq1; have Q8 := Hd (own_mono o8 (show Kp v0 _ from (ky kkwc4)).size); obtain ⟨aX, cX, rfl⟩ := own_sliceZ o8; clear o8; replace O1 := Hd (O1.out.kp ks1); replace O2 := Hd (O2.out.kp ks1); replace O7 := Hd (O7.out.kp ks1); replace O4 := Hd (O4.out.kp ks1); replace O5 := Hd (O5.out.kp ks1); replace O6 := Hd (O6.out.kp ks1); replace O9 := Hd (O9.out.kp ks1); clear kq1 ks1)
  (try go_wp2_with fail)
  refine hK.out _ _ ?_ (fun hHeld8 => ?_)
  ·(try dsimp only); exact KS.out _ (ky kkwc5)
  clear hK K hHeld7
  (try simp only [Act.put, exB20, xA, xB, xC])
  refine tkv 21 exB21 ?_
  (try simp only [Act.put, exB21, xA, xB, xC])
  refine wpAnyH_done (by kernel_rfl) ?_ _
  go_wp2
  go_meet
  case rel => exact ⟨_, _, rfl, Hd (own_kp Q8.out (ky (Kp.refl wc5))), Hd (ky kbwc5)⟩
 obtain ⟨a8, c8, rfl, Q0, KD⟩ := hcut
 obtain ⟨w4, hw1⟩ : ∃ x, x = wc := ⟨_, rfl⟩
 subst hw1
 have kkw4 : Kp v0 w4 := kkw3.trans KD.out
 replace O2 := Hd (O2.out.kp KD.out)
 replace O7 := Hd (O7.out.kp KD.out)
 clear O1 KD
 go_upto_region 4 with fail
 have kbw4 : Kp w4 w4 := Kp.refl _
 go_cut [9] from 10 (fun s9 wx => ∃ a9 c9, s9 = .slice a9 Y.length c9 ∧ Hid (wx.ownsRow v0.heap.size 3 1 (.slice a9 Y.length c9) Y.length (cellsZ Y)) ∧ Hid (wx.ownsRow v0.heap.size 3 1 (.slice a8 X.length c8) X.length (cellsZ X)) ∧ Hid (Kp v0 wx))
 case first =>
  refine wp_region_held_drew (S := fun w' => w'.cell? ⟨w.heap.size, 0, none⟩ = some (.bool d) ∧ w'.cell? ⟨w.heap.size, 1, none⟩ = some (.slice aa A.length ca) ∧ w'.cell? ⟨w.heap.size, 2, none⟩ = some (.slice ab B.length cb) ∧ w'.cell? ⟨w.heap.size + 1, 1, none⟩ = some (.slice ac C.length cc) ∧ w'.cell? ⟨w.heap.size + 1, 2, none⟩ = some (.slice ad D.length cd) ∧ Kp v0 w') (by kernel_rfl) ?_ (fun hHeld0 => ?_)
  ·(try dsimp only); exact KS.out _ (ky kkw4)
  refine tkv 0 exC0 ?_
  (try simp only [Act.put, exC0, xA, xB, xC])
  refine tkv 1 exC1 ?_
  (try simp only [Act.put, exC1, xA, xB, xC])
  refine tkv 2 exC2 ?_
  (try simp only [Act.put, exC2, xA, xB, xC])
  refine tkv 3 exC3 ?_
  (try simp only [Act.put, exC3, xA, xB, xC])
  refine tkv 4 exC4 ?_
  (try simp only [Act.put, exC4, xA, xB, xC])
  refine tkv 5 exC5 ?_
  (try simp only [Act.put, exC5, xA, xB, xC])
  refine tkv 6 exC6 ?_
  (try simp only [Act.put, exC6, xA, xB, xC])
  refine tkv 7 exC7 ?_
  (try simp only [Act.put, exC7, xA, xB, xC])
  refine tkv 11 exC11 ?_
  (try simp only [Act.put, exC11, xA, xB, xC])
  refine tkv 12 exC12 ?_
  (try simp only [Act.put, exC12, xA, xB, xC])
  refine tkv 13 exC13 ?_
  (try simp only [Act.put, exC13, xA, xB, xC])
  refine tkv 14 exC14 ?_
  (try simp only [Act.put, exC14, xA, xB, xC])
  refine tkE 8 exC8 rfl (by kernel_rfl) (fun K hK => ?_)
  go_simp
  (refine (GR.out _ (ky kkw4)).mono ?_; rintro e w' ⟨rfl, rfl⟩)
  (try go_wp2_with fail)
  refine hK.out _ _ ?_ (fun hHeld1 => ?_)
  ·(try dsimp only); exact KS.out _ (ky kkw4)
  clear hK K hHeld0
  (try simp only [Act.put, exC8, xA, xB, xC])
  refine tkv 9 exC9 ?_
  (try simp only [Act.put, exC9, xA, xB, xC])
  refine tkE 10 exC10 rfl (by kernel_rfl) (fun K hK => ?_)
  go_simp
  ((try rw [wg]); refine (DL.out _ (ky kkw4)).mono ?_; rintro e wc1 ⟨v4, rfl, o4, kq1⟩; have kkwc1 : Kp v0 wc1 := Kp.trans (show Kp v0 _ from (ky kkw4)) kq1; have ks1 : Kp w4 wc1 := Kp.trans (show Kp w4 _ from (ky (Kp.refl w4))) kq1; have kbwc1 : Kp w4 wc1 := Kp.trans (show Kp w4 _ from (ky kbw4)) kq1; have O4 := Hd (runsAt_own o4); obtain ⟨aO4, cO4, rfl⟩ := O4.out.slice; clear o4; replace O2 := Hd (O2.out.kp ks1); replace O7 := Hd (O7.out.kp ks1); replace Q0 := Hd (own_kp Q0.out ks1); clear kq1 ks1)
  (try go_wp2_with fail)
  refine hK.out _ _ ?_ (fun hHeld2 => ?_)
  ·(try dsimp only); exact KS.out _ (ky kkwc1)
  clear hK K hHeld1
  (try simp only [Act.put, exC10, xA, xB, xC])
  refine tkE 15 exC15 rfl (by kernel_rfl) (fun K hK => ?_)
  go_simp
  (refine (TH.out _ (ky kkwc1)).mono ?_; rintro e wc2 ⟨v5, rfl, o5, kq1⟩; have kkwc2 : Kp v0 wc2 := Kp.trans (show Kp v0 _ from (ky kkwc1)) kq1; have ks1 : Kp wc1 wc2 := Kp.trans (show Kp wc1 _ from (ky (Kp.refl wc1))) kq1; have kbwc2 : Kp w4 wc2 := Kp.trans (show Kp w4 _ from (ky kbwc1)) kq1; have O5 := Hd (runsAt_own o5); obtain ⟨aO5, cO5, rfl⟩ := O5.out.slice; clear o5; replace O2 := Hd (O2.out.kp ks1); replace O7 := Hd (O7.out.kp ks1); replace Q0 := Hd (own_kp Q0.out ks1); replace O4 := Hd (O4.out.kp ks1); clear kq1 ks1)
  (try go_wp2_with fail)
  refine hK.out _ _ ?_ (fun hHeld3 => ?_)
  ·(try dsimp only); exact KS.out _ (ky kkwc2)
  clear hK K hHeld2
  (try simp only [Act.put, exC15, xA, xB, xC])
  refine tkE 16 exC16 rfl (by kernel_rfl) (fun K hK => ?_)
  go_simp
  (refine (M9.out _ _ (O5.out.kp (ky (Kp.refl wc2))) (ky kkwc2)).mono ?_; rintro e wc3 ⟨v6, rfl, o6, kq1⟩; have kkwc3 : Kp v0 wc3 := Kp.trans (show Kp v0 _ from (ky kkwc2)) kq1; have ks1 : Kp wc2 wc3 := Kp.trans (show Kp wc2 _ from (ky (Kp.refl wc2))) kq1; have kbwc3 : Kp w4 wc3 := Kp.trans (show Kp w4 _ from (ky kbwc2)) kq1; have O6 := Hd (runsAt_own o6); obtain ⟨aO6, cO6, rfl⟩ := O6.out.slice; clear o6; replace O2 := Hd (O2.out.kp ks1); replace O7 := Hd (O7.out.kp ks1); replace Q0 := Hd (own_kp Q0.out ks1); replace O4 := Hd (O4.out.kp ks1); replace O5 := Hd (O5.out.kp ks1); clear kq1 ks1)
  (try go_wp2_with fail)
  refine hK.out _ _ ?_ (fun hHeld4 => ?_)
  ·(try dsimp only); exact KS.out _ (ky kkwc3)
  clear hK K hHeld3
  (try simp only [Act.put, exC16, xA, xB, xC])
  refine tkE 17 exC17 rfl (by kernel_rfl) (fun K hK => ?_)
  go_simp
  skip
  (try go_wp2_with fail)
  refine hK.out _ _ ?_ (fun hHeld5 => ?_)
  ·(try dsimp only); exact KS.out _ (ky kkwc3)
  clear hK K hHeld4
  (try simp only [Act.put, exC17, xA, xB, xC])
  refine tkE 18 exC18 rfl (by kernel_rfl) (fun K hK => ?_)
  go_simp
  (refine (ED3.out _ _ (ss_four (HB.out.kp (ky kkwc3)) (O2.out.kp (ky (Kp.refl wc3))) (O4.out.kp (ky (Kp.refl wc3))) (O6.out.kp (ky (Kp.refl wc3))))).mono ?_; rintro e wc4 ⟨v9, rfl, o9, kq1⟩; have kkwc4 : Kp v0 wc4 := Kp.trans (show Kp v0 _ from (ky kkwc3)) kq1; have ks1 : Kp wc3 wc4 := Kp.trans (show Kp wc3 _ from (ky (Kp.refl wc3))) kq1; have kbwc4 : Kp w4 wc4 := Kp.trans (show Kp w4 _ from (ky kbwc3)) kq1; have O9 := Hd (intsAt_ownZ o9); obtain ⟨a9, c9, rfl⟩ := O9.out.slice; clear o9; replace O2 := Hd (O2.out.kp ks1); replace O7 := Hd (O7.out.kp ks1); replace Q0 := Hd (own_kp Q0.out ks1); replace O4 := Hd (O4.out.kp ks1); replace O5 := Hd (O5.out.kp ks1); replace O6 := Hd (O6.out.kp ks1); clear kq1 ks1)
  (try go_wp2_with fail)
  refine hK.out _ _ ?_ (fun hHeld6 => ?_)
  ·(try dsimp only); exact KS.out _ (ky kkwc4)
  clear hK K hHeld5
  (try simp only [Act.put, exC18, xA, xB, xC])
  refine tkE 19 exC19 rfl (by kernel_rfl) (fun K hK => ?_)
  go_simp
  skip
  (try go_wp2_with fail)
  refine hK.out _ _ ?_ (fun hHeld7 => ?_)
  ·(try dsimp only); exact KS.out _ (ky kkwc4)
  clear hK K hHeld6
  (try simp only [Act.put, exC19, xA, xB, xC])
  refine tkE 20 exC20 rfl (by kernel_rfl) (fun K hK => ?_)
  go_simp
  (refine (CO3.out _ _ (zs_two (O7.out.kp (ky (Kp.refl wc4))) (O9.out.kp (ky (Kp.refl wc4))))).mono ?_; rintro e wc5 ⟨v8, rfl, o8, kq1⟩; have kkwc5 : Kp v0 wc5 := Kp.trans (show Kp v0 _ from (ky kkwc4)) kq1; have ks1 : Kp wc4 wc5 := Kp.trans (show Kp wc4 _ from (ky (Kp.refl wc4))) kq1; have kbwc5 : Kp w4 wc5 := Kp.trans (show Kp w4 _ from (ky kbwc4)) kq1; have Q8 := Hd (own_mono o8 (show Kp v0 _ from (ky kkwc4)).size); obtain ⟨aX, cX, rfl⟩ := own_sliceZ o8; clear o8; replace O2 := Hd (O2.out.kp ks1); replace O7 := Hd (O7.out.kp ks1); replace Q0 := Hd (own_kp Q0.out ks1); replace O4 := Hd (O4.out.kp ks1); replace O5 := Hd (O5.out.kp ks1); replace O6 := Hd (O6.out.kp ks1); replace O9 := Hd (O9.out.kp ks1); clear kq1 ks1)
  (try go_wp2_with fail)
  refine hK.out _ _ ?_ (fun hHeld8 => ?_)
  ·(try dsimp only); exact KS.out _ (ky kkwc5)
  clear hK K hHeld7
  (try simp only [Act.put, exC20, xA, xB, xC])
  refine tkv 21 exC21 ?_
  (try simp only [Act.put, exC21, xA, xB, xC])
  refine wpAnyH_done (by kernel_rfl) ?_ _
  go_wp2
  go_meet
  case rel => exact ⟨_, _, rfl, Hd (own_kp Q8.out (ky (Kp.refl wc5))), Hd (own_kp Q0.out (ky (Kp.refl wc5))), Hd (ky kkwc5)⟩
 obtain ⟨a9, c9, rfl, Q9, Q8, KE⟩ := hcut
 obtain ⟨w5, hw1⟩ : ∃ x, x = wc := ⟨_, rfl⟩
 subst hw1
 obtain ⟨f0, -, -, -, -, -⟩ := KS.out _ KE.out
 clear O2 O7 Q0
 have sz := KE.out.size
 cases d with
 | true =>
  have hb1 := HX2.out
  have hb2 := HX3.out
  go_wp2_with (at_builtin; refine wpList_app rfl (.tmp 69) (.tmp 70) 117 rfl v0.heap.size 3 i0 (.int .i64 0) 1 8 Tryz.underlying117 hi hz0 hz1 hz2 rfl (by decide) _ _ _ rfl Q8.out _ _ _ rfl (intsAt_ownZ Q9.out).src (by rw [cellsZ_length]; omega) (cellsZ_one _) (by unfold maxLen; omega) (by omega) (by omega) ?_; intro v1 w6 hown1 hgrow1 hat1)
  have O6 := Hd (intsAt_ownZ (own_lenZ hown1))
  have K6 := Hd (Kp.grown KE.out hgrow1 (fun j hj => (Q8.out.lt j hj).1))
  obtain ⟨a6, c6, rfl⟩ := O6.out.slice
  go_wp2_with fail
  refine (SGL.out _ _ O6.out).mono ?_
  rintro e w7 ⟨v7, rfl, o7, k7⟩
  have O7 := Hd o7
  have K7 := Hd k7
  clear o7 k7
  go_wp2
  go_ret
  exact ⟨_, rfl, own_mono O7.out (KA.out.trans K6.out).size, (KA.out.trans K6.out).trans K7.out⟩
 | false =>
  go_wp2_with fail
  refine (PRS.out _ _ _ (intsAt_ownZ Q8.out) (intsAt_ownZ Q9.out)).mono ?_
  rintro e w7 ⟨v7, rfl, o7, k7⟩
  have O7 := Hd o7
  have K7 := Hd k7
  clear o7 k7
  go_wp2
  go_ret
  exact ⟨_, rfl, own_mono O7.out (KA.out.trans KE.out).size, (KA.out.trans KE.out).trans K7.out⟩
end Go.Proofs.YtcooaoponkkpeaaGreatDoor
