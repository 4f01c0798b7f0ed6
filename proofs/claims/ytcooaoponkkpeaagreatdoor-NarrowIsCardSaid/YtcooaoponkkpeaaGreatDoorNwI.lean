import Derived.Test.YtcooaoponkkpeaaGreatDoorJG
set_option maxHeartbeats 16000000
set_option maxRecDepth 100000
namespace Go.Proofs.YtcooaoponkkpeaaGreatDoor
open Go.RowKit
set_option linter.unusedVariables false
set_option linter.unusedSimpArgs false
theorem ne_next {v v' : Value} {H B : Nat} (hat : v'.ownBlock = v.ownBlock ∨ v'.ownBlock = some H) (h : v.ownBlock ≠ some B) (lt : B < H) : v'.ownBlock ≠ some B := fun e => by
 rcases hat with q | q
 ·exact h (by rw [← q]; exact e)
 ·rw [q] at e
  simp only [Option.some.injEq] at e
  omega
theorem set4_heap {w : World} {B : Nat} {t : TypeId} {y0 y1 y2 y3 : Value} {fr : Nat × Nat} (hB : w.heap[B]? = some (.cells #[y0, y1, y2, y3] t fr)) (x0 x1 x2 x3 : Value) :
  ((((w.setCell ⟨B, 0, none⟩ x0).setCell ⟨B, 1, none⟩ x1).setCell ⟨B, 2, none⟩ x2).setCell ⟨B, 3, none⟩ x3).heap[B]? = some (.cells #[x0, x1, x2, x3] t fr) := by
 simp [World.setCell, Array.getElem?_modify, hB]
theorem heap_lt {w : World} {B : Nat} {o : Obj} (h : w.heap[B]? = some o) : B < w.heap.size := (Array.getElem?_eq_some_iff.1 h).1
theorem grown_at {w w1 : World} {row : Option Nat} {B : Nat} {o : Obj} (g : w.grownBy w1 row) (h : w.heap[B]? = some o) (hn : row ≠ some B) : w1.heap[B]? = some o := (g.block B (heap_lt h) (fun e => hn e.symm)).trans h
theorem empty_tidy {F : Fam} (h : FOK F) : emptyF (famR (lfOf F)) = emptyF F := by
 rw [famR_lfOf h]
 by_cases c : emptyF F = true
 ·rw [if_pos c, c]; rfl
 ·rw [if_neg c]
theorem cut_sp {s e : List R} {r : R} (hs : setB 0 s = true) (he : setB 0 e = true) : emptyF (famR (cutLF s e r)) = false → (lfOf (famR (cutLF s e r))).sp = true := fun h => by
 obtain ⟨a, b, e1, _, _⟩ := famR_cut_span hs he r
 rw [e1] at h ⊢
 rw [lfOf_s1 (by rw [emptyF_s] at h; simpa using h)]
theorem unsR_len {K D : List R} {k : Int} {s : List R} (hs : sane s) : (unsR K D ⟨false, k, s, []⟩).length ≤ s.length + K.length + D.length := by
 unfold unsR
 simp only
 split
 ·have := interR_len hs (nf_sane (K ++ D))
  have := nf_len (K ++ D)
  rw [List.length_append] at this
  omega
 ·rw [inter_dup (fun n => (nf_mem (K.flatMap fun r => insR k r.1 r.2) n).symm)]
  have := interR_len hs (nf_sane (K.flatMap fun r => insR k r.1 r.2))
  have := nf_len (K.flatMap fun r => insR k r.1 r.2)
  have := ins_len k K
  omega
theorem left_next {K D : List R} {l : List LF} {k : Nat} (h : k < l.length) : leftL K D (l.take (k + 1)) = leftL K D (l.take k) ++ outF K D (lat l k) := flat_next l _ (outF K D) k h
theorem outT_un {K D : List R} {k : Int} {s b : List R} : outT K D ⟨false, k, s, b⟩ = chunksR k (unsR K D ⟨false, k, s, b⟩) := by unfold outT; rw [if_neg (by simp)]
theorem outT_sp {K D : List R} {s e : List R} : outT K D ⟨true, 0, s, e⟩ = chunksR 0 (interR (interR s e) D) ++ K.flatMap (partF s e) := by unfold outT; rw [if_pos rfl]
theorem parts_next {K : List R} {s e : List R} {j : Nat} (h : j < K.length) : (K.take (j + 1)).flatMap (partF s e) = (K.take j).flatMap (partF s e) ++ partF s e (at_ K j) := flat_next K (0, 0) (partF s e) j h
theorem parts_rest {K : List R} {s e : List R} (hs : setB 0 s = true) (he : setB 0 e = true) (up : K.Pairwise fun a b => a.1 ≤ b.1) {j : Nat} (hj : j < K.length) (h : ∀ t, memR e t → t < (at_ K j).1) : K.flatMap (partF s e) = (K.take j).flatMap (partF s e) := by
 conv => lhs; rw [← List.take_append_drop j K, List.flatMap_append]
 suffices (K.drop j).flatMap (partF s e) = [] by rw [this, List.append_nil]
 rw [List.flatMap_eq_nil_iff]
 intro r hr
 obtain ⟨i, hi, e1⟩ := List.mem_iff_getElem.1 hr
 rw [List.getElem_drop] at e1
 rw [List.length_drop] at hi
 have hle : (at_ K j).1 ≤ r.1 := by
  by_cases h0 : i = 0
  ·subst h0
   have : at_ K j = r := by unfold at_; rw [List.getD_eq_getElem?_getD, List.getElem?_eq_getElem hj]; simpa using e1
   rw [this]; exact Int.le_refl _
  ·have := List.pairwise_iff_getElem.1 up j (j + i) hj (by omega) (by omega)
   have e2 : at_ K j = K[j] := by unfold at_; rw [List.getD_eq_getElem?_getD, List.getElem?_eq_getElem hj]; rfl
   rw [e2]
   rw [e1] at this
   exact this
 unfold partF
 rw [if_pos (part_none hs he r fun S T g a b => by
  have := (hasF_span (setB_sane hs) (setB_sane he) S T).1 g
  have := h T this.2.2
  omega)]
theorem part_skip {s e : List R} (hs : setB 0 s = true) (he : setB 0 e = true) {r : R} (h : ∀ x, memR s x → r.2 < x) : partF s e r = [] := by
 unfold partF
 rw [if_pos (part_none hs he r fun S T g a b => by
  have := (hasF_span (setB_sane hs) (setB_sane he) S T).1 g
  have := h S this.2.1
  omega)]
theorem tidy_cases (f : LF) : (∃ k s, lfOf (famR f) = ⟨false, k, s, []⟩ ∧ setB k s = true) ∨ (∃ s e, lfOf (famR f) = ⟨true, 0, s, e⟩ ∧ setB 0 s = true ∧ setB 0 e = true ∧ 0 < s.length ∧ 0 < e.length) := by
 have ok := famR_ok f
 revert ok
 generalize famR f = F
 intro ok
 by_cases h0 : emptyF F = true
 ·rw [lfOf_none h0]; exact .inl ⟨0, [], rfl, setB_nil 0⟩
 ·cases F with
  | units k s =>
   rw [lfOf_u1 (by rw [emptyF_u] at h0; simpa using h0)]
   exact .inl ⟨k, s, rfl, ok⟩
  | span s e =>
   have h1 : ¬ s.length = 0 := by rw [emptyF_s] at h0; simpa using h0
   rw [lfOf_s1 h1]
   exact .inr ⟨s, e, rfl, ok.1, ok.2.1, by omega, (span_lg ok (by omega)).1⟩
abbrev nwnC0 : Oper := ⟨some 48, .fieldAddr 42 (.tmp 9) 0, 0, "narrow.go:62", #[], none⟩
abbrev nwnC1 : Oper := ⟨some 49, .load 3 (.tmp 48), 3, "narrow.go:62", #[⟨0, .data⟩], none⟩
abbrev nwnC2 : Oper := ⟨some 50, .fieldAddr 44 (.tmp 7) 3, 0, "narrow.go:62", #[], none⟩
abbrev nwnC3 : Oper := ⟨some 51, .load 34 (.tmp 50), 34, "narrow.go:62", #[⟨2, .data⟩], none⟩
abbrev nwnC4 : Oper := ⟨some 52, .call ⟨.value (.func 72), #[.tmp 51], #[34]⟩, 3, "narrow.go:62", #[⟨3, .data⟩], none⟩
abbrev nwnC5 : Oper := ⟨some 53, .binOp .gtr 3 (.tmp 49) (.tmp 52) 3, 4, "narrow.go:62", #[⟨1, .data⟩, ⟨4, .data⟩], none⟩
abbrev nwnD0 : Oper := ⟨some 54, .fieldAddr 42 (.tmp 9) 1, 0, "narrow.go:65", #[], none⟩
abbrev nwnD1 : Oper := ⟨some 55, .load 3 (.tmp 54), 3, "narrow.go:65", #[⟨0, .data⟩], none⟩
abbrev nwnD2 : Oper := ⟨some 56, .fieldAddr 44 (.tmp 7) 2, 0, "narrow.go:65", #[], none⟩
abbrev nwnD3 : Oper := ⟨some 57, .load 34 (.tmp 56), 34, "narrow.go:65", #[⟨2, .data⟩], none⟩
abbrev nwnD4 : Oper := ⟨some 58, .call ⟨.value (.func 71), #[.tmp 57], #[34]⟩, 3, "narrow.go:65", #[⟨3, .data⟩], none⟩
abbrev nwnD5 : Oper := ⟨some 59, .binOp .lss 3 (.tmp 55) (.tmp 58) 3, 4, "narrow.go:65", #[⟨1, .data⟩, ⟨4, .data⟩], none⟩
abbrev nwnE0 : Oper := ⟨some 60, .fieldAddr 44 (.tmp 7) 2, 0, "narrow.go:68", #[], none⟩
abbrev nwnE1 : Oper := ⟨some 61, .load 34 (.tmp 60), 34, "narrow.go:68", #[⟨0, .data⟩], none⟩
abbrev nwnE2 : Oper := ⟨some 62, .fieldAddr 42 (.tmp 9) 0, 0, "narrow.go:68", #[], none⟩
abbrev nwnE3 : Oper := ⟨some 63, .load 3 (.tmp 62), 3, "narrow.go:68", #[⟨2, .data⟩], none⟩
abbrev nwnE4 : Oper := ⟨some 64, .fieldAddr 42 (.tmp 9) 1, 0, "narrow.go:68", #[], none⟩
abbrev nwnE5 : Oper := ⟨some 65, .load 3 (.tmp 64), 3, "narrow.go:68", #[⟨4, .data⟩], none⟩
abbrev nwnE6 : Oper := ⟨some 66, .call ⟨.value (.func 79), #[.tmp 61, .tmp 63, .tmp 65], #[34, 3, 3]⟩, 34, "narrow.go:68", #[⟨1, .data⟩, ⟨3, .data⟩, ⟨5, .data⟩], none⟩
abbrev nwnE7 : Oper := ⟨some 67, .fieldAddr 44 (.tmp 7) 3, 0, "narrow.go:68", #[], none⟩
abbrev nwnE8 : Oper := ⟨some 68, .load 34 (.tmp 67), 34, "narrow.go:68", #[⟨7, .data⟩], none⟩
abbrev nwnE9 : Oper := ⟨some 69, .fieldAddr 42 (.tmp 9) 0, 0, "narrow.go:68", #[], none⟩
abbrev nwnE10 : Oper := ⟨some 70, .load 3 (.tmp 69), 3, "narrow.go:68", #[⟨9, .data⟩], none⟩
abbrev nwnE11 : Oper := ⟨some 71, .fieldAddr 42 (.tmp 9) 1, 0, "narrow.go:68", #[], none⟩
abbrev nwnE12 : Oper := ⟨some 72, .load 3 (.tmp 71), 3, "narrow.go:68", #[⟨11, .data⟩], none⟩
abbrev nwnE13 : Oper := ⟨some 73, .call ⟨.value (.func 79), #[.tmp 68, .tmp 70, .tmp 72], #[34, 3, 3]⟩, 34, "narrow.go:68", #[⟨8, .data⟩, ⟨10, .data⟩, ⟨12, .data⟩, ⟨6, .chain⟩], none⟩
abbrev nwnE14 : Oper := ⟨some 74, .build 44 #[(0, .const (.bool true)), (2, .tmp 66), (3, .tmp 73)], 44, "narrow.go:68", #[⟨6, .data⟩, ⟨13, .data⟩], none⟩
abbrev nwnE15 : Oper := ⟨some 75, .call ⟨.value (.func 45), #[.tmp 74], #[44]⟩, 44, "narrow.go:68", #[⟨14, .data⟩, ⟨13, .chain⟩], none⟩
abbrev nwnE16 : Oper := ⟨some 10, .alloc 44, 0, "narrow.go:68", #[], none⟩
abbrev nwnE17 : Oper := ⟨none, .store 44 (.tmp 10) (.tmp 75), 0, "narrow.go:68", #[⟨16, .data⟩, ⟨15, .data⟩, ⟨15, .chain⟩, ⟨0, .phase⟩, ⟨1, .phase⟩, ⟨2, .phase⟩, ⟨3, .phase⟩, ⟨4, .phase⟩, ⟨5, .phase⟩, ⟨6, .phase⟩, ⟨7, .phase⟩, ⟨8, .phase⟩, ⟨9, .phase⟩, ⟨10, .phase⟩, ⟨11, .phase⟩, ⟨12, .phase⟩, ⟨13, .phase⟩, ⟨14, .phase⟩, ⟨15, .phase⟩, ⟨16, .phase⟩], none⟩
abbrev nwnA0 : Oper := ⟨some 22, .move (.tmp 5), 22, "narrow.go:57", #[], none⟩
abbrev nwnA1 : Oper := ⟨some 23, .fieldAddr 44 (.tmp 7) 1, 0, "narrow.go:57", #[], none⟩
abbrev nwnA2 : Oper := ⟨some 24, .load 3 (.tmp 23), 3, "narrow.go:57", #[⟨1, .data⟩], none⟩
abbrev nwnA3 : Oper := ⟨some 25, .load 63 (.tmp 2), 63, "narrow.go:57", #[], none⟩
abbrev nwnA4 : Oper := ⟨some 26, .load 44 (.tmp 7), 44, "narrow.go:57", #[], none⟩
abbrev nwnA5 : Oper := ⟨some 27, .call ⟨.value (.func 77), #[.tmp 25, .tmp 26], #[63, 44]⟩, 34, "narrow.go:57", #[⟨3, .data⟩, ⟨4, .data⟩], none⟩
abbrev nwnA6 : Oper := ⟨some 28, .call ⟨.value (.func 76), #[.tmp 24, .tmp 27], #[3, 34]⟩, 22, "narrow.go:57", #[⟨2, .data⟩, ⟨5, .data⟩, ⟨5, .chain⟩], none⟩
abbrev nwnA7 : Oper := ⟨some 29, .call ⟨.builtin .append, #[.tmp 22, .tmp 28], #[22, 22]⟩, 22, "narrow.go:57", #[⟨0, .data⟩, ⟨6, .data⟩, ⟨6, .chain⟩], none⟩
abbrev nwnA8 : Oper := ⟨some 5, .assign (.tmp 29), 22, "narrow.go:57", #[⟨7, .data⟩, ⟨7, .chain⟩, ⟨0, .phase⟩, ⟨1, .phase⟩, ⟨2, .phase⟩, ⟨3, .phase⟩, ⟨4, .phase⟩, ⟨5, .phase⟩, ⟨6, .phase⟩, ⟨7, .phase⟩], none⟩
abbrev nwnB0 : Oper := ⟨some 30, .move (.tmp 5), 22, "narrow.go:60", #[], none⟩
abbrev nwnB1 : Oper := ⟨some 31, .fieldAddr 44 (.tmp 7) 2, 0, "narrow.go:60", #[], none⟩
abbrev nwnB2 : Oper := ⟨some 32, .load 34 (.tmp 31), 34, "narrow.go:60", #[⟨1, .data⟩], none⟩
abbrev nwnB3 : Oper := ⟨some 33, .fieldAddr 44 (.tmp 7) 3, 0, "narrow.go:60", #[], none⟩
abbrev nwnB4 : Oper := ⟨some 34, .load 34 (.tmp 33), 34, "narrow.go:60", #[⟨3, .data⟩], none⟩
abbrev nwnB5 : Oper := ⟨some 35, .call ⟨.value (.func 78), #[.tmp 32, .tmp 34], #[34, 34]⟩, 34, "narrow.go:60", #[⟨2, .data⟩, ⟨4, .data⟩], none⟩
abbrev nwnB6 : Oper := ⟨some 36, .fieldAddr 63 (.tmp 2) 1, 0, "narrow.go:60", #[], none⟩
abbrev nwnB7 : Oper := ⟨some 37, .load 34 (.tmp 36), 34, "narrow.go:60", #[⟨6, .data⟩], none⟩
abbrev nwnB8 : Oper := ⟨some 38, .call ⟨.value (.func 78), #[.tmp 35, .tmp 37], #[34, 34]⟩, 34, "narrow.go:60", #[⟨5, .data⟩, ⟨7, .data⟩, ⟨5, .chain⟩], none⟩
abbrev nwnB9 : Oper := ⟨some 39, .call ⟨.value (.func 76), #[.const (.int .i64 0), .tmp 38], #[3, 34]⟩, 22, "narrow.go:60", #[⟨8, .data⟩, ⟨8, .chain⟩], none⟩
abbrev nwnB10 : Oper := ⟨some 40, .call ⟨.builtin .append, #[.tmp 30, .tmp 39], #[22, 22]⟩, 22, "narrow.go:60", #[⟨0, .data⟩, ⟨9, .data⟩, ⟨9, .chain⟩], none⟩
abbrev nwnB11 : Oper := ⟨some 5, .assign (.tmp 40), 22, "narrow.go:60", #[⟨10, .data⟩, ⟨10, .chain⟩, ⟨0, .phase⟩, ⟨1, .phase⟩, ⟨2, .phase⟩, ⟨3, .phase⟩, ⟨4, .phase⟩, ⟨5, .phase⟩, ⟨6, .phase⟩, ⟨7, .phase⟩, ⟨8, .phase⟩, ⟨9, .phase⟩, ⟨10, .phase⟩], none⟩
theorem OwnV.far4 {w : World} {base : Nat} {l : List (LF × VV)} (h : OwnV w base l) {B : Nat} {c : Array Value} {fr : Nat × Nat} (g : w.heap[B]? = some (.cells c 44 fr)) (x0 x1 x2 x3 : Value) : OwnV ((((w.setCell ⟨B, 0, none⟩ x0).setCell ⟨B, 1, none⟩ x1).setCell ⟨B, 2, none⟩ x2).setCell ⟨B, 3, none⟩ x3) base l :=
 fun p hp => ⟨own_far4 (h p hp).1 (own_type_ne (h p hp).1 g (by decide)) _ _ _ _, own_far4 (h p hp).2 (own_type_ne (h p hp).2 g (by decide)) _ _ _ _⟩
theorem nwNarrowed_any (Kb D : List R) (vi vd v : Value) (l : List LF) (w : World) (hi' : RunsAt w vi Kb) (hd : RunsAt w vd D) (hv : LeavesAt w v l) (hl : LsOk l) (T : Tabs w) (ik : inDays Kb) (up : Kb.Pairwise fun a b => a.1 ≤ b.1) (sd : sane D) (nK : Kb.length ≤ 100000) (nD : D.length ≤ 100000) (nL : (leftL Kb D l).length ≤ 1000000) :
  Calls Tryz.prog 36 #[.agg #[vi, vd], v] w fun e w' => ∃ v' m, e = .returned v' ∧ m.map Prod.fst = leftL Kb D l ∧ OwnV w' w.heap.size m ∧ w'.ownsRow w.heap.size 44 4 v' m.length (cellsV m) ∧ Kp w w' := by
 obtain ⟨h0, hi, hz0, hz1, hz2⟩ := info_parts infoLeaf
 have hm := hv.len
 unfold maxLen at hm
 obtain ⟨ad, cp, rfl⟩ := hv.slice
 obtain ⟨ai, ci, rfl⟩ := hi'.slice
 obtain ⟨aj, cj, rfl⟩ := hd.slice
 obtain ⟨W0, hW⟩ : ∃ x, x = w.alloc (.cells #[.slice ai Kb.length ci, .slice aj D.length cj] 63) := ⟨_, rfl⟩
 have k0 : Kp w W0 := by rw [hW]; exact Kp.alloc _ _
 have g0 : W0.heap[w.heap.size]? = some (.cells #[.slice ai Kb.length ci, .slice aj D.length cj] 63 (0, 0)) := by rw [hW]; exact heap_at _ _ _ rfl
 have HB := Hd (fun w' (kq : Kp W0 w') => heap_block kq g0)
 have K0 := Hd k0
 have HV := Hd (hv.kp k0)
 have HI := Hd (hi'.kp k0)
 have HD := Hd (hd.kp k0)
 have HL := Hd hl
 have TT := Hd (T.kp k0)
 have hB : w.heap.size < W0.heap.size := by rw [hW]; simp
 have HW := Hd hW
 have NR := Hd (fun k => Nat.le_trans (flat_pre l (outF Kb D) k) nL)
 have IKD := Hd ik
 have UP := Hd up
 have SD := Hd sd
 have KI := Hd (show I64R Kb from fun r hr => by have := ik r hr; omega)
 clear hv hl T k0 g0 hW nL hi' hd ik up sd
 go_enter Tryz.func36, Tryz.ntmps36
 go_wp2_with fail
 rw [← HW.out]
 clear HW
 go_step3
 go_wp2_with fail
 go_step3
 go_wp2_with fail
 go_loopw [5, 13] (fun v i wr => ∃ (k : Nat) (m : List (LF × VV)), k ≤ l.length ∧ i = .int .i64 k ∧ Hid (m.map Prod.fst = leftL Kb D (l.take k)) ∧ Hid (OwnV wr W0.heap.size m) ∧ Hid (wr.ownsRow W0.heap.size 44 4 v m.length (cellsV m)) ∧ Hid (Kp W0 wr)) (fun _ i _ => l.length - (intOf i).toNat)
 case atStart => exact ⟨0, [], Nat.zero_le _, rfl, Hd rfl, Hd (fun p hp => by cases hp), Hd (World.ownsRow_nil _ _ _ _), Hd (Kp.refl _)⟩
 case round =>
  obtain ⟨k, m, hk, rfl, HM, OV, OW, J⟩ := hrel
  have ow := OW.out
  obtain ⟨a5, l5, rfl⟩ := own_slice4 ow
  by_cases hlt : k < l.length
  ·have q2 : decide ((k : Int) < (l.length : Int)) = true := dT
   have q3 : decide (k < l.length) = true := decide_eq_true hlt
   rcases HV.out.kp J.out with ⟨_, _, _, e⟩ | ⟨b0, off, cap, ev, hc, hmx, hx⟩
   ·rw [e] at hlt; simp at hlt
   cases ev
   obtain ⟨va, vb, d0, d1, d2, d3, ra, rb⟩ := hx k hlt
   have LOK := HL.out _ (lat_mem hlt)
   obtain ⟨f, hf⟩ : ∃ f, lat l k = f := ⟨_, rfl⟩
   rw [hf] at d0 d1 ra rb
   (try rw [hf] at LOK)
   obtain ⟨sp, u, a, b⟩ := f
   simp only at d0 d1 ra rb
   (try simp only at LOK)
   obtain ⟨aa, ca, rfl⟩ := ra.slice
   obtain ⟨ab, cb, rfl⟩ := rb.slice
   have HF := Hd hf
   have z1 : (k : Int) < (l.length : Int) := by omega
   have z2 : (0 : Int) ≤ (k : Int) := by omega
   clear hx hc hmx hf
   have FO : LeafOk wr ⟨sp, u, a, b⟩ _ _ := ⟨ra, rb, LOK.1, LOK.2.1, LOK.2.2.1, LOK.2.2.2⟩
   have TD := Hd (fun w1 (kk : Kp wr w1) => leafTidyO_any ⟨sp, u, a, b⟩ _ _ w1 (FO.kp kk) (TT.out.kp (J.out.trans kk)))
   rw [show leafV ⟨sp, u, a, b⟩ (.slice aa a.length ca) (.slice ab b.length cb) = .agg #[.bool sp, .int .i64 u, .slice aa a.length ca, .slice ab b.length cb] from rfl] at TD
   have TC := tidy_cases ⟨sp, u, a, b⟩
   have LN := left_next (K := Kb) (D := D) hlt
   have n4' := NR.out (k + 1)
   rw [show (l.take (k + 1)).flatMap (outF Kb D) = leftL Kb D (l.take (k + 1)) from rfl, LN, List.length_append] at n4'
   rw [HF.out] at LN n4'
   unfold outF at LN n4'
   have ml : m.length = (leftL Kb D (l.take k)).length := by have := congrArg List.length HM.out; simpa using this
   generalize lfOf (famR ⟨sp, u, a, b⟩) = g at *
   have kkVV : Kp wr (wr.alloc (.cells #[.bool sp, .int .i64 u, .slice aa a.length ca, .slice ab b.length cb] 44)) := Kp.alloc _ _
   have kkWV : Kp W0 (wr.alloc (.cells #[.bool sp, .int .i64 u, .slice aa a.length ca, .slice ab b.length cb] 44)) := J.out.trans (Kp.alloc _ _)
   have NEF := Hd (own_above ow (B := wr.heap.size) (Nat.le_refl _))
   have NEB := Hd (own_below ow (B := w.heap.size) hB)
   clear ra rb FO LOK HF NR HL
   obtain ⟨V, hVv⟩ : ∃ x, x = wr.alloc (.cells #[.bool sp, .int .i64 u, .slice aa a.length ca, .slice ab b.length cb] 44) := ⟨_, rfl⟩
   have kav : Kp wr V := by rw [hVv]; exact Kp.alloc _ _
   have gqv0 : V.heap[wr.heap.size]? = some (.cells #[.bool sp, .int .i64 u, .slice aa a.length ca, .slice ab b.length cb] 44 (0, 0)) := by rw [hVv]; exact heap_at _ _ _ (by first | rfl | simp)
   rw [← hVv] at kkVV kkWV
   have KSv := Hd (fun w' (kq : Kp V w') => show w'.cell? ⟨wr.heap.size, 0, none⟩ = some (.bool sp) ∧ w'.cell? ⟨wr.heap.size, 1, none⟩ = some (.int .i64 u) ∧ w'.cell? ⟨wr.heap.size, 2, none⟩ = some (.slice aa a.length ca) ∧ w'.cell? ⟨wr.heap.size, 3, none⟩ = some (.slice ab b.length cb) ∧ w'.cell? ⟨w.heap.size, 0, none⟩ = some (.slice ai Kb.length ci) ∧ w'.cell? ⟨w.heap.size, 1, none⟩ = some (.slice aj D.length cj) ∧ Kp V w' from ⟨(row4 (heap_block kq gqv0)).1, (row4 (heap_block kq gqv0)).2.1, (row4 (heap_block kq gqv0)).2.2.1, (row4 (heap_block kq gqv0)).2.2.2, cell_up kq (row2 (HB.out V kkWV)).1, cell_up kq (row2 (HB.out V kkWV)).2, kq⟩)
   have GQv0 := Hd gqv0
   have HVv := Hd hVv
   have KV := Hd kav
   clear hVv kav gqv0
   have kkV : Kp V V := Kp.refl _
   obtain ⟨xv0, xv1, xv2, xv3, xv4, xv5, _⟩ := KSv.out _ kkV
   have OWV := Hd (own_kp ow KV.out)
   have OVV := Hd (OV.out.kp KV.out)
   go_upto_region 5 with fail
   rw [← HVv.out]
   clear HVv d0 d1 d2 d3 ow OW OV
   go_wp2_with fail
   refine (TD.out _ KV.out).mono ?_
   rintro e wa ⟨va', vb', rfl, ok', kka, oo⟩
   rcases TC with ⟨kd, s, hg, sb⟩ | ⟨s, e', hg, s1, s2, s3, s4⟩
   ·subst hg
    obtain ⟨ax, cx, rfl⟩ := ok'.a.slice
    obtain ⟨ay, cy, e2⟩ := ok'.b.slice
    have e2 : vb' = .slice ay 0 cy := e2
    subst e2
    unfold leafV
    simp only
    have hq := heap_block kka GQv0.out
    have f0 : wa.frozen? ⟨wr.heap.size, 0, none⟩ = false := by simp [World.frozen?, hq]
    have f1 : wa.frozen? ⟨wr.heap.size, 1, none⟩ = false := by simp [World.frozen?, hq]
    have f2 : wa.frozen? ⟨wr.heap.size, 2, none⟩ = false := by simp [World.frozen?, hq]
    have f3 : wa.frozen? ⟨wr.heap.size, 3, none⟩ = false := by simp [World.frozen?, hq]
    obtain ⟨d0, d1, d2, d3⟩ := row4 hq
    obtain ⟨V2, hV2⟩ : ∃ x, x = (((wa.setCell ⟨wr.heap.size, 0, none⟩ (.bool false)).setCell ⟨wr.heap.size, 1, none⟩ (.int .i64 kd)).setCell ⟨wr.heap.size, 2, none⟩ (.slice ax s.length cx)).setCell ⟨wr.heap.size, 3, none⟩ (.slice ay 0 cy) := ⟨_, rfl⟩
    have k2 : Kp wr V2 := by rw [hV2]; exact set4_below (KV.out.trans kka) wr.heap.size (Nat.le_refl _) _ _ _ _
    have KSz := Hd (fun w' (kq : Kp V2 w') => show w'.cell? ⟨wr.heap.size, 0, none⟩ = some (.bool false) ∧ w'.cell? ⟨wr.heap.size, 1, none⟩ = some (.int .i64 kd) ∧ w'.cell? ⟨wr.heap.size, 2, none⟩ = some (.slice ax s.length cx) ∧ w'.cell? ⟨wr.heap.size, 3, none⟩ = some (.slice ay 0 cy) ∧ w'.cell? ⟨w.heap.size, 0, none⟩ = some (.slice ai Kb.length ci) ∧ w'.cell? ⟨w.heap.size, 1, none⟩ = some (.slice aj D.length cj) ∧ Kp V2 w' from (by rw [hV2] at kq; obtain ⟨z0, z1, z2, z3⟩ := set4_read hq _ _ _ _ kq; rw [← hV2] at kq; exact ⟨z0, z1, z2, z3, (row2 (HB.out w' (J.out.trans (k2.trans kq)))).1, (row2 (HB.out w' (J.out.trans (k2.trans kq)))).2, kq⟩))
    have FO2 : LeafOk V2 ⟨false, kd, s, []⟩ (.slice ax s.length cx) (.slice ay 0 cy) := ⟨ok'.a.off hq (by rw [hV2]; exact fun k o h => set4_cell _ _ _ _ _ _ k o h), ok'.b.off hq (by rw [hV2]; exact fun k o h => set4_cell _ _ _ _ _ _ k o h), ok'.ia, ok'.ib, ok'.na, ok'.nb⟩
    have K2 := Hd k2
    have KW2 := Hd (J.out.trans k2)
    have HV2 := Hd hV2
    have bs := Below.size KW2.out
    have kkV2 : Kp V2 V2 := Kp.refl _
    have OW2 := Hd (show V2.ownsRow W0.heap.size 44 4 (.slice a5 m.length l5) m.length (cellsV m) from by rw [hV2]; exact own_far4 (own_kp OWV.out kka) NEF.out _ _ _ _)
    have OV2 := Hd (show OwnV V2 W0.heap.size m from by rw [hV2]; exact (OVV.out.kp kka).far4 hq _ _ _ _)
    have KCz := Hd (fun w' (kq : Kp V2 w') => show w'.cell? ⟨wr.heap.size, 0, none⟩ = some (.bool false) ∧ w'.cell? ⟨wr.heap.size, 1, none⟩ = some (.int .i64 kd) ∧ w'.cell? ⟨wr.heap.size, 2, none⟩ = some (.slice ax s.length cx) ∧ w'.cell? ⟨wr.heap.size, 3, none⟩ = some (.slice ay 0 cy) ∧ w'.cell? ⟨w.heap.size, 0, none⟩ = some (.slice ai Kb.length ci) ∧ w'.cell? ⟨w.heap.size, 1, none⟩ = some (.slice aj D.length cj) from ⟨(KSz.out w' kq).1, (KSz.out w' kq).2.1, (KSz.out w' kq).2.2.1, (KSz.out w' kq).2.2.2.1, (KSz.out w' kq).2.2.2.2.1, (KSz.out w' kq).2.2.2.2.2.1⟩)
    clear hV2 k2 kka OWV OVV
    rw [outT_un] at LN n4'
    have ul := unsR_len (K := Kb) (D := D) (k := kd) (setB_sane sb)
    have ns : s.length ≤ 1000 := FO2.na
    have UO := Hd (fun w1 (kk : Kp V2 w1) => nwUnits_any Kb D s [] kd _ _ _ _ w1 (HI.out.kp (KW2.out.trans kk)) (HD.out.kp (KW2.out.trans kk)) (FO2.kp kk) (TT.out.kp (KW2.out.trans kk)) KI.out (sane_i64 SD.out) nK nD)
    rw [show leafV ⟨false, kd, s, []⟩ (.slice ax s.length cx) (.slice ay 0 cy) = .agg #[.bool false, .int .i64 kd, .slice ax s.length cx, .slice ay 0 cy] from rfl] at UO
    have UL := Hd (fun v w1 (h : RunsAt w1 v (unsR Kb D ⟨false, kd, s, []⟩)) => nwUnitLeaves_any kd v _ w1 h (by omega))
    generalize unsR Kb D ⟨false, kd, s, []⟩ = U at *
    have LNX := Hd LN
    have m1 : m.length ≤ 1000000 := by omega
    have HML := Hd ml
    clear FO2 ok' oo LN sb ul ns ml
    go_upto_region 7 with fail
    rw [← HV2.out]
    clear HV2 d0 d1 d2 d3 f0 f1 f2 f3
    refine wp_region_held_drew (S := fun w' => w'.cell? ⟨wr.heap.size, 0, none⟩ = some (.bool false) ∧ w'.cell? ⟨wr.heap.size, 1, none⟩ = some (.int .i64 kd) ∧ w'.cell? ⟨wr.heap.size, 2, none⟩ = some (.slice ax s.length cx) ∧ w'.cell? ⟨wr.heap.size, 3, none⟩ = some (.slice ay 0 cy) ∧ w'.cell? ⟨w.heap.size, 0, none⟩ = some (.slice ai Kb.length ci) ∧ w'.cell? ⟨w.heap.size, 1, none⟩ = some (.slice aj D.length cj)) (by kernel_rfl) ?_ (fun hHeld0 => ?_)
    ·(try dsimp only); exact KCz.out _ (ky kkV2)
    refine tkv 0 nwnA0 ?_
    (try simp only [Act.put, nwnA0, xA, xB, xC])
    refine tkv 1 nwnA1 ?_
    (try simp only [Act.put, nwnA1, xA, xB, xC])
    refine tkv 2 nwnA2 ?_
    (try simp only [Act.put, nwnA2, xA, xB, xC])
    refine tkv 3 nwnA3 ?_
    (try simp only [Act.put, nwnA3, xA, xB, xC])
    refine tkv 4 nwnA4 ?_
    (try simp only [Act.put, nwnA4, xA, xB, xC])
    refine tkE 5 nwnA5 rfl (by kernel_rfl) (fun K hK => ?_)
    go_simp
    (refine (UO.out _ (ky kkV2)).mono ?_; rintro e wb ⟨v1, rfl, o1, kq1⟩; have kkwb : Kp V2 wb := Kp.trans (show Kp V2 _ from (ky kkV2)) kq1; obtain ⟨a1, l1, rfl⟩ := own_slice o1; have O1 := Hd (runsAt_own o1); clear o1; clear kq1)
    (try go_wp2_with fail)
    refine hK.out _ _ ?_ (fun hHeld1 => ?_)
    ·(try dsimp only); exact KCz.out _ (ky kkwb)
    clear hK K hHeld0
    (try simp only [Act.put, nwnA5, xA, xB, xC])
    refine tkE 6 nwnA6 rfl (by kernel_rfl) (fun K hK => ?_)
    go_simp
    (refine (UL.out _ _ (O1.out.kp (ky (Kp.refl wb)))).mono ?_; rintro e wc ⟨v6, m6, rfl, hm6, ov6, ow6, kq1⟩; have kkwc : Kp V2 wc := Kp.trans (show Kp V2 _ from (ky kkwb)) kq1; obtain ⟨a6, l6, rfl⟩ := own_slice4 ow6; have OL := Hd ow6; have OM := Hd (ov6.mono (Nat.le_trans bs (Below.size (show Kp V2 _ from (ky kkwb))))); have HM6 := Hd hm6; have l6b : m6.length ≤ 1000000 := (by have := congrArg List.length hm6; rw [List.length_map] at this; omega); clear ow6 ov6 hm6; clear kq1)
    (try go_wp2_with fail)
    refine hK.out _ _ ?_ (fun hHeld2 => ?_)
    ·(try dsimp only); exact KCz.out _ (ky kkwc)
    clear hK K hHeld1
    (try simp only [Act.put, nwnA6, xA, xB, xC])
    refine tkE 7 nwnA7 rfl (by kernel_rfl) (fun K hK => ?_)
    (refine step_appS rfl (.tmp 22) (.tmp 28) 22 rfl W0.heap.size 44 h0 _ 4 64 Tryz.underlying22 hi hz0 hz1 hz2 rfl (by decide) (.slice a5 m.length l5) (m.length) (cellsV m) (by simp [Act.eval, Act.put]) (own_kp OW2.out (show Kp V2 _ from (ky kkwc))) (.slice a6 m6.length l6) (m6.length) (cellsV m6) (by simp [Act.eval, Act.put]) (own_srcV (own_kp OL.out (ky (Kp.refl wc)))) (cellsV_length _) (cellsV_one (OwnV.reads (OM.out.kp (ky (Kp.refl wc))))) (by (try simp only [List.length_append, List.length_cons, List.length_nil]); unfold maxLen; omega) (by (try simp only [List.length_append, List.length_cons, List.length_nil]); omega) (Nat.le_trans bs (Below.size (show Kp V2 _ from (ky kkwc)))) ?_; intro v7 w7 hown hgrow hat; have SG := Hd (show w7.cell? ⟨wr.heap.size, 0, none⟩ = some (.bool false) ∧ w7.cell? ⟨wr.heap.size, 1, none⟩ = some (.int .i64 kd) ∧ w7.cell? ⟨wr.heap.size, 2, none⟩ = some (.slice ax s.length cx) ∧ w7.cell? ⟨wr.heap.size, 3, none⟩ = some (.slice ay 0 cy) ∧ w7.cell? ⟨w.heap.size, 0, none⟩ = some (.slice ai Kb.length ci) ∧ w7.cell? ⟨w.heap.size, 1, none⟩ = some (.slice aj D.length cj) from ⟨grown_up hgrow (KCz.out _ (ky kkwc)).1 NEF.out, grown_up hgrow (KCz.out _ (ky kkwc)).2.1 NEF.out, grown_up hgrow (KCz.out _ (ky kkwc)).2.2.1 NEF.out, grown_up hgrow (KCz.out _ (ky kkwc)).2.2.2.1 NEF.out, grown_up hgrow (KCz.out _ (ky kkwc)).2.2.2.2.1 NEB.out, grown_up hgrow (KCz.out _ (ky kkwc)).2.2.2.2.2 NEB.out⟩); have SGU := Hd (fun w' (kq : Kp w7 w') => show w'.cell? ⟨wr.heap.size, 0, none⟩ = some (.bool false) ∧ w'.cell? ⟨wr.heap.size, 1, none⟩ = some (.int .i64 kd) ∧ w'.cell? ⟨wr.heap.size, 2, none⟩ = some (.slice ax s.length cx) ∧ w'.cell? ⟨wr.heap.size, 3, none⟩ = some (.slice ay 0 cy) ∧ w'.cell? ⟨w.heap.size, 0, none⟩ = some (.slice ai Kb.length ci) ∧ w'.cell? ⟨w.heap.size, 1, none⟩ = some (.slice aj D.length cj) from ⟨cell_up kq SG.out.1, cell_up kq SG.out.2.1, cell_up kq SG.out.2.2.1, cell_up kq SG.out.2.2.2.1, cell_up kq SG.out.2.2.2.2.1, cell_up kq SG.out.2.2.2.2.2⟩); have OV7 := Hd (((OV2.out.kp (show Kp V2 _ from (ky kkwc))).append (OM.out.kp (ky (Kp.refl wc)))).grown hgrow (own_kp OW2.out (show Kp V2 _ from (ky kkwc)))); have OW7 := Hd hown; have KG := Hd (Kp.grown (show Kp W0 _ from KW2.out.trans (ky kkwc)) hgrow (fun j hj => (OW2.out.lt j hj).1)); clear hown hgrow hat)
    (try go_wp2_with fail)
    refine hK.out _ _ ?_ (fun hHeld3 => ?_)
    ·(try dsimp only); exact SGU.out _ (ky (Kp.refl w7))
    clear hK K hHeld2
    (try simp only [Act.put, nwnA7, xA, xB, xC])
    refine tkv 8 nwnA8 ?_
    (try simp only [Act.put, nwnA8, xA, xB, xC])
    refine wpAnyH_done (by kernel_rfl) ?_ _
    go_wp2
    go_roundw
    case rel => exact ⟨k + 1, m ++ m6, by omega, by go_num, Hd (by rw [List.map_append, HM.out, HM6.out, LNX.out]), Hd (OV7.out.kp (ky (Kp.refl w7))), Hd (by rw [List.length_append, cellsV_append]; exact own_kp OW7.out (ky (Kp.refl w7))), Hd (KG.out.trans (ky (Kp.refl w7)))⟩
    case measure => simp [intOf]; omega
   ·subst hg
    obtain ⟨ax, cx, rfl⟩ := ok'.a.slice
    obtain ⟨ay, cy, rfl⟩ := ok'.b.slice
    have ltB := heap_lt GQv0.out
    unfold leafV
    simp only
    have hq := heap_block kka GQv0.out
    have f0 : wa.frozen? ⟨wr.heap.size, 0, none⟩ = false := by simp [World.frozen?, hq]
    have f1 : wa.frozen? ⟨wr.heap.size, 1, none⟩ = false := by simp [World.frozen?, hq]
    have f2 : wa.frozen? ⟨wr.heap.size, 2, none⟩ = false := by simp [World.frozen?, hq]
    have f3 : wa.frozen? ⟨wr.heap.size, 3, none⟩ = false := by simp [World.frozen?, hq]
    obtain ⟨d0, d1, d2, d3⟩ := row4 hq
    obtain ⟨V2, hV2⟩ : ∃ x, x = (((wa.setCell ⟨wr.heap.size, 0, none⟩ (.bool true)).setCell ⟨wr.heap.size, 1, none⟩ (.int .i64 0)).setCell ⟨wr.heap.size, 2, none⟩ (.slice ax s.length cx)).setCell ⟨wr.heap.size, 3, none⟩ (.slice ay e'.length cy) := ⟨_, rfl⟩
    have k2 : Kp wr V2 := by rw [hV2]; exact set4_below (KV.out.trans kka) wr.heap.size (Nat.le_refl _) _ _ _ _
    have KSz := Hd (fun w' (kq : Kp V2 w') => show w'.cell? ⟨wr.heap.size, 0, none⟩ = some (.bool true) ∧ w'.cell? ⟨wr.heap.size, 1, none⟩ = some (.int .i64 0) ∧ w'.cell? ⟨wr.heap.size, 2, none⟩ = some (.slice ax s.length cx) ∧ w'.cell? ⟨wr.heap.size, 3, none⟩ = some (.slice ay e'.length cy) ∧ w'.cell? ⟨w.heap.size, 0, none⟩ = some (.slice ai Kb.length ci) ∧ w'.cell? ⟨w.heap.size, 1, none⟩ = some (.slice aj D.length cj) ∧ Kp V2 w' from (by rw [hV2] at kq; obtain ⟨z0, z1, z2, z3⟩ := set4_read hq _ _ _ _ kq; rw [← hV2] at kq; exact ⟨z0, z1, z2, z3, (row2 (HB.out w' (J.out.trans (k2.trans kq)))).1, (row2 (HB.out w' (J.out.trans (k2.trans kq)))).2, kq⟩))
    have OS2 := Hd (show OwnR V2 W0.heap.size (.slice ax s.length cx) s from own_mono (by rw [hV2]; exact own_far4 (oo rfl).1 (own_below (oo rfl).1 ltB) _ _ _ _) (Below.size (J.out.trans KV.out)))
    have OE2 := Hd (show OwnR V2 W0.heap.size (.slice ay e'.length cy) e' from own_mono (by rw [hV2]; exact own_far4 (oo rfl).2 (own_below (oo rfl).2 ltB) _ _ _ _) (Below.size (J.out.trans KV.out)))
    have FB2 := Hd (show V2.heap[wr.heap.size]? = some (.cells #[.bool true, .int .i64 0, .slice ax s.length cx, .slice ay e'.length cy] 44 (0, 0)) from by rw [hV2]; exact set4_heap hq _ _ _ _)
    have ltB2 := heap_lt FB2.out
    have K2 := Hd k2
    have KW2 := Hd (J.out.trans k2)
    have HV2 := Hd hV2
    have bs := Below.size KW2.out
    have kkV2 : Kp V2 V2 := Kp.refl _
    have OW2 := Hd (show V2.ownsRow W0.heap.size 44 4 (.slice a5 m.length l5) m.length (cellsV m) from by rw [hV2]; exact own_far4 (own_kp OWV.out kka) NEF.out _ _ _ _)
    have OV2 := Hd (show OwnV V2 W0.heap.size m from by rw [hV2]; exact (OVV.out.kp kka).far4 hq _ _ _ _)
    have KCz := Hd (fun w' (kq : Kp V2 w') => show w'.cell? ⟨wr.heap.size, 0, none⟩ = some (.bool true) ∧ w'.cell? ⟨wr.heap.size, 1, none⟩ = some (.int .i64 0) ∧ w'.cell? ⟨wr.heap.size, 2, none⟩ = some (.slice ax s.length cx) ∧ w'.cell? ⟨wr.heap.size, 3, none⟩ = some (.slice ay e'.length cy) ∧ w'.cell? ⟨w.heap.size, 0, none⟩ = some (.slice ai Kb.length ci) ∧ w'.cell? ⟨w.heap.size, 1, none⟩ = some (.slice aj D.length cj) from ⟨(KSz.out w' kq).1, (KSz.out w' kq).2.1, (KSz.out w' kq).2.2.1, (KSz.out w' kq).2.2.2.1, (KSz.out w' kq).2.2.2.2.1, (KSz.out w' kq).2.2.2.2.2.1⟩)
    clear hV2 k2 kka OWV OVV
    rw [outT_sp] at LN n4'
    have ns : s.length ≤ 1000 := ok'.na
    have ne : e'.length ≤ 1000 := ok'.nb
    have nq := interR_len (setB_sane s1) (setB_sane s2)
    have nr := interR_len (interR_sane s e') SD.out
    rw [List.length_append] at n4'
    have M1 := Hd (fun w1 (kk : Kp V2 w1) => meet_any _ _ s e' w1 (OwnR.runs (own_kp OS2.out kk)) (OwnR.runs (own_kp OE2.out kk)) (sane_i64 (setB_sane s1)) (sane_i64 (setB_sane s2)) (by omega) (by omega))
    have M2 := Hd (fun v w1 (kk : Kp V2 w1) (h : RunsAt w1 v (interR s e')) => meet_any v (.slice aj D.length cj) (interR s e') D w1 h (HD.out.kp (KW2.out.trans kk)) (sane_i64 (interR_sane _ _)) (sane_i64 SD.out) (by omega) (by omega))
    have UL := Hd (fun v w1 (h : RunsAt w1 v (interR (interR s e') D)) => nwUnitLeaves_any 0 v _ w1 h (by omega))
    have PR := Hd (fun j h t => parts_rest (K := Kb) s1 s2 UP.out (j := j) h t)
    have PK := Hd (fun r h => part_skip (r := r) s1 s2 h)
    generalize interR (interR s e') D = U at *
    generalize interR s e' = Q1 at *
    have LNX := Hd LN
    have m1 : m.length ≤ 1000000 := by omega
    have HML := Hd ml
    clear ok' oo LN nq nr ml
    go_upto_region 8 with fail
    rw [← HV2.out]
    clear HV2 d0 d1 d2 d3 f0 f1 f2 f3
    refine wp_region_held_drew (S := fun w' => w'.cell? ⟨wr.heap.size, 0, none⟩ = some (.bool true) ∧ w'.cell? ⟨wr.heap.size, 1, none⟩ = some (.int .i64 0) ∧ w'.cell? ⟨wr.heap.size, 2, none⟩ = some (.slice ax s.length cx) ∧ w'.cell? ⟨wr.heap.size, 3, none⟩ = some (.slice ay e'.length cy) ∧ w'.cell? ⟨w.heap.size, 0, none⟩ = some (.slice ai Kb.length ci) ∧ w'.cell? ⟨w.heap.size, 1, none⟩ = some (.slice aj D.length cj)) (by kernel_rfl) ?_ (fun hHeld0 => ?_)
    ·(try dsimp only); exact KCz.out _ (ky kkV2)
    refine tkv 0 nwnB0 ?_
    (try simp only [Act.put, nwnB0, xA, xB, xC])
    refine tkv 1 nwnB1 ?_
    (try simp only [Act.put, nwnB1, xA, xB, xC])
    refine tkv 2 nwnB2 ?_
    (try simp only [Act.put, nwnB2, xA, xB, xC])
    refine tkv 3 nwnB3 ?_
    (try simp only [Act.put, nwnB3, xA, xB, xC])
    refine tkv 4 nwnB4 ?_
    (try simp only [Act.put, nwnB4, xA, xB, xC])
    refine tkv 6 nwnB6 ?_
    (try simp only [Act.put, nwnB6, xA, xB, xC])
    refine tkv 7 nwnB7 ?_
    (try simp only [Act.put, nwnB7, xA, xB, xC])
    refine tkE 5 nwnB5 rfl (by kernel_rfl) (fun K hK => ?_)
    go_simp
    (refine (M1.out _ (ky kkV2)).mono ?_; rintro e wb ⟨v1, rfl, o1, kq1⟩; have kkwb : Kp V2 wb := Kp.trans (show Kp V2 _ from (ky kkV2)) kq1; obtain ⟨a1, l1, rfl⟩ := own_slice o1; have O1 := Hd (runsAt_own o1); clear o1; clear kq1)
    (try go_wp2_with fail)
    refine hK.out _ _ ?_ (fun hHeld1 => ?_)
    ·(try dsimp only); exact KCz.out _ (ky kkwb)
    clear hK K hHeld0
    (try simp only [Act.put, nwnB5, xA, xB, xC])
    refine tkE 8 nwnB8 rfl (by kernel_rfl) (fun K hK => ?_)
    go_simp
    (refine (M2.out _ _ (ky kkwb) (O1.out.kp (ky (Kp.refl wb)))).mono ?_; rintro e wc ⟨v2, rfl, o2, kq1⟩; have kkwc : Kp V2 wc := Kp.trans (show Kp V2 _ from (ky kkwb)) kq1; obtain ⟨a2, l2, rfl⟩ := own_slice o2; have O2 := Hd (runsAt_own o2); clear o2; clear kq1)
    (try go_wp2_with fail)
    refine hK.out _ _ ?_ (fun hHeld2 => ?_)
    ·(try dsimp only); exact KCz.out _ (ky kkwc)
    clear hK K hHeld1
    (try simp only [Act.put, nwnB8, xA, xB, xC])
    refine tkE 9 nwnB9 rfl (by kernel_rfl) (fun K hK => ?_)
    go_simp
    (refine (UL.out _ _ (O2.out.kp (ky (Kp.refl wc)))).mono ?_; rintro e wd ⟨v6, m6, rfl, hm6, ov6, ow6, kq1⟩; have kkwd : Kp V2 wd := Kp.trans (show Kp V2 _ from (ky kkwc)) kq1; obtain ⟨a6, l6, rfl⟩ := own_slice4 ow6; have OL := Hd ow6; have OM := Hd (ov6.mono (Nat.le_trans bs (Below.size (show Kp V2 _ from (ky kkwc))))); have HM6 := Hd hm6; have l6b : m6.length ≤ 1000000 := (by have := congrArg List.length hm6; rw [List.length_map] at this; omega); clear ow6 ov6 hm6; clear kq1)
    (try go_wp2_with fail)
    refine hK.out _ _ ?_ (fun hHeld3 => ?_)
    ·(try dsimp only); exact KCz.out _ (ky kkwd)
    clear hK K hHeld2
    (try simp only [Act.put, nwnB9, xA, xB, xC])
    refine tkE 10 nwnB10 rfl (by kernel_rfl) (fun K hK => ?_)
    (refine step_appS rfl (.tmp 30) (.tmp 39) 22 rfl W0.heap.size 44 h0 _ 4 64 Tryz.underlying22 hi hz0 hz1 hz2 rfl (by decide) (.slice a5 m.length l5) (m.length) (cellsV m) (by simp [Act.eval, Act.put]) (own_kp OW2.out (show Kp V2 _ from (ky kkwd))) (.slice a6 m6.length l6) (m6.length) (cellsV m6) (by simp [Act.eval, Act.put]) (own_srcV (own_kp OL.out (ky (Kp.refl wd)))) (cellsV_length _) (cellsV_one (OwnV.reads (OM.out.kp (ky (Kp.refl wd))))) (by (try simp only [List.length_append, List.length_cons, List.length_nil]); unfold maxLen; omega) (by (try simp only [List.length_append, List.length_cons, List.length_nil]); omega) (Nat.le_trans bs (Below.size (show Kp V2 _ from (ky kkwd)))) ?_; intro v7 w7 hown hgrow hat; have SG := Hd (show w7.cell? ⟨wr.heap.size, 0, none⟩ = some (.bool true) ∧ w7.cell? ⟨wr.heap.size, 1, none⟩ = some (.int .i64 0) ∧ w7.cell? ⟨wr.heap.size, 2, none⟩ = some (.slice ax s.length cx) ∧ w7.cell? ⟨wr.heap.size, 3, none⟩ = some (.slice ay e'.length cy) ∧ w7.cell? ⟨w.heap.size, 0, none⟩ = some (.slice ai Kb.length ci) ∧ w7.cell? ⟨w.heap.size, 1, none⟩ = some (.slice aj D.length cj) from ⟨grown_up hgrow (KCz.out _ (ky kkwd)).1 NEF.out, grown_up hgrow (KCz.out _ (ky kkwd)).2.1 NEF.out, grown_up hgrow (KCz.out _ (ky kkwd)).2.2.1 NEF.out, grown_up hgrow (KCz.out _ (ky kkwd)).2.2.2.1 NEF.out, grown_up hgrow (KCz.out _ (ky kkwd)).2.2.2.2.1 NEB.out, grown_up hgrow (KCz.out _ (ky kkwd)).2.2.2.2.2 NEB.out⟩); have SGU := Hd (fun w' (kq : Kp w7 w') => show w'.cell? ⟨wr.heap.size, 0, none⟩ = some (.bool true) ∧ w'.cell? ⟨wr.heap.size, 1, none⟩ = some (.int .i64 0) ∧ w'.cell? ⟨wr.heap.size, 2, none⟩ = some (.slice ax s.length cx) ∧ w'.cell? ⟨wr.heap.size, 3, none⟩ = some (.slice ay e'.length cy) ∧ w'.cell? ⟨w.heap.size, 0, none⟩ = some (.slice ai Kb.length ci) ∧ w'.cell? ⟨w.heap.size, 1, none⟩ = some (.slice aj D.length cj) from ⟨cell_up kq SG.out.1, cell_up kq SG.out.2.1, cell_up kq SG.out.2.2.1, cell_up kq SG.out.2.2.2.1, cell_up kq SG.out.2.2.2.2.1, cell_up kq SG.out.2.2.2.2.2⟩); have OV7 := Hd (((OV2.out.kp (show Kp V2 _ from (ky kkwd))).append (OM.out.kp (ky (Kp.refl wd)))).grown hgrow (own_kp OW2.out (show Kp V2 _ from (ky kkwd)))); have OW7 := Hd hown; have KG := Hd (Kp.grown (show Kp W0 _ from KW2.out.trans (ky kkwd)) hgrow (fun j hj => (OW2.out.lt j hj).1)); have OS7 := Hd (own_apart (own_kp OS2.out (show Kp V2 _ from (ky kkwd))) hgrow (own_types OW2.out OS2.out (by decide))); have OE7 := Hd (own_apart (own_kp OE2.out (show Kp V2 _ from (ky kkwd))) hgrow (own_types OW2.out OE2.out (by decide))); have NE7 := Hd (ne_next hat NEF.out (Nat.lt_of_lt_of_le ltB2 (Below.size (show Kp V2 _ from (ky kkwd))))); have FB7 := Hd (grown_at hgrow (heap_block (show Kp V2 _ from (ky kkwd)) FB2.out) NEF.out); clear hown hgrow hat)
    (try go_wp2_with fail)
    refine hK.out _ _ ?_ (fun hHeld4 => ?_)
    ·(try dsimp only); exact SGU.out _ (ky (Kp.refl w7))
    clear hK K hHeld3
    (try simp only [Act.put, nwnB10, xA, xB, xC])
    refine tkv 11 nwnB11 ?_
    (try simp only [Act.put, nwnB11, xA, xB, xC])
    refine wpAnyH_done (by kernel_rfl) ?_ _
    obtain ⟨b0', b1'⟩ := row2 (HB.out w7 KG.out)
    obtain ⟨wo, hwo⟩ : ∃ x, x = wr := ⟨_, rfl⟩
    subst hwo
    obtain ⟨M0, hM0⟩ : ∃ x, leftL Kb D (l.take k) ++ chunksR 0 U = x := ⟨_, rfl⟩
    have MM0 := Hd (show (m ++ m6).map Prod.fst = M0 by rw [List.map_append, HM.out, HM6.out, hM0])
    have LN2 := Hd (show leftL Kb D (l.take (k + 1)) = M0 ++ Kb.flatMap (partF s e') by rw [LNX.out, ← List.append_assoc, hM0])
    have CV := Hd (cellsV_append m m6)
    have NB := Hd (fun j => show (M0 ++ (Kb.take j).flatMap (partF s e')).length ≤ 1000000 from by
     have h1 := flat_pre Kb (partF s e') j
     have h2 := congrArg List.length hM0
     rw [List.length_append] at h2 ⊢
     omega)
    have ml7 : (m ++ m6).length = m.length + m6.length := List.length_append
    rw [← CV.out, ← ml7] at OW7
    have nK2 : Kb.length ≤ 100000 := nK
    clear HM6 OM OL OV2 OW2 OS2 OE2 FB2 M1 M2 UL LNX HM KSz KCz SG SGU NEB NEF
    go_wp2_with fail
    go_loopw [5, 44] (fun v i wr => ∃ (j : Nat) (mm : List (LF × VV)), j ≤ Kb.length ∧ i = .int .i64 j ∧ Hid (mm.map Prod.fst = M0 ++ (Kb.take j).flatMap (partF s e')) ∧ Hid (OwnV wr W0.heap.size mm) ∧ Hid (wr.ownsRow W0.heap.size 44 4 v mm.length (cellsV mm)) ∧ Hid (v.ownBlock ≠ some wo.heap.size) ∧ Hid (wr.heap[wo.heap.size]? = some (.cells #[.bool true, .int .i64 0, .slice ax s.length cx, .slice ay e'.length cy] 44 (0, 0))) ∧ Hid (OwnR wr W0.heap.size (.slice ax s.length cx) s) ∧ Hid (OwnR wr W0.heap.size (.slice ay e'.length cy) e') ∧ Hid (Kp W0 wr)) (fun _ i _ => Kb.length - (intOf i).toNat)
    case atStart => exact ⟨0, m ++ m6, Nat.zero_le _, rfl, Hd (by rw [MM0.out]; simp), Hd (OV7.out.kp (ky (Kp.refl w7))), Hd (own_kp (by rw [ml7, CV.out] at OW7 ⊢; exact OW7.out) (ky (Kp.refl w7))), NE7, Hd (heap_block (ky (Kp.refl w7)) FB7.out), Hd (own_kp OS7.out (ky (Kp.refl w7))), Hd (own_kp OE7.out (ky (Kp.refl w7))), Hd (KG.out.trans (ky (Kp.refl w7)))⟩
    case round =>
     obtain ⟨j, mm, hj, rfl, HM, OV, OW, NE, FB, OS, OE, J2⟩ := hrel
     have ow := OW.out
     obtain ⟨a7, l7, rfl⟩ := own_slice4 ow
     have mml : mm.length ≤ 1000000 := by have h := congrArg List.length HM.out; rw [List.length_map] at h; rw [h]; exact NB.out j
     by_cases hlt2 : j < Kb.length
     ·have q4 : decide ((j : Int) < (Kb.length : Int)) = true := dT
      have q5 : decide (j < Kb.length) = true := decide_eq_true hlt2
      rcases (HI.out.kp J2.out) with ⟨_, _, _, e⟩ | ⟨b3, off3, cap3, ev, hc3, hm3, hx3⟩
      ·rw [e] at hlt2; simp at hlt2
      obtain ⟨r1, r2⟩ := hx3 j hlt2
      cases ev
      have rin := IKD.out _ (at_mem hlt2)
      have PRJ := fun h => PR.out j hlt2 h
      have PN := parts_next (s := s) (e := e') hlt2
      obtain ⟨lo, hi', elo⟩ : ∃ x y, at_ Kb j = (x, y) := ⟨_, _, rfl⟩
      rw [elo] at r1 r2 rin PN PRJ
      simp only at r1 r2 rin PRJ
      have z3 : (0 : Int) ≤ (j : Int) := by omega
      have z4 : (j : Int) < Kb.length := by omega
      clear hx3 hc3 elo
      have kk3 : Kp wr (wr.alloc (.cells #[.int .i64 lo, .int .i64 hi'] 42)) := Kp.alloc _ _
      have kk30 : Kp W0 (wr.alloc (.cells #[.int .i64 lo, .int .i64 hi'] 42)) := J2.out.trans (Kp.alloc _ _)
      obtain ⟨V3, hVr⟩ : ∃ x, x = wr.alloc (.cells #[.int .i64 lo, .int .i64 hi'] 42) := ⟨_, rfl⟩
      have kar : Kp wr V3 := by rw [hVr]; exact Kp.alloc _ _
      have gqr0 : V3.heap[wr.heap.size]? = some (.cells #[.int .i64 lo, .int .i64 hi'] 42 (0, 0)) := by rw [hVr]; exact heap_at _ _ _ (by first | rfl | simp)
      rw [← hVr] at kk3 kk30
      have KSr := Hd (fun w' (kq : Kp V3 w') => show w'.cell? ⟨wr.heap.size, 0, none⟩ = some (.int .i64 lo) ∧ w'.cell? ⟨wr.heap.size, 1, none⟩ = some (.int .i64 hi') ∧ w'.cell? ⟨wo.heap.size, 0, none⟩ = some (.bool true) ∧ w'.cell? ⟨wo.heap.size, 1, none⟩ = some (.int .i64 0) ∧ w'.cell? ⟨wo.heap.size, 2, none⟩ = some (.slice ax s.length cx) ∧ w'.cell? ⟨wo.heap.size, 3, none⟩ = some (.slice ay e'.length cy) ∧ w'.cell? ⟨w.heap.size, 0, none⟩ = some (.slice (some ⟨b3, off3, none⟩) Kb.length ci) ∧ w'.cell? ⟨w.heap.size, 1, none⟩ = some (.slice aj D.length cj) ∧ Kp V3 w' from ⟨(row2 (heap_block kq gqr0)).1, (row2 (heap_block kq gqr0)).2, cell_up kq (row4 (heap_block kk3 FB.out)).1, cell_up kq (row4 (heap_block kk3 FB.out)).2.1, cell_up kq (row4 (heap_block kk3 FB.out)).2.2.1, cell_up kq (row4 (heap_block kk3 FB.out)).2.2.2, cell_up kq (row2 (HB.out V3 kk30)).1, cell_up kq (row2 (HB.out V3 kk30)).2, kq⟩)
      have GQr0 := Hd gqr0
      have HVr := Hd hVr
      have KR := Hd kar
      clear hVr kar gqr0
      have kkV3 : Kp V3 V3 := Kp.refl _
      have J3 := Hd kk30
      have OW3 := Hd (own_kp ow KR.out)
      have OV3 := Hd (OV.out.kp KR.out)
      have OS3 := Hd (own_kp OS.out KR.out)
      have OE3 := Hd (own_kp OE.out KR.out)
      have FB3 := Hd (heap_block KR.out FB.out)
      have ltF := heap_lt FB3.out
      have GR := Hd (fun w1 (kk : Kp V3 w1) => nwGreat_any _ e' w1 (OwnR.runs (own_kp OE3.out kk)) (setB_sane s2) s4 (by omega))
      have LE := Hd (fun w1 (kk : Kp V3 w1) => nwLeast_any _ s w1 (OwnR.runs (own_kp OS3.out kk)) (setB_sane s1) s3 (by omega))
      have GE := Hd (fun t (h : memR e' t) => great_max (setB_sane s2) h)
      have LS := Hd (fun t (h : memR s t) => least_min (setB_sane s1) h)
      generalize greatR e' = ge at *
      generalize leastR s = le at *
      clear OW OV OS OE FB ow
      go_upto_region 12 with fail
      rw [← HVr.out]
      clear HVr r1 r2
      refine wp_region_held_drew (S := fun w' => w'.cell? ⟨wr.heap.size, 0, none⟩ = some (.int .i64 lo) ∧ w'.cell? ⟨wr.heap.size, 1, none⟩ = some (.int .i64 hi') ∧ w'.cell? ⟨wo.heap.size, 0, none⟩ = some (.bool true) ∧ w'.cell? ⟨wo.heap.size, 1, none⟩ = some (.int .i64 0) ∧ w'.cell? ⟨wo.heap.size, 2, none⟩ = some (.slice ax s.length cx) ∧ w'.cell? ⟨wo.heap.size, 3, none⟩ = some (.slice ay e'.length cy) ∧ w'.cell? ⟨w.heap.size, 0, none⟩ = some (.slice (some ⟨b3, off3, none⟩) Kb.length ci) ∧ w'.cell? ⟨w.heap.size, 1, none⟩ = some (.slice aj D.length cj) ∧ Kp V3 w') (by kernel_rfl) ?_ (fun hHeld0 => ?_)
      ·(try dsimp only); exact KSr.out _ (ky kkV3)
      refine tkv 0 nwnC0 ?_
      (try simp only [Act.put, nwnC0, xA, xB, xC])
      refine tkv 1 nwnC1 ?_
      (try simp only [Act.put, nwnC1, xA, xB, xC])
      refine tkv 2 nwnC2 ?_
      (try simp only [Act.put, nwnC2, xA, xB, xC])
      refine tkv 3 nwnC3 ?_
      (try simp only [Act.put, nwnC3, xA, xB, xC])
      refine tkE 4 nwnC4 rfl (by kernel_rfl) (fun K hK => ?_)
      go_simp
      (refine (GR.out _ (ky kkV3)).mono ?_; rintro e wb ⟨rfl, kq1⟩; have kkwb : Kp V3 wb := Kp.trans (show Kp V3 _ from (ky kkV3)) kq1; clear kq1)
      (try go_wp2_with fail)
      refine hK.out _ _ ?_ (fun hHeld1 => ?_)
      ·(try dsimp only); exact KSr.out _ (ky kkwb)
      clear hK K hHeld0
      (try simp only [Act.put, nwnC4, xA, xB, xC])
      refine tkv 5 nwnC5 ?_
      (try simp only [Act.put, nwnC5, xA, xB, xC])
      refine wpAnyH_done (by kernel_rfl) ?_ _
      by_cases c1 : ge < lo
      ·have u1 : decide (lo > ge) = true := decide_eq_true c1
       have u2 : decide (ge < lo) = true := decide_eq_true c1
       have EQ := Hd (show mm.map Prod.fst = leftL Kb D (l.take (k + 1)) by rw [HM.out, LN2.out, PRJ (fun t h => by have := GE.out t h; omega)])
       clear mml c1
       rw [u2]
       go_wp2
       go_roundw
       case rel => exact ⟨k + 1, mm, by omega, by go_num, EQ, Hd (OV3.out.kp (ky kkwb)), Hd (own_kp OW3.out (ky kkwb)), Hd (J3.out.trans (ky kkwb))⟩
       case measure => simp [intOf]; omega
      have u1 : decide (lo > ge) = false := decide_eq_false c1
      have u2 : decide (ge < lo) = false := decide_eq_false c1
      rw [u2]
      go_upto_region 13 with fail
      refine wp_region_held_drew (S := fun w' => w'.cell? ⟨wr.heap.size, 0, none⟩ = some (.int .i64 lo) ∧ w'.cell? ⟨wr.heap.size, 1, none⟩ = some (.int .i64 hi') ∧ w'.cell? ⟨wo.heap.size, 0, none⟩ = some (.bool true) ∧ w'.cell? ⟨wo.heap.size, 1, none⟩ = some (.int .i64 0) ∧ w'.cell? ⟨wo.heap.size, 2, none⟩ = some (.slice ax s.length cx) ∧ w'.cell? ⟨wo.heap.size, 3, none⟩ = some (.slice ay e'.length cy) ∧ w'.cell? ⟨w.heap.size, 0, none⟩ = some (.slice (some ⟨b3, off3, none⟩) Kb.length ci) ∧ w'.cell? ⟨w.heap.size, 1, none⟩ = some (.slice aj D.length cj) ∧ Kp V3 w') (by kernel_rfl) ?_ (fun hHeld0 => ?_)
      ·(try dsimp only); exact KSr.out _ (ky kkwb)
      refine tkv 0 nwnD0 ?_
      (try simp only [Act.put, nwnD0, xA, xB, xC])
      refine tkv 1 nwnD1 ?_
      (try simp only [Act.put, nwnD1, xA, xB, xC])
      refine tkv 2 nwnD2 ?_
      (try simp only [Act.put, nwnD2, xA, xB, xC])
      refine tkv 3 nwnD3 ?_
      (try simp only [Act.put, nwnD3, xA, xB, xC])
      refine tkE 4 nwnD4 rfl (by kernel_rfl) (fun K hK => ?_)
      go_simp
      (refine (LE.out _ (ky kkwb)).mono ?_; rintro e wc ⟨rfl, kq1⟩; have kkwc : Kp V3 wc := Kp.trans (show Kp V3 _ from (ky kkwb)) kq1; clear kq1)
      (try go_wp2_with fail)
      refine hK.out _ _ ?_ (fun hHeld1 => ?_)
      ·(try dsimp only); exact KSr.out _ (ky kkwc)
      clear hK K hHeld0
      (try simp only [Act.put, nwnD4, xA, xB, xC])
      refine tkv 5 nwnD5 ?_
      (try simp only [Act.put, nwnD5, xA, xB, xC])
      refine wpAnyH_done (by kernel_rfl) ?_ _
      by_cases c2 : hi' < le
      ·have u3 : decide (hi' < le) = true := decide_eq_true c2
       have HMN := Hd (show mm.map Prod.fst = M0 ++ (Kb.take (j + 1)).flatMap (partF s e') by rw [HM.out, PN, PK.out _ (fun x h => by have := LS.out x h; simp only; omega), List.append_nil])
       clear mml c1 c2
       rw [u3]
       go_wp2
       go_roundw
       case rel => exact ⟨j + 1, mm, by omega, by go_num, HMN, Hd (OV3.out.kp (ky kkwc)), Hd (own_kp OW3.out (ky kkwc)), NE, Hd (heap_block (ky kkwc) FB3.out), Hd (own_kp OS3.out (ky kkwc)), Hd (own_kp OE3.out (ky kkwc)), Hd (J3.out.trans (ky kkwc))⟩
       case measure => simp [intOf]; omega
      have u3 : decide (hi' < le) = false := decide_eq_false c2
      rw [u3]
      go_upto_region 14 with fail
      have rb : -9223372036854775808 ≤ lo ∧ lo ≤ 9223372036854775807 ∧ -9223372036854775808 ≤ hi' ∧ hi' ≤ 9223372036854775807 := by omega
      have ii : I64R [(lo, hi')] := i64_one rb.1 rb.2.1 rb.2.2.1 rb.2.2.2
      have nA := interR_le s (lo, hi')
      have nB := interR_le e' (lo, hi')
      have CA := Hd (fun w1 (kk : Kp V3 w1) => clip_any _ s lo hi' w1 (OwnR.runs (own_kp OS3.out kk)) (sane_i64 (setB_sane s1)) (by omega) ii)
      have CB := Hd (fun w1 (kk : Kp V3 w1) => clip_any _ e' lo hi' w1 (OwnR.runs (own_kp OE3.out kk)) (sane_i64 (setB_sane s2)) (by omega) ii)
      have TY0 := fun v1 v2 w1 (kk : Kp V3 w1) (h1 : RunsAt w1 v1 (interR s [(lo, hi')])) (h2 : RunsAt w1 v2 (interR e' [(lo, hi')])) => (leafTidyO_any (cutLF s e' (lo, hi')) v1 v2 w1 ⟨h1, h2, sane_i64 (interR_sane _ _), sane_i64 (interR_sane _ _), Nat.le_trans nA ns, Nat.le_trans nB ne⟩ (TT.out.kp (J3.out.trans kk))).mono (R' := fun e w' => ∃ va vb, e = .returned (leafV (lfOf (famR (cutLF s e' (lo, hi')))) va vb) ∧ (LeafOk w' (lfOf (famR (cutLF s e' (lo, hi')))) va vb ∧ ((lfOf (famR (cutLF s e' (lo, hi')))).sp = true → OwnR w' w1.heap.size va (lfOf (famR (cutLF s e' (lo, hi')))).a ∧ OwnR w' w1.heap.size vb (lfOf (famR (cutLF s e' (lo, hi')))).b)) ∧ Kp w1 w') (by rintro e w' ⟨va, vb, rfl, a, b, c⟩; exact ⟨va, vb, rfl, ⟨a, c⟩, b⟩)
      have EM0 := fun va vb w1 (h : LeafOk w1 (lfOf (famR (cutLF s e' (lo, hi')))) va vb) (kk : Kp V3 w1) => leafEmpty_any (lfOf (famR (cutLF s e' (lo, hi')))) va vb w1 h (TT.out.kp (J3.out.trans kk)).2
      rw [empty_tidy (famR_ok _)] at EM0
      have PF : partF s e' (lo, hi') = if emptyF (famR (cutLF s e' (lo, hi'))) = true then [] else [lfOf (famR (cutLF s e' (lo, hi')))] := rfl
      have SPF := cut_sp (s := s) (e := e') (r := (lo, hi')) s1 s2
      generalize emptyF (famR (cutLF s e' (lo, hi'))) = em at *
      generalize lfOf (famR (cutLF s e' (lo, hi'))) = G3 at *
      obtain ⟨sp3, u3', a3, b3'⟩ := G3
      unfold leafV at TY0 EM0
      simp only at TY0 EM0 SPF
      have TY := Hd (fun v1 v2 w1 kk h1 h2 => show Calls Tryz.prog 45 #[.agg #[.bool true, .int .i64 0, v1, v2]] w1 _ from TY0 v1 v2 w1 kk h1 h2)
      have EM := Hd EM0
      have PFH := Hd PF
      have SPH := Hd SPF
      generalize interR s [(lo, hi')] = A1 at *
      generalize interR e' [(lo, hi')] = B1 at *
      clear TY0 EM0 PF SPF rb ii nA nB c1 c2
      refine wp_region_held_drew (S := fun w' => w'.cell? ⟨wr.heap.size, 0, none⟩ = some (.int .i64 lo) ∧ w'.cell? ⟨wr.heap.size, 1, none⟩ = some (.int .i64 hi') ∧ w'.cell? ⟨wo.heap.size, 0, none⟩ = some (.bool true) ∧ w'.cell? ⟨wo.heap.size, 1, none⟩ = some (.int .i64 0) ∧ w'.cell? ⟨wo.heap.size, 2, none⟩ = some (.slice ax s.length cx) ∧ w'.cell? ⟨wo.heap.size, 3, none⟩ = some (.slice ay e'.length cy) ∧ w'.cell? ⟨w.heap.size, 0, none⟩ = some (.slice (some ⟨b3, off3, none⟩) Kb.length ci) ∧ w'.cell? ⟨w.heap.size, 1, none⟩ = some (.slice aj D.length cj) ∧ Kp V3 w') (by kernel_rfl) ?_ (fun hHeld0 => ?_)
      ·(try dsimp only); exact KSr.out _ (ky kkwc)
      refine tkv 0 nwnE0 ?_
      (try simp only [Act.put, nwnE0, xA, xB, xC])
      refine tkv 1 nwnE1 ?_
      (try simp only [Act.put, nwnE1, xA, xB, xC])
      refine tkv 2 nwnE2 ?_
      (try simp only [Act.put, nwnE2, xA, xB, xC])
      refine tkv 3 nwnE3 ?_
      (try simp only [Act.put, nwnE3, xA, xB, xC])
      refine tkv 4 nwnE4 ?_
      (try simp only [Act.put, nwnE4, xA, xB, xC])
      refine tkv 5 nwnE5 ?_
      (try simp only [Act.put, nwnE5, xA, xB, xC])
      refine tkv 7 nwnE7 ?_
      (try simp only [Act.put, nwnE7, xA, xB, xC])
      refine tkv 8 nwnE8 ?_
      (try simp only [Act.put, nwnE8, xA, xB, xC])
      refine tkv 9 nwnE9 ?_
      (try simp only [Act.put, nwnE9, xA, xB, xC])
      refine tkv 10 nwnE10 ?_
      (try simp only [Act.put, nwnE10, xA, xB, xC])
      refine tkv 11 nwnE11 ?_
      (try simp only [Act.put, nwnE11, xA, xB, xC])
      refine tkv 12 nwnE12 ?_
      (try simp only [Act.put, nwnE12, xA, xB, xC])
      refine tkE2 6 16 nwnE6 nwnE16 rfl rfl (by kernel_rfl) (fun K hK => ?_) (fun K hK => ?_)
      ·go_simp
       (refine (CA.out _ (ky kkwc)).mono ?_; rintro e wd ⟨v1, rfl, o1, kq1⟩; have kkwd : Kp V3 wd := Kp.trans (show Kp V3 _ from (ky kkwc)) kq1; obtain ⟨aA, lA, rfl⟩ := own_slice o1; have OA := Hd o1; clear o1; clear kq1)
       (try go_wp2_with fail)
       refine hK.out _ _ ?_ (fun hHeld1 => ?_)
       ·(try dsimp only); exact KSr.out _ (ky kkwd)
       clear hK K hHeld0
       (try simp only [Act.put, nwnE6, xA, xB, xC])
       refine tkE2 13 16 nwnE13 nwnE16 rfl rfl (by kernel_rfl) (fun K hK => ?_) (fun K hK => ?_)
       ·go_simp
        (refine (CB.out _ (ky kkwd)).mono ?_; rintro e we ⟨v2, rfl, o2, kq1⟩; have kkwe : Kp V3 we := Kp.trans (show Kp V3 _ from (ky kkwd)) kq1; obtain ⟨aB, lB, rfl⟩ := own_slice o2; have OB := Hd o2; clear o2; have OA := Hd (own_kp OA.out (Kp.trans (show Kp wd _ from (ky (Kp.refl wd))) kq1)); clear kq1)
        (try go_wp2_with fail)
        refine hK.out _ _ ?_ (fun hHeld2 => ?_)
        ·(try dsimp only); exact KSr.out _ (ky kkwe)
        clear hK K hHeld1
        (try simp only [Act.put, nwnE13, xA, xB, xC])
        refine tkv 14 nwnE14 ?_
        (try simp only [Act.put, nwnE14, xA, xB, xC])
        refine tkE2 15 16 nwnE15 nwnE16 rfl rfl (by kernel_rfl) (fun K hK => ?_) (fun K hK => ?_)
        ·go_simp
         (refine (TY.out _ _ _ (ky kkwe) ((OwnR.runs OA.out).kp (ky (Kp.refl we))) ((OwnR.runs OB.out).kp (ky (Kp.refl we)))).mono ?_; rintro e wf ⟨va3, vb3, rfl, ok3, kq1⟩; have kkwf : Kp V3 wf := Kp.trans (show Kp V3 _ from (ky kkwe)) kq1; obtain ⟨ok3, oo3⟩ := ok3; obtain ⟨aT, cT, rfl⟩ := ok3.a.slice; obtain ⟨aU, cU, rfl⟩ := ok3.b.slice; have OK3 := Hd ok3; have OO3 := Hd (fun (h : sp3 = true) => show OwnR wf W0.heap.size (.slice aT a3.length cT) a3 ∧ OwnR wf W0.heap.size (.slice aU b3'.length cU) b3' from ⟨own_mono (oo3 h).1 (Below.size (J3.out.trans (show Kp V3 _ from (ky kkwe)))), own_mono (oo3 h).2 (Below.size (J3.out.trans (show Kp V3 _ from (ky kkwe))))⟩); clear ok3 oo3; clear kq1)
         (try go_wp2_with fail)
         refine hK.out _ _ ?_ (fun hHeld3 => ?_)
         ·(try dsimp only); exact KSr.out _ (ky kkwf)
         clear hK K hHeld2
         (try simp only [Act.put, nwnE15, xA, xB, xC])
         refine tkE 16 nwnE16 rfl (by kernel_rfl) (fun K hK => ?_)
         go_simp
         skip
         (try go_wp2_with fail)
         refine hK.out _ _ ?_ (fun hHeld4 => ?_)
         ·(try dsimp only); exact KSr.out _ (ky kkwf)
         clear hK K hHeld3
         (try simp only [Act.put, nwnE16, xA, xB, xC])
         refine tkE 17 nwnE17 rfl (by kernel_rfl) (fun K hK => ?_)
         go_simp
         skip
         (try go_wp2_with fail)
         refine hK.out _ _ ?_ (fun hHeld5 => ?_)
         ·(try dsimp only); exact KSr.out _ (ky kkwf)
         clear hK K hHeld4
         (try simp only [Act.put, nwnE17, xA, xB, xC])
         refine wpAnyH_done (by kernel_rfl) ?_ _
         obtain ⟨V4, hV4⟩ : ∃ x, x = wf.alloc (.cells #[.bool sp3, .int .i64 u3', .slice aT a3.length cT, .slice aU b3'.length cU] 44) := ⟨_, rfl⟩
         have k4 : Kp V3 V4 := by rw [hV4]; exact kkwf.trans (Kp.alloc _ _)
         have hp4 : V4.heap[wf.heap.size]? = some (.cells #[.bool sp3, .int .i64 u3', .slice aT a3.length cT, .slice aU b3'.length cU] 44 (0, 0)) := by rw [hV4]; exact heap_at _ _ _ rfl
         have LO4 := Hd (show LeafOk V4 ⟨sp3, u3', a3, b3'⟩ (.slice aT a3.length cT) (.slice aU b3'.length cU) from by rw [hV4]; exact OK3.out.kp (Kp.alloc _ _))
         have OO4 := Hd (fun (h : sp3 = true) => show OwnR V4 W0.heap.size (.slice aT a3.length cT) a3 ∧ OwnR V4 W0.heap.size (.slice aU b3'.length cU) b3' from by rw [hV4]; exact ⟨own_kp (OO3.out h).1 (Kp.alloc _ _), own_kp (OO3.out h).2 (Kp.alloc _ _)⟩)
         have HV4 := Hd hV4
         have K4 := Hd k4
         obtain ⟨p0, p1, p2, p3⟩ := row4 hp4
         have HP4 := Hd hp4
         clear hV4 k4 hp4 CA CB TY OA OB OK3 OO3 kkwd kkwe kkwf
         rw [← HV4.out]
         clear HV4
         go_wp2_with fail
         refine (EM.out _ _ _ LO4.out K4.out).mono ?_
         rintro e w8 ⟨rfl, k8⟩
         have K8 := Hd (K4.out.trans k8)
         have k80 := Hd k8
         clear p0 p1 p2 p3
         obtain ⟨p0, p1, p2, p3⟩ := row4 (heap_block k8 HP4.out)
         clear k8
         cases em with
         | true =>
          have HMN := Hd (show mm.map Prod.fst = M0 ++ (Kb.take (j + 1)).flatMap (partF s e') by rw [HM.out, PN, PFH.out, if_pos rfl, List.append_nil])
          clear mml PN
          go_wp2
          go_roundw
          case rel => exact ⟨j + 1, mm, by omega, by go_num, HMN, Hd (OV3.out.kp K8.out), Hd (own_kp OW3.out K8.out), NE, Hd (heap_block K8.out FB3.out), Hd (own_kp OS3.out K8.out), Hd (own_kp OE3.out K8.out), Hd (J3.out.trans K8.out)⟩
          case measure => simp [intOf]; omega
         | false =>
          have HMN := Hd (show (mm ++ [((⟨sp3, u3', a3, b3'⟩ : LF), ((.slice aT a3.length cT, .slice aU b3'.length cU) : VV))]).map Prod.fst = M0 ++ (Kb.take (j + 1)).flatMap (partF s e') by rw [List.map_append, HM.out, PN, PFH.out, if_neg (by decide), List.append_assoc]; rfl)
          have o4 := OO4.out (SPH.out rfl)
          have O4 := Hd o4
          clear PN o4
          go_wp2_with (at_builtin; refine wpList_app rfl (.tmp 79) (.tmp 81) 22 rfl W0.heap.size 44 h0 (.agg #[.bool false, .int .i64 0, .slice none 0 0, .slice none 0 0]) 4 64 Tryz.underlying22 hi hz0 hz1 hz2 rfl (by decide) _ mm.length (cellsV mm) rfl (own_kp OW3.out (K8.out.trans (Kp.alloc _ _))) _ 1 (cellsV [((⟨sp3, u3', a3, b3'⟩ : LF), ((.slice aT a3.length cT, .slice aU b3'.length cU) : VV))]) rfl (own_srcV (own_leaf _ ⟨sp3, u3', a3, b3'⟩ (.slice aT a3.length cT) (.slice aU b3'.length cU))) (by rfl) (by intro u hu; simp [cellsV] at hu; rcases hu with rfl | rfl | rfl | rfl <;> rfl) (by unfold maxLen; omega) (by omega) (Below.size (J3.out.trans (K8.out.trans (Kp.alloc _ _)))) ?_; intro v9 w9 hown hgrow hat; have G9 := Hd (Kp.grown (J3.out.trans (K8.out.trans (Kp.alloc _ _))) hgrow (fun j hj => (OW3.out.lt j hj).1)); have OV9 := Hd (((((OV3.out.kp K8.out).append (show OwnV w8 W0.heap.size [((⟨sp3, u3', a3, b3'⟩ : LF), ((.slice aT a3.length cT, .slice aU b3'.length cU) : VV))] from fun p hp => by rw [List.mem_singleton.1 hp]; exact ⟨own_kp O4.out.1 k80.out, own_kp O4.out.2 k80.out⟩)).kp (Kp.alloc _ _)).grown hgrow (own_kp OW3.out (K8.out.trans (Kp.alloc _ _))))); have OW9 := Hd (show w9.ownsRow W0.heap.size 44 4 v9 (mm ++ [((⟨sp3, u3', a3, b3'⟩ : LF), ((.slice aT a3.length cT, .slice aU b3'.length cU) : VV))]).length (cellsV (mm ++ [((⟨sp3, u3', a3, b3'⟩ : LF), ((.slice aT a3.length cT, .slice aU b3'.length cU) : VV))])) from (by rw [cellsV_append, List.length_append]; exact hown)); have NE9 := Hd (ne_next hat NE.out (Nat.lt_of_lt_of_le ltF (Below.size (K8.out.trans (Kp.alloc _ _))))); have FB9 := Hd (grown_at hgrow (heap_block (K8.out.trans (Kp.alloc _ _)) FB3.out) NE.out); have OS9 := Hd (own_apart (own_kp OS3.out (K8.out.trans (Kp.alloc _ _))) hgrow (own_types OW3.out OS3.out (by decide))); have OE9 := Hd (own_apart (own_kp OE3.out (K8.out.trans (Kp.alloc _ _))) hgrow (own_types OW3.out OE3.out (by decide))); clear hown hgrow hat)
          go_roundw
          case rel => exact ⟨j + 1, mm ++ [((⟨sp3, u3', a3, b3'⟩ : LF), ((.slice aT a3.length cT, .slice aU b3'.length cU) : VV))], by omega, by go_num, HMN, OV9, OW9, NE9, FB9, OS9, OE9, G9⟩
          case measure => simp [intOf]; omega
        ·go_simp
         skip
         (try go_wp2_with fail)
         refine hK.out _ _ ?_ (fun hHeld3 => ?_)
         ·(try dsimp only); exact KSr.out _ (ky kkwe)
         clear hK K hHeld2
         (try simp only [Act.put, nwnE16, xA, xB, xC])
         refine tkE 15 nwnE15 rfl (by kernel_rfl) (fun K hK => ?_)
         go_simp
         (refine (TY.out _ _ _ (ky kkwe) ((OwnR.runs OA.out).kp (ky (Kp.refl we))) ((OwnR.runs OB.out).kp (ky (Kp.refl we)))).mono ?_; rintro e wf ⟨va3, vb3, rfl, ok3, kq1⟩; have kkwf : Kp V3 wf := Kp.trans (show Kp V3 _ from (ky kkwe)) kq1; have hp : wf.heap[we.heap.size]? = some (.cells #[.bool false, .int .i64 0, .slice none 0 0, .slice none 0 0] 44 (0, 0)) := heap_block kq1 (by (repeat (first | with_reducible exact heap_at _ _ _ (by first | rfl | simp) | with_reducible refine heap_block (Kp.drew _) ?_ | with_reducible refine heap_block (Kp.alloc _ _) ?_))); obtain ⟨ok3, oo3⟩ := ok3; obtain ⟨aT, cT, rfl⟩ := ok3.a.slice; obtain ⟨aU, cU, rfl⟩ := ok3.b.slice; have OK3 := Hd ok3; have OO3 := Hd (fun (h : sp3 = true) => show OwnR wf W0.heap.size (.slice aT a3.length cT) a3 ∧ OwnR wf W0.heap.size (.slice aU b3'.length cU) b3' from ⟨own_mono (oo3 h).1 (Below.size (J3.out.trans (show Kp V3 _ from (ky kkwe)))), own_mono (oo3 h).2 (Below.size (J3.out.trans (show Kp V3 _ from (ky kkwe))))⟩); clear ok3 oo3; obtain ⟨p0, p1, p2, p3⟩ := row4 hp; have f0 : wf.frozen? ⟨we.heap.size, 0, none⟩ = false := (by simp [World.frozen?, hp]); have f1 : wf.frozen? ⟨we.heap.size, 1, none⟩ = false := (by simp [World.frozen?, hp]); have f2 : wf.frozen? ⟨we.heap.size, 2, none⟩ = false := (by simp [World.frozen?, hp]); have f3 : wf.frozen? ⟨we.heap.size, 3, none⟩ = false := (by simp [World.frozen?, hp]); have hBle : V3.heap.size ≤ we.heap.size := Below.size (show Kp V3 we from kkwe); clear kq1)
         (try go_wp2_with fail)
         refine hK.out _ _ ?_ (fun hHeld4 => ?_)
         ·(try dsimp only); exact KSr.out _ (ky kkwf)
         clear hK K hHeld3
         (try simp only [Act.put, nwnE15, xA, xB, xC])
         refine tkE 17 nwnE17 rfl (by kernel_rfl) (fun K hK => ?_)
         go_simp
         skip
         (try go_wp2_with fail)
         refine hK.out _ _ ?_ (fun hHeld5 => ?_)
         ·(try dsimp only); exact KSr.out _ (by first | exact set4_below kkwf _ hBle _ _ _ _ | exact (set4_below kkwf _ hBle _ _ _ _).trans (Kp.drew _))
         clear hK K hHeld4
         (try simp only [Act.put, nwnE17, xA, xB, xC])
         refine wpAnyH_done (by kernel_rfl) ?_ _
         obtain ⟨V4, hV4⟩ : ∃ x, x = ((((wf.setCell ⟨we.heap.size, 0, none⟩ (.bool sp3)).setCell ⟨we.heap.size, 1, none⟩ (.int .i64 u3')).setCell ⟨we.heap.size, 2, none⟩ (.slice aT a3.length cT)).setCell ⟨we.heap.size, 3, none⟩ (.slice aU b3'.length cU)) := ⟨_, rfl⟩
         have k4 : Kp V3 V4 := by rw [hV4]; exact set4_below kkwf _ hBle _ _ _ _
         have hp4 : V4.heap[we.heap.size]? = some (.cells #[.bool sp3, .int .i64 u3', .slice aT a3.length cT, .slice aU b3'.length cU] 44 (0, 0)) := by rw [hV4]; exact set4_heap hp _ _ _ _
         have LO4 := Hd (show LeafOk V4 ⟨sp3, u3', a3, b3'⟩ (.slice aT a3.length cT) (.slice aU b3'.length cU) from ⟨by rw [hV4]; exact OK3.out.a.off hp (fun k o h => set4_cell _ _ _ _ _ _ k o h), by rw [hV4]; exact OK3.out.b.off hp (fun k o h => set4_cell _ _ _ _ _ _ k o h), OK3.out.ia, OK3.out.ib, OK3.out.na, OK3.out.nb⟩)
         have OO4 := Hd (fun (h : sp3 = true) => show OwnR V4 W0.heap.size (.slice aT a3.length cT) a3 ∧ OwnR V4 W0.heap.size (.slice aU b3'.length cU) b3' from by rw [hV4]; exact ⟨own_far4 (OO3.out h).1 (own_type_ne (OO3.out h).1 hp (by decide)) _ _ _ _, own_far4 (OO3.out h).2 (own_type_ne (OO3.out h).2 hp (by decide)) _ _ _ _⟩)
         clear p0 p1 p2 p3 f0 f1 f2 f3 hp
         have HV4 := Hd hV4
         have K4 := Hd k4
         obtain ⟨p0, p1, p2, p3⟩ := row4 hp4
         have HP4 := Hd hp4
         clear hV4 k4 hp4 CA CB TY OA OB OK3 OO3 kkwd kkwe kkwf
         rw [← HV4.out]
         clear HV4
         go_wp2_with fail
         refine (EM.out _ _ _ LO4.out K4.out).mono ?_
         rintro e w8 ⟨rfl, k8⟩
         have K8 := Hd (K4.out.trans k8)
         have k80 := Hd k8
         clear p0 p1 p2 p3
         obtain ⟨p0, p1, p2, p3⟩ := row4 (heap_block k8 HP4.out)
         clear k8
         cases em with
         | true =>
          have HMN := Hd (show mm.map Prod.fst = M0 ++ (Kb.take (j + 1)).flatMap (partF s e') by rw [HM.out, PN, PFH.out, if_pos rfl, List.append_nil])
          clear mml PN
          go_wp2
          go_roundw
          case rel => exact ⟨j + 1, mm, by omega, by go_num, HMN, Hd (OV3.out.kp K8.out), Hd (own_kp OW3.out K8.out), NE, Hd (heap_block K8.out FB3.out), Hd (own_kp OS3.out K8.out), Hd (own_kp OE3.out K8.out), Hd (J3.out.trans K8.out)⟩
          case measure => simp [intOf]; omega
         | false =>
          have HMN := Hd (show (mm ++ [((⟨sp3, u3', a3, b3'⟩ : LF), ((.slice aT a3.length cT, .slice aU b3'.length cU) : VV))]).map Prod.fst = M0 ++ (Kb.take (j + 1)).flatMap (partF s e') by rw [List.map_append, HM.out, PN, PFH.out, if_neg (by decide), List.append_assoc]; rfl)
          have o4 := OO4.out (SPH.out rfl)
          have O4 := Hd o4
          clear PN o4
          go_wp2_with (at_builtin; refine wpList_app rfl (.tmp 79) (.tmp 81) 22 rfl W0.heap.size 44 h0 (.agg #[.bool false, .int .i64 0, .slice none 0 0, .slice none 0 0]) 4 64 Tryz.underlying22 hi hz0 hz1 hz2 rfl (by decide) _ mm.length (cellsV mm) rfl (own_kp OW3.out (K8.out.trans (Kp.alloc _ _))) _ 1 (cellsV [((⟨sp3, u3', a3, b3'⟩ : LF), ((.slice aT a3.length cT, .slice aU b3'.length cU) : VV))]) rfl (own_srcV (own_leaf _ ⟨sp3, u3', a3, b3'⟩ (.slice aT a3.length cT) (.slice aU b3'.length cU))) (by rfl) (by intro u hu; simp [cellsV] at hu; rcases hu with rfl | rfl | rfl | rfl <;> rfl) (by unfold maxLen; omega) (by omega) (Below.size (J3.out.trans (K8.out.trans (Kp.alloc _ _)))) ?_; intro v9 w9 hown hgrow hat; have G9 := Hd (Kp.grown (J3.out.trans (K8.out.trans (Kp.alloc _ _))) hgrow (fun j hj => (OW3.out.lt j hj).1)); have OV9 := Hd (((((OV3.out.kp K8.out).append (show OwnV w8 W0.heap.size [((⟨sp3, u3', a3, b3'⟩ : LF), ((.slice aT a3.length cT, .slice aU b3'.length cU) : VV))] from fun p hp => by rw [List.mem_singleton.1 hp]; exact ⟨own_kp O4.out.1 k80.out, own_kp O4.out.2 k80.out⟩)).kp (Kp.alloc _ _)).grown hgrow (own_kp OW3.out (K8.out.trans (Kp.alloc _ _))))); have OW9 := Hd (show w9.ownsRow W0.heap.size 44 4 v9 (mm ++ [((⟨sp3, u3', a3, b3'⟩ : LF), ((.slice aT a3.length cT, .slice aU b3'.length cU) : VV))]).length (cellsV (mm ++ [((⟨sp3, u3', a3, b3'⟩ : LF), ((.slice aT a3.length cT, .slice aU b3'.length cU) : VV))])) from (by rw [cellsV_append, List.length_append]; exact hown)); have NE9 := Hd (ne_next hat NE.out (Nat.lt_of_lt_of_le ltF (Below.size (K8.out.trans (Kp.alloc _ _))))); have FB9 := Hd (grown_at hgrow (heap_block (K8.out.trans (Kp.alloc _ _)) FB3.out) NE.out); have OS9 := Hd (own_apart (own_kp OS3.out (K8.out.trans (Kp.alloc _ _))) hgrow (own_types OW3.out OS3.out (by decide))); have OE9 := Hd (own_apart (own_kp OE3.out (K8.out.trans (Kp.alloc _ _))) hgrow (own_types OW3.out OE3.out (by decide))); clear hown hgrow hat)
          go_roundw
          case rel => exact ⟨j + 1, mm ++ [((⟨sp3, u3', a3, b3'⟩ : LF), ((.slice aT a3.length cT, .slice aU b3'.length cU) : VV))], by omega, by go_num, HMN, OV9, OW9, NE9, FB9, OS9, OE9, G9⟩
          case measure => simp [intOf]; omega
       ·go_simp
        skip
        (try go_wp2_with fail)
        refine hK.out _ _ ?_ (fun hHeld2 => ?_)
        ·(try dsimp only); exact KSr.out _ (ky kkwd)
        clear hK K hHeld1
        (try simp only [Act.put, nwnE16, xA, xB, xC])
        refine tkE 13 nwnE13 rfl (by kernel_rfl) (fun K hK => ?_)
        go_simp
        (refine (CB.out _ (ky kkwd)).mono ?_; rintro e we ⟨v2, rfl, o2, kq1⟩; have kkwe : Kp V3 we := Kp.trans (show Kp V3 _ from (ky kkwd)) kq1; have hp : we.heap[wd.heap.size]? = some (.cells #[.bool false, .int .i64 0, .slice none 0 0, .slice none 0 0] 44 (0, 0)) := heap_block kq1 (by (repeat (first | with_reducible exact heap_at _ _ _ (by first | rfl | simp) | with_reducible refine heap_block (Kp.drew _) ?_ | with_reducible refine heap_block (Kp.alloc _ _) ?_))); obtain ⟨aB, lB, rfl⟩ := own_slice o2; have OB := Hd o2; clear o2; have OA := Hd (own_kp OA.out (Kp.trans (show Kp wd _ from (ky (Kp.refl wd))) kq1)); clear kq1)
        (try go_wp2_with fail)
        refine hK.out _ _ ?_ (fun hHeld3 => ?_)
        ·(try dsimp only); exact KSr.out _ (ky kkwe)
        clear hK K hHeld2
        (try simp only [Act.put, nwnE13, xA, xB, xC])
        refine tkv 14 nwnE14 ?_
        (try simp only [Act.put, nwnE14, xA, xB, xC])
        refine tkE 15 nwnE15 rfl (by kernel_rfl) (fun K hK => ?_)
        go_simp
        (refine (TY.out _ _ _ (ky kkwe) ((OwnR.runs OA.out).kp (ky (Kp.refl we))) ((OwnR.runs OB.out).kp (ky (Kp.refl we)))).mono ?_; rintro e wf ⟨va3, vb3, rfl, ok3, kq1⟩; have kkwf : Kp V3 wf := Kp.trans (show Kp V3 _ from (ky kkwe)) kq1; have hp : wf.heap[wd.heap.size]? = some (.cells #[.bool false, .int .i64 0, .slice none 0 0, .slice none 0 0] 44 (0, 0)) := heap_block (Kp.trans (show Kp we _ from (ky (Kp.refl we))) kq1) hp; obtain ⟨ok3, oo3⟩ := ok3; obtain ⟨aT, cT, rfl⟩ := ok3.a.slice; obtain ⟨aU, cU, rfl⟩ := ok3.b.slice; have OK3 := Hd ok3; have OO3 := Hd (fun (h : sp3 = true) => show OwnR wf W0.heap.size (.slice aT a3.length cT) a3 ∧ OwnR wf W0.heap.size (.slice aU b3'.length cU) b3' from ⟨own_mono (oo3 h).1 (Below.size (J3.out.trans (show Kp V3 _ from (ky kkwe)))), own_mono (oo3 h).2 (Below.size (J3.out.trans (show Kp V3 _ from (ky kkwe))))⟩); clear ok3 oo3; obtain ⟨p0, p1, p2, p3⟩ := row4 hp; have f0 : wf.frozen? ⟨wd.heap.size, 0, none⟩ = false := (by simp [World.frozen?, hp]); have f1 : wf.frozen? ⟨wd.heap.size, 1, none⟩ = false := (by simp [World.frozen?, hp]); have f2 : wf.frozen? ⟨wd.heap.size, 2, none⟩ = false := (by simp [World.frozen?, hp]); have f3 : wf.frozen? ⟨wd.heap.size, 3, none⟩ = false := (by simp [World.frozen?, hp]); have hBle : V3.heap.size ≤ wd.heap.size := Below.size (show Kp V3 wd from kkwd); clear kq1)
        (try go_wp2_with fail)
        refine hK.out _ _ ?_ (fun hHeld4 => ?_)
        ·(try dsimp only); exact KSr.out _ (ky kkwf)
        clear hK K hHeld3
        (try simp only [Act.put, nwnE15, xA, xB, xC])
        refine tkE 17 nwnE17 rfl (by kernel_rfl) (fun K hK => ?_)
        go_simp
        skip
        (try go_wp2_with fail)
        refine hK.out _ _ ?_ (fun hHeld5 => ?_)
        ·(try dsimp only); exact KSr.out _ (by first | exact set4_below kkwf _ hBle _ _ _ _ | exact (set4_below kkwf _ hBle _ _ _ _).trans (Kp.drew _))
        clear hK K hHeld4
        (try simp only [Act.put, nwnE17, xA, xB, xC])
        refine wpAnyH_done (by kernel_rfl) ?_ _
        obtain ⟨V4, hV4⟩ : ∃ x, x = ((((wf.setCell ⟨wd.heap.size, 0, none⟩ (.bool sp3)).setCell ⟨wd.heap.size, 1, none⟩ (.int .i64 u3')).setCell ⟨wd.heap.size, 2, none⟩ (.slice aT a3.length cT)).setCell ⟨wd.heap.size, 3, none⟩ (.slice aU b3'.length cU)) := ⟨_, rfl⟩
        have k4 : Kp V3 V4 := by rw [hV4]; exact set4_below kkwf _ hBle _ _ _ _
        have hp4 : V4.heap[wd.heap.size]? = some (.cells #[.bool sp3, .int .i64 u3', .slice aT a3.length cT, .slice aU b3'.length cU] 44 (0, 0)) := by rw [hV4]; exact set4_heap hp _ _ _ _
        have LO4 := Hd (show LeafOk V4 ⟨sp3, u3', a3, b3'⟩ (.slice aT a3.length cT) (.slice aU b3'.length cU) from ⟨by rw [hV4]; exact OK3.out.a.off hp (fun k o h => set4_cell _ _ _ _ _ _ k o h), by rw [hV4]; exact OK3.out.b.off hp (fun k o h => set4_cell _ _ _ _ _ _ k o h), OK3.out.ia, OK3.out.ib, OK3.out.na, OK3.out.nb⟩)
        have OO4 := Hd (fun (h : sp3 = true) => show OwnR V4 W0.heap.size (.slice aT a3.length cT) a3 ∧ OwnR V4 W0.heap.size (.slice aU b3'.length cU) b3' from by rw [hV4]; exact ⟨own_far4 (OO3.out h).1 (own_type_ne (OO3.out h).1 hp (by decide)) _ _ _ _, own_far4 (OO3.out h).2 (own_type_ne (OO3.out h).2 hp (by decide)) _ _ _ _⟩)
        clear p0 p1 p2 p3 f0 f1 f2 f3 hp
        have HV4 := Hd hV4
        have K4 := Hd k4
        obtain ⟨p0, p1, p2, p3⟩ := row4 hp4
        have HP4 := Hd hp4
        clear hV4 k4 hp4 CA CB TY OA OB OK3 OO3 kkwd kkwe kkwf
        rw [← HV4.out]
        clear HV4
        go_wp2_with fail
        refine (EM.out _ _ _ LO4.out K4.out).mono ?_
        rintro e w8 ⟨rfl, k8⟩
        have K8 := Hd (K4.out.trans k8)
        have k80 := Hd k8
        clear p0 p1 p2 p3
        obtain ⟨p0, p1, p2, p3⟩ := row4 (heap_block k8 HP4.out)
        clear k8
        cases em with
        | true =>
         have HMN := Hd (show mm.map Prod.fst = M0 ++ (Kb.take (j + 1)).flatMap (partF s e') by rw [HM.out, PN, PFH.out, if_pos rfl, List.append_nil])
         clear mml PN
         go_wp2
         go_roundw
         case rel => exact ⟨j + 1, mm, by omega, by go_num, HMN, Hd (OV3.out.kp K8.out), Hd (own_kp OW3.out K8.out), NE, Hd (heap_block K8.out FB3.out), Hd (own_kp OS3.out K8.out), Hd (own_kp OE3.out K8.out), Hd (J3.out.trans K8.out)⟩
         case measure => simp [intOf]; omega
        | false =>
         have HMN := Hd (show (mm ++ [((⟨sp3, u3', a3, b3'⟩ : LF), ((.slice aT a3.length cT, .slice aU b3'.length cU) : VV))]).map Prod.fst = M0 ++ (Kb.take (j + 1)).flatMap (partF s e') by rw [List.map_append, HM.out, PN, PFH.out, if_neg (by decide), List.append_assoc]; rfl)
         have o4 := OO4.out (SPH.out rfl)
         have O4 := Hd o4
         clear PN o4
         go_wp2_with (at_builtin; refine wpList_app rfl (.tmp 79) (.tmp 81) 22 rfl W0.heap.size 44 h0 (.agg #[.bool false, .int .i64 0, .slice none 0 0, .slice none 0 0]) 4 64 Tryz.underlying22 hi hz0 hz1 hz2 rfl (by decide) _ mm.length (cellsV mm) rfl (own_kp OW3.out (K8.out.trans (Kp.alloc _ _))) _ 1 (cellsV [((⟨sp3, u3', a3, b3'⟩ : LF), ((.slice aT a3.length cT, .slice aU b3'.length cU) : VV))]) rfl (own_srcV (own_leaf _ ⟨sp3, u3', a3, b3'⟩ (.slice aT a3.length cT) (.slice aU b3'.length cU))) (by rfl) (by intro u hu; simp [cellsV] at hu; rcases hu with rfl | rfl | rfl | rfl <;> rfl) (by unfold maxLen; omega) (by omega) (Below.size (J3.out.trans (K8.out.trans (Kp.alloc _ _)))) ?_; intro v9 w9 hown hgrow hat; have G9 := Hd (Kp.grown (J3.out.trans (K8.out.trans (Kp.alloc _ _))) hgrow (fun j hj => (OW3.out.lt j hj).1)); have OV9 := Hd (((((OV3.out.kp K8.out).append (show OwnV w8 W0.heap.size [((⟨sp3, u3', a3, b3'⟩ : LF), ((.slice aT a3.length cT, .slice aU b3'.length cU) : VV))] from fun p hp => by rw [List.mem_singleton.1 hp]; exact ⟨own_kp O4.out.1 k80.out, own_kp O4.out.2 k80.out⟩)).kp (Kp.alloc _ _)).grown hgrow (own_kp OW3.out (K8.out.trans (Kp.alloc _ _))))); have OW9 := Hd (show w9.ownsRow W0.heap.size 44 4 v9 (mm ++ [((⟨sp3, u3', a3, b3'⟩ : LF), ((.slice aT a3.length cT, .slice aU b3'.length cU) : VV))]).length (cellsV (mm ++ [((⟨sp3, u3', a3, b3'⟩ : LF), ((.slice aT a3.length cT, .slice aU b3'.length cU) : VV))])) from (by rw [cellsV_append, List.length_append]; exact hown)); have NE9 := Hd (ne_next hat NE.out (Nat.lt_of_lt_of_le ltF (Below.size (K8.out.trans (Kp.alloc _ _))))); have FB9 := Hd (grown_at hgrow (heap_block (K8.out.trans (Kp.alloc _ _)) FB3.out) NE.out); have OS9 := Hd (own_apart (own_kp OS3.out (K8.out.trans (Kp.alloc _ _))) hgrow (own_types OW3.out OS3.out (by decide))); have OE9 := Hd (own_apart (own_kp OE3.out (K8.out.trans (Kp.alloc _ _))) hgrow (own_types OW3.out OE3.out (by decide))); clear hown hgrow hat)
         go_roundw
         case rel => exact ⟨j + 1, mm ++ [((⟨sp3, u3', a3, b3'⟩ : LF), ((.slice aT a3.length cT, .slice aU b3'.length cU) : VV))], by omega, by go_num, HMN, OV9, OW9, NE9, FB9, OS9, OE9, G9⟩
         case measure => simp [intOf]; omega
      ·go_simp
       skip
       (try go_wp2_with fail)
       refine hK.out _ _ ?_ (fun hHeld1 => ?_)
       ·(try dsimp only); exact KSr.out _ (ky kkwc)
       clear hK K hHeld0
       (try simp only [Act.put, nwnE16, xA, xB, xC])
       refine tkE 6 nwnE6 rfl (by kernel_rfl) (fun K hK => ?_)
       go_simp
       (refine (CA.out _ (ky kkwc)).mono ?_; rintro e wd ⟨v1, rfl, o1, kq1⟩; have kkwd : Kp V3 wd := Kp.trans (show Kp V3 _ from (ky kkwc)) kq1; have hp : wd.heap[wc.heap.size]? = some (.cells #[.bool false, .int .i64 0, .slice none 0 0, .slice none 0 0] 44 (0, 0)) := heap_block kq1 (by (repeat (first | with_reducible exact heap_at _ _ _ (by first | rfl | simp) | with_reducible refine heap_block (Kp.drew _) ?_ | with_reducible refine heap_block (Kp.alloc _ _) ?_))); obtain ⟨aA, lA, rfl⟩ := own_slice o1; have OA := Hd o1; clear o1; clear kq1)
       (try go_wp2_with fail)
       refine hK.out _ _ ?_ (fun hHeld2 => ?_)
       ·(try dsimp only); exact KSr.out _ (ky kkwd)
       clear hK K hHeld1
       (try simp only [Act.put, nwnE6, xA, xB, xC])
       refine tkE 13 nwnE13 rfl (by kernel_rfl) (fun K hK => ?_)
       go_simp
       (refine (CB.out _ (ky kkwd)).mono ?_; rintro e we ⟨v2, rfl, o2, kq1⟩; have kkwe : Kp V3 we := Kp.trans (show Kp V3 _ from (ky kkwd)) kq1; have hp : we.heap[wc.heap.size]? = some (.cells #[.bool false, .int .i64 0, .slice none 0 0, .slice none 0 0] 44 (0, 0)) := heap_block (Kp.trans (show Kp wd _ from (ky (Kp.refl wd))) kq1) hp; obtain ⟨aB, lB, rfl⟩ := own_slice o2; have OB := Hd o2; clear o2; have OA := Hd (own_kp OA.out (Kp.trans (show Kp wd _ from (ky (Kp.refl wd))) kq1)); clear kq1)
       (try go_wp2_with fail)
       refine hK.out _ _ ?_ (fun hHeld3 => ?_)
       ·(try dsimp only); exact KSr.out _ (ky kkwe)
       clear hK K hHeld2
       (try simp only [Act.put, nwnE13, xA, xB, xC])
       refine tkv 14 nwnE14 ?_
       (try simp only [Act.put, nwnE14, xA, xB, xC])
       refine tkE 15 nwnE15 rfl (by kernel_rfl) (fun K hK => ?_)
       go_simp
       (refine (TY.out _ _ _ (ky kkwe) ((OwnR.runs OA.out).kp (ky (Kp.refl we))) ((OwnR.runs OB.out).kp (ky (Kp.refl we)))).mono ?_; rintro e wf ⟨va3, vb3, rfl, ok3, kq1⟩; have kkwf : Kp V3 wf := Kp.trans (show Kp V3 _ from (ky kkwe)) kq1; have hp : wf.heap[wc.heap.size]? = some (.cells #[.bool false, .int .i64 0, .slice none 0 0, .slice none 0 0] 44 (0, 0)) := heap_block (Kp.trans (show Kp we _ from (ky (Kp.refl we))) kq1) hp; obtain ⟨ok3, oo3⟩ := ok3; obtain ⟨aT, cT, rfl⟩ := ok3.a.slice; obtain ⟨aU, cU, rfl⟩ := ok3.b.slice; have OK3 := Hd ok3; have OO3 := Hd (fun (h : sp3 = true) => show OwnR wf W0.heap.size (.slice aT a3.length cT) a3 ∧ OwnR wf W0.heap.size (.slice aU b3'.length cU) b3' from ⟨own_mono (oo3 h).1 (Below.size (J3.out.trans (show Kp V3 _ from (ky kkwe)))), own_mono (oo3 h).2 (Below.size (J3.out.trans (show Kp V3 _ from (ky kkwe))))⟩); clear ok3 oo3; obtain ⟨p0, p1, p2, p3⟩ := row4 hp; have f0 : wf.frozen? ⟨wc.heap.size, 0, none⟩ = false := (by simp [World.frozen?, hp]); have f1 : wf.frozen? ⟨wc.heap.size, 1, none⟩ = false := (by simp [World.frozen?, hp]); have f2 : wf.frozen? ⟨wc.heap.size, 2, none⟩ = false := (by simp [World.frozen?, hp]); have f3 : wf.frozen? ⟨wc.heap.size, 3, none⟩ = false := (by simp [World.frozen?, hp]); have hBle : V3.heap.size ≤ wc.heap.size := Below.size (show Kp V3 wc from kkwc); clear kq1)
       (try go_wp2_with fail)
       refine hK.out _ _ ?_ (fun hHeld4 => ?_)
       ·(try dsimp only); exact KSr.out _ (ky kkwf)
       clear hK K hHeld3
       (try simp only [Act.put, nwnE15, xA, xB, xC])
       refine tkE 17 nwnE17 rfl (by kernel_rfl) (fun K hK => ?_)
       go_simp
       skip
       (try go_wp2_with fail)
       refine hK.out _ _ ?_ (fun hHeld5 => ?_)
       ·(try dsimp only); exact KSr.out _ (by first | exact set4_below kkwf _ hBle _ _ _ _ | exact (set4_below kkwf _ hBle _ _ _ _).trans (Kp.drew _))
       clear hK K hHeld4
       (try simp only [Act.put, nwnE17, xA, xB, xC])
       refine wpAnyH_done (by kernel_rfl) ?_ _
       obtain ⟨V4, hV4⟩ : ∃ x, x = ((((wf.setCell ⟨wc.heap.size, 0, none⟩ (.bool sp3)).setCell ⟨wc.heap.size, 1, none⟩ (.int .i64 u3')).setCell ⟨wc.heap.size, 2, none⟩ (.slice aT a3.length cT)).setCell ⟨wc.heap.size, 3, none⟩ (.slice aU b3'.length cU)) := ⟨_, rfl⟩
       have k4 : Kp V3 V4 := by rw [hV4]; exact set4_below kkwf _ hBle _ _ _ _
       have hp4 : V4.heap[wc.heap.size]? = some (.cells #[.bool sp3, .int .i64 u3', .slice aT a3.length cT, .slice aU b3'.length cU] 44 (0, 0)) := by rw [hV4]; exact set4_heap hp _ _ _ _
       have LO4 := Hd (show LeafOk V4 ⟨sp3, u3', a3, b3'⟩ (.slice aT a3.length cT) (.slice aU b3'.length cU) from ⟨by rw [hV4]; exact OK3.out.a.off hp (fun k o h => set4_cell _ _ _ _ _ _ k o h), by rw [hV4]; exact OK3.out.b.off hp (fun k o h => set4_cell _ _ _ _ _ _ k o h), OK3.out.ia, OK3.out.ib, OK3.out.na, OK3.out.nb⟩)
       have OO4 := Hd (fun (h : sp3 = true) => show OwnR V4 W0.heap.size (.slice aT a3.length cT) a3 ∧ OwnR V4 W0.heap.size (.slice aU b3'.length cU) b3' from by rw [hV4]; exact ⟨own_far4 (OO3.out h).1 (own_type_ne (OO3.out h).1 hp (by decide)) _ _ _ _, own_far4 (OO3.out h).2 (own_type_ne (OO3.out h).2 hp (by decide)) _ _ _ _⟩)
       clear p0 p1 p2 p3 f0 f1 f2 f3 hp
       have HV4 := Hd hV4
       have K4 := Hd k4
       obtain ⟨p0, p1, p2, p3⟩ := row4 hp4
       have HP4 := Hd hp4
       clear hV4 k4 hp4 CA CB TY OA OB OK3 OO3 kkwd kkwe kkwf
       rw [← HV4.out]
       clear HV4
       go_wp2_with fail
       refine (EM.out _ _ _ LO4.out K4.out).mono ?_
       rintro e w8 ⟨rfl, k8⟩
       have K8 := Hd (K4.out.trans k8)
       have k80 := Hd k8
       clear p0 p1 p2 p3
       obtain ⟨p0, p1, p2, p3⟩ := row4 (heap_block k8 HP4.out)
       clear k8
       cases em with
       | true =>
        have HMN := Hd (show mm.map Prod.fst = M0 ++ (Kb.take (j + 1)).flatMap (partF s e') by rw [HM.out, PN, PFH.out, if_pos rfl, List.append_nil])
        clear mml PN
        go_wp2
        go_roundw
        case rel => exact ⟨j + 1, mm, by omega, by go_num, HMN, Hd (OV3.out.kp K8.out), Hd (own_kp OW3.out K8.out), NE, Hd (heap_block K8.out FB3.out), Hd (own_kp OS3.out K8.out), Hd (own_kp OE3.out K8.out), Hd (J3.out.trans K8.out)⟩
        case measure => simp [intOf]; omega
       | false =>
        have HMN := Hd (show (mm ++ [((⟨sp3, u3', a3, b3'⟩ : LF), ((.slice aT a3.length cT, .slice aU b3'.length cU) : VV))]).map Prod.fst = M0 ++ (Kb.take (j + 1)).flatMap (partF s e') by rw [List.map_append, HM.out, PN, PFH.out, if_neg (by decide), List.append_assoc]; rfl)
        have o4 := OO4.out (SPH.out rfl)
        have O4 := Hd o4
        clear PN o4
        go_wp2_with (at_builtin; refine wpList_app rfl (.tmp 79) (.tmp 81) 22 rfl W0.heap.size 44 h0 (.agg #[.bool false, .int .i64 0, .slice none 0 0, .slice none 0 0]) 4 64 Tryz.underlying22 hi hz0 hz1 hz2 rfl (by decide) _ mm.length (cellsV mm) rfl (own_kp OW3.out (K8.out.trans (Kp.alloc _ _))) _ 1 (cellsV [((⟨sp3, u3', a3, b3'⟩ : LF), ((.slice aT a3.length cT, .slice aU b3'.length cU) : VV))]) rfl (own_srcV (own_leaf _ ⟨sp3, u3', a3, b3'⟩ (.slice aT a3.length cT) (.slice aU b3'.length cU))) (by rfl) (by intro u hu; simp [cellsV] at hu; rcases hu with rfl | rfl | rfl | rfl <;> rfl) (by unfold maxLen; omega) (by omega) (Below.size (J3.out.trans (K8.out.trans (Kp.alloc _ _)))) ?_; intro v9 w9 hown hgrow hat; have G9 := Hd (Kp.grown (J3.out.trans (K8.out.trans (Kp.alloc _ _))) hgrow (fun j hj => (OW3.out.lt j hj).1)); have OV9 := Hd (((((OV3.out.kp K8.out).append (show OwnV w8 W0.heap.size [((⟨sp3, u3', a3, b3'⟩ : LF), ((.slice aT a3.length cT, .slice aU b3'.length cU) : VV))] from fun p hp => by rw [List.mem_singleton.1 hp]; exact ⟨own_kp O4.out.1 k80.out, own_kp O4.out.2 k80.out⟩)).kp (Kp.alloc _ _)).grown hgrow (own_kp OW3.out (K8.out.trans (Kp.alloc _ _))))); have OW9 := Hd (show w9.ownsRow W0.heap.size 44 4 v9 (mm ++ [((⟨sp3, u3', a3, b3'⟩ : LF), ((.slice aT a3.length cT, .slice aU b3'.length cU) : VV))]).length (cellsV (mm ++ [((⟨sp3, u3', a3, b3'⟩ : LF), ((.slice aT a3.length cT, .slice aU b3'.length cU) : VV))])) from (by rw [cellsV_append, List.length_append]; exact hown)); have NE9 := Hd (ne_next hat NE.out (Nat.lt_of_lt_of_le ltF (Below.size (K8.out.trans (Kp.alloc _ _))))); have FB9 := Hd (grown_at hgrow (heap_block (K8.out.trans (Kp.alloc _ _)) FB3.out) NE.out); have OS9 := Hd (own_apart (own_kp OS3.out (K8.out.trans (Kp.alloc _ _))) hgrow (own_types OW3.out OS3.out (by decide))); have OE9 := Hd (own_apart (own_kp OE3.out (K8.out.trans (Kp.alloc _ _))) hgrow (own_types OW3.out OE3.out (by decide))); clear hown hgrow hat)
        go_roundw
        case rel => exact ⟨j + 1, mm ++ [((⟨sp3, u3', a3, b3'⟩ : LF), ((.slice aT a3.length cT, .slice aU b3'.length cU) : VV))], by omega, by go_num, HMN, OV9, OW9, NE9, FB9, OS9, OE9, G9⟩
        case measure => simp [intOf]; omega
     ·have q4 : decide ((j : Int) < (Kb.length : Int)) = false := dF
      have q5 : decide (j < Kb.length) = false := dF
      obtain rfl : j = Kb.length := by omega
      have EQ := Hd (show mm.map Prod.fst = leftL Kb D (l.take (k + 1)) by rw [HM.out, LN2.out, List.take_length])
      have Q2 := Hd q2
      clear q2 q3 mml
      go_wp2
      go_roundw
      case rel => exact ⟨k + 1, mm, by omega, by go_num, EQ, OV, OW, J2⟩
      case measure => simp [intOf]; omega
  ·have q2 : decide ((k : Int) < (l.length : Int)) = false := dF
   have q3 : decide (k < l.length) = false := dF
   obtain rfl : k = l.length := by omega
   have EQ := Hd (show m.map Prod.fst = leftL Kb D l by rw [HM.out, List.take_length])
   go_wp2
   (try rw [Exit.noGoto_ret])
   go_ret
   exact ⟨_, m, rfl, EQ.out, OV.out.mono (Below.size K0.out), own_mono OW.out (Below.size K0.out), K0.out.trans J.out⟩
end Go.Proofs.YtcooaoponkkpeaaGreatDoor
