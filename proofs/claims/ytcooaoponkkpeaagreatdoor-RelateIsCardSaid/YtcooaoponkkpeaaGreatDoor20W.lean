import Derived.Test.YtcooaoponkkpeaaGreatDoorJPa
set_option maxHeartbeats 16000000
set_option maxRecDepth 100000
namespace Go.Proofs.YtcooaoponkkpeaaGreatDoor
open Go.RowKit Go.Shelf
set_option linter.unusedVariables false
set_option linter.unusedSimpArgs false
theorem infoPart : (Tryz.prog.info? 57).map (fun i => (i.zero, i.size, i.bytes)) = some (some (.agg #[.bool false, .slice none 0 0, .slice none 0 0]), 3, 56) := by kernel_rfl
def upN (u : Int) (a : List R) (i t : Nat) : List PD := (nums (a.take i) ++ upF (at_ a i).1 t).map (unP u)
theorem up_zero (u : Int) (a : List R) : upN u a 0 0 = [] := rfl
theorem up_next (u : Int) (a : List R) (i t : Nat) : upN u a i (t + 1) = upN u a i t ++ [unP u ((at_ a i).1 + (t : Int))] := by
 have e : upF (at_ a i).1 (t + 1) = upF (at_ a i).1 t ++ [(at_ a i).1 + (t : Int)] := by
  unfold upF
  rw [List.range_succ, List.map_append]
  rfl
 unfold upN
 rw [e, ← List.append_assoc, List.map_append]
 rfl
theorem up_row (u : Int) (a : List R) {i t : Nat} (h : i < a.length) (e : t = ((at_ a i).2 - (at_ a i).1 + 1).toNat) : upN u a i t = upN u a (i + 1) 0 := by
 have h1 := nums_take a i h
 unfold upN
 rw [h1, e]
 rw [show upF (at_ a (i + 1)).1 0 = [] from rfl, List.append_nil]
 rfl
theorem up_all (u : Int) (a : List R) : upN u a a.length 0 = (nums a).map (unP u) := by
 unfold upN
 rw [List.take_length, show upF (at_ a a.length).1 0 = [] from rfl, List.append_nil]
theorem nums_pre20 (a : List R) (n : Nat) : (nums (a.take n)).length ≤ (nums a).length := by
 have e : nums a = nums (a.take n) ++ nums (a.drop n) := by
  unfold nums
  rw [← List.flatMap_append, List.take_append_drop]
 rw [e, List.length_append]
 omega
theorem up_len (u : Int) (a : List R) {i t : Nat} (h : i < a.length) (ht : t ≤ ((at_ a i).2 - (at_ a i).1 + 1).toNat) : (upN u a i t).length ≤ (nums a).length := by
 have h1 := nums_take a i h
 have h2 := nums_pre20 a (i + 1)
 unfold upN
 rw [List.length_map, List.length_append, upF_len]
 rw [h1, List.length_append] at h2
 have h4 : (runF (at_ a i)).length = ((at_ a i).2 - (at_ a i).1 + 1).toNat := upF_len _ _
 omega
theorem pt_0 {s : List R} {k : Int} (h : s.length = 0) : prT ⟨false, k, s, []⟩ = [] := if_pos h
theorem pt_d {s : List R} (h : ¬ s.length = 0) : prT ⟨false, 0, s, []⟩ = [⟨true, s, s⟩] := by
 unfold prT
 simp only
 rw [if_neg h, if_neg (by simp), if_pos (by first | rfl | trivial)]
theorem pt_u {s : List R} {k : Int} (h : ¬ s.length = 0) (k0 : k ≠ 0) : prT ⟨false, k, s, []⟩ = (nums s).map (unP k) := by
 unfold prT
 simp only
 rw [if_neg h, if_neg (by simp), if_neg k0]
theorem pt_s {s e : List R} (h : 0 < s.length) : prT ⟨true, 0, s, e⟩ = [⟨false, s, e⟩] := by
 unfold prT
 simp only
 rw [if_neg (by omega), if_pos (by first | rfl | trivial)]
theorem cnt_top20 (u : Int) : cnt u ≤ 3652425 := by
 unfold cnt
 repeat' split
 all_goals omega
theorem span_sane20 {L : List R} (h : sane L) {r : R} (hr : r ∈ L) {n : Int} (h1 : r.1 ≤ n) (h2 : n ≤ r.2) : memR L n := by
 have := sane_ok h r hr
 exact ⟨r, hr, h1, h2, by have := this.2.1; omega, by have := this.2.2; omega⟩
theorem tidy_cases20 (f : LF) : (∃ k s, lfOf (famR f) = ⟨false, k, s, []⟩ ∧ setB k s = true) ∨ (∃ s e, lfOf (famR f) = ⟨true, 0, s, e⟩ ∧ 0 < s.length) := by
 have ok := famR_ok f
 revert ok
 generalize famR f = F
 intro ok
 by_cases h0 : emptyF F = true
 ·rw [lfOf_none h0]; exact .inl ⟨0, [], rfl, setB_nil 0⟩
 ·cases F with
  | units k s =>
   rw [lfOf_u1 (by rw [emptyF_u] at h0; simpa using h0)]
   exact .inl ⟨k, s, rfl, ok⟩
  | span s e =>
   have h1 : ¬ s.length = 0 := by rw [emptyF_s] at h0; simpa using h0
   rw [lfOf_s1 h1]
   exact .inr ⟨s, e, rfl, by omega⟩
theorem rparts_0 (f : LF) (vfa vfb : Value) (w0 w : World) (hf : LeafOk w0 f vfa vfb) (k0 : Kp w0 w) {k : Int} {s : List R} (hlf : lfOf (famR f) = ⟨false, k, s, []⟩) (h0 : s.length = 0) :
  Calls Tryz.prog 63 #[leafV f vfa vfb] w fun e w' => ∃ v' x, e = .returned v' ∧ x.map Prod.fst = ptL f ∧ ReadsP w0 w' x ∧ w'.ownsRow w.heap.size 57 3 v' x.length (cellsP x) ∧ Kp w w' := by
 have C := Hd (fun w1 (kk : Kp w w1) => refTidyP_any f vfa vfb w0 w1 hf (k0.trans kk))
 have DF : ptL f = prT (lfOf (famR f)) := rfl
 rw [hlf] at C DF
 have K0 := Hd k0
 have hfw := hf.kp k0
 generalize ptL f = DX at *
 obtain ⟨sf, uf, af, bf⟩ := f
 obtain ⟨aaf, caf, rfl⟩ := hfw.a.slice
 obtain ⟨abf, cbf, rfl⟩ := hfw.b.slice
 simp only [leafV] at C ⊢
 rw [pt_0 h0] at DF
 have q0 : ((s.length : Int) == 0) = true := by rw [h0]; rfl
 clear h0
 have DF := Hd DF
 clear hf hfw hlf k0
 obtain ⟨V3, hVb⟩ : ∃ x, x = w.alloc (.cells #[.bool sf, .int .i64 uf, .slice aaf af.length caf, .slice abf bf.length cbf] 44) := ⟨_, rfl⟩
 have kab : Kp w V3 := by rw [hVb]; exact Kp.alloc _ _
 have gqb0 : V3.heap[w.heap.size]? = some (.cells #[.bool sf, .int .i64 uf, .slice aaf af.length caf, .slice abf bf.length cbf] 44 (0, 0)) := by rw [hVb]; exact heap_at _ _ _ (by first | rfl | simp)
 have KSb := Hd (fun w' (kq : Kp V3 w') => show w'.cell? ⟨w.heap.size, 0, none⟩ = some (.bool sf) ∧ w'.cell? ⟨w.heap.size, 1, none⟩ = some (.int .i64 uf) ∧ w'.cell? ⟨w.heap.size, 2, none⟩ = some (.slice aaf af.length caf) ∧ w'.cell? ⟨w.heap.size, 3, none⟩ = some (.slice abf bf.length cbf) ∧ Kp V3 w' from ⟨(row4 (heap_block kq gqb0)).1, (row4 (heap_block kq gqb0)).2.1, (row4 (heap_block kq gqb0)).2.2.1, (row4 (heap_block kq gqb0)).2.2.2, kq⟩)
 have GQb0 := Hd gqb0
 have HVb := Hd hVb
 have KB := Hd kab
 clear hVb kab gqb0
 have kkV3 : Kp V3 V3 := Kp.refl _
 go_enter Tryz.func63, Tryz.ntmps63
 go_wp2_with fail
 rw [← HVb.out]
 refine (C.out _ KB.out).mono ?_
 rintro e w1 ⟨va9, vb9, rfl, ⟨okh, oa, ob⟩, kk0⟩
 obtain ⟨ax, cx, rfl⟩ := okh.a.slice
 obtain ⟨ay, cy, e2⟩ := okh.b.slice
 have e2 : vb9 = .slice ay 0 cy := e2
 subst e2
 have kk : Kp V3 w1 := kk0
 have kk3 : Kp V3 (w1.alloc (.cells #[.bool false, .int .i64 k, .slice ax s.length cx, .slice ay 0 cy] 44)) := kk.trans (Kp.alloc _ _)
 obtain ⟨V, hVc⟩ : ∃ x, x = w1.alloc (.cells #[.bool false, .int .i64 k, .slice ax s.length cx, .slice ay 0 cy] 44) := ⟨_, rfl⟩
 have kac : Kp w1 V := by rw [hVc]; exact Kp.alloc _ _
 have gqc0 : V.heap[w1.heap.size]? = some (.cells #[.bool false, .int .i64 k, .slice ax s.length cx, .slice ay 0 cy] 44 (0, 0)) := by rw [hVc]; exact heap_at _ _ _ (by first | rfl | simp)
 rw [← hVc] at kk3
 have KSc := Hd (fun w' (kq : Kp V w') => show w'.cell? ⟨w1.heap.size, 0, none⟩ = some (.bool false) ∧ w'.cell? ⟨w1.heap.size, 1, none⟩ = some (.int .i64 k) ∧ w'.cell? ⟨w1.heap.size, 2, none⟩ = some (.slice ax s.length cx) ∧ w'.cell? ⟨w1.heap.size, 3, none⟩ = some (.slice ay 0 cy) ∧ Kp V w' from ⟨(row4 (heap_block kq gqc0)).1, (row4 (heap_block kq gqc0)).2.1, (row4 (heap_block kq gqc0)).2.2.1, (row4 (heap_block kq gqc0)).2.2.2, kq⟩)
 have GQc0 := Hd gqc0
 have HVc := Hd hVc
 have KC := Hd kac
 clear hVc kac gqc0
 have kkV : Kp V V := Kp.refl _
 have KV := Hd (KB.out.trans kk3)
 have OKH := Hd (okh.kp KC.out)
 have OA := Hd (oa.kp KC.out)
 have OB := Hd (ob.kp KC.out)
 have ns := okh.na
 simp only at ns
 clear okh oa ob kk kk0 kk3 C KSb
 go_upto_region 2 with fail
 rw [← HVc.out]
 clear HVc
 obtain ⟨xc0, xc1, xc2, xc3, _⟩ := KSc.out _ kkV
 go_wp2
 go_ret
 exact ⟨_, [], rfl, DF.out.symm, fun p hp => (by cases hp), World.ownsRow_nil _ _ _ _, KV.out⟩
theorem rparts_d (f : LF) (vfa vfb : Value) (w0 w : World) (hf : LeafOk w0 f vfa vfb) (k0 : Kp w0 w) {s : List R} (hlf : lfOf (famR f) = ⟨false, 0, s, []⟩) (h0 : ¬ s.length = 0) :
  Calls Tryz.prog 63 #[leafV f vfa vfb] w fun e w' => ∃ v' x, e = .returned v' ∧ x.map Prod.fst = ptL f ∧ ReadsP w0 w' x ∧ w'.ownsRow w.heap.size 57 3 v' x.length (cellsP x) ∧ Kp w w' := by
 have C := Hd (fun w1 (kk : Kp w w1) => refTidyP_any f vfa vfb w0 w1 hf (k0.trans kk))
 have DF : ptL f = prT (lfOf (famR f)) := rfl
 rw [hlf] at C DF
 have K0 := Hd k0
 have hfw := hf.kp k0
 generalize ptL f = DX at *
 obtain ⟨sf, uf, af, bf⟩ := f
 obtain ⟨aaf, caf, rfl⟩ := hfw.a.slice
 obtain ⟨abf, cbf, rfl⟩ := hfw.b.slice
 simp only [leafV] at C ⊢
 rw [pt_d h0] at DF
 have q0 : ((s.length : Int) == 0) = false := beq_eq_false_iff_ne.2 (by omega)
 have DF := Hd DF
 clear hf hfw hlf k0
 obtain ⟨V3, hVb⟩ : ∃ x, x = w.alloc (.cells #[.bool sf, .int .i64 uf, .slice aaf af.length caf, .slice abf bf.length cbf] 44) := ⟨_, rfl⟩
 have kab : Kp w V3 := by rw [hVb]; exact Kp.alloc _ _
 have gqb0 : V3.heap[w.heap.size]? = some (.cells #[.bool sf, .int .i64 uf, .slice aaf af.length caf, .slice abf bf.length cbf] 44 (0, 0)) := by rw [hVb]; exact heap_at _ _ _ (by first | rfl | simp)
 have KSb := Hd (fun w' (kq : Kp V3 w') => show w'.cell? ⟨w.heap.size, 0, none⟩ = some (.bool sf) ∧ w'.cell? ⟨w.heap.size, 1, none⟩ = some (.int .i64 uf) ∧ w'.cell? ⟨w.heap.size, 2, none⟩ = some (.slice aaf af.length caf) ∧ w'.cell? ⟨w.heap.size, 3, none⟩ = some (.slice abf bf.length cbf) ∧ Kp V3 w' from ⟨(row4 (heap_block kq gqb0)).1, (row4 (heap_block kq gqb0)).2.1, (row4 (heap_block kq gqb0)).2.2.1, (row4 (heap_block kq gqb0)).2.2.2, kq⟩)
 have GQb0 := Hd gqb0
 have HVb := Hd hVb
 have KB := Hd kab
 clear hVb kab gqb0
 have kkV3 : Kp V3 V3 := Kp.refl _
 go_enter Tryz.func63, Tryz.ntmps63
 go_wp2_with fail
 rw [← HVb.out]
 refine (C.out _ KB.out).mono ?_
 rintro e w1 ⟨va9, vb9, rfl, ⟨okh, oa, ob⟩, kk0⟩
 obtain ⟨ax, cx, rfl⟩ := okh.a.slice
 obtain ⟨ay, cy, e2⟩ := okh.b.slice
 have e2 : vb9 = .slice ay 0 cy := e2
 subst e2
 have kk : Kp V3 w1 := kk0
 have kk3 : Kp V3 (w1.alloc (.cells #[.bool false, .int .i64 0, .slice ax s.length cx, .slice ay 0 cy] 44)) := kk.trans (Kp.alloc _ _)
 obtain ⟨V, hVc⟩ : ∃ x, x = w1.alloc (.cells #[.bool false, .int .i64 0, .slice ax s.length cx, .slice ay 0 cy] 44) := ⟨_, rfl⟩
 have kac : Kp w1 V := by rw [hVc]; exact Kp.alloc _ _
 have gqc0 : V.heap[w1.heap.size]? = some (.cells #[.bool false, .int .i64 0, .slice ax s.length cx, .slice ay 0 cy] 44 (0, 0)) := by rw [hVc]; exact heap_at _ _ _ (by first | rfl | simp)
 rw [← hVc] at kk3
 have KSc := Hd (fun w' (kq : Kp V w') => show w'.cell? ⟨w1.heap.size, 0, none⟩ = some (.bool false) ∧ w'.cell? ⟨w1.heap.size, 1, none⟩ = some (.int .i64 0) ∧ w'.cell? ⟨w1.heap.size, 2, none⟩ = some (.slice ax s.length cx) ∧ w'.cell? ⟨w1.heap.size, 3, none⟩ = some (.slice ay 0 cy) ∧ Kp V w' from ⟨(row4 (heap_block kq gqc0)).1, (row4 (heap_block kq gqc0)).2.1, (row4 (heap_block kq gqc0)).2.2.1, (row4 (heap_block kq gqc0)).2.2.2, kq⟩)
 have GQc0 := Hd gqc0
 have HVc := Hd hVc
 have KC := Hd kac
 clear hVc kac gqc0
 have kkV : Kp V V := Kp.refl _
 have KV := Hd (KB.out.trans kk3)
 have OKH := Hd (okh.kp KC.out)
 have OA := Hd (oa.kp KC.out)
 have OB := Hd (ob.kp KC.out)
 have ns := okh.na
 simp only at ns
 clear okh oa ob kk kk0 kk3 C KSb
 go_upto_region 2 with fail
 rw [← HVc.out]
 clear HVc
 obtain ⟨xc0, xc1, xc2, xc3, _⟩ := KSc.out _ kkV
 have O2 := OA
 go_wp2
 go_ret
 exact ⟨_, [((⟨true, s, s⟩ : PD), ((.slice ax s.length cx, .slice ax s.length cx) : VV))], rfl, DF.out.symm, fun p hp => (by rw [List.mem_singleton.1 hp]; exact ⟨OA.out.kp (Kp.alloc _ _), O2.out.kp (Kp.alloc _ _)⟩), own_mono (own_part1 _ ⟨true, s, s⟩ _ _) KV.out.size, KV.out.trans (Kp.alloc _ _)⟩
theorem rparts_s (f : LF) (vfa vfb : Value) (w0 w : World) (hf : LeafOk w0 f vfa vfb) (k0 : Kp w0 w) {s t : List R} (hlf : lfOf (famR f) = ⟨true, 0, s, t⟩) (m1 : 0 < s.length) :
  Calls Tryz.prog 63 #[leafV f vfa vfb] w fun e w' => ∃ v' x, e = .returned v' ∧ x.map Prod.fst = ptL f ∧ ReadsP w0 w' x ∧ w'.ownsRow w.heap.size 57 3 v' x.length (cellsP x) ∧ Kp w w' := by
 have C := Hd (fun w1 (kk : Kp w w1) => refTidyP_any f vfa vfb w0 w1 hf (k0.trans kk))
 have DF : ptL f = prT (lfOf (famR f)) := rfl
 rw [hlf] at C DF
 have K0 := Hd k0
 have hfw := hf.kp k0
 generalize ptL f = DX at *
 obtain ⟨sf, uf, af, bf⟩ := f
 obtain ⟨aaf, caf, rfl⟩ := hfw.a.slice
 obtain ⟨abf, cbf, rfl⟩ := hfw.b.slice
 simp only [leafV] at C ⊢
 rw [pt_s m1] at DF
 have q0 : ((s.length : Int) == 0) = false := beq_eq_false_iff_ne.2 (by omega)
 have DF := Hd DF
 clear hf hfw hlf k0
 obtain ⟨V3, hVb⟩ : ∃ x, x = w.alloc (.cells #[.bool sf, .int .i64 uf, .slice aaf af.length caf, .slice abf bf.length cbf] 44) := ⟨_, rfl⟩
 have kab : Kp w V3 := by rw [hVb]; exact Kp.alloc _ _
 have gqb0 : V3.heap[w.heap.size]? = some (.cells #[.bool sf, .int .i64 uf, .slice aaf af.length caf, .slice abf bf.length cbf] 44 (0, 0)) := by rw [hVb]; exact heap_at _ _ _ (by first | rfl | simp)
 have KSb := Hd (fun w' (kq : Kp V3 w') => show w'.cell? ⟨w.heap.size, 0, none⟩ = some (.bool sf) ∧ w'.cell? ⟨w.heap.size, 1, none⟩ = some (.int .i64 uf) ∧ w'.cell? ⟨w.heap.size, 2, none⟩ = some (.slice aaf af.length caf) ∧ w'.cell? ⟨w.heap.size, 3, none⟩ = some (.slice abf bf.length cbf) ∧ Kp V3 w' from ⟨(row4 (heap_block kq gqb0)).1, (row4 (heap_block kq gqb0)).2.1, (row4 (heap_block kq gqb0)).2.2.1, (row4 (heap_block kq gqb0)).2.2.2, kq⟩)
 have GQb0 := Hd gqb0
 have HVb := Hd hVb
 have KB := Hd kab
 clear hVb kab gqb0
 have kkV3 : Kp V3 V3 := Kp.refl _
 go_enter Tryz.func63, Tryz.ntmps63
 go_wp2_with fail
 rw [← HVb.out]
 refine (C.out _ KB.out).mono ?_
 rintro e w1 ⟨va9, vb9, rfl, ⟨okh, oa, ob⟩, kk0⟩
 obtain ⟨ax, cx, rfl⟩ := okh.a.slice
 obtain ⟨ay, cy, rfl⟩ := okh.b.slice
 have nt := okh.nb
 simp only at nt
 have kk : Kp V3 w1 := kk0
 have kk3 : Kp V3 (w1.alloc (.cells #[.bool true, .int .i64 0, .slice ax s.length cx, .slice ay t.length cy] 44)) := kk.trans (Kp.alloc _ _)
 obtain ⟨V, hVc⟩ : ∃ x, x = w1.alloc (.cells #[.bool true, .int .i64 0, .slice ax s.length cx, .slice ay t.length cy] 44) := ⟨_, rfl⟩
 have kac : Kp w1 V := by rw [hVc]; exact Kp.alloc _ _
 have gqc0 : V.heap[w1.heap.size]? = some (.cells #[.bool true, .int .i64 0, .slice ax s.length cx, .slice ay t.length cy] 44 (0, 0)) := by rw [hVc]; exact heap_at _ _ _ (by first | rfl | simp)
 rw [← hVc] at kk3
 have KSc := Hd (fun w' (kq : Kp V w') => show w'.cell? ⟨w1.heap.size, 0, none⟩ = some (.bool true) ∧ w'.cell? ⟨w1.heap.size, 1, none⟩ = some (.int .i64 0) ∧ w'.cell? ⟨w1.heap.size, 2, none⟩ = some (.slice ax s.length cx) ∧ w'.cell? ⟨w1.heap.size, 3, none⟩ = some (.slice ay t.length cy) ∧ Kp V w' from ⟨(row4 (heap_block kq gqc0)).1, (row4 (heap_block kq gqc0)).2.1, (row4 (heap_block kq gqc0)).2.2.1, (row4 (heap_block kq gqc0)).2.2.2, kq⟩)
 have GQc0 := Hd gqc0
 have HVc := Hd hVc
 have KC := Hd kac
 clear hVc kac gqc0
 have kkV : Kp V V := Kp.refl _
 have KV := Hd (KB.out.trans kk3)
 have OKH := Hd (okh.kp KC.out)
 have OA := Hd (oa.kp KC.out)
 have OB := Hd (ob.kp KC.out)
 have ns := okh.na
 simp only at ns
 clear okh oa ob kk kk0 kk3 C KSb
 go_upto_region 2 with fail
 rw [← HVc.out]
 clear HVc
 obtain ⟨xc0, xc1, xc2, xc3, _⟩ := KSc.out _ kkV
 have O2 := OB
 go_wp2
 go_ret
 exact ⟨_, [((⟨false, s, t⟩ : PD), ((.slice ax s.length cx, .slice ay t.length cy) : VV))], rfl, DF.out.symm, fun p hp => (by rw [List.mem_singleton.1 hp]; exact ⟨OA.out.kp (Kp.alloc _ _), O2.out.kp (Kp.alloc _ _)⟩), own_mono (own_part1 _ ⟨false, s, t⟩ _ _) KV.out.size, KV.out.trans (Kp.alloc _ _)⟩
theorem rparts_u (f : LF) (vfa vfb : Value) (w0 w : World) (hf : LeafOk w0 f vfa vfb) (k0 : Kp w0 w) {k : Int} {s : List R} (hlf : lfOf (famR f) = ⟨false, k, s, []⟩) (h0 : ¬ s.length = 0) (k0' : k ≠ 0) (ss : setB k s = true) (hn : (nums s).length ≤ 1000) :
  Calls Tryz.prog 63 #[leafV f vfa vfb] w fun e w' => ∃ v' x, e = .returned v' ∧ x.map Prod.fst = ptL f ∧ ReadsP w0 w' x ∧ w'.ownsRow w.heap.size 57 3 v' x.length (cellsP x) ∧ Kp w w' := by
 have C := Hd (fun w1 (kk : Kp w w1) => refTidyP_any f vfa vfb w0 w1 hf (k0.trans kk))
 have DF : ptL f = prT (lfOf (famR f)) := rfl
 rw [hlf] at C DF
 have K0 := Hd k0
 have hfw := hf.kp k0
 generalize ptL f = DX at *
 obtain ⟨sf, uf, af, bf⟩ := f
 obtain ⟨aaf, caf, rfl⟩ := hfw.a.slice
 obtain ⟨abf, cbf, rfl⟩ := hfw.b.slice
 simp only [leafV] at C ⊢
 rw [pt_u h0 k0'] at DF
 obtain ⟨i0, hi, hz0, hz1, hz2⟩ := info_parts infoPart
 have p0 : (k == 0) = false := beq_eq_false_iff_ne.2 k0'
 have ok := sane_ok (setB_sane ss)
 have q0 : ((s.length : Int) == 0) = false := beq_eq_false_iff_ne.2 (by omega)
 have DF := Hd DF
 clear hf hfw hlf k0
 obtain ⟨V3, hVb⟩ : ∃ x, x = w.alloc (.cells #[.bool sf, .int .i64 uf, .slice aaf af.length caf, .slice abf bf.length cbf] 44) := ⟨_, rfl⟩
 have kab : Kp w V3 := by rw [hVb]; exact Kp.alloc _ _
 have gqb0 : V3.heap[w.heap.size]? = some (.cells #[.bool sf, .int .i64 uf, .slice aaf af.length caf, .slice abf bf.length cbf] 44 (0, 0)) := by rw [hVb]; exact heap_at _ _ _ (by first | rfl | simp)
 have KSb := Hd (fun w' (kq : Kp V3 w') => show w'.cell? ⟨w.heap.size, 0, none⟩ = some (.bool sf) ∧ w'.cell? ⟨w.heap.size, 1, none⟩ = some (.int .i64 uf) ∧ w'.cell? ⟨w.heap.size, 2, none⟩ = some (.slice aaf af.length caf) ∧ w'.cell? ⟨w.heap.size, 3, none⟩ = some (.slice abf bf.length cbf) ∧ Kp V3 w' from ⟨(row4 (heap_block kq gqb0)).1, (row4 (heap_block kq gqb0)).2.1, (row4 (heap_block kq gqb0)).2.2.1, (row4 (heap_block kq gqb0)).2.2.2, kq⟩)
 have GQb0 := Hd gqb0
 have HVb := Hd hVb
 have KB := Hd kab
 clear hVb kab gqb0
 have kkV3 : Kp V3 V3 := Kp.refl _
 go_enter Tryz.func63, Tryz.ntmps63
 go_wp2_with fail
 rw [← HVb.out]
 refine (C.out _ KB.out).mono ?_
 rintro e w1 ⟨va9, vb9, rfl, ⟨okh, oa, ob⟩, kk0⟩
 obtain ⟨ax, cx, rfl⟩ := okh.a.slice
 obtain ⟨ay, cy, e2⟩ := okh.b.slice
 have e2 : vb9 = .slice ay 0 cy := e2
 subst e2
 have kk : Kp V3 w1 := kk0
 have kk3 : Kp V3 (w1.alloc (.cells #[.bool false, .int .i64 k, .slice ax s.length cx, .slice ay 0 cy] 44)) := kk.trans (Kp.alloc _ _)
 obtain ⟨V, hVc⟩ : ∃ x, x = w1.alloc (.cells #[.bool false, .int .i64 k, .slice ax s.length cx, .slice ay 0 cy] 44) := ⟨_, rfl⟩
 have kac : Kp w1 V := by rw [hVc]; exact Kp.alloc _ _
 have gqc0 : V.heap[w1.heap.size]? = some (.cells #[.bool false, .int .i64 k, .slice ax s.length cx, .slice ay 0 cy] 44 (0, 0)) := by rw [hVc]; exact heap_at _ _ _ (by first | rfl | simp)
 rw [← hVc] at kk3
 have KSc := Hd (fun w' (kq : Kp V w') => show w'.cell? ⟨w1.heap.size, 0, none⟩ = some (.bool false) ∧ w'.cell? ⟨w1.heap.size, 1, none⟩ = some (.int .i64 k) ∧ w'.cell? ⟨w1.heap.size, 2, none⟩ = some (.slice ax s.length cx) ∧ w'.cell? ⟨w1.heap.size, 3, none⟩ = some (.slice ay 0 cy) ∧ Kp V w' from ⟨(row4 (heap_block kq gqc0)).1, (row4 (heap_block kq gqc0)).2.1, (row4 (heap_block kq gqc0)).2.2.1, (row4 (heap_block kq gqc0)).2.2.2, kq⟩)
 have GQc0 := Hd gqc0
 have HVc := Hd hVc
 have KC := Hd kac
 clear hVc kac gqc0
 have kkV : Kp V V := Kp.refl _
 have KV := Hd (KB.out.trans kk3)
 have OKH := Hd (okh.kp KC.out)
 have OA := Hd (oa.kp KC.out)
 have OB := Hd (ob.kp KC.out)
 have ns := okh.na
 simp only at ns
 clear okh oa ob kk kk0 kk3 C KSb
 go_upto_region 2 with fail
 rw [← HVc.out]
 clear HVc
 obtain ⟨xc0, xc1, xc2, xc3, _⟩ := KSc.out _ kkV
 have CF := Hd (fun x w1 => rfirst_any k x w1)
 have CL := Hd (fun x w1 => rlast_any k x w1)
 have MB := Hd (fun i (hi : i < s.length) => ok _ (at_mem hi))
 have MM := Hd (fun i (hi : i < s.length) x (h1 : (at_ s i).1 ≤ x) (h2 : x ≤ (at_ s i).2) => span_sane20 (setB_sane ss) (at_mem hi) h1 h2)
 have MC := Hd (fun x (hx : memR s x) => setB_mem ss hx)
 have AX := Hd (fun i t => up_next k s i t)
 have AR := Hd (fun i t (h : i < s.length) e => up_row k s (i := i) (t := t) h e)
 have AL := Hd (fun i t (h : i < s.length) ht => up_len k s (i := i) (t := t) h ht)
 have AE := Hd (up_all k s)
 have A0 := Hd (up_zero k s)
 have CT := Hd (cnt_top20 k)
 have UP := Hd (fun x => show unP k x = ⟨false, [(firV k x, firV k x)], [(lasV k x, lasV k x)]⟩ from rfl)
 generalize upN k s = AC at *
 generalize (nums s).length = nn at *
 have HA := Hd OKH.out.a
 have KZ := Hd (K0.out.trans KV.out)
 clear ok ss k0' OA OB
 go_wp2
 go_loopw [4, 5] (fun q iv wr => ∃ (i : Nat) (xs : List (PD × VV)), i ≤ s.length ∧ iv = .int .i64 i ∧ Hid (xs.map Prod.fst = AC i 0) ∧ Hid (ReadsP w0 wr xs) ∧ Hid (wr.ownsRow V.heap.size 57 3 q xs.length (cellsP xs)) ∧ Hid (Kp V wr)) (fun _ iv _ => s.length - (intOf iv).toNat)
 case atStart => exact ⟨0, [], Nat.zero_le _, rfl, Hd (by rw [A0.out]; rfl), Hd (fun p hp => by cases hp), Hd (World.ownsRow_nil _ _ _ _), Hd (Kp.refl _)⟩
 case round =>
  obtain ⟨i, xs, hi2, rfl, HM, OV, OW, J⟩ := hrel
  have ow := OW.out
  obtain ⟨qa, qc, rfl⟩ := own_slice3 ow
  clear ow
  obtain ⟨wo, hwo⟩ : ∃ x, x = wr := ⟨_, rfl⟩
  subst hwo
  obtain ⟨e0, e1, e2, e3, _⟩ := KSc.out wo J.out
  by_cases hlt : i < s.length
  ·have q1 : decide ((i : Int) < (s.length : Int)) = true := dT
   have HLT := Hd hlt
   rcases HA.out with ⟨_, _, _, e⟩ | ⟨b3, off3, cap3, ev, hc3, hm3, hx3⟩
   ·rw [e] at hlt; simp at hlt
   obtain ⟨r1, r2⟩ := hx3 i hlt
   cases ev
   have mb := MB.out i hlt
   have mm := MM.out i hlt
   have ax := AX.out i
   have ar := AR.out i _ hlt rfl
   have al := fun t ht => AL.out i t hlt ht
   obtain ⟨lo, hi', elo⟩ : ∃ x y, at_ s i = (x, y) := ⟨_, _, rfl⟩
   rw [elo] at r1 r2 mb mm ax ar al
   simp only at r1 r2 mb mm ax ar al
   have okr : lo ≤ hi' := mb.1
   have b1 := MC.out lo (mm lo (Int.le_refl _) okr)
   have b2 := MC.out hi' (mm hi' okr (Int.le_refl _))
   have ct := CT.out
   have RR := Hd (fun w' (kq : Kp V w') => (show w'.cell? ⟨b3, off3 + i * 2, none⟩ = some (.int .i64 lo) ∧ w'.cell? ⟨b3, off3 + i * 2 + 1, none⟩ = some (.int .i64 hi') from ⟨cell_up kq r1, cell_up kq r2⟩))
   clear r1 r2
   obtain ⟨r1, r2⟩ := RR.out wo J.out
   have X9 := Hd ax
   have R9 := Hd ar
   have L9 := Hd al
   obtain ⟨N, hN⟩ : ∃ N, (hi' - lo + 1).toNat = N := ⟨_, rfl⟩
   rw [hN] at R9 L9
   have z1 : (0 : Int) ≤ (i : Int) := by omega
   have z3 : (i : Int) < (s.length : Int) := by omega
   clear hx3 hc3 hm3 mb mm ax ar al elo
   go_wp2
   go_loopw [4, 6] (fun q jv wr => ∃ (t : Nat) (x : Int) (ys : List (PD × VV)), t ≤ N ∧ x = lo + (t : Int) ∧ jv = .int .i64 x ∧ Hid (ys.map Prod.fst = AC i t) ∧ Hid (ReadsP w0 wr ys) ∧ Hid (wr.ownsRow V.heap.size 57 3 q ys.length (cellsP ys)) ∧ Hid (Kp V wr)) (fun _ jv _ => (hi' + 1 - intOf jv).toNat)
   case atStart => exact ⟨0, lo, xs, Nat.zero_le _, by simp, rfl, HM, OV, OW, J⟩
   case round =>
    obtain ⟨t, x, ys, ht, hx, rfl, HN, QV, QO, JJ⟩ := hrel
    have qo := QO.out
    obtain ⟨qb, qd, rfl⟩ := own_slice3 qo
    clear qo
    have KJ := Hd JJ.out
    obtain ⟨wi, hwi⟩ : ∃ x, x = wr := ⟨_, rfl⟩
    subst hwi
    obtain ⟨e0, e1, e2, e3, _⟩ := KSc.out wi KJ.out
    obtain ⟨r1, r2⟩ := RR.out wi JJ.out
    by_cases hxx : x ≤ hi'
    ·have q2 : decide (x ≤ hi') = true := decide_eq_true hxx
     have ax := X9.out t
     have al := L9.out t (by omega)
     rw [← hx, UP.out] at ax
     have yl : ys.length = (AC i t).length := by have := congrArg List.length HN.out; rwa [List.length_map] at this
     have AXH := Hd ax
     have CF2 := Hd (CF.out x wi)
     have CL2 := Hd (CL.out x wi)
     generalize firV k x = fx at *
     generalize lasV k x = lx at *
     have xb : 0 ≤ x ∧ x ≤ 4000000 := by omega
     have ybd : ys.length ≤ 1000 := by omega
     have t1 : t + 1 ≤ N := by omega
     have HX := Hd hx
     have H9 := Hd hxx
     clear ax hx hxx al yl
     have K3 := Hd (show Kp wi (((wi.alloc (.cells #[.int .i64 fx, .int .i64 fx] 42)).alloc (.cells #[.int .i64 lx, .int .i64 lx] 42)).alloc (.cells #[.bool false, .slice (some ⟨wi.heap.size, 0, none⟩) 1 1, .slice (some ⟨wi.heap.size + 1, 0, none⟩) 1 1] 57)) from ((Kp.alloc _ _).trans (Kp.alloc _ _)).trans (Kp.alloc _ _))
     have P3 := Hd (show World.ownsRow (((wi.alloc (.cells #[.int .i64 fx, .int .i64 fx] 42)).alloc (.cells #[.int .i64 lx, .int .i64 lx] 42)).alloc (.cells #[.bool false, .slice (some ⟨wi.heap.size, 0, none⟩) 1 1, .slice (some ⟨wi.heap.size + 1, 0, none⟩) 1 1] 57)) (wi.heap.size + 1 + 1) 57 3 (.slice (some ⟨wi.heap.size + 1 + 1, 0, none⟩) 1 1) [((⟨false, [(fx, fx)], [(lx, lx)]⟩ : PD), ((.slice (some ⟨wi.heap.size, 0, none⟩) 1 1, .slice (some ⟨wi.heap.size + 1, 0, none⟩) 1 1) : VV))].length (cellsP [((⟨false, [(fx, fx)], [(lx, lx)]⟩ : PD), ((.slice (some ⟨wi.heap.size, 0, none⟩) 1 1, .slice (some ⟨wi.heap.size + 1, 0, none⟩) 1 1) : VV))]) from by
      have h := own_part1 ((wi.alloc (.cells #[.int .i64 fx, .int .i64 fx] 42)).alloc (.cells #[.int .i64 lx, .int .i64 lx] 42)) ⟨false, [(fx, fx)], [(lx, lx)]⟩ (.slice (some ⟨wi.heap.size, 0, none⟩) 1 1) (.slice (some ⟨wi.heap.size + 1, 0, none⟩) 1 1)
      have e : ((wi.alloc (.cells #[.int .i64 fx, .int .i64 fx] 42)).alloc (.cells #[.int .i64 lx, .int .i64 lx] 42)).heap.size = wi.heap.size + 1 + 1 := by simp
      rw [e] at h
      exact h)
     have R3 := Hd (show ReadsP w0 (((wi.alloc (.cells #[.int .i64 fx, .int .i64 fx] 42)).alloc (.cells #[.int .i64 lx, .int .i64 lx] 42)).alloc (.cells #[.bool false, .slice (some ⟨wi.heap.size, 0, none⟩) 1 1, .slice (some ⟨wi.heap.size + 1, 0, none⟩) 1 1] 57)) [((⟨false, [(fx, fx)], [(lx, lx)]⟩ : PD), ((.slice (some ⟨wi.heap.size, 0, none⟩) 1 1, .slice (some ⟨wi.heap.size + 1, 0, none⟩) 1 1) : VV))] from fun p hp => by
      rw [List.mem_singleton.1 hp]
      have h1 := own_run1 wi fx fx
      have h2 := own_run1 (wi.alloc (.cells #[.int .i64 fx, .int .i64 fx] 42)) lx lx
      have e : (wi.alloc (.cells #[.int .i64 fx, .int .i64 fx] 42)).heap.size = wi.heap.size + 1 := by simp
      rw [e] at h2
      exact ⟨.inr (own_mono (own_kp h1 ((Kp.alloc _ _).trans (Kp.alloc _ _))) (K0.out.trans (KV.out.trans KJ.out)).size), .inr (own_mono (own_kp h2 (Kp.alloc _ _)) (Nat.le_trans (K0.out.trans (KV.out.trans KJ.out)).size (Nat.le_succ _)))⟩)
     have Q3 := Hd (own_kp QO.out K3.out)
     have V3' := Hd (QV.out.kp K3.out)
     have KK3 := Hd (KJ.out.trans K3.out)
     go_wp2_with fail
     refine CF2.out.mono ?_
     rintro e w' ⟨rfl, rfl⟩
     go_wp2_with fail
     refine CL2.out.mono ?_
     rintro e w' ⟨rfl, rfl⟩
     clear CF2 CL2
     obtain ⟨X, hX⟩ : ∃ x, x = (((wi.alloc (.cells #[.int .i64 fx, .int .i64 fx] 42)).alloc (.cells #[.int .i64 lx, .int .i64 lx] 42)).alloc (.cells #[.bool false, .slice (some ⟨wi.heap.size, 0, none⟩) 1 1, .slice (some ⟨wi.heap.size + 1, 0, none⟩) 1 1] 57)) := ⟨_, rfl⟩
     rw [← hX] at K3 P3 R3 Q3 V3' KK3
     have HX3 := Hd hX
     clear hX
     go_wp2_with (at_builtin; refine Hid.out ?_)
     refine Hd ?_
     rw [← HX3.out]
     refine wpList_app rfl (.tmp 71) (.tmp 81) 53 rfl V.heap.size 57 i0 (.agg #[.bool false, .slice none 0 0, .slice none 0 0]) 3 56 Tryz.underlying53 hi hz0 hz1 hz2 rfl (by decide) _ ys.length (cellsP ys) rfl Q3.out _ 1 _ rfl (own_srcP P3.out) (by rfl) (cellsP_one R3.out) (by unfold maxLen; omega) (by omega) KK3.out.size ?_
     intro v5 w5 own5 grow5 _
     have K5 := Hd (KK3.out.grown grow5 (fun j hj => (Q3.out.lt j hj).1))
     have V5 := Hd ((V3'.out.append R3.out).grown grow5 Q3.out)
     have O6 := Hd (show w5.ownsRow V.heap.size 57 3 v5 (ys ++ [((⟨false, [(fx, fx)], [(lx, lx)]⟩ : PD), ((.slice (some ⟨wi.heap.size, 0, none⟩) 1 1, .slice (some ⟨wi.heap.size + 1, 0, none⟩) 1 1) : VV))]).length (cellsP (ys ++ [((⟨false, [(fx, fx)], [(lx, lx)]⟩ : PD), ((.slice (some ⟨wi.heap.size, 0, none⟩) 1 1, .slice (some ⟨wi.heap.size + 1, 0, none⟩) 1 1) : VV))])) by rw [List.length_append, cellsP_append]; exact own5)
     have HN6 := Hd (show (ys ++ [((⟨false, [(fx, fx)], [(lx, lx)]⟩ : PD), ((.slice (some ⟨wi.heap.size, 0, none⟩) 1 1, .slice (some ⟨wi.heap.size + 1, 0, none⟩) 1 1) : VV))]).map Prod.fst = AC i (t + 1) by rw [List.map_append, HN.out, AXH.out]; rfl)
     clear own5 grow5
     go_wp2
     go_roundw
     case rel => exact ⟨t + 1, x + 1, _, t1, by have := HX.out; omega, by go_num, HN6, V5, O6, K5⟩
     case measure => have := H9.out; simp [intOf]; omega
    ·have q2 : decide (x ≤ hi') = false := decide_eq_false hxx
     obtain rfl : t = N := by omega
     have HN2 := Hd (show ys.map Prod.fst = AC (i + 1) 0 by rw [← R9.out]; exact HN.out)
     have q9 := HLT.out
     go_wp2
     go_roundw
     case rel => exact ⟨i + 1, ys, by omega, by go_num, HN2, QV, QO, KJ⟩
     case measure => simp [intOf]; omega
  ·have q1 : decide ((i : Int) < (s.length : Int)) = false := dF
   obtain rfl : i = s.length := by omega
   have HE := Hd (show xs.map Prod.fst = DX by rw [HM.out, AE.out, DF.out])
   have OWW := Hd (own_mono OW.out KV.out.size)
   go_wp2
   go_ret
   exact ⟨_, xs, rfl, HE.out, OV.out, OWW.out, KV.out.trans J.out⟩
theorem rparts_any (f : LF) (vfa vfb : Value) (w0 w : World) (hf : LeafOk w0 f vfa vfb) (k0 : Kp w0 w) (hn : (lfOf (famR f)).sp = false → (lfOf (famR f)).u ≠ 0 → (nums (lfOf (famR f)).a).length ≤ 1000) :
  Calls Tryz.prog 63 #[leafV f vfa vfb] w fun e w' => ∃ v' x, e = .returned v' ∧ x.map Prod.fst = ptL f ∧ ReadsP w0 w' x ∧ w'.ownsRow w.heap.size 57 3 v' x.length (cellsP x) ∧ Kp w w' := by
 rcases tidy_cases20 f with ⟨k, s, e, ss⟩ | ⟨s, t, e, m1⟩
 ·rw [e] at hn
  simp only at hn
  by_cases h0 : s.length = 0
  ·exact rparts_0 f vfa vfb w0 w hf k0 e h0
  ·by_cases k1 : k = 0
   ·subst k1
    exact rparts_d f vfa vfb w0 w hf k0 e h0
   ·exact rparts_u f vfa vfb w0 w hf k0 e h0 k1 ss (hn trivial k1)
 ·exact rparts_s f vfa vfb w0 w hf k0 e m1
end Go.Proofs.YtcooaoponkkpeaaGreatDoor
