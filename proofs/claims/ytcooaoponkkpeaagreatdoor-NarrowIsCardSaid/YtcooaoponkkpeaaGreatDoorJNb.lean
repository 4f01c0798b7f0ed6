import Derived.Test.YtcooaoponkkpeaaGreatDoorJNa
import Derived.Test.YtcooaoponkkpeaaGreatDoorGImgC
import Derived.Test.YtcooaoponkkpeaaGreatDoorJV
import Derived.Test.YtcooaoponkkpeaaGreatDoorGBa
import Derived.Test.YtcooaoponkkpeaaGreatDoorJR
set_option maxHeartbeats 16000000
set_option maxRecDepth 100000
namespace Go.Proofs.YtcooaoponkkpeaaGreatDoor
open Go.RowKit
set_option linter.unusedVariables false
set_option linter.unusedSimpArgs false
theorem pos_step {m : List LF} {k : Nat} (h : k < m.length) : nf (posR (m.take k) ++ posR [lat m k]) = posR (m.take (k + 1)) := by
 refine sane_ext (nf_sane _) (posR_sane _) fun n => ?_
 rw [nf_mem, memR_append, posR_mem, posR_mem, posR_mem, take_lat m k h]
 unfold posB
 rw [List.any_append, Bool.or_eq_true]
noncomputable def preN (m : List LF) (k : Nat) : List R := posR (m.take k)
theorem preN_next {m : List LF} {k : Nat} (h : k < m.length) : nf (preN m k ++ posR [lat m k]) = preN m (k + 1) := pos_step h
theorem preN_all (m : List LF) : preN m m.length = posR m := by unfold preN; rw [List.take_length]
theorem preN_sane (m : List LF) (k : Nat) : sane (preN m k) := posR_sane _
noncomputable def dysL (a : List R) (m : List LF) : List LF := if (interR a (posR m)).length = 0 then [] else [⟨false, 0, interR a (posR m), []⟩]
def selR (P : Int → Bool) (l : List Int) : List R := (l.filter P).map fun n => (n, n)
theorem sel_len (P : Int → Bool) (l : List Int) : (selR P l).length ≤ l.length := by
 unfold selR
 rw [List.length_map]
 exact List.length_filter_le _ _
def accN (P : Int → Bool) (a : List R) (i t : Nat) : List R := selR P (nums (a.take i) ++ upF (at_ a i).1 t)
theorem acc_zero (P : Int → Bool) (a : List R) : accN P a 0 0 = [] := rfl
theorem acc_next (P : Int → Bool) (a : List R) (i t : Nat) : accN P a i (t + 1) = accN P a i t ++ (if P ((at_ a i).1 + (t : Int)) = true then [((at_ a i).1 + (t : Int), (at_ a i).1 + (t : Int))] else []) := by
 have e : upF (at_ a i).1 (t + 1) = upF (at_ a i).1 t ++ [(at_ a i).1 + (t : Int)] := by
  unfold upF
  rw [List.range_succ, List.map_append]
  rfl
 unfold accN selR
 rw [e, ← List.append_assoc, List.filter_append, List.map_append]
 congr 1
 by_cases h : P ((at_ a i).1 + (t : Int)) = true
 ·rw [if_pos h, List.filter_cons_of_pos h]; rfl
 ·rw [if_neg h, List.filter_cons_of_neg h]; rfl
theorem acc_row (P : Int → Bool) (a : List R) {i t : Nat} (h : i < a.length) (e : t = ((at_ a i).2 - (at_ a i).1 + 1).toNat) : accN P a i t = accN P a (i + 1) 0 := by
 have h1 := nums_take a i h
 unfold accN
 rw [h1, e]
 rw [show upF (at_ a (i + 1)).1 0 = [] from rfl, List.append_nil]
 rfl
theorem acc_all (P : Int → Bool) (a : List R) : accN P a a.length 0 = selR P (nums a) := by
 unfold accN
 rw [List.take_length, show upF (at_ a a.length).1 0 = [] from rfl, List.append_nil]
theorem nums_pre (a : List R) (n : Nat) : (nums (a.take n)).length ≤ (nums a).length := by
 have e : nums a = nums (a.take n) ++ nums (a.drop n) := by
  unfold nums
  rw [← List.flatMap_append, List.take_append_drop]
 rw [e, List.length_append]
 omega
theorem acc_len (P : Int → Bool) (a : List R) {i t : Nat} (h : i < a.length) (ht : t ≤ ((at_ a i).2 - (at_ a i).1 + 1).toNat) : (accN P a i t).length ≤ (nums a).length := by
 have h1 := nums_take a i h
 have h2 := nums_pre a (i + 1)
 have h3 := sel_len P (nums (a.take i) ++ upF (at_ a i).1 t)
 unfold accN
 rw [h1, List.length_append] at h2
 rw [List.length_append, upF_len] at h3
 have h4 : (runF (at_ a i)).length = ((at_ a i).2 - (at_ a i).1 + 1).toNat := upF_len _ _
 omega
theorem sel_i64 {P : Int → Bool} {l : List Int} (h : ∀ n ∈ l, 0 ≤ n ∧ n ≤ 4000000) : I64R (selR P l) := by
 intro r hr
 obtain ⟨n, hn, rfl⟩ := List.mem_map.1 hr
 have := h n (List.mem_filter.1 hn).1
 simp only
 omega
noncomputable def inP (u : Int) (m : List LF) (n : Int) : Bool := inB m (firV u n) (lasV u n)
noncomputable def usL (u : Int) (a : List R) (m : List LF) : List LF := if (selR (inP u m) (nums a)).length = 0 then [] else [⟨false, u, nf (selR (inP u m) (nums a)), []⟩]
theorem un_bd {u : Int} {a : List R} (h : setB u a = true) {x : Int} (hx : memR a x) : 0 ≤ firV u x ∧ firV u x ≤ 3652424 ∧ 0 ≤ lasV u x ∧ lasV u x ≤ 3652424 := by
 have bd := setB_mem h hx
 have q := hasF_le (F := .units u a) h ((hasF_units h _ _).2 ⟨x, hx, rfl, rfl⟩)
 have o := okU_of bd.1 bd.2
 unfold firV lasV
 rw [if_pos o, if_pos o]
 omega
abbrev niE0 : Oper := ⟨some 63, .fieldAddr 44 (.tmp 2) 1, 0, "ref.go:53", #[], none⟩
abbrev niE1 : Oper := ⟨some 64, .load 3 (.tmp 63), 3, "ref.go:53", #[⟨0, .data⟩], none⟩
abbrev niE2 : Oper := ⟨some 65, .move (.tmp 5), 34, "ref.go:53", #[], none⟩
abbrev niE3 : Oper := ⟨some 66, .call ⟨.value (.func 85), #[.tmp 65], #[34]⟩, 34, "ref.go:53", #[⟨2, .data⟩], none⟩
abbrev niE4 : Oper := ⟨some 67, .build 44 #[(1, .tmp 64), (2, .tmp 66)], 44, "ref.go:53", #[⟨1, .data⟩, ⟨3, .data⟩], none⟩
abbrev niE5 : Oper := ⟨some 68, .buildSlice 22 1 #[(0, .tmp 67)], 22, "ref.go:53", #[⟨4, .data⟩], none⟩
abbrev niE6 : Oper := ⟨some 4, .assign (.tmp 68), 22, "ref.go:53", #[⟨5, .data⟩, ⟨3, .chain⟩, ⟨0, .phase⟩, ⟨1, .phase⟩, ⟨2, .phase⟩, ⟨3, .phase⟩, ⟨4, .phase⟩, ⟨5, .phase⟩], none⟩
theorem cnt_top (u : Int) : cnt u ≤ 3652425 := by
 unfold cnt
 repeat' split
 all_goals omega
theorem okW_yes {l : List LF} (h : ∀ i, i < l.length → okE (lat l i) = true) : okEs l = true := by
 unfold okEs
 rw [List.all_eq_true]
 intro f hf
 obtain ⟨i, hi, rfl⟩ := List.mem_iff_getElem.1 hf
 have := h i hi
 unfold lat at this
 rw [List.getD_eq_getElem?_getD, List.getElem?_eq_getElem hi] at this
 exact this
theorem okW_no {l : List LF} {k : Nat} (hk : k < l.length) (h : okE (lat l k) = false) : okEs l = false := by
 unfold okEs
 rw [List.all_eq_false]
 exact ⟨_, lat_mem hk, by rw [h]; simp⟩
theorem rWide20_any (v : Value) (l : List LF) (w : World) (hv : LeavesAt w v l) (hl : LsOk l) :
  Calls Tryz.prog 28 #[v] w fun e w' => e = .returned (.bool (!okEs l)) ∧ Kp w w' := by
 have hm := hv.len
 unfold maxLen at hm
 obtain ⟨ad, cp, rfl⟩ := hv.slice
 have HV := Hd hv
 have HL := Hd hl
 have YES := Hd (fun h => okW_yes (l := l) h)
 have NO := Hd (fun k (h : k < l.length) g => okW_no (l := l) h g)
 clear hv hl
 generalize okEs l = r at *
 go_enter Tryz.func28, Tryz.ntmps28
 go_wp2
 go_loopw [3] (fun i wr => ∃ k : Nat, k ≤ l.length ∧ i = .int .i64 k ∧ Hid (∀ i, i < k → okE (lat l i) = true) ∧ Hid (Kp w wr)) (fun i _ => l.length - (intOf i).toNat)
 case atStart => exact ⟨0, Nat.zero_le _, rfl, Hd (fun i h => by omega), Hd (Kp.refl _)⟩
 case round =>
  obtain ⟨k, hk, rfl, FA, J⟩ := hrel
  obtain ⟨wx, hwx⟩ : ∃ x, x = wr := ⟨_, rfl⟩
  subst hwx
  by_cases hlt : k < l.length
  ·have q1 : decide ((k : Int) < (l.length : Int)) = true := dT
   rcases HV.out.kp J.out with ⟨_, _, _, e⟩ | ⟨b0, off, cap, ev, hc, hmx, hx⟩
   ·rw [e] at hlt; simp at hlt
   cases ev
   obtain ⟨va, vb, d0, d1, d2, d3, ra, rb⟩ := hx k hlt
   have LOK := HL.out _ (lat_mem hlt)
   obtain ⟨f, hf⟩ : ∃ f, lat l k = f := ⟨_, rfl⟩
   rw [hf] at d0 d1 ra rb
   (try rw [hf] at LOK)
   obtain ⟨sp, u, a, b⟩ := f
   simp only at d0 d1 ra rb
   (try simp only at LOK)
   obtain ⟨aa, ca, rfl⟩ := ra.slice
   obtain ⟨ab, cb, rfl⟩ := rb.slice
   have HF := Hd hf
   have z1 : (k : Int) < (l.length : Int) := by omega
   have z2 : (0 : Int) ≤ (k : Int) := by omega
   clear hx hc hmx hf
   have FO : LeafOk wx ⟨sp, u, a, b⟩ _ _ := ⟨ra, rb, LOK.1, LOK.2.1, LOK.2.2.1, LOK.2.2.2⟩
   have CS := Hd (fun w1 (kk : Kp wx w1) => refLStarts_any ⟨sp, u, a, b⟩ _ _ w1 (FO.kp kk))
   have CE := Hd (fun w1 (kk : Kp wx w1) => refLEnds_any ⟨sp, u, a, b⟩ _ _ w1 (FO.kp kk))
   simp only [leafV] at CS CE
   have N := Hd (fun (g : (startsB (famR ⟨sp, u, a, b⟩) && endsB (famR ⟨sp, u, a, b⟩)) = false) => NO.out k hlt (show okE (lat l k) = false by rw [HF.out]; exact g))
   have Y := Hd (fun (g : (startsB (famR ⟨sp, u, a, b⟩) && endsB (famR ⟨sp, u, a, b⟩)) = true) => (by rw [HF.out]; exact g : okE (lat l k) = true))
   generalize startsB (famR ⟨sp, u, a, b⟩) = p1 at *
   generalize endsB (famR ⟨sp, u, a, b⟩) = p2 at *
   generalize startsR (famR ⟨sp, u, a, b⟩) = E1 at *
   generalize endsR (famR ⟨sp, u, a, b⟩) = E2 at *
   have DD := Hd (fun w' (kq : Kp wx w') => (show w'.cell? ⟨b0, off + k * 4, none⟩ = some (.bool sp) ∧ w'.cell? ⟨b0, off + k * 4 + 1, none⟩ = some (.int .i64 u) ∧ w'.cell? ⟨b0, off + k * 4 + 2, none⟩ = some (.slice aa a.length ca) ∧ w'.cell? ⟨b0, off + k * 4 + 3, none⟩ = some (.slice ab b.length cb) from ⟨cell_up kq d0, cell_up kq d1, cell_up kq d2, cell_up kq d3⟩))
   have k00 : Kp wx wx := Kp.refl _
   clear ra rb YES FO
   go_wp2_with fail
   refine (CS.out _ k00).mono ?_
   rintro e w1 ⟨v1, rfl, r1, kk⟩
   have K1 := Hd kk
   obtain ⟨a1, c1, rfl⟩ := r1.slice
   clear kk r1 d0 d1 d2 d3
   obtain ⟨d0, d1, d2, d3⟩ := DD.out w1 K1.out
   go_wp2_with fail
   refine (CE.out _ (ky K1.out)).mono ?_
   rintro e w2 ⟨v2, rfl, r2, kk⟩
   have K2 := Hd ((show Kp wx _ from (ky K1.out)).trans kk)
   obtain ⟨a2, c2, rfl⟩ := r2.slice
   clear kk r2 d0 d1 d2 d3
   cases p1 with
   | false =>
    have hr := N.out (by first | rfl | trivial | simp)
    subst hr
    go_wp2
    go_ret
    exact ⟨rfl, J.out.trans K2.out⟩
   | true =>
    cases p2 with
    | false =>
     have hr := N.out (by first | rfl | trivial | simp)
     subst hr
     go_wp2
     go_ret
     exact ⟨rfl, J.out.trans K2.out⟩
    | true =>
     go_wp2
     go_roundw
     case rel => exact ⟨k + 1, by omega, by go_num, Hd (fun i hi => by
      by_cases c : i < k
      ·exact FA.out i c
      ·obtain rfl : i = k := by omega
       exact Y.out (by first | rfl | trivial | simp)), Hd (J.out.trans K2.out)⟩
     case measure => simp [intOf]; omega
  ·have q1 : decide ((k : Int) < (l.length : Int)) = false := dF
   obtain rfl : k = l.length := by omega
   have hr := YES.out FA.out
   subst hr
   go_wp2
   go_ret
   exact ⟨rfl, J.out⟩
noncomputable def bothS (f : LF) : List R := if f.u = 0 then f.a else startsR (famR f)
noncomputable def bothE (f : LF) : List R := if f.u = 0 then f.a else endsR (famR f)
abbrev niG0 : Oper := ⟨some 11, .fieldAddr 44 (.tmp 1) 2, 0, "ref.go:128", #[], none⟩
abbrev niG1 : Oper := ⟨some 12, .load 34 (.tmp 11), 34, "ref.go:128", #[⟨0, .data⟩], none⟩
abbrev niG2 : Oper := { dst := some 13, op := Go.Op.fieldAddr 44 (Go.Operand.tmp 1) 2, type := 0, pos := "ref.go:128", after := #[{ on := 4, ground := Go.Ground.gcOnly Go.Departure.lateStores }], guard := none }
abbrev niG3 : Oper := { dst := some 14, op := Go.Op.load 34 (Go.Operand.tmp 13), type := 34, pos := "ref.go:128", after := #[{ on := 2, ground := Go.Ground.data }, { on := 4, ground := Go.Ground.gcOnly Go.Departure.lateStores }], guard := none }
abbrev niG4 : Oper := { dst := some 2, op := Go.Op.assign (Go.Operand.tmp 12), type := 34, pos := "ref.go:128", after := #[{ on := 1, ground := Go.Ground.data }, { on := 0, ground := Go.Ground.phase }, { on := 1, ground := Go.Ground.phase }, { on := 2, ground := Go.Ground.textOnly Go.Departure.lateStores }, { on := 3, ground := Go.Ground.textOnly Go.Departure.lateStores }], guard := none }
abbrev niG5 : Oper := ⟨some 3, .assign (.tmp 14), 34, "ref.go:128", #[⟨3, .data⟩, ⟨4, .chain⟩, ⟨0, .phase⟩, ⟨1, .phase⟩, ⟨2, .phase⟩, ⟨3, .phase⟩, ⟨4, .phase⟩], none⟩
theorem rboth_0 (f : LF) (va vb : Value) (w : World) (h : LeafOk w f va vb) (hu : f.u = 0) :
  Calls Tryz.prog 39 #[leafV f va vb] w fun e w' => ∃ v1 v2, e = .returned (.tuple #[v1, v2]) ∧ RunsAt w' v1 (bothS f) ∧ RunsAt w' v2 (bothE f) ∧ Kp w w' := by
 obtain ⟨sp, u, a, b⟩ := f
 obtain ⟨aa, ca, rfl⟩ := h.a.slice
 obtain ⟨ab, cb, rfl⟩ := h.b.slice
 have ra := h.a
 simp only at hu ra
 have RA := Hd ra
 subst hu
 have B1 := Hd (show bothS ⟨sp, 0, a, b⟩ = a from if_pos rfl)
 have B2 := Hd (show bothE ⟨sp, 0, a, b⟩ = a from if_pos rfl)
 generalize bothS ⟨sp, 0, a, b⟩ = X1 at *
 generalize bothE ⟨sp, 0, a, b⟩ = X2 at *
 simp only [leafV] at *
 clear h ra
 obtain ⟨V3, hVb⟩ : ∃ x, x = w.alloc (.cells #[.bool sp, .int .i64 0, .slice aa a.length ca, .slice ab b.length cb] 44) := ⟨_, rfl⟩
 have kab : Kp w V3 := by rw [hVb]; exact Kp.alloc _ _
 have gqb0 : V3.heap[w.heap.size]? = some (.cells #[.bool sp, .int .i64 0, .slice aa a.length ca, .slice ab b.length cb] 44 (0, 0)) := by rw [hVb]; exact heap_at _ _ _ (by first | rfl | simp)
 have KSb := Hd (fun w' (kq : Kp V3 w') => show w'.cell? ⟨w.heap.size, 0, none⟩ = some (.bool sp) ∧ w'.cell? ⟨w.heap.size, 1, none⟩ = some (.int .i64 0) ∧ w'.cell? ⟨w.heap.size, 2, none⟩ = some (.slice aa a.length ca) ∧ w'.cell? ⟨w.heap.size, 3, none⟩ = some (.slice ab b.length cb) ∧ Kp V3 w' from ⟨(row4 (heap_block kq gqb0)).1, (row4 (heap_block kq gqb0)).2.1, (row4 (heap_block kq gqb0)).2.2.1, (row4 (heap_block kq gqb0)).2.2.2, kq⟩)
 have GQb0 := Hd gqb0
 have HVb := Hd hVb
 have KB := Hd kab
 clear hVb kab gqb0
 have kkV3 : Kp V3 V3 := Kp.refl _
 go_enter Tryz.func39, Tryz.ntmps39
 go_upto_region 2 with fail
 rw [← HVb.out]
 refine wp_region_held_drew (S := fun w' => w'.cell? ⟨w.heap.size, 0, none⟩ = some (.bool sp) ∧ w'.cell? ⟨w.heap.size, 1, none⟩ = some (.int .i64 0) ∧ w'.cell? ⟨w.heap.size, 2, none⟩ = some (.slice aa a.length ca) ∧ w'.cell? ⟨w.heap.size, 3, none⟩ = some (.slice ab b.length cb) ∧ Kp V3 w') (by kernel_rfl) ?_ (fun hHeld0 => ?_)
 ·(try dsimp only); exact KSb.out _ (ky kkV3)
 refine tkv 0 niG0 ?_
 (try simp only [Act.put, niG0, xA, xB, xC])
 refine tkv 1 niG1 ?_
 (try simp only [Act.put, niG1, xA, xB, xC])
 refine tkv 2 niG2 ?_
 (try simp only [Act.put, niG2, xA, xB, xC])
 refine tkv 3 niG3 ?_
 (try simp only [Act.put, niG3, xA, xB, xC])
 refine tkv 4 niG4 ?_
 (try simp only [Act.put, niG4, xA, xB, xC])
 refine tkv 5 niG5 ?_
 (try simp only [Act.put, niG5, xA, xB, xC])
 refine wpAnyH_done (by kernel_rfl) ?_ _
 go_wp2
 go_ret2
 exact ⟨_, _, rfl, by rw [B1.out]; exact RA.out.kp (KB.out.trans (ky kkV3)), by rw [B2.out]; exact RA.out.kp (KB.out.trans (ky kkV3)), KB.out.trans (ky kkV3)⟩
theorem rboth_1 (f : LF) (va vb : Value) (w : World) (h : LeafOk w f va vb) (hu : f.u ≠ 0) :
  Calls Tryz.prog 39 #[leafV f va vb] w fun e w' => ∃ v1 v2, e = .returned (.tuple #[v1, v2]) ∧ RunsAt w' v1 (bothS f) ∧ RunsAt w' v2 (bothE f) ∧ Kp w w' := by
 have CS := Hd (fun w1 (kk : Kp w w1) => refLStarts_any f va vb w1 (h.kp kk))
 have CE := Hd (fun w1 (kk : Kp w w1) => refLEnds_any f va vb w1 (h.kp kk))
 have B1 := Hd (show bothS f = startsR (famR f) from if_neg hu)
 have B2 := Hd (show bothE f = endsR (famR f) from if_neg hu)
 generalize bothS f = X1 at *
 generalize bothE f = X2 at *
 generalize startsR (famR f) = E1 at *
 generalize endsR (famR f) = E2 at *
 generalize startsB (famR f) = p1 at *
 generalize endsB (famR f) = p2 at *
 obtain ⟨sp, u, a, b⟩ := f
 obtain ⟨aa, ca, rfl⟩ := h.a.slice
 obtain ⟨ab, cb, rfl⟩ := h.b.slice
 have ra := h.a
 simp only at hu
 have q1 : (u == 0) = false := beq_eq_false_iff_ne.2 hu
 simp only [leafV] at *
 clear h ra hu
 obtain ⟨V3, hVb⟩ : ∃ x, x = w.alloc (.cells #[.bool sp, .int .i64 u, .slice aa a.length ca, .slice ab b.length cb] 44) := ⟨_, rfl⟩
 have kab : Kp w V3 := by rw [hVb]; exact Kp.alloc _ _
 have gqb0 : V3.heap[w.heap.size]? = some (.cells #[.bool sp, .int .i64 u, .slice aa a.length ca, .slice ab b.length cb] 44 (0, 0)) := by rw [hVb]; exact heap_at _ _ _ (by first | rfl | simp)
 have KSb := Hd (fun w' (kq : Kp V3 w') => show w'.cell? ⟨w.heap.size, 0, none⟩ = some (.bool sp) ∧ w'.cell? ⟨w.heap.size, 1, none⟩ = some (.int .i64 u) ∧ w'.cell? ⟨w.heap.size, 2, none⟩ = some (.slice aa a.length ca) ∧ w'.cell? ⟨w.heap.size, 3, none⟩ = some (.slice ab b.length cb) ∧ Kp V3 w' from ⟨(row4 (heap_block kq gqb0)).1, (row4 (heap_block kq gqb0)).2.1, (row4 (heap_block kq gqb0)).2.2.1, (row4 (heap_block kq gqb0)).2.2.2, kq⟩)
 have GQb0 := Hd gqb0
 have HVb := Hd hVb
 have KB := Hd kab
 clear hVb kab gqb0
 have kkV3 : Kp V3 V3 := Kp.refl _
 have CS := Hd (fun w1 (kk : Kp V3 w1) => CS.out w1 (KB.out.trans kk))
 have CE := Hd (fun w1 (kk : Kp V3 w1) => CE.out w1 (KB.out.trans kk))
 go_enter Tryz.func39, Tryz.ntmps39
 go_wp2_with fail
 rw [← HVb.out]
 refine (CS.out _ (Kp.refl _)).mono ?_
 rintro e w1 ⟨v1, rfl, r1, kk⟩
 have K1 := Hd kk
 have R1 := Hd r1
 obtain ⟨e0, e1, e2, e3, _⟩ := KSb.out w1 kk
 clear kk r1
 go_wp2_with fail
 refine (CE.out _ (ky K1.out)).mono ?_
 rintro e w2 ⟨v2, rfl, r2, kk⟩
 have R2 := Hd r2
 have R1' := Hd (R1.out.kp (Kp.trans kx kk))
 have K2 := Hd (KB.out.trans ((show Kp V3 _ from (ky K1.out)).trans kk))
 clear kk r2
 go_wp2
 go_ret2
 exact ⟨_, _, rfl, by rw [B1.out]; exact R1'.out, by rw [B2.out]; exact R2.out, K2.out⟩
theorem rboth_any (f : LF) (va vb : Value) (w : World) (h : LeafOk w f va vb) :
  Calls Tryz.prog 39 #[leafV f va vb] w fun e w' => ∃ v1 v2, e = .returned (.tuple #[v1, v2]) ∧ RunsAt w' v1 (bothS f) ∧ RunsAt w' v2 (bothE f) ∧ Kp w w' := by
 by_cases hu : f.u = 0
 ·exact rboth_0 f va vb w h hu
 ·exact rboth_1 f va vb w h hu
noncomputable def uSt (l : List LF) (k : Nat) : List R := nf (stsL (l.take k))
theorem leafStarts_any (f : LF) (va vb : Value) (w : World) (h : LeafOk w f va vb) (T : Tabs w) :
  Calls Tryz.prog 41 #[leafV f va vb] w fun e w' => ∃ v, e = .returned (.tuple #[v, .bool (startsB (famR f))]) ∧ RunsAt w' v (startsR (famR f)) ∧ Kp w w' :=
 (leafStartsO_any f va vb w h T).mono (by rintro e w' ⟨v, rfl, o, k⟩; exact ⟨v, rfl, OwnR.runs o, k⟩)
theorem leafEnds_any (f : LF) (va vb : Value) (w : World) (h : LeafOk w f va vb) (T : Tabs w) :
  Calls Tryz.prog 42 #[leafV f va vb] w fun e w' => ∃ v, e = .returned (.tuple #[v, .bool (endsB (famR f))]) ∧ RunsAt w' v (endsR (famR f)) ∧ Kp w w' :=
 (leafEndsO_any f va vb w h T).mono (by rintro e w' ⟨v, rfl, o, k⟩; exact ⟨v, rfl, OwnR.runs o, k⟩)
noncomputable def uEn (l : List LF) (k : Nat) : List R := nf (ensL (l.take k))
theorem uSt_next {l : List LF} {k : Nat} (h : k < l.length) : nf (uSt l k ++ startsR (famR (lat l k))) = uSt l (k + 1) := by
 unfold uSt
 rw [nf_left, take_lat l k h, sts_append]
 simp [stsL]
theorem uEn_next {l : List LF} {k : Nat} (h : k < l.length) : nf (uEn l k ++ endsR (famR (lat l k))) = uEn l (k + 1) := by
 unfold uEn
 rw [nf_left, take_lat l k h, ens_append]
 simp [ensL]
theorem uSt_all (l : List LF) : uSt l l.length = nf (stsL l) := by unfold uSt; rw [List.take_length]
theorem uEn_all (l : List LF) : uEn l l.length = nf (ensL l) := by unfold uEn; rw [List.take_length]
theorem uSt_len (l : List LF) (k : Nat) : (uSt l k).length ≤ (stsL l).length := Nat.le_trans (nf_len _) (flat_pre l (fun f => startsR (famR f)) k)
theorem uEn_len (l : List LF) (k : Nat) : (uEn l k).length ≤ (ensL l).length := Nat.le_trans (nf_len _) (flat_pre l (fun f => endsR (famR f)) k)
theorem uSt_sane (l : List LF) (k : Nat) : sane (uSt l k) := nf_sane _
theorem uEn_sane (l : List LF) (k : Nat) : sane (uEn l k) := nf_sane _
theorem lawEnds_any (v : Value) (l : List LF) (w : World) (hv : LeavesAt w v l) (hl : LsOk l) (T : Tabs w) (n1 : (stsL l).length ≤ 900000) (n2 : (ensL l).length ≤ 900000) :
  Calls Tryz.prog 17 #[v] w fun e w' => ∃ v1 v2, e = .returned (.tuple #[v1, v2]) ∧ RunsAt w' v1 (nf (stsL l)) ∧ RunsAt w' v2 (nf (ensL l)) ∧ Kp w w' := by
 have hm := hv.len
 unfold maxLen at hm
 obtain ⟨ad, cp, rfl⟩ := hv.slice
 have HV := Hd hv
 have HL := Hd hl
 have TT := Hd T
 have SN := Hd (fun k (h : k < l.length) => uSt_next h)
 have EN := Hd (fun k (h : k < l.length) => uEn_next h)
 have SB := Hd (fun k => Nat.le_trans (uSt_len l k) n1)
 have EB := Hd (fun k => Nat.le_trans (uEn_len l k) n2)
 have SS := Hd (uSt_sane l)
 have ES := Hd (uEn_sane l)
 have SA := Hd (uSt_all l)
 have EA := Hd (uEn_all l)
 have S0 := Hd (show RunsAt w (.slice none 0 0) (uSt l 0) from .inl ⟨_, _, rfl, rfl⟩)
 have E0 := Hd (show RunsAt w (.slice none 0 0) (uEn l 0) from .inl ⟨_, _, rfl, rfl⟩)
 clear hv hl n1 n2 T
 generalize uSt l = PS at *
 generalize uEn l = PE at *
 generalize nf (stsL l) = XS at *
 generalize nf (ensL l) = XE at *
 go_enter Tryz.func17, Tryz.ntmps17
 go_wp2
 go_loopw [4, 5, 6] (fun q1 q2 i wr => ∃ k : Nat, k ≤ l.length ∧ i = .int .i64 k ∧ Hid (RunsAt wr q1 (PS k)) ∧ Hid (RunsAt wr q2 (PE k)) ∧ Hid (Kp w wr)) (fun _ _ i _ => l.length - (intOf i).toNat)
 case atStart => exact ⟨0, Nat.zero_le _, rfl, S0, E0, Hd (Kp.refl _)⟩
 case round =>
  obtain ⟨k, hk, rfl, RS, RE, J⟩ := hrel
  obtain ⟨sa, sc, rfl⟩ := RS.out.slice
  obtain ⟨ea, ec, rfl⟩ := RE.out.slice
  obtain ⟨wx, hwx⟩ : ∃ x, x = wr := ⟨_, rfl⟩
  subst hwx
  by_cases hlt : k < l.length
  ·have q1 : decide ((k : Int) < (l.length : Int)) = true := dT
   have s1 := SN.out k hlt
   have s2 := EN.out k hlt
   have s3 := SB.out k
   have s4 := EB.out k
   rcases HV.out.kp J.out with ⟨_, _, _, e⟩ | ⟨b0, off, cap, ev, hc, hmx, hx⟩
   ·rw [e] at hlt; simp at hlt
   cases ev
   obtain ⟨va, vb, d0, d1, d2, d3, ra, rb⟩ := hx k hlt
   have LOK := HL.out _ (lat_mem hlt)
   obtain ⟨f, hf⟩ : ∃ f, lat l k = f := ⟨_, rfl⟩
   rw [hf] at d0 d1 ra rb
   (try rw [hf] at LOK)
   obtain ⟨sp, u, a, b⟩ := f
   simp only at d0 d1 ra rb
   (try simp only at LOK)
   obtain ⟨aa, ca, rfl⟩ := ra.slice
   obtain ⟨ab, cb, rfl⟩ := rb.slice
   have HF := Hd hf
   have z1 : (k : Int) < (l.length : Int) := by omega
   have z2 : (0 : Int) ≤ (k : Int) := by omega
   clear hx hc hmx hf
   rw [HF.out] at s1 s2
   have FO : LeafOk wx ⟨sp, u, a, b⟩ _ _ := ⟨ra, rb, LOK.1, LOK.2.1, LOK.2.2.1, LOK.2.2.2⟩
   have CS := Hd (fun w1 (kk : Kp wx w1) => leafStarts_any ⟨sp, u, a, b⟩ _ _ w1 (FO.kp kk) (TT.out.kp (J.out.trans kk)))
   have CE := Hd (fun w1 (kk : Kp wx w1) => leafEnds_any ⟨sp, u, a, b⟩ _ _ w1 (FO.kp kk) (TT.out.kp (J.out.trans kk)))
   have l1 := starts_len (famR ⟨sp, u, a, b⟩)
   have l2 := ends_len (famR ⟨sp, u, a, b⟩)
   have C1 := Hd (fun v w1 (kk : Kp wx w1) (r : RunsAt w1 v (startsR (famR ⟨sp, u, a, b⟩))) => union_any _ v (PS k) (startsR (famR ⟨sp, u, a, b⟩)) w1 (RS.out.kp kk) r (sane_i64 (SS.out k)) (sane_i64 (starts_sane (famR_ok _))) (by omega))
   have C2 := Hd (fun v w1 (kk : Kp wx w1) (r : RunsAt w1 v (endsR (famR ⟨sp, u, a, b⟩))) => union_any _ v (PE k) (endsR (famR ⟨sp, u, a, b⟩)) w1 (RE.out.kp kk) r (sane_i64 (ES.out k)) (sane_i64 (ends_sane (famR_ok _))) (by omega))
   rw [s1] at C1
   rw [s2] at C2
   simp only [leafV] at CS CE
   generalize startsB (famR ⟨sp, u, a, b⟩) = p1 at *
   generalize endsB (famR ⟨sp, u, a, b⟩) = p2 at *
   generalize startsR (famR ⟨sp, u, a, b⟩) = E1 at *
   generalize endsR (famR ⟨sp, u, a, b⟩) = E2 at *
   have DD := Hd (fun w' (kq : Kp wx w') => (show w'.cell? ⟨b0, off + k * 4, none⟩ = some (.bool sp) ∧ w'.cell? ⟨b0, off + k * 4 + 1, none⟩ = some (.int .i64 u) ∧ w'.cell? ⟨b0, off + k * 4 + 2, none⟩ = some (.slice aa a.length ca) ∧ w'.cell? ⟨b0, off + k * 4 + 3, none⟩ = some (.slice ab b.length cb) from ⟨cell_up kq d0, cell_up kq d1, cell_up kq d2, cell_up kq d3⟩))
   have k00 : Kp wx wx := Kp.refl _
   clear ra rb FO s1 s2 s3 s4 l1 l2
   go_wp2_with fail
   refine (CS.out _ k00).mono ?_
   rintro e w1 ⟨v1, rfl, r1, kk⟩
   have K1 := Hd kk
   have R1 := Hd r1
   obtain ⟨a1, c1, rfl⟩ := r1.slice
   clear kk r1 d0 d1 d2 d3
   obtain ⟨d0, d1, d2, d3⟩ := DD.out w1 K1.out
   go_wp2_with fail
   refine (CE.out _ (ky K1.out)).mono ?_
   rintro e w2 ⟨v2, rfl, r2, kk⟩
   have K2 := Hd ((show Kp wx _ from (ky K1.out)).trans kk)
   have R1' := Hd (R1.out.kp (Kp.trans kx kk))
   have R2 := Hd r2
   obtain ⟨a2, c2, rfl⟩ := r2.slice
   clear kk r2 d0 d1 d2 d3
   go_wp2_with fail
   refine (C1.out _ _ (ky K2.out) (R1'.out.kp kx)).mono ?_
   rintro e w3 ⟨v3, rfl, o3, kk⟩
   have K3 := Hd ((show Kp wx _ from (ky K2.out)).trans kk)
   have R2' := Hd (R2.out.kp (Kp.trans kx kk))
   have R3 := Hd (runsAt_own o3)
   clear kk o3
   go_wp2_with fail
   refine (C2.out _ _ (ky K3.out) (R2'.out.kp kx)).mono ?_
   rintro e w4 ⟨v4, rfl, o4, kk⟩
   have K4 := Hd (J.out.trans ((show Kp wx _ from (ky K3.out)).trans kk))
   have R3' := Hd (R3.out.kp (Kp.trans kx kk))
   have R4 := Hd (runsAt_own o4)
   clear kk o4
   go_wp2
   go_roundw
   case rel => exact ⟨k + 1, by omega, by go_num, R3', R4, K4⟩
   case measure => simp [intOf]; omega
  ·have q1 : decide ((k : Int) < (l.length : Int)) = false := dF
   obtain rfl : k = l.length := by omega
   have R1 := Hd (show RunsAt wx _ XS by have h := RS.out; rw [SA.out] at h; exact h)
   have R2 := Hd (show RunsAt wx _ XE by have h := RE.out; rw [EA.out] at h; exact h)
   rw [SA.out, EA.out]
   clear RS RE
   go_wp2
   go_ret2
   exact ⟨_, _, rfl, R1.out, R2.out, J.out⟩
end Go.Proofs.YtcooaoponkkpeaaGreatDoor
