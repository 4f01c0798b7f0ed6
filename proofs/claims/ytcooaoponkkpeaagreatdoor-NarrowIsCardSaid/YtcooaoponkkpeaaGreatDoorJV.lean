import Derived.Test.YtcooaoponkkpeaaGreatDoorJO
import Derived.Test.YtcooaoponkkpeaaGreatDoorGSetC
import Derived.Laws.EntriesVeiled
import Derived.LoopTactic
import Derived.Test.YtcooaoponkkpeaaGreatDoorGLeafA
import Derived.Test.YtcooaoponkkpeaaGreatDoorGBa
import Derived.Test.YtcooaoponkkpeaaGreatDoorGRefC
import Derived.StillTailTactics
import Derived.Test.YtcooaoponkkpeaaGreatDoorJR
import Derived.Test.YtcooaoponkkpeaaGreatDoorGImgC
set_option maxHeartbeats 16000000
set_option maxRecDepth 100000
namespace Go.Proofs.YtcooaoponkkpeaaGreatDoor
open Go.RowKit
set_option linter.unusedVariables false
set_option linter.unusedSimpArgs false
noncomputable def posB (l : List LF) (d : Int) : Bool := l.any fun f => coversF (famR f) d
noncomputable def dayR : Fam → List R
 | .units k s => coverR k s
 | .span s e => [(leastR s, greatR e)]
theorem full_ne {f : LF} (h : fullB f = true) : emptyF (famR f) = false := by unfold fullB at h; simpa using h
theorem dayR_len {F : Fam} (h : FLen 1000 F) : (dayR F).length ≤ 1000 := by
 cases F with
 | units k s => exact nf_bd (by rw [List.length_map]; exact unitsR_len h)
 | span s e => simp [dayR]
theorem span_days {s e : List R} (h : FOK (.span s e)) (h0 : emptyF (.span s e) = false) : memR s (leastR s) ∧ memR e (greatR e) ∧ 0 ≤ leastR s ∧ leastR s ≤ 3652424 ∧ 0 ≤ greatR e ∧ greatR e ≤ 3652424 := by
 have l0 : 0 < s.length := by have := of_decide_eq_false h0; omega
 have ss := setB_sane h.1
 have se := setB_sane h.2.1
 obtain ⟨m, hm, _⟩ := h.2.2.1 _ (least_mem ss l0)
 have m1 := least_mem ss l0
 have m2 := great_mem se (mem_pos hm)
 have b1 := setB_mem h.1 m1
 have b2 := setB_mem h.2.1 m2
 rw [cnt_zero] at b1 b2
 exact ⟨m1, m2, by omega, by omega, by omega, by omega⟩
theorem dayR_sane {F : Fam} (h : FOK F) (h0 : emptyF F = false) : I64R (dayR F) := by
 cases F with
 | units k s => exact sane_i64 (coverR_sane k s)
 | span s e =>
  obtain ⟨_, _, a, b, c, d⟩ := span_days h h0
  exact i64_one (by omega) (by omega) (by omega) (by omega)
theorem dayR_mem {F : Fam} (h : FOK F) (h0 : emptyF F = false) (d : Int) : memR (dayR F) d ↔ coversF F d = true := by
 cases F with
 | units k s =>
  unfold dayR coversF
  rw [coverR_mem, Bool.and_eq_true, has_mem (setB_sane h)]
  constructor
  ·rintro ⟨o, m⟩
   exact ⟨o, by rw [ofV_yes o]; exact m⟩
  ·rintro ⟨o, m⟩
   rw [ofV_yes o] at m
   exact ⟨o, m⟩
 | span s e =>
  obtain ⟨_, _, a, b, c, g⟩ := span_days h h0
  have h1 : decide (s.length = 0) = false := h0
  have e2 : coversF (.span s e) d = (!decide (s.length = 0) && (decide (leastR s ≤ d) && decide (d ≤ greatR e))) := rfl
  rw [e2, h1, show dayR (.span s e) = [(leastR s, greatR e)] from rfl, memR_one]
  simp only [Bool.not_false, Bool.true_and, Bool.and_eq_true, decide_eq_true_eq]
  omega
noncomputable def allR (l : List LF) : List R := l.flatMap fun f => dayR (famR f)
noncomputable def posR (l : List LF) : List R := nf (allR (l.filter fullB))
theorem allR_snoc (l : List LF) (f : LF) : allR (l ++ [f]) = allR l ++ dayR (famR f) := by unfold allR; simp
theorem allR_len : ∀ {l : List LF}, LsOk l → (allR l).length ≤ 1000 * l.length := by
 intro l
 induction l with
 | nil => intro _; simp [allR]
 | cons f t ih =>
  intro h
  have h1 := h f List.mem_cons_self
  have h2 := ih (fun g hg => h g (List.mem_cons_of_mem _ hg))
  have h3 := dayR_len (famR_len h1.2.2.1 h1.2.2.2)
  unfold allR at h2 ⊢
  rw [List.flatMap_cons, List.length_append, List.length_cons]
  omega
theorem allR_mem {l : List LF} (h : ∀ f ∈ l, fullB f = true) (d : Int) : memR (allR l) d ↔ ∃ f ∈ l, coversF (famR f) d = true := by
 induction l with
 | nil => simp [allR, memR_nil]
 | cons f t ih =>
  have e : allR (f :: t) = dayR (famR f) ++ allR t := by unfold allR; rw [List.flatMap_cons]
  rw [e, memR_append, dayR_mem (famR_ok f) (full_ne (h f List.mem_cons_self)), ih (fun g hg => h g (List.mem_cons_of_mem _ hg))]
  simp
theorem full_covers {f : LF} {d : Int} (h : coversF (famR f) d = true) : fullB f = true := by
 obtain ⟨S, T, g, _⟩ := (covers_iff (famR_ok f) d).1 h
 exact full_of g
theorem filter_full (l : List LF) : ∀ f ∈ l.filter fullB, fullB f = true := fun f hf => (List.mem_filter.1 hf).2
theorem posB_iff (l : List LF) (d : Int) : posB l d = true ↔ ∃ f ∈ l, coversF (famR f) d = true := by unfold posB; rw [List.any_eq_true]
theorem posR_mem (l : List LF) (d : Int) : memR (posR l) d ↔ posB l d = true := by
 unfold posR
 rw [nf_mem, allR_mem (filter_full l), posB_iff]
 constructor
 ·rintro ⟨f, hf, g⟩
  exact ⟨f, (List.mem_filter.1 hf).1, g⟩
 ·rintro ⟨f, hf, g⟩
  exact ⟨f, List.mem_filter.2 ⟨hf, full_covers g⟩, g⟩
theorem posR_sane (l : List LF) : sane (posR l) := nf_sane _
theorem no_full {l : List LF} (h : anyB l = false) : ∀ f ∈ l, fullB f = false := by
 unfold anyB at h
 rw [List.any_eq_false] at h
 intro f hf
 simpa using h f hf
theorem posB_none {l : List LF} (h : anyB l = false) (d : Int) : posB l d = false := by
 rw [Bool.eq_false_iff]
 intro c
 obtain ⟨f, hf, g⟩ := (posB_iff l d).1 c
 have := no_full h f hf
 rw [full_covers g] at this
 cases this
theorem posR_none {l : List LF} (h : anyB l = false) : posR l = [] := by
 refine no_mem (posR_sane l) fun m hm => ?_
 rw [posR_mem, posB_none h] at hm
 cases hm
theorem nf_left (a b : List R) : nf (nf a ++ b) = nf (a ++ b) := nf_congr fun n => by rw [memR_append, memR_append, nf_mem]
theorem filter_no {l : List LF} {k : Nat} (h : k < l.length) (g : fullB (lat l k) = false) : (l.take (k + 1)).filter fullB = (l.take k).filter fullB := by
 rw [take_lat l k h, List.filter_append]
 simp [g]
theorem filter_yes {l : List LF} {k : Nat} (h : k < l.length) (g : fullB (lat l k) = true) : (l.take (k + 1)).filter fullB = (l.take k).filter fullB ++ [lat l k] := by
 rw [take_lat l k h, List.filter_append]
 simp [g]
theorem set1_heap {w : World} {B : Nat} {t : TypeId} {c : Array Value} {fr : Nat × Nat} (hB : w.heap[B]? = some (.cells c t fr)) (o : Nat) (x : Value) : (w.setCell ⟨B, o, none⟩ x).heap[B]? = some (.cells (c.setIfInBounds o x) t fr) := by
 unfold World.setCell
 simp only
 rw [Array.getElem?_modify, if_pos rfl, hB]
 rfl
noncomputable def preR (l : List LF) (k : Nat) : List R := nf (allR ((l.take k).filter fullB))
theorem preR_no {l : List LF} {k : Nat} (h : k < l.length) (g : fullB (lat l k) = false) : preR l (k + 1) = preR l k := by
 unfold preR; rw [filter_no h g]
theorem preR_yes {l : List LF} {k : Nat} (h : k < l.length) (g : fullB (lat l k) = true) : nf (preR l k ++ dayR (famR (lat l k))) = preR l (k + 1) := by
 unfold preR; rw [filter_yes h g, allR_snoc, nf_left]
theorem preR_all (l : List LF) : preR l l.length = posR l := by unfold preR posR; rw [List.take_length]
theorem preR_len {l : List LF} (h : LsOk l) (k : Nat) : (preR l k).length ≤ 1000 * l.length := by
 have h2 : LsOk ((l.take k).filter fullB) := fun f hf => h f (List.mem_of_mem_take (List.mem_filter.1 hf).1)
 have a := allR_len h2
 have b := List.length_filter_le fullB (l.take k)
 have c : (l.take k).length ≤ l.length := List.length_take_le' k l
 have e := nf_len (allR ((l.take k).filter fullB))
 unfold preR
 omega
abbrev rD0 : Oper := ⟨some 30, .fieldAddr 44 (.tmp 6) 2, 0, "ref.go:38", #[], none⟩
abbrev rD1 : Oper := ⟨some 31, .load 34 (.tmp 30), 34, "ref.go:38", #[⟨0, .data⟩], none⟩
abbrev rD2 : Oper := ⟨some 32, .indexAddr 34 (.tmp 31) (.const (.int .i64 0)), 0, "ref.go:38", #[⟨1, .data⟩], none⟩
abbrev rD3 : Oper := ⟨some 33, .fieldAddr 42 (.tmp 32) 0, 0, "ref.go:38", #[⟨2, .data⟩], none⟩
abbrev rD4 : Oper := ⟨some 34, .load 3 (.tmp 33), 3, "ref.go:38", #[⟨3, .data⟩], none⟩
abbrev rD5 : Oper := ⟨some 35, .fieldAddr 44 (.tmp 6) 3, 0, "ref.go:38", #[], none⟩
abbrev rD6 : Oper := ⟨some 36, .load 34 (.tmp 35), 34, "ref.go:38", #[⟨5, .data⟩], none⟩
abbrev rD7 : Oper := ⟨some 37, .fieldAddr 44 (.tmp 6) 3, 0, "ref.go:38", #[], none⟩
abbrev rD8 : Oper := ⟨some 38, .load 34 (.tmp 37), 34, "ref.go:38", #[⟨7, .data⟩], none⟩
abbrev rD9 : Oper := ⟨some 39, .call ⟨.builtin .len, #[.tmp 38], #[34]⟩, 3, "ref.go:38", #[⟨8, .data⟩], none⟩
abbrev rD10 : Oper := ⟨some 40, .binOp .sub 3 (.tmp 39) (.const (.int .i64 1)) 3, 3, "ref.go:38", #[⟨9, .data⟩], none⟩
abbrev rD11 : Oper := ⟨some 41, .indexAddr 34 (.tmp 36) (.tmp 40), 0, "ref.go:38", #[⟨6, .data⟩, ⟨10, .data⟩], none⟩
abbrev rD12 : Oper := ⟨some 42, .fieldAddr 42 (.tmp 41) 1, 0, "ref.go:38", #[⟨11, .data⟩], none⟩
abbrev rD13 : Oper := ⟨some 43, .load 3 (.tmp 42), 3, "ref.go:38", #[⟨12, .data⟩], none⟩
abbrev rD14 : Oper := ⟨some 44, .build 42 #[(0, .tmp 34), (1, .tmp 43)], 42, "ref.go:38", #[⟨4, .data⟩, ⟨13, .data⟩], none⟩
abbrev rD15 : Oper := ⟨some 45, .buildSlice 34 1 #[(0, .tmp 44)], 34, "ref.go:38", #[⟨14, .data⟩], none⟩
abbrev rD16 : Oper := ⟨some 7, .assign (.tmp 45), 34, "ref.go:38", #[⟨15, .data⟩, ⟨0, .phase⟩, ⟨1, .phase⟩, ⟨2, .phase⟩, ⟨3, .phase⟩, ⟨4, .phase⟩, ⟨5, .phase⟩, ⟨6, .phase⟩, ⟨7, .phase⟩, ⟨8, .phase⟩, ⟨9, .phase⟩, ⟨10, .phase⟩, ⟨11, .phase⟩, ⟨12, .phase⟩, ⟨13, .phase⟩, ⟨14, .phase⟩, ⟨15, .phase⟩], none⟩
theorem refDays_any (v : Value) (l : List LF) (w : World) (hv : LeavesAt w v l) (hl : LsOk l) (hn : l.length ≤ 100) :
  Calls Tryz.prog 138 #[v] w fun e w' => ∃ v' : Value, e = .returned (.tuple #[v', .int .i64 (if 400 < (posR l).length then 8 else 0)]) ∧ RunsAt w' v' (if 400 < (posR l).length then [] else posR l) ∧ Kp w w' := by
 have hm := hv.len
 unfold maxLen at hm
 obtain ⟨ad, cp, rfl⟩ := hv.slice
 have HV := Hd hv
 have HL := Hd hl
 have PN := Hd (fun k (h : k < l.length) g => preR_no h g)
 have PY := Hd (fun k (h : k < l.length) g => preR_yes h g)
 have PE := Hd (preR_all l)
 have PL := Hd (fun k => preR_len hl k)
 have PS := Hd (fun k => show sane (preR l k) from nf_sane _)
 have Z0 := Hd (Kp.refl w)
 have R0 := Hd (show RunsAt w (.slice none 0 0) (preR l 0) from .inl ⟨_, _, rfl, rfl⟩)
 clear hv hl
 generalize preR l = PP at *
 generalize posR l = D at *
 obtain ⟨en, hen⟩ : ∃ x : Int, (if 400 < D.length then (8 : Int) else 0) = x := ⟨_, rfl⟩
 obtain ⟨RL, hrl⟩ : ∃ x : List R, (if 400 < D.length then [] else D) = x := ⟨_, rfl⟩
 rw [hen, hrl]
 have HEN := Hd hen
 have HRL := Hd hrl
 clear hen hrl
 go_enter Tryz.func138, Tryz.ntmps138
 go_wp2
 go_loopw [4, 5] (fun q i wr => ∃ k : Nat, k ≤ l.length ∧ i = .int .i64 k ∧ Hid (RunsAt wr q (PP k)) ∧ Hid (Kp w wr)) (fun _ i _ => l.length - (intOf i).toNat)
 case atStart => exact ⟨0, Nat.zero_le _, rfl, R0, Z0⟩
 case round =>
  obtain ⟨k, hk, rfl, RO, J⟩ := hrel
  obtain ⟨qa, qc, rfl⟩ := RO.out.slice
  by_cases hlt : k < l.length
  ·rcases HV.out.kp J.out with ⟨_, _, _, e⟩ | ⟨b0, off, cap, ev, hc, hmx, hx⟩
   ·rw [e] at hlt; simp at hlt
   cases ev
   obtain ⟨va, vb, d0, d1, d2, d3, ra, rb⟩ := hx k hlt
   have LOK := HL.out _ (lat_mem hlt)
   obtain ⟨f, hf⟩ : ∃ f, lat l k = f := ⟨_, rfl⟩
   rw [hf] at d0 d1 ra rb
   (try rw [hf] at LOK)
   obtain ⟨sp, u, a, b⟩ := f
   simp only at d0 d1 ra rb
   (try simp only at LOK)
   obtain ⟨aa, ca, rfl⟩ := ra.slice
   obtain ⟨ab, cb, rfl⟩ := rb.slice
   have HF := Hd hf
   have z1 : (k : Int) < (l.length : Int) := by omega
   have z2 : (0 : Int) ≤ (k : Int) := by omega
   clear hx hc hmx hf
   have ok : LeafOk wr ⟨sp, u, a, b⟩ _ _ := ⟨ra, rb, LOK.1, LOK.2.1, LOK.2.2.1, LOK.2.2.2⟩
   have C := Hd (fun w1 (kk : Kp wr w1) => refTidy_any ⟨sp, u, a, b⟩ _ _ w1 (ok.kp kk))
   have fk := famR_ok ⟨sp, u, a, b⟩
   have pn := PN.out k hlt
   have py0 := PY.out k hlt
   have pl := PL.out k
   have ps := sane_i64 (PS.out k)
   rw [HF.out] at pn py0
   unfold fullB at pn py0
   have fl := famR_len (f := ⟨sp, u, a, b⟩) LOK.2.2.1 LOK.2.2.2
   simp only [leafV] at C
   generalize famR ⟨sp, u, a, b⟩ = F at *
   have dl := dayR_len fl
   have KR := Hd (Kp.refl wr)
   clear ra rb ok
   rcases Bool.eq_false_or_eq_true (emptyF F) with h0 | h0
   ·rw [lfOf_none h0] at C
    simp only [lf0] at C
    have a2 := Hd (pn (by rw [h0]; rfl))
    clear pn py0 fk fl h0 dl
    go_wp2_with fail
    refine (C.out _ (ky KR.out)).mono ?_
    rintro e w1 ⟨ga, gb, rfl, okg, kk⟩
    have kz := (show Kp wr _ from (ky KR.out)).trans kk
    obtain ⟨aa', c1', e1⟩ := okg.a.slice
    obtain ⟨ab', c2', e2⟩ := okg.b.slice
    simp only [List.length_nil] at e1 e2
    subst e1 e2
    obtain ⟨V, hV⟩ : ∃ x, x = w1.alloc (.cells #[.bool false, .int .i64 0, .slice aa' 0 c1', .slice ab' 0 c2'] 44) := ⟨_, rfl⟩
    have ka : Kp w1 V := by rw [hV]; exact Kp.alloc _ _
    have hgq : V.heap[w1.heap.size]? = some (.cells #[.bool false, .int .i64 0, .slice aa' 0 c1', .slice ab' 0 c2'] 44 (0, 0)) := by rw [hV]; exact heap_at _ _ _ rfl
    have g0 : V.cell? ⟨w1.heap.size, 0, none⟩ = some (.bool false) := by simp [World.cell?, hgq]
    have g1 : V.cell? ⟨w1.heap.size, 1, none⟩ = some (.int .i64 0) := by simp [World.cell?, hgq]
    have g2 : V.cell? ⟨w1.heap.size, 2, none⟩ = some (.slice aa' 0 c1') := by simp [World.cell?, hgq]
    have g3 : V.cell? ⟨w1.heap.size, 3, none⟩ = some (.slice ab' 0 c2') := by simp [World.cell?, hgq]
    have HB := Hd (fun w' (kq : Kp V w') => show w'.cell? ⟨w1.heap.size, 0, none⟩ = some (.bool false) ∧ w'.cell? ⟨w1.heap.size, 1, none⟩ = some (.int .i64 0) ∧ w'.cell? ⟨w1.heap.size, 2, none⟩ = some (.slice aa' 0 c1') ∧ w'.cell? ⟨w1.heap.size, 3, none⟩ = some (.slice ab' 0 c2') ∧ Kp V w' from ⟨cell_up kq g0, cell_up kq g1, cell_up kq g2, cell_up kq g3, kq⟩)
    have KV := Hd (kz.trans ka)
    have HV2 := Hd hV
    have OKV := Hd (okg.kp ka)
    have ZV := Hd (Kp.refl V)
    have ROV := Hd (RO.out.kp (kz.trans ka))
    clear hV ka kz kk C hgq g0 g1 g2 g3 okg d0 d1 d2 d3
    have R6 := Hd (show RunsAt V _ (PP (k + 1)) by rw [a2.out]; exact ROV.out)
    have J6 := Hd (J.out.trans KV.out)
    go_wp2_with fail
    rw [← HV2.out]
    obtain ⟨c0, c1, c2, c3, _⟩ := HB.out V (Kp.refl _)
    go_wp2
    go_roundw
    case rel => exact ⟨k + 1, by omega, by go_num, R6, J6⟩
    case measure => simp [intOf]; omega
   ·have py := Hd (py0 (by rw [h0]; rfl))
    have ds := dayR_sane fk h0
    cases F with
    | units k' s =>
     have h1 : ¬ s.length = 0 := of_decide_eq_false h0
     rw [lfOf_u1 h1] at C
     clear pn py0 fk h0
     go_wp2_with fail
     refine (C.out _ (ky KR.out)).mono ?_
     rintro e w1 ⟨ga, gb, rfl, okg, kk⟩
     have kz := (show Kp wr _ from (ky KR.out)).trans kk
     obtain ⟨aa', c1', e1⟩ := okg.a.slice
     obtain ⟨ab', c2', e2⟩ := okg.b.slice
     simp only [List.length_nil] at e1 e2
     subst e1 e2
     have na := okg.na
     simp only at na
     have q0 : ((s.length : Int) == 0) = false := beq_eq_false_iff_ne.2 (by omega)
     obtain ⟨V, hV⟩ : ∃ x, x = w1.alloc (.cells #[.bool false, .int .i64 k', .slice aa' s.length c1', .slice ab' 0 c2'] 44) := ⟨_, rfl⟩
     have ka : Kp w1 V := by rw [hV]; exact Kp.alloc _ _
     have hgq : V.heap[w1.heap.size]? = some (.cells #[.bool false, .int .i64 k', .slice aa' s.length c1', .slice ab' 0 c2'] 44 (0, 0)) := by rw [hV]; exact heap_at _ _ _ rfl
     have g0 : V.cell? ⟨w1.heap.size, 0, none⟩ = some (.bool false) := by simp [World.cell?, hgq]
     have g1 : V.cell? ⟨w1.heap.size, 1, none⟩ = some (.int .i64 k') := by simp [World.cell?, hgq]
     have g2 : V.cell? ⟨w1.heap.size, 2, none⟩ = some (.slice aa' s.length c1') := by simp [World.cell?, hgq]
     have g3 : V.cell? ⟨w1.heap.size, 3, none⟩ = some (.slice ab' 0 c2') := by simp [World.cell?, hgq]
     have HB := Hd (fun w' (kq : Kp V w') => show w'.cell? ⟨w1.heap.size, 0, none⟩ = some (.bool false) ∧ w'.cell? ⟨w1.heap.size, 1, none⟩ = some (.int .i64 k') ∧ w'.cell? ⟨w1.heap.size, 2, none⟩ = some (.slice aa' s.length c1') ∧ w'.cell? ⟨w1.heap.size, 3, none⟩ = some (.slice ab' 0 c2') ∧ Kp V w' from ⟨cell_up kq g0, cell_up kq g1, cell_up kq g2, cell_up kq g3, kq⟩)
     have KV := Hd (kz.trans ka)
     have HV2 := Hd hV
     have OKV := Hd (okg.kp ka)
     have ZV := Hd (Kp.refl V)
     have ROV := Hd (RO.out.kp (kz.trans ka))
     clear hV ka kz kk C hgq g0 g1 g2 g3 okg d0 d1 d2 d3
     have CV := Hd (fun w2 (kk : Kp V w2) => rcover_any k' _ s w2 (OKV.out.a.kp kk) OKV.out.ia (by omega))
     have CU := Hd (fun v w2 (kk : Kp V w2) (r : RunsAt w2 v (dayR (.units k' s))) => runion_any _ v (PP k) (dayR (.units k' s)) w2 (ROV.out.kp kk) r ps ds (by omega))
     rw [show dayR (.units k' s) = coverR k' s from rfl] at CU py
     generalize coverR k' s = E at *
     clear ds dl ps pl fl h1
     go_wp2_with fail
     rw [← HV2.out]
     obtain ⟨c0, c1, c2, c3, _⟩ := HB.out V (Kp.refl _)
     refine (CV.out _ (ky ZV.out)).mono ?_
     rintro e w4 ⟨v4, rfl, r4, kk⟩
     have K4 := Hd ((show Kp V _ from (ky ZV.out)).trans kk)
     have R4 := Hd r4
     obtain ⟨a4, cx4, rfl⟩ := r4.slice
     clear r4 kk c0 c1 c2 c3
     obtain ⟨c0, c1, c2, c3, _⟩ := HB.out w4 K4.out
     go_wp2_with fail
     refine (CU.out _ _ ((ky K4.out)) (R4.out.kp kx)).mono ?_
     rintro e w5 ⟨v5, rfl, r5, kk⟩
     have R5 := Hd (show RunsAt w5 v5 (PP (k + 1)) by rw [← py.out]; exact r5)
     have J5 := Hd (J.out.trans (KV.out.trans (Kp.trans (show Kp V _ from (ky K4.out)) kk)))
     clear kk r5
     go_wp2
     go_roundw
     case rel => exact ⟨k + 1, by omega, by go_num, R5, J5⟩
     case measure => simp [intOf]; omega
    | span s t =>
     have h1 : ¬ s.length = 0 := of_decide_eq_false h0
     rw [lfOf_s1 h1] at C
     have l1 : 0 < t.length := by
      obtain ⟨m, hm, _⟩ := fk.2.2.1 _ (least_mem (setB_sane fk.1) (by omega))
      exact mem_pos hm
     rw [show dayR (.span s t) = [(leastR s, greatR t)] from rfl] at py ds dl
     clear pn py0 fk h0
     go_wp2_with fail
     refine (C.out _ (ky KR.out)).mono ?_
     rintro e w1 ⟨ga, gb, rfl, okg, kk⟩
     have kz := (show Kp wr _ from (ky KR.out)).trans kk
     obtain ⟨ba, oa, c1', ev, x0, x1⟩ := ends_at okg.a (by simp only; omega)
     simp only at ev x0 x1
     subst ev
     obtain ⟨bb, ob, c2', ev, y0, y1⟩ := ends_at okg.b (by simp only; omega)
     simp only at ev y0 y1
     subst ev
     have na := okg.na
     have nb := okg.nb
     simp only at na nb
     have q0 : ((s.length : Int) == 0) = false := beq_eq_false_iff_ne.2 (by omega)
     have wz : 0 < s.length := by omega
     have wt : (t.length : Int) - 1 = ((t.length - 1 : Nat) : Int) := by omega
     have wu : IntKind.i64.wrap ((t.length - 1 : Nat) : Int) = ((t.length - 1 : Nat) : Int) := IntWalk.i64_in _ (by omega)
     have wx : t.length - 1 < t.length := by omega
     have wy : ((t.length - 1 : Nat) : Int) < (t.length : Int) := by omega
     have wv : (0 : Int) ≤ ((t.length - 1 : Nat) : Int) := by omega
     clear x1 y0 h1
     generalize leastR s = x at *
     generalize greatR t = y at *
     obtain ⟨V, hV⟩ : ∃ x, x = w1.alloc (.cells #[.bool true, .int .i64 0, .slice (some ⟨ba, oa, none⟩) s.length c1', .slice (some ⟨bb, ob, none⟩) t.length c2'] 44) := ⟨_, rfl⟩
     have ka : Kp w1 V := by rw [hV]; exact Kp.alloc _ _
     have hgq : V.heap[w1.heap.size]? = some (.cells #[.bool true, .int .i64 0, .slice (some ⟨ba, oa, none⟩) s.length c1', .slice (some ⟨bb, ob, none⟩) t.length c2'] 44 (0, 0)) := by rw [hV]; exact heap_at _ _ _ rfl
     have g0 : V.cell? ⟨w1.heap.size, 0, none⟩ = some (.bool true) := by simp [World.cell?, hgq]
     have g1 : V.cell? ⟨w1.heap.size, 1, none⟩ = some (.int .i64 0) := by simp [World.cell?, hgq]
     have g2 : V.cell? ⟨w1.heap.size, 2, none⟩ = some (.slice (some ⟨ba, oa, none⟩) s.length c1') := by simp [World.cell?, hgq]
     have g3 : V.cell? ⟨w1.heap.size, 3, none⟩ = some (.slice (some ⟨bb, ob, none⟩) t.length c2') := by simp [World.cell?, hgq]
     have HB := Hd (fun w' (kq : Kp V w') => show w'.cell? ⟨w1.heap.size, 0, none⟩ = some (.bool true) ∧ w'.cell? ⟨w1.heap.size, 1, none⟩ = some (.int .i64 0) ∧ w'.cell? ⟨w1.heap.size, 2, none⟩ = some (.slice (some ⟨ba, oa, none⟩) s.length c1') ∧ w'.cell? ⟨w1.heap.size, 3, none⟩ = some (.slice (some ⟨bb, ob, none⟩) t.length c2') ∧ w'.cell? ⟨ba, oa, none⟩ = some (.int .i64 x) ∧ w'.cell? ⟨bb, ob + (t.length - 1) * 2 + 1, none⟩ = some (.int .i64 y) ∧ Kp V w' from ⟨cell_up kq g0, cell_up kq g1, cell_up kq g2, cell_up kq g3, cell_up (ka.trans kq) x0, cell_up (ka.trans kq) y1, kq⟩)
     have KV := Hd (kz.trans ka)
     have HV2 := Hd hV
     have OKV := Hd (okg.kp ka)
     have ZV := Hd (Kp.refl V)
     have ROV := Hd (RO.out.kp (kz.trans ka))
     clear hV ka kz kk C hgq g0 g1 g2 g3 okg d0 d1 d2 d3 x0 y1
     have CV := Hd (fun w2 (kk : Kp V w2) => rcover_any 0 _ s w2 (OKV.out.a.kp kk) OKV.out.ia (by omega))
     have CU := Hd (fun v w2 (kk : Kp V w2) (r : RunsAt w2 v [(x, y)]) => runion_any _ v (PP k) [(x, y)] w2 (ROV.out.kp kk) r ps ds (by simp only [List.length_singleton]; omega))
     generalize coverR 0 s = E at *
     clear ds dl ps pl fl l1
     go_wp2_with fail
     rw [← HV2.out]
     obtain ⟨c0, c1, c2, c3, c4, c5, _⟩ := HB.out V (Kp.refl _)
     refine (CV.out _ (ky ZV.out)).mono ?_
     rintro e w4 ⟨v4, rfl, r4, kk⟩
     have K4 := Hd ((show Kp V _ from (ky ZV.out)).trans kk)
     obtain ⟨a4, cx4, rfl⟩ := r4.slice
     clear r4 kk c0 c1 c2 c3 c4 c5
     obtain ⟨c0, c1, c2, c3, c4, c5, _⟩ := HB.out w4 K4.out
     go_wp2_with fail
     refine wp_region_held_drew (S := fun w' => w'.cell? ⟨w1.heap.size, 0, none⟩ = some (.bool true) ∧ w'.cell? ⟨w1.heap.size, 1, none⟩ = some (.int .i64 0) ∧ w'.cell? ⟨w1.heap.size, 2, none⟩ = some (.slice (some ⟨ba, oa, none⟩) s.length c1') ∧ w'.cell? ⟨w1.heap.size, 3, none⟩ = some (.slice (some ⟨bb, ob, none⟩) t.length c2') ∧ w'.cell? ⟨ba, oa, none⟩ = some (.int .i64 x) ∧ w'.cell? ⟨bb, ob + (t.length - 1) * 2 + 1, none⟩ = some (.int .i64 y) ∧ Kp V w') (by kernel_rfl) ?_ (fun hHeld0 => ?_)
     ·(try dsimp only); first | exact HB.out _ kw | exact HB.out _ (Kp.trans (show Kp V _ from kw) (Kp.alloc _ _)) | exact HB.out _ K4.out | exact HB.out _ (K4.out.trans (Kp.drew _)) | exact HB.out _ (K4.out.trans (Kp.alloc _ _)) | exact HB.out _ ((K4.out.trans (Kp.alloc _ _)).trans (Kp.drew _))
     refine tkv 0 rD0 ?_
     (try simp only [Act.put, rD0, xA, xB, xC])
     refine tkv 1 rD1 ?_
     (try simp only [Act.put, rD1, xA, xB, xC])
     refine tkv 2 rD2 ?_
     (try simp only [Act.put, rD2, xA, xB, xC])
     refine tkv 3 rD3 ?_
     (try simp only [Act.put, rD3, xA, xB, xC])
     refine tkv 4 rD4 ?_
     (try simp only [Act.put, rD4, xA, xB, xC])
     refine tkv 5 rD5 ?_
     (try simp only [Act.put, rD5, xA, xB, xC])
     refine tkv 6 rD6 ?_
     (try simp only [Act.put, rD6, xA, xB, xC])
     refine tkv 7 rD7 ?_
     (try simp only [Act.put, rD7, xA, xB, xC])
     refine tkv 8 rD8 ?_
     (try simp only [Act.put, rD8, xA, xB, xC])
     refine tkv 9 rD9 ?_
     (try simp only [Act.put, rD9, xA, xB, xC])
     refine tkv 10 rD10 ?_
     (try simp only [Act.put, rD10, xA, xB, xC])
     refine tkv 11 rD11 ?_
     (try simp only [Act.put, rD11, xA, xB, xC])
     refine tkv 12 rD12 ?_
     (try simp only [Act.put, rD12, xA, xB, xC])
     refine tkv 13 rD13 ?_
     (try simp only [Act.put, rD13, xA, xB, xC])
     refine tkv 14 rD14 ?_
     (try simp only [Act.put, rD14, xA, xB, xC])
     refine tkE 15 rD15 rfl (by kernel_rfl) (fun K hK => ?_)
     go_simp
     skip
     (try go_wp2_with fail)
     refine hK.out _ _ ?_ (fun hHeld1 => ?_)
     ·(try dsimp only); first | exact HB.out _ kw | exact HB.out _ (Kp.trans (show Kp V _ from kw) (Kp.alloc _ _)) | exact HB.out _ K4.out | exact HB.out _ (K4.out.trans (Kp.drew _)) | exact HB.out _ (K4.out.trans (Kp.alloc _ _)) | exact HB.out _ ((K4.out.trans (Kp.alloc _ _)).trans (Kp.drew _))
     clear hK K hHeld0
     (try simp only [Act.put, rD15, xA, xB, xC])
     refine tkv 16 rD16 ?_
     (try simp only [Act.put, rD16, xA, xB, xC])
     refine wpAnyH_done (by kernel_rfl) ?_ _
     go_wp2_with fail
     refine (CU.out _ _ ((K4.out.trans (Kp.alloc _ _)).trans (Kp.drew _)) ((one_at w4 x y 42).kp (Kp.drew _))).mono ?_
     rintro e w5 ⟨v5, rfl, r5, kk⟩
     have R5 := Hd (show RunsAt w5 v5 (PP (k + 1)) by rw [← py.out]; exact r5)
     have J5 := Hd (J.out.trans (KV.out.trans (Kp.trans (show Kp V _ from (K4.out.trans (Kp.alloc _ _)).trans (Kp.drew _)) kk)))
     clear kk r5
     go_wp2
     go_roundw
     case rel => exact ⟨k + 1, by omega, by go_num, R5, J5⟩
     case measure => simp [intOf]; omega
  ·obtain rfl : k = l.length := by omega
   have pe := PE.out
   subst pe
   have e1 : decide ((400 : Int) < ((PP l.length).length : Int)) = decide (400 < (PP l.length).length) := by
    by_cases h : 400 < (PP l.length).length
    ·rw [decide_eq_true h, dT]
    ·rw [decide_eq_false h, dF]
   by_cases h : 400 < (PP l.length).length
   ·have hen := HEN.out
    have hrl := HRL.out
    rw [if_pos h] at hen hrl
    subst hen hrl
    have e2 := decide_eq_true h
    rw [e2] at e1
    clear h HEN HRL
    go_wp2
    exact bodyPost_ret (results_tmp2 rfl _ _ _) rfl ⟨_, rfl, .inl ⟨_, _, rfl, rfl⟩, J.out⟩
   ·have hen := HEN.out
    have hrl := HRL.out
    rw [if_neg h] at hen hrl
    subst hen hrl
    have e2 := decide_eq_false h
    rw [e2] at e1
    clear h HEN HRL
    go_wp2
    exact bodyPost_ret (results_tmp2 rfl _ _ _) rfl ⟨_, rfl, RO.out, J.out⟩
end Go.Proofs.YtcooaoponkkpeaaGreatDoor
