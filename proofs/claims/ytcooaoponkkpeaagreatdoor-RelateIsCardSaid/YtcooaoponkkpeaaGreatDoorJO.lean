import Derived.Test.YtcooaoponkkpeaaGreatDoorGBa
import Derived.Deep.SlicePairs
import Derived.Deep.Slices
import Derived.WideShapes
import Derived.ChangeArms
import Derived.Carry
import Derived.Test.YtcooaoponkkpeaaGreatDoorGLeafA
import Derived.Lib.SmallJoins
import Derived.Test.YtcooaoponkkpeaaGreatDoorJI
import Derived.Shelf.Abstract
import Derived.LoopTactic
import Derived.Deep.RegionHeld3
import Derived.Laws.EntriesVeiled
import Derived.Test.YtcooaoponkkpeaaGreatDoorGSetA
set_option maxHeartbeats 16000000
set_option maxRecDepth 100000
namespace Go.Proofs.YtcooaoponkkpeaaGreatDoor
open Go.RowKit Go.ChangeShapes Go.WideShapes Go.Deep
set_option linter.unusedVariables false
set_option linter.unusedSimpArgs false
section
variable {H : Type} {enc : TypeId × Value → H} {W : World} {v : Value} {d : DataW H} {p : List MemPlace} {base : Nat}
theorem cellsOfRun : Tryz.prog.cellsOf 42 = 2 := by kernel_rfl
theorem cellsOfInt : Tryz.prog.cellsOf 3 = 1 := by kernel_rfl
theorem open_runs (hv : Value.okWide Tryz.prog W .any base 34 v) (h : DataW.Trod enc Tryz.prog W 0 (fun _ => true) true 34 v d p) : ∃ l, RunsAt W v l ∧ I64R l := by
 obtain ⟨ad, ln, cp, rfl⟩ := okWide_slice Tryz.underlying34 hv
 obtain ⟨fuel, hf⟩ := h
 rcases open_slice_pairs Tryz.underlying34 Tryz.underlying42 cellsOfRun rfl rfl cellsOfInt cellsOfInt hf with ⟨hc, _⟩ | ⟨a, len, cap, m, k, V0, V1, D0, D1, P0, P1, hc, _, hl, hm, hmm, _, hall⟩
 ·simp [Value.cells] at hc
  obtain ⟨rfl, rfl, rfl⟩ := hc
  exact ⟨[], .inl ⟨_, _, rfl, rfl⟩, fun r h => by cases h⟩
 ·simp [Value.cells] at hc
  obtain ⟨rfl, rfl, rfl⟩ := hc
  simp only [if_true] at hmm
  subst hmm
  by_cases h0 : ln = 0
  ·subst h0
   exact ⟨[], .inl ⟨_, _, rfl, rfl⟩, fun r h => by cases h⟩
  ·obtain ⟨b, off, sp⟩ := a
   have hs : sp = none := by simpa [Addr.add] using World.cell?_spot (hall 0 (by omega)).1
   subst hs
   have each : ∀ i, i < ln → ∃ x y : Int, V0 i = .int .i64 x ∧ V1 i = .int .i64 y ∧ (Lit.int .i64 x).wf = true ∧ (Lit.int .i64 y).wf = true := by
    intro i hi
    obtain ⟨_, _, t0, t1⟩ := hall i (by omega)
    obtain ⟨x, e0, _, wx⟩ := DataW.trod_int Tryz.underlying3 t0
    obtain ⟨y, e1, _, wy⟩ := DataW.trod_int Tryz.underlying3 t1
    simp only [List.cons.injEq, and_true] at e0 e1
    exact ⟨x, y, e0, e1, wx, wy⟩
   let f : Nat → Value → Int := fun _ u => match u with | .int _ x => x | _ => 0
   let l : List R := (List.range ln).map fun i => (f i (V0 i), f i (V1 i))
   have ll : l.length = ln := by simp [l]
   have la : ∀ i, i < ln → at_ l i = (f i (V0 i), f i (V1 i)) := by
    intro i hi
    unfold at_
    simp [l, List.getD, hi]
   refine ⟨l, .inr ⟨b, off, m, by rw [ll], by rw [ll]; exact hl, hm, fun i hi => ?_⟩, fun r hr => ?_⟩
   ·rw [ll] at hi
    obtain ⟨x, y, e0, e1, _, _⟩ := each i hi
    obtain ⟨c0, c1, _, _⟩ := hall i (by omega)
    rw [la i hi]
    rw [Addr.add_lit] at c0 c1
    rw [e0] at c0
    rw [e1] at c1
    rw [e0, e1]
    exact ⟨c0, c1⟩
   ·simp only [l, List.mem_map, List.mem_range] at hr
    obtain ⟨i, hi, rfl⟩ := hr
    obtain ⟨x, y, e0, e1, wx, wy⟩ := each i hi
    rw [e0, e1]
    exact ⟨(wf_bd wx).1, (wf_bd wx).2, (wf_bd wy).1, (wf_bd wy).2⟩
end
open Go.RowKit Go.ChangeShapes Go.WideShapes Go.Deep Go.Joins
section
variable {H : Type} {enc : TypeId × Value → H} {W : World} {v : Value} {d : DataW H} {p : List MemPlace} {base : Nat}
theorem runs_trod {fuel : Nat} {y : DataW H × List MemPlace} (hf : DataW.trod enc Tryz.prog W 0 (fun _ => true) true fuel 34 [v] = some y) : ∃ l, RunsAt W v l ∧ I64R l := by
 rcases open_slice_pairs Tryz.underlying34 Tryz.underlying42 cellsOfRun rfl rfl cellsOfInt cellsOfInt hf with ⟨hc, _⟩ | ⟨a, ln, cp, m, k, V0, V1, D0, D1, P0, P1, hc, _, hl, hm, hmm, _, hall⟩
 ·simp at hc
  subst hc
  exact ⟨[], .inl ⟨_, _, rfl, rfl⟩, fun r h => by cases h⟩
 ·simp at hc
  subst hc
  simp only [if_true] at hmm
  subst hmm
  by_cases h0 : ln = 0
  ·subst h0
   exact ⟨[], .inl ⟨_, _, rfl, rfl⟩, fun r h => by cases h⟩
  ·obtain ⟨b, off, sp⟩ := a
   have hs : sp = none := by simpa [Addr.add] using World.cell?_spot (hall 0 (by omega)).1
   subst hs
   have each : ∀ i, i < ln → ∃ x y : Int, V0 i = .int .i64 x ∧ V1 i = .int .i64 y ∧ (Lit.int .i64 x).wf = true ∧ (Lit.int .i64 y).wf = true := by
    intro i hi
    obtain ⟨_, _, t0, t1⟩ := hall i (by omega)
    obtain ⟨x, e0, _, wx⟩ := DataW.trod_int Tryz.underlying3 t0
    obtain ⟨y, e1, _, wy⟩ := DataW.trod_int Tryz.underlying3 t1
    simp only [List.cons.injEq, and_true] at e0 e1
    exact ⟨x, y, e0, e1, wx, wy⟩
   let f : Nat → Value → Int := fun _ u => match u with | .int _ x => x | _ => 0
   let l : List R := (List.range ln).map fun i => (f i (V0 i), f i (V1 i))
   have ll : l.length = ln := by simp [l]
   have la : ∀ i, i < ln → at_ l i = (f i (V0 i), f i (V1 i)) := by
    intro i hi
    unfold at_
    simp [l, List.getD, hi]
   refine ⟨l, .inr ⟨b, off, m, by rw [ll], by rw [ll]; exact hl, hm, fun i hi => ?_⟩, fun r hr => ?_⟩
   ·rw [ll] at hi
    obtain ⟨x, y, e0, e1, _, _⟩ := each i hi
    obtain ⟨c0, c1, _, _⟩ := hall i (by omega)
    rw [la i hi]
    rw [Addr.add_lit] at c0 c1
    rw [e0] at c0
    rw [e1] at c1
    rw [e0, e1]
    exact ⟨c0, c1⟩
   ·simp only [l, List.mem_map, List.mem_range] at hr
    obtain ⟨i, hi, rfl⟩ := hr
    obtain ⟨x, y, e0, e1, wx, wy⟩ := each i hi
    rw [e0, e1]
    exact ⟨(wf_bd wx).1, (wf_bd wx).2, (wf_bd wy).1, (wf_bd wy).2⟩
theorem cellsOfLeaf : Tryz.prog.cellsOf 44 = 4 := by kernel_rfl
end
instance instLF : Inhabited LF := ⟨⟨false, 0, [], []⟩⟩
def lat (l : List LF) (i : Nat) : LF := l.getD i ⟨false, 0, [], []⟩
theorem lat_mem {l : List LF} {k : Nat} (h : k < l.length) : lat l k ∈ l := by
 unfold lat
 rw [List.getD_eq_getElem?_getD, List.getElem?_eq_getElem h]
 exact List.getElem_mem h
theorem take_lat (l : List LF) (k : Nat) (h : k < l.length) : l.take (k + 1) = l.take k ++ [lat l k] := by
 rw [List.take_succ_eq_append_getElem h]
 unfold lat
 simp [List.getD, h]
def LeafCells (w : World) (b o : Nat) (f : LF) : Prop := ∃ va vb, w.cell? ⟨b, o, none⟩ = some (.bool f.sp) ∧ w.cell? ⟨b, o + 1, none⟩ = some (.int .i64 f.u) ∧ w.cell? ⟨b, o + 2, none⟩ = some va ∧ w.cell? ⟨b, o + 3, none⟩ = some vb ∧ RunsAt w va f.a ∧ RunsAt w vb f.b
theorem LeafCells.kp {w w' : World} {b o : Nat} {f : LF} (h : LeafCells w b o f) (k : Kp w w') : LeafCells w' b o f := by
 obtain ⟨va, vb, c0, c1, c2, c3, ra, rb⟩ := h
 exact ⟨va, vb, cell_up k c0, cell_up k c1, cell_up k c2, cell_up k c3, ra.kp k, rb.kp k⟩
def LeavesAt (w : World) (v : Value) (l : List LF) : Prop :=
 (∃ ad c, v = .slice ad 0 c ∧ l = []) ∨
 ∃ b off cap, v = .slice (some ⟨b, off, none⟩) l.length cap ∧ l.length ≤ cap ∧ cap ≤ maxLen ∧ ∀ i, i < l.length → LeafCells w b (off + i * 4) (lat l i)
theorem LeavesAt.slice {w : World} {v : Value} {l : List LF} (h : LeavesAt w v l) : ∃ ad c, v = .slice ad l.length c := by
 rcases h with ⟨ad, c, rfl, rfl⟩ | ⟨b, off, cap, rfl, _⟩
 ·exact ⟨ad, c, rfl⟩
 ·exact ⟨_, cap, rfl⟩
theorem LeavesAt.kp {w w' : World} {v : Value} {l : List LF} (h : LeavesAt w v l) (k : Kp w w') : LeavesAt w' v l := by
 rcases h with h | ⟨b, off, cap, e, hc, hm, hx⟩
 ·exact .inl h
 ·exact .inr ⟨b, off, cap, e, hc, hm, fun i hi => (hx i hi).kp k⟩
theorem LeavesAt.len {w : World} {v : Value} {l : List LF} (h : LeavesAt w v l) : l.length ≤ maxLen := by
 rcases h with ⟨_, _, _, rfl⟩ | ⟨b, off, cap, e, hc, hm, hx⟩
 ·simp
 ·omega
def LeafG (f : LF) : Prop := I64R f.a ∧ I64R f.b ∧ -9223372036854775808 ≤ f.u ∧ f.u ≤ 9223372036854775807
section
variable {H : Type} {enc : TypeId × Value → H} {W : World} {v : Value} {d : DataW H} {p : List MemPlace} {base : Nat}
theorem cellsOfBool : Tryz.prog.cellsOf 4 = 1 := by kernel_rfl
theorem cellsOfRuns : Tryz.prog.cellsOf 34 = 1 := by kernel_rfl
theorem open_leaves (hv : Value.okWide Tryz.prog W .any base 22 v) (h : DataW.Trod enc Tryz.prog W 0 (fun _ => true) true 22 v d p) : ∃ l, LeavesAt W v l ∧ ∀ f ∈ l, LeafG f := by
 obtain ⟨ad, ln, cp, rfl⟩ := okWide_slice Tryz.underlying22 hv
 obtain ⟨fuel, hf⟩ := h
 rcases open_slice Tryz.underlying22 hf with ⟨hc, _⟩ | ⟨a, len, cap, m, k, D, Pl, hc, _, hl, hm, hmm, _, hall⟩
 ·simp [Value.cells] at hc
  obtain ⟨rfl, rfl, rfl⟩ := hc
  exact ⟨[], .inl ⟨_, _, rfl, rfl⟩, fun r h => by cases h⟩
 ·simp [Value.cells] at hc
  obtain ⟨rfl, rfl, rfl⟩ := hc
  simp only [if_true] at hmm
  subst hmm
  by_cases h0 : ln = 0
  ·subst h0
   exact ⟨[], .inl ⟨_, _, rfl, rfl⟩, fun r h => by cases h⟩
  ·have each : ∀ i, i < ln → ∃ f : LF, (∃ va vb, W.cell? (a.add (i * 4)) = some (.bool f.sp) ∧ W.cell? (a.add (i * 4 + 1)) = some (.int .i64 f.u) ∧ W.cell? (a.add (i * 4 + 2)) = some va ∧ W.cell? (a.add (i * 4 + 3)) = some vb ∧ RunsAt W va f.a ∧ RunsAt W vb f.b) ∧ LeafG f := by
    intro i hi
    obtain ⟨cs', h1, h2⟩ := hall i (by omega)
    rw [cellsOfLeaf] at h1
    obtain ⟨_, hlen, hcell⟩ := World.cells?_some h1
    obtain ⟨xs, k', hk, hxy, _, hxl, hf'⟩ := DataW.trod_struct Tryz.underlying44 h2
    match xs, hxl, cs', hlen with
    | [y0, y1, y2, y3], _, [v0, v1, v2, v3], _ =>
     have g0 := hf' 0 _ rfl
     have g1 := hf' 1 _ rfl
     have g2 := hf' 2 _ rfl
     have g3 := hf' 3 _ rfl
     simp [cellsOfInt, cellsOfBool, cellsOfRuns] at g0 g1 g2 g3
     have e0 := hcell 0 (by omega)
     have e1 := hcell 1 (by omega)
     have e2 := hcell 2 (by omega)
     have e3 := hcell 3 (by omega)
     rw [add_add] at e0 e1 e2 e3
     obtain ⟨x0, q0, _⟩ := DataW.trod_bool Tryz.underlying4 g0
     obtain ⟨x1, q1, _, w1⟩ := DataW.trod_int Tryz.underlying3 g1
     obtain ⟨la, ra, ia⟩ := runs_trod g2
     obtain ⟨lb, rb, ib⟩ := runs_trod g3
     simp only [List.cons.injEq, and_true] at q0 q1
     subst q0 q1
     exact ⟨⟨x0, x1, la, lb⟩, ⟨v2, v3, by simpa using e0, by simpa using e1, by simpa using e2, by simpa using e3, ra, rb⟩, ia, ib, (wf_bd w1).1, (wf_bd w1).2⟩
   obtain ⟨T, hT⟩ := choose_lt each
   obtain ⟨b, off, sp⟩ := a
   have hs : sp = none := by
    obtain ⟨⟨va, vb, c0, _⟩, _⟩ := hT 0 (by omega)
    simpa [Addr.add] using World.cell?_spot c0
   subst hs
   refine ⟨(List.range ln).map T, .inr ⟨b, off, m, by simp, by simpa using hl, hm, fun i hi => ?_⟩, fun t ht => ?_⟩
   ·have hi' : i < ln := by simpa using hi
    have e : lat ((List.range ln).map T) i = T i := by unfold lat; simp [List.getD, hi']
    rw [e]
    obtain ⟨⟨va, vb, c0, c1, c2, c3, ra, rb⟩, _⟩ := hT i hi'
    rw [Addr.add_lit] at c0 c1 c2 c3
    exact ⟨va, vb, c0, c1, c2, c3, ra, rb⟩
   ·simp only [List.mem_map, List.mem_range] at ht
    obtain ⟨i, hi, rfl⟩ := ht
    exact (hT i hi).2
end
open Go.RowKit
theorem hasF_le {F : Fam} (h : FOK F) {S T : Int} (g : hasF F S T = true) : S ≤ T ∧ 0 ≤ S ∧ T ≤ 3652424 := by
 cases F with
 | units k s =>
  obtain ⟨i, m, rfl, rfl⟩ := (hasF_units h S T).1 g
  obtain ⟨a, b⟩ := setB_mem h m
  have := span_bd a b
  omega
 | span s e =>
  obtain ⟨a, b, c⟩ := (hasF_span (setB_sane h.1) (setB_sane h.2.1) S T).1 g
  have := setB_mem h.1 b
  have := setB_mem h.2.1 c
  rw [cnt_zero] at *
  omega
theorem hasF_un {f : LF} (h : leafB f = true) (hs : f.sp = false) (S T : Int) : hasF (famR f) S T = true ↔ ∃ i, memR f.a i ∧ fst f.u i = S ∧ lst f.u i = T := by
 rw [famR_units h hs]
 exact hasF_units (leafB_units h hs).2.1 S T
def fewB (f : LF) : Bool := decide (f.a.length ≤ 40) && decide (f.b.length ≤ 40)
theorem few_any (f : LF) (va vb : Value) (w : World) (ra : RunsAt w va f.a) (rb : RunsAt w vb f.b) :
  Calls Tryz.prog 49 #[leafV f va vb] w fun e w' => e = .returned (.bool (fewB f)) ∧ Kp w w' := by
 obtain ⟨sp, u, a, b⟩ := f
 obtain ⟨ad, ca, rfl⟩ := ra.slice
 obtain ⟨bd, cb, rfl⟩ := rb.slice
 rw [show fewB ⟨sp, u, a, b⟩ = (decide (a.length ≤ 40) && decide (b.length ≤ 40)) from rfl]
 unfold leafV
 simp only
 clear ra rb
 have E : ∀ n : Nat, decide ((n : Int) ≤ 40) = decide (n ≤ 40) := fun n => by
  by_cases h : n ≤ 40
  ·rw [decide_eq_true h, dT]
  ·rw [decide_eq_false h, dF]
 have e1 := E a.length
 have e2 := E b.length
 generalize decide (a.length ≤ 40) = x at *
 generalize decide (b.length ≤ 40) = y at *
 clear E
 cases x
 all_goals
  go_enter Tryz.func49, Tryz.ntmps49
  go_wp2
  go_ret
  exact ⟨by simp [e2], Kp.alloc _ _⟩
theorem fewB_yes {f : LF} (h : fewB f = true) : f.a.length ≤ 40 ∧ f.b.length ≤ 40 := by
 unfold fewB at h
 simpa using h
def LsOk (l : List LF) : Prop := ∀ f ∈ l, I64R f.a ∧ I64R f.b ∧ f.a.length ≤ 1000 ∧ f.b.length ≤ 1000
theorem fir_day {n : Int} (h : 0 ≤ n ∧ n < cnt 0) : firV 0 n = n := by rw [firV_yes h.1 h.2, fst_zero]
theorem las_day {n : Int} (h : 0 ≤ n ∧ n < cnt 0) : lasV 0 n = n := by rw [lasV_yes h.1 h.2, lst_zero]
def fullB (f : LF) : Bool := !emptyF (famR f)
noncomputable def hasL (l : List LF) (S T : Int) : Bool := l.any fun f => hasF (famR f) S T
theorem full_of {f : LF} {S T : Int} (g : hasF (famR f) S T = true) : fullB f = true := by
 unfold fullB
 rcases Bool.eq_false_or_eq_true (emptyF (famR f)) with h | h
 ·rw [(empty_iff (famR_ok f)).1 h S T] at g; cases g
 ·rw [h]; rfl
def fewL (l : List LF) : Bool := l.all fewB && decide (l.length ≤ 12)
theorem fewL_no {l : List LF} {k : Nat} (h : k < l.length) (g : fewB (lat l k) = false) : fewL l = false := by
 unfold fewL
 rw [Bool.and_eq_false_iff]
 left
 rw [List.all_eq_false]
 exact ⟨_, lat_mem h, by rw [g]; decide⟩
theorem fewL_yes {l : List LF} (h : ∀ i, i < l.length → fewB (lat l i) = true) : fewL l = decide (l.length ≤ 12) := by
 unfold fewL
 have : l.all fewB = true := by
  rw [List.all_eq_true]
  intro f hf
  obtain ⟨i, hi, rfl⟩ := List.mem_iff_getElem.1 hf
  have := h i hi
  unfold lat at this
  rwa [List.getD_eq_getElem?_getD, List.getElem?_eq_getElem hi] at this
 rw [this]
 rfl
theorem fewL_ok {l : List LF} (h : fewL l = true) (g : ∀ f ∈ l, LeafG f) : LsOk l ∧ l.length ≤ 12 := by
 unfold fewL at h
 rw [Bool.and_eq_true, List.all_eq_true] at h
 refine ⟨fun f hf => ?_, of_decide_eq_true h.2⟩
 have := fewB_yes (h.1 f hf)
 have := g f hf
 exact ⟨this.1, this.2.1, by omega, by omega⟩
theorem fewL_any (v : Value) (l : List LF) (w : World) (hv : LeavesAt w v l) :
  Calls Tryz.prog 24 #[v] w fun e w' => e = .returned (.bool (fewL l)) ∧ Kp w w' := by
 have hm := hv.len
 unfold maxLen at hm
 obtain ⟨ad, cp, rfl⟩ := hv.slice
 have HV := Hd hv
 have NO := Hd (fun k (h : k < l.length) g => fewL_no (l := l) h g)
 have YES := Hd (fun h => fewL_yes (l := l) h)
 have HL : Hid (∀ f ∈ l, True) := Hd (fun _ _ => trivial)
 have Z0 := Hd (Kp.refl w)
 clear hv
 generalize fewL l = r at *
 go_enter Tryz.func24, Tryz.ntmps24
 go_wp2
 go_loopw [3] (fun i wr => ∃ k : Nat, k ≤ l.length ∧ i = .int .i64 k ∧ Hid (∀ i, i < k → fewB (lat l i) = true) ∧ Hid (Kp w wr)) (fun i _ => l.length - (intOf i).toNat)
 case atStart => exact ⟨0, Nat.zero_le _, rfl, Hd (fun i h => by omega), Z0⟩
 case round =>
  obtain ⟨k, hk, rfl, FA, J⟩ := hrel
  by_cases hlt : k < l.length
  ·rcases HV.out.kp J.out with ⟨_, _, _, e⟩ | ⟨b0, off, cap, ev, hc, hmx, hx⟩
   ·rw [e] at hlt; simp at hlt
   cases ev
   obtain ⟨va, vb, d0, d1, d2, d3, ra, rb⟩ := hx k hlt
   have LOK := HL.out _ (lat_mem hlt)
   obtain ⟨f, hf⟩ : ∃ f, lat l k = f := ⟨_, rfl⟩
   rw [hf] at d0 d1 ra rb
   (try rw [hf] at LOK)
   obtain ⟨sp, u, a, b⟩ := f
   simp only at d0 d1 ra rb
   (try simp only at LOK)
   obtain ⟨aa, ca, rfl⟩ := ra.slice
   obtain ⟨ab, cb, rfl⟩ := rb.slice
   have HF := Hd hf
   have z1 : (k : Int) < (l.length : Int) := by omega
   have z2 : (0 : Int) ≤ (k : Int) := by omega
   clear hx hc hmx hf
   have C := Hd (fun w1 (kk : Kp wr w1) => few_any ⟨sp, u, a, b⟩ _ _ w1 (ra.kp kk) (rb.kp kk))
   simp only [leafV] at C
   have N := Hd (fun g => NO.out k hlt (show fewB (lat l k) = false by rw [HF.out]; exact g))
   have Y := Hd (fun (g : fewB ⟨sp, u, a, b⟩ = true) => (by rw [HF.out]; exact g : fewB (lat l k) = true))
   generalize fewB ⟨sp, u, a, b⟩ = fb at *
   have KR := Hd (Kp.refl wr)
   clear ra rb NO
   cases fb with
   | false =>
    have hr := N.out (by first | rfl | trivial)
    subst hr
    go_wp2_with fail
    refine (C.out _ (ky KR.out)).mono ?_
    rintro e w1 ⟨rfl, kk⟩
    have J1 := Hd (J.out.trans ((show Kp wr _ from (ky KR.out)).trans kk))
    go_wp2
    go_ret
    exact ⟨rfl, J1.out⟩
   | true =>
    go_wp2_with fail
    refine (C.out _ (ky KR.out)).mono ?_
    rintro e w1 ⟨rfl, kk⟩
    have J1 := Hd (J.out.trans ((show Kp wr _ from (ky KR.out)).trans kk))
    clear kk
    go_wp2
    go_roundw
    case rel => exact ⟨k + 1, by omega, by go_num, Hd (fun i hi => by
     by_cases c : i < k
     ·exact FA.out i c
     ·obtain rfl : i = k := by omega
      exact Y.out (by first | rfl | trivial)), J1⟩
    case measure => simp [intOf]; omega
  ·obtain rfl : k = l.length := by omega
   have hr := YES.out FA.out
   have e1 : decide ((l.length : Int) ≤ 12) = r := by
    rw [hr]
    by_cases h : l.length ≤ 12
    ·rw [decide_eq_true h, dT]
    ·rw [decide_eq_false h, dF]
   have e2 : decide (l.length ≤ 12) = r := hr.symm
   clear hr
   go_wp2
   go_ret
   exact ⟨by first | rfl | simp [e1, e2] | simp, J.out⟩
abbrev VV := Value × Value
theorem own_types {w : World} {b b' s s' n n' : Nat} {e e' : TypeId} {v u : Value} {xs ys : List Value} (h : w.ownsRow b e s v n xs) (g : w.ownsRow b' e' s' u n' ys) (ne : e ≠ e') : Apart v u := by
 intro k hv hu
 rcases h.2 with ⟨rfl, _⟩ | ⟨i, c, cur, rfl, _, h1, _⟩
 ·cases hv
 ·rcases g.2 with ⟨rfl, _⟩ | ⟨j, c', cur', rfl, _, g1, _⟩
  ·cases hu
  ·simp only [Value.ownBlock, Option.some.injEq] at hv hu
   subst hv
   subst hu
   rw [h1] at g1
   simp only [Option.some.injEq, Obj.cells.injEq] at g1
   exact ne g1.2.1
def uniF (f : LF) : Int := 1 + if f.sp = false ∧ f.u ≠ 0 then sumR (nf f.a) else 0
def unitsN : List LF → Int
 | [] => 0
 | f :: l => uniF f + unitsN l
theorem unitsN_append (l m : List LF) : unitsN (l ++ m) = unitsN l + unitsN m := by
 induction l with
 | nil => simp [unitsN]
 | cons f l ih => simp only [List.cons_append, unitsN, ih]; omega
theorem unitsN_take {l : List LF} {k : Nat} (h : k < l.length) : unitsN (l.take (k + 1)) = unitsN (l.take k) + uniF (lat l k) := by
 rw [take_lat l k h, unitsN_append]
 simp [unitsN]
theorem sumN_bd (a : List R) (h : a.length ≤ 1000000) : 0 ≤ sumR (nf a) ∧ sumR (nf a) ≤ 2199023255553 := by
 obtain ⟨b1, b2⟩ := sumR_bd (nf a) (-1099511627776) (nf_sane a) (fun r t e => by have h := nf_sane a; rw [e] at h; exact (sane_head h).2.1) (by omega)
 omega
theorem uniF_bd (f : LF) (h : f.a.length ≤ 1000000) : 1 ≤ uniF f ∧ uniF f ≤ 2199023255554 := by
 have := sumN_bd f.a h
 unfold uniF
 split <;> omega
theorem unitsN_bd {l : List LF} (h : LsOk l) : 0 ≤ unitsN l ∧ unitsN l ≤ 2199023255554 * (l.length : Int) := by
 induction l with
 | nil => simp [unitsN]
 | cons f l ih =>
  have a := uniF_bd f (by have := (h f (by simp)).2.2.1; omega)
  have b := ih fun g hg => h g (by simp [hg])
  simp only [unitsN, List.length_cons]
  omega
theorem units20_any (v : Value) (l : List LF) (w : World) (hv : LeavesAt w v l) (hl : LsOk l) (hn : l.length ≤ 100) :
  Calls Tryz.prog 25 #[v] w fun e w' => e = .returned (.int .i64 (unitsN l)) ∧ Kp w w' := by
 obtain ⟨ad, cp, rfl⟩ := hv.slice
 have HV := Hd hv
 have HL := Hd hl
 have UT := Hd (fun k (h : k < l.length) => unitsN_take (l := l) h)
 have UB := Hd (fun k => unitsN_bd (l := l.take k) fun f hf => hl f (List.mem_of_mem_take hf))
 have UE := Hd (show unitsN (l.take l.length) = unitsN l by rw [List.take_length])
 clear hv hl
 go_enter Tryz.func25, Tryz.ntmps25
 go_wp2
 go_loopw [3, 4] (fun n i wr => ∃ k : Nat, k ≤ l.length ∧ n = .int .i64 (unitsN (l.take k)) ∧ i = .int .i64 k ∧ Hid (Kp w wr)) (fun _ i _ => l.length - (intOf i).toNat)
 case atStart => exact ⟨0, Nat.zero_le _, rfl, rfl, Hd (Kp.refl _)⟩
 case round =>
  obtain ⟨k, hk, rfl, rfl, J⟩ := hrel
  by_cases hlt : k < l.length
  ·have q1 : decide ((k : Int) < (l.length : Int)) = true := dT
   have ut := UT.out k hlt
   have b1 := UB.out k
   rw [List.length_take, Nat.min_eq_left (by omega)] at b1
   rcases HV.out.kp J.out with ⟨_, _, _, e⟩ | ⟨b0, off, cap, ev, hc, hmx, hx⟩
   ·rw [e] at hlt; simp at hlt
   cases ev
   obtain ⟨va, vb, d0, d1, d2, d3, ra, rb⟩ := hx k hlt
   have LOK := HL.out _ (lat_mem hlt)
   obtain ⟨f, hf⟩ : ∃ f, lat l k = f := ⟨_, rfl⟩
   rw [hf] at d0 d1 ra rb
   (try rw [hf] at LOK)
   obtain ⟨sp, u, a, b⟩ := f
   simp only at d0 d1 ra rb
   (try simp only at LOK)
   obtain ⟨aa, ca, rfl⟩ := ra.slice
   obtain ⟨ab, cb, rfl⟩ := rb.slice
   have HF := Hd hf
   have z1 : (k : Int) < (l.length : Int) := by omega
   have z2 : (0 : Int) ≤ (k : Int) := by omega
   clear hx hc hmx hf
   have e1 : lat l k = ⟨sp, u, a, b⟩ := HF.out
   rw [e1] at ut
   have CC := Hd (fun w1 (kk : Kp wr w1) => rcount_of _ (nf a) w1 (asR_any _ a w1 (ra.kp kk) LOK.1 (by have := LOK.2.2.1; omega)) (nf_sane a) (Nat.le_trans (nf_len a) (by have := LOK.2.2.1; omega)))
   have sb := sumN_bd a (by have := LOK.2.2.1; omega)
   have UT2 := Hd ut
   generalize unitsN (l.take k) = n at *
   have wn : IntKind.i64.wrap (n + 1) = n + 1 := by rw [IntKind.wrap_i64]; omega
   have wm : IntKind.i64.wrap (n + 1 + sumR (nf a)) = n + 1 + sumR (nf a) := by rw [IntKind.wrap_i64]; omega
   obtain ⟨s, hs⟩ : ∃ s, sumR (nf a) = s := ⟨_, rfl⟩
   rw [hs] at CC sb wm
   have HS := Hd hs
   clear hs
   clear ut e1 ra rb
   cases sp with
   | true =>
    have U3 := Hd (show unitsN (l.take (k + 1)) = n + 1 by rw [UT2.out]; unfold uniF; rw [if_neg (by simp)]; omega)
    go_wp2
    go_roundw
    case rel => exact ⟨k + 1, by omega, by rw [U3.out], by go_num, J⟩
    case measure => simp [intOf]; omega
   | false =>
    by_cases hu : u = 0
    ·subst hu
     have U3 := Hd (show unitsN (l.take (k + 1)) = n + 1 by rw [UT2.out]; unfold uniF; rw [if_neg (by simp)]; omega)
     go_wp2
     go_roundw
     case rel => exact ⟨k + 1, by omega, by rw [U3.out], by go_num, J⟩
     case measure => simp [intOf]; omega
    ·have g1 : (u == 0) = false := by simpa using hu
     have g2 : (!(u == 0)) = true := by rw [g1]; rfl
     have U3 := Hd (show unitsN (l.take (k + 1)) = n + 1 + sumR (nf a) by rw [UT2.out]; unfold uniF; rw [if_pos ⟨rfl, hu⟩]; simp only; omega)
     go_wp2_with fail
     refine (CC.out _ (Kp.refl _)).mono ?_
     rintro e w2 ⟨rfl, k2⟩
     have J2 := Hd (J.out.trans k2)
     clear k2
     go_wp2
     go_roundw
     case rel => exact ⟨k + 1, by omega, by rw [U3.out, HS.out], by go_num, J2⟩
     case measure => simp [intOf]; omega
  ·have q1 : decide ((k : Int) < (l.length : Int)) = false := dF
   have ek : k = l.length := by omega
   subst ek
   rw [UE.out]
   go_wp2
   go_ret
   exact ⟨rfl, J.out⟩
def few20 (l : List LF) : Bool := fewL l && decide (unitsN l ≤ 60)
theorem few20_ok {l : List LF} (h : few20 l = true) (g : ∀ f ∈ l, LeafG f) : LsOk l ∧ l.length ≤ 12 := by
 unfold few20 at h
 rw [Bool.and_eq_true] at h
 exact fewL_ok h.1 g
end Go.Proofs.YtcooaoponkkpeaaGreatDoor
