import Derived.Test.YtajllgjfndfdjaaGreatDoorGLeafA
import Derived.Test.YtajllgjfndfdjaaGreatDoorGBa
import Derived.Deep.SlicePairs
import Derived.Deep.Slices
import Derived.WideShapes
import Derived.ChangeArms
import Derived.Carry
import Derived.Lib.SmallJoins
import Derived.Deep.RegionHeld3
import Derived.LoopTactic
import Derived.Shelf.Abstract
import Derived.Laws.EntriesVeiled
import Derived.Test.YtajllgjfndfdjaaGreatDoorImgE
namespace Go.Proofs.YtajllgjfndfdjaaGreatDoor
set_option linter.unusedVariables false
set_option linter.unusedSimpArgs false
theorem hasF_un {f : LF} (h : leafB f = true) (hs : f.sp = false) (S T : Int) : hasF (famR f) S T = true ↔ ∃ i, memR f.a i ∧ fst f.u i = S ∧ lst f.u i = T := by
 rw [famR_units h hs]
 exact hasF_units (leafB_units h hs).2.1 S T
open Go.RowKit Go.ChangeShapes Go.WideShapes Go.Deep
section
variable {H : Type} {enc : TypeId × Value → H} {W : World} {v : Value} {d : DataW H} {p : List MemPlace} {base : Nat}
end
open Go.RowKit Go.ChangeShapes Go.WideShapes Go.Deep Go.Joins
section
variable {H : Type} {enc : TypeId × Value → H} {W : World} {v : Value} {d : DataW H} {p : List MemPlace} {base : Nat}
end
instance instLF : Inhabited LF := ⟨⟨false, 0, [], []⟩⟩
def lat (l : List LF) (i : Nat) : LF := l.getD i ⟨false, 0, [], []⟩
theorem lat_mem {l : List LF} {k : Nat} (h : k < l.length) : lat l k ∈ l := by
 unfold lat
 rw [List.getD_eq_getElem?_getD, List.getElem?_eq_getElem h]
 exact List.getElem_mem h
theorem take_lat (l : List LF) (k : Nat) (h : k < l.length) : l.take (k + 1) = l.take k ++ [lat l k] := by
 rw [List.take_succ_eq_append_getElem h]
 unfold lat
 simp [List.getD, h]
def LeafCells (w : World) (b o : Nat) (f : LF) : Prop := ∃ va vb, w.cell? ⟨b, o, none⟩ = some (.bool f.sp) ∧ w.cell? ⟨b, o + 1, none⟩ = some (.int .i64 f.u) ∧ w.cell? ⟨b, o + 2, none⟩ = some va ∧ w.cell? ⟨b, o + 3, none⟩ = some vb ∧ RunsAt w va f.a ∧ RunsAt w vb f.b
theorem LeafCells.kp {w w' : World} {b o : Nat} {f : LF} (h : LeafCells w b o f) (k : Kp w w') : LeafCells w' b o f := by
 obtain ⟨va, vb, c0, c1, c2, c3, ra, rb⟩ := h
 exact ⟨va, vb, cell_up k c0, cell_up k c1, cell_up k c2, cell_up k c3, ra.kp k, rb.kp k⟩
def LeavesAt (w : World) (v : Value) (l : List LF) : Prop :=
 (∃ ad c, v = .slice ad 0 c ∧ l = []) ∨
 ∃ b off cap, v = .slice (some ⟨b, off, none⟩) l.length cap ∧ l.length ≤ cap ∧ cap ≤ maxLen ∧ ∀ i, i < l.length → LeafCells w b (off + i * 4) (lat l i)
theorem LeavesAt.slice {w : World} {v : Value} {l : List LF} (h : LeavesAt w v l) : ∃ ad c, v = .slice ad l.length c := by
 rcases h with ⟨ad, c, rfl, rfl⟩ | ⟨b, off, cap, rfl, _⟩
 ·exact ⟨ad, c, rfl⟩
 ·exact ⟨_, cap, rfl⟩
theorem LeavesAt.kp {w w' : World} {v : Value} {l : List LF} (h : LeavesAt w v l) (k : Kp w w') : LeavesAt w' v l := by
 rcases h with h | ⟨b, off, cap, e, hc, hm, hx⟩
 ·exact .inl h
 ·exact .inr ⟨b, off, cap, e, hc, hm, fun i hi => (hx i hi).kp k⟩
theorem LeavesAt.len {w : World} {v : Value} {l : List LF} (h : LeavesAt w v l) : l.length ≤ maxLen := by
 rcases h with ⟨_, _, _, rfl⟩ | ⟨b, off, cap, e, hc, hm, hx⟩
 ·simp
 ·omega
section
variable {H : Type} {enc : TypeId × Value → H} {W : World} {v : Value} {d : DataW H} {p : List MemPlace} {base : Nat}
end
open Go.RowKit
def LsOk (l : List LF) : Prop := ∀ f ∈ l, I64R f.a ∧ I64R f.b ∧ f.a.length ≤ 1000 ∧ f.b.length ≤ 1000
noncomputable def hasL (l : List LF) (S T : Int) : Bool := l.any fun f => hasF (famR f) S T
theorem hasL_no {l : List LF} {S T : Int} (h : ∀ i, i < l.length → hasF (famR (lat l i)) S T = false) : hasL l S T = false := by
 unfold hasL
 rw [List.any_eq_false]
 intro f hf
 obtain ⟨i, hi, rfl⟩ := List.mem_iff_getElem.1 hf
 have := h i hi
 unfold lat at this
 rw [List.getD_eq_getElem?_getD, List.getElem?_eq_getElem hi] at this
 rw [show (some l[i]).getD _ = l[i] from rfl] at this
 rw [this]
 decide
theorem hasL_yes {l : List LF} {S T : Int} {k : Nat} (h : k < l.length) (g : hasF (famR (lat l k)) S T = true) : hasL l S T = true := List.any_eq_true.2 ⟨_, lat_mem h, g⟩
set_option maxHeartbeats 16000000 in
set_option maxRecDepth 100000 in
theorem denHas_any (v : Value) (l : List LF) (S T : Int) (w : World) (hv : LeavesAt w v l) (hl : LsOk l) (T' : Tabs w) (b1 : -9223372036854775808 ≤ S) (b2 : S ≤ 9223372036854775807) (b3 : -9223372036854775808 ≤ T) (b4 : T ≤ 9223372036854775807) :
  Calls Tryz.prog 9 #[v, .agg #[.int .i64 S, .int .i64 T]] w fun e w' => e = .returned (.bool (hasL l S T)) ∧ Kp w w' := by
 have hm := hv.len
 unfold maxLen at hm
 obtain ⟨ad, cp, rfl⟩ := hv.slice
 have HV := Lib.hid hv
 have NO := Lib.hid (fun h => hasL_no (l := l) (S := S) (T := T) h)
 have YES := Lib.hid (fun k (h : k < l.length) g => hasL_yes (l := l) (S := S) (T := T) h g)
 have HL := Lib.hid hl
 have TT := Lib.hid T'
 obtain ⟨W0, hW⟩ : ∃ W0, W0 = w.alloc (.cells #[.int .i64 S, .int .i64 T] 28) := ⟨_, rfl⟩
 have k0 : Kp w W0 := by rw [hW]; exact Kp.alloc _ _
 have HB := Lib.hid (fun w1 (k : Kp W0 w1) => show w1.cell? ⟨w.heap.size, 0, none⟩ = some (.int .i64 S) ∧ w1.cell? ⟨w.heap.size, 1, none⟩ = some (.int .i64 T) from ⟨cell_up k (by rw [hW]; simp), cell_up k (by rw [hW]; simp)⟩)
 have K0 := Lib.hid k0
 have HW := Lib.hid hW
 have KW := Lib.hid (Kp.refl W0)
 clear hv T' hl hW k0
 generalize hasL l S T = r at *
 go_enter Tryz.func9, Tryz.ntmps9
 go_wp2_with fail
 rw [← HW.out]
 go_loopw [9] (fun i wr => ∃ k : Nat, k ≤ l.length ∧ i = .int .i64 k ∧ Hid (∀ i, i < k → hasF (famR (lat l i)) S T = false) ∧ Hid (Kp W0 wr)) (fun i _ => l.length - (intOf i).toNat)
 case atStart => exact ⟨0, Nat.zero_le _, rfl, Lib.hid (fun i h => by omega), KW⟩
 case round =>
  obtain ⟨k, hk, rfl, FA, J⟩ := hrel
  by_cases hlt : k < l.length
  ·rcases HV.out.kp (K0.out.trans J.out) with ⟨_, _, _, e⟩ | ⟨b0, off, cap, ev, hc, hmx, hx⟩
   ·rw [e] at hlt; simp at hlt
   cases ev
   obtain ⟨va, vb, d0, d1, d2, d3, ra, rb⟩ := hx k hlt
   have LOK := HL.out _ (lat_mem hlt)
   obtain ⟨f, hf⟩ : ∃ f, lat l k = f := ⟨_, rfl⟩
   rw [hf] at d0 d1 ra rb
   (try rw [hf] at LOK)
   obtain ⟨sp, u, a, b⟩ := f
   simp only at d0 d1 ra rb
   (try simp only at LOK)
   obtain ⟨aa, ca, rfl⟩ := ra.slice
   obtain ⟨ab, cb, rfl⟩ := rb.slice
   have HF := Lib.hid hf
   have z1 : (k : Int) < (l.length : Int) := by omega
   have z2 : (0 : Int) ≤ (k : Int) := by omega
   clear hx hc hmx hf
   have ok : LeafOk wr ⟨sp, u, a, b⟩ _ _ := ⟨ra, rb, LOK.1, LOK.2.1, LOK.2.2.1, LOK.2.2.2⟩
   have C := Lib.hid (fun w1 (kk : Kp wr w1) => leafHas_any ⟨sp, u, a, b⟩ _ _ S T w1 (ok.kp kk) (TT.out.kp (K0.out.trans (J.out.trans kk))) b1 b2 b3 b4)
   simp only [leafV] at C
   have Y := Lib.hid (fun g => YES.out k hlt (show hasF (famR (lat l k)) S T = true by rw [HF.out]; exact g))
   have N := Lib.hid (fun (g : hasF (famR ⟨sp, u, a, b⟩) S T = false) => (by rw [HF.out]; exact g : hasF (famR (lat l k)) S T = false))
   generalize hasF (famR ⟨sp, u, a, b⟩) S T = fb at *
   have KR := Lib.hid (Kp.refl wr)
   obtain ⟨c0, c1⟩ := HB.out wr J.out
   have cz0 := c0
   have zs := World.block_lt_of_cell? wr _ c0
   have zs' : ¬ w.heap.size = wr.heap.size := by simp at zs; omega
   clear ra rb YES ok cz0
   cases fb with
   | true =>
    have hr := Y.out (by first | rfl | trivial)
    subst hr
    go_wp2_with fail
    refine (C.out _ (by first | with_reducible exact KR.out | with_reducible exact KR.out.trans (Kp.alloc _ _) | with_reducible exact (KR.out.trans (Kp.alloc _ _)).trans (Kp.alloc _ _) | with_reducible exact ((KR.out.trans (Kp.alloc _ _)).trans (Kp.alloc _ _)).trans (Kp.alloc _ _) | with_reducible exact KR.out.trans (Kp.drew _) | with_reducible exact KR.out.trans (Kp.drewN _ _))).mono ?_
    rintro e w1 ⟨rfl, kk⟩
    have J1 := Lib.hid (K0.out.trans (J.out.trans ((show Kp wr _ from (by first | with_reducible exact KR.out | with_reducible exact KR.out.trans (Kp.alloc _ _) | with_reducible exact (KR.out.trans (Kp.alloc _ _)).trans (Kp.alloc _ _) | with_reducible exact ((KR.out.trans (Kp.alloc _ _)).trans (Kp.alloc _ _)).trans (Kp.alloc _ _) | with_reducible exact KR.out.trans (Kp.drew _) | with_reducible exact KR.out.trans (Kp.drewN _ _))).trans kk)))
    go_wp2
    go_ret
    exact ⟨rfl, J1.out⟩
   | false =>
    go_wp2_with fail
    refine (C.out _ (by first | with_reducible exact KR.out | with_reducible exact KR.out.trans (Kp.alloc _ _) | with_reducible exact (KR.out.trans (Kp.alloc _ _)).trans (Kp.alloc _ _) | with_reducible exact ((KR.out.trans (Kp.alloc _ _)).trans (Kp.alloc _ _)).trans (Kp.alloc _ _) | with_reducible exact KR.out.trans (Kp.drew _) | with_reducible exact KR.out.trans (Kp.drewN _ _))).mono ?_
    rintro e w1 ⟨rfl, kk⟩
    have J1 := Lib.hid (J.out.trans ((show Kp wr _ from (by first | with_reducible exact KR.out | with_reducible exact KR.out.trans (Kp.alloc _ _) | with_reducible exact (KR.out.trans (Kp.alloc _ _)).trans (Kp.alloc _ _) | with_reducible exact ((KR.out.trans (Kp.alloc _ _)).trans (Kp.alloc _ _)).trans (Kp.alloc _ _) | with_reducible exact KR.out.trans (Kp.drew _) | with_reducible exact KR.out.trans (Kp.drewN _ _))).trans kk))
    clear kk
    go_wp2
    go_roundw
    case rel => exact ⟨k + 1, by omega, by go_num, Lib.hid (fun i hi => by
     by_cases c : i < k
     ·exact FA.out i c
     ·obtain rfl : i = k := by omega
      exact N.out (by first | rfl | trivial)), J1⟩
    case measure => simp [intOf]; omega
  ·obtain rfl : k = l.length := by omega
   have hr := NO.out FA.out
   subst hr
   go_wp2
   go_ret
   exact ⟨rfl, K0.out.trans J.out⟩
abbrev VV := Value × Value
def cellsV : List (LF × VV) → List Value
 | [] => []
 | (f, x) :: t => .bool f.sp :: .int .i64 f.u :: x.1 :: x.2 :: cellsV t
theorem cellsV_length : ∀ l : List (LF × VV), (cellsV l).length = l.length * 4 := by
 intro l
 induction l with
 | nil => rfl
 | cons f t ih => obtain ⟨f, x⟩ := f; unfold cellsV; simp [ih]; omega
theorem cellsV_append (l m : List (LF × VV)) : cellsV (l ++ m) = cellsV l ++ cellsV m := by
 induction l with
 | nil => rfl
 | cons f t ih => obtain ⟨f, x⟩ := f; simp only [List.cons_append, cellsV, ih]
def ReadsV (w : World) (l : List (LF × VV)) : Prop := ∀ p ∈ l, RunsAt w p.2.1 p.1.a ∧ RunsAt w p.2.2 p.1.b
theorem cellsV_at : ∀ (l : List (LF × VV)) (i : Nat) (h : i < l.length), (cellsV l)[i * 4]? = some (.bool (l[i]'h).1.sp) ∧ (cellsV l)[i * 4 + 1]? = some (.int .i64 (l[i]'h).1.u) ∧ (cellsV l)[i * 4 + 2]? = some (l[i]'h).2.1 ∧ (cellsV l)[i * 4 + 3]? = some (l[i]'h).2.2 := by
 intro l
 induction l with
 | nil => intro i h; simp at h
 | cons f t ih =>
  intro i h
  obtain ⟨f, x⟩ := f
  unfold cellsV
  cases i with
  | zero => exact ⟨rfl, rfl, rfl, rfl⟩
  | succ i =>
   have g := ih i (by simpa using h)
   rw [show (i + 1) * 4 = i * 4 + 1 + 1 + 1 + 1 by omega]
   simp only [List.getElem?_cons_succ, List.getElem_cons_succ]
   exact g
theorem runs_one {w : World} {v : Value} {l : List R} (h : RunsAt w v l) : v.oneCell' = true := by
 obtain ⟨ad, c, rfl⟩ := h.slice
 rfl
theorem cellsV_one {w : World} : ∀ {l : List (LF × VV)}, ReadsV w l → ∀ u ∈ cellsV l, u.oneCell' = true := by
 intro l
 induction l with
 | nil => intro _ u hu; cases hu
 | cons f t ih =>
  intro h u hu
  obtain ⟨f, x⟩ := f
  have h0 := h (f, x) List.mem_cons_self
  unfold cellsV at hu
  simp only [List.mem_cons] at hu
  rcases hu with rfl | rfl | rfl | rfl | hu
  ·rfl
  ·rfl
  ·exact runs_one h0.1
  ·exact runs_one h0.2
  ·exact ih (fun p hp => h p (List.mem_cons_of_mem _ hp)) u hu
theorem leavesAt_own {w : World} {base : Nat} {e : TypeId} {v : Value} {m : List (LF × VV)} (h : w.ownsRow base e 4 v m.length (cellsV m)) (r : ReadsV w m) : LeavesAt w v (m.map Prod.fst) := by
 rcases h.2 with ⟨e1, h0⟩ | ⟨g, cp, cur, rfl, h2, h3, h4, h5, h6, h7⟩
 ·have : m = [] := List.length_eq_zero_iff.1 h0
  subst this
  exact .inl ⟨_, _, e1, rfl⟩
 ·refine .inr ⟨g, 0, cp, by rw [List.length_map], by rw [List.length_map]; exact h4, h5, fun i hi => ?_⟩
  rw [List.length_map] at hi
  obtain ⟨c0, c1, c2, c3⟩ := cellsV_at m i hi
  have e : lat (m.map Prod.fst) i = (m[i]'hi).1 := by unfold lat; rw [List.getD_eq_getElem?_getD, List.getElem?_map, List.getElem?_eq_getElem hi]; rfl
  have hp := r _ (List.getElem_mem hi)
  rw [e, Nat.zero_add]
  refine ⟨_, _, ?_, ?_, ?_, ?_, hp.1, hp.2⟩
  ·rw [h.cellAt _ (by omega)]; exact c0
  ·rw [h.cellAt _ (by omega)]; exact c1
  ·rw [h.cellAt _ (by omega)]; exact c2
  ·rw [h.cellAt _ (by omega)]; exact c3
theorem infoLeaf : (Tryz.prog.info? 43).map (fun i => (i.zero, i.size, i.bytes)) = some (some (.agg #[.bool false, .int .i64 0, .slice none 0 0, .slice none 0 0]), 4, 64) := by kernel_rfl
end Go.Proofs.YtajllgjfndfdjaaGreatDoor
