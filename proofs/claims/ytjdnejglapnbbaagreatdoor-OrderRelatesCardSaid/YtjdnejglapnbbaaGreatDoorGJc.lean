import Derived.Test.YtjdnejglapnbbaaGreatDoorGSetC
import Derived.Test.YtjdnejglapnbbaaGreatDoorGJg
import Derived.Test.YtjdnejglapnbbaaGreatDoorRlP
import Derived.Shelf.Spec.SlicesGrow
set_option maxHeartbeats 16000000
set_option maxRecDepth 100000
namespace Go.Proofs.YtjdnejglapnbbaaGreatDoor
set_option linter.unusedVariables false
set_option linter.unusedSimpArgs false
theorem nodup_le : ∀ {l m : List Int}, l.Nodup → (∀ x ∈ l, x ∈ m) → l.length ≤ m.length
 | [], _, _, _ => Nat.zero_le _
 | x :: l, m, hd, hs => by
  have hx := hs x (by simp)
  have hn := List.nodup_cons.1 hd
  have := nodup_le (m := m.erase x) hn.2 (fun y hy => by
   have ne : y ≠ x := fun e => hn.1 (e ▸ hy)
   exact (List.mem_erase_of_ne ne).2 (hs y (by simp [hy])))
  rw [List.length_erase_of_mem hx] at this
  have := List.length_pos_of_mem hx
  rw [List.length_cons]
  omega
theorem ends_nodup : ∀ {s : List R}, sane s → (s.map (·.2)).Nodup
 | [], _ => List.nodup_nil
 | r :: t, h => by
  rw [List.map_cons, List.nodup_cons]
  refine ⟨fun hm => ?_, ends_nodup (sane_tail h)⟩
  obtain ⟨q, hq, e⟩ := List.mem_map.1 hm
  have o := sane_ok (sane_tail h) q hq
  unfold okR at o
  have := sane_beyond h q.2 ⟨q, hq, by omega, by omega, by omega, by omega⟩
  omega
theorem end_out : ∀ {s : List R}, sane s → ∀ r ∈ s, ¬ memR s (r.2 + 1)
 | [], _, _, hr => by cases hr
 | q :: t, h, r, hr => by
  intro hm
  rcases (memR_cons _ _ _).1 hm with g | g
  ·rcases List.mem_cons.1 hr with rfl | hr
   ·omega
   ·have o := sane_ok (sane_tail h) r hr
    unfold okR at o
    have := sane_beyond h r.2 ⟨r, hr, by omega, by omega, by omega, by omega⟩
    omega
  ·rcases List.mem_cons.1 hr with rfl | hr
   ·have := sane_beyond h _ g; omega
   ·exact end_out (sane_tail h) r hr g
theorem end_of {s : List R} (h : sane s) {e : Int} (hm : memR s e) (hn : ¬ memR s (e + 1)) : e ∈ s.map (·.2) := by
 obtain ⟨r, hr, a, b, c, d⟩ := hm
 have o := sane_ok h r hr
 unfold okR at o
 by_cases q : e = r.2
 ·exact List.mem_map.2 ⟨r, hr, q.symm⟩
 ·exact absurd ⟨r, hr, by omega, by omega, by omega, by omega⟩ hn
theorem interR_len {a b : List R} (ha : sane a) (hb : sane b) : (interR a b).length ≤ a.length + b.length := by
 have hs := interR_sane a b
 have := nodup_le (ends_nodup hs) (m := a.map (·.2) ++ b.map (·.2)) (fun e he => by
  obtain ⟨r, hr, rfl⟩ := List.mem_map.1 he
  have o := sane_ok hs r hr
  unfold okR at o
  have m := (interR_mem a b r.2).1 ⟨r, hr, by omega, by omega, by omega, by omega⟩
  have n := fun x => end_out hs r hr ((interR_mem a b _).2 x)
  by_cases q : memR a (r.2 + 1)
  ·exact List.mem_append.2 (.inr (end_of hb m.2 fun x => n ⟨q, x⟩))
  ·exact List.mem_append.2 (.inl (end_of ha m.1 q)))
 simpa using this
open Go.RowKit
theorem rleast_any (v : Value) (s : List R) (w : World) (hv : RunsAt w v s) (h0 : 0 < s.length) :
  Calls Tryz.prog 166 #[v] w fun e w' => e = .returned (.int .i64 (leastR s)) ∧ w = w' := by
 rcases hv with ⟨_, _, _, e⟩ | ⟨b, off, cap, rfl, hc, hm, hx⟩
 ·rw [e] at h0; simp at h0
 obtain ⟨d1, d2⟩ := hx 0 h0
 have z : (0 : Int) < (s.length : Int) := by omega
 rw [show off + 0 * 2 = off by omega] at d1
 unfold leastR
 obtain ⟨lo, hlo⟩ : ∃ x, (at_ s 0).1 = x := ⟨_, rfl⟩
 rw [hlo] at d1 ⊢
 clear hx d2
 go_enter Tryz.func166, Tryz.ntmps166
 go_wp2
 go_ret
 exact ⟨rfl, rfl⟩
theorem rgreat_any (v : Value) (s : List R) (w : World) (hv : RunsAt w v s) (h0 : 0 < s.length) (hl : s.length ≤ 4611686018427387904) :
  Calls Tryz.prog 168 #[v] w fun e w' => e = .returned (.int .i64 (greatR s)) ∧ w = w' := by
 rcases hv with ⟨_, _, _, e⟩ | ⟨b, off, cap, rfl, hc, hm, hx⟩
 ·rw [e] at h0; simp at h0
 obtain ⟨d1, d2⟩ := hx (s.length - 1) (by omega)
 have wi : IntKind.i64.wrap ((s.length : Int) - 1) = ((s.length - 1 : Nat) : Int) := by rw [IntKind.wrap_i64]; omega
 have z1 : (0 : Int) ≤ ((s.length - 1 : Nat) : Int) := by omega
 have z2 : ((s.length - 1 : Nat) : Int) < s.length := by omega
 unfold greatR
 obtain ⟨hi, hhi⟩ : ∃ x, (at_ s (s.length - 1)).2 = x := ⟨_, rfl⟩
 rw [hhi] at d2 ⊢
 clear hx d1
 go_enter Tryz.func168, Tryz.ntmps168
 go_wp2
 go_ret
 exact ⟨rfl, rfl⟩
def SsAt (w : World) (v : Value) (l : List (List R)) : Prop := ∃ b c, v = .slice (some ⟨b, 0, none⟩) l.length c ∧ ∀ i, i < l.length → ∃ u, w.cell? ⟨b, i, none⟩ = some u ∧ RunsAt w u (l.getD i [])
theorem SsAt.kp {w w' : World} {v : Value} {l : List (List R)} (h : SsAt w v l) (k : Kp w w') : SsAt w' v l := by
 obtain ⟨b, c, e, hx⟩ := h
 refine ⟨b, c, e, fun i hi => ?_⟩
 obtain ⟨u, d1, d2⟩ := hx i hi
 exact ⟨u, (k.cell (p := ⟨b, i, none⟩) (World.block_lt_of_cell? _ _ d1)).trans d1, d2.kp k⟩
theorem edg_take {l : List (List R)} {k : Nat} (h : k < l.length) : edgL (l.take (k + 1)) = edgL (l.take k) ++ (if (l.getD k []).length = 0 then [] else [leastR (l.getD k []), greatR (l.getD k [])]) := by
 unfold edgL
 rw [List.take_succ_eq_append_getElem h, List.flatMap_append]
 have e : l.getD k [] = l[k] := by simp [List.getD, h]
 rw [e]
 simp
theorem edg_len : ∀ (l : List (List R)), (edgL l).length ≤ 2 * l.length
 | [] => by simp [edgL]
 | s :: l => by
  have := edg_len l
  have e : (edgL (s :: l)).length = (if s.length = 0 then ([] : List Int) else [leastR s, greatR s]).length + (edgL l).length := by unfold edgL; rw [List.flatMap_cons, List.length_append]
  rw [e, List.length_cons]
  by_cases q : s.length = 0
  ·rw [if_pos q]; simp; omega
  ·rw [if_neg q]; simp; omega
theorem edges_any (v : Value) (l : List (List R)) (w : World) (hv : SsAt w v l) (hn : l.length ≤ 100) (hs : ∀ i, i < l.length → (l.getD i []).length ≤ 1000000) :
  Calls Tryz.prog 164 #[v] w fun e w' => ∃ v' : Value, e = .returned v' ∧ w'.ownsRow w.heap.size 3 1 v' (edgL l).length (cellsZ (edgL l)) ∧ Kp w w' := by
 obtain ⟨i0, hi, hz0, hz1, hz2⟩ := info_parts infoZ
 have HV := Lib.hid hv
 obtain ⟨b, c, rfl, _⟩ := hv
 have HS := Lib.hid hs
 have HN := Lib.hid hn
 have NE := Lib.hid (show edgL (l.take l.length) = edgL l by rw [List.take_length])
 have NT := Lib.hid (fun k (h : k < l.length) => edg_take h)
 have NL := Lib.hid (fun k => edg_len (l.take k))
 clear hs
 go_enter Tryz.func164, Tryz.ntmps164
 go_wp2
 go_loopw [3, 8] (fun u i wr => ∃ k : Nat, k ≤ l.length ∧ i = .int .i64 k ∧ Hid (wr.ownsRow w.heap.size 3 1 u (edgL (l.take k)).length (cellsZ (edgL (l.take k)))) ∧ Hid (Kp w wr)) (fun _ i _ => l.length - (intOf i).toNat)
 case atStart => exact ⟨0, Nat.zero_le _, rfl, Lib.hid (World.ownsRow_nil _ _ _ _), Lib.hid (Kp.refl _)⟩
 case round =>
  obtain ⟨k, hk, rfl, O, K1⟩ := hrel
  obtain ⟨oad, oc, rfl⟩ := own_sliceZ O.out
  have kb : k ≤ 100 := by have := HN.out; omega
  by_cases hlt : k < l.length
  ·have q1 : decide ((k : Int) < (l.length : Int)) = true := by simp; omega
   obtain ⟨b', c', ev, hx⟩ := HV.out.kp K1.out
   cases ev
   obtain ⟨u, d1, hu⟩ := hx k hlt
   have hln := NL.out k
   have NTH := Lib.hid (NT.out k hlt)
   have hsl := HS.out k hlt
   have HLT := Lib.hid hlt
   have sz := K1.out.size
   obtain ⟨s, hs0⟩ : ∃ s, l.getD k [] = s := ⟨_, rfl⟩
   rw [hs0] at hu hsl NTH
   obtain ⟨ad, cc, rfl⟩ := hu.slice
   obtain ⟨q, hq⟩ : ∃ z, edgL (l.take k) = z := ⟨_, rfl⟩
   rw [hq] at O NTH hln ⊢
   have hln2 : q.length ≤ 1000 := by rw [List.length_take] at hln; omega
   have z2 : (0 : Int) ≤ (k : Int) := by omega
   clear hx hs0 hq hln
   by_cases h0 : s.length = 0
   ·have g : decide ((s.length : Int) > 0) = false := decide_eq_false (by omega)
    have gn : decide (0 < s.length) = false := decide_eq_false (by omega)
    have gi : decide ((0 : Int) < s.length) = false := decide_eq_false (by omega)
    have e0 : edgL (l.take (k + 1)) = q := by rw [NTH.out, if_pos h0, List.append_nil]
    have E0 := Lib.hid e0
    clear hu NTH h0 e0
    go_wp2
    go_roundw
    case rel => exact ⟨k + 1, by have := HLT.out; omega, by go_num, Lib.hid (by rw [E0.out]; exact O.out), K1⟩
    case measure => have := HLT.out; simp [intOf]; omega
   ·have g : decide ((s.length : Int) > 0) = true := decide_eq_true (by omega)
    have gn : decide (0 < s.length) = true := decide_eq_true (by omega)
    have gi : decide ((0 : Int) < s.length) = true := decide_eq_true (by omega)
    have E0 := Lib.hid (show edgL (l.take (k + 1)) = q ++ [leastR s, greatR s] by rw [NTH.out, if_neg h0])
    have p0 : 0 < s.length := Nat.pos_of_ne_zero h0
    have p1 : s.length ≤ 4611686018427387904 := Nat.le_trans hsl (by omega)
    have C1 := Lib.hid (rleast_any _ s wr hu p0)
    have C2 := Lib.hid (rgreat_any _ s wr hu p0 p1)
    clear hu NTH h0
    obtain ⟨x, hx⟩ : ∃ x, leastR s = x := ⟨_, rfl⟩
    obtain ⟨y, hy⟩ : ∃ y, greatR s = y := ⟨_, rfl⟩
    rw [hx] at E0 C1
    rw [hy] at E0 C2
    clear hx hy p0 p1
    go_wp2_with (first
     | (go_at_call 166; refine (C1.out).mono ?_; rintro e w' ⟨rfl, rfl⟩)
     | (go_at_call 168; refine (C2.out).mono ?_; rintro e w' ⟨rfl, rfl⟩)
     | (at_builtin; refine wpList_app rfl (.tmp 15) (.tmp 20) 75 rfl w.heap.size 3 i0 (.int .i64 0) 1 8 Tryz.underlying75 hi hz0 hz1 hz2 rfl (by decide) _ _ _ rfl (own_kp O.out (Kp.alloc _ _)) _ _ _ rfl (two_srcZ _ _ _ _) rfl (by intro z hz; simp at hz; rcases hz with hz | hz <;> subst hz <;> rfl) (by unfold maxLen; omega) (by omega) (by simp; omega) ?_; intro v1 w1 hown1 hgrow1 hat1))
    go_roundw
    case rel => exact ⟨k + 1, by have := HLT.out; omega, by go_num, Lib.hid (by rw [E0.out]; exact own_snoc2Z hown1), Lib.hid (Kp.grown (K1.out.trans (Kp.alloc _ _)) hgrow1 (fun j hj => (O.out.lt j hj).1))⟩
    case measure => have := HLT.out; simp [intOf]; omega
  ·have q : decide ((k : Int) < l.length) = false := by simp; omega
   have ek : k = l.length := by omega
   subst ek
   rw [NE.out] at O ⊢
   go_wp2
   go_ret
   exact ⟨_, rfl, O.out, K1.out⟩
end Go.Proofs.YtjdnejglapnbbaaGreatDoor
namespace Go.Proofs
open Go.Shelf
shelf_lay_g Lays8.n4 Nm8 4 at Tryz 232 as Tryz.growZ
end Go.Proofs
namespace Go.Proofs.YtjdnejglapnbbaaGreatDoor
open Go.RowKit Go.Shelf
set_option linter.unusedVariables false
set_option linter.unusedSimpArgs false
theorem growZ_any (n : Nat) (w : World) (hn : n ≤ 1000000) :
  Calls Tryz.prog 232 #[.slice none 0 0, .int .i64 n] w fun e w' => ∃ v' : Value, e = .returned v' ∧ w'.ownsRow w.heap.size 3 1 v' 0 [] ∧ Kp w w' := by
 obtain ⟨i0, hi, hz0, hz1, hz2⟩ := info_parts infoZ
 by_cases h0 : n = 0
 ·subst h0
  have h := Any8.slices_Grow_room Tryz.growZ none 0 0 0 w (Nat.le_refl _) (by omega) (by omega) (by omega)
  change Calls Tryz.prog 232 _ _ _ at h
  refine h.mono ?_
  rintro e w' ⟨rfl, rfl⟩
  exact ⟨_, rfl, World.ownsRow_nil _ _ _ _, Kp.refl _⟩
 ·have h := Any8.slices_Grow_grow Tryz.growZ i0 (.int .i64 0) hi hz0 (by omega) none 0 0 n [] w (Nat.le_refl _) (by omega) (by rw [hz2]; omega) (by omega) (by simp) (fun _ => rfl) (fun a ha => by cases ha)
  change Calls Tryz.prog 232 _ _ _ at h
  refine h.mono ?_
  rintro e w' ⟨rfl, rfl⟩
  refine ⟨_, rfl, ?_, (Kp.drew w).trans (Kp.alloc _ _)⟩
  have hg := grownCap_ge w (0 + n) 0 (Tryz.growZ_ren.t 25)
  have hm := grownCap_le_maxLen w (0 + n) 0 3 (by unfold maxLen; omega)
  refine World.ownsRow_made w.drew _ _ (Nat.le_refl _) hm ?_
  simp only [Nat.zero_add] at hg
  simp [Builtin.zeroCells, Value.cells]
  omega
def ZsAt (w : World) (v : Value) (a b : List Int) : Prop := ∃ g u1 u2, v = .slice (some ⟨g, 0, none⟩) 2 2 ∧ w.cell? ⟨g, 0, none⟩ = some u1 ∧ w.cell? ⟨g, 1, none⟩ = some u2 ∧ IntsAt w u1 a ∧ IntsAt w u2 b
theorem concatZ_any (v : Value) (a b : List Int) (w : World) (hv : ZsAt w v a b) (ha : a.length ≤ 1000) (hb : b.length ≤ 1000) :
  Calls Tryz.prog 165 #[v] w fun e w' => ∃ v' : Value, e = .returned v' ∧ w'.ownsRow w.heap.size 3 1 v' (a ++ b).length (cellsZ (a ++ b)) ∧ Kp w w' := by
 obtain ⟨i0, hi, hz0, hz1, hz2⟩ := info_parts infoZ
 obtain ⟨g, u1, u2, rfl, d1, d2, h1, h2⟩ := hv
 obtain ⟨ad1, c1, rfl⟩ := h1.slice
 obtain ⟨ad2, c2, rfl⟩ := h2.slice
 have H1 := Lib.hid h1
 have H2 := Lib.hid h2
 have G := Lib.hid (fun (n : Nat) w1 (h : n ≤ 1000000) => growZ_any n w1 h)
 have D := Lib.hid (fun w' (k : Kp w w') => show w'.cell? ⟨g, 0, none⟩ = some (.slice ad1 a.length c1) ∧ w'.cell? ⟨g, 1, none⟩ = some (.slice ad2 b.length c2) from
  ⟨(k.cell (p := ⟨g, 0, none⟩) (World.block_lt_of_cell? _ _ d1)).trans d1, (k.cell (p := ⟨g, 1, none⟩) (World.block_lt_of_cell? _ _ d2)).trans d2⟩)
 obtain ⟨s, hs⟩ : ∃ s, (a ++ b).length = s := ⟨_, rfl⟩
 have hs2 : a.length + b.length = s := by rw [← hs, List.length_append]
 have n1 : decide ((a.length : Int) < 0) = false := decide_eq_false (by omega)
 have n2 : decide ((s : Int) < 0) = false := decide_eq_false (by omega)
 have y1 : wrap64 (a.length : Int) = a.length := by unfold wrap64; omega
 have y2 : wrap64 ((a.length : Int) + (b.length : Int)) = (s : Int) := by unfold wrap64; omega
 have hab : s ≤ 1000000 := by omega
 have HS := Lib.hid hs
 have HS2 := Lib.hid hs2
 have HA := Lib.hid ha
 have HB := Lib.hid hb
 have HAB := Lib.hid hab
 rw [hs]
 clear hs hs2 ha hb hab
 clear h1 h2
 go_enter Tryz.func165, Tryz.ntmps165
 go_wp2
 go_loopw [3, 11] (fun u i wr => Hid (wr = w) ∧ Hid ((u = .int .i64 0 ∧ i = .int .i64 0) ∨ (u = .int .i64 a.length ∧ i = .int .i64 1) ∨ (u = .int .i64 s ∧ i = .int .i64 2))) (fun _ i _ => 2 - (intOf i).toNat)
 case atStart => exact ⟨Lib.hid rfl, Lib.hid (.inl ⟨rfl, rfl⟩)⟩
 case round =>
  obtain ⟨E, hr⟩ := hrel
  have ee := E.out
  subst ee
  rcases hr.out with ⟨rfl, rfl⟩ | ⟨rfl, rfl⟩ | ⟨rfl, rfl⟩
  ·go_wp2
   go_roundw
   case rel => exact ⟨Lib.hid (by first | rfl | trivial), Lib.hid (.inr (.inl ⟨by first | rfl | rw [y1], rfl⟩))⟩
   case measure => simp [intOf]
  ·go_wp2
   go_roundw
   case rel => exact ⟨Lib.hid (by first | rfl | trivial), Lib.hid (.inr (.inr ⟨by first | rfl | rw [y2], rfl⟩))⟩
   case measure => simp [intOf]
  ·obtain ⟨w0, hw0⟩ : ∃ x, x = wr := ⟨_, rfl⟩
   subst hw0
   clear n1 y1 y2
   go_wp2_with fail
   refine (G.out _ _ HAB.out).mono ?_
   rintro e w1 ⟨v1, rfl, o1, k1⟩
   have K1 := Lib.hid k1
   have O1 := Lib.hid o1
   obtain ⟨ad3, c3, rfl⟩ := own_sliceZ o1
   clear o1 k1 n2 d1 d2
   go_wp2
   go_loopw [6, 27] (fun u i ws => Hid (Kp w0 ws) ∧ Hid ((i = .int .i64 0 ∧ Hid (ws.ownsRow w0.heap.size 3 1 u 0 [])) ∨ (i = .int .i64 1 ∧ Hid (ws.ownsRow w0.heap.size 3 1 u a.length (cellsZ a))) ∨ (i = .int .i64 2 ∧ Hid (ws.ownsRow w0.heap.size 3 1 u s (cellsZ (a ++ b)))))) (fun _ i _ => 2 - (intOf i).toNat)
   case atStart => exact ⟨K1, Lib.hid (.inl ⟨rfl, O1⟩)⟩
   case round =>
    obtain ⟨K2, hr2⟩ := hrel
    clear hr
    rcases hr2.out with ⟨rfl, O⟩ | ⟨rfl, O⟩ | ⟨rfl, O⟩
    ·obtain ⟨oad, oc, rfl⟩ := own_sliceZ O.out
     obtain ⟨x1, x2⟩ := D.out _ K2.out
     go_wp2_with (at_builtin; refine wpList_app rfl (.tmp 31) (.tmp 32) 75 rfl w0.heap.size 3 i0 (.int .i64 0) 1 8 Tryz.underlying75 hi hz0 hz1 hz2 rfl (by decide) _ _ _ rfl O.out _ _ _ rfl (H1.out.kp K2.out).src (by rw [cellsZ_length]; omega) (cellsZ_one _) (by have := HA.out; have := HB.out; unfold maxLen; omega) (by have := HA.out; have := HB.out; omega) K2.out.size ?_; intro v1 w1 hown1 hgrow1 hat1)
     go_roundw
     case rel => exact ⟨Lib.hid (Kp.grown K2.out hgrow1 (fun j hj => (O.out.lt j hj).1)), Lib.hid (.inr (.inl ⟨by simp, Lib.hid (by simpa using hown1)⟩))⟩
     case measure => simp [intOf]
    ·obtain ⟨oad, oc, rfl⟩ := own_sliceZ O.out
     obtain ⟨x1, x2⟩ := D.out _ K2.out
     go_wp2_with (at_builtin; refine wpList_app rfl (.tmp 31) (.tmp 32) 75 rfl w0.heap.size 3 i0 (.int .i64 0) 1 8 Tryz.underlying75 hi hz0 hz1 hz2 rfl (by decide) _ _ _ rfl O.out _ _ _ rfl (H2.out.kp K2.out).src (by rw [cellsZ_length]; omega) (cellsZ_one _) (by have := HA.out; have := HB.out; unfold maxLen; omega) (by have := HA.out; have := HB.out; omega) K2.out.size ?_; intro v1 w1 hown1 hgrow1 hat1)
     go_roundw
     case rel => exact ⟨Lib.hid (Kp.grown K2.out hgrow1 (fun j hj => (O.out.lt j hj).1)), Lib.hid (.inr (.inr ⟨by simp, Lib.hid (by rw [← HS2.out, cellsZ_append]; exact hown1)⟩))⟩
     case measure => simp [intOf]
    ·obtain ⟨oad, oc, rfl⟩ := own_sliceZ O.out
     go_wp2
     go_ret
     exact ⟨_, rfl, O.out, K2.out⟩
end Go.Proofs.YtjdnejglapnbbaaGreatDoor
