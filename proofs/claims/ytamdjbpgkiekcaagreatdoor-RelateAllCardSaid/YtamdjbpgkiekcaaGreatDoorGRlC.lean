import Derived.Test.YtamdjbpgkiekcaaGreatDoorGRlB
import Derived.Shelf.Spec.SlicesGrow
import Derived.Test.YtamdjbpgkiekcaaGreatDoorGSetC
import Derived.Test.YtamdjbpgkiekcaaGreatDoorGLeafA
import Derived.Deep.CutRange
import Derived.Test.YtamdjbpgkiekcaaGreatDoorGRlA
import Derived.LoopTactic
namespace Go.Proofs
open Go.Shelf
shelf_lay_g Lays8.n4 Nm8 4 at Tryz 180 as Tryz.growZ
end Go.Proofs
namespace Go.Proofs.YtamdjbpgkiekcaaGreatDoor
open Go.RowKit Go.Shelf
set_option linter.unusedVariables false
set_option linter.unusedSimpArgs false
theorem growZ_any (n : Nat) (w : World) (hn : n ≤ 1000000) :
  Calls Tryz.prog 180 #[.slice none 0 0, .int .i64 n] w fun e w' => ∃ v' : Value, e = .returned v' ∧ w'.ownsRow w.heap.size 3 1 v' 0 [] ∧ Kp w w' := by
 obtain ⟨i0, hi, hz0, hz1, hz2⟩ := info_parts infoZ
 by_cases h0 : n = 0
 ·subst h0
  have h := Any8.slices_Grow_room Tryz.growZ none 0 0 0 w (Nat.le_refl _) (by omega) (by omega) (by omega)
  change Calls Tryz.prog 180 _ _ _ at h
  refine h.mono ?_
  rintro e w' ⟨rfl, rfl⟩
  exact ⟨_, rfl, World.ownsRow_nil _ _ _ _, Kp.refl _⟩
 ·have h := Any8.slices_Grow_grow Tryz.growZ i0 (.int .i64 0) hi hz0 (by omega) none 0 0 n [] w (Nat.le_refl _) (by omega) (by rw [hz2]; omega) (by omega) (by simp) (fun _ => rfl) (fun a ha => by cases ha)
  change Calls Tryz.prog 180 _ _ _ at h
  refine h.mono ?_
  rintro e w' ⟨rfl, rfl⟩
  refine ⟨_, rfl, ?_, (Kp.drew w).trans (Kp.alloc _ _)⟩
  have hg := grownCap_ge w (0 + n) 0 (Tryz.growZ_ren.t 25)
  have hm := grownCap_le_maxLen w (0 + n) 0 3 (by unfold maxLen; omega)
  refine World.ownsRow_made w.drew _ _ (Nat.le_refl _) hm ?_
  simp only [Nat.zero_add] at hg
  simp [Builtin.zeroCells, Value.cells]
  omega
def ZsAt (w : World) (v : Value) (a b : List Int) : Prop := ∃ g u1 u2, v = .slice (some ⟨g, 0, none⟩) 2 2 ∧ w.cell? ⟨g, 0, none⟩ = some u1 ∧ w.cell? ⟨g, 1, none⟩ = some u2 ∧ IntsAt w u1 a ∧ IntsAt w u2 b
set_option maxHeartbeats 16000000 in
set_option maxRecDepth 100000 in
theorem concatZ_any (v : Value) (a b : List Int) (w : World) (hv : ZsAt w v a b) (ha : a.length ≤ 1000) (hb : b.length ≤ 1000) :
  Calls Tryz.prog 119 #[v] w fun e w' => ∃ v' : Value, e = .returned v' ∧ w'.ownsRow w.heap.size 3 1 v' (a ++ b).length (cellsZ (a ++ b)) ∧ Kp w w' := by
 obtain ⟨i0, hi, hz0, hz1, hz2⟩ := info_parts infoZ
 obtain ⟨g, u1, u2, rfl, d1, d2, h1, h2⟩ := hv
 obtain ⟨ad1, c1, rfl⟩ := h1.slice
 obtain ⟨ad2, c2, rfl⟩ := h2.slice
 have H1 := Lib.hid h1
 have H2 := Lib.hid h2
 have G := Lib.hid (fun (n : Nat) w1 (h : n ≤ 1000000) => growZ_any n w1 h)
 have D := Lib.hid (fun w' (k : Kp w w') => show w'.cell? ⟨g, 0, none⟩ = some (.slice ad1 a.length c1) ∧ w'.cell? ⟨g, 1, none⟩ = some (.slice ad2 b.length c2) from
  ⟨(k.cell (p := ⟨g, 0, none⟩) (World.block_lt_of_cell? _ _ d1)).trans d1, (k.cell (p := ⟨g, 1, none⟩) (World.block_lt_of_cell? _ _ d2)).trans d2⟩)
 obtain ⟨s, hs⟩ : ∃ s, (a ++ b).length = s := ⟨_, rfl⟩
 have hs2 : a.length + b.length = s := by rw [← hs, List.length_append]
 have n1 : decide ((a.length : Int) < 0) = false := decide_eq_false (by omega)
 have n2 : decide ((s : Int) < 0) = false := decide_eq_false (by omega)
 have y1 : wrap64 (a.length : Int) = a.length := by unfold wrap64; omega
 have y2 : wrap64 ((a.length : Int) + (b.length : Int)) = (s : Int) := by unfold wrap64; omega
 have hab : s ≤ 1000000 := by omega
 have HS := Lib.hid hs
 have HS2 := Lib.hid hs2
 have HA := Lib.hid ha
 have HB := Lib.hid hb
 have HAB := Lib.hid hab
 rw [hs]
 clear hs hs2 ha hb hab
 clear h1 h2
 go_enter Tryz.func119, Tryz.ntmps119
 go_wp2
 go_loopw [3, 11] (fun u i wr => Hid (wr = w) ∧ Hid ((u = .int .i64 0 ∧ i = .int .i64 0) ∨ (u = .int .i64 a.length ∧ i = .int .i64 1) ∨ (u = .int .i64 s ∧ i = .int .i64 2))) (fun _ i _ => 2 - (intOf i).toNat)
 case atStart => exact ⟨Lib.hid rfl, Lib.hid (.inl ⟨rfl, rfl⟩)⟩
 case round =>
  obtain ⟨E, hr⟩ := hrel
  have ee := E.out
  subst ee
  rcases hr.out with ⟨rfl, rfl⟩ | ⟨rfl, rfl⟩ | ⟨rfl, rfl⟩
  ·go_wp2
   go_roundw
   case rel => exact ⟨Lib.hid (by first | rfl | trivial), Lib.hid (.inr (.inl ⟨by first | rfl | rw [y1], rfl⟩))⟩
   case measure => simp [intOf]
  ·go_wp2
   go_roundw
   case rel => exact ⟨Lib.hid (by first | rfl | trivial), Lib.hid (.inr (.inr ⟨by first | rfl | rw [y2], rfl⟩))⟩
   case measure => simp [intOf]
  ·obtain ⟨w0, hw0⟩ : ∃ x, x = wr := ⟨_, rfl⟩
   subst hw0
   clear n1 y1 y2
   go_wp2_with fail
   refine (G.out _ _ HAB.out).mono ?_
   rintro e w1 ⟨v1, rfl, o1, k1⟩
   have K1 := Lib.hid k1
   have O1 := Lib.hid o1
   obtain ⟨ad3, c3, rfl⟩ := own_sliceZ o1
   clear o1 k1 n2 d1 d2
   go_wp2
   go_loopw [6, 27] (fun u i ws => Hid (Kp w0 ws) ∧ Hid ((i = .int .i64 0 ∧ Hid (ws.ownsRow w0.heap.size 3 1 u 0 [])) ∨ (i = .int .i64 1 ∧ Hid (ws.ownsRow w0.heap.size 3 1 u a.length (cellsZ a))) ∨ (i = .int .i64 2 ∧ Hid (ws.ownsRow w0.heap.size 3 1 u s (cellsZ (a ++ b)))))) (fun _ i _ => 2 - (intOf i).toNat)
   case atStart => exact ⟨K1, Lib.hid (.inl ⟨rfl, O1⟩)⟩
   case round =>
    obtain ⟨K2, hr2⟩ := hrel
    clear hr
    rcases hr2.out with ⟨rfl, O⟩ | ⟨rfl, O⟩ | ⟨rfl, O⟩
    ·obtain ⟨oad, oc, rfl⟩ := own_sliceZ O.out
     obtain ⟨x1, x2⟩ := D.out _ K2.out
     go_wp2_with (at_builtin; refine wpList_app rfl (.tmp 31) (.tmp 32) 84 rfl w0.heap.size 3 i0 (.int .i64 0) 1 8 Tryz.underlying84 hi hz0 hz1 hz2 rfl (by decide) _ _ _ rfl O.out _ _ _ rfl (H1.out.kp K2.out).src (by rw [cellsZ_length]; omega) (cellsZ_one _) (by have := HA.out; have := HB.out; unfold maxLen; omega) (by have := HA.out; have := HB.out; omega) K2.out.size ?_; intro v1 w1 hown1 hgrow1 hat1)
     go_roundw
     case rel => exact ⟨Lib.hid (Kp.grown K2.out hgrow1 (fun j hj => (O.out.lt j hj).1)), Lib.hid (.inr (.inl ⟨by simp, Lib.hid (by simpa using hown1)⟩))⟩
     case measure => simp [intOf]
    ·obtain ⟨oad, oc, rfl⟩ := own_sliceZ O.out
     obtain ⟨x1, x2⟩ := D.out _ K2.out
     go_wp2_with (at_builtin; refine wpList_app rfl (.tmp 31) (.tmp 32) 84 rfl w0.heap.size 3 i0 (.int .i64 0) 1 8 Tryz.underlying84 hi hz0 hz1 hz2 rfl (by decide) _ _ _ rfl O.out _ _ _ rfl (H2.out.kp K2.out).src (by rw [cellsZ_length]; omega) (cellsZ_one _) (by have := HA.out; have := HB.out; unfold maxLen; omega) (by have := HA.out; have := HB.out; omega) K2.out.size ?_; intro v1 w1 hown1 hgrow1 hat1)
     go_roundw
     case rel => exact ⟨Lib.hid (Kp.grown K2.out hgrow1 (fun j hj => (O.out.lt j hj).1)), Lib.hid (.inr (.inr ⟨by simp, Lib.hid (by rw [← HS2.out, cellsZ_append]; exact hown1)⟩))⟩
     case measure => simp [intOf]
    ·obtain ⟨oad, oc, rfl⟩ := own_sliceZ O.out
     go_wp2
     go_ret
     exact ⟨_, rfl, O.out, K2.out⟩
theorem nodup_le : ∀ {l m : List Int}, l.Nodup → (∀ x ∈ l, x ∈ m) → l.length ≤ m.length
 | [], _, _, _ => Nat.zero_le _
 | x :: l, m, hd, hs => by
  have hx := hs x (by simp)
  have hn := List.nodup_cons.1 hd
  have := nodup_le (m := m.erase x) hn.2 (fun y hy => by
   have ne : y ≠ x := fun e => hn.1 (e ▸ hy)
   exact (List.mem_erase_of_ne ne).2 (hs y (by simp [hy])))
  rw [List.length_erase_of_mem hx] at this
  have := List.length_pos_of_mem hx
  rw [List.length_cons]
  omega
theorem ends_nodup : ∀ {s : List R}, sane s → (s.map (·.2)).Nodup
 | [], _ => List.nodup_nil
 | r :: t, h => by
  rw [List.map_cons, List.nodup_cons]
  refine ⟨fun hm => ?_, ends_nodup (sane_tail h)⟩
  obtain ⟨q, hq, e⟩ := List.mem_map.1 hm
  have o := sane_ok (sane_tail h) q hq
  unfold okR at o
  have := sane_beyond h q.2 ⟨q, hq, by omega, by omega, by omega, by omega⟩
  omega
theorem end_out : ∀ {s : List R}, sane s → ∀ r ∈ s, ¬ memR s (r.2 + 1)
 | [], _, _, hr => by cases hr
 | q :: t, h, r, hr => by
  intro hm
  rcases (memR_cons _ _ _).1 hm with g | g
  ·rcases List.mem_cons.1 hr with rfl | hr
   ·omega
   ·have o := sane_ok (sane_tail h) r hr
    unfold okR at o
    have := sane_beyond h r.2 ⟨r, hr, by omega, by omega, by omega, by omega⟩
    omega
  ·rcases List.mem_cons.1 hr with rfl | hr
   ·have := sane_beyond h _ g; omega
   ·exact end_out (sane_tail h) r hr g
theorem end_of {s : List R} (h : sane s) {e : Int} (hm : memR s e) (hn : ¬ memR s (e + 1)) : e ∈ s.map (·.2) := by
 obtain ⟨r, hr, a, b, c, d⟩ := hm
 have o := sane_ok h r hr
 unfold okR at o
 by_cases q : e = r.2
 ·exact List.mem_map.2 ⟨r, hr, q.symm⟩
 ·exact absurd ⟨r, hr, by omega, by omega, by omega, by omega⟩ hn
theorem interR_len {a b : List R} (ha : sane a) (hb : sane b) : (interR a b).length ≤ a.length + b.length := by
 have hs := interR_sane a b
 have := nodup_le (ends_nodup hs) (m := a.map (·.2) ++ b.map (·.2)) (fun e he => by
  obtain ⟨r, hr, rfl⟩ := List.mem_map.1 he
  have o := sane_ok hs r hr
  unfold okR at o
  have m := (interR_mem a b r.2).1 ⟨r, hr, by omega, by omega, by omega, by omega⟩
  have n := fun x => end_out hs r hr ((interR_mem a b _).2 x)
  by_cases q : memR a (r.2 + 1)
  ·exact List.mem_append.2 (.inr (end_of hb m.2 fun x => n ⟨q, x⟩))
  ·exact List.mem_append.2 (.inl (end_of ha m.1 q)))
 simpa using this
theorem ss_one {w : World} {t : TypeId} {u : Value} {l : List R} (h : RunsAt w u l) : SsAt (w.alloc (.cells #[u] t)) (.slice (some ⟨w.heap.size, 0, none⟩) 1 1) [l] := by
 refine ⟨w.heap.size, 1, rfl, fun i hi => ?_⟩
 obtain rfl : i = 0 := by simp at hi; omega
 exact ⟨u, by simp, h.kp (Kp.alloc _ _)⟩
theorem ss_four {w : World} {t : TypeId} {u1 u2 u3 u4 : Value} {l1 l2 l3 l4 : List R} (h1 : RunsAt w u1 l1) (h2 : RunsAt w u2 l2) (h3 : RunsAt w u3 l3) (h4 : RunsAt w u4 l4) :
  SsAt (w.alloc (.cells #[u1, u2, u3, u4] t)) (.slice (some ⟨w.heap.size, 0, none⟩) 4 4) [l1, l2, l3, l4] := by
 refine ⟨w.heap.size, 4, rfl, fun i hi => ?_⟩
 obtain rfl | rfl | rfl | rfl : i = 0 ∨ i = 1 ∨ i = 2 ∨ i = 3 := by simp at hi; omega
 ·exact ⟨u1, by simp, h1.kp (Kp.alloc _ _)⟩
 ·exact ⟨u2, by simp, h2.kp (Kp.alloc _ _)⟩
 ·exact ⟨u3, by simp, h3.kp (Kp.alloc _ _)⟩
 ·exact ⟨u4, by simp, h4.kp (Kp.alloc _ _)⟩
theorem zs_two {w : World} {t : TypeId} {u1 u2 : Value} {a b : List Int} (h1 : IntsAt w u1 a) (h2 : IntsAt w u2 b) : ZsAt (w.alloc (.cells #[u1, u2] t)) (.slice (some ⟨w.heap.size, 0, none⟩) 2 2) a b :=
 ⟨w.heap.size, u1, u2, rfl, by simp, by simp, h1.kp (Kp.alloc _ _), h2.kp (Kp.alloc _ _)⟩
theorem l1_le {a : List R} {N : Nat} (h1 : a.length ≤ N) : ∀ i, i < [a].length → ([a].getD i []).length ≤ N := by
 intro i hi
 obtain rfl : i = 0 := by simp at hi; omega
 exact h1
theorem l4_le {a b c e : List R} {N : Nat} (h1 : a.length ≤ N) (h2 : b.length ≤ N) (h3 : c.length ≤ N) (h4 : e.length ≤ N) : ∀ i, i < [a, b, c, e].length → ([a, b, c, e].getD i []).length ≤ N := by
 intro i hi
 obtain rfl | rfl | rfl | rfl : i = 0 ∨ i = 1 ∨ i = 2 ∨ i = 3 := by simp at hi; omega
 ·exact h1
 ·exact h2
 ·exact h3
 ·exact h4
abbrev exA0 : Oper := { dst := some 10, op := Go.Op.fieldAddr 93 (Go.Operand.tmp 2) 1, type := 0, pos := "family.go:108", after := #[], guard := none }
abbrev exA1 : Oper := { dst := some 11, op := Go.Op.load 43 (Go.Operand.tmp 10), type := 43, pos := "family.go:108", after := #[{ on := 0, ground := Go.Ground.data }], guard := none }
abbrev exA2 : Oper := { dst := some 12, op := Go.Op.fieldAddr 93 (Go.Operand.tmp 3) 1, type := 0, pos := "family.go:108", after := #[], guard := none }
abbrev exA3 : Oper := { dst := some 13, op := Go.Op.load 43 (Go.Operand.tmp 12), type := 43, pos := "family.go:108", after := #[{ on := 2, ground := Go.Ground.data }], guard := none }
abbrev exA4 : Oper := { dst := some 14, op := Go.Op.call { callee := Go.Callee.value (Go.Operand.func 117), args := #[Go.Operand.tmp 11, Go.Operand.tmp 13], argTypes := #[43, 43] }, type := 43, pos := "family.go:108", after := #[{ on := 1, ground := Go.Ground.data }, { on := 3, ground := Go.Ground.data }], guard := none }
abbrev exA5 : Oper := { dst := some 15, op := Go.Op.fieldAddr 93 (Go.Operand.tmp 2) 2, type := 0, pos := "family.go:108", after := #[], guard := none }
abbrev exA6 : Oper := { dst := some 16, op := Go.Op.load 43 (Go.Operand.tmp 15), type := 43, pos := "family.go:108", after := #[{ on := 5, ground := Go.Ground.data }], guard := none }
abbrev exA7 : Oper := { dst := some 17, op := Go.Op.fieldAddr 93 (Go.Operand.tmp 3) 2, type := 0, pos := "family.go:108", after := #[], guard := none }
abbrev exA8 : Oper := { dst := some 18, op := Go.Op.load 43 (Go.Operand.tmp 17), type := 43, pos := "family.go:108", after := #[{ on := 7, ground := Go.Ground.data }], guard := none }
abbrev exA9 : Oper := { dst := some 19, op := Go.Op.call { callee := Go.Callee.value (Go.Operand.func 117), args := #[Go.Operand.tmp 16, Go.Operand.tmp 18], argTypes := #[43, 43] }, type := 43, pos := "family.go:108", after := #[{ on := 6, ground := Go.Ground.data }, { on := 8, ground := Go.Ground.data }, { on := 4, ground := Go.Ground.chain }], guard := none }
abbrev exA10 : Oper := { dst := some 5, op := Go.Op.assign (Go.Operand.tmp 14), type := 43, pos := "family.go:108", after := #[{ on := 4, ground := Go.Ground.data }, { on := 9, ground := Go.Ground.chain }, { on := 0, ground := Go.Ground.phase }, { on := 1, ground := Go.Ground.phase }, { on := 2, ground := Go.Ground.phase }, { on := 3, ground := Go.Ground.phase }, { on := 4, ground := Go.Ground.phase }, { on := 5, ground := Go.Ground.textOnly Go.Departure.lateStores }, { on := 6, ground := Go.Ground.textOnly Go.Departure.lateStores }, { on := 7, ground := Go.Ground.textOnly Go.Departure.lateStores }, { on := 8, ground := Go.Ground.textOnly Go.Departure.lateStores }, { on := 9, ground := Go.Ground.textOnly Go.Departure.lateStoresUnsure }], guard := none }
abbrev exA11 : Oper := { dst := some 6, op := Go.Op.assign (Go.Operand.tmp 19), type := 43, pos := "family.go:108", after := #[{ on := 9, ground := Go.Ground.data }, { on := 10, ground := Go.Ground.chain }, { on := 0, ground := Go.Ground.phase }, { on := 1, ground := Go.Ground.phase }, { on := 2, ground := Go.Ground.phase }, { on := 3, ground := Go.Ground.phase }, { on := 4, ground := Go.Ground.phase }, { on := 5, ground := Go.Ground.phase }, { on := 6, ground := Go.Ground.phase }, { on := 7, ground := Go.Ground.phase }, { on := 8, ground := Go.Ground.phase }, { on := 9, ground := Go.Ground.phase }, { on := 10, ground := Go.Ground.phase }], guard := none }
abbrev exB0 : Oper := { dst := some 25, op := Go.Op.move (Go.Operand.tmp 7), type := 84, pos := "family.go:110", after := #[], guard := none }
abbrev exB1 : Oper := { dst := some 26, op := Go.Op.fieldAddr 93 (Go.Operand.tmp 2) 1, type := 0, pos := "family.go:110", after := #[], guard := none }
abbrev exB2 : Oper := { dst := some 27, op := Go.Op.load 43 (Go.Operand.tmp 26), type := 43, pos := "family.go:110", after := #[{ on := 1, ground := Go.Ground.data }], guard := none }
abbrev exB3 : Oper := { dst := some 28, op := Go.Op.move (Go.Operand.tmp 5), type := 43, pos := "family.go:110", after := #[], guard := none }
abbrev exB4 : Oper := { dst := some 29, op := Go.Op.fieldAddr 93 (Go.Operand.tmp 2) 1, type := 0, pos := "family.go:110", after := #[], guard := none }
abbrev exB5 : Oper := { dst := some 30, op := Go.Op.load 43 (Go.Operand.tmp 29), type := 43, pos := "family.go:110", after := #[{ on := 4, ground := Go.Ground.data }], guard := none }
abbrev exB6 : Oper := { dst := some 31, op := Go.Op.fieldAddr 93 (Go.Operand.tmp 3) 1, type := 0, pos := "family.go:110", after := #[], guard := none }
abbrev exB7 : Oper := { dst := some 32, op := Go.Op.load 43 (Go.Operand.tmp 31), type := 43, pos := "family.go:110", after := #[{ on := 6, ground := Go.Ground.data }], guard := none }
abbrev exB8 : Oper := { dst := some 33, op := Go.Op.call { callee := Go.Callee.value (Go.Operand.func 120), args := #[Go.Operand.tmp 32], argTypes := #[43] }, type := 3, pos := "family.go:113", after := #[{ on := 7, ground := Go.Ground.data }], guard := none }
abbrev exB9 : Oper := { dst := some 34, op := Go.Op.binOp Go.BinOp.add 3 (Go.Operand.tmp 33) (Go.Operand.const (Go.Value.int Go.IntKind.i64 1)) 3, type := 3, pos := "family.go:110", after := #[{ on := 8, ground := Go.Ground.data }], guard := none }
abbrev exB10 : Oper := { dst := some 35, op := Go.Op.call { callee := Go.Callee.value (Go.Operand.func 87), args := #[Go.Operand.tmp 30, Go.Operand.tmp 34, Go.Operand.const (Go.Value.int Go.IntKind.i64 3652424)], argTypes := #[43, 3, 3] }, type := 43, pos := "family.go:113", after := #[{ on := 5, ground := Go.Ground.data }, { on := 9, ground := Go.Ground.data }, { on := 8, ground := Go.Ground.chain }], guard := none }
abbrev exB11 : Oper := { dst := some 36, op := Go.Op.fieldAddr 93 (Go.Operand.tmp 2) 1, type := 0, pos := "family.go:110", after := #[], guard := none }
abbrev exB12 : Oper := { dst := some 37, op := Go.Op.load 43 (Go.Operand.tmp 36), type := 43, pos := "family.go:110", after := #[{ on := 11, ground := Go.Ground.data }], guard := none }
abbrev exB13 : Oper := { dst := some 38, op := Go.Op.fieldAddr 93 (Go.Operand.tmp 3) 2, type := 0, pos := "family.go:110", after := #[], guard := none }
abbrev exB14 : Oper := { dst := some 39, op := Go.Op.load 43 (Go.Operand.tmp 38), type := 43, pos := "family.go:110", after := #[{ on := 13, ground := Go.Ground.data }], guard := none }
abbrev exB15 : Oper := { dst := some 40, op := Go.Op.call { callee := Go.Callee.value (Go.Operand.func 121), args := #[Go.Operand.tmp 39, Go.Operand.const (Go.Value.int Go.IntKind.i64 1)], argTypes := #[43, 3] }, type := 43, pos := "family.go:114", after := #[{ on := 14, ground := Go.Ground.data }, { on := 10, ground := Go.Ground.chain }], guard := none }
abbrev exB16 : Oper := { dst := some 41, op := Go.Op.call { callee := Go.Callee.value (Go.Operand.func 117), args := #[Go.Operand.tmp 37, Go.Operand.tmp 40], argTypes := #[43, 43] }, type := 43, pos := "family.go:114", after := #[{ on := 12, ground := Go.Ground.data }, { on := 15, ground := Go.Ground.data }, { on := 15, ground := Go.Ground.chain }], guard := none }
abbrev exB17 : Oper := { dst := some 42, op := Go.Op.buildSlice 190 4 #[(0, Go.Operand.tmp 27), (1, Go.Operand.tmp 28), (2, Go.Operand.tmp 35), (3, Go.Operand.tmp 41)], type := 190, pos := "family.go:110", after := #[{ on := 2, ground := Go.Ground.data }, { on := 3, ground := Go.Ground.data }, { on := 10, ground := Go.Ground.data }, { on := 16, ground := Go.Ground.data }], guard := none }
abbrev exB18 : Oper := { dst := some 43, op := Go.Op.call { callee := Go.Callee.value (Go.Operand.func 118), args := #[Go.Operand.tmp 42], argTypes := #[190] }, type := 84, pos := "family.go:110", after := #[{ on := 17, ground := Go.Ground.data }, { on := 16, ground := Go.Ground.chain }], guard := none }
abbrev exB19 : Oper := { dst := some 44, op := Go.Op.buildSlice 191 2 #[(0, Go.Operand.tmp 25), (1, Go.Operand.tmp 43)], type := 191, pos := "family.go:110", after := #[{ on := 0, ground := Go.Ground.data }, { on := 18, ground := Go.Ground.data }], guard := none }
abbrev exB20 : Oper := { dst := some 45, op := Go.Op.call { callee := Go.Callee.value (Go.Operand.func 119), args := #[Go.Operand.tmp 44], argTypes := #[191] }, type := 84, pos := "family.go:110", after := #[{ on := 19, ground := Go.Ground.data }, { on := 18, ground := Go.Ground.chain }], guard := none }
abbrev exB21 : Oper := { dst := some 8, op := Go.Op.assign (Go.Operand.tmp 45), type := 84, pos := "family.go:110", after := #[{ on := 20, ground := Go.Ground.data }, { on := 20, ground := Go.Ground.chain }, { on := 0, ground := Go.Ground.phase }, { on := 1, ground := Go.Ground.phase }, { on := 2, ground := Go.Ground.phase }, { on := 3, ground := Go.Ground.phase }, { on := 4, ground := Go.Ground.phase }, { on := 5, ground := Go.Ground.phase }, { on := 6, ground := Go.Ground.phase }, { on := 7, ground := Go.Ground.phase }, { on := 8, ground := Go.Ground.phase }, { on := 9, ground := Go.Ground.phase }, { on := 10, ground := Go.Ground.phase }, { on := 11, ground := Go.Ground.phase }, { on := 12, ground := Go.Ground.phase }, { on := 13, ground := Go.Ground.phase }, { on := 14, ground := Go.Ground.phase }, { on := 15, ground := Go.Ground.phase }, { on := 16, ground := Go.Ground.phase }, { on := 17, ground := Go.Ground.phase }, { on := 18, ground := Go.Ground.phase }, { on := 19, ground := Go.Ground.phase }, { on := 20, ground := Go.Ground.phase }], guard := none }
abbrev exC0 : Oper := { dst := some 46, op := Go.Op.move (Go.Operand.tmp 7), type := 84, pos := "family.go:116", after := #[], guard := none }
abbrev exC1 : Oper := { dst := some 47, op := Go.Op.fieldAddr 93 (Go.Operand.tmp 2) 2, type := 0, pos := "family.go:116", after := #[], guard := none }
abbrev exC2 : Oper := { dst := some 48, op := Go.Op.load 43 (Go.Operand.tmp 47), type := 43, pos := "family.go:116", after := #[{ on := 1, ground := Go.Ground.data }], guard := none }
abbrev exC3 : Oper := { dst := some 49, op := Go.Op.move (Go.Operand.tmp 6), type := 43, pos := "family.go:116", after := #[], guard := none }
abbrev exC4 : Oper := { dst := some 50, op := Go.Op.fieldAddr 93 (Go.Operand.tmp 2) 2, type := 0, pos := "family.go:116", after := #[], guard := none }
abbrev exC5 : Oper := { dst := some 51, op := Go.Op.load 43 (Go.Operand.tmp 50), type := 43, pos := "family.go:116", after := #[{ on := 4, ground := Go.Ground.data }], guard := none }
abbrev exC6 : Oper := { dst := some 52, op := Go.Op.fieldAddr 93 (Go.Operand.tmp 3) 2, type := 0, pos := "family.go:116", after := #[], guard := none }
abbrev exC7 : Oper := { dst := some 53, op := Go.Op.load 43 (Go.Operand.tmp 52), type := 43, pos := "family.go:116", after := #[{ on := 6, ground := Go.Ground.data }], guard := none }
abbrev exC8 : Oper := { dst := some 54, op := Go.Op.call { callee := Go.Callee.value (Go.Operand.func 122), args := #[Go.Operand.tmp 53], argTypes := #[43] }, type := 3, pos := "family.go:119", after := #[{ on := 7, ground := Go.Ground.data }], guard := none }
abbrev exC9 : Oper := { dst := some 55, op := Go.Op.binOp Go.BinOp.sub 3 (Go.Operand.tmp 54) (Go.Operand.const (Go.Value.int Go.IntKind.i64 1)) 3, type := 3, pos := "family.go:116", after := #[{ on := 8, ground := Go.Ground.data }], guard := none }
abbrev exC10 : Oper := { dst := some 56, op := Go.Op.call { callee := Go.Callee.value (Go.Operand.func 87), args := #[Go.Operand.tmp 51, Go.Operand.const (Go.Value.int Go.IntKind.i64 0), Go.Operand.tmp 55], argTypes := #[43, 3, 3] }, type := 43, pos := "family.go:119", after := #[{ on := 5, ground := Go.Ground.data }, { on := 9, ground := Go.Ground.data }, { on := 8, ground := Go.Ground.chain }], guard := none }
abbrev exC11 : Oper := { dst := some 57, op := Go.Op.fieldAddr 93 (Go.Operand.tmp 2) 2, type := 0, pos := "family.go:116", after := #[], guard := none }
abbrev exC12 : Oper := { dst := some 58, op := Go.Op.load 43 (Go.Operand.tmp 57), type := 43, pos := "family.go:116", after := #[{ on := 11, ground := Go.Ground.data }], guard := none }
abbrev exC13 : Oper := { dst := some 59, op := Go.Op.fieldAddr 93 (Go.Operand.tmp 3) 1, type := 0, pos := "family.go:116", after := #[], guard := none }
abbrev exC14 : Oper := { dst := some 60, op := Go.Op.load 43 (Go.Operand.tmp 59), type := 43, pos := "family.go:116", after := #[{ on := 13, ground := Go.Ground.data }], guard := none }
abbrev exC15 : Oper := { dst := some 61, op := Go.Op.call { callee := Go.Callee.value (Go.Operand.func 121), args := #[Go.Operand.tmp 60, Go.Operand.const (Go.Value.int Go.IntKind.i64 (-1))], argTypes := #[43, 3] }, type := 43, pos := "family.go:120", after := #[{ on := 14, ground := Go.Ground.data }, { on := 10, ground := Go.Ground.chain }], guard := none }
abbrev exC16 : Oper := { dst := some 62, op := Go.Op.call { callee := Go.Callee.value (Go.Operand.func 117), args := #[Go.Operand.tmp 58, Go.Operand.tmp 61], argTypes := #[43, 43] }, type := 43, pos := "family.go:120", after := #[{ on := 12, ground := Go.Ground.data }, { on := 15, ground := Go.Ground.data }, { on := 15, ground := Go.Ground.chain }], guard := none }
abbrev exC17 : Oper := { dst := some 63, op := Go.Op.buildSlice 190 4 #[(0, Go.Operand.tmp 48), (1, Go.Operand.tmp 49), (2, Go.Operand.tmp 56), (3, Go.Operand.tmp 62)], type := 190, pos := "family.go:116", after := #[{ on := 2, ground := Go.Ground.data }, { on := 3, ground := Go.Ground.data }, { on := 10, ground := Go.Ground.data }, { on := 16, ground := Go.Ground.data }], guard := none }
abbrev exC18 : Oper := { dst := some 64, op := Go.Op.call { callee := Go.Callee.value (Go.Operand.func 118), args := #[Go.Operand.tmp 63], argTypes := #[190] }, type := 84, pos := "family.go:116", after := #[{ on := 17, ground := Go.Ground.data }, { on := 16, ground := Go.Ground.chain }], guard := none }
abbrev exC19 : Oper := { dst := some 65, op := Go.Op.buildSlice 191 2 #[(0, Go.Operand.tmp 46), (1, Go.Operand.tmp 64)], type := 191, pos := "family.go:116", after := #[{ on := 0, ground := Go.Ground.data }, { on := 18, ground := Go.Ground.data }], guard := none }
abbrev exC20 : Oper := { dst := some 66, op := Go.Op.call { callee := Go.Callee.value (Go.Operand.func 119), args := #[Go.Operand.tmp 65], argTypes := #[191] }, type := 84, pos := "family.go:116", after := #[{ on := 19, ground := Go.Ground.data }, { on := 18, ground := Go.Ground.chain }], guard := none }
abbrev exC21 : Oper := { dst := some 9, op := Go.Op.assign (Go.Operand.tmp 66), type := 84, pos := "family.go:116", after := #[{ on := 20, ground := Go.Ground.data }, { on := 20, ground := Go.Ground.chain }, { on := 0, ground := Go.Ground.phase }, { on := 1, ground := Go.Ground.phase }, { on := 2, ground := Go.Ground.phase }, { on := 3, ground := Go.Ground.phase }, { on := 4, ground := Go.Ground.phase }, { on := 5, ground := Go.Ground.phase }, { on := 6, ground := Go.Ground.phase }, { on := 7, ground := Go.Ground.phase }, { on := 8, ground := Go.Ground.phase }, { on := 9, ground := Go.Ground.phase }, { on := 10, ground := Go.Ground.phase }, { on := 11, ground := Go.Ground.phase }, { on := 12, ground := Go.Ground.phase }, { on := 13, ground := Go.Ground.phase }, { on := 14, ground := Go.Ground.phase }, { on := 15, ground := Go.Ground.phase }, { on := 16, ground := Go.Ground.phase }, { on := 17, ground := Go.Ground.phase }, { on := 18, ground := Go.Ground.phase }, { on := 19, ground := Go.Ground.phase }, { on := 20, ground := Go.Ground.phase }], guard := none }
set_option maxHeartbeats 16000000 in
set_option maxRecDepth 100000 in
theorem examples_any (d d' : Bool) (A B C D : List R) (va vb vc vd : Value) (w : World) (ha : RunsAt w va A) (hb : RunsAt w vb B) (hc : RunsAt w vc C) (hd : RunsAt w vd D) (H : LsOkP d A B) (H' : LsOkP d' C D)
  (nA : A.length ≤ 100000) (nB : B.length ≤ 100000) (nC : C.length ≤ 100000) (nD : D.length ≤ 100000) :
  Calls Tryz.prog 67 #[.agg #[.bool d, va, vb], .agg #[.bool d', vc, vd]] w fun e w' => ∃ v', e = .returned v' ∧ OwnP w' w.heap.size v' (exPs d A B C D) ∧ Kp w w' := by
 obtain ⟨i0, hi, hz0, hz1, hz2⟩ := info_parts infoZ
 obtain ⟨aa, ca, rfl⟩ := ha.slice
 obtain ⟨ab, cb, rfl⟩ := hb.slice
 obtain ⟨ac, cc, rfl⟩ := hc.slice
 obtain ⟨ad, cd, rfl⟩ := hd.slice
 obtain ⟨v0, hV⟩ : ∃ x, x = (w.alloc (.cells #[.bool d, .slice aa A.length ca, .slice ab B.length cb] 93)).alloc (.cells #[.bool d', .slice ac C.length cc, .slice ad D.length cd] 93) := ⟨_, rfl⟩
 have ka : Kp w v0 := by rw [hV]; exact (Kp.alloc _ _).trans (Kp.alloc _ _)
 have gf : v0.heap[w.heap.size]? = some (.cells #[.bool d, .slice aa A.length ca, .slice ab B.length cb] 93 (0, 0)) := by rw [hV]; exact heap_block (Kp.alloc _ _) (heap_at _ _ _ rfl)
 have gg : v0.heap[w.heap.size + 1]? = some (.cells #[.bool d', .slice ac C.length cc, .slice ad D.length cd] 93 (0, 0)) := by rw [hV]; exact heap_at _ _ _ (by simp)
 have KS := Lib.hid (fun w' (kq : Kp v0 w') => show w'.cell? ⟨w.heap.size, 0, none⟩ = some (.bool d) ∧ w'.cell? ⟨w.heap.size, 1, none⟩ = some (.slice aa A.length ca) ∧ w'.cell? ⟨w.heap.size, 2, none⟩ = some (.slice ab B.length cb) ∧ w'.cell? ⟨w.heap.size + 1, 1, none⟩ = some (.slice ac C.length cc) ∧ w'.cell? ⟨w.heap.size + 1, 2, none⟩ = some (.slice ad D.length cd) ∧ Kp v0 w' from ⟨(row3 (heap_block kq gf)).1, (row3 (heap_block kq gf)).2.1, (row3 (heap_block kq gf)).2.2, (row3 (heap_block kq gg)).2.1, (row3 (heap_block kq gg)).2.2, kq⟩)
 have HV := Lib.hid hV
 have KA := Lib.hid ka
 have ha := ha.kp ka
 have hb := hb.kp ka
 have hc := hc.kp ka
 have hd := hd.kp ka
 have bl := (H.ba _ H.lo.1)
 have lC := H'.ba _ H'.lo.1
 have gD := H'.bb _ H'.hi.1
 have n1 := interR_len H.sa H'.sa
 have n2 := interR_len H.sb H'.sb
 have n3 := interR_len (interR_sane A C) (interR_sane B D)
 have sh1 : nf (shR 1 1 (nf D)) = nf (shR 1 1 D) := by rw [nf_of_sane H'.sb]
 have sh2 : nf (shR (-1) (-1) (nf C)) = nf (shR (-1) (-1) C) := by rw [nf_of_sane H'.sa]
 have n5 : (nf (shR 1 1 D)).length ≤ D.length := Nat.le_trans (nf_len _) (by rw [shR_len]; exact Nat.le_refl _)
 have n8 : (nf (shR (-1) (-1) C)).length ≤ C.length := Nat.le_trans (nf_len _) (by rw [shR_len]; exact Nat.le_refl _)
 have y1 : I64R [(leastR C + 1, 3652424)] := by intro r hr; simp at hr; subst hr; simp only; omega
 have y2 : I64R [(0, greatR D - 1)] := by intro r hr; simp at hr; subst hr; simp only; omega
 have MS := Lib.hid (fun w1 (k : Kp v0 w1) => meet_any _ _ A C w1 (ha.kp k) (hc.kp k) (sane_i64 H.sa) (sane_i64 H'.sa) (by omega) (by omega))
 have ME := Lib.hid (fun w1 (k : Kp v0 w1) => meet_any _ _ B D w1 (hb.kp k) (hd.kp k) (sane_i64 H.sb) (sane_i64 H'.sb) (by omega) (by omega))
 have M3 := Lib.hid (fun u1 u2 w1 (h1 : RunsAt w1 u1 (interR A C)) (h2 : RunsAt w1 u2 (interR B D)) => meet_any u1 u2 _ _ w1 h1 h2 (sane_i64 (interR_sane _ _)) (sane_i64 (interR_sane _ _)) (by omega) (by omega))
 have CL := Lib.hid (fun w1 (k : Kp v0 w1) => clip_any _ A (leastR C + 1) 3652424 w1 (ha.kp k) (sane_i64 H.sa) (by omega) y1)
 have DL := Lib.hid (fun w1 (k : Kp v0 w1) => clip_any _ B 0 (greatR D - 1) w1 (hb.kp k) (sane_i64 H.sb) (by omega) y2)
 have SH := Lib.hid (fun w1 (k : Kp v0 w1) => shift_any _ D 1 w1 (hd.kp k) (sane_i64 H'.sb) (by omega))
 have TH := Lib.hid (fun w1 (k : Kp v0 w1) => shift_any _ C (-1) w1 (hc.kp k) (sane_i64 H'.sa) (by omega))
 rw [sh1] at SH
 rw [sh2] at TH
 have M6 := Lib.hid (fun u w1 (h : RunsAt w1 u (nf (shR 1 1 D))) (k : Kp v0 w1) => meet_any _ u A _ w1 (ha.kp k) h (sane_i64 H.sa) (sane_i64 (nf_sane _)) (by omega) (by omega))
 have M9 := Lib.hid (fun u w1 (h : RunsAt w1 u (nf (shR (-1) (-1) C))) (k : Kp v0 w1) => meet_any _ u B _ w1 (hb.kp k) h (sane_i64 H.sb) (sane_i64 (nf_sane _)) (by omega) (by omega))
 have n4 : (interR A [(leastR C + 1, 3652424)]).length ≤ 100000 * 1 := interR_bd nA (by simp)
 have n7 : (interR B [(0, greatR D - 1)]).length ≤ 100000 * 1 := interR_bd nB (by simp)
 have n6 := interR_len H.sa (nf_sane (shR 1 1 D))
 have n9 := interR_len H.sb (nf_sane (shR (-1) (-1) C))
 have LE := Lib.hid (fun w1 (k : Kp v0 w1) => rleast_any _ C w1 (hc.kp k) H'.na)
 have GR := Lib.hid (fun w1 (k : Kp v0 w1) => rgreat_any _ D w1 (hd.kp k) H'.nb (by omega))
 have ED1 := Lib.hid (fun v w1 (h : SsAt w1 v [interR (interR A C) (interR B D)]) => edges_any v _ w1 h (by simp) (l1_le (by omega)))
 have ED2 := Lib.hid (fun v w1 (h : SsAt w1 v [A, interR A C, interR A [(leastR C + 1, 3652424)], interR A (nf (shR 1 1 D))]) => edges_any v _ w1 h (by simp) (l4_le (by omega) (by omega) (by omega) (by omega)))
 have ED3 := Lib.hid (fun v w1 (h : SsAt w1 v [B, interR B D, interR B [(0, greatR D - 1)], interR B (nf (shR (-1) (-1) C))]) => edges_any v _ w1 h (by simp) (l4_le (by omega) (by omega) (by omega) (by omega)))
 have z1 := edg_len [interR (interR A C) (interR B D)]
 have z2 := edg_len [A, interR A C, interR A [(leastR C + 1, 3652424)], interR A (nf (shR 1 1 D))]
 have z3 := edg_len [B, interR B D, interR B [(0, greatR D - 1)], interR B (nf (shR (-1) (-1) C))]
 simp only [List.length_cons, List.length_nil] at z1 z2 z3
 have PX : exPs d A B C D = if d = true then ((edgL [interR (interR A C) (interR B D)] ++ edgL [A, interR A C, interR A [(leastR C + 1, 3652424)], interR A (nf (shR 1 1 D))]) ++ (edgL [interR (interR A C) (interR B D)] ++ edgL [B, interR B D, interR B [(0, greatR D - 1)], interR B (nf (shR (-1) (-1) C))])).map (fun x => (x, x)) else pairsL (edgL [interR (interR A C) (interR B D)] ++ edgL [A, interR A C, interR A [(leastR C + 1, 3652424)], interR A (nf (shR 1 1 D))]) (edgL [interR (interR A C) (interR B D)] ++ edgL [B, interR B D, interR B [(0, greatR D - 1)], interR B (nf (shR (-1) (-1) C))]) := rfl
 rw [PX]
 clear PX
 generalize edgL [A, interR A C, interR A [(leastR C + 1, 3652424)], interR A (nf (shR 1 1 D))] = Z2 at *
 generalize edgL [B, interR B D, interR B [(0, greatR D - 1)], interR B (nf (shR (-1) (-1) C))] = Z3 at *
 generalize edgL [interR (interR A C) (interR B D)] = Z1 at *
 have CO2 := Lib.hid (fun v w1 (h : ZsAt w1 v Z1 Z2) => concatZ_any v _ _ w1 h (by omega) (by omega))
 have CO3 := Lib.hid (fun v w1 (h : ZsAt w1 v Z1 Z3) => concatZ_any v _ _ w1 h (by omega) (by omega))
 have x2 : (Z1 ++ Z2).length ≤ 100 := by rw [List.length_append]; omega
 have x3 : (Z1 ++ Z3).length ≤ 100 := by rw [List.length_append]; omega
 generalize Z1 ++ Z2 = X at *
 generalize Z1 ++ Z3 = Y at *
 have HX2 := Lib.hid x2
 have HX3 := Lib.hid x3
 have SGL := Lib.hid (fun v w1 (h : IntsAt w1 v (X ++ Y)) => singleDays_any v _ w1 h (by rw [List.length_append]; omega))
 generalize List.map (fun x : Int => (x, x)) (X ++ Y) = XY at *
 have PRS := Lib.hid (fun v u w1 (h : IntsAt w1 v X) (g : IntsAt w1 u Y) => pairsOf_any v u _ _ w1 h g (by omega) (by omega))
 clear n1 n2 n3 n4 n5 n6 n7 n8 n9 z1 z2 z3 x2 x3 y1 y2 sh1 sh2
 generalize interR (interR A C) (interR B D) = E3 at *
 generalize interR A C = E1 at *
 generalize interR B D = E2 at *
 generalize interR A (nf (shR 1 1 D)) = E6 at *
 generalize interR B (nf (shR (-1) (-1) C)) = E9 at *
 generalize nf (shR 1 1 D) = E5 at *
 generalize nf (shR (-1) (-1) C) = E8 at *
 generalize interR A [(leastR C + 1, 3652424)] = E4 at *
 generalize interR B [(0, greatR D - 1)] = E7 at *
 have lc0 : 0 ≤ leastR C ∧ leastR C ≤ 3652424 := lC
 have gd0 : 0 ≤ greatR D ∧ greatR D ≤ 3652424 := gD
 generalize leastR C = lc at *
 generalize greatR D = gd at *
 have wl : IntKind.i64.wrap (lc + 1) = lc + 1 := by rw [IntKind.wrap_i64]; omega
 have wg : IntKind.i64.wrap (gd - 1) = gd - 1 := by rw [IntKind.wrap_i64]; omega
 have HA := Lib.hid ha
 have HB := Lib.hid hb
 clear ha hb hc hd H H' bl lC gD nA nB nC nD hV gf gg lc0 gd0 ka
 have kkv0 : Kp v0 v0 := Kp.refl _
 go_enter Tryz.func67, Tryz.ntmps67
 go_upto_region 1 with fail
 rw [← HV.out]
 clear HV
 have kbv0 : Kp v0 v0 := Kp.refl _
 go_cut [5, 6] from 10 (fun s5 s6 wx => ∃ a1 c1 a2 c2, s5 = .slice a1 E1.length c1 ∧ s6 = .slice a2 E2.length c2 ∧ Hid (RunsAt wx (.slice a1 E1.length c1) E1) ∧ Hid (RunsAt wx (.slice a2 E2.length c2) E2) ∧ Hid (Kp v0 wx))
 case first =>
  refine wp_region_held_drew (S := fun w' => w'.cell? ⟨w.heap.size, 0, none⟩ = some (.bool d) ∧ w'.cell? ⟨w.heap.size, 1, none⟩ = some (.slice aa A.length ca) ∧ w'.cell? ⟨w.heap.size, 2, none⟩ = some (.slice ab B.length cb) ∧ w'.cell? ⟨w.heap.size + 1, 1, none⟩ = some (.slice ac C.length cc) ∧ w'.cell? ⟨w.heap.size + 1, 2, none⟩ = some (.slice ad D.length cd) ∧ Kp v0 w') (by kernel_rfl) ?_ (fun hHeld0 => ?_)
  ·(try dsimp only); exact KS.out _ (by first | with_reducible exact kkv0 | ((repeat (first | with_reducible refine Kp.trans ?_ (Kp.drew _) | with_reducible refine Kp.trans ?_ (Kp.alloc _ _))); with_reducible exact kkv0))
  refine tkv 0 exA0 ?_
  (try simp only [Act.put, exA0, List.setIfInBounds_toArray, List.set_cons_zero, List.set_cons_succ])
  refine tkv 1 exA1 ?_
  (try simp only [Act.put, exA1, List.setIfInBounds_toArray, List.set_cons_zero, List.set_cons_succ])
  refine tkv 2 exA2 ?_
  (try simp only [Act.put, exA2, List.setIfInBounds_toArray, List.set_cons_zero, List.set_cons_succ])
  refine tkv 3 exA3 ?_
  (try simp only [Act.put, exA3, List.setIfInBounds_toArray, List.set_cons_zero, List.set_cons_succ])
  refine tkv 5 exA5 ?_
  (try simp only [Act.put, exA5, List.setIfInBounds_toArray, List.set_cons_zero, List.set_cons_succ])
  refine tkv 6 exA6 ?_
  (try simp only [Act.put, exA6, List.setIfInBounds_toArray, List.set_cons_zero, List.set_cons_succ])
  refine tkv 7 exA7 ?_
  (try simp only [Act.put, exA7, List.setIfInBounds_toArray, List.set_cons_zero, List.set_cons_succ])
  refine tkv 8 exA8 ?_
  (try simp only [Act.put, exA8, List.setIfInBounds_toArray, List.set_cons_zero, List.set_cons_succ])
  refine tkE 4 exA4 rfl (by kernel_rfl) (fun K hK => ?_)
  go_simp
  (refine (MS.out _ (by first | with_reducible exact kkv0 | ((repeat (first | with_reducible refine Kp.trans ?_ (Kp.drew _) | with_reducible refine Kp.trans ?_ (Kp.alloc _ _))); with_reducible exact kkv0))).mono ?_; rintro e wa ⟨v1, rfl, o1, kq1⟩; have kkwa : Kp v0 wa := Kp.trans (show Kp v0 _ from (by first | with_reducible exact kkv0 | ((repeat (first | with_reducible refine Kp.trans ?_ (Kp.drew _) | with_reducible refine Kp.trans ?_ (Kp.alloc _ _))); with_reducible exact kkv0))) kq1; have ks1 : Kp v0 wa := Kp.trans (show Kp v0 _ from (by first | with_reducible exact (Kp.refl v0) | ((repeat (first | with_reducible refine Kp.trans ?_ (Kp.drew _) | with_reducible refine Kp.trans ?_ (Kp.alloc _ _))); with_reducible exact (Kp.refl v0)))) kq1; have kbwa : Kp v0 wa := Kp.trans (show Kp v0 _ from (by first | with_reducible exact kbv0 | ((repeat (first | with_reducible refine Kp.trans ?_ (Kp.drew _) | with_reducible refine Kp.trans ?_ (Kp.alloc _ _))); with_reducible exact kbv0))) kq1; have O1 := Lib.hid (runsAt_own o1); obtain ⟨aO1, cO1, rfl⟩ := O1.out.slice; clear o1; clear kq1 ks1)
  (try go_wp2_with fail)
  refine hK.out _ _ ?_ (fun hHeld1 => ?_)
  ·(try dsimp only); exact KS.out _ (by first | with_reducible exact kkwa | ((repeat (first | with_reducible refine Kp.trans ?_ (Kp.drew _) | with_reducible refine Kp.trans ?_ (Kp.alloc _ _))); with_reducible exact kkwa))
  clear hK K hHeld0
  (try simp only [Act.put, exA4, List.setIfInBounds_toArray, List.set_cons_zero, List.set_cons_succ])
  refine tkE 9 exA9 rfl (by kernel_rfl) (fun K hK => ?_)
  go_simp
  (refine (ME.out _ (by first | with_reducible exact kkwa | ((repeat (first | with_reducible refine Kp.trans ?_ (Kp.drew _) | with_reducible refine Kp.trans ?_ (Kp.alloc _ _))); with_reducible exact kkwa))).mono ?_; rintro e wb ⟨v2, rfl, o2, kq1⟩; have kkwb : Kp v0 wb := Kp.trans (show Kp v0 _ from (by first | with_reducible exact kkwa | ((repeat (first | with_reducible refine Kp.trans ?_ (Kp.drew _) | with_reducible refine Kp.trans ?_ (Kp.alloc _ _))); with_reducible exact kkwa))) kq1; have ks1 : Kp wa wb := Kp.trans (show Kp wa _ from (by first | with_reducible exact (Kp.refl wa) | ((repeat (first | with_reducible refine Kp.trans ?_ (Kp.drew _) | with_reducible refine Kp.trans ?_ (Kp.alloc _ _))); with_reducible exact (Kp.refl wa)))) kq1; have kbwb : Kp v0 wb := Kp.trans (show Kp v0 _ from (by first | with_reducible exact kbwa | ((repeat (first | with_reducible refine Kp.trans ?_ (Kp.drew _) | with_reducible refine Kp.trans ?_ (Kp.alloc _ _))); with_reducible exact kbwa))) kq1; have O2 := Lib.hid (runsAt_own o2); obtain ⟨aO2, cO2, rfl⟩ := O2.out.slice; clear o2; replace O1 := Lib.hid (O1.out.kp ks1); clear kq1 ks1)
  (try go_wp2_with fail)
  refine hK.out _ _ ?_ (fun hHeld2 => ?_)
  ·(try dsimp only); exact KS.out _ (by first | with_reducible exact kkwb | ((repeat (first | with_reducible refine Kp.trans ?_ (Kp.drew _) | with_reducible refine Kp.trans ?_ (Kp.alloc _ _))); with_reducible exact kkwb))
  clear hK K hHeld1
  (try simp only [Act.put, exA9, List.setIfInBounds_toArray, List.set_cons_zero, List.set_cons_succ])
  refine tkv 10 exA10 ?_
  (try simp only [Act.put, exA10, List.setIfInBounds_toArray, List.set_cons_zero, List.set_cons_succ])
  refine tkv 11 exA11 ?_
  (try simp only [Act.put, exA11, List.setIfInBounds_toArray, List.set_cons_zero, List.set_cons_succ])
  refine wpAnyH_done (by kernel_rfl) ?_ _
  go_wp2
  go_meet
  case rel => exact ⟨_, _, _, _, rfl, rfl, Lib.hid (O1.out.kp (by first | with_reducible exact (Kp.refl wb) | ((repeat (first | with_reducible refine Kp.trans ?_ (Kp.drew _) | with_reducible refine Kp.trans ?_ (Kp.alloc _ _))); with_reducible exact (Kp.refl wb)))), Lib.hid (O2.out.kp (by first | with_reducible exact (Kp.refl wb) | ((repeat (first | with_reducible refine Kp.trans ?_ (Kp.drew _) | with_reducible refine Kp.trans ?_ (Kp.alloc _ _))); with_reducible exact (Kp.refl wb)))), Lib.hid (by first | with_reducible exact kkwb | ((repeat (first | with_reducible refine Kp.trans ?_ (Kp.drew _) | with_reducible refine Kp.trans ?_ (Kp.alloc _ _))); with_reducible exact kkwb))⟩
 obtain ⟨a1, c1, a2, c2, rfl, rfl, O1, O2, KC⟩ := hcut
 obtain ⟨w1, hw1⟩ : ∃ x, x = wc := ⟨_, rfl⟩
 subst hw1
 go_wp2_with fail
 refine (M3.out _ _ _ O1.out O2.out).mono ?_
 rintro e w2 ⟨v3, rfl, o3, k3⟩
 have O3 := Lib.hid (runsAt_own o3)
 obtain ⟨a3, c3, rfl⟩ := O3.out.slice
 have K3 := Lib.hid k3
 clear o3 k3
 go_wp2_with fail
 refine (ED1.out _ _ (ss_one O3.out)).mono ?_
 rintro e w3 ⟨v7, rfl, o7, k7⟩
 have O7 := Lib.hid (intsAt_ownZ o7)
 obtain ⟨a7, c7, rfl⟩ := O7.out.slice
 have ks : Kp w1 w3 := K3.out.trans ((Kp.alloc _ _).trans k7)
 have kkw3 : Kp v0 w3 := KC.out.trans ks
 replace O1 := Lib.hid (O1.out.kp ks)
 replace O2 := Lib.hid (O2.out.kp ks)
 clear o7 k7 K3 KC O3 ks
 go_upto_region 3 with fail
 have kbw3 : Kp w3 w3 := Kp.refl _
 go_cut [8] from 10 (fun s8 wx => ∃ a8 c8, s8 = .slice a8 X.length c8 ∧ Hid (wx.ownsRow v0.heap.size 3 1 (.slice a8 X.length c8) X.length (cellsZ X)) ∧ Hid (Kp w3 wx))
 case first =>
  refine wp_region_held_drew (S := fun w' => w'.cell? ⟨w.heap.size, 0, none⟩ = some (.bool d) ∧ w'.cell? ⟨w.heap.size, 1, none⟩ = some (.slice aa A.length ca) ∧ w'.cell? ⟨w.heap.size, 2, none⟩ = some (.slice ab B.length cb) ∧ w'.cell? ⟨w.heap.size + 1, 1, none⟩ = some (.slice ac C.length cc) ∧ w'.cell? ⟨w.heap.size + 1, 2, none⟩ = some (.slice ad D.length cd) ∧ Kp v0 w') (by kernel_rfl) ?_ (fun hHeld0 => ?_)
  ·(try dsimp only); exact KS.out _ (by first | with_reducible exact kkw3 | ((repeat (first | with_reducible refine Kp.trans ?_ (Kp.drew _) | with_reducible refine Kp.trans ?_ (Kp.alloc _ _))); with_reducible exact kkw3))
  refine tkv 0 exB0 ?_
  (try simp only [Act.put, exB0, List.setIfInBounds_toArray, List.set_cons_zero, List.set_cons_succ])
  refine tkv 1 exB1 ?_
  (try simp only [Act.put, exB1, List.setIfInBounds_toArray, List.set_cons_zero, List.set_cons_succ])
  refine tkv 2 exB2 ?_
  (try simp only [Act.put, exB2, List.setIfInBounds_toArray, List.set_cons_zero, List.set_cons_succ])
  refine tkv 3 exB3 ?_
  (try simp only [Act.put, exB3, List.setIfInBounds_toArray, List.set_cons_zero, List.set_cons_succ])
  refine tkv 4 exB4 ?_
  (try simp only [Act.put, exB4, List.setIfInBounds_toArray, List.set_cons_zero, List.set_cons_succ])
  refine tkv 5 exB5 ?_
  (try simp only [Act.put, exB5, List.setIfInBounds_toArray, List.set_cons_zero, List.set_cons_succ])
  refine tkv 6 exB6 ?_
  (try simp only [Act.put, exB6, List.setIfInBounds_toArray, List.set_cons_zero, List.set_cons_succ])
  refine tkv 7 exB7 ?_
  (try simp only [Act.put, exB7, List.setIfInBounds_toArray, List.set_cons_zero, List.set_cons_succ])
  refine tkv 11 exB11 ?_
  (try simp only [Act.put, exB11, List.setIfInBounds_toArray, List.set_cons_zero, List.set_cons_succ])
  refine tkv 12 exB12 ?_
  (try simp only [Act.put, exB12, List.setIfInBounds_toArray, List.set_cons_zero, List.set_cons_succ])
  refine tkv 13 exB13 ?_
  (try simp only [Act.put, exB13, List.setIfInBounds_toArray, List.set_cons_zero, List.set_cons_succ])
  refine tkv 14 exB14 ?_
  (try simp only [Act.put, exB14, List.setIfInBounds_toArray, List.set_cons_zero, List.set_cons_succ])
  refine tkE 8 exB8 rfl (by kernel_rfl) (fun K hK => ?_)
  go_simp
  (refine (LE.out _ (by first | with_reducible exact kkw3 | ((repeat (first | with_reducible refine Kp.trans ?_ (Kp.drew _) | with_reducible refine Kp.trans ?_ (Kp.alloc _ _))); with_reducible exact kkw3))).mono ?_; rintro e w' ⟨rfl, rfl⟩)
  (try go_wp2_with fail)
  refine hK.out _ _ ?_ (fun hHeld1 => ?_)
  ·(try dsimp only); exact KS.out _ (by first | with_reducible exact kkw3 | ((repeat (first | with_reducible refine Kp.trans ?_ (Kp.drew _) | with_reducible refine Kp.trans ?_ (Kp.alloc _ _))); with_reducible exact kkw3))
  clear hK K hHeld0
  (try simp only [Act.put, exB8, List.setIfInBounds_toArray, List.set_cons_zero, List.set_cons_succ])
  refine tkv 9 exB9 ?_
  (try simp only [Act.put, exB9, List.setIfInBounds_toArray, List.set_cons_zero, List.set_cons_succ])
  refine tkE 10 exB10 rfl (by kernel_rfl) (fun K hK => ?_)
  go_simp
  ((try rw [wl]); refine (CL.out _ (by first | with_reducible exact kkw3 | ((repeat (first | with_reducible refine Kp.trans ?_ (Kp.drew _) | with_reducible refine Kp.trans ?_ (Kp.alloc _ _))); with_reducible exact kkw3))).mono ?_; rintro e wc1 ⟨v4, rfl, o4, kq1⟩; have kkwc1 : Kp v0 wc1 := Kp.trans (show Kp v0 _ from (by first | with_reducible exact kkw3 | ((repeat (first | with_reducible refine Kp.trans ?_ (Kp.drew _) | with_reducible refine Kp.trans ?_ (Kp.alloc _ _))); with_reducible exact kkw3))) kq1; have ks1 : Kp w3 wc1 := Kp.trans (show Kp w3 _ from (by first | with_reducible exact (Kp.refl w3) | ((repeat (first | with_reducible refine Kp.trans ?_ (Kp.drew _) | with_reducible refine Kp.trans ?_ (Kp.alloc _ _))); with_reducible exact (Kp.refl w3)))) kq1; have kbwc1 : Kp w3 wc1 := Kp.trans (show Kp w3 _ from (by first | with_reducible exact kbw3 | ((repeat (first | with_reducible refine Kp.trans ?_ (Kp.drew _) | with_reducible refine Kp.trans ?_ (Kp.alloc _ _))); with_reducible exact kbw3))) kq1; have O4 := Lib.hid (runsAt_own o4); obtain ⟨aO4, cO4, rfl⟩ := O4.out.slice; clear o4; replace O1 := Lib.hid (O1.out.kp ks1); replace O2 := Lib.hid (O2.out.kp ks1); replace O7 := Lib.hid (O7.out.kp ks1); clear kq1 ks1)
  (try go_wp2_with fail)
  refine hK.out _ _ ?_ (fun hHeld2 => ?_)
  ·(try dsimp only); exact KS.out _ (by first | with_reducible exact kkwc1 | ((repeat (first | with_reducible refine Kp.trans ?_ (Kp.drew _) | with_reducible refine Kp.trans ?_ (Kp.alloc _ _))); with_reducible exact kkwc1))
  clear hK K hHeld1
  (try simp only [Act.put, exB10, List.setIfInBounds_toArray, List.set_cons_zero, List.set_cons_succ])
  refine tkE 15 exB15 rfl (by kernel_rfl) (fun K hK => ?_)
  go_simp
  (refine (SH.out _ (by first | with_reducible exact kkwc1 | ((repeat (first | with_reducible refine Kp.trans ?_ (Kp.drew _) | with_reducible refine Kp.trans ?_ (Kp.alloc _ _))); with_reducible exact kkwc1))).mono ?_; rintro e wc2 ⟨v5, rfl, o5, kq1⟩; have kkwc2 : Kp v0 wc2 := Kp.trans (show Kp v0 _ from (by first | with_reducible exact kkwc1 | ((repeat (first | with_reducible refine Kp.trans ?_ (Kp.drew _) | with_reducible refine Kp.trans ?_ (Kp.alloc _ _))); with_reducible exact kkwc1))) kq1; have ks1 : Kp wc1 wc2 := Kp.trans (show Kp wc1 _ from (by first | with_reducible exact (Kp.refl wc1) | ((repeat (first | with_reducible refine Kp.trans ?_ (Kp.drew _) | with_reducible refine Kp.trans ?_ (Kp.alloc _ _))); with_reducible exact (Kp.refl wc1)))) kq1; have kbwc2 : Kp w3 wc2 := Kp.trans (show Kp w3 _ from (by first | with_reducible exact kbwc1 | ((repeat (first | with_reducible refine Kp.trans ?_ (Kp.drew _) | with_reducible refine Kp.trans ?_ (Kp.alloc _ _))); with_reducible exact kbwc1))) kq1; have O5 := Lib.hid (runsAt_own o5); obtain ⟨aO5, cO5, rfl⟩ := O5.out.slice; clear o5; replace O1 := Lib.hid (O1.out.kp ks1); replace O2 := Lib.hid (O2.out.kp ks1); replace O7 := Lib.hid (O7.out.kp ks1); replace O4 := Lib.hid (O4.out.kp ks1); clear kq1 ks1)
  (try go_wp2_with fail)
  refine hK.out _ _ ?_ (fun hHeld3 => ?_)
  ·(try dsimp only); exact KS.out _ (by first | with_reducible exact kkwc2 | ((repeat (first | with_reducible refine Kp.trans ?_ (Kp.drew _) | with_reducible refine Kp.trans ?_ (Kp.alloc _ _))); with_reducible exact kkwc2))
  clear hK K hHeld2
  (try simp only [Act.put, exB15, List.setIfInBounds_toArray, List.set_cons_zero, List.set_cons_succ])
  refine tkE 16 exB16 rfl (by kernel_rfl) (fun K hK => ?_)
  go_simp
  (refine (M6.out _ _ (O5.out.kp (by first | with_reducible exact (Kp.refl wc2) | ((repeat (first | with_reducible refine Kp.trans ?_ (Kp.drew _) | with_reducible refine Kp.trans ?_ (Kp.alloc _ _))); with_reducible exact (Kp.refl wc2)))) (by first | with_reducible exact kkwc2 | ((repeat (first | with_reducible refine Kp.trans ?_ (Kp.drew _) | with_reducible refine Kp.trans ?_ (Kp.alloc _ _))); with_reducible exact kkwc2))).mono ?_; rintro e wc3 ⟨v6, rfl, o6, kq1⟩; have kkwc3 : Kp v0 wc3 := Kp.trans (show Kp v0 _ from (by first | with_reducible exact kkwc2 | ((repeat (first | with_reducible refine Kp.trans ?_ (Kp.drew _) | with_reducible refine Kp.trans ?_ (Kp.alloc _ _))); with_reducible exact kkwc2))) kq1; have ks1 : Kp wc2 wc3 := Kp.trans (show Kp wc2 _ from (by first | with_reducible exact (Kp.refl wc2) | ((repeat (first | with_reducible refine Kp.trans ?_ (Kp.drew _) | with_reducible refine Kp.trans ?_ (Kp.alloc _ _))); with_reducible exact (Kp.refl wc2)))) kq1; have kbwc3 : Kp w3 wc3 := Kp.trans (show Kp w3 _ from (by first | with_reducible exact kbwc2 | ((repeat (first | with_reducible refine Kp.trans ?_ (Kp.drew _) | with_reducible refine Kp.trans ?_ (Kp.alloc _ _))); with_reducible exact kbwc2))) kq1; have O6 := Lib.hid (runsAt_own o6); obtain ⟨aO6, cO6, rfl⟩ := O6.out.slice; clear o6; replace O1 := Lib.hid (O1.out.kp ks1); replace O2 := Lib.hid (O2.out.kp ks1); replace O7 := Lib.hid (O7.out.kp ks1); replace O4 := Lib.hid (O4.out.kp ks1); replace O5 := Lib.hid (O5.out.kp ks1); clear kq1 ks1)
  (try go_wp2_with fail)
  refine hK.out _ _ ?_ (fun hHeld4 => ?_)
  ·(try dsimp only); exact KS.out _ (by first | with_reducible exact kkwc3 | ((repeat (first | with_reducible refine Kp.trans ?_ (Kp.drew _) | with_reducible refine Kp.trans ?_ (Kp.alloc _ _))); with_reducible exact kkwc3))
  clear hK K hHeld3
  (try simp only [Act.put, exB16, List.setIfInBounds_toArray, List.set_cons_zero, List.set_cons_succ])
  refine tkE 17 exB17 rfl (by kernel_rfl) (fun K hK => ?_)
  go_simp
  skip
  (try go_wp2_with fail)
  refine hK.out _ _ ?_ (fun hHeld5 => ?_)
  ·(try dsimp only); exact KS.out _ (by first | with_reducible exact kkwc3 | ((repeat (first | with_reducible refine Kp.trans ?_ (Kp.drew _) | with_reducible refine Kp.trans ?_ (Kp.alloc _ _))); with_reducible exact kkwc3))
  clear hK K hHeld4
  (try simp only [Act.put, exB17, List.setIfInBounds_toArray, List.set_cons_zero, List.set_cons_succ])
  refine tkE 18 exB18 rfl (by kernel_rfl) (fun K hK => ?_)
  go_simp
  (refine (ED2.out _ _ (ss_four (HA.out.kp (by first | with_reducible exact kkwc3 | ((repeat (first | with_reducible refine Kp.trans ?_ (Kp.drew _) | with_reducible refine Kp.trans ?_ (Kp.alloc _ _))); with_reducible exact kkwc3))) (O1.out.kp (by first | with_reducible exact (Kp.refl wc3) | ((repeat (first | with_reducible refine Kp.trans ?_ (Kp.drew _) | with_reducible refine Kp.trans ?_ (Kp.alloc _ _))); with_reducible exact (Kp.refl wc3)))) (O4.out.kp (by first | with_reducible exact (Kp.refl wc3) | ((repeat (first | with_reducible refine Kp.trans ?_ (Kp.drew _) | with_reducible refine Kp.trans ?_ (Kp.alloc _ _))); with_reducible exact (Kp.refl wc3)))) (O6.out.kp (by first | with_reducible exact (Kp.refl wc3) | ((repeat (first | with_reducible refine Kp.trans ?_ (Kp.drew _) | with_reducible refine Kp.trans ?_ (Kp.alloc _ _))); with_reducible exact (Kp.refl wc3)))))).mono ?_; rintro e wc4 ⟨v9, rfl, o9, kq1⟩; have kkwc4 : Kp v0 wc4 := Kp.trans (show Kp v0 _ from (by first | with_reducible exact kkwc3 | ((repeat (first | with_reducible refine Kp.trans ?_ (Kp.drew _) | with_reducible refine Kp.trans ?_ (Kp.alloc _ _))); with_reducible exact kkwc3))) kq1; have ks1 : Kp wc3 wc4 := Kp.trans (show Kp wc3 _ from (by first | with_reducible exact (Kp.refl wc3) | ((repeat (first | with_reducible refine Kp.trans ?_ (Kp.drew _) | with_reducible refine Kp.trans ?_ (Kp.alloc _ _))); with_reducible exact (Kp.refl wc3)))) kq1; have kbwc4 : Kp w3 wc4 := Kp.trans (show Kp w3 _ from (by first | with_reducible exact kbwc3 | ((repeat (first | with_reducible refine Kp.trans ?_ (Kp.drew _) | with_reducible refine Kp.trans ?_ (Kp.alloc _ _))); with_reducible exact kbwc3))) kq1; have O9 := Lib.hid (intsAt_ownZ o9); obtain ⟨a9, c9, rfl⟩ := O9.out.slice; clear o9; replace O1 := Lib.hid (O1.out.kp ks1); replace O2 := Lib.hid (O2.out.kp ks1); replace O7 := Lib.hid (O7.out.kp ks1); replace O4 := Lib.hid (O4.out.kp ks1); replace O5 := Lib.hid (O5.out.kp ks1); replace O6 := Lib.hid (O6.out.kp ks1); clear kq1 ks1)
  (try go_wp2_with fail)
  refine hK.out _ _ ?_ (fun hHeld6 => ?_)
  ·(try dsimp only); exact KS.out _ (by first | with_reducible exact kkwc4 | ((repeat (first | with_reducible refine Kp.trans ?_ (Kp.drew _) | with_reducible refine Kp.trans ?_ (Kp.alloc _ _))); with_reducible exact kkwc4))
  clear hK K hHeld5
  (try simp only [Act.put, exB18, List.setIfInBounds_toArray, List.set_cons_zero, List.set_cons_succ])
  refine tkE 19 exB19 rfl (by kernel_rfl) (fun K hK => ?_)
  go_simp
  skip
  (try go_wp2_with fail)
  refine hK.out _ _ ?_ (fun hHeld7 => ?_)
  ·(try dsimp only); exact KS.out _ (by first | with_reducible exact kkwc4 | ((repeat (first | with_reducible refine Kp.trans ?_ (Kp.drew _) | with_reducible refine Kp.trans ?_ (Kp.alloc _ _))); with_reducible exact kkwc4))
  clear hK K hHeld6
  (try simp only [Act.put, exB19, List.setIfInBounds_toArray, List.set_cons_zero, List.set_cons_succ])
  refine tkE 20 exB20 rfl (by kernel_rfl) (fun K hK => ?_)
  go_simp
  (refine (CO2.out _ _ (zs_two (O7.out.kp (by first | with_reducible exact (Kp.refl wc4) | ((repeat (first | with_reducible refine Kp.trans ?_ (Kp.drew _) | with_reducible refine Kp.trans ?_ (Kp.alloc _ _))); with_reducible exact (Kp.refl wc4)))) (O9.out.kp (by first | with_reducible exact (Kp.refl wc4) | ((repeat (first | with_reducible refine Kp.trans ?_ (Kp.drew _) | with_reducible refine Kp.trans ?_ (Kp.alloc _ _))); with_reducible exact (Kp.refl wc4)))))).mono ?_; rintro e wc5 ⟨v8, rfl, o8, kq1⟩; have kkwc5 : Kp v0 wc5 := Kp.trans (show Kp v0 _ from (by first | with_reducible exact kkwc4 | ((repeat (first | with_reducible refine Kp.trans ?_ (Kp.drew _) | with_reducible refine Kp.trans ?_ (Kp.alloc _ _))); with_reducible exact kkwc4))) kq1; have ks1 : Kp wc4 wc5 := Kp.trans (show Kp wc4 _ from (by first | with_reducible exact (Kp.refl wc4) | ((repeat (first | with_reducible refine Kp.trans ?_ (Kp.drew _) | with_reducible refine Kp.trans ?_ (Kp.alloc _ _))); with_reducible exact (Kp.refl wc4)))) kq1; have kbwc5 : Kp w3 wc5 := Kp.trans (show Kp w3 _ from (by first | with_reducible exact kbwc4 | ((repeat (first | with_reducible refine Kp.trans ?_ (Kp.drew _) | with_reducible refine Kp.trans ?_ (Kp.alloc _ _))); with_reducible exact kbwc4))) kq1; have Q8 := Lib.hid (own_mono o8 (show Kp v0 _ from (by first | with_reducible exact kkwc4 | ((repeat (first | with_reducible refine Kp.trans ?_ (Kp.drew _) | with_reducible refine Kp.trans ?_ (Kp.alloc _ _))); with_reducible exact kkwc4))).size); obtain ⟨aX, cX, rfl⟩ := own_sliceZ o8; clear o8; replace O1 := Lib.hid (O1.out.kp ks1); replace O2 := Lib.hid (O2.out.kp ks1); replace O7 := Lib.hid (O7.out.kp ks1); replace O4 := Lib.hid (O4.out.kp ks1); replace O5 := Lib.hid (O5.out.kp ks1); replace O6 := Lib.hid (O6.out.kp ks1); replace O9 := Lib.hid (O9.out.kp ks1); clear kq1 ks1)
  (try go_wp2_with fail)
  refine hK.out _ _ ?_ (fun hHeld8 => ?_)
  ·(try dsimp only); exact KS.out _ (by first | with_reducible exact kkwc5 | ((repeat (first | with_reducible refine Kp.trans ?_ (Kp.drew _) | with_reducible refine Kp.trans ?_ (Kp.alloc _ _))); with_reducible exact kkwc5))
  clear hK K hHeld7
  (try simp only [Act.put, exB20, List.setIfInBounds_toArray, List.set_cons_zero, List.set_cons_succ])
  refine tkv 21 exB21 ?_
  (try simp only [Act.put, exB21, List.setIfInBounds_toArray, List.set_cons_zero, List.set_cons_succ])
  refine wpAnyH_done (by kernel_rfl) ?_ _
  go_wp2
  go_meet
  case rel => exact ⟨_, _, rfl, Lib.hid (own_kp Q8.out (by first | with_reducible exact (Kp.refl wc5) | ((repeat (first | with_reducible refine Kp.trans ?_ (Kp.drew _) | with_reducible refine Kp.trans ?_ (Kp.alloc _ _))); with_reducible exact (Kp.refl wc5)))), Lib.hid (by first | with_reducible exact kbwc5 | ((repeat (first | with_reducible refine Kp.trans ?_ (Kp.drew _) | with_reducible refine Kp.trans ?_ (Kp.alloc _ _))); with_reducible exact kbwc5))⟩
 obtain ⟨a8, c8, rfl, Q0, KD⟩ := hcut
 obtain ⟨w4, hw1⟩ : ∃ x, x = wc := ⟨_, rfl⟩
 subst hw1
 have kkw4 : Kp v0 w4 := kkw3.trans KD.out
 replace O2 := Lib.hid (O2.out.kp KD.out)
 replace O7 := Lib.hid (O7.out.kp KD.out)
 clear O1 KD
 go_upto_region 4 with fail
 have kbw4 : Kp w4 w4 := Kp.refl _
 go_cut [9] from 10 (fun s9 wx => ∃ a9 c9, s9 = .slice a9 Y.length c9 ∧ Hid (wx.ownsRow v0.heap.size 3 1 (.slice a9 Y.length c9) Y.length (cellsZ Y)) ∧ Hid (wx.ownsRow v0.heap.size 3 1 (.slice a8 X.length c8) X.length (cellsZ X)) ∧ Hid (Kp v0 wx))
 case first =>
  refine wp_region_held_drew (S := fun w' => w'.cell? ⟨w.heap.size, 0, none⟩ = some (.bool d) ∧ w'.cell? ⟨w.heap.size, 1, none⟩ = some (.slice aa A.length ca) ∧ w'.cell? ⟨w.heap.size, 2, none⟩ = some (.slice ab B.length cb) ∧ w'.cell? ⟨w.heap.size + 1, 1, none⟩ = some (.slice ac C.length cc) ∧ w'.cell? ⟨w.heap.size + 1, 2, none⟩ = some (.slice ad D.length cd) ∧ Kp v0 w') (by kernel_rfl) ?_ (fun hHeld0 => ?_)
  ·(try dsimp only); exact KS.out _ (by first | with_reducible exact kkw4 | ((repeat (first | with_reducible refine Kp.trans ?_ (Kp.drew _) | with_reducible refine Kp.trans ?_ (Kp.alloc _ _))); with_reducible exact kkw4))
  refine tkv 0 exC0 ?_
  (try simp only [Act.put, exC0, List.setIfInBounds_toArray, List.set_cons_zero, List.set_cons_succ])
  refine tkv 1 exC1 ?_
  (try simp only [Act.put, exC1, List.setIfInBounds_toArray, List.set_cons_zero, List.set_cons_succ])
  refine tkv 2 exC2 ?_
  (try simp only [Act.put, exC2, List.setIfInBounds_toArray, List.set_cons_zero, List.set_cons_succ])
  refine tkv 3 exC3 ?_
  (try simp only [Act.put, exC3, List.setIfInBounds_toArray, List.set_cons_zero, List.set_cons_succ])
  refine tkv 4 exC4 ?_
  (try simp only [Act.put, exC4, List.setIfInBounds_toArray, List.set_cons_zero, List.set_cons_succ])
  refine tkv 5 exC5 ?_
  (try simp only [Act.put, exC5, List.setIfInBounds_toArray, List.set_cons_zero, List.set_cons_succ])
  refine tkv 6 exC6 ?_
  (try simp only [Act.put, exC6, List.setIfInBounds_toArray, List.set_cons_zero, List.set_cons_succ])
  refine tkv 7 exC7 ?_
  (try simp only [Act.put, exC7, List.setIfInBounds_toArray, List.set_cons_zero, List.set_cons_succ])
  refine tkv 11 exC11 ?_
  (try simp only [Act.put, exC11, List.setIfInBounds_toArray, List.set_cons_zero, List.set_cons_succ])
  refine tkv 12 exC12 ?_
  (try simp only [Act.put, exC12, List.setIfInBounds_toArray, List.set_cons_zero, List.set_cons_succ])
  refine tkv 13 exC13 ?_
  (try simp only [Act.put, exC13, List.setIfInBounds_toArray, List.set_cons_zero, List.set_cons_succ])
  refine tkv 14 exC14 ?_
  (try simp only [Act.put, exC14, List.setIfInBounds_toArray, List.set_cons_zero, List.set_cons_succ])
  refine tkE 8 exC8 rfl (by kernel_rfl) (fun K hK => ?_)
  go_simp
  (refine (GR.out _ (by first | with_reducible exact kkw4 | ((repeat (first | with_reducible refine Kp.trans ?_ (Kp.drew _) | with_reducible refine Kp.trans ?_ (Kp.alloc _ _))); with_reducible exact kkw4))).mono ?_; rintro e w' ⟨rfl, rfl⟩)
  (try go_wp2_with fail)
  refine hK.out _ _ ?_ (fun hHeld1 => ?_)
  ·(try dsimp only); exact KS.out _ (by first | with_reducible exact kkw4 | ((repeat (first | with_reducible refine Kp.trans ?_ (Kp.drew _) | with_reducible refine Kp.trans ?_ (Kp.alloc _ _))); with_reducible exact kkw4))
  clear hK K hHeld0
  (try simp only [Act.put, exC8, List.setIfInBounds_toArray, List.set_cons_zero, List.set_cons_succ])
  refine tkv 9 exC9 ?_
  (try simp only [Act.put, exC9, List.setIfInBounds_toArray, List.set_cons_zero, List.set_cons_succ])
  refine tkE 10 exC10 rfl (by kernel_rfl) (fun K hK => ?_)
  go_simp
  ((try rw [wg]); refine (DL.out _ (by first | with_reducible exact kkw4 | ((repeat (first | with_reducible refine Kp.trans ?_ (Kp.drew _) | with_reducible refine Kp.trans ?_ (Kp.alloc _ _))); with_reducible exact kkw4))).mono ?_; rintro e wc1 ⟨v4, rfl, o4, kq1⟩; have kkwc1 : Kp v0 wc1 := Kp.trans (show Kp v0 _ from (by first | with_reducible exact kkw4 | ((repeat (first | with_reducible refine Kp.trans ?_ (Kp.drew _) | with_reducible refine Kp.trans ?_ (Kp.alloc _ _))); with_reducible exact kkw4))) kq1; have ks1 : Kp w4 wc1 := Kp.trans (show Kp w4 _ from (by first | with_reducible exact (Kp.refl w4) | ((repeat (first | with_reducible refine Kp.trans ?_ (Kp.drew _) | with_reducible refine Kp.trans ?_ (Kp.alloc _ _))); with_reducible exact (Kp.refl w4)))) kq1; have kbwc1 : Kp w4 wc1 := Kp.trans (show Kp w4 _ from (by first | with_reducible exact kbw4 | ((repeat (first | with_reducible refine Kp.trans ?_ (Kp.drew _) | with_reducible refine Kp.trans ?_ (Kp.alloc _ _))); with_reducible exact kbw4))) kq1; have O4 := Lib.hid (runsAt_own o4); obtain ⟨aO4, cO4, rfl⟩ := O4.out.slice; clear o4; replace O2 := Lib.hid (O2.out.kp ks1); replace O7 := Lib.hid (O7.out.kp ks1); replace Q0 := Lib.hid (own_kp Q0.out ks1); clear kq1 ks1)
  (try go_wp2_with fail)
  refine hK.out _ _ ?_ (fun hHeld2 => ?_)
  ·(try dsimp only); exact KS.out _ (by first | with_reducible exact kkwc1 | ((repeat (first | with_reducible refine Kp.trans ?_ (Kp.drew _) | with_reducible refine Kp.trans ?_ (Kp.alloc _ _))); with_reducible exact kkwc1))
  clear hK K hHeld1
  (try simp only [Act.put, exC10, List.setIfInBounds_toArray, List.set_cons_zero, List.set_cons_succ])
  refine tkE 15 exC15 rfl (by kernel_rfl) (fun K hK => ?_)
  go_simp
  (refine (TH.out _ (by first | with_reducible exact kkwc1 | ((repeat (first | with_reducible refine Kp.trans ?_ (Kp.drew _) | with_reducible refine Kp.trans ?_ (Kp.alloc _ _))); with_reducible exact kkwc1))).mono ?_; rintro e wc2 ⟨v5, rfl, o5, kq1⟩; have kkwc2 : Kp v0 wc2 := Kp.trans (show Kp v0 _ from (by first | with_reducible exact kkwc1 | ((repeat (first | with_reducible refine Kp.trans ?_ (Kp.drew _) | with_reducible refine Kp.trans ?_ (Kp.alloc _ _))); with_reducible exact kkwc1))) kq1; have ks1 : Kp wc1 wc2 := Kp.trans (show Kp wc1 _ from (by first | with_reducible exact (Kp.refl wc1) | ((repeat (first | with_reducible refine Kp.trans ?_ (Kp.drew _) | with_reducible refine Kp.trans ?_ (Kp.alloc _ _))); with_reducible exact (Kp.refl wc1)))) kq1; have kbwc2 : Kp w4 wc2 := Kp.trans (show Kp w4 _ from (by first | with_reducible exact kbwc1 | ((repeat (first | with_reducible refine Kp.trans ?_ (Kp.drew _) | with_reducible refine Kp.trans ?_ (Kp.alloc _ _))); with_reducible exact kbwc1))) kq1; have O5 := Lib.hid (runsAt_own o5); obtain ⟨aO5, cO5, rfl⟩ := O5.out.slice; clear o5; replace O2 := Lib.hid (O2.out.kp ks1); replace O7 := Lib.hid (O7.out.kp ks1); replace Q0 := Lib.hid (own_kp Q0.out ks1); replace O4 := Lib.hid (O4.out.kp ks1); clear kq1 ks1)
  (try go_wp2_with fail)
  refine hK.out _ _ ?_ (fun hHeld3 => ?_)
  ·(try dsimp only); exact KS.out _ (by first | with_reducible exact kkwc2 | ((repeat (first | with_reducible refine Kp.trans ?_ (Kp.drew _) | with_reducible refine Kp.trans ?_ (Kp.alloc _ _))); with_reducible exact kkwc2))
  clear hK K hHeld2
  (try simp only [Act.put, exC15, List.setIfInBounds_toArray, List.set_cons_zero, List.set_cons_succ])
  refine tkE 16 exC16 rfl (by kernel_rfl) (fun K hK => ?_)
  go_simp
  (refine (M9.out _ _ (O5.out.kp (by first | with_reducible exact (Kp.refl wc2) | ((repeat (first | with_reducible refine Kp.trans ?_ (Kp.drew _) | with_reducible refine Kp.trans ?_ (Kp.alloc _ _))); with_reducible exact (Kp.refl wc2)))) (by first | with_reducible exact kkwc2 | ((repeat (first | with_reducible refine Kp.trans ?_ (Kp.drew _) | with_reducible refine Kp.trans ?_ (Kp.alloc _ _))); with_reducible exact kkwc2))).mono ?_; rintro e wc3 ⟨v6, rfl, o6, kq1⟩; have kkwc3 : Kp v0 wc3 := Kp.trans (show Kp v0 _ from (by first | with_reducible exact kkwc2 | ((repeat (first | with_reducible refine Kp.trans ?_ (Kp.drew _) | with_reducible refine Kp.trans ?_ (Kp.alloc _ _))); with_reducible exact kkwc2))) kq1; have ks1 : Kp wc2 wc3 := Kp.trans (show Kp wc2 _ from (by first | with_reducible exact (Kp.refl wc2) | ((repeat (first | with_reducible refine Kp.trans ?_ (Kp.drew _) | with_reducible refine Kp.trans ?_ (Kp.alloc _ _))); with_reducible exact (Kp.refl wc2)))) kq1; have kbwc3 : Kp w4 wc3 := Kp.trans (show Kp w4 _ from (by first | with_reducible exact kbwc2 | ((repeat (first | with_reducible refine Kp.trans ?_ (Kp.drew _) | with_reducible refine Kp.trans ?_ (Kp.alloc _ _))); with_reducible exact kbwc2))) kq1; have O6 := Lib.hid (runsAt_own o6); obtain ⟨aO6, cO6, rfl⟩ := O6.out.slice; clear o6; replace O2 := Lib.hid (O2.out.kp ks1); replace O7 := Lib.hid (O7.out.kp ks1); replace Q0 := Lib.hid (own_kp Q0.out ks1); replace O4 := Lib.hid (O4.out.kp ks1); replace O5 := Lib.hid (O5.out.kp ks1); clear kq1 ks1)
  (try go_wp2_with fail)
  refine hK.out _ _ ?_ (fun hHeld4 => ?_)
  ·(try dsimp only); exact KS.out _ (by first | with_reducible exact kkwc3 | ((repeat (first | with_reducible refine Kp.trans ?_ (Kp.drew _) | with_reducible refine Kp.trans ?_ (Kp.alloc _ _))); with_reducible exact kkwc3))
  clear hK K hHeld3
  (try simp only [Act.put, exC16, List.setIfInBounds_toArray, List.set_cons_zero, List.set_cons_succ])
  refine tkE 17 exC17 rfl (by kernel_rfl) (fun K hK => ?_)
  go_simp
  skip
  (try go_wp2_with fail)
  refine hK.out _ _ ?_ (fun hHeld5 => ?_)
  ·(try dsimp only); exact KS.out _ (by first | with_reducible exact kkwc3 | ((repeat (first | with_reducible refine Kp.trans ?_ (Kp.drew _) | with_reducible refine Kp.trans ?_ (Kp.alloc _ _))); with_reducible exact kkwc3))
  clear hK K hHeld4
  (try simp only [Act.put, exC17, List.setIfInBounds_toArray, List.set_cons_zero, List.set_cons_succ])
  refine tkE 18 exC18 rfl (by kernel_rfl) (fun K hK => ?_)
  go_simp
  (refine (ED3.out _ _ (ss_four (HB.out.kp (by first | with_reducible exact kkwc3 | ((repeat (first | with_reducible refine Kp.trans ?_ (Kp.drew _) | with_reducible refine Kp.trans ?_ (Kp.alloc _ _))); with_reducible exact kkwc3))) (O2.out.kp (by first | with_reducible exact (Kp.refl wc3) | ((repeat (first | with_reducible refine Kp.trans ?_ (Kp.drew _) | with_reducible refine Kp.trans ?_ (Kp.alloc _ _))); with_reducible exact (Kp.refl wc3)))) (O4.out.kp (by first | with_reducible exact (Kp.refl wc3) | ((repeat (first | with_reducible refine Kp.trans ?_ (Kp.drew _) | with_reducible refine Kp.trans ?_ (Kp.alloc _ _))); with_reducible exact (Kp.refl wc3)))) (O6.out.kp (by first | with_reducible exact (Kp.refl wc3) | ((repeat (first | with_reducible refine Kp.trans ?_ (Kp.drew _) | with_reducible refine Kp.trans ?_ (Kp.alloc _ _))); with_reducible exact (Kp.refl wc3)))))).mono ?_; rintro e wc4 ⟨v9, rfl, o9, kq1⟩; have kkwc4 : Kp v0 wc4 := Kp.trans (show Kp v0 _ from (by first | with_reducible exact kkwc3 | ((repeat (first | with_reducible refine Kp.trans ?_ (Kp.drew _) | with_reducible refine Kp.trans ?_ (Kp.alloc _ _))); with_reducible exact kkwc3))) kq1; have ks1 : Kp wc3 wc4 := Kp.trans (show Kp wc3 _ from (by first | with_reducible exact (Kp.refl wc3) | ((repeat (first | with_reducible refine Kp.trans ?_ (Kp.drew _) | with_reducible refine Kp.trans ?_ (Kp.alloc _ _))); with_reducible exact (Kp.refl wc3)))) kq1; have kbwc4 : Kp w4 wc4 := Kp.trans (show Kp w4 _ from (by first | with_reducible exact kbwc3 | ((repeat (first | with_reducible refine Kp.trans ?_ (Kp.drew _) | with_reducible refine Kp.trans ?_ (Kp.alloc _ _))); with_reducible exact kbwc3))) kq1; have O9 := Lib.hid (intsAt_ownZ o9); obtain ⟨a9, c9, rfl⟩ := O9.out.slice; clear o9; replace O2 := Lib.hid (O2.out.kp ks1); replace O7 := Lib.hid (O7.out.kp ks1); replace Q0 := Lib.hid (own_kp Q0.out ks1); replace O4 := Lib.hid (O4.out.kp ks1); replace O5 := Lib.hid (O5.out.kp ks1); replace O6 := Lib.hid (O6.out.kp ks1); clear kq1 ks1)
  (try go_wp2_with fail)
  refine hK.out _ _ ?_ (fun hHeld6 => ?_)
  ·(try dsimp only); exact KS.out _ (by first | with_reducible exact kkwc4 | ((repeat (first | with_reducible refine Kp.trans ?_ (Kp.drew _) | with_reducible refine Kp.trans ?_ (Kp.alloc _ _))); with_reducible exact kkwc4))
  clear hK K hHeld5
  (try simp only [Act.put, exC18, List.setIfInBounds_toArray, List.set_cons_zero, List.set_cons_succ])
  refine tkE 19 exC19 rfl (by kernel_rfl) (fun K hK => ?_)
  go_simp
  skip
  (try go_wp2_with fail)
  refine hK.out _ _ ?_ (fun hHeld7 => ?_)
  ·(try dsimp only); exact KS.out _ (by first | with_reducible exact kkwc4 | ((repeat (first | with_reducible refine Kp.trans ?_ (Kp.drew _) | with_reducible refine Kp.trans ?_ (Kp.alloc _ _))); with_reducible exact kkwc4))
  clear hK K hHeld6
  (try simp only [Act.put, exC19, List.setIfInBounds_toArray, List.set_cons_zero, List.set_cons_succ])
  refine tkE 20 exC20 rfl (by kernel_rfl) (fun K hK => ?_)
  go_simp
  (refine (CO3.out _ _ (zs_two (O7.out.kp (by first | with_reducible exact (Kp.refl wc4) | ((repeat (first | with_reducible refine Kp.trans ?_ (Kp.drew _) | with_reducible refine Kp.trans ?_ (Kp.alloc _ _))); with_reducible exact (Kp.refl wc4)))) (O9.out.kp (by first | with_reducible exact (Kp.refl wc4) | ((repeat (first | with_reducible refine Kp.trans ?_ (Kp.drew _) | with_reducible refine Kp.trans ?_ (Kp.alloc _ _))); with_reducible exact (Kp.refl wc4)))))).mono ?_; rintro e wc5 ⟨v8, rfl, o8, kq1⟩; have kkwc5 : Kp v0 wc5 := Kp.trans (show Kp v0 _ from (by first | with_reducible exact kkwc4 | ((repeat (first | with_reducible refine Kp.trans ?_ (Kp.drew _) | with_reducible refine Kp.trans ?_ (Kp.alloc _ _))); with_reducible exact kkwc4))) kq1; have ks1 : Kp wc4 wc5 := Kp.trans (show Kp wc4 _ from (by first | with_reducible exact (Kp.refl wc4) | ((repeat (first | with_reducible refine Kp.trans ?_ (Kp.drew _) | with_reducible refine Kp.trans ?_ (Kp.alloc _ _))); with_reducible exact (Kp.refl wc4)))) kq1; have kbwc5 : Kp w4 wc5 := Kp.trans (show Kp w4 _ from (by first | with_reducible exact kbwc4 | ((repeat (first | with_reducible refine Kp.trans ?_ (Kp.drew _) | with_reducible refine Kp.trans ?_ (Kp.alloc _ _))); with_reducible exact kbwc4))) kq1; have Q8 := Lib.hid (own_mono o8 (show Kp v0 _ from (by first | with_reducible exact kkwc4 | ((repeat (first | with_reducible refine Kp.trans ?_ (Kp.drew _) | with_reducible refine Kp.trans ?_ (Kp.alloc _ _))); with_reducible exact kkwc4))).size); obtain ⟨aX, cX, rfl⟩ := own_sliceZ o8; clear o8; replace O2 := Lib.hid (O2.out.kp ks1); replace O7 := Lib.hid (O7.out.kp ks1); replace Q0 := Lib.hid (own_kp Q0.out ks1); replace O4 := Lib.hid (O4.out.kp ks1); replace O5 := Lib.hid (O5.out.kp ks1); replace O6 := Lib.hid (O6.out.kp ks1); replace O9 := Lib.hid (O9.out.kp ks1); clear kq1 ks1)
  (try go_wp2_with fail)
  refine hK.out _ _ ?_ (fun hHeld8 => ?_)
  ·(try dsimp only); exact KS.out _ (by first | with_reducible exact kkwc5 | ((repeat (first | with_reducible refine Kp.trans ?_ (Kp.drew _) | with_reducible refine Kp.trans ?_ (Kp.alloc _ _))); with_reducible exact kkwc5))
  clear hK K hHeld7
  (try simp only [Act.put, exC20, List.setIfInBounds_toArray, List.set_cons_zero, List.set_cons_succ])
  refine tkv 21 exC21 ?_
  (try simp only [Act.put, exC21, List.setIfInBounds_toArray, List.set_cons_zero, List.set_cons_succ])
  refine wpAnyH_done (by kernel_rfl) ?_ _
  go_wp2
  go_meet
  case rel => exact ⟨_, _, rfl, Lib.hid (own_kp Q8.out (by first | with_reducible exact (Kp.refl wc5) | ((repeat (first | with_reducible refine Kp.trans ?_ (Kp.drew _) | with_reducible refine Kp.trans ?_ (Kp.alloc _ _))); with_reducible exact (Kp.refl wc5)))), Lib.hid (own_kp Q0.out (by first | with_reducible exact (Kp.refl wc5) | ((repeat (first | with_reducible refine Kp.trans ?_ (Kp.drew _) | with_reducible refine Kp.trans ?_ (Kp.alloc _ _))); with_reducible exact (Kp.refl wc5)))), Lib.hid (by first | with_reducible exact kkwc5 | ((repeat (first | with_reducible refine Kp.trans ?_ (Kp.drew _) | with_reducible refine Kp.trans ?_ (Kp.alloc _ _))); with_reducible exact kkwc5))⟩
 obtain ⟨a9, c9, rfl, Q9, Q8, KE⟩ := hcut
 obtain ⟨w5, hw1⟩ : ∃ x, x = wc := ⟨_, rfl⟩
 subst hw1
 obtain ⟨f0, -, -, -, -, -⟩ := KS.out _ KE.out
 clear O2 O7 Q0
 have sz := KE.out.size
 cases d with
 | true =>
  have hb1 := HX2.out
  have hb2 := HX3.out
  go_wp2_with (at_builtin; refine wpList_app rfl (.tmp 69) (.tmp 70) 84 rfl v0.heap.size 3 i0 (.int .i64 0) 1 8 Tryz.underlying84 hi hz0 hz1 hz2 rfl (by decide) _ _ _ rfl Q8.out _ _ _ rfl (intsAt_ownZ Q9.out).src (by rw [cellsZ_length]; omega) (cellsZ_one _) (by unfold maxLen; omega) (by omega) (by omega) ?_; intro v1 w6 hown1 hgrow1 hat1)
  have O6 := Lib.hid (intsAt_ownZ (own_lenZ hown1))
  have K6 := Lib.hid (Kp.grown KE.out hgrow1 (fun j hj => (Q8.out.lt j hj).1))
  obtain ⟨a6, c6, rfl⟩ := O6.out.slice
  go_wp2_with fail
  refine (SGL.out _ _ O6.out).mono ?_
  rintro e w7 ⟨v7, rfl, o7, k7⟩
  have O7 := Lib.hid o7
  have K7 := Lib.hid k7
  clear o7 k7
  go_wp2
  go_ret
  exact ⟨_, rfl, own_mono O7.out (KA.out.trans K6.out).size, (KA.out.trans K6.out).trans K7.out⟩
 | false =>
  go_wp2_with fail
  refine (PRS.out _ _ _ (intsAt_ownZ Q8.out) (intsAt_ownZ Q9.out)).mono ?_
  rintro e w7 ⟨v7, rfl, o7, k7⟩
  have O7 := Lib.hid o7
  have K7 := Lib.hid k7
  clear o7 k7
  go_wp2
  go_ret
  exact ⟨_, rfl, own_mono O7.out (KA.out.trans KE.out).size, (KA.out.trans KE.out).trans K7.out⟩
def boxC : Array Value := #[.func (.func 167) #[] #[], .func (.func 168) #[] #[], .func (.func 169) #[] #[], .func (.func 170) #[] #[], .func (.func 171) #[] #[], .func (.func 172) #[] #[], .func (.func 173) #[] #[], .func (.func 174) #[] #[], .func (.func 175) #[] #[], .func (.func 176) #[] #[], .func (.func 177) #[] #[], .func (.func 178) #[] #[], .func (.func 179) #[] #[]]
theorem boxes_any (w : World) : Calls Tryz.prog 116 #[] w fun e w' => e = .returned (.slice (some ⟨w.heap.size, 0, none⟩) 13 13) ∧ w' = w.alloc (.cells boxC 142) := by
 go_enter Tryz.func116, Tryz.ntmps116
 go_wp2
 go_ret
 exact ⟨rfl, rfl⟩
def BxAt (w : World) (v : Value) : Prop := ∃ b, v = .slice (some ⟨b, 0, none⟩) 13 13 ∧ b < w.heap.size ∧ ∀ i, i < 13 → w.cell? ⟨b, i, none⟩ = some (boxC.getD i undef)
theorem BxAt.kp {w w' : World} {v : Value} (h : BxAt w v) (k : Kp w w') : BxAt w' v := by
 obtain ⟨b, e, hb, hx⟩ := h
 exact ⟨b, e, Nat.lt_of_lt_of_le hb k.size, fun i hi => (k.cell (p := ⟨b, i, none⟩) hb).trans (hx i hi)⟩
theorem boxesB_any (w : World) : Calls Tryz.prog 116 #[] w fun e w' => ∃ v, e = .returned v ∧ BxAt w' v ∧ Kp w w' := by
 refine (boxes_any w).mono ?_
 rintro e w' ⟨rfl, rfl⟩
 refine ⟨_, rfl, ⟨_, rfl, by simp, fun i hi => ?_⟩, Kp.alloc _ _⟩
 have hs : boxC.size = 13 := rfl
 have g : (w.alloc (.cells boxC 142)).heap[w.heap.size]? = some (.cells boxC 142 (0, 0)) := heap_at _ _ _ rfl
 unfold World.cell?
 simp only [g]
 simp [Array.getD, hs, hi]
open Go.RowKit
theorem ak_pow {x : Nat} (hx : x ≤ 12) : IntKind.i64.wrap (2 ^ x) = ((2 ^ x : Nat) : Int) := by
 obtain rfl | rfl | rfl | rfl | rfl | rfl | rfl | rfl | rfl | rfl | rfl | rfl | rfl : x = 0 ∨ x = 1 ∨ x = 2 ∨ x = 3 ∨ x = 4 ∨ x = 5 ∨ x = 6 ∨ x = 7 ∨ x = 8 ∨ x = 9 ∨ x = 10 ∨ x = 11 ∨ x = 12 := by omega
 all_goals rfl
theorem ak_lt {x : Nat} (hx : x ≤ 12) : 2 ^ x < 8192 := by
 have : 2 ^ x ≤ 2 ^ 12 := Nat.pow_le_pow_right (by omega) hx
 omega
theorem ak_or {a b : Nat} (ha : a < 8192) (hb : b < 8192) : bits .or .i64 (a : Int) (b : Int) = ((a ||| b : Nat) : Int) := by
 have l : a ||| b < 2 ^ 13 := Nat.or_lt_two_pow (by omega) (by omega)
 have key : (BitVec.ofInt 64 (a : Int) ||| BitVec.ofInt 64 (b : Int)).toNat = a ||| b := by
  simp [BitVec.toNat_or, BitVec.toNat_ofInt]
  rw [Nat.mod_eq_of_lt (by omega : a < 18446744073709551616), Nat.mod_eq_of_lt (by omega : b < 18446744073709551616)]
 show IntKind.i64.wrap ((BitVec.ofInt 64 (a : Int) ||| BitVec.ofInt 64 (b : Int)).toNat : Nat) = _
 rw [key, IntKind.wrap_i64]
 omega
theorem ak_and {a b : Nat} (ha : a < 8192) (hb : b < 8192) : bits .and .i64 (a : Int) (b : Int) = ((a &&& b : Nat) : Int) := by
 have l : a &&& b < 2 ^ 13 := Nat.and_lt_two_pow _ (by omega)
 have key : (BitVec.ofInt 64 (a : Int) &&& BitVec.ofInt 64 (b : Int)).toNat = a &&& b := by
  simp [BitVec.toNat_and, BitVec.toNat_ofInt]
  rw [Nat.mod_eq_of_lt (by omega : a < 18446744073709551616), Nat.mod_eq_of_lt (by omega : b < 18446744073709551616)]
 show IntKind.i64.wrap ((BitVec.ofInt 64 (a : Int) &&& BitVec.ofInt 64 (b : Int)).toNat : Nat) = _
 rw [key, IntKind.wrap_i64]
 omega
theorem ak_zero (a x : Nat) : (a &&& 2 ^ x = 0) ↔ a.testBit x = false := by
 constructor
 ·intro h
  have := congrArg (fun z => z.testBit x) h
  simpa [Nat.testBit_and, Nat.testBit_two_pow_self] using this
 ·intro h
  apply Nat.eq_of_testBit_eq
  intro i
  rw [Nat.testBit_and, Nat.testBit_two_pow, Nat.zero_testBit]
  by_cases e : x = i
  ·subst e; rw [h]; rfl
  ·simp [e]
theorem ak_bit (a x r : Nat) : (a ||| 2 ^ x).testBit r = true ↔ a.testBit r = true ∨ r = x := by
 rw [Nat.testBit_or, Nat.testBit_two_pow, Bool.or_eq_true, decide_eq_true_eq]
 exact ⟨fun h => h.imp id Eq.symm, fun h => h.imp id Eq.symm⟩
theorem ak_all {r : Nat} (hr : r ≤ 12) : Nat.testBit 8191 r = true := by
 obtain rfl | rfl | rfl | rfl | rfl | rfl | rfl | rfl | rfl | rfl | rfl | rfl | rfl : r = 0 ∨ r = 1 ∨ r = 2 ∨ r = 3 ∨ r = 4 ∨ r = 5 ∨ r = 6 ∨ r = 7 ∨ r = 8 ∨ r = 9 ∨ r = 10 ∨ r = 11 ∨ r = 12 := by omega
 all_goals decide
theorem way_any {k : Nat} (hk : k < 13) : ∃ g : FuncId, boxC.getD k undef = .func (.func g) #[] #[] ∧ (∀ args w, (callFunc g args).run Tryz.prog w = .ok (.enter g args) w) ∧
  ∀ (S T : Int) (w : World), 0 ≤ S → S ≤ 4000000 → 0 ≤ T → T ≤ 4000000 → Calls Tryz.prog g #[.agg #[.int .i64 S, .int .i64 T]] w fun e w' => e = .returned (bxV (wayB k S T)) ∧ Kp w w' := by
 obtain rfl | rfl | rfl | rfl | rfl | rfl | rfl | rfl | rfl | rfl | rfl | rfl | rfl : k = 0 ∨ k = 1 ∨ k = 2 ∨ k = 3 ∨ k = 4 ∨ k = 5 ∨ k = 6 ∨ k = 7 ∨ k = 8 ∨ k = 9 ∨ k = 10 ∨ k = 11 ∨ k = 12 := by omega
 ·exact ⟨167, rfl, enters_of Tryz.func167 (by kernel_rfl) rfl, fun S T w a b c d => before_way S T w a b c d⟩
 ·exact ⟨168, rfl, enters_of Tryz.func168 (by kernel_rfl) rfl, fun S T w a b c d => meets_way S T w a b c d⟩
 ·exact ⟨169, rfl, enters_of Tryz.func169 (by kernel_rfl) rfl, fun S T w a b c d => overlaps_way S T w a b c d⟩
 ·exact ⟨170, rfl, enters_of Tryz.func170 (by kernel_rfl) rfl, fun S T w a b c d => starts_way S T w a b c d⟩
 ·exact ⟨171, rfl, enters_of Tryz.func171 (by kernel_rfl) rfl, fun S T w a b c d => during_way S T w a b c d⟩
 ·exact ⟨172, rfl, enters_of Tryz.func172 (by kernel_rfl) rfl, fun S T w a b c d => finishes_way S T w a b c d⟩
 ·exact ⟨173, rfl, enters_of Tryz.func173 (by kernel_rfl) rfl, fun S T w a b c d => equals_way S T w a b c d⟩
 ·exact ⟨174, rfl, enters_of Tryz.func174 (by kernel_rfl) rfl, fun S T w a b c d => finishedBy_way S T w a b c d⟩
 ·exact ⟨175, rfl, enters_of Tryz.func175 (by kernel_rfl) rfl, fun S T w a b c d => contains_way S T w a b c d⟩
 ·exact ⟨176, rfl, enters_of Tryz.func176 (by kernel_rfl) rfl, fun S T w a b c d => startedBy_way S T w a b c d⟩
 ·exact ⟨177, rfl, enters_of Tryz.func177 (by kernel_rfl) rfl, fun S T w a b c d => overlappedBy_way S T w a b c d⟩
 ·exact ⟨178, rfl, enters_of Tryz.func178 (by kernel_rfl) rfl, fun S T w a b c d => metBy_way S T w a b c d⟩
 ·exact ⟨179, rfl, enters_of Tryz.func179 (by kernel_rfl) rfl, fun S T w a b c d => after_way S T w a b c d⟩
def askP (Q : Int → Int → Prop) (r : Nat) (p : R) : Prop := ∃ S T, Q S T ∧ inBx (wayB r p.1 p.2) S T
theorem ask_take {Q : Int → Int → Prop} {L : List R} {k r : Nat} (h : k < L.length) : (∃ p ∈ L.take (k + 1), askP Q r p) ↔ (∃ p ∈ L.take k, askP Q r p) ∨ askP Q r (at_ L k) := by
 rw [List.take_succ_eq_append_getElem h]
 have e : L[k] = at_ L k := by simp [at_, List.getD, h]
 rw [e]
 constructor
 ·rintro ⟨p, hp, q⟩
  rcases List.mem_append.1 hp with hp | hp
  ·exact .inl ⟨p, hp, q⟩
  ·rw [List.mem_singleton.1 hp] at q; exact .inr q
 ·rintro (⟨p, hp, q⟩ | q)
  ·exact ⟨p, List.mem_append.2 (.inl hp), q⟩
  ·exact ⟨_, List.mem_append.2 (.inr (by simp)), q⟩
theorem ask_step {Q : Int → Int → Prop} {m0 m j : Nat} {p : R} (hj : j ≤ 12) (h : ∀ r, r ≤ 12 → (m.testBit r = true ↔ m0.testBit r = true ∨ (r < j ∧ askP Q r p))) {b : Bool} (hb : m.testBit j = true ∨ (b = true ↔ askP Q j p)) :
  ∀ r, r ≤ 12 → ((if m.testBit j = false ∧ b = true then m ||| 2 ^ j else m).testBit r = true ↔ m0.testBit r = true ∨ (r < j + 1 ∧ askP Q r p)) := by
 intro r hr
 by_cases c : m.testBit j = false ∧ b = true
 ·rw [if_pos c, ak_bit, h r hr]
  have hq : askP Q j p := (hb.resolve_left (by rw [c.1]; simp)).1 c.2
  constructor
  ·rintro ((g | g) | rfl)
   ·exact .inl g
   ·exact .inr ⟨by omega, g.2⟩
   ·exact .inr ⟨by omega, hq⟩
  ·rintro (g | ⟨g, q⟩)
   ·exact .inl (.inl g)
   ·by_cases e : r = j
    ·exact .inr e
    ·exact .inl (.inr ⟨by omega, q⟩)
 ·rw [if_neg c, h r hr]
  constructor
  ·rintro (g | g)
   ·exact .inl g
   ·exact .inr ⟨by omega, g.2⟩
  ·rintro (g | ⟨g, q⟩)
   ·exact .inl g
   ·by_cases e : r = j
    ·subst e
     cases hm : m.testBit r with
     | true => exact (h r hr).1 hm
     | false =>
      have := hb.resolve_left (by rw [hm]; simp)
      exact absurd ⟨hm, this.2 q⟩ c
    ·exact .inr ⟨by omega, q⟩
def askT (q : Bool) (P : Prop) : Prop := q = true ↔ P
theorem ask_lt {m j : Nat} (hm : m < 8192) (hj : j ≤ 12) : m ||| 2 ^ j < 8192 := Nat.or_lt_two_pow (n := 13) hm (ak_lt hj)
theorem way_ok {k : Nat} {S T : Int} (h1 : 0 ≤ S) (h2 : S ≤ 4000000) (h3 : 0 ≤ T) (h4 : T ≤ 4000000) : bxOk (wayB k S T) := by
 unfold wayB bxOk i64x
 split <;> simp only <;> omega
abbrev asA0 : Oper := { dst := some 28, op := Go.Op.move (Go.Operand.tmp 2), type := 3, pos := "relate.go:67", after := #[], guard := none }
abbrev asA1 : Oper := { dst := some 29, op := Go.Op.move (Go.Operand.tmp 10), type := 3, pos := "relate.go:67", after := #[], guard := none }
abbrev asA2 : Oper := { dst := some 30, op := Go.Op.binOp Go.BinOp.shl 3 (Go.Operand.const (Go.Value.int Go.IntKind.i64 1)) (Go.Operand.tmp 29) 3, type := 3, pos := "relate.go:67", after := #[{ on := 1, ground := Go.Ground.data }], guard := none }
abbrev asA3 : Oper := { dst := some 31, op := Go.Op.binOp Go.BinOp.and 3 (Go.Operand.tmp 28) (Go.Operand.tmp 30) 3, type := 3, pos := "relate.go:67", after := #[{ on := 0, ground := Go.Ground.data }, { on := 2, ground := Go.Ground.data }], guard := none }
abbrev asA4 : Oper := { dst := some 32, op := Go.Op.binOp Go.BinOp.eql 3 (Go.Operand.tmp 31) (Go.Operand.const (Go.Value.int Go.IntKind.i64 0)) 3, type := 4, pos := "relate.go:67", after := #[{ on := 3, ground := Go.Ground.data }], guard := none }
abbrev asA5 : Oper := { dst := some 33, op := Go.Op.move (Go.Operand.tmp 32), type := 4, pos := "relate.go:67", after := #[{ on := 4, ground := Go.Ground.data }], guard := none }
abbrev asA6 : Oper := { dst := some 34, op := Go.Op.move (Go.Operand.tmp 1), type := 139, pos := "relate.go:67", after := #[{ on := 5, ground := Go.Ground.guard }], guard := some (5, true) }
abbrev asA7 : Oper := { dst := some 35, op := Go.Op.move (Go.Operand.tmp 11), type := 142, pos := "relate.go:67", after := #[{ on := 5, ground := Go.Ground.guard }], guard := some (5, true) }
abbrev asA8 : Oper := { dst := some 36, op := Go.Op.load 36 (Go.Operand.tmp 9), type := 36, pos := "relate.go:67", after := #[{ on := 5, ground := Go.Ground.guard }], guard := some (5, true) }
abbrev asA9 : Oper := { dst := some 37, op := Go.Op.call { callee := Go.Callee.value (Go.Operand.tmp 35), args := #[Go.Operand.tmp 36], argTypes := #[146] }, type := 145, pos := "relate.go:67", after := #[{ on := 7, ground := Go.Ground.data }, { on := 8, ground := Go.Ground.data }, { on := 5, ground := Go.Ground.chain }, { on := 5, ground := Go.Ground.guard }], guard := some (5, true) }
abbrev asA10 : Oper := { dst := some 38, op := Go.Op.makeFunc (Go.Fn.method "lustrum/relate.within") #[Go.Operand.tmp 34] #[], type := 143, pos := "relate.go:67", after := #[{ on := 6, ground := Go.Ground.data }, { on := 5, ground := Go.Ground.guard }], guard := some (5, true) }
abbrev asA11 : Oper := { dst := some 39, op := Go.Op.nilCheck (Go.Operand.tmp 38), type := 143, pos := "relate.go:67", after := #[{ on := 10, ground := Go.Ground.data }, { on := 5, ground := Go.Ground.guard }], guard := some (5, true) }
abbrev asA12 : Oper := { dst := some 40, op := Go.Op.move (Go.Operand.tmp 34), type := 139, pos := "relate.go:67", after := #[{ on := 6, ground := Go.Ground.data }, { on := 5, ground := Go.Ground.guard }, { on := 10, ground := Go.Ground.data }, { on := 11, ground := Go.Ground.data }], guard := some (5, true) }
abbrev asA13 : Oper := { dst := some 41, op := Go.Op.call { callee := Go.Callee.invoke (Go.Operand.tmp 40) "lustrum/relate.within", args := #[Go.Operand.tmp 37], argTypes := #[145] }, type := 4, pos := "relate.go:67", after := #[{ on := 12, ground := Go.Ground.data }, { on := 9, ground := Go.Ground.data }, { on := 9, ground := Go.Ground.chain }, { on := 5, ground := Go.Ground.guard }], guard := some (5, true) }
abbrev asA14 : Oper := { dst := some 42, op := Go.Op.pick (Go.Operand.tmp 33) (Go.Operand.tmp 41) (Go.Operand.const (Go.Value.bool false)), type := 4, pos := "relate.go:67", after := #[{ on := 5, ground := Go.Ground.data }, { on := 13, ground := Go.Ground.data }], guard := none }
set_option maxHeartbeats 16000000 in
set_option maxRecDepth 100000 in
theorem ask_loose (Q : Int → Int → Prop) (pv v : Value) (L : List R) (m : Nat) (w : World) (hv : RunsAt w v L) (hm : m < 8192) (hn : L.length ≤ 1000000) (hb : ∀ r ∈ L, 0 ≤ r.1 ∧ r.1 ≤ 4000000 ∧ 0 ≤ r.2 ∧ r.2 ≤ 4000000)
  (hw : ∀ b w1, Kp w w1 → bxOk b → Calls Tryz.prog 264 #[pv, bxV b] w1 fun e w' => ∃ q : Bool, e = .returned (.bool q) ∧ (q = true ↔ ∃ S T, Q S T ∧ inBx b S T) ∧ Kp w1 w') :
  Calls Tryz.prog 66 #[v, .iface 93 pv, .int .i64 m] w fun e w' => ∃ m' : Nat, e = .returned (.int .i64 m') ∧ m' < 8192 ∧ (∀ r, r ≤ 12 → (m'.testBit r = true ↔ m.testBit r = true ∨ ∃ p ∈ L, askP Q r p)) ∧ Kp w w' := by
 have NA : ∀ (f : Nat) (w : World), Sem.run Tryz.prog (nilAhead (f + 1) 93 pv "lustrum/relate.within") w = .ok (some false) w := fun f w => by kernel_rfl
 obtain ⟨ad, c, rfl⟩ := hv.slice
 have HV := Lib.hid hv
 have HB := Lib.hid hb
 have HN := Lib.hid hn
 have HWI := Lib.hid hw
 have HM := Lib.hid hm
 clear hv hb hn hw hm
 go_enter Tryz.func66, Tryz.ntmps66
 go_wp2_with fail
 refine (boxesB_any w).mono ?_
 rintro e w1 ⟨vx, rfl, bx, k1⟩
 have BX := Lib.hid bx
 obtain ⟨bb, rfl, -, -⟩ := bx
 have K1 := Lib.hid k1
 clear k1
 go_wp2
 go_loopw [2, 15] (fun u i wr => ∃ k mk : Nat, k ≤ L.length ∧ u = .int .i64 mk ∧ i = .int .i64 k ∧ Hid (mk < 8192) ∧ Hid (∀ r, r ≤ 12 → (mk.testBit r = true ↔ m.testBit r = true ∨ ∃ p ∈ L.take k, askP Q r p)) ∧ Hid (Kp w1 wr)) (fun _ i _ => L.length - (intOf i).toNat)
 case atStart => exact ⟨0, m, Nat.zero_le _, rfl, rfl, HM, Lib.hid (fun r hr => by simp), Lib.hid (Kp.refl _)⟩
 case round =>
  obtain ⟨k, mk, hk, rfl, rfl, MK, BK, K2⟩ := hrel
  obtain ⟨wo, hwo⟩ : ∃ x, x = wr := ⟨_, rfl⟩
  subst hwo
  have kb : k ≤ 1000000 := by have := HN.out; omega
  by_cases hlt : k < L.length
  ·have q1 : decide ((k : Int) < (L.length : Int)) = true := decide_eq_true (by omega)
   have q1n : decide (k < L.length) = true := decide_eq_true hlt
   rcases HV.out.kp (K1.out.trans K2.out) with ⟨_, _, _, e⟩ | ⟨b, off, cap, ev, hc, hmx, hx⟩
   ·rw [e] at hlt; simp at hlt
   cases ev
   obtain ⟨d1, d2⟩ := hx k hlt
   obtain ⟨l1, l2, l3, l4⟩ := HB.out _ (at_mem hlt)
   have AT := Lib.hid (fun r => ask_take (Q := Q) (r := r) hlt)
   have z2 : (0 : Int) ≤ (k : Int) := by omega
   have HLT := Lib.hid hlt
   obtain ⟨p, hp⟩ : ∃ p, at_ L k = p := ⟨_, rfl⟩
   rw [hp] at d1 d2 l1 l2 l3 l4 AT
   obtain ⟨S, T⟩ := p
   simp only at d1 d2 l1 l2 l3 l4
   clear hx hp hc hmx hlt
   obtain ⟨W1, hW⟩ : ∃ x, x = wo.alloc (.cells #[.int .i64 S, .int .i64 T] 36) := ⟨_, rfl⟩
   have gB : W1.heap[wo.heap.size]? = some (.cells #[.int .i64 S, .int .i64 T] 36 (0, 0)) := by rw [hW]; exact heap_at _ _ _ rfl
   have KW := Lib.hid (show Kp wo W1 by rw [hW]; exact Kp.alloc _ _)
   have HW := Lib.hid hW
   have bsz : b < wo.heap.size := World.block_lt_of_cell? _ _ d1
   have bsn : ¬ b = wo.heap.size := by omega
   clear hW
   go_upto_region 5 with fail
   rw [← HW.out]
   clear HW d1 d2 bsz bsn
   by_cases hf : mk = 8191
   ·have qf : ((mk : Int) == 8191) = true := by rw [hf]; rfl
    go_wp2
    go_ret
    exact ⟨mk, rfl, MK.out, fun r hr => by rw [hf] at BK ⊢; exact ⟨fun _ => ((BK.out r hr).1 (ak_all hr)).imp id (fun ⟨p, hp, q⟩ => ⟨p, List.mem_of_mem_take hp, q⟩), fun _ => ak_all hr⟩, K1.out.trans (K2.out.trans KW.out)⟩
   ·have qf : ((mk : Int) == 8191) = false := by simp; omega
    clear hf
    go_wp2
    go_loopw [2, 23] (fun u i ws => ∃ j mj : Nat, j ≤ 13 ∧ u = .int .i64 mj ∧ i = .int .i64 j ∧ Hid (mj < 8192) ∧ Hid (∀ r, r ≤ 12 → (mj.testBit r = true ↔ mk.testBit r = true ∨ (r < j ∧ askP Q r (S, T)))) ∧ Hid (Kp W1 ws)) (fun _ i _ => 13 - (intOf i).toNat)
    case atStart => exact ⟨0, mk, by omega, rfl, rfl, MK, Lib.hid (fun r hr => by simp), Lib.hid (Kp.refl _)⟩
    case round =>
     obtain ⟨j, mj, hj, rfl, rfl, MJ, BJ, K3⟩ := hrel
     obtain ⟨wi, hwi⟩ : ∃ x, x = wr := ⟨_, rfl⟩
     subst hwi
     by_cases hjt : j < 13
     ·have q3 : decide ((j : Int) < 13) = true := decide_eq_true (by omega)
      obtain ⟨bx', eb, hbb, hfx⟩ := BX.out.kp (K2.out.trans (KW.out.trans K3.out))
      cases eb
      obtain ⟨g, hg, eg, hway⟩ := way_any hjt
      have df := hfx j hjt
      rw [hg] at df
      have z3 : (0 : Int) ≤ (j : Int) := by omega
      clear hfx hg hbb
      have gi := heap_block K3.out gB
      have KS := Lib.hid (fun w' (kq : Kp wi w') => show w'.cell? ⟨wo.heap.size, 0, none⟩ = some (.int .i64 S) ∧ w'.cell? ⟨wo.heap.size, 1, none⟩ = some (.int .i64 T) ∧ Kp wi w' from ⟨(row2 (heap_block kq gi)).1, (row2 (heap_block kq gi)).2, kq⟩)
      have k00 : Kp wi wi := Kp.refl _
      have KWI := Lib.hid (K1.out.trans (K2.out.trans (KW.out.trans K3.out)))
      have wp := ak_pow (x := j) (by omega)
      have A1 : bits .and .i64 (mj : Int) (IntKind.i64.wrap (2 ^ j)) = ((mj &&& 2 ^ j : Nat) : Int) := by rw [wp]; exact ak_and MJ.out (ak_lt (by omega))
      have A2 : bits .or .i64 (mj : Int) (IntKind.i64.wrap (2 ^ j)) = ((mj ||| 2 ^ j : Nat) : Int) := by rw [wp]; exact ak_or MJ.out (ak_lt (by omega))
      have A2w : bits .or .i64 (mj : Int) (wrap64 (2 ^ j)) = ((mj ||| 2 ^ j : Nat) : Int) := by
       have w64 : wrap64 ((2 : Int) ^ j) = IntKind.i64.wrap (2 ^ j) := by generalize (2 : Int) ^ j = y; rw [IntKind.wrap_i64]; unfold wrap64; omega
       rw [w64]
       exact A2
      have LT2 := Lib.hid (ask_lt (j := j) MJ.out (by omega))
      obtain ⟨y, hy⟩ : ∃ y, mj ||| 2 ^ j = y := ⟨_, rfl⟩
      rw [hy] at A2 A2w LT2
      have HY := Lib.hid hy
      clear hy
      have AZ := ak_zero mj j
      clear gi wp
      cases hbit : mj.testBit j with
      | true =>
       have nz : ¬ (mj &&& 2 ^ j = 0) := fun h => by rw [AZ.1 h] at hbit; cases hbit
       generalize mj &&& 2 ^ j = z at *
       have g1 : ((z : Int) == 0) = false := by simp; omega
       have g2 : (z == 0) = false := by simp; omega
       clear AZ
       go_upto_region 9 with fail
       refine wp_region_held_drew (S := fun w' => w'.cell? ⟨wo.heap.size, 0, none⟩ = some (.int .i64 S) ∧ w'.cell? ⟨wo.heap.size, 1, none⟩ = some (.int .i64 T) ∧ Kp wi w') (by kernel_rfl) ?_ (fun hHeld0 => ?_)
       ·(try dsimp only); exact KS.out _ (by first | with_reducible exact k00 | ((repeat (first | with_reducible refine Kp.trans ?_ (Kp.drew _) | with_reducible refine Kp.trans ?_ (Kp.alloc _ _))); with_reducible exact k00))
       refine tkv 0 asA0 ?_
       (try simp only [Act.put, asA0, List.setIfInBounds_toArray, List.set_cons_zero, List.set_cons_succ])
       refine tkv 1 asA1 ?_
       (try simp only [Act.put, asA1, List.setIfInBounds_toArray, List.set_cons_zero, List.set_cons_succ])
       refine tkv 2 asA2 ?_
       (try simp only [Act.put, asA2, List.setIfInBounds_toArray, List.set_cons_zero, List.set_cons_succ])
       refine tkv 3 asA3 ?_
       (try simp only [Act.put, asA3, List.setIfInBounds_toArray, List.set_cons_zero, List.set_cons_succ])
       refine tkv 4 asA4 ?_
       (try simp only [Act.put, asA4, List.setIfInBounds_toArray, List.set_cons_zero, List.set_cons_succ])
       refine tkv 5 asA5 ?_
       (try simp only [Act.put, asA5, List.setIfInBounds_toArray, List.set_cons_zero, List.set_cons_succ])
       refine tkn 6 asA6 ?_
       (try simp only [Act.put, asA6, List.setIfInBounds_toArray, List.set_cons_zero, List.set_cons_succ])
       refine tkn 7 asA7 ?_
       (try simp only [Act.put, asA7, List.setIfInBounds_toArray, List.set_cons_zero, List.set_cons_succ])
       refine tkn 8 asA8 ?_
       (try simp only [Act.put, asA8, List.setIfInBounds_toArray, List.set_cons_zero, List.set_cons_succ])
       refine tkn 9 asA9 ?_
       (try simp only [Act.put, asA9, List.setIfInBounds_toArray, List.set_cons_zero, List.set_cons_succ])
       refine tkn 10 asA10 ?_
       (try simp only [Act.put, asA10, List.setIfInBounds_toArray, List.set_cons_zero, List.set_cons_succ])
       refine tkn 11 asA11 ?_
       (try simp only [Act.put, asA11, List.setIfInBounds_toArray, List.set_cons_zero, List.set_cons_succ])
       refine tkn 12 asA12 ?_
       (try simp only [Act.put, asA12, List.setIfInBounds_toArray, List.set_cons_zero, List.set_cons_succ])
       refine tkn 13 asA13 ?_
       (try simp only [Act.put, asA13, List.setIfInBounds_toArray, List.set_cons_zero, List.set_cons_succ])
       refine tkv 14 asA14 ?_
       (try simp only [Act.put, asA14, List.setIfInBounds_toArray, List.set_cons_zero, List.set_cons_succ])
       refine wpAnyH_done (by kernel_rfl) ?_ _
       go_wp2
       go_roundw
       case rel => exact ⟨j + 1, mj, by omega, by go_num, by go_num, MJ, Lib.hid (fun r hr => by have h := ask_step (b := false) (by omega) BJ.out (.inl hbit) r hr; rwa [if_neg (by simp)] at h), Lib.hid (K3.out.trans (Kp.drew _))⟩
       case measure => simp [intOf]; omega
      | false =>
       have nz := AZ.2 hbit
       generalize mj &&& 2 ^ j = z at *
       have g1 : ((z : Int) == 0) = true := by rw [nz]; rfl
       have g2 : (z == 0) = true := by rw [nz]; rfl
       clear AZ
       go_upto_region 9 with fail
       refine wp_region_held_drew (S := fun w' => w'.cell? ⟨wo.heap.size, 0, none⟩ = some (.int .i64 S) ∧ w'.cell? ⟨wo.heap.size, 1, none⟩ = some (.int .i64 T) ∧ Kp wi w') (by kernel_rfl) ?_ (fun hHeld0 => ?_)
       ·(try dsimp only); exact KS.out _ (by first | with_reducible exact k00 | ((repeat (first | with_reducible refine Kp.trans ?_ (Kp.drew _) | with_reducible refine Kp.trans ?_ (Kp.alloc _ _))); with_reducible exact k00))
       refine tkv 0 asA0 ?_
       (try simp only [Act.put, asA0, List.setIfInBounds_toArray, List.set_cons_zero, List.set_cons_succ])
       refine tkv 1 asA1 ?_
       (try simp only [Act.put, asA1, List.setIfInBounds_toArray, List.set_cons_zero, List.set_cons_succ])
       refine tkv 2 asA2 ?_
       (try simp only [Act.put, asA2, List.setIfInBounds_toArray, List.set_cons_zero, List.set_cons_succ])
       refine tkv 3 asA3 ?_
       (try simp only [Act.put, asA3, List.setIfInBounds_toArray, List.set_cons_zero, List.set_cons_succ])
       refine tkv 4 asA4 ?_
       (try simp only [Act.put, asA4, List.setIfInBounds_toArray, List.set_cons_zero, List.set_cons_succ])
       refine tkv 5 asA5 ?_
       (try simp only [Act.put, asA5, List.setIfInBounds_toArray, List.set_cons_zero, List.set_cons_succ])
       refine tkv 6 asA6 ?_
       (try simp only [Act.put, asA6, List.setIfInBounds_toArray, List.set_cons_zero, List.set_cons_succ])
       refine tkv 7 asA7 ?_
       (try simp only [Act.put, asA7, List.setIfInBounds_toArray, List.set_cons_zero, List.set_cons_succ])
       refine tkv 8 asA8 ?_
       (try simp only [Act.put, asA8, List.setIfInBounds_toArray, List.set_cons_zero, List.set_cons_succ])
       refine tkv 10 asA10 ?_
       (try simp only [Act.put, asA10, List.setIfInBounds_toArray, List.set_cons_zero, List.set_cons_succ])
       refine tkv 11 asA11 ?_
       (try simp only [Act.put, asA11, List.setIfInBounds_toArray, List.set_cons_zero, List.set_cons_succ])
       refine tkv 12 asA12 ?_
       (try simp only [Act.put, asA12, List.setIfInBounds_toArray, List.set_cons_zero, List.set_cons_succ])
       refine tkE 9 asA9 rfl (by kernel_rfl) (fun K hK => ?_)
       go_simp
       (refine (hway S T _ l1 l2 l3 l4).mono ?_; rintro e wq ⟨rfl, kq1⟩; have kkq : Kp wi wq := Kp.trans (show Kp wi _ from (by first | with_reducible exact k00 | ((repeat (first | with_reducible refine Kp.trans ?_ (Kp.drew _) | with_reducible refine Kp.trans ?_ (Kp.alloc _ _))); with_reducible exact k00))) kq1; clear kq1)
       (try go_wp2_with fail)
       refine hK.out _ _ ?_ (fun hHeld1 => ?_)
       ·(try dsimp only); exact KS.out _ (by first | with_reducible exact kkq | ((repeat (first | with_reducible refine Kp.trans ?_ (Kp.drew _) | with_reducible refine Kp.trans ?_ (Kp.alloc _ _))); with_reducible exact kkq))
       clear hK K hHeld0
       (try simp only [Act.put, asA9, List.setIfInBounds_toArray, List.set_cons_zero, List.set_cons_succ])
       refine tkE 13 asA13 rfl (by kernel_rfl) (fun K hK => ?_)
       go_simp
       (refine (HWI.out _ _ (Kp.trans KWI.out (by first | with_reducible exact kkq | ((repeat (first | with_reducible refine Kp.trans ?_ (Kp.drew _) | with_reducible refine Kp.trans ?_ (Kp.alloc _ _))); with_reducible exact kkq))) (way_ok l1 l2 l3 l4)).mono ?_; rintro e wx ⟨q, rfl, hq, kq1⟩; have kkx : Kp wi wx := Kp.trans (show Kp wi _ from (by first | with_reducible exact kkq | ((repeat (first | with_reducible refine Kp.trans ?_ (Kp.drew _) | with_reducible refine Kp.trans ?_ (Kp.alloc _ _))); with_reducible exact kkq))) kq1; have HQ := Lib.hid (show askT q (askP Q j (S, T)) from hq); clear kq1 hq)
       (try go_wp2_with fail)
       refine hK.out _ _ ?_ (fun hHeld2 => ?_)
       ·(try dsimp only); exact KS.out _ (by first | with_reducible exact kkx | ((repeat (first | with_reducible refine Kp.trans ?_ (Kp.drew _) | with_reducible refine Kp.trans ?_ (Kp.alloc _ _))); with_reducible exact kkx))
       clear hK K hHeld1
       (try simp only [Act.put, asA13, List.setIfInBounds_toArray, List.set_cons_zero, List.set_cons_succ])
       refine tkv 14 asA14 ?_
       (try simp only [Act.put, asA14, List.setIfInBounds_toArray, List.set_cons_zero, List.set_cons_succ])
       refine wpAnyH_done (by kernel_rfl) ?_ _
       cases q with
       | true =>
        go_wp2
        go_roundw
        case rel => exact ⟨j + 1, y, by omega, by go_num, by go_num, LT2, Lib.hid (fun r hr => by have h := ask_step (by omega) BJ.out (.inr HQ.out) r hr; rwa [if_pos ⟨hbit, rfl⟩, HY.out] at h), Lib.hid (K3.out.trans kkx)⟩
        case measure => simp [intOf]; omega
       | false =>
        go_wp2
        go_roundw
        case rel => exact ⟨j + 1, mj, by omega, by go_num, by go_num, MJ, Lib.hid (fun r hr => by have h := ask_step (by omega) BJ.out (.inr HQ.out) r hr; rwa [if_neg (by simp)] at h), Lib.hid (K3.out.trans kkx)⟩
        case measure => simp [intOf]; omega
     ·have q3 : decide ((j : Int) < 13) = false := decide_eq_false (by omega)
      have ej : j = 13 := by omega
      have BF := Lib.hid (fun r (hr : r ≤ 12) => show mj.testBit r = true ↔ m.testBit r = true ∨ ∃ p ∈ L.take (k + 1), askP Q r p by
       rw [BJ.out r hr, BK.out r hr, AT.out r, or_assoc]
       exact ⟨fun h => h.imp id (fun h => h.imp id And.right), fun h => h.imp id (fun h => h.imp id (fun q => ⟨by omega, q⟩))⟩)
      have KF := Lib.hid (K2.out.trans (KW.out.trans K3.out))
      go_wp2
      go_roundw
      case rel => exact ⟨k + 1, mj, by have := HLT.out; omega, by go_num, by go_num, MJ, BF, KF⟩
      case measure => have := HLT.out; simp [intOf]; omega
  ·have q1 : decide ((k : Int) < (L.length : Int)) = false := decide_eq_false (by omega)
   have ek : k = L.length := by omega
   have BF := Lib.hid (fun r (hr : r ≤ 12) => show mk.testBit r = true ↔ m.testBit r = true ∨ ∃ p ∈ L, askP Q r p by
    have := BK.out r hr
    rwa [ek, List.take_length] at this)
   go_wp2
   go_ret
   exact ⟨mk, rfl, MK.out, BF.out, K1.out.trans K2.out⟩
set_option maxHeartbeats 16000000 in
set_option maxRecDepth 100000 in
theorem ask_listed (Q : Int → Int → Prop) (pv v : Value) (L : List R) (m : Nat) (w : World) (hv : RunsAt w v L) (hm : m < 8192) (hn : L.length ≤ 1000000) (hb : ∀ r ∈ L, 0 ≤ r.1 ∧ r.1 ≤ 4000000 ∧ 0 ≤ r.2 ∧ r.2 ≤ 4000000)
  (hw : ∀ b w1, Kp w w1 → bxOk b → Calls Tryz.prog 269 #[pv, bxV b] w1 fun e w' => ∃ q : Bool, e = .returned (.bool q) ∧ (q = true ↔ ∃ S T, Q S T ∧ inBx b S T) ∧ Kp w1 w') :
  Calls Tryz.prog 66 #[v, .iface 99 pv, .int .i64 m] w fun e w' => ∃ m' : Nat, e = .returned (.int .i64 m') ∧ m' < 8192 ∧ (∀ r, r ≤ 12 → (m'.testBit r = true ↔ m.testBit r = true ∨ ∃ p ∈ L, askP Q r p)) ∧ Kp w w' := by
 have NA : ∀ (f : Nat) (w : World), Sem.run Tryz.prog (nilAhead (f + 1) 99 pv "lustrum/relate.within") w = .ok (some false) w := fun f w => by kernel_rfl
 obtain ⟨ad, c, rfl⟩ := hv.slice
 have HV := Lib.hid hv
 have HB := Lib.hid hb
 have HN := Lib.hid hn
 have HWI := Lib.hid hw
 have HM := Lib.hid hm
 clear hv hb hn hw hm
 go_enter Tryz.func66, Tryz.ntmps66
 go_wp2_with fail
 refine (boxesB_any w).mono ?_
 rintro e w1 ⟨vx, rfl, bx, k1⟩
 have BX := Lib.hid bx
 obtain ⟨bb, rfl, -, -⟩ := bx
 have K1 := Lib.hid k1
 clear k1
 go_wp2
 go_loopw [2, 15] (fun u i wr => ∃ k mk : Nat, k ≤ L.length ∧ u = .int .i64 mk ∧ i = .int .i64 k ∧ Hid (mk < 8192) ∧ Hid (∀ r, r ≤ 12 → (mk.testBit r = true ↔ m.testBit r = true ∨ ∃ p ∈ L.take k, askP Q r p)) ∧ Hid (Kp w1 wr)) (fun _ i _ => L.length - (intOf i).toNat)
 case atStart => exact ⟨0, m, Nat.zero_le _, rfl, rfl, HM, Lib.hid (fun r hr => by simp), Lib.hid (Kp.refl _)⟩
 case round =>
  obtain ⟨k, mk, hk, rfl, rfl, MK, BK, K2⟩ := hrel
  obtain ⟨wo, hwo⟩ : ∃ x, x = wr := ⟨_, rfl⟩
  subst hwo
  have kb : k ≤ 1000000 := by have := HN.out; omega
  by_cases hlt : k < L.length
  ·have q1 : decide ((k : Int) < (L.length : Int)) = true := decide_eq_true (by omega)
   have q1n : decide (k < L.length) = true := decide_eq_true hlt
   rcases HV.out.kp (K1.out.trans K2.out) with ⟨_, _, _, e⟩ | ⟨b, off, cap, ev, hc, hmx, hx⟩
   ·rw [e] at hlt; simp at hlt
   cases ev
   obtain ⟨d1, d2⟩ := hx k hlt
   obtain ⟨l1, l2, l3, l4⟩ := HB.out _ (at_mem hlt)
   have AT := Lib.hid (fun r => ask_take (Q := Q) (r := r) hlt)
   have z2 : (0 : Int) ≤ (k : Int) := by omega
   have HLT := Lib.hid hlt
   obtain ⟨p, hp⟩ : ∃ p, at_ L k = p := ⟨_, rfl⟩
   rw [hp] at d1 d2 l1 l2 l3 l4 AT
   obtain ⟨S, T⟩ := p
   simp only at d1 d2 l1 l2 l3 l4
   clear hx hp hc hmx hlt
   obtain ⟨W1, hW⟩ : ∃ x, x = wo.alloc (.cells #[.int .i64 S, .int .i64 T] 36) := ⟨_, rfl⟩
   have gB : W1.heap[wo.heap.size]? = some (.cells #[.int .i64 S, .int .i64 T] 36 (0, 0)) := by rw [hW]; exact heap_at _ _ _ rfl
   have KW := Lib.hid (show Kp wo W1 by rw [hW]; exact Kp.alloc _ _)
   have HW := Lib.hid hW
   have bsz : b < wo.heap.size := World.block_lt_of_cell? _ _ d1
   have bsn : ¬ b = wo.heap.size := by omega
   clear hW
   go_upto_region 5 with fail
   rw [← HW.out]
   clear HW d1 d2 bsz bsn
   by_cases hf : mk = 8191
   ·have qf : ((mk : Int) == 8191) = true := by rw [hf]; rfl
    go_wp2
    go_ret
    exact ⟨mk, rfl, MK.out, fun r hr => by rw [hf] at BK ⊢; exact ⟨fun _ => ((BK.out r hr).1 (ak_all hr)).imp id (fun ⟨p, hp, q⟩ => ⟨p, List.mem_of_mem_take hp, q⟩), fun _ => ak_all hr⟩, K1.out.trans (K2.out.trans KW.out)⟩
   ·have qf : ((mk : Int) == 8191) = false := by simp; omega
    clear hf
    go_wp2
    go_loopw [2, 23] (fun u i ws => ∃ j mj : Nat, j ≤ 13 ∧ u = .int .i64 mj ∧ i = .int .i64 j ∧ Hid (mj < 8192) ∧ Hid (∀ r, r ≤ 12 → (mj.testBit r = true ↔ mk.testBit r = true ∨ (r < j ∧ askP Q r (S, T)))) ∧ Hid (Kp W1 ws)) (fun _ i _ => 13 - (intOf i).toNat)
    case atStart => exact ⟨0, mk, by omega, rfl, rfl, MK, Lib.hid (fun r hr => by simp), Lib.hid (Kp.refl _)⟩
    case round =>
     obtain ⟨j, mj, hj, rfl, rfl, MJ, BJ, K3⟩ := hrel
     obtain ⟨wi, hwi⟩ : ∃ x, x = wr := ⟨_, rfl⟩
     subst hwi
     by_cases hjt : j < 13
     ·have q3 : decide ((j : Int) < 13) = true := decide_eq_true (by omega)
      obtain ⟨bx', eb, hbb, hfx⟩ := BX.out.kp (K2.out.trans (KW.out.trans K3.out))
      cases eb
      obtain ⟨g, hg, eg, hway⟩ := way_any hjt
      have df := hfx j hjt
      rw [hg] at df
      have z3 : (0 : Int) ≤ (j : Int) := by omega
      clear hfx hg hbb
      have gi := heap_block K3.out gB
      have KS := Lib.hid (fun w' (kq : Kp wi w') => show w'.cell? ⟨wo.heap.size, 0, none⟩ = some (.int .i64 S) ∧ w'.cell? ⟨wo.heap.size, 1, none⟩ = some (.int .i64 T) ∧ Kp wi w' from ⟨(row2 (heap_block kq gi)).1, (row2 (heap_block kq gi)).2, kq⟩)
      have k00 : Kp wi wi := Kp.refl _
      have KWI := Lib.hid (K1.out.trans (K2.out.trans (KW.out.trans K3.out)))
      have wp := ak_pow (x := j) (by omega)
      have A1 : bits .and .i64 (mj : Int) (IntKind.i64.wrap (2 ^ j)) = ((mj &&& 2 ^ j : Nat) : Int) := by rw [wp]; exact ak_and MJ.out (ak_lt (by omega))
      have A2 : bits .or .i64 (mj : Int) (IntKind.i64.wrap (2 ^ j)) = ((mj ||| 2 ^ j : Nat) : Int) := by rw [wp]; exact ak_or MJ.out (ak_lt (by omega))
      have A2w : bits .or .i64 (mj : Int) (wrap64 (2 ^ j)) = ((mj ||| 2 ^ j : Nat) : Int) := by
       have w64 : wrap64 ((2 : Int) ^ j) = IntKind.i64.wrap (2 ^ j) := by generalize (2 : Int) ^ j = y; rw [IntKind.wrap_i64]; unfold wrap64; omega
       rw [w64]
       exact A2
      have LT2 := Lib.hid (ask_lt (j := j) MJ.out (by omega))
      obtain ⟨y, hy⟩ : ∃ y, mj ||| 2 ^ j = y := ⟨_, rfl⟩
      rw [hy] at A2 A2w LT2
      have HY := Lib.hid hy
      clear hy
      have AZ := ak_zero mj j
      clear gi wp
      cases hbit : mj.testBit j with
      | true =>
       have nz : ¬ (mj &&& 2 ^ j = 0) := fun h => by rw [AZ.1 h] at hbit; cases hbit
       generalize mj &&& 2 ^ j = z at *
       have g1 : ((z : Int) == 0) = false := by simp; omega
       have g2 : (z == 0) = false := by simp; omega
       clear AZ
       go_upto_region 9 with fail
       refine wp_region_held_drew (S := fun w' => w'.cell? ⟨wo.heap.size, 0, none⟩ = some (.int .i64 S) ∧ w'.cell? ⟨wo.heap.size, 1, none⟩ = some (.int .i64 T) ∧ Kp wi w') (by kernel_rfl) ?_ (fun hHeld0 => ?_)
       ·(try dsimp only); exact KS.out _ (by first | with_reducible exact k00 | ((repeat (first | with_reducible refine Kp.trans ?_ (Kp.drew _) | with_reducible refine Kp.trans ?_ (Kp.alloc _ _))); with_reducible exact k00))
       refine tkv 0 asA0 ?_
       (try simp only [Act.put, asA0, List.setIfInBounds_toArray, List.set_cons_zero, List.set_cons_succ])
       refine tkv 1 asA1 ?_
       (try simp only [Act.put, asA1, List.setIfInBounds_toArray, List.set_cons_zero, List.set_cons_succ])
       refine tkv 2 asA2 ?_
       (try simp only [Act.put, asA2, List.setIfInBounds_toArray, List.set_cons_zero, List.set_cons_succ])
       refine tkv 3 asA3 ?_
       (try simp only [Act.put, asA3, List.setIfInBounds_toArray, List.set_cons_zero, List.set_cons_succ])
       refine tkv 4 asA4 ?_
       (try simp only [Act.put, asA4, List.setIfInBounds_toArray, List.set_cons_zero, List.set_cons_succ])
       refine tkv 5 asA5 ?_
       (try simp only [Act.put, asA5, List.setIfInBounds_toArray, List.set_cons_zero, List.set_cons_succ])
       refine tkn 6 asA6 ?_
       (try simp only [Act.put, asA6, List.setIfInBounds_toArray, List.set_cons_zero, List.set_cons_succ])
       refine tkn 7 asA7 ?_
       (try simp only [Act.put, asA7, List.setIfInBounds_toArray, List.set_cons_zero, List.set_cons_succ])
       refine tkn 8 asA8 ?_
       (try simp only [Act.put, asA8, List.setIfInBounds_toArray, List.set_cons_zero, List.set_cons_succ])
       refine tkn 9 asA9 ?_
       (try simp only [Act.put, asA9, List.setIfInBounds_toArray, List.set_cons_zero, List.set_cons_succ])
       refine tkn 10 asA10 ?_
       (try simp only [Act.put, asA10, List.setIfInBounds_toArray, List.set_cons_zero, List.set_cons_succ])
       refine tkn 11 asA11 ?_
       (try simp only [Act.put, asA11, List.setIfInBounds_toArray, List.set_cons_zero, List.set_cons_succ])
       refine tkn 12 asA12 ?_
       (try simp only [Act.put, asA12, List.setIfInBounds_toArray, List.set_cons_zero, List.set_cons_succ])
       refine tkn 13 asA13 ?_
       (try simp only [Act.put, asA13, List.setIfInBounds_toArray, List.set_cons_zero, List.set_cons_succ])
       refine tkv 14 asA14 ?_
       (try simp only [Act.put, asA14, List.setIfInBounds_toArray, List.set_cons_zero, List.set_cons_succ])
       refine wpAnyH_done (by kernel_rfl) ?_ _
       go_wp2
       go_roundw
       case rel => exact ⟨j + 1, mj, by omega, by go_num, by go_num, MJ, Lib.hid (fun r hr => by have h := ask_step (b := false) (by omega) BJ.out (.inl hbit) r hr; rwa [if_neg (by simp)] at h), Lib.hid (K3.out.trans (Kp.drew _))⟩
       case measure => simp [intOf]; omega
      | false =>
       have nz := AZ.2 hbit
       generalize mj &&& 2 ^ j = z at *
       have g1 : ((z : Int) == 0) = true := by rw [nz]; rfl
       have g2 : (z == 0) = true := by rw [nz]; rfl
       clear AZ
       go_upto_region 9 with fail
       refine wp_region_held_drew (S := fun w' => w'.cell? ⟨wo.heap.size, 0, none⟩ = some (.int .i64 S) ∧ w'.cell? ⟨wo.heap.size, 1, none⟩ = some (.int .i64 T) ∧ Kp wi w') (by kernel_rfl) ?_ (fun hHeld0 => ?_)
       ·(try dsimp only); exact KS.out _ (by first | with_reducible exact k00 | ((repeat (first | with_reducible refine Kp.trans ?_ (Kp.drew _) | with_reducible refine Kp.trans ?_ (Kp.alloc _ _))); with_reducible exact k00))
       refine tkv 0 asA0 ?_
       (try simp only [Act.put, asA0, List.setIfInBounds_toArray, List.set_cons_zero, List.set_cons_succ])
       refine tkv 1 asA1 ?_
       (try simp only [Act.put, asA1, List.setIfInBounds_toArray, List.set_cons_zero, List.set_cons_succ])
       refine tkv 2 asA2 ?_
       (try simp only [Act.put, asA2, List.setIfInBounds_toArray, List.set_cons_zero, List.set_cons_succ])
       refine tkv 3 asA3 ?_
       (try simp only [Act.put, asA3, List.setIfInBounds_toArray, List.set_cons_zero, List.set_cons_succ])
       refine tkv 4 asA4 ?_
       (try simp only [Act.put, asA4, List.setIfInBounds_toArray, List.set_cons_zero, List.set_cons_succ])
       refine tkv 5 asA5 ?_
       (try simp only [Act.put, asA5, List.setIfInBounds_toArray, List.set_cons_zero, List.set_cons_succ])
       refine tkv 6 asA6 ?_
       (try simp only [Act.put, asA6, List.setIfInBounds_toArray, List.set_cons_zero, List.set_cons_succ])
       refine tkv 7 asA7 ?_
       (try simp only [Act.put, asA7, List.setIfInBounds_toArray, List.set_cons_zero, List.set_cons_succ])
       refine tkv 8 asA8 ?_
       (try simp only [Act.put, asA8, List.setIfInBounds_toArray, List.set_cons_zero, List.set_cons_succ])
       refine tkv 10 asA10 ?_
       (try simp only [Act.put, asA10, List.setIfInBounds_toArray, List.set_cons_zero, List.set_cons_succ])
       refine tkv 11 asA11 ?_
       (try simp only [Act.put, asA11, List.setIfInBounds_toArray, List.set_cons_zero, List.set_cons_succ])
       refine tkv 12 asA12 ?_
       (try simp only [Act.put, asA12, List.setIfInBounds_toArray, List.set_cons_zero, List.set_cons_succ])
       refine tkE 9 asA9 rfl (by kernel_rfl) (fun K hK => ?_)
       go_simp
       (refine (hway S T _ l1 l2 l3 l4).mono ?_; rintro e wq ⟨rfl, kq1⟩; have kkq : Kp wi wq := Kp.trans (show Kp wi _ from (by first | with_reducible exact k00 | ((repeat (first | with_reducible refine Kp.trans ?_ (Kp.drew _) | with_reducible refine Kp.trans ?_ (Kp.alloc _ _))); with_reducible exact k00))) kq1; clear kq1)
       (try go_wp2_with fail)
       refine hK.out _ _ ?_ (fun hHeld1 => ?_)
       ·(try dsimp only); exact KS.out _ (by first | with_reducible exact kkq | ((repeat (first | with_reducible refine Kp.trans ?_ (Kp.drew _) | with_reducible refine Kp.trans ?_ (Kp.alloc _ _))); with_reducible exact kkq))
       clear hK K hHeld0
       (try simp only [Act.put, asA9, List.setIfInBounds_toArray, List.set_cons_zero, List.set_cons_succ])
       refine tkE 13 asA13 rfl (by kernel_rfl) (fun K hK => ?_)
       go_simp
       (refine (HWI.out _ _ (Kp.trans KWI.out (by first | with_reducible exact kkq | ((repeat (first | with_reducible refine Kp.trans ?_ (Kp.drew _) | with_reducible refine Kp.trans ?_ (Kp.alloc _ _))); with_reducible exact kkq))) (way_ok l1 l2 l3 l4)).mono ?_; rintro e wx ⟨q, rfl, hq, kq1⟩; have kkx : Kp wi wx := Kp.trans (show Kp wi _ from (by first | with_reducible exact kkq | ((repeat (first | with_reducible refine Kp.trans ?_ (Kp.drew _) | with_reducible refine Kp.trans ?_ (Kp.alloc _ _))); with_reducible exact kkq))) kq1; have HQ := Lib.hid (show askT q (askP Q j (S, T)) from hq); clear kq1 hq)
       (try go_wp2_with fail)
       refine hK.out _ _ ?_ (fun hHeld2 => ?_)
       ·(try dsimp only); exact KS.out _ (by first | with_reducible exact kkx | ((repeat (first | with_reducible refine Kp.trans ?_ (Kp.drew _) | with_reducible refine Kp.trans ?_ (Kp.alloc _ _))); with_reducible exact kkx))
       clear hK K hHeld1
       (try simp only [Act.put, asA13, List.setIfInBounds_toArray, List.set_cons_zero, List.set_cons_succ])
       refine tkv 14 asA14 ?_
       (try simp only [Act.put, asA14, List.setIfInBounds_toArray, List.set_cons_zero, List.set_cons_succ])
       refine wpAnyH_done (by kernel_rfl) ?_ _
       cases q with
       | true =>
        go_wp2
        go_roundw
        case rel => exact ⟨j + 1, y, by omega, by go_num, by go_num, LT2, Lib.hid (fun r hr => by have h := ask_step (by omega) BJ.out (.inr HQ.out) r hr; rwa [if_pos ⟨hbit, rfl⟩, HY.out] at h), Lib.hid (K3.out.trans kkx)⟩
        case measure => simp [intOf]; omega
       | false =>
        go_wp2
        go_roundw
        case rel => exact ⟨j + 1, mj, by omega, by go_num, by go_num, MJ, Lib.hid (fun r hr => by have h := ask_step (by omega) BJ.out (.inr HQ.out) r hr; rwa [if_neg (by simp)] at h), Lib.hid (K3.out.trans kkx)⟩
        case measure => simp [intOf]; omega
     ·have q3 : decide ((j : Int) < 13) = false := decide_eq_false (by omega)
      have ej : j = 13 := by omega
      have BF := Lib.hid (fun r (hr : r ≤ 12) => show mj.testBit r = true ↔ m.testBit r = true ∨ ∃ p ∈ L.take (k + 1), askP Q r p by
       rw [BJ.out r hr, BK.out r hr, AT.out r, or_assoc]
       exact ⟨fun h => h.imp id (fun h => h.imp id And.right), fun h => h.imp id (fun h => h.imp id (fun q => ⟨by omega, q⟩))⟩)
      have KF := Lib.hid (K2.out.trans (KW.out.trans K3.out))
      go_wp2
      go_roundw
      case rel => exact ⟨k + 1, mj, by have := HLT.out; omega, by go_num, by go_num, MJ, BF, KF⟩
      case measure => have := HLT.out; simp [intOf]; omega
  ·have q1 : decide ((k : Int) < (L.length : Int)) = false := decide_eq_false (by omega)
   have ek : k = L.length := by omega
   have BF := Lib.hid (fun r (hr : r ≤ 12) => show mk.testBit r = true ↔ m.testBit r = true ∨ ∃ p ∈ L, askP Q r p by
    have := BK.out r hr
    rwa [ek, List.take_length] at this)
   go_wp2
   go_ret
   exact ⟨mk, rfl, MK.out, BF.out, K1.out.trans K2.out⟩
end Go.Proofs.YtamdjbpgkiekcaaGreatDoor
