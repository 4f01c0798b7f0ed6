/-
  Layer 8, the document's answer: contract of units (PointIs).
-/
import Derived.Test.YtinpglfclbnhlaaGreatDoorPiD
namespace Go.Proofs.YtinpglfclbnhlaaGreatDoor
open Go.RowKit
set_option linter.unusedVariables false
set_option linter.unusedSimpArgs false
/-- the units put so far -/
def usR (Y M : List Int) (per : Int) (i j : Nat) : List R := ((Y.take i).flatMap (fun y => M.map fun m => y * per + m - 1) ++ (M.take j).map fun m => zat Y i * per + m - 1).foldl putI []
theorem us_0 (Y M : List Int) (per : Int) : usR Y M per 0 0 = [] := by
  unfold usR
  simp
theorem us_step {Y M : List Int} {per : Int} {i j : Nat} (h : j < M.length) : usR Y M per i (j + 1) = putI (usR Y M per i j) (zat Y i * per + zat M j - 1) := by
  unfold usR
  rw [ztake h, List.map_append, ← List.append_assoc, List.foldl_append]
  simp
theorem us_row {Y M : List Int} {per : Int} {i : Nat} (h : i < Y.length) : usR Y M per i M.length = usR Y M per (i + 1) 0 := by
  unfold usR
  rw [List.take_length, ztake h, List.flatMap_append, List.flatMap_cons, List.flatMap_nil, List.append_nil]
  simp
theorem us_len {Y M : List Int} {per : Int} (hy : Y.length ≤ 10000) (hm : M.length ≤ 12) (i j : Nat) : (usR Y M per i j).length ≤ 4000000 := by
  have h1 := fz_bd (Y.take i) (fun y => M.map fun m => y * per + m - 1) 12 (fun x _ => by rw [List.length_map]; exact hm)
  have t1 : (Y.take i).length ≤ Y.length := List.length_take_le' _ _
  have t2 : (M.take j).length ≤ M.length := List.length_take_le' _ _
  have h3 := puts_le ((Y.take i).flatMap (fun y => M.map fun m => y * per + m - 1) ++ (M.take j).map fun m => zat Y i * per + m - 1) []
  unfold usR
  rw [List.length_append, List.length_map, List.length_nil] at h3
  omega
theorem us_one (p : PT) (h : p.k = 1) : usR (numsL p.y 0 9999) (numsL p.m 1 12) 12 (numsL p.y 0 9999).length 0 = rUn p := by
  unfold usR rUn unL
  rw [if_pos h, List.take_length]
  simp
theorem us_two (p : PT) (h : p.k = 2) : usR (numsL p.y 0 9999) (numsL p.m 1 4) 4 (numsL p.y 0 9999).length 0 = rUn p := by
  unfold usR rUn unL
  rw [if_neg (by omega), if_pos h, List.take_length]
  simp
/-- the numbers put so far -/
def ysR (Y : List Int) (i : Nat) : List R := (Y.take i).foldl putI []
theorem ys_0 (Y : List Int) : ysR Y 0 = [] := by unfold ysR; simp
theorem ys_step {Y : List Int} {i : Nat} (h : i < Y.length) : ysR Y (i + 1) = putI (ysR Y i) (zat Y i) := by
  unfold ysR
  rw [ztake h, List.foldl_append]
  simp
theorem ys_len {Y : List Int} (hy : Y.length ≤ 10000) (i : Nat) : (ysR Y i).length ≤ 4000000 := by
  have t1 : (Y.take i).length ≤ Y.length := List.length_take_le' _ _
  have h3 := puts_le (Y.take i) []
  unfold ysR
  rw [List.length_nil] at h3
  omega
theorem ys_all (p : PT) (h : p.k ≠ 1) (h2 : p.k ≠ 2) : ysR (numsL p.y 0 9999) (numsL p.y 0 9999).length = rUn p := by
  unfold ysR rUn unL
  rw [if_neg h, if_neg h2, List.take_length]
abbrev puA0 : Oper := { dst := some 41, op := Go.Op.move (Go.Operand.tmp 4), type := 28, pos := "ref.go:150", after := #[], guard := none }
abbrev puA1 : Oper := { dst := some 42, op := Go.Op.move (Go.Operand.tmp 3), type := 67, pos := "ref.go:150", after := #[], guard := none }
abbrev puA2 : Oper := { dst := some 43, op := Go.Op.move (Go.Operand.tmp 7), type := 3, pos := "ref.go:150", after := #[], guard := none }
abbrev puA3 : Oper := { dst := some 44, op := Go.Op.indexAddr 67 (Go.Operand.tmp 42) (Go.Operand.tmp 43), type := 0, pos := "ref.go:150", after := #[{ on := 1, ground := Go.Ground.data }, { on := 2, ground := Go.Ground.data }], guard := none }
abbrev puA4 : Oper := { dst := some 45, op := Go.Op.load 3 (Go.Operand.tmp 44), type := 3, pos := "ref.go:150", after := #[{ on := 3, ground := Go.Ground.data }], guard := none }
abbrev puA5 : Oper := { dst := some 46, op := Go.Op.move (Go.Operand.tmp 5), type := 3, pos := "ref.go:150", after := #[], guard := none }
abbrev puA6 : Oper := { dst := some 47, op := Go.Op.binOp Go.BinOp.mul 3 (Go.Operand.tmp 45) (Go.Operand.tmp 46) 3, type := 3, pos := "ref.go:150", after := #[{ on := 4, ground := Go.Ground.data }, { on := 5, ground := Go.Ground.data }], guard := none }
abbrev puA7 : Oper := { dst := some 48, op := Go.Op.move (Go.Operand.tmp 6), type := 67, pos := "ref.go:150", after := #[], guard := none }
abbrev puA8 : Oper := { dst := some 49, op := Go.Op.move (Go.Operand.tmp 8), type := 3, pos := "ref.go:150", after := #[], guard := none }
abbrev puA9 : Oper := { dst := some 50, op := Go.Op.indexAddr 67 (Go.Operand.tmp 48) (Go.Operand.tmp 49), type := 0, pos := "ref.go:150", after := #[{ on := 7, ground := Go.Ground.data }, { on := 8, ground := Go.Ground.data }], guard := none }
abbrev puA10 : Oper := { dst := some 51, op := Go.Op.load 3 (Go.Operand.tmp 50), type := 3, pos := "ref.go:150", after := #[{ on := 9, ground := Go.Ground.data }], guard := none }
abbrev puA11 : Oper := { dst := some 52, op := Go.Op.binOp Go.BinOp.add 3 (Go.Operand.tmp 47) (Go.Operand.tmp 51) 3, type := 3, pos := "ref.go:150", after := #[{ on := 6, ground := Go.Ground.data }, { on := 10, ground := Go.Ground.data }], guard := none }
abbrev puA12 : Oper := { dst := some 53, op := Go.Op.binOp Go.BinOp.sub 3 (Go.Operand.tmp 52) (Go.Operand.const (Go.Value.int Go.IntKind.i64 1)) 3, type := 3, pos := "ref.go:150", after := #[{ on := 11, ground := Go.Ground.data }], guard := none }
abbrev puA13 : Oper := { dst := some 54, op := Go.Op.call { callee := Go.Callee.value (Go.Operand.func 46), args := #[Go.Operand.tmp 41, Go.Operand.tmp 53], argTypes := #[28, 3] }, type := 28, pos := "ref.go:150", after := #[{ on := 0, ground := Go.Ground.data }, { on := 12, ground := Go.Ground.data }], guard := none }
abbrev puA14 : Oper := { dst := some 4, op := Go.Op.assign (Go.Operand.tmp 54), type := 28, pos := "ref.go:150", after := #[{ on := 13, ground := Go.Ground.data }, { on := 13, ground := Go.Ground.chain }, { on := 0, ground := Go.Ground.phase }, { on := 1, ground := Go.Ground.phase }, { on := 2, ground := Go.Ground.phase }, { on := 3, ground := Go.Ground.phase }, { on := 4, ground := Go.Ground.phase }, { on := 5, ground := Go.Ground.phase }, { on := 6, ground := Go.Ground.phase }, { on := 7, ground := Go.Ground.phase }, { on := 8, ground := Go.Ground.phase }, { on := 9, ground := Go.Ground.phase }, { on := 10, ground := Go.Ground.phase }, { on := 11, ground := Go.Ground.phase }, { on := 12, ground := Go.Ground.phase }, { on := 13, ground := Go.Ground.phase }], guard := none }
set_option maxHeartbeats 16000000 in
set_option maxRecDepth 100000 in
theorem runits8_1 (y m d : ByteArray) (w : World) (hy : y.size ≤ 10) (hm : m.size ≤ 10) (hd : d.size ≤ 10) : Calls Tryz.prog 23 #[ptV ⟨1, y, m, d⟩] w fun e w' => ∃ v', e = .returned v' ∧ w'.ownsRow w.heap.size 37 2 v' (rUn ⟨1, y, m, d⟩).length (cellsR (rUn ⟨1, y, m, d⟩)) ∧ Kp w w' := by
  have CY := Lib.hid (fun w1 => rnumbers_any y 0 9999 w1 (by unfold maxLen; omega) (by decide) (by decide) (by decide))
  have CM := Lib.hid (fun w1 => rnumbers_any m 1 12 w1 (by unfold maxLen; omega) (by decide) (by decide) (by decide))
  have NY := num_len y 0 9999
  have NM := num_len m 1 12
  have IY := Lib.hid (fun i (h : i < (numsL y 0 9999).length) => (is_num.1 (zat_mem h)).1)
  have IM := Lib.hid (fun i (h : i < (numsL m 1 12).length) => (is_num.1 (zat_mem h)).1)
  have S0 := Lib.hid (us_0 (numsL y 0 9999) (numsL m 1 12) 12)
  have SS := Lib.hid (fun i j (h : j < (numsL m 1 12).length) => us_step (Y := numsL y 0 9999) (per := 12) (i := i) h)
  have SR := Lib.hid (fun i (h : i < (numsL y 0 9999).length) => us_row (M := numsL m 1 12) (per := 12) h)
  have SL := Lib.hid (us_len (Y := numsL y 0 9999) (M := numsL m 1 12) (per := 12) (by omega) (by omega))
  have SA := Lib.hid (us_one ⟨1, y, m, d⟩ rfl)
  simp only [ptV] at *
  generalize rUn ⟨1, y, m, d⟩ = RU at *
  generalize usR (numsL y 0 9999) (numsL m 1 12) 12 = US at *
  generalize numsL y 0 9999 = Y at *
  generalize numsL m 1 12 = M at *
  have yl : Y.length ≤ 10000 := by omega
  have ml : M.length ≤ 12 := by omega
  clear NY NM hy hm hd
  obtain ⟨V3, hVb⟩ : ∃ x, x = w.alloc (.cells #[.int .i64 1, .string y, .string m, .string d] 23) := ⟨_, rfl⟩
  have kab : Kp w V3 := by rw [hVb]; exact Kp.alloc _ _
  have gqb0 : V3.heap[w.heap.size]? = some (.cells #[.int .i64 1, .string y, .string m, .string d] 23 (0, 0)) := by rw [hVb]; exact heap_at _ _ _ (by first | rfl | simp)
  have KSb := Lib.hid (fun w' (kq : Kp V3 w') => show w'.cell? ⟨w.heap.size, 0, none⟩ = some (.int .i64 1) ∧ w'.cell? ⟨w.heap.size, 1, none⟩ = some (.string y) ∧ w'.cell? ⟨w.heap.size, 2, none⟩ = some (.string m) ∧ w'.cell? ⟨w.heap.size, 3, none⟩ = some (.string d) ∧ Kp V3 w' from ⟨(row4 (heap_block kq gqb0)).1, (row4 (heap_block kq gqb0)).2.1, (row4 (heap_block kq gqb0)).2.2.1, (row4 (heap_block kq gqb0)).2.2.2, kq⟩)
  have GQb0 := Lib.hid gqb0
  have HVb := Lib.hid hVb
  have KB := Lib.hid kab
  clear hVb kab gqb0
  have kkV3 : Kp V3 V3 := Kp.refl _
  go_enter Tryz.func23, Tryz.ntmps23
  go_wp2_with fail
  rw [← HVb.out]
  obtain ⟨e0, e1, e2, e3, _⟩ := KSb.out V3 (Kp.refl _)
  go_wp2_with fail
  refine (CY.out _).mono ?_
  rintro e w1 ⟨v1, rfl, o1, kk1⟩
  clear e0 e1 e2 e3
  obtain ⟨e0, e1, e2, e3, _⟩ := KSb.out w1 kk1
  obtain ⟨ya, yc, rfl⟩ := own_sliceZ o1
  go_wp2_with fail
  refine (CM.out _).mono ?_
  rintro e w2 ⟨v2, rfl, o2, kk2⟩
  obtain ⟨ma, mc, rfl⟩ := own_sliceZ o2
  have K2 := Lib.hid (KB.out.trans (kk1.trans kk2))
  have AY := Lib.hid (intsAt_ownZ (own_kp o1 kk2))
  have AM := Lib.hid (intsAt_ownZ o2)
  clear o1 o2 kk1 kk2 e0 e1 e2 e3 CY CM KSb
  go_wp2
  go_loopw [4, 7] (fun q iv wr => ∃ i : Nat, i ≤ Y.length ∧ iv = .int .i64 i ∧ Hid (wr.ownsRow w2.heap.size 37 2 q (US i 0).length (cellsR (US i 0))) ∧ Hid (Kp w2 wr)) (fun _ iv _ => Y.length - (intOf iv).toNat)
  case atStart => exact ⟨0, Nat.zero_le _, rfl, Lib.hid (by rw [S0.out]; exact World.ownsRow_nil _ _ _ _), Lib.hid (Kp.refl _)⟩
  case round =>
    obtain ⟨i, hi, rfl, OW, J⟩ := hrel
    have ow := OW.out
    obtain ⟨qa, qc, rfl⟩ := own_slice ow
    clear ow
    obtain ⟨wi, hwi⟩ : ∃ x, x = wr := ⟨_, rfl⟩
    subst hwi
    by_cases hlt : i < Y.length
    · have q1 : decide ((i : Int) < (Y.length : Int)) = true := decide_eq_true (by omega)
      have yb := IY.out i hlt
      have HLT := Lib.hid hlt
      rcases AY.out with ⟨_, _, _, e⟩ | ⟨by', oy, cy, ev, hcy, hmy, hxy⟩
      · rw [e] at hlt; simp at hlt
      have ry := hxy i hlt
      cases ev
      rw [show Y.getD i 0 = zat Y i from rfl] at ry
      have SSi := Lib.hid (fun j => SS.out i j)
      have SRi := Lib.hid (SR.out i hlt)
      generalize zat Y i = yi at *
      have RY := Lib.hid (fun w' (kq : Kp w2 w') => (show w'.cell? ⟨by', oy + i, none⟩ = some (.int .i64 yi) from cell_up kq ry))
      have zi : (0 : Int) ≤ (i : Int) := by omega
      have zi2 : (i : Int) < (Y.length : Int) := by omega
      clear hxy hcy hmy ry
      go_wp2
      go_loopw [4, 8] (fun q jv wr => ∃ j : Nat, j ≤ M.length ∧ jv = .int .i64 j ∧ Hid (wr.ownsRow w2.heap.size 37 2 q (US i j).length (cellsR (US i j))) ∧ Hid (Kp w2 wr)) (fun _ jv _ => M.length - (intOf jv).toNat)
      case atStart => exact ⟨0, Nat.zero_le _, rfl, OW, J⟩
      case round =>
        obtain ⟨j, hj, rfl, OW2, J2⟩ := hrel
        have ow := OW2.out
        obtain ⟨qa2, qc2, rfl⟩ := own_slice ow
        clear ow
        obtain ⟨wj, hwj⟩ : ∃ x, x = wr := ⟨_, rfl⟩
        subst hwj
        by_cases hlm : j < M.length
        · have q4 : decide ((j : Int) < (M.length : Int)) = true := decide_eq_true (by omega)
          have mb := IM.out j hlm
          have HLM := Lib.hid hlm
          rcases AM.out with ⟨_, _, _, e⟩ | ⟨bm, om, cm, ev, hcm, hmm, hxm⟩
          · rw [e] at hlm; simp at hlm
          have rm := hxm j hlm
          cases ev
          rw [show M.getD j 0 = zat M j from rfl] at rm
          have ST := Lib.hid (SSi.out j hlm)
          have slk := SL.out i j
          generalize zat M j = mj at *
          have zj : (0 : Int) ≤ (j : Int) := by omega
          have zj2 : (j : Int) < (M.length : Int) := by omega
          have c1 := RY.out wj J2.out
          have c2 := cell_up J2.out rm
          have KSp := Lib.hid (fun w' (kq : Kp w2 w') => show w'.cell? ⟨by', oy + i, none⟩ = some (.int .i64 yi) ∧ w'.cell? ⟨bm, om + j, none⟩ = some (.int .i64 mj) ∧ Kp w2 w' from ⟨RY.out w' kq, cell_up kq rm, kq⟩)
          have kkwj : Kp w2 wj := J2.out
          have wz1 : IntKind.i64.wrap (yi * 12) = yi * 12 := IntWalk.i64_in _ (by omega)
          have wz2 : IntKind.i64.wrap (yi * 12 + mj) = yi * 12 + mj := IntWalk.i64_in _ (by omega)
          have wz3 : IntKind.i64.wrap (yi * 12 + mj - 1) = yi * 12 + mj - 1 := IntWalk.i64_in _ (by omega)
          have CP := Lib.hid (fun w1 (ho : w1.ownsRow w2.heap.size 37 2 (.slice qa2 (US i j).length qc2) (US i j).length (cellsR (US i j))) (hb : w2.heap.size ≤ w1.heap.size) => rput8_any w2.heap.size _ (US i j) (yi * 12 + mj - 1) w1 hb ho (by omega) (by omega) (by omega))
          clear hxm hcm hmm
          go_upto_region 18 with fail
          refine wp_region_held_drew (S := fun w' => w'.cell? ⟨by', oy + i, none⟩ = some (.int .i64 yi) ∧ w'.cell? ⟨bm, om + j, none⟩ = some (.int .i64 mj) ∧ Kp w2 w') (by kernel_rfl) ?_ (fun hHeld0 => ?_)
          · (try dsimp only); exact KSp.out _ (by first | with_reducible exact kkwj | ((repeat (first | with_reducible refine Kp.trans ?_ (Kp.drew _) | with_reducible refine Kp.trans ?_ (Kp.alloc _ _))); with_reducible exact kkwj))
          refine tkW (v := ?_) 0 puA0 rfl (by kernel_rfl) (by kernel_rfl) (by kernel_rfl) (fun _ _ _ h => h) (by rfl) ?_ (by assumption) ?_
          rotate_left
          · intro w hSw; (try dsimp only at hSw); go_simp; (try with_reducible rfl)
          (try simp only [Act.put, puA0, List.setIfInBounds_toArray, List.set_cons_zero, List.set_cons_succ])
          refine tkW (v := ?_) 1 puA1 rfl (by kernel_rfl) (by kernel_rfl) (by kernel_rfl) (fun _ _ _ h => h) (by rfl) ?_ (by assumption) ?_
          rotate_left
          · intro w hSw; (try dsimp only at hSw); go_simp; (try with_reducible rfl)
          (try simp only [Act.put, puA1, List.setIfInBounds_toArray, List.set_cons_zero, List.set_cons_succ])
          refine tkW (v := ?_) 2 puA2 rfl (by kernel_rfl) (by kernel_rfl) (by kernel_rfl) (fun _ _ _ h => h) (by rfl) ?_ (by assumption) ?_
          rotate_left
          · intro w hSw; (try dsimp only at hSw); go_simp; (try with_reducible rfl)
          (try simp only [Act.put, puA2, List.setIfInBounds_toArray, List.set_cons_zero, List.set_cons_succ])
          refine tkW (v := ?_) 3 puA3 rfl (by kernel_rfl) (by kernel_rfl) (by kernel_rfl) (fun _ _ _ h => h) (by rfl) ?_ (by assumption) ?_
          rotate_left
          · intro w hSw; (try dsimp only at hSw); go_simp; (try with_reducible rfl)
          (try simp only [Act.put, puA3, List.setIfInBounds_toArray, List.set_cons_zero, List.set_cons_succ])
          refine tkW (v := ?_) 4 puA4 rfl (by kernel_rfl) (by kernel_rfl) (by kernel_rfl) (fun _ _ _ h => h) (by rfl) ?_ (by assumption) ?_
          rotate_left
          · intro w hSw; (try dsimp only at hSw); go_simp; (try with_reducible rfl)
          (try simp only [Act.put, puA4, List.setIfInBounds_toArray, List.set_cons_zero, List.set_cons_succ])
          refine tkW (v := ?_) 5 puA5 rfl (by kernel_rfl) (by kernel_rfl) (by kernel_rfl) (fun _ _ _ h => h) (by rfl) ?_ (by assumption) ?_
          rotate_left
          · intro w hSw; (try dsimp only at hSw); go_simp; (try with_reducible rfl)
          (try simp only [Act.put, puA5, List.setIfInBounds_toArray, List.set_cons_zero, List.set_cons_succ])
          refine tkW (v := ?_) 6 puA6 rfl (by kernel_rfl) (by kernel_rfl) (by kernel_rfl) (fun _ _ _ h => h) (by rfl) ?_ (by assumption) ?_
          rotate_left
          · intro w hSw; (try dsimp only at hSw); go_simp; (try with_reducible rfl)
          (try simp only [Act.put, puA6, List.setIfInBounds_toArray, List.set_cons_zero, List.set_cons_succ])
          refine tkW (v := ?_) 7 puA7 rfl (by kernel_rfl) (by kernel_rfl) (by kernel_rfl) (fun _ _ _ h => h) (by rfl) ?_ (by assumption) ?_
          rotate_left
          · intro w hSw; (try dsimp only at hSw); go_simp; (try with_reducible rfl)
          (try simp only [Act.put, puA7, List.setIfInBounds_toArray, List.set_cons_zero, List.set_cons_succ])
          refine tkW (v := ?_) 8 puA8 rfl (by kernel_rfl) (by kernel_rfl) (by kernel_rfl) (fun _ _ _ h => h) (by rfl) ?_ (by assumption) ?_
          rotate_left
          · intro w hSw; (try dsimp only at hSw); go_simp; (try with_reducible rfl)
          (try simp only [Act.put, puA8, List.setIfInBounds_toArray, List.set_cons_zero, List.set_cons_succ])
          refine tkW (v := ?_) 9 puA9 rfl (by kernel_rfl) (by kernel_rfl) (by kernel_rfl) (fun _ _ _ h => h) (by rfl) ?_ (by assumption) ?_
          rotate_left
          · intro w hSw; (try dsimp only at hSw); go_simp; (try with_reducible rfl)
          (try simp only [Act.put, puA9, List.setIfInBounds_toArray, List.set_cons_zero, List.set_cons_succ])
          refine tkW (v := ?_) 10 puA10 rfl (by kernel_rfl) (by kernel_rfl) (by kernel_rfl) (fun _ _ _ h => h) (by rfl) ?_ (by assumption) ?_
          rotate_left
          · intro w hSw; (try dsimp only at hSw); go_simp; (try with_reducible rfl)
          (try simp only [Act.put, puA10, List.setIfInBounds_toArray, List.set_cons_zero, List.set_cons_succ])
          refine tkW (v := ?_) 11 puA11 rfl (by kernel_rfl) (by kernel_rfl) (by kernel_rfl) (fun _ _ _ h => h) (by rfl) ?_ (by assumption) ?_
          rotate_left
          · intro w hSw; (try dsimp only at hSw); go_simp; (try with_reducible rfl)
          (try simp only [Act.put, puA11, List.setIfInBounds_toArray, List.set_cons_zero, List.set_cons_succ])
          refine tkW (v := ?_) 12 puA12 rfl (by kernel_rfl) (by kernel_rfl) (by kernel_rfl) (fun _ _ _ h => h) (by rfl) ?_ (by assumption) ?_
          rotate_left
          · intro w hSw; (try dsimp only at hSw); go_simp; (try with_reducible rfl)
          (try simp only [Act.put, puA12, List.setIfInBounds_toArray, List.set_cons_zero, List.set_cons_succ])
          refine tkE 13 puA13 rfl (by kernel_rfl) (fun K hK => ?_)
          go_simp
          (refine (CP.out _ (own_kp OW2.out (by first | with_reducible exact (Kp.refl wj) | ((repeat (first | with_reducible refine Kp.trans ?_ (Kp.drew _) | with_reducible refine Kp.trans ?_ (Kp.alloc _ _))); with_reducible exact (Kp.refl wj)))) (J2.out.trans (by first | with_reducible exact (Kp.refl wj) | ((repeat (first | with_reducible refine Kp.trans ?_ (Kp.drew _) | with_reducible refine Kp.trans ?_ (Kp.alloc _ _))); with_reducible exact (Kp.refl wj)))).size).mono ?_; rintro e w9 ⟨v9, rfl, o9, b9⟩; have kkw9 : Kp w2 w9 := Below.trans (J2.out.trans (by first | with_reducible exact (Kp.refl wj) | ((repeat (first | with_reducible refine Kp.trans ?_ (Kp.drew _) | with_reducible refine Kp.trans ?_ (Kp.alloc _ _))); with_reducible exact (Kp.refl wj)))) b9; have O9 := Lib.hid (show w9.ownsRow w2.heap.size 37 2 v9 (US i (j + 1)).length (cellsR (US i (j + 1))) by rw [ST.out]; exact o9); clear o9 b9)
          (try go_wp2_with fail)
          refine hK.out _ _ ?_ (fun hHeld1 => ?_)
          · (try dsimp only); exact KSp.out _ (by first | with_reducible exact kkw9 | ((repeat (first | with_reducible refine Kp.trans ?_ (Kp.drew _) | with_reducible refine Kp.trans ?_ (Kp.alloc _ _))); with_reducible exact kkw9))
          clear hK K hHeld0
          (try simp only [Act.put, puA13, List.setIfInBounds_toArray, List.set_cons_zero, List.set_cons_succ])
          refine tkW (v := ?_) 14 puA14 rfl (by kernel_rfl) (by kernel_rfl) (by kernel_rfl) (fun _ _ _ h => h) (by rfl) ?_ (by assumption) ?_
          rotate_left
          · intro w hSw; (try dsimp only at hSw); go_simp; (try with_reducible rfl)
          (try simp only [Act.put, puA14, List.setIfInBounds_toArray, List.set_cons_zero, List.set_cons_succ])
          refine wpAnyH_done (by kernel_rfl) ?_ _
          have q9 := HLM.out
          go_wp2
          go_roundw
          case rel => exact ⟨j + 1, by omega, by go_num, O9, Lib.hid kkw9⟩
          case measure => simp [intOf]; omega
        · have q4 : decide ((j : Int) < (M.length : Int)) = false := decide_eq_false (by omega)
          obtain rfl : j = M.length := by omega
          have O9 := Lib.hid (show wj.ownsRow w2.heap.size 37 2 (.slice qa2 (US i M.length).length qc2) (US (i + 1) 0).length (cellsR (US (i + 1) 0)) by rw [← SRi.out]; exact OW2.out)
          have q9 := HLT.out
          go_wp2
          go_roundw
          case rel => exact ⟨i + 1, by omega, by go_num, O9, J2⟩
          case measure => simp [intOf]; omega
    · have q1 : decide ((i : Int) < (Y.length : Int)) = false := decide_eq_false (by omega)
      obtain rfl : i = Y.length := by omega
      have O9 := Lib.hid (show wi.ownsRow w.heap.size 37 2 (.slice qa (US Y.length 0).length qc) RU.length (cellsR RU) by rw [← SA.out]; exact own_mono OW.out K2.out.size)
      go_wp2
      go_ret
      exact ⟨_, rfl, O9.out, K2.out.trans J.out⟩
set_option maxHeartbeats 16000000 in
set_option maxRecDepth 100000 in
theorem runits8_2 (y m d : ByteArray) (w : World) (hy : y.size ≤ 10) (hm : m.size ≤ 10) (hd : d.size ≤ 10) : Calls Tryz.prog 23 #[ptV ⟨2, y, m, d⟩] w fun e w' => ∃ v', e = .returned v' ∧ w'.ownsRow w.heap.size 37 2 v' (rUn ⟨2, y, m, d⟩).length (cellsR (rUn ⟨2, y, m, d⟩)) ∧ Kp w w' := by
  have CY := Lib.hid (fun w1 => rnumbers_any y 0 9999 w1 (by unfold maxLen; omega) (by decide) (by decide) (by decide))
  have CM := Lib.hid (fun w1 => rnumbers_any m 1 4 w1 (by unfold maxLen; omega) (by decide) (by decide) (by decide))
  have NY := num_len y 0 9999
  have NM := num_len m 1 4
  have IY := Lib.hid (fun i (h : i < (numsL y 0 9999).length) => (is_num.1 (zat_mem h)).1)
  have IM := Lib.hid (fun i (h : i < (numsL m 1 4).length) => (is_num.1 (zat_mem h)).1)
  have S0 := Lib.hid (us_0 (numsL y 0 9999) (numsL m 1 4) 4)
  have SS := Lib.hid (fun i j (h : j < (numsL m 1 4).length) => us_step (Y := numsL y 0 9999) (per := 4) (i := i) h)
  have SR := Lib.hid (fun i (h : i < (numsL y 0 9999).length) => us_row (M := numsL m 1 4) (per := 4) h)
  have SL := Lib.hid (us_len (Y := numsL y 0 9999) (M := numsL m 1 4) (per := 4) (by omega) (by omega))
  have SA := Lib.hid (us_two ⟨2, y, m, d⟩ rfl)
  simp only [ptV] at *
  generalize rUn ⟨2, y, m, d⟩ = RU at *
  generalize usR (numsL y 0 9999) (numsL m 1 4) 4 = US at *
  generalize numsL y 0 9999 = Y at *
  generalize numsL m 1 4 = M at *
  have yl : Y.length ≤ 10000 := by omega
  have ml : M.length ≤ 12 := by omega
  clear NY NM hy hm hd
  obtain ⟨V3, hVb⟩ : ∃ x, x = w.alloc (.cells #[.int .i64 2, .string y, .string m, .string d] 23) := ⟨_, rfl⟩
  have kab : Kp w V3 := by rw [hVb]; exact Kp.alloc _ _
  have gqb0 : V3.heap[w.heap.size]? = some (.cells #[.int .i64 2, .string y, .string m, .string d] 23 (0, 0)) := by rw [hVb]; exact heap_at _ _ _ (by first | rfl | simp)
  have KSb := Lib.hid (fun w' (kq : Kp V3 w') => show w'.cell? ⟨w.heap.size, 0, none⟩ = some (.int .i64 2) ∧ w'.cell? ⟨w.heap.size, 1, none⟩ = some (.string y) ∧ w'.cell? ⟨w.heap.size, 2, none⟩ = some (.string m) ∧ w'.cell? ⟨w.heap.size, 3, none⟩ = some (.string d) ∧ Kp V3 w' from ⟨(row4 (heap_block kq gqb0)).1, (row4 (heap_block kq gqb0)).2.1, (row4 (heap_block kq gqb0)).2.2.1, (row4 (heap_block kq gqb0)).2.2.2, kq⟩)
  have GQb0 := Lib.hid gqb0
  have HVb := Lib.hid hVb
  have KB := Lib.hid kab
  clear hVb kab gqb0
  have kkV3 : Kp V3 V3 := Kp.refl _
  go_enter Tryz.func23, Tryz.ntmps23
  go_wp2_with fail
  rw [← HVb.out]
  obtain ⟨e0, e1, e2, e3, _⟩ := KSb.out V3 (Kp.refl _)
  go_wp2_with fail
  refine (CY.out _).mono ?_
  rintro e w1 ⟨v1, rfl, o1, kk1⟩
  clear e0 e1 e2 e3
  obtain ⟨e0, e1, e2, e3, _⟩ := KSb.out w1 kk1
  obtain ⟨ya, yc, rfl⟩ := own_sliceZ o1
  go_wp2_with fail
  refine (CM.out _).mono ?_
  rintro e w2 ⟨v2, rfl, o2, kk2⟩
  obtain ⟨ma, mc, rfl⟩ := own_sliceZ o2
  have K2 := Lib.hid (KB.out.trans (kk1.trans kk2))
  have AY := Lib.hid (intsAt_ownZ (own_kp o1 kk2))
  have AM := Lib.hid (intsAt_ownZ o2)
  clear o1 o2 kk1 kk2 e0 e1 e2 e3 CY CM KSb
  go_wp2
  go_loopw [4, 7] (fun q iv wr => ∃ i : Nat, i ≤ Y.length ∧ iv = .int .i64 i ∧ Hid (wr.ownsRow w2.heap.size 37 2 q (US i 0).length (cellsR (US i 0))) ∧ Hid (Kp w2 wr)) (fun _ iv _ => Y.length - (intOf iv).toNat)
  case atStart => exact ⟨0, Nat.zero_le _, rfl, Lib.hid (by rw [S0.out]; exact World.ownsRow_nil _ _ _ _), Lib.hid (Kp.refl _)⟩
  case round =>
    obtain ⟨i, hi, rfl, OW, J⟩ := hrel
    have ow := OW.out
    obtain ⟨qa, qc, rfl⟩ := own_slice ow
    clear ow
    obtain ⟨wi, hwi⟩ : ∃ x, x = wr := ⟨_, rfl⟩
    subst hwi
    by_cases hlt : i < Y.length
    · have q1 : decide ((i : Int) < (Y.length : Int)) = true := decide_eq_true (by omega)
      have yb := IY.out i hlt
      have HLT := Lib.hid hlt
      rcases AY.out with ⟨_, _, _, e⟩ | ⟨by', oy, cy, ev, hcy, hmy, hxy⟩
      · rw [e] at hlt; simp at hlt
      have ry := hxy i hlt
      cases ev
      rw [show Y.getD i 0 = zat Y i from rfl] at ry
      have SSi := Lib.hid (fun j => SS.out i j)
      have SRi := Lib.hid (SR.out i hlt)
      generalize zat Y i = yi at *
      have RY := Lib.hid (fun w' (kq : Kp w2 w') => (show w'.cell? ⟨by', oy + i, none⟩ = some (.int .i64 yi) from cell_up kq ry))
      have zi : (0 : Int) ≤ (i : Int) := by omega
      have zi2 : (i : Int) < (Y.length : Int) := by omega
      clear hxy hcy hmy ry
      go_wp2
      go_loopw [4, 8] (fun q jv wr => ∃ j : Nat, j ≤ M.length ∧ jv = .int .i64 j ∧ Hid (wr.ownsRow w2.heap.size 37 2 q (US i j).length (cellsR (US i j))) ∧ Hid (Kp w2 wr)) (fun _ jv _ => M.length - (intOf jv).toNat)
      case atStart => exact ⟨0, Nat.zero_le _, rfl, OW, J⟩
      case round =>
        obtain ⟨j, hj, rfl, OW2, J2⟩ := hrel
        have ow := OW2.out
        obtain ⟨qa2, qc2, rfl⟩ := own_slice ow
        clear ow
        obtain ⟨wj, hwj⟩ : ∃ x, x = wr := ⟨_, rfl⟩
        subst hwj
        by_cases hlm : j < M.length
        · have q4 : decide ((j : Int) < (M.length : Int)) = true := decide_eq_true (by omega)
          have mb := IM.out j hlm
          have HLM := Lib.hid hlm
          rcases AM.out with ⟨_, _, _, e⟩ | ⟨bm, om, cm, ev, hcm, hmm, hxm⟩
          · rw [e] at hlm; simp at hlm
          have rm := hxm j hlm
          cases ev
          rw [show M.getD j 0 = zat M j from rfl] at rm
          have ST := Lib.hid (SSi.out j hlm)
          have slk := SL.out i j
          generalize zat M j = mj at *
          have zj : (0 : Int) ≤ (j : Int) := by omega
          have zj2 : (j : Int) < (M.length : Int) := by omega
          have c1 := RY.out wj J2.out
          have c2 := cell_up J2.out rm
          have KSp := Lib.hid (fun w' (kq : Kp w2 w') => show w'.cell? ⟨by', oy + i, none⟩ = some (.int .i64 yi) ∧ w'.cell? ⟨bm, om + j, none⟩ = some (.int .i64 mj) ∧ Kp w2 w' from ⟨RY.out w' kq, cell_up kq rm, kq⟩)
          have kkwj : Kp w2 wj := J2.out
          have wz1 : IntKind.i64.wrap (yi * 4) = yi * 4 := IntWalk.i64_in _ (by omega)
          have wz2 : IntKind.i64.wrap (yi * 4 + mj) = yi * 4 + mj := IntWalk.i64_in _ (by omega)
          have wz3 : IntKind.i64.wrap (yi * 4 + mj - 1) = yi * 4 + mj - 1 := IntWalk.i64_in _ (by omega)
          have CP := Lib.hid (fun w1 (ho : w1.ownsRow w2.heap.size 37 2 (.slice qa2 (US i j).length qc2) (US i j).length (cellsR (US i j))) (hb : w2.heap.size ≤ w1.heap.size) => rput8_any w2.heap.size _ (US i j) (yi * 4 + mj - 1) w1 hb ho (by omega) (by omega) (by omega))
          clear hxm hcm hmm
          go_upto_region 18 with fail
          refine wp_region_held_drew (S := fun w' => w'.cell? ⟨by', oy + i, none⟩ = some (.int .i64 yi) ∧ w'.cell? ⟨bm, om + j, none⟩ = some (.int .i64 mj) ∧ Kp w2 w') (by kernel_rfl) ?_ (fun hHeld0 => ?_)
          · (try dsimp only); exact KSp.out _ (by first | with_reducible exact kkwj | ((repeat (first | with_reducible refine Kp.trans ?_ (Kp.drew _) | with_reducible refine Kp.trans ?_ (Kp.alloc _ _))); with_reducible exact kkwj))
          refine tkW (v := ?_) 0 puA0 rfl (by kernel_rfl) (by kernel_rfl) (by kernel_rfl) (fun _ _ _ h => h) (by rfl) ?_ (by assumption) ?_
          rotate_left
          · intro w hSw; (try dsimp only at hSw); go_simp; (try with_reducible rfl)
          (try simp only [Act.put, puA0, List.setIfInBounds_toArray, List.set_cons_zero, List.set_cons_succ])
          refine tkW (v := ?_) 1 puA1 rfl (by kernel_rfl) (by kernel_rfl) (by kernel_rfl) (fun _ _ _ h => h) (by rfl) ?_ (by assumption) ?_
          rotate_left
          · intro w hSw; (try dsimp only at hSw); go_simp; (try with_reducible rfl)
          (try simp only [Act.put, puA1, List.setIfInBounds_toArray, List.set_cons_zero, List.set_cons_succ])
          refine tkW (v := ?_) 2 puA2 rfl (by kernel_rfl) (by kernel_rfl) (by kernel_rfl) (fun _ _ _ h => h) (by rfl) ?_ (by assumption) ?_
          rotate_left
          · intro w hSw; (try dsimp only at hSw); go_simp; (try with_reducible rfl)
          (try simp only [Act.put, puA2, List.setIfInBounds_toArray, List.set_cons_zero, List.set_cons_succ])
          refine tkW (v := ?_) 3 puA3 rfl (by kernel_rfl) (by kernel_rfl) (by kernel_rfl) (fun _ _ _ h => h) (by rfl) ?_ (by assumption) ?_
          rotate_left
          · intro w hSw; (try dsimp only at hSw); go_simp; (try with_reducible rfl)
          (try simp only [Act.put, puA3, List.setIfInBounds_toArray, List.set_cons_zero, List.set_cons_succ])
          refine tkW (v := ?_) 4 puA4 rfl (by kernel_rfl) (by kernel_rfl) (by kernel_rfl) (fun _ _ _ h => h) (by rfl) ?_ (by assumption) ?_
          rotate_left
          · intro w hSw; (try dsimp only at hSw); go_simp; (try with_reducible rfl)
          (try simp only [Act.put, puA4, List.setIfInBounds_toArray, List.set_cons_zero, List.set_cons_succ])
          refine tkW (v := ?_) 5 puA5 rfl (by kernel_rfl) (by kernel_rfl) (by kernel_rfl) (fun _ _ _ h => h) (by rfl) ?_ (by assumption) ?_
          rotate_left
          · intro w hSw; (try dsimp only at hSw); go_simp; (try with_reducible rfl)
          (try simp only [Act.put, puA5, List.setIfInBounds_toArray, List.set_cons_zero, List.set_cons_succ])
          refine tkW (v := ?_) 6 puA6 rfl (by kernel_rfl) (by kernel_rfl) (by kernel_rfl) (fun _ _ _ h => h) (by rfl) ?_ (by assumption) ?_
          rotate_left
          · intro w hSw; (try dsimp only at hSw); go_simp; (try with_reducible rfl)
          (try simp only [Act.put, puA6, List.setIfInBounds_toArray, List.set_cons_zero, List.set_cons_succ])
          refine tkW (v := ?_) 7 puA7 rfl (by kernel_rfl) (by kernel_rfl) (by kernel_rfl) (fun _ _ _ h => h) (by rfl) ?_ (by assumption) ?_
          rotate_left
          · intro w hSw; (try dsimp only at hSw); go_simp; (try with_reducible rfl)
          (try simp only [Act.put, puA7, List.setIfInBounds_toArray, List.set_cons_zero, List.set_cons_succ])
          refine tkW (v := ?_) 8 puA8 rfl (by kernel_rfl) (by kernel_rfl) (by kernel_rfl) (fun _ _ _ h => h) (by rfl) ?_ (by assumption) ?_
          rotate_left
          · intro w hSw; (try dsimp only at hSw); go_simp; (try with_reducible rfl)
          (try simp only [Act.put, puA8, List.setIfInBounds_toArray, List.set_cons_zero, List.set_cons_succ])
          refine tkW (v := ?_) 9 puA9 rfl (by kernel_rfl) (by kernel_rfl) (by kernel_rfl) (fun _ _ _ h => h) (by rfl) ?_ (by assumption) ?_
          rotate_left
          · intro w hSw; (try dsimp only at hSw); go_simp; (try with_reducible rfl)
          (try simp only [Act.put, puA9, List.setIfInBounds_toArray, List.set_cons_zero, List.set_cons_succ])
          refine tkW (v := ?_) 10 puA10 rfl (by kernel_rfl) (by kernel_rfl) (by kernel_rfl) (fun _ _ _ h => h) (by rfl) ?_ (by assumption) ?_
          rotate_left
          · intro w hSw; (try dsimp only at hSw); go_simp; (try with_reducible rfl)
          (try simp only [Act.put, puA10, List.setIfInBounds_toArray, List.set_cons_zero, List.set_cons_succ])
          refine tkW (v := ?_) 11 puA11 rfl (by kernel_rfl) (by kernel_rfl) (by kernel_rfl) (fun _ _ _ h => h) (by rfl) ?_ (by assumption) ?_
          rotate_left
          · intro w hSw; (try dsimp only at hSw); go_simp; (try with_reducible rfl)
          (try simp only [Act.put, puA11, List.setIfInBounds_toArray, List.set_cons_zero, List.set_cons_succ])
          refine tkW (v := ?_) 12 puA12 rfl (by kernel_rfl) (by kernel_rfl) (by kernel_rfl) (fun _ _ _ h => h) (by rfl) ?_ (by assumption) ?_
          rotate_left
          · intro w hSw; (try dsimp only at hSw); go_simp; (try with_reducible rfl)
          (try simp only [Act.put, puA12, List.setIfInBounds_toArray, List.set_cons_zero, List.set_cons_succ])
          refine tkE 13 puA13 rfl (by kernel_rfl) (fun K hK => ?_)
          go_simp
          (refine (CP.out _ (own_kp OW2.out (by first | with_reducible exact (Kp.refl wj) | ((repeat (first | with_reducible refine Kp.trans ?_ (Kp.drew _) | with_reducible refine Kp.trans ?_ (Kp.alloc _ _))); with_reducible exact (Kp.refl wj)))) (J2.out.trans (by first | with_reducible exact (Kp.refl wj) | ((repeat (first | with_reducible refine Kp.trans ?_ (Kp.drew _) | with_reducible refine Kp.trans ?_ (Kp.alloc _ _))); with_reducible exact (Kp.refl wj)))).size).mono ?_; rintro e w9 ⟨v9, rfl, o9, b9⟩; have kkw9 : Kp w2 w9 := Below.trans (J2.out.trans (by first | with_reducible exact (Kp.refl wj) | ((repeat (first | with_reducible refine Kp.trans ?_ (Kp.drew _) | with_reducible refine Kp.trans ?_ (Kp.alloc _ _))); with_reducible exact (Kp.refl wj)))) b9; have O9 := Lib.hid (show w9.ownsRow w2.heap.size 37 2 v9 (US i (j + 1)).length (cellsR (US i (j + 1))) by rw [ST.out]; exact o9); clear o9 b9)
          (try go_wp2_with fail)
          refine hK.out _ _ ?_ (fun hHeld1 => ?_)
          · (try dsimp only); exact KSp.out _ (by first | with_reducible exact kkw9 | ((repeat (first | with_reducible refine Kp.trans ?_ (Kp.drew _) | with_reducible refine Kp.trans ?_ (Kp.alloc _ _))); with_reducible exact kkw9))
          clear hK K hHeld0
          (try simp only [Act.put, puA13, List.setIfInBounds_toArray, List.set_cons_zero, List.set_cons_succ])
          refine tkW (v := ?_) 14 puA14 rfl (by kernel_rfl) (by kernel_rfl) (by kernel_rfl) (fun _ _ _ h => h) (by rfl) ?_ (by assumption) ?_
          rotate_left
          · intro w hSw; (try dsimp only at hSw); go_simp; (try with_reducible rfl)
          (try simp only [Act.put, puA14, List.setIfInBounds_toArray, List.set_cons_zero, List.set_cons_succ])
          refine wpAnyH_done (by kernel_rfl) ?_ _
          have q9 := HLM.out
          go_wp2
          go_roundw
          case rel => exact ⟨j + 1, by omega, by go_num, O9, Lib.hid kkw9⟩
          case measure => simp [intOf]; omega
        · have q4 : decide ((j : Int) < (M.length : Int)) = false := decide_eq_false (by omega)
          obtain rfl : j = M.length := by omega
          have O9 := Lib.hid (show wj.ownsRow w2.heap.size 37 2 (.slice qa2 (US i M.length).length qc2) (US (i + 1) 0).length (cellsR (US (i + 1) 0)) by rw [← SRi.out]; exact OW2.out)
          have q9 := HLT.out
          go_wp2
          go_roundw
          case rel => exact ⟨i + 1, by omega, by go_num, O9, J2⟩
          case measure => simp [intOf]; omega
    · have q1 : decide ((i : Int) < (Y.length : Int)) = false := decide_eq_false (by omega)
      obtain rfl : i = Y.length := by omega
      have O9 := Lib.hid (show wi.ownsRow w.heap.size 37 2 (.slice qa (US Y.length 0).length qc) RU.length (cellsR RU) by rw [← SA.out]; exact own_mono OW.out K2.out.size)
      go_wp2
      go_ret
      exact ⟨_, rfl, O9.out, K2.out.trans J.out⟩
set_option maxHeartbeats 16000000 in
set_option maxRecDepth 100000 in
theorem runits8_3 (pk : Int) (hp : pk = 3 ∨ pk = 4 ∨ pk = 5) (y m d : ByteArray) (w : World) (hy : y.size ≤ 10) : Calls Tryz.prog 23 #[ptV ⟨pk, y, m, d⟩] w fun e w' => ∃ v', e = .returned v' ∧ w'.ownsRow w.heap.size 37 2 v' (rUn ⟨pk, y, m, d⟩).length (cellsR (rUn ⟨pk, y, m, d⟩)) ∧ Kp w w' := by
  have CY := Lib.hid (fun w1 => rnumbers_any y 0 9999 w1 (by unfold maxLen; omega) (by decide) (by decide) (by decide))
  have NY := num_len y 0 9999
  have IY := Lib.hid (fun i (h : i < (numsL y 0 9999).length) => (is_num.1 (zat_mem h)).1)
  have S0 := Lib.hid (ys_0 (numsL y 0 9999))
  have SS := Lib.hid (fun i (h : i < (numsL y 0 9999).length) => ys_step h)
  have SL := Lib.hid (ys_len (Y := numsL y 0 9999) (by omega))
  have SA := Lib.hid (ys_all ⟨pk, y, m, d⟩ (by simp only; omega) (by simp only; omega))
  simp only [ptV] at *
  generalize rUn ⟨pk, y, m, d⟩ = RU at *
  generalize ysR (numsL y 0 9999) = US at *
  generalize numsL y 0 9999 = Y at *
  have yl : Y.length ≤ 10000 := by omega
  clear NY hy
  obtain ⟨V3, hVb⟩ : ∃ x, x = w.alloc (.cells #[.int .i64 pk, .string y, .string m, .string d] 23) := ⟨_, rfl⟩
  have kab : Kp w V3 := by rw [hVb]; exact Kp.alloc _ _
  have gqb0 : V3.heap[w.heap.size]? = some (.cells #[.int .i64 pk, .string y, .string m, .string d] 23 (0, 0)) := by rw [hVb]; exact heap_at _ _ _ (by first | rfl | simp)
  have KSb := Lib.hid (fun w' (kq : Kp V3 w') => show w'.cell? ⟨w.heap.size, 0, none⟩ = some (.int .i64 pk) ∧ w'.cell? ⟨w.heap.size, 1, none⟩ = some (.string y) ∧ w'.cell? ⟨w.heap.size, 2, none⟩ = some (.string m) ∧ w'.cell? ⟨w.heap.size, 3, none⟩ = some (.string d) ∧ Kp V3 w' from ⟨(row4 (heap_block kq gqb0)).1, (row4 (heap_block kq gqb0)).2.1, (row4 (heap_block kq gqb0)).2.2.1, (row4 (heap_block kq gqb0)).2.2.2, kq⟩)
  have GQb0 := Lib.hid gqb0
  have HVb := Lib.hid hVb
  have KB := Lib.hid kab
  clear hVb kab gqb0
  have kkV3 : Kp V3 V3 := Kp.refl _
  have z0 : ¬ pk = 0 := by omega
  have z1 : ¬ pk = 1 := by omega
  have z2 : ¬ pk = 2 := by omega
  have b0 : (pk == 0) = false := by simpa using z0
  have b1 : (pk == 1) = false := by simpa using z1
  have b2 : (pk == 2) = false := by simpa using z2
  clear hp
  go_enter Tryz.func23, Tryz.ntmps23
  go_wp2_with fail
  rw [← HVb.out]
  obtain ⟨e0, e1, e2, e3, _⟩ := KSb.out V3 (Kp.refl _)
  go_wp2_with fail
  refine (CY.out _).mono ?_
  rintro e w2 ⟨v1, rfl, o1, kk1⟩
  clear e0 e1 e2 e3
  obtain ⟨e0, e1, e2, e3, _⟩ := KSb.out w2 kk1
  obtain ⟨ya, yc, rfl⟩ := own_sliceZ o1
  have K2 := Lib.hid (KB.out.trans kk1)
  have AY := Lib.hid (intsAt_ownZ o1)
  clear o1 kk1 CY KSb
  go_wp2
  go_loopw [4, 9] (fun q iv wr => ∃ i : Nat, i ≤ Y.length ∧ iv = .int .i64 i ∧ Hid (wr.ownsRow w2.heap.size 37 2 q (US i).length (cellsR (US i))) ∧ Hid (Kp w2 wr)) (fun _ iv _ => Y.length - (intOf iv).toNat)
  case atStart => exact ⟨0, Nat.zero_le _, rfl, Lib.hid (by rw [S0.out]; exact World.ownsRow_nil _ _ _ _), Lib.hid (Kp.refl _)⟩
  case round =>
    obtain ⟨i, hi, rfl, OW, J⟩ := hrel
    have ow := OW.out
    obtain ⟨qa, qc, rfl⟩ := own_slice ow
    clear ow
    obtain ⟨wi, hwi⟩ : ∃ x, x = wr := ⟨_, rfl⟩
    subst hwi
    clear e0 e1 e2 e3
    by_cases hlt : i < Y.length
    · have q1 : decide ((i : Int) < (Y.length : Int)) = true := decide_eq_true (by omega)
      have yb := IY.out i hlt
      have HLT := Lib.hid hlt
      rcases AY.out with ⟨_, _, _, e⟩ | ⟨by', oy, cy, ev, hcy, hmy, hxy⟩
      · rw [e] at hlt; simp at hlt
      have ry := hxy i hlt
      cases ev
      rw [show Y.getD i 0 = zat Y i from rfl] at ry
      have ST := Lib.hid (SS.out i hlt)
      have slk := SL.out i
      generalize zat Y i = yi at *
      have c1 := cell_up J.out ry
      have zi : (0 : Int) ≤ (i : Int) := by omega
      have zi2 : (i : Int) < (Y.length : Int) := by omega
      have CP := Lib.hid (fun w1 (ho : w1.ownsRow w2.heap.size 37 2 (.slice qa (US i).length qc) (US i).length (cellsR (US i))) (hb : w2.heap.size ≤ w1.heap.size) => rput8_any w2.heap.size _ (US i) yi w1 hb ho (by omega) (by omega) (by omega))
      clear hxy hcy hmy ry
      go_wp2_with fail
      refine (CP.out _ OW.out J.out.size).mono ?_
      rintro e w9 ⟨v9, rfl, o9, b9⟩
      have O9 := Lib.hid (show w9.ownsRow w2.heap.size 37 2 v9 (US (i + 1)).length (cellsR (US (i + 1))) by rw [ST.out]; exact o9)
      have J9 := Lib.hid (show Kp w2 w9 from Below.trans J.out b9)
      clear o9 b9 c1
      go_wp2
      go_roundw
      case rel => exact ⟨i + 1, by have := HLT.out; omega, by go_num, O9, J9⟩
      case measure => have := HLT.out; simp [intOf]; omega
    · have q1 : decide ((i : Int) < (Y.length : Int)) = false := decide_eq_false (by omega)
      obtain rfl : i = Y.length := by omega
      have O9 := Lib.hid (show wi.ownsRow w.heap.size 37 2 (.slice qa (US Y.length).length qc) RU.length (cellsR RU) by rw [← SA.out]; exact own_mono OW.out K2.out.size)
      go_wp2
      go_ret
      exact ⟨_, rfl, O9.out, K2.out.trans J.out⟩
set_option maxHeartbeats 16000000 in
set_option maxRecDepth 100000 in
theorem runits8_0 (y m d : ByteArray) (w : World) (hy : y.size ≤ 10) (hm : m.size ≤ 10) (hd : d.size ≤ 10) : Calls Tryz.prog 23 #[ptV ⟨0, y, m, d⟩] w fun e w' => ∃ v' L, e = .returned v' ∧ w'.ownsRow w.heap.size 37 2 v' L.length (cellsR L) ∧ (∃ i, L = dyP ⟨0, y, m, d⟩ i) ∧ (L.length ≤ 800 ∧ (L = dyT ⟨0, y, m, d⟩ ∨ (400 < L.length ∧ 400 < (dyT ⟨0, y, m, d⟩).length))) ∧ Kp w w' := by
  have CY := Lib.hid (fun w1 => rnumbers_any y 0 9999 w1 (by unfold maxLen; omega) (by decide) (by decide) (by decide))
  have CD := Lib.hid (fun w1 => rdays8_any ⟨0, y, m, d⟩ w1 hy hm hd)
  simp only [ptV] at *
  generalize dyT ⟨0, y, m, d⟩ = TT at *
  generalize dyP ⟨0, y, m, d⟩ = PP at *
  clear hy hm hd
  obtain ⟨V3, hVb⟩ : ∃ x, x = w.alloc (.cells #[.int .i64 0, .string y, .string m, .string d] 23) := ⟨_, rfl⟩
  have kab : Kp w V3 := by rw [hVb]; exact Kp.alloc _ _
  have gqb0 : V3.heap[w.heap.size]? = some (.cells #[.int .i64 0, .string y, .string m, .string d] 23 (0, 0)) := by rw [hVb]; exact heap_at _ _ _ (by first | rfl | simp)
  have KSb := Lib.hid (fun w' (kq : Kp V3 w') => show w'.cell? ⟨w.heap.size, 0, none⟩ = some (.int .i64 0) ∧ w'.cell? ⟨w.heap.size, 1, none⟩ = some (.string y) ∧ w'.cell? ⟨w.heap.size, 2, none⟩ = some (.string m) ∧ w'.cell? ⟨w.heap.size, 3, none⟩ = some (.string d) ∧ Kp V3 w' from ⟨(row4 (heap_block kq gqb0)).1, (row4 (heap_block kq gqb0)).2.1, (row4 (heap_block kq gqb0)).2.2.1, (row4 (heap_block kq gqb0)).2.2.2, kq⟩)
  have GQb0 := Lib.hid gqb0
  have HVb := Lib.hid hVb
  have KB := Lib.hid kab
  clear hVb kab gqb0
  have kkV3 : Kp V3 V3 := Kp.refl _
  go_enter Tryz.func23, Tryz.ntmps23
  go_wp2_with fail
  rw [← HVb.out]
  obtain ⟨e0, e1, e2, e3, _⟩ := KSb.out V3 (Kp.refl _)
  go_wp2_with fail
  refine (CY.out _).mono ?_
  rintro e w1 ⟨v1, rfl, o1, kk1⟩
  clear e0 e1 e2 e3 o1
  obtain ⟨e0, e1, e2, e3, _⟩ := KSb.out w1 kk1
  have K1 := Lib.hid (KB.out.trans kk1)
  clear kk1
  go_wp2_with fail
  refine (CD.out _).mono ?_
  rintro e w2 ⟨v2, L, rfl, o2, l1, l2, kk2⟩
  have K2 := Lib.hid (K1.out.trans kk2)
  have O2 := Lib.hid (own_mono o2 K1.out.size)
  have L1 := Lib.hid l1
  have L2 := Lib.hid l2
  clear o2 l1 l2 kk2 e0 e1 e2 e3
  go_wp2
  go_ret
  exact ⟨_, _, rfl, O2.out, L1.out, L2.out, K2.out⟩
end Go.Proofs.YtinpglfclbnhlaaGreatDoor
