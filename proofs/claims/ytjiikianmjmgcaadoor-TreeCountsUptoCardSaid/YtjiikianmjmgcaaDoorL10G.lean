/-
  Layer 10: TreeCounts.
-/
import Derived.Test.YtjiikianmjmgcaaDoorGTrB
import Derived.Test.YtjiikianmjmgcaaDoorNrow
import Derived.Test.YtjiikianmjmgcaaDoorGLeafA
namespace Go.Proofs.YtjiikianmjmgcaaDoor
open Go.RowKit
set_option linter.unusedVariables false
set_option linter.unusedSimpArgs false
theorem setIB7 (c0 c1 c2 c3 c4 c5 c6 c7 x : Value) : (#[c0, c1, c2, c3, c4, c5, c6, c7] : Array Value).setIfInBounds 7 x = #[c0, c1, c2, c3, c4, c5, c6, x] := rfl
theorem few_120 {n : ND} (h : fewN n = true) : cntN n ≤ 120 := by
  unfold fewN at h
  simp only [Bool.and_eq_true, decide_eq_true_eq] at h
  exact h.1
abbrev sC0 : Oper := { dst := some 60, op := Go.Op.move (Go.Operand.tmp 5), type := 4, pos := "law.go:67", after := #[], guard := none }
abbrev sC1 : Oper := { dst := some 61, op := Go.Op.move (Go.Operand.tmp 60), type := 4, pos := "law.go:67", after := #[{ on := 0, ground := Go.Ground.data }], guard := none }
abbrev sC2 : Oper := { dst := some 62, op := Go.Op.load 46 (Go.Operand.tmp 2), type := 46, pos := "law.go:67", after := #[{ on := 1, ground := Go.Ground.guard }], guard := some (1, true) }
abbrev sC3 : Oper := { dst := some 63, op := Go.Op.call { callee := Go.Callee.value (Go.Operand.func 29), args := #[Go.Operand.tmp 62], argTypes := #[46] }, type := 3, pos := "law.go:67", after := #[{ on := 2, ground := Go.Ground.data }, { on := 1, ground := Go.Ground.chain }, { on := 1, ground := Go.Ground.guard }], guard := some (1, true) }
abbrev sC4 : Oper := { dst := some 64, op := Go.Op.move (Go.Operand.tmp 6), type := 3, pos := "law.go:67", after := #[{ on := 1, ground := Go.Ground.guard }], guard := some (1, true) }
abbrev sC5 : Oper := { dst := some 65, op := Go.Op.binOp Go.BinOp.eql 3 (Go.Operand.tmp 63) (Go.Operand.tmp 64) 3, type := 4, pos := "law.go:67", after := #[{ on := 3, ground := Go.Ground.data }, { on := 4, ground := Go.Ground.data }, { on := 1, ground := Go.Ground.guard }], guard := some (1, true) }
abbrev sC6 : Oper := { dst := some 66, op := Go.Op.pick (Go.Operand.tmp 61) (Go.Operand.tmp 65) (Go.Operand.const (Go.Value.bool false)), type := 4, pos := "law.go:67", after := #[{ on := 1, ground := Go.Ground.data }, { on := 5, ground := Go.Ground.data }], guard := none }
abbrev sC7 : Oper := { dst := some 67, op := Go.Op.move (Go.Operand.tmp 66), type := 4, pos := "law.go:67", after := #[{ on := 6, ground := Go.Ground.data }, { on := 3, ground := Go.Ground.chain }], guard := none }
abbrev sC8 : Oper := { dst := some 68, op := Go.Op.load 46 (Go.Operand.tmp 2), type := 46, pos := "law.go:67", after := #[{ on := 7, ground := Go.Ground.guard }], guard := some (7, true) }
abbrev sC9 : Oper := { dst := some 69, op := Go.Op.call { callee := Go.Callee.value (Go.Operand.func 31), args := #[Go.Operand.tmp 68], argTypes := #[46] }, type := 3, pos := "law.go:67", after := #[{ on := 8, ground := Go.Ground.data }, { on := 7, ground := Go.Ground.chain }, { on := 7, ground := Go.Ground.guard }], guard := some (7, true) }
abbrev sC10 : Oper := { dst := some 70, op := Go.Op.move (Go.Operand.tmp 7), type := 3, pos := "law.go:67", after := #[{ on := 7, ground := Go.Ground.guard }], guard := some (7, true) }
abbrev sC11 : Oper := { dst := some 71, op := Go.Op.binOp Go.BinOp.eql 3 (Go.Operand.tmp 69) (Go.Operand.tmp 70) 3, type := 4, pos := "law.go:67", after := #[{ on := 9, ground := Go.Ground.data }, { on := 10, ground := Go.Ground.data }, { on := 7, ground := Go.Ground.guard }], guard := some (7, true) }
abbrev sC12 : Oper := { dst := some 72, op := Go.Op.pick (Go.Operand.tmp 67) (Go.Operand.tmp 71) (Go.Operand.const (Go.Value.bool false)), type := 4, pos := "law.go:67", after := #[{ on := 7, ground := Go.Ground.data }, { on := 11, ground := Go.Ground.data }], guard := none }
abbrev sC13 : Oper := { dst := some 73, op := Go.Op.move (Go.Operand.tmp 72), type := 4, pos := "law.go:67", after := #[{ on := 12, ground := Go.Ground.data }, { on := 9, ground := Go.Ground.chain }], guard := none }
abbrev sC14 : Oper := { dst := some 74, op := Go.Op.load 46 (Go.Operand.tmp 9), type := 46, pos := "law.go:67", after := #[{ on := 13, ground := Go.Ground.guard }], guard := some (13, true) }
abbrev sC15 : Oper := { dst := some 75, op := Go.Op.call { callee := Go.Callee.value (Go.Operand.func 29), args := #[Go.Operand.tmp 74], argTypes := #[46] }, type := 3, pos := "law.go:67", after := #[{ on := 14, ground := Go.Ground.data }, { on := 13, ground := Go.Ground.chain }, { on := 13, ground := Go.Ground.guard }], guard := some (13, true) }
abbrev sC16 : Oper := { dst := some 76, op := Go.Op.move (Go.Operand.tmp 6), type := 3, pos := "law.go:67", after := #[{ on := 13, ground := Go.Ground.guard }], guard := some (13, true) }
abbrev sC17 : Oper := { dst := some 77, op := Go.Op.load 46 (Go.Operand.tmp 3), type := 46, pos := "law.go:67", after := #[{ on := 13, ground := Go.Ground.guard }], guard := some (13, true) }
abbrev sC18 : Oper := { dst := some 78, op := Go.Op.call { callee := Go.Callee.value (Go.Operand.func 29), args := #[Go.Operand.tmp 77], argTypes := #[46] }, type := 3, pos := "law.go:67", after := #[{ on := 17, ground := Go.Ground.data }, { on := 15, ground := Go.Ground.chain }, { on := 13, ground := Go.Ground.guard }], guard := some (13, true) }
abbrev sC19 : Oper := { dst := some 79, op := Go.Op.binOp Go.BinOp.add 3 (Go.Operand.tmp 76) (Go.Operand.tmp 78) 3, type := 3, pos := "law.go:67", after := #[{ on := 16, ground := Go.Ground.data }, { on := 18, ground := Go.Ground.data }, { on := 13, ground := Go.Ground.guard }], guard := some (13, true) }
abbrev sC20 : Oper := { dst := some 80, op := Go.Op.binOp Go.BinOp.eql 3 (Go.Operand.tmp 75) (Go.Operand.tmp 79) 3, type := 4, pos := "law.go:67", after := #[{ on := 15, ground := Go.Ground.data }, { on := 19, ground := Go.Ground.data }, { on := 13, ground := Go.Ground.guard }], guard := some (13, true) }
abbrev sC21 : Oper := { dst := some 81, op := Go.Op.pick (Go.Operand.tmp 73) (Go.Operand.tmp 80) (Go.Operand.const (Go.Value.bool false)), type := 4, pos := "law.go:67", after := #[{ on := 13, ground := Go.Ground.data }, { on := 20, ground := Go.Ground.data }], guard := none }
abbrev sC22 : Oper := { dst := some 82, op := Go.Op.move (Go.Operand.tmp 81), type := 4, pos := "law.go:67", after := #[{ on := 21, ground := Go.Ground.data }, { on := 18, ground := Go.Ground.chain }], guard := none }
abbrev sC23 : Oper := { dst := some 83, op := Go.Op.load 46 (Go.Operand.tmp 9), type := 46, pos := "law.go:67", after := #[{ on := 22, ground := Go.Ground.guard }], guard := some (22, true) }
abbrev sC24 : Oper := { dst := some 84, op := Go.Op.load 46 (Go.Operand.tmp 2), type := 46, pos := "law.go:67", after := #[{ on := 22, ground := Go.Ground.guard }], guard := some (22, true) }
abbrev sC25 : Oper := { dst := some 85, op := Go.Op.call { callee := Go.Callee.value (Go.Operand.func 33), args := #[Go.Operand.tmp 83, Go.Operand.tmp 84], argTypes := #[46, 46] }, type := 4, pos := "law.go:67", after := #[{ on := 23, ground := Go.Ground.data }, { on := 24, ground := Go.Ground.data }, { on := 22, ground := Go.Ground.chain }, { on := 22, ground := Go.Ground.guard }], guard := some (22, true) }
abbrev sC26 : Oper := { dst := some 86, op := Go.Op.unOp Go.UnOp.not 4 (Go.Operand.tmp 85), type := 4, pos := "law.go:67", after := #[{ on := 25, ground := Go.Ground.data }, { on := 22, ground := Go.Ground.guard }], guard := some (22, true) }
abbrev sC27 : Oper := { dst := some 87, op := Go.Op.pick (Go.Operand.tmp 82) (Go.Operand.tmp 86) (Go.Operand.const (Go.Value.bool false)), type := 4, pos := "law.go:67", after := #[{ on := 22, ground := Go.Ground.data }, { on := 26, ground := Go.Ground.data }], guard := none }
abbrev sC28 : Oper := { dst := some 88, op := Go.Op.move (Go.Operand.tmp 87), type := 4, pos := "law.go:67", after := #[{ on := 27, ground := Go.Ground.data }, { on := 25, ground := Go.Ground.chain }], guard := none }
abbrev sC29 : Oper := { dst := some 89, op := Go.Op.load 46 (Go.Operand.tmp 9), type := 46, pos := "law.go:67", after := #[{ on := 28, ground := Go.Ground.guard }], guard := some (28, true) }
abbrev sC30 : Oper := { dst := some 90, op := Go.Op.call { callee := Go.Callee.value (Go.Operand.func 31), args := #[Go.Operand.tmp 89], argTypes := #[46] }, type := 3, pos := "law.go:67", after := #[{ on := 29, ground := Go.Ground.data }, { on := 28, ground := Go.Ground.chain }, { on := 28, ground := Go.Ground.guard }], guard := some (28, true) }
abbrev sC31 : Oper := { dst := some 91, op := Go.Op.move (Go.Operand.tmp 7), type := 3, pos := "law.go:67", after := #[{ on := 28, ground := Go.Ground.guard }], guard := some (28, true) }
abbrev sC32 : Oper := { dst := some 92, op := Go.Op.binOp Go.BinOp.geq 3 (Go.Operand.tmp 90) (Go.Operand.tmp 91) 3, type := 4, pos := "law.go:67", after := #[{ on := 30, ground := Go.Ground.data }, { on := 31, ground := Go.Ground.data }, { on := 28, ground := Go.Ground.guard }], guard := some (28, true) }
abbrev sC33 : Oper := { dst := some 93, op := Go.Op.pick (Go.Operand.tmp 88) (Go.Operand.tmp 92) (Go.Operand.const (Go.Value.bool false)), type := 4, pos := "law.go:67", after := #[{ on := 28, ground := Go.Ground.data }, { on := 32, ground := Go.Ground.data }], guard := none }
abbrev sC34 : Oper := { dst := some 4, op := Go.Op.assign (Go.Operand.tmp 93), type := 4, pos := "law.go:67", after := #[{ on := 33, ground := Go.Ground.data }, { on := 30, ground := Go.Ground.chain }, { on := 0, ground := Go.Ground.phase }, { on := 1, ground := Go.Ground.phase }, { on := 2, ground := Go.Ground.phase }, { on := 3, ground := Go.Ground.phase }, { on := 4, ground := Go.Ground.phase }, { on := 5, ground := Go.Ground.phase }, { on := 6, ground := Go.Ground.phase }, { on := 7, ground := Go.Ground.phase }, { on := 8, ground := Go.Ground.phase }, { on := 9, ground := Go.Ground.phase }, { on := 10, ground := Go.Ground.phase }, { on := 11, ground := Go.Ground.phase }, { on := 12, ground := Go.Ground.phase }, { on := 13, ground := Go.Ground.phase }, { on := 14, ground := Go.Ground.phase }, { on := 15, ground := Go.Ground.phase }, { on := 16, ground := Go.Ground.phase }, { on := 17, ground := Go.Ground.phase }, { on := 18, ground := Go.Ground.phase }, { on := 19, ground := Go.Ground.phase }, { on := 20, ground := Go.Ground.phase }, { on := 21, ground := Go.Ground.phase }, { on := 22, ground := Go.Ground.phase }, { on := 23, ground := Go.Ground.phase }, { on := 24, ground := Go.Ground.phase }, { on := 25, ground := Go.Ground.phase }, { on := 26, ground := Go.Ground.phase }, { on := 27, ground := Go.Ground.phase }, { on := 28, ground := Go.Ground.phase }, { on := 29, ground := Go.Ground.phase }, { on := 30, ground := Go.Ground.phase }, { on := 31, ground := Go.Ground.phase }, { on := 32, ground := Go.Ground.phase }, { on := 33, ground := Go.Ground.phase }], guard := none }
set_option maxHeartbeats 16000000 in
set_option maxRecDepth 100000 in
theorem treeCounts_yes (k pk : Int) (y m q : ByteArray) (a t : Bool) (l : List ND) (ad : Option Addr) (cp : Nat) (k' pk' : Int) (y' m' q' : ByteArray) (a' t' : Bool) (l' : List ND) (ad' : Option Addr) (cp' : Nat) (w : World) (hu : NodesAt w (.slice ad l.length cp) l) (hv : NodesAt w (.slice ad' l'.length cp') l') (bn : cntL l ≤ 2000000) (bm : cntL l' ≤ 2000000) (gk : -9223372036854775808 ≤ k ∧ k ≤ 9223372036854775807) (T : TabSH w) (hf : fewN (.mk k ⟨pk, y, m, q⟩ a t l : ND) = true) (hg : fewN (.mk k' ⟨pk', y', m', q'⟩ a' t' l' : ND) = true) : Calls Tryd.prog 7 #[.agg #[.int .i64 k, .int .i64 pk, .string y, .string m, .string q, .bool a, .bool t, .slice ad l.length cp], .agg #[.int .i64 k', .int .i64 pk', .string y', .string m', .string q', .bool a', .bool t', .slice ad' l'.length cp']] w fun e w' => e = .returned (.bool true) ∧ Kp w w' := by
  have AW := Lib.hid (fun w1 (qq : Kp w w1) => awake10 w1 (T.kp qq))
  have F1 : ∀ w1, Kp w w1 → Calls Tryd.prog 24 #[.agg #[.int .i64 k, .int .i64 pk, .string y, .string m, .string q, .bool a, .bool t, .slice ad l.length cp]] w1 fun e w' => e = .returned (.bool (fewN (.mk k ⟨pk, y, m, q⟩ a t l : ND))) ∧ Kp w1 w' := fun w1 qq => rfewN_any (.mk k ⟨pk, y, m, q⟩ a t l : ND) (.slice ad l.length cp) w1 (hu.kp qq) bn
  have F2 : ∀ w1, Kp w w1 → Calls Tryd.prog 24 #[.agg #[.int .i64 k', .int .i64 pk', .string y', .string m', .string q', .bool a', .bool t', .slice ad' l'.length cp']] w1 fun e w' => e = .returned (.bool (fewN (.mk k' ⟨pk', y', m', q'⟩ a' t' l' : ND))) ∧ Kp w1 w' := fun w1 qq => rfewN_any (.mk k' ⟨pk', y', m', q'⟩ a' t' l' : ND) (.slice ad' l'.length cp') w1 (hv.kp qq) bm
  rw [hf] at F1
  rw [hg] at F2
  have F1H := Lib.hid F1
  have F2H := Lib.hid F2
  have HF := Lib.hid hf
  have HG := Lib.hid hg
  have CN := Lib.hid (few_cnt hf)
  have CM := Lib.hid (few_cnt hg)
  have HU := Lib.hid hu
  have HV := Lib.hid hv
  clear F1 F2 hu hv T hf hg bn bm
  go_enter Tryd.func7, Tryd.ntmps7
  go_wp2_with fail
  refine (AW.out _ ((Kp.alloc _ _).trans (Kp.alloc _ _))).mono ?_
  rintro e w1 ⟨rfl, kk⟩
  have gA := heap_block ((Kp.alloc _ _).trans kk) (heap_at w (.cells #[.int .i64 k, .int .i64 pk, .string y, .string m, .string q, .bool a, .bool t, .slice ad l.length cp] 46) w.heap.size rfl)
  have gB := heap_block kk (heap_at (w.alloc (.cells #[.int .i64 k, .int .i64 pk, .string y, .string m, .string q, .bool a, .bool t, .slice ad l.length cp] 46)) (.cells #[.int .i64 k', .int .i64 pk', .string y', .string m', .string q', .bool a', .bool t', .slice ad' l'.length cp'] 46) (w.heap.size + 1) (by simp))
  have K1 := Lib.hid (((Kp.alloc _ _).trans (Kp.alloc _ _)).trans kk)
  have GA := Lib.hid gA
  have GB := Lib.hid gB
  clear kk gA gB
  obtain ⟨x0, x1, x2, x3, x4, x5, x6, x7⟩ := row8 GA.out
  go_wp2_with fail
  refine (F1H.out _ K1.out).mono ?_
  rintro e w2 ⟨rfl, kk⟩
  have K2 := Lib.hid (K1.out.trans kk)
  have GA2 := Lib.hid (heap_block kk GA.out)
  have GB2 := Lib.hid (heap_block kk GB.out)
  clear kk x0 x1 x2 x3 x4 x5 x6 x7 GA GB
  obtain ⟨x0, x1, x2, x3, x4, x5, x6, x7⟩ := row8 GB2.out
  go_wp2_with fail
  refine (F2H.out _ K2.out).mono ?_
  rintro e w3 ⟨rfl, kk⟩
  have K3 := Lib.hid (K2.out.trans kk)
  have GA := Lib.hid (heap_block kk GA2.out)
  have GB := Lib.hid (heap_block kk GB2.out)
  clear kk x0 x1 x2 x3 x4 x5 x6 x7 GA2 GB2
  have ll : l.length ≤ 1000 := by have := len_cntL l; have e : cntN (.mk k ⟨pk, y, m, q⟩ a t l : ND) = cntL l + 1 := rfl; have := CN.out; omega
  obtain ⟨x0, x1, x2, x3, x4, x5, x6, x7⟩ := row8 GA.out
  go_wp2
  go_loopw [6, 7, 8] (fun c d i ws => ∃ j : Nat, j ≤ l.length ∧ i = .int .i64 j ∧ c = .int .i64 (1 + (cntL (l.take j) : Int)) ∧ d = .int .i64 (depL (l.take j) : Int) ∧ Hid (Kp w3 ws)) (fun _ _ i _ => l.length - (intOf i).toNat)
  case atStart => exact ⟨0, Nat.zero_le _, rfl, by simp [cntL], by simp [depL], Lib.hid (Kp.refl _)⟩
  case round =>
    obtain ⟨j, hj, rfl, rfl, rfl, KL⟩ := hrel
    clear x0 x1 x2 x3 x4 x5 x6 x7
    by_cases hlt : j < l.length
    · obtain ⟨bk, of, vi, rfl, hrow, hsub⟩ := HU.out.get hlt
      have kw0 : Kp w wr := K3.out.trans KL.out
      obtain ⟨e0, e1, e2, e3, e4, e5, e6, e7⟩ := hrow.kp kw0
      have ca := cnt_at hlt
      have ct := cntL_take hlt
      have dt := depL_take hlt
      have cn1 : cntL l ≤ 999 := by have e : cntN (.mk k ⟨pk, y, m, q⟩ a t l : ND) = cntL l + 1 := rfl; have := CN.out; omega
      have dc := dep_cntL (l.take j)
      obtain ⟨x, hx⟩ : ∃ x, nth l j = x := ⟨_, rfl⟩
      rw [hx] at e0 e1 e2 e3 e4 e5 e6 ca ct dt hsub
      have dx := dep_cnt x
      clear hx hrow
      have IHc := fun w' (qq : Kp wr w') => tCount_any x vi w' (hsub.kp (kw0.trans qq)) (by omega)
      have IHd := fun w' (qq : Kp wr w') => tDeep_any x vi w' (hsub.kp (kw0.trans qq)) (by omega)
      have CT := Lib.hid ct
      have DT := Lib.hid dt
      obtain ⟨cx, hcx⟩ : ∃ z, cntN x = z := ⟨_, rfl⟩
      obtain ⟨dx', hdx⟩ : ∃ z, depN x = z := ⟨_, rfl⟩
      obtain ⟨cj, hcj⟩ : ∃ z, cntL (l.take j) = z := ⟨_, rfl⟩
      obtain ⟨dj, hdj⟩ : ∃ z, depL (l.take j) = z := ⟨_, rfl⟩
      obtain ⟨cl, hcl⟩ : ∃ z, cntL l = z := ⟨_, rfl⟩
      rw [hcx, hcj] at ct
      have CX := Lib.hid hcx
      have DX := Lib.hid hdx
      have CJ := Lib.hid hcj
      have DJ := Lib.hid hdj
      rw [hcx] at IHc ca dx
      rw [hdx] at IHd dx
      rw [hcl] at ca cn1
      rw [hcj, hdj] at dc
      have cjl : cj ≤ cl := by rw [← hcj, ← hcl]; exact cntL_le j
      rw [hcj, hdj]
      clear hcx hdx hcj hdj hcl ct dt
      obtain ⟨k1, ⟨pk1, yk1, mk1, qk1⟩, ak1, tk1, lk1⟩ := x
      simp only [ND.k, ND.p, ND.a, ND.t, ND.l] at e0 e1 e2 e3 e4 e5 e6 hsub
      obtain ⟨adk1, cpk1, rfl⟩ := hsub.slice
      (try unfold ndV at IHc)
      (try unfold ndV at IHd)
      simp only [ND.k, ND.p, ND.a, ND.t, ND.l] at IHc IHd
      have IC := Lib.hid IHc
      have ID := Lib.hid IHd
      have z1 : (j : Int) < (l.length : Int) := by omega
      have z3 : (0 : Int) ≤ (j : Int) := by omega
      have HLT := Lib.hid hlt
      have x7 := (row8 (heap_block KL.out GA.out)).2.2.2.2.2.2.2
      clear kw0 hsub IHc IHd
      go_wp2_with fail
      refine (IC.out _ (Kp.refl _)).mono ?_
      rintro e w5 ⟨rfl, kk⟩
      have f0 := cell_up kk e0
      have f1 := cell_up kk e1
      have f2 := cell_up kk e2
      have f3 := cell_up kk e3
      have f4 := cell_up kk e4
      have f5 := cell_up kk e5
      have f6 := cell_up kk e6
      have f7 := cell_up kk e7
      have x7' := cell_up kk x7
      clear e0 e1 e2 e3 e4 e5 e6 e7 x7
      have KC := Lib.hid kk
      clear kk
      go_wp2_with fail
      refine (ID.out _ KC.out).mono ?_
      rintro e w6 ⟨rfl, kk⟩
      have KL5 := Lib.hid (KL.out.trans (KC.out.trans kk))
      clear f0 f1 f2 f3 f4 f5 f6 f7 x7' kk
      go_wp2
      go_roundw
      case rel => exact ⟨j + 1, HLT.out, by go_num, by rw [CT.out, CX.out, CJ.out]; first | go_num | (congr 1; omega), by rw [DT.out, DX.out, DJ.out]; first | go_num | (congr 1; omega), KL5⟩
      case measure => have := HLT.out; simp [intOf]; omega
    · obtain rfl : j = l.length := by omega
      rw [List.take_length]
      by_cases hk : k = 2
      · have hk2 : (k == 2) = true := by rw [hk]; rfl
        have HK := Lib.hid hk
        clear hk
        obtain ⟨c0, hc0⟩ : ∃ z : Int, 1 + (cntL l : Int) = z := ⟨_, rfl⟩
        obtain ⟨dl, hdl⟩ : ∃ z : Int, (depL l : Int) = z := ⟨_, rfl⟩
        have cn1 : cntL l ≤ 999 := by have e : cntN (.mk k ⟨pk, y, m, q⟩ a t l : ND) = cntL l + 1 := rfl; have := CN.out; omega
        have dc1 := dep_cntL l
        have c09 : 1 ≤ c0 ∧ c0 ≤ 1000 := by omega
        have d09 : 0 ≤ dl ∧ dl ≤ 1000 := by omega
        have HC0 := Lib.hid hc0
        have HDL := Lib.hid hdl
        rw [hc0, hdl]
        clear hc0 hdl cn1 dc1
        obtain ⟨i0, hi, hz0, hz1, hz2⟩ := info_parts infoNode
        have gA := heap_block KL.out GA.out
        have gB := heap_block KL.out GB.out
        have z9 : w.heap.size + 1 < w3.heap.size := (Array.getElem?_eq_some_iff.1 GB.out).1
        have y9 := KL.out.size
        have n0 : ¬ w.heap.size = wr.heap.size := by omega
        have n1 : ¬ w.heap.size + 1 = wr.heap.size := by omega
        have n2 : ¬ w.heap.size + 1 = wr.heap.size + 1 := by omega
        have n3 : ¬ w.heap.size = wr.heap.size + 1 := by omega
        have l0 : w.heap.size < wr.heap.size := by omega
        have l1 : w.heap.size + 1 < wr.heap.size := by omega
        have l2 : w.heap.size < wr.heap.size + 1 := by omega
        have ke1 := Kp.alloc wr (.cells #[.int .i64 k, .int .i64 pk, .string y, .string m, .string q, .bool a, .bool t, .slice ad l.length cp] 46)
        have ke2 := Kp.alloc (wr.alloc (.cells #[.int .i64 k, .int .i64 pk, .string y, .string m, .string q, .bool a, .bool t, .slice ad l.length cp] 46)) (.cells #[] 46)
        have gX := heap_block ke2 (heap_at wr (.cells #[.int .i64 k, .int .i64 pk, .string y, .string m, .string q, .bool a, .bool t, .slice ad l.length cp] 46) wr.heap.size rfl)
        have own0 : ((wr.alloc (.cells #[.int .i64 k, .int .i64 pk, .string y, .string m, .string q, .bool a, .bool t, .slice ad l.length cp] 46)).alloc (.cells #[] 46)).ownsRow (wr.heap.size + 1) 46 8 (.slice (some ⟨wr.heap.size + 1, 0, none⟩) 0 0) 0 (cellsN []) :=
          ⟨rfl, .inr ⟨wr.heap.size + 1, 0, #[], rfl, Nat.le_refl _, heap_at _ _ _ (by simp), Nat.le_refl _, by decide, rfl, rfl⟩⟩
        obtain ⟨ml, hml, rml, sml0⟩ := (HU.out.kp (K3.out.trans KL.out)).src
        have sml := sml0 _ (ke1.trans ke2)
        have hl1 : (cellsN ml).length = l.length * 8 := by rw [cellsN_length, ← hml, List.length_map]
        have one1 := cellsN_one rml
        have H1 := Lib.hid hl1
        have HML := Lib.hid hml
        have RML := Lib.hid rml
        have SML := Lib.hid sml
        have ONE1 := Lib.hid one1
        have OWN0 := Lib.hid own0
        have GX := Lib.hid gX
        have KE1 := Lib.hid ke1
        have KE2 := Lib.hid ke2
        have rm : ReadsN wr [(((.mk k' ⟨pk', y', m', q'⟩ a' t' l' : ND)), .slice ad' l'.length cp')] := fun p hp => by rw [List.mem_singleton.1 hp]; exact HV.out.kp (K3.out.trans KL.out)
        have RM := Lib.hid rm
        have ONE2 := Lib.hid (cellsN_one rm)
        have SRC2 := Lib.hid (fun (w9 : World) (b : Nat) (hb : w9.heap.size = b) => show SrcAt (w9.alloc (.cells #[.int .i64 k', .int .i64 pk', .string y', .string m', .string q', .bool a', .bool t', .slice ad' l'.length cp'] 46)) (.slice (some ⟨b, 0, none⟩) 1 1) 1 (cellsN [((.mk k' ⟨pk', y', m', q'⟩ a' t' l' : ND), .slice ad' l'.length cp')]) from one_srcN hb (.mk k' ⟨pk', y', m', q'⟩ a' t' l' : ND) (.slice ad' l'.length cp') 46)
        clear hl1 hml rml sml sml0 one1 own0 gX ke1 ke2 rm
        have zX : (wr.alloc (.cells #[.int .i64 k, .int .i64 pk, .string y, .string m, .string q, .bool a, .bool t, .slice ad l.length cp] 46)).heap.size = wr.heap.size + 1 := by simp
        have zX2 : ((wr.alloc (.cells #[.int .i64 k, .int .i64 pk, .string y, .string m, .string q, .bool a, .bool t, .slice ad l.length cp] 46)).alloc (.cells #[] 46)).heap.size = wr.heap.size + 1 + 1 := by simp
        obtain ⟨g0, g1, g2, g3, g4, g5, g6, g7⟩ := row8 gA
        obtain ⟨h0, h1, h2, h3, h4, h5, h6, h7⟩ := row8 gB
        have GA7 := Lib.hid gA
        have GB7 := Lib.hid gB
        clear gA gB z9 y9
        go_wp2_with (first
          | (at_builtin; refine wpList_app rfl (.tmp 49) (.tmp 51) 44 rfl (wr.heap.size + 1) 46 i0 (.agg #[.int .i64 0, .int .i64 0, .string ⟨#[]⟩, .string ⟨#[]⟩, .string ⟨#[]⟩, .bool false, .bool false, .slice none 0 0]) 8 96 Tryd.underlying44 hi hz0 hz1 hz2 rfl (by decide) _ _ _ rfl OWN0.out _ _ _ rfl SML.out H1.out ONE1.out (by unfold maxLen; omega) (by omega) (by simp) ?_;
             intro v1 w4 own1 hgrow1 hat1;
             rw [Nat.zero_add, show cellsN [] ++ cellsN ml = cellsN ml from rfl] at own1;
             obtain ⟨ad1, cp1, rfl⟩ := own_slice8 own1;
             have K4 := Lib.hid (KE2.out.grown hgrow1 (fun j hj => by have := (OWN0.out.lt j hj).1; omega));
             have gX4 := heap_block K4.out (heap_at wr (.cells #[.int .i64 k, .int .i64 pk, .string y, .string m, .string q, .bool a, .bool t, .slice ad l.length cp] 46) wr.heap.size rfl);
             have h4s := K4.out.size;
             have GX5 := Lib.hid (ps_heap gX4 7 (.slice ad1 l.length cp1));
             have K5 := Lib.hid (kp_setCell (KE1.out.trans K4.out) (Nat.le_refl _) 7 (.slice ad1 l.length cp1));
             have O5 := Lib.hid ((own_setCell own1 (Nat.lt_succ_self _) 7 (.slice ad1 l.length cp1)).alloc (.cells #[.int .i64 k', .int .i64 pk', .string y', .string m', .string q', .bool a', .bool t', .slice ad' l'.length cp'] 46));
             have c7 : w4.cell? ⟨wr.heap.size, 7, none⟩ = some (.slice ad l.length cp) := by simp [World.cell?, gX4];
             have f7 : w4.frozen? ⟨wr.heap.size, 7, none⟩ = false := by simp [World.frozen?, gX4];
             have lt4 : wr.heap.size < w4.heap.size := by omega;
             have j0 := cell_up K5.out h0; have j1 := cell_up K5.out h1; have j2 := cell_up K5.out h2; have j3 := cell_up K5.out h3; have j4 := cell_up K5.out h4; have j5 := cell_up K5.out h5; have j6 := cell_up K5.out h6; have j7 := cell_up K5.out h7;
             have K6 := Lib.hid (K5.out.trans (Kp.alloc _ (.cells #[.int .i64 k', .int .i64 pk', .string y', .string m', .string q', .bool a', .bool t', .slice ad' l'.length cp'] 46)));
             have sz5 : (w4.setCell ⟨wr.heap.size, 7, none⟩ (.slice ad1 l.length cp1)).heap.size = w4.heap.size := by unfold World.setCell; simp;
             have b5 : wr.heap.size + 1 ≤ ((w4.setCell ⟨wr.heap.size, 7, none⟩ (.slice ad1 l.length cp1)).alloc (.cells #[.int .i64 k', .int .i64 pk', .string y', .string m', .string q', .bool a', .bool t', .slice ad' l'.length cp'] 46)).heap.size := by rw [show ∀ (W : World) (o : Obj), (W.alloc o).heap.size = W.heap.size + 1 from fun W o => by simp, sz5]; omega;
             clear hgrow1 hat1 own1 gX4)
          | (at_builtin; refine wpList_app rfl (.tmp 55) (.tmp 57) 44 rfl (wr.heap.size + 1) 46 i0 (.agg #[.int .i64 0, .int .i64 0, .string ⟨#[]⟩, .string ⟨#[]⟩, .string ⟨#[]⟩, .bool false, .bool false, .slice none 0 0]) 8 96 Tryd.underlying44 hi hz0 hz1 hz2 rfl (by decide) _ _ _ rfl O5.out _ _ _ rfl (SRC2.out _ _ sz5) (by rfl) ONE2.out (by unfold maxLen; omega) (by omega) b5 ?_;
             intro v2 w6 own2 hgrow2 hat2;
             obtain ⟨ad2, cp2, rfl⟩ := own_slice8 own2;
             have KX6 := Lib.hid ((K6.out).grown hgrow2 (fun j hj => by have := (O5.out.lt j hj).1; omega));
             have gX6 := (hgrow2.block wr.heap.size (by omega) (fun e => by have := (O5.out.lt _ e.symm).1; omega)).trans (heap_block (Kp.alloc _ _) GX5.out);
             simp only [setIB7] at gX6;
             have c7' : w6.cell? ⟨wr.heap.size, 7, none⟩ = some (.slice ad1 l.length cp1) := by simp [World.cell?, gX6];
             have f7' : w6.frozen? ⟨wr.heap.size, 7, none⟩ = false := by simp [World.frozen?, gX6];
             have lt6 : wr.heap.size < w6.heap.size := (Array.getElem?_eq_some_iff.1 gX6).1;
             have gX7 := ps_heap gX6 7 (.slice ad2 (l.length + 1) cp2);
             simp only [setIB7] at gX7;
             have k7 := kp_setCell KX6.out (Nat.le_refl _) 7 (.slice ad2 (l.length + 1) cp2);
             have own7 := own_setCell own2 (Nat.lt_succ_self _) 7 (.slice ad2 (l.length + 1) cp2);
             have GX7 := Lib.hid gX7; have K7 := Lib.hid k7; have OWN7 := Lib.hid own7;
             clear hgrow2 hat2 own2 gX6 gX7 k7 own7 c7 f7 lt4 j0 j1 j2 j3 j4 j5 j6 j7 sz5 b5))
        obtain ⟨w7, hw7⟩ : ∃ x, x = w6.setCell ⟨wr.heap.size, 7, none⟩ (.slice ad2 (l.length + 1) cp2) := ⟨_, rfl⟩
        have gX7 := GX7.out
        have k7 := K7.out
        have own7 := OWN7.out
        rw [← hw7] at gX7 k7 own7
        rw [← hw7]
        clear GX7 K7 OWN7 hw7 c7' f7' lt6 g0 g1 g2 g3 g4 g5 g6 g7 h0 h1 h2 h3 h4 h5 h6 h7
        have q7 : w7.ownsRow (wr.heap.size + 1) 46 8 (.slice ad2 (l.length + 1) cp2) (ml ++ [(((.mk k' ⟨pk', y', m', q'⟩ a' t' l' : ND), (.slice ad' l'.length cp' : Value)) : NV)]).length (cellsN (ml ++ [(((.mk k' ⟨pk', y', m', q'⟩ a' t' l' : ND), (.slice ad' l'.length cp' : Value)) : NV)])) := by
          rw [cellsN_append, List.length_append, show ml.length = l.length by rw [← HML.out, List.length_map]]
          exact own7
        have nX := nodesAt_own q7 ((RML.out.kp k7).append (RM.out.kp k7))
        rw [List.map_append, HML.out] at nX
        have nX2 : NodesAt w7 (.slice ad2 (l.length + 1) cp2) (l ++ [(.mk k' ⟨pk', y', m', q'⟩ a' t' l' : ND)]) := nX
        have K7 := Lib.hid k7
        have KF := Lib.hid (K3.out.trans (KL.out.trans k7))
        have NXH := Lib.hid nX2
        have GX := Lib.hid (fun w1 (qq : Kp w7 w1) => heap_block qq gX7)
        have GA := Lib.hid (fun w1 (qq : Kp w7 w1) => heap_block (k7.trans qq) GA7.out)
        have GB := Lib.hid (fun w1 (qq : Kp w7 w1) => heap_block (k7.trans qq) GB7.out)
        have e0 : ((cntN (.mk k ⟨pk, y, m, q⟩ a t l : ND) : Nat) : Int) = c0 := by rw [← HC0.out]; simp only [cntN]; omega
        have e1 : ((depN (.mk k ⟨pk, y, m, q⟩ a t l : ND) : Nat) : Int) = dl + 1 := by rw [← HDL.out]; simp only [depN, hk2]; first | rfl | (simp; done) | omega
        have e2 : cntN (.mk k ⟨pk, y, m, q⟩ a t (l ++ [(.mk k' ⟨pk', y', m', q'⟩ a' t' l' : ND)]) : ND) = cntN (.mk k ⟨pk, y, m, q⟩ a t l : ND) + cntN (.mk k' ⟨pk', y', m', q'⟩ a' t' l' : ND) := by simp only [cntN, cntL_append, cntL]; omega
        have e3 : depN (.mk k ⟨pk, y, m, q⟩ a t l : ND) ≤ depN (.mk k ⟨pk, y, m, q⟩ a t (l ++ [(.mk k' ⟨pk', y', m', q'⟩ a' t' l' : ND)]) : ND) := by simp only [depN, depL_append, depL]; omega
        obtain ⟨dxn, hdx⟩ : ∃ z, depN (.mk k ⟨pk, y, m, q⟩ a t (l ++ [(.mk k' ⟨pk', y', m', q'⟩ a' t' l' : ND)]) : ND) = z := ⟨_, rfl⟩
        rw [hdx] at e3
        obtain ⟨dx, hdx2⟩ : ∃ z : Int, (dxn : Int) = z := ⟨_, rfl⟩
        have e4 : dl + 1 ≤ dx := by omega
        have e5 : decide (dl + 1 ≤ dx) = true := decide_eq_true e4
        obtain ⟨cm, hcm⟩ : ∃ z : Int, ((cntN (.mk k' ⟨pk', y', m', q'⟩ a' t' l' : ND) : Nat) : Int) = z := ⟨_, rfl⟩
        have cm9 : 1 ≤ cm ∧ cm ≤ 1000 := by have := CM.out; have := cnt_pos (.mk k' ⟨pk', y', m', q'⟩ a' t' l' : ND); omega
        have hwr : IntKind.i64.wrap (c0 + cm) = c0 + cm := by rw [IntKind.wrap_i64]; omega
        have Q1 : ∀ w1, Kp w7 w1 → Calls Tryd.prog 29 #[.agg #[.int .i64 k, .int .i64 pk, .string y, .string m, .string q, .bool a, .bool t, .slice ad l.length cp]] w1 fun e w' => e = .returned (.int .i64 c0) ∧ Kp w1 w' := fun w1 qq => by
          have this := tCount_any (.mk k ⟨pk, y, m, q⟩ a t l : ND) (.slice ad l.length cp) w1 (HU.out.kp (KF.out.trans qq)) CN.out
          rw [e0] at this
          exact this
        have Q2 : ∀ w1, Kp w7 w1 → Calls Tryd.prog 31 #[.agg #[.int .i64 k, .int .i64 pk, .string y, .string m, .string q, .bool a, .bool t, .slice ad l.length cp]] w1 fun e w' => e = .returned (.int .i64 (dl + 1)) ∧ Kp w1 w' := fun w1 qq => by
          have this := tDeep_any (.mk k ⟨pk, y, m, q⟩ a t l : ND) (.slice ad l.length cp) w1 (HU.out.kp (KF.out.trans qq)) CN.out
          rw [e1] at this
          exact this
        have Q3 : ∀ w1, Kp w7 w1 → Calls Tryd.prog 29 #[.agg #[.int .i64 k, .int .i64 pk, .string y, .string m, .string q, .bool a, .bool t, .slice ad2 (l.length + 1) cp2]] w1 fun e w' => e = .returned (.int .i64 (c0 + cm)) ∧ Kp w1 w' := fun w1 qq => by
          have this := tCount_any (.mk k ⟨pk, y, m, q⟩ a t (l ++ [(.mk k' ⟨pk', y', m', q'⟩ a' t' l' : ND)]) : ND) (.slice ad2 (l.length + 1) cp2) w1 (NXH.out.kp qq) (by rw [e2]; have := few_120 HF.out; have := few_120 HG.out; omega)
          rw [e2, Int.natCast_add, e0, hcm] at this
          exact this
        have Q4 : ∀ w1, Kp w7 w1 → Calls Tryd.prog 29 #[.agg #[.int .i64 k', .int .i64 pk', .string y', .string m', .string q', .bool a', .bool t', .slice ad' l'.length cp']] w1 fun e w' => e = .returned (.int .i64 cm) ∧ Kp w1 w' := fun w1 qq => by
          have this := tCount_any (.mk k' ⟨pk', y', m', q'⟩ a' t' l' : ND) (.slice ad' l'.length cp') w1 (HV.out.kp (KF.out.trans qq)) CM.out
          rw [hcm] at this
          exact this
        have Q5 : ∀ w1, Kp w7 w1 → Calls Tryd.prog 33 #[.agg #[.int .i64 k, .int .i64 pk, .string y, .string m, .string q, .bool a, .bool t, .slice ad2 (l.length + 1) cp2], .agg #[.int .i64 k, .int .i64 pk, .string y, .string m, .string q, .bool a, .bool t, .slice ad l.length cp]] w1 fun e w' => e = .returned (.bool false) ∧ Kp w1 w' := fun w1 qq => by
          have this := tSame_any (.mk k ⟨pk, y, m, q⟩ a t (l ++ [(.mk k' ⟨pk', y', m', q'⟩ a' t' l' : ND)]) : ND) (.mk k ⟨pk, y, m, q⟩ a t l : ND) (.slice ad2 (l.length + 1) cp2) (.slice ad l.length cp) w1 (NXH.out.kp qq) (HU.out.kp (KF.out.trans qq)) (by rw [e2]; have := few_120 HF.out; have := few_120 HG.out; omega)
          rw [same_no (by intro h; simp at h)] at this
          exact this
        have Q6 : ∀ w1, Kp w7 w1 → Calls Tryd.prog 31 #[.agg #[.int .i64 k, .int .i64 pk, .string y, .string m, .string q, .bool a, .bool t, .slice ad2 (l.length + 1) cp2]] w1 fun e w' => e = .returned (.int .i64 dx) ∧ Kp w1 w' := fun w1 qq => by
          have this := tDeep_any (.mk k ⟨pk, y, m, q⟩ a t (l ++ [(.mk k' ⟨pk', y', m', q'⟩ a' t' l' : ND)]) : ND) (.slice ad2 (l.length + 1) cp2) w1 (NXH.out.kp qq) (by rw [e2]; have := few_120 HF.out; have := few_120 HG.out; omega)
          rw [hdx, hdx2] at this
          exact this
        have Q1H := Lib.hid Q1
        have Q2H := Lib.hid Q2
        have Q3H := Lib.hid Q3
        have Q4H := Lib.hid Q4
        have Q5H := Lib.hid Q5
        have Q6H := Lib.hid Q6
        clear Q1 Q2 Q3 Q4 Q5 Q6 e0 e1 e2 e3 hdx hdx2 hcm gX7 k7 own7 q7 nX nX2 zX zX2 n0 n1 n2 n3 l0 l1 l2
        have KS := Lib.hid (fun w' (qq : Kp w7 w') => show w'.cell? ⟨w.heap.size, 0, none⟩ = some (.int .i64 k) ∧ w'.cell? ⟨w.heap.size, 1, none⟩ = some (.int .i64 pk) ∧ w'.cell? ⟨w.heap.size, 2, none⟩ = some (.string y) ∧ w'.cell? ⟨w.heap.size, 3, none⟩ = some (.string m) ∧ w'.cell? ⟨w.heap.size, 4, none⟩ = some (.string q) ∧ w'.cell? ⟨w.heap.size, 5, none⟩ = some (.bool a) ∧ w'.cell? ⟨w.heap.size, 6, none⟩ = some (.bool t) ∧ w'.cell? ⟨w.heap.size, 7, none⟩ = some (.slice ad l.length cp) ∧ w'.cell? ⟨w.heap.size + 1, 0, none⟩ = some (.int .i64 k') ∧ w'.cell? ⟨w.heap.size + 1, 1, none⟩ = some (.int .i64 pk') ∧ w'.cell? ⟨w.heap.size + 1, 2, none⟩ = some (.string y') ∧ w'.cell? ⟨w.heap.size + 1, 3, none⟩ = some (.string m') ∧ w'.cell? ⟨w.heap.size + 1, 4, none⟩ = some (.string q') ∧ w'.cell? ⟨w.heap.size + 1, 5, none⟩ = some (.bool a') ∧ w'.cell? ⟨w.heap.size + 1, 6, none⟩ = some (.bool t') ∧ w'.cell? ⟨w.heap.size + 1, 7, none⟩ = some (.slice ad' l'.length cp') ∧ w'.cell? ⟨wr.heap.size, 0, none⟩ = some (.int .i64 k) ∧ w'.cell? ⟨wr.heap.size, 1, none⟩ = some (.int .i64 pk) ∧ w'.cell? ⟨wr.heap.size, 2, none⟩ = some (.string y) ∧ w'.cell? ⟨wr.heap.size, 3, none⟩ = some (.string m) ∧ w'.cell? ⟨wr.heap.size, 4, none⟩ = some (.string q) ∧ w'.cell? ⟨wr.heap.size, 5, none⟩ = some (.bool a) ∧ w'.cell? ⟨wr.heap.size, 6, none⟩ = some (.bool t) ∧ w'.cell? ⟨wr.heap.size, 7, none⟩ = some (.slice ad2 (l.length + 1) cp2) ∧ Kp w7 w' from ⟨(row8 (GA.out _ qq)).1, (row8 (GA.out _ qq)).2.1, (row8 (GA.out _ qq)).2.2.1, (row8 (GA.out _ qq)).2.2.2.1, (row8 (GA.out _ qq)).2.2.2.2.1, (row8 (GA.out _ qq)).2.2.2.2.2.1, (row8 (GA.out _ qq)).2.2.2.2.2.2.1, (row8 (GA.out _ qq)).2.2.2.2.2.2.2, (row8 (GB.out _ qq)).1, (row8 (GB.out _ qq)).2.1, (row8 (GB.out _ qq)).2.2.1, (row8 (GB.out _ qq)).2.2.2.1, (row8 (GB.out _ qq)).2.2.2.2.1, (row8 (GB.out _ qq)).2.2.2.2.2.1, (row8 (GB.out _ qq)).2.2.2.2.2.2.1, (row8 (GB.out _ qq)).2.2.2.2.2.2.2, (row8 (GX.out _ qq)).1, (row8 (GX.out _ qq)).2.1, (row8 (GX.out _ qq)).2.2.1, (row8 (GX.out _ qq)).2.2.2.1, (row8 (GX.out _ qq)).2.2.2.2.1, (row8 (GX.out _ qq)).2.2.2.2.2.1, (row8 (GX.out _ qq)).2.2.2.2.2.2.1, (row8 (GX.out _ qq)).2.2.2.2.2.2.2, qq⟩)
        refine wp_region_held_drew (S := fun w' => w'.cell? ⟨w.heap.size, 0, none⟩ = some (.int .i64 k) ∧ w'.cell? ⟨w.heap.size, 1, none⟩ = some (.int .i64 pk) ∧ w'.cell? ⟨w.heap.size, 2, none⟩ = some (.string y) ∧ w'.cell? ⟨w.heap.size, 3, none⟩ = some (.string m) ∧ w'.cell? ⟨w.heap.size, 4, none⟩ = some (.string q) ∧ w'.cell? ⟨w.heap.size, 5, none⟩ = some (.bool a) ∧ w'.cell? ⟨w.heap.size, 6, none⟩ = some (.bool t) ∧ w'.cell? ⟨w.heap.size, 7, none⟩ = some (.slice ad l.length cp) ∧ w'.cell? ⟨w.heap.size + 1, 0, none⟩ = some (.int .i64 k') ∧ w'.cell? ⟨w.heap.size + 1, 1, none⟩ = some (.int .i64 pk') ∧ w'.cell? ⟨w.heap.size + 1, 2, none⟩ = some (.string y') ∧ w'.cell? ⟨w.heap.size + 1, 3, none⟩ = some (.string m') ∧ w'.cell? ⟨w.heap.size + 1, 4, none⟩ = some (.string q') ∧ w'.cell? ⟨w.heap.size + 1, 5, none⟩ = some (.bool a') ∧ w'.cell? ⟨w.heap.size + 1, 6, none⟩ = some (.bool t') ∧ w'.cell? ⟨w.heap.size + 1, 7, none⟩ = some (.slice ad' l'.length cp') ∧ w'.cell? ⟨wr.heap.size, 0, none⟩ = some (.int .i64 k) ∧ w'.cell? ⟨wr.heap.size, 1, none⟩ = some (.int .i64 pk) ∧ w'.cell? ⟨wr.heap.size, 2, none⟩ = some (.string y) ∧ w'.cell? ⟨wr.heap.size, 3, none⟩ = some (.string m) ∧ w'.cell? ⟨wr.heap.size, 4, none⟩ = some (.string q) ∧ w'.cell? ⟨wr.heap.size, 5, none⟩ = some (.bool a) ∧ w'.cell? ⟨wr.heap.size, 6, none⟩ = some (.bool t) ∧ w'.cell? ⟨wr.heap.size, 7, none⟩ = some (.slice ad2 (l.length + 1) cp2) ∧ Kp w7 w') (by kernel_rfl) ?_ (fun hHeld0 => ?_)
        · (try dsimp only); exact KS.out _ (by first | assumption | exact Kp.drew _ | exact Kp.refl _)
        refine tkW (v := ?_) 0 sC0 rfl (by kernel_rfl) (by kernel_rfl) (by kernel_rfl) (fun _ _ _ h => h) (by rfl) ?_ (by assumption) ?_
        rotate_left
        · intro w hSw; (try dsimp only at hSw); go_simp; (try with_reducible rfl)
        (try simp only [Act.put, sC0, List.setIfInBounds_toArray, List.set_cons_zero, List.set_cons_succ])
        refine tkW (v := ?_) 1 sC1 rfl (by kernel_rfl) (by kernel_rfl) (by kernel_rfl) (fun _ _ _ h => h) (by rfl) ?_ (by assumption) ?_
        rotate_left
        · intro w hSw; (try dsimp only at hSw); go_simp; (try with_reducible rfl)
        (try simp only [Act.put, sC1, List.setIfInBounds_toArray, List.set_cons_zero, List.set_cons_succ])
        refine tkW (v := ?_) 2 sC2 rfl (by kernel_rfl) (by kernel_rfl) (by kernel_rfl) (fun _ _ _ h => h) (by rfl) ?_ (by assumption) ?_
        rotate_left
        · intro w hSw; (try dsimp only at hSw); go_simp; (try with_reducible rfl)
        (try simp only [Act.put, sC2, List.setIfInBounds_toArray, List.set_cons_zero, List.set_cons_succ])
        refine tkW (v := ?_) 4 sC4 rfl (by kernel_rfl) (by kernel_rfl) (by kernel_rfl) (fun _ _ _ h => h) (by rfl) ?_ (by assumption) ?_
        rotate_left
        · intro w hSw; (try dsimp only at hSw); go_simp; (try with_reducible rfl)
        (try simp only [Act.put, sC4, List.setIfInBounds_toArray, List.set_cons_zero, List.set_cons_succ])
        refine tkE 3 sC3 rfl (by kernel_rfl) (fun K hK => ?_)
        go_simp
        (refine (Q1H.out _ (by first | assumption | exact Kp.drew _ | exact Kp.refl _)).mono ?_; rintro e w' ⟨rfl, k1⟩; have k2 := Kp.trans (show Kp w7 _ from (by first | assumption | exact Kp.drew _ | exact Kp.refl _)) k1; clear k1)
        (try go_wp2_with fail)
        refine hK.out _ _ ?_ (fun hHeld1 => ?_)
        · (try dsimp only); exact KS.out _ (by first | assumption | exact Kp.drew _ | exact Kp.refl _)
        clear hK K hHeld0
        (try simp only [Act.put, sC3, List.setIfInBounds_toArray, List.set_cons_zero, List.set_cons_succ])
        refine tkW (v := ?_) 5 sC5 rfl (by kernel_rfl) (by kernel_rfl) (by kernel_rfl) (fun _ _ _ h => h) (by rfl) ?_ (by assumption) ?_
        rotate_left
        · intro w hSw; (try dsimp only at hSw); go_simp; (try with_reducible rfl)
        (try simp only [Act.put, sC5, List.setIfInBounds_toArray, List.set_cons_zero, List.set_cons_succ])
        refine tkW (v := ?_) 6 sC6 rfl (by kernel_rfl) (by kernel_rfl) (by kernel_rfl) (fun _ _ _ h => h) (by rfl) ?_ (by assumption) ?_
        rotate_left
        · intro w hSw; (try dsimp only at hSw); go_simp; (try with_reducible rfl)
        (try simp only [Act.put, sC6, List.setIfInBounds_toArray, List.set_cons_zero, List.set_cons_succ])
        refine tkW (v := ?_) 7 sC7 rfl (by kernel_rfl) (by kernel_rfl) (by kernel_rfl) (fun _ _ _ h => h) (by rfl) ?_ (by assumption) ?_
        rotate_left
        · intro w hSw; (try dsimp only at hSw); go_simp; (try with_reducible rfl)
        (try simp only [Act.put, sC7, List.setIfInBounds_toArray, List.set_cons_zero, List.set_cons_succ])
        refine tkW (v := ?_) 8 sC8 rfl (by kernel_rfl) (by kernel_rfl) (by kernel_rfl) (fun _ _ _ h => h) (by rfl) ?_ (by assumption) ?_
        rotate_left
        · intro w hSw; (try dsimp only at hSw); go_simp; (try with_reducible rfl)
        (try simp only [Act.put, sC8, List.setIfInBounds_toArray, List.set_cons_zero, List.set_cons_succ])
        refine tkW (v := ?_) 10 sC10 rfl (by kernel_rfl) (by kernel_rfl) (by kernel_rfl) (fun _ _ _ h => h) (by rfl) ?_ (by assumption) ?_
        rotate_left
        · intro w hSw; (try dsimp only at hSw); go_simp; (try with_reducible rfl)
        (try simp only [Act.put, sC10, List.setIfInBounds_toArray, List.set_cons_zero, List.set_cons_succ])
        refine tkE 9 sC9 rfl (by kernel_rfl) (fun K hK => ?_)
        go_simp
        (refine (Q2H.out _ (by first | assumption | exact Kp.drew _ | exact Kp.refl _)).mono ?_; rintro e w' ⟨rfl, k1⟩; have k2 := Kp.trans (show Kp w7 _ from (by first | assumption | exact Kp.drew _ | exact Kp.refl _)) k1; clear k1)
        (try go_wp2_with fail)
        refine hK.out _ _ ?_ (fun hHeld2 => ?_)
        · (try dsimp only); exact KS.out _ (by first | assumption | exact Kp.drew _ | exact Kp.refl _)
        clear hK K hHeld1
        (try simp only [Act.put, sC9, List.setIfInBounds_toArray, List.set_cons_zero, List.set_cons_succ])
        refine tkW (v := ?_) 11 sC11 rfl (by kernel_rfl) (by kernel_rfl) (by kernel_rfl) (fun _ _ _ h => h) (by rfl) ?_ (by assumption) ?_
        rotate_left
        · intro w hSw; (try dsimp only at hSw); go_simp; (try with_reducible rfl)
        (try simp only [Act.put, sC11, List.setIfInBounds_toArray, List.set_cons_zero, List.set_cons_succ])
        refine tkW (v := ?_) 12 sC12 rfl (by kernel_rfl) (by kernel_rfl) (by kernel_rfl) (fun _ _ _ h => h) (by rfl) ?_ (by assumption) ?_
        rotate_left
        · intro w hSw; (try dsimp only at hSw); go_simp; (try with_reducible rfl)
        (try simp only [Act.put, sC12, List.setIfInBounds_toArray, List.set_cons_zero, List.set_cons_succ])
        refine tkW (v := ?_) 13 sC13 rfl (by kernel_rfl) (by kernel_rfl) (by kernel_rfl) (fun _ _ _ h => h) (by rfl) ?_ (by assumption) ?_
        rotate_left
        · intro w hSw; (try dsimp only at hSw); go_simp; (try with_reducible rfl)
        (try simp only [Act.put, sC13, List.setIfInBounds_toArray, List.set_cons_zero, List.set_cons_succ])
        refine tkW (v := ?_) 14 sC14 rfl (by kernel_rfl) (by kernel_rfl) (by kernel_rfl) (fun _ _ _ h => h) (by rfl) ?_ (by assumption) ?_
        rotate_left
        · intro w hSw; (try dsimp only at hSw); go_simp; (try with_reducible rfl)
        (try simp only [Act.put, sC14, List.setIfInBounds_toArray, List.set_cons_zero, List.set_cons_succ])
        refine tkW (v := ?_) 16 sC16 rfl (by kernel_rfl) (by kernel_rfl) (by kernel_rfl) (fun _ _ _ h => h) (by rfl) ?_ (by assumption) ?_
        rotate_left
        · intro w hSw; (try dsimp only at hSw); go_simp; (try with_reducible rfl)
        (try simp only [Act.put, sC16, List.setIfInBounds_toArray, List.set_cons_zero, List.set_cons_succ])
        refine tkW (v := ?_) 17 sC17 rfl (by kernel_rfl) (by kernel_rfl) (by kernel_rfl) (fun _ _ _ h => h) (by rfl) ?_ (by assumption) ?_
        rotate_left
        · intro w hSw; (try dsimp only at hSw); go_simp; (try with_reducible rfl)
        (try simp only [Act.put, sC17, List.setIfInBounds_toArray, List.set_cons_zero, List.set_cons_succ])
        refine tkE 15 sC15 rfl (by kernel_rfl) (fun K hK => ?_)
        go_simp
        (refine (Q3H.out _ (by first | assumption | exact Kp.drew _ | exact Kp.refl _)).mono ?_; rintro e w' ⟨rfl, k1⟩; have k2 := Kp.trans (show Kp w7 _ from (by first | assumption | exact Kp.drew _ | exact Kp.refl _)) k1; clear k1)
        (try go_wp2_with fail)
        refine hK.out _ _ ?_ (fun hHeld3 => ?_)
        · (try dsimp only); exact KS.out _ (by first | assumption | exact Kp.drew _ | exact Kp.refl _)
        clear hK K hHeld2
        (try simp only [Act.put, sC15, List.setIfInBounds_toArray, List.set_cons_zero, List.set_cons_succ])
        refine tkE 18 sC18 rfl (by kernel_rfl) (fun K hK => ?_)
        go_simp
        (refine (Q4H.out _ (by first | assumption | exact Kp.drew _ | exact Kp.refl _)).mono ?_; rintro e w' ⟨rfl, k1⟩; have k2 := Kp.trans (show Kp w7 _ from (by first | assumption | exact Kp.drew _ | exact Kp.refl _)) k1; clear k1)
        (try go_wp2_with fail)
        refine hK.out _ _ ?_ (fun hHeld4 => ?_)
        · (try dsimp only); exact KS.out _ (by first | assumption | exact Kp.drew _ | exact Kp.refl _)
        clear hK K hHeld3
        (try simp only [Act.put, sC18, List.setIfInBounds_toArray, List.set_cons_zero, List.set_cons_succ])
        refine tkW (v := ?_) 19 sC19 rfl (by kernel_rfl) (by kernel_rfl) (by kernel_rfl) (fun _ _ _ h => h) (by rfl) ?_ (by assumption) ?_
        rotate_left
        · intro w hSw; (try dsimp only at hSw); go_simp; (try with_reducible rfl)
        (try simp only [Act.put, sC19, List.setIfInBounds_toArray, List.set_cons_zero, List.set_cons_succ])
        refine tkW (v := ?_) 20 sC20 rfl (by kernel_rfl) (by kernel_rfl) (by kernel_rfl) (fun _ _ _ h => h) (by rfl) ?_ (by assumption) ?_
        rotate_left
        · intro w hSw; (try dsimp only at hSw); go_simp; (try with_reducible rfl)
        (try simp only [Act.put, sC20, List.setIfInBounds_toArray, List.set_cons_zero, List.set_cons_succ])
        refine tkW (v := ?_) 21 sC21 rfl (by kernel_rfl) (by kernel_rfl) (by kernel_rfl) (fun _ _ _ h => h) (by rfl) ?_ (by assumption) ?_
        rotate_left
        · intro w hSw; (try dsimp only at hSw); go_simp; (try with_reducible rfl)
        (try simp only [Act.put, sC21, List.setIfInBounds_toArray, List.set_cons_zero, List.set_cons_succ])
        refine tkW (v := ?_) 22 sC22 rfl (by kernel_rfl) (by kernel_rfl) (by kernel_rfl) (fun _ _ _ h => h) (by rfl) ?_ (by assumption) ?_
        rotate_left
        · intro w hSw; (try dsimp only at hSw); go_simp; (try with_reducible rfl)
        (try simp only [Act.put, sC22, List.setIfInBounds_toArray, List.set_cons_zero, List.set_cons_succ])
        refine tkW (v := ?_) 23 sC23 rfl (by kernel_rfl) (by kernel_rfl) (by kernel_rfl) (fun _ _ _ h => h) (by rfl) ?_ (by assumption) ?_
        rotate_left
        · intro w hSw; (try dsimp only at hSw); go_simp; (try with_reducible rfl)
        (try simp only [Act.put, sC23, List.setIfInBounds_toArray, List.set_cons_zero, List.set_cons_succ])
        refine tkW (v := ?_) 24 sC24 rfl (by kernel_rfl) (by kernel_rfl) (by kernel_rfl) (fun _ _ _ h => h) (by rfl) ?_ (by assumption) ?_
        rotate_left
        · intro w hSw; (try dsimp only at hSw); go_simp; (try with_reducible rfl)
        (try simp only [Act.put, sC24, List.setIfInBounds_toArray, List.set_cons_zero, List.set_cons_succ])
        refine tkE 25 sC25 rfl (by kernel_rfl) (fun K hK => ?_)
        go_simp
        (refine (Q5H.out _ (by first | assumption | exact Kp.drew _ | exact Kp.refl _)).mono ?_; rintro e w' ⟨rfl, k1⟩; have k2 := Kp.trans (show Kp w7 _ from (by first | assumption | exact Kp.drew _ | exact Kp.refl _)) k1; clear k1)
        (try go_wp2_with fail)
        refine hK.out _ _ ?_ (fun hHeld5 => ?_)
        · (try dsimp only); exact KS.out _ (by first | assumption | exact Kp.drew _ | exact Kp.refl _)
        clear hK K hHeld4
        (try simp only [Act.put, sC25, List.setIfInBounds_toArray, List.set_cons_zero, List.set_cons_succ])
        refine tkW (v := ?_) 26 sC26 rfl (by kernel_rfl) (by kernel_rfl) (by kernel_rfl) (fun _ _ _ h => h) (by rfl) ?_ (by assumption) ?_
        rotate_left
        · intro w hSw; (try dsimp only at hSw); go_simp; (try with_reducible rfl)
        (try simp only [Act.put, sC26, List.setIfInBounds_toArray, List.set_cons_zero, List.set_cons_succ])
        refine tkW (v := ?_) 27 sC27 rfl (by kernel_rfl) (by kernel_rfl) (by kernel_rfl) (fun _ _ _ h => h) (by rfl) ?_ (by assumption) ?_
        rotate_left
        · intro w hSw; (try dsimp only at hSw); go_simp; (try with_reducible rfl)
        (try simp only [Act.put, sC27, List.setIfInBounds_toArray, List.set_cons_zero, List.set_cons_succ])
        refine tkW (v := ?_) 28 sC28 rfl (by kernel_rfl) (by kernel_rfl) (by kernel_rfl) (fun _ _ _ h => h) (by rfl) ?_ (by assumption) ?_
        rotate_left
        · intro w hSw; (try dsimp only at hSw); go_simp; (try with_reducible rfl)
        (try simp only [Act.put, sC28, List.setIfInBounds_toArray, List.set_cons_zero, List.set_cons_succ])
        refine tkW (v := ?_) 29 sC29 rfl (by kernel_rfl) (by kernel_rfl) (by kernel_rfl) (fun _ _ _ h => h) (by rfl) ?_ (by assumption) ?_
        rotate_left
        · intro w hSw; (try dsimp only at hSw); go_simp; (try with_reducible rfl)
        (try simp only [Act.put, sC29, List.setIfInBounds_toArray, List.set_cons_zero, List.set_cons_succ])
        refine tkW (v := ?_) 31 sC31 rfl (by kernel_rfl) (by kernel_rfl) (by kernel_rfl) (fun _ _ _ h => h) (by rfl) ?_ (by assumption) ?_
        rotate_left
        · intro w hSw; (try dsimp only at hSw); go_simp; (try with_reducible rfl)
        (try simp only [Act.put, sC31, List.setIfInBounds_toArray, List.set_cons_zero, List.set_cons_succ])
        refine tkE 30 sC30 rfl (by kernel_rfl) (fun K hK => ?_)
        go_simp
        (refine (Q6H.out _ (by first | assumption | exact Kp.drew _ | exact Kp.refl _)).mono ?_; rintro e w' ⟨rfl, k1⟩; have k2 := Kp.trans (show Kp w7 _ from (by first | assumption | exact Kp.drew _ | exact Kp.refl _)) k1; clear k1)
        (try go_wp2_with fail)
        refine hK.out _ _ ?_ (fun hHeld6 => ?_)
        · (try dsimp only); exact KS.out _ (by first | assumption | exact Kp.drew _ | exact Kp.refl _)
        clear hK K hHeld5
        (try simp only [Act.put, sC30, List.setIfInBounds_toArray, List.set_cons_zero, List.set_cons_succ])
        refine tkW (v := ?_) 32 sC32 rfl (by kernel_rfl) (by kernel_rfl) (by kernel_rfl) (fun _ _ _ h => h) (by rfl) ?_ (by assumption) ?_
        rotate_left
        · intro w hSw; (try dsimp only at hSw); go_simp; (try with_reducible rfl)
        (try simp only [Act.put, sC32, List.setIfInBounds_toArray, List.set_cons_zero, List.set_cons_succ])
        refine tkW (v := ?_) 33 sC33 rfl (by kernel_rfl) (by kernel_rfl) (by kernel_rfl) (fun _ _ _ h => h) (by rfl) ?_ (by assumption) ?_
        rotate_left
        · intro w hSw; (try dsimp only at hSw); go_simp; (try with_reducible rfl)
        (try simp only [Act.put, sC33, List.setIfInBounds_toArray, List.set_cons_zero, List.set_cons_succ])
        refine tkW (v := ?_) 34 sC34 rfl (by kernel_rfl) (by kernel_rfl) (by kernel_rfl) (fun _ _ _ h => h) (by rfl) ?_ (by assumption) ?_
        rotate_left
        · intro w hSw; (try dsimp only at hSw); go_simp; (try with_reducible rfl)
        (try simp only [Act.put, sC34, List.setIfInBounds_toArray, List.set_cons_zero, List.set_cons_succ])
        refine wpAnyH_done (by kernel_rfl) ?_ _
        have KE := KF.out.trans k2
        go_wp2
        go_ret
        exact ⟨rfl, KE⟩
      · have hk2 : (k == 2) = false := beq_eq_false_iff_ne.2 hk
        have HK := Lib.hid hk
        clear hk
        obtain ⟨c0, hc0⟩ : ∃ z : Int, 1 + (cntL l : Int) = z := ⟨_, rfl⟩
        obtain ⟨dl, hdl⟩ : ∃ z : Int, (depL l : Int) = z := ⟨_, rfl⟩
        have cn1 : cntL l ≤ 999 := by have e : cntN (.mk k ⟨pk, y, m, q⟩ a t l : ND) = cntL l + 1 := rfl; have := CN.out; omega
        have dc1 := dep_cntL l
        have c09 : 1 ≤ c0 ∧ c0 ≤ 1000 := by omega
        have d09 : 0 ≤ dl ∧ dl ≤ 1000 := by omega
        have HC0 := Lib.hid hc0
        have HDL := Lib.hid hdl
        rw [hc0, hdl]
        clear hc0 hdl cn1 dc1
        obtain ⟨i0, hi, hz0, hz1, hz2⟩ := info_parts infoNode
        have gA := heap_block KL.out GA.out
        have gB := heap_block KL.out GB.out
        have z9 : w.heap.size + 1 < w3.heap.size := (Array.getElem?_eq_some_iff.1 GB.out).1
        have y9 := KL.out.size
        have n0 : ¬ w.heap.size = wr.heap.size := by omega
        have n1 : ¬ w.heap.size + 1 = wr.heap.size := by omega
        have n2 : ¬ w.heap.size + 1 = wr.heap.size + 1 := by omega
        have n3 : ¬ w.heap.size = wr.heap.size + 1 := by omega
        have l0 : w.heap.size < wr.heap.size := by omega
        have l1 : w.heap.size + 1 < wr.heap.size := by omega
        have l2 : w.heap.size < wr.heap.size + 1 := by omega
        have ke1 := Kp.alloc wr (.cells #[.int .i64 k, .int .i64 pk, .string y, .string m, .string q, .bool a, .bool t, .slice ad l.length cp] 46)
        have ke2 := Kp.alloc (wr.alloc (.cells #[.int .i64 k, .int .i64 pk, .string y, .string m, .string q, .bool a, .bool t, .slice ad l.length cp] 46)) (.cells #[] 46)
        have gX := heap_block ke2 (heap_at wr (.cells #[.int .i64 k, .int .i64 pk, .string y, .string m, .string q, .bool a, .bool t, .slice ad l.length cp] 46) wr.heap.size rfl)
        have own0 : ((wr.alloc (.cells #[.int .i64 k, .int .i64 pk, .string y, .string m, .string q, .bool a, .bool t, .slice ad l.length cp] 46)).alloc (.cells #[] 46)).ownsRow (wr.heap.size + 1) 46 8 (.slice (some ⟨wr.heap.size + 1, 0, none⟩) 0 0) 0 (cellsN []) :=
          ⟨rfl, .inr ⟨wr.heap.size + 1, 0, #[], rfl, Nat.le_refl _, heap_at _ _ _ (by simp), Nat.le_refl _, by decide, rfl, rfl⟩⟩
        obtain ⟨ml, hml, rml, sml0⟩ := (HU.out.kp (K3.out.trans KL.out)).src
        have sml := sml0 _ (ke1.trans ke2)
        have hl1 : (cellsN ml).length = l.length * 8 := by rw [cellsN_length, ← hml, List.length_map]
        have one1 := cellsN_one rml
        have H1 := Lib.hid hl1
        have HML := Lib.hid hml
        have RML := Lib.hid rml
        have SML := Lib.hid sml
        have ONE1 := Lib.hid one1
        have OWN0 := Lib.hid own0
        have GX := Lib.hid gX
        have KE1 := Lib.hid ke1
        have KE2 := Lib.hid ke2
        have rm : ReadsN wr [(((.mk k' ⟨pk', y', m', q'⟩ a' t' l' : ND)), .slice ad' l'.length cp')] := fun p hp => by rw [List.mem_singleton.1 hp]; exact HV.out.kp (K3.out.trans KL.out)
        have RM := Lib.hid rm
        have ONE2 := Lib.hid (cellsN_one rm)
        have SRC2 := Lib.hid (fun (w9 : World) (b : Nat) (hb : w9.heap.size = b) => show SrcAt (w9.alloc (.cells #[.int .i64 k', .int .i64 pk', .string y', .string m', .string q', .bool a', .bool t', .slice ad' l'.length cp'] 46)) (.slice (some ⟨b, 0, none⟩) 1 1) 1 (cellsN [((.mk k' ⟨pk', y', m', q'⟩ a' t' l' : ND), .slice ad' l'.length cp')]) from one_srcN hb (.mk k' ⟨pk', y', m', q'⟩ a' t' l' : ND) (.slice ad' l'.length cp') 46)
        clear hl1 hml rml sml sml0 one1 own0 gX ke1 ke2 rm
        have zX : (wr.alloc (.cells #[.int .i64 k, .int .i64 pk, .string y, .string m, .string q, .bool a, .bool t, .slice ad l.length cp] 46)).heap.size = wr.heap.size + 1 := by simp
        have zX2 : ((wr.alloc (.cells #[.int .i64 k, .int .i64 pk, .string y, .string m, .string q, .bool a, .bool t, .slice ad l.length cp] 46)).alloc (.cells #[] 46)).heap.size = wr.heap.size + 1 + 1 := by simp
        obtain ⟨g0, g1, g2, g3, g4, g5, g6, g7⟩ := row8 gA
        obtain ⟨h0, h1, h2, h3, h4, h5, h6, h7⟩ := row8 gB
        have GA7 := Lib.hid gA
        have GB7 := Lib.hid gB
        clear gA gB z9 y9
        go_wp2_with (first
          | (at_builtin; refine wpList_app rfl (.tmp 49) (.tmp 51) 44 rfl (wr.heap.size + 1) 46 i0 (.agg #[.int .i64 0, .int .i64 0, .string ⟨#[]⟩, .string ⟨#[]⟩, .string ⟨#[]⟩, .bool false, .bool false, .slice none 0 0]) 8 96 Tryd.underlying44 hi hz0 hz1 hz2 rfl (by decide) _ _ _ rfl OWN0.out _ _ _ rfl SML.out H1.out ONE1.out (by unfold maxLen; omega) (by omega) (by simp) ?_;
             intro v1 w4 own1 hgrow1 hat1;
             rw [Nat.zero_add, show cellsN [] ++ cellsN ml = cellsN ml from rfl] at own1;
             obtain ⟨ad1, cp1, rfl⟩ := own_slice8 own1;
             have K4 := Lib.hid (KE2.out.grown hgrow1 (fun j hj => by have := (OWN0.out.lt j hj).1; omega));
             have gX4 := heap_block K4.out (heap_at wr (.cells #[.int .i64 k, .int .i64 pk, .string y, .string m, .string q, .bool a, .bool t, .slice ad l.length cp] 46) wr.heap.size rfl);
             have h4s := K4.out.size;
             have GX5 := Lib.hid (ps_heap gX4 7 (.slice ad1 l.length cp1));
             have K5 := Lib.hid (kp_setCell (KE1.out.trans K4.out) (Nat.le_refl _) 7 (.slice ad1 l.length cp1));
             have O5 := Lib.hid ((own_setCell own1 (Nat.lt_succ_self _) 7 (.slice ad1 l.length cp1)).alloc (.cells #[.int .i64 k', .int .i64 pk', .string y', .string m', .string q', .bool a', .bool t', .slice ad' l'.length cp'] 46));
             have c7 : w4.cell? ⟨wr.heap.size, 7, none⟩ = some (.slice ad l.length cp) := by simp [World.cell?, gX4];
             have f7 : w4.frozen? ⟨wr.heap.size, 7, none⟩ = false := by simp [World.frozen?, gX4];
             have lt4 : wr.heap.size < w4.heap.size := by omega;
             have j0 := cell_up K5.out h0; have j1 := cell_up K5.out h1; have j2 := cell_up K5.out h2; have j3 := cell_up K5.out h3; have j4 := cell_up K5.out h4; have j5 := cell_up K5.out h5; have j6 := cell_up K5.out h6; have j7 := cell_up K5.out h7;
             have K6 := Lib.hid (K5.out.trans (Kp.alloc _ (.cells #[.int .i64 k', .int .i64 pk', .string y', .string m', .string q', .bool a', .bool t', .slice ad' l'.length cp'] 46)));
             have sz5 : (w4.setCell ⟨wr.heap.size, 7, none⟩ (.slice ad1 l.length cp1)).heap.size = w4.heap.size := by unfold World.setCell; simp;
             have b5 : wr.heap.size + 1 ≤ ((w4.setCell ⟨wr.heap.size, 7, none⟩ (.slice ad1 l.length cp1)).alloc (.cells #[.int .i64 k', .int .i64 pk', .string y', .string m', .string q', .bool a', .bool t', .slice ad' l'.length cp'] 46)).heap.size := by rw [show ∀ (W : World) (o : Obj), (W.alloc o).heap.size = W.heap.size + 1 from fun W o => by simp, sz5]; omega;
             clear hgrow1 hat1 own1 gX4)
          | (at_builtin; refine wpList_app rfl (.tmp 55) (.tmp 57) 44 rfl (wr.heap.size + 1) 46 i0 (.agg #[.int .i64 0, .int .i64 0, .string ⟨#[]⟩, .string ⟨#[]⟩, .string ⟨#[]⟩, .bool false, .bool false, .slice none 0 0]) 8 96 Tryd.underlying44 hi hz0 hz1 hz2 rfl (by decide) _ _ _ rfl O5.out _ _ _ rfl (SRC2.out _ _ sz5) (by rfl) ONE2.out (by unfold maxLen; omega) (by omega) b5 ?_;
             intro v2 w6 own2 hgrow2 hat2;
             obtain ⟨ad2, cp2, rfl⟩ := own_slice8 own2;
             have KX6 := Lib.hid ((K6.out).grown hgrow2 (fun j hj => by have := (O5.out.lt j hj).1; omega));
             have gX6 := (hgrow2.block wr.heap.size (by omega) (fun e => by have := (O5.out.lt _ e.symm).1; omega)).trans (heap_block (Kp.alloc _ _) GX5.out);
             simp only [setIB7] at gX6;
             have c7' : w6.cell? ⟨wr.heap.size, 7, none⟩ = some (.slice ad1 l.length cp1) := by simp [World.cell?, gX6];
             have f7' : w6.frozen? ⟨wr.heap.size, 7, none⟩ = false := by simp [World.frozen?, gX6];
             have lt6 : wr.heap.size < w6.heap.size := (Array.getElem?_eq_some_iff.1 gX6).1;
             have gX7 := ps_heap gX6 7 (.slice ad2 (l.length + 1) cp2);
             simp only [setIB7] at gX7;
             have k7 := kp_setCell KX6.out (Nat.le_refl _) 7 (.slice ad2 (l.length + 1) cp2);
             have own7 := own_setCell own2 (Nat.lt_succ_self _) 7 (.slice ad2 (l.length + 1) cp2);
             have GX7 := Lib.hid gX7; have K7 := Lib.hid k7; have OWN7 := Lib.hid own7;
             clear hgrow2 hat2 own2 gX6 gX7 k7 own7 c7 f7 lt4 j0 j1 j2 j3 j4 j5 j6 j7 sz5 b5))
        obtain ⟨w7, hw7⟩ : ∃ x, x = w6.setCell ⟨wr.heap.size, 7, none⟩ (.slice ad2 (l.length + 1) cp2) := ⟨_, rfl⟩
        have gX7 := GX7.out
        have k7 := K7.out
        have own7 := OWN7.out
        rw [← hw7] at gX7 k7 own7
        rw [← hw7]
        clear GX7 K7 OWN7 hw7 c7' f7' lt6 g0 g1 g2 g3 g4 g5 g6 g7 h0 h1 h2 h3 h4 h5 h6 h7
        have q7 : w7.ownsRow (wr.heap.size + 1) 46 8 (.slice ad2 (l.length + 1) cp2) (ml ++ [(((.mk k' ⟨pk', y', m', q'⟩ a' t' l' : ND), (.slice ad' l'.length cp' : Value)) : NV)]).length (cellsN (ml ++ [(((.mk k' ⟨pk', y', m', q'⟩ a' t' l' : ND), (.slice ad' l'.length cp' : Value)) : NV)])) := by
          rw [cellsN_append, List.length_append, show ml.length = l.length by rw [← HML.out, List.length_map]]
          exact own7
        have nX := nodesAt_own q7 ((RML.out.kp k7).append (RM.out.kp k7))
        rw [List.map_append, HML.out] at nX
        have nX2 : NodesAt w7 (.slice ad2 (l.length + 1) cp2) (l ++ [(.mk k' ⟨pk', y', m', q'⟩ a' t' l' : ND)]) := nX
        have K7 := Lib.hid k7
        have KF := Lib.hid (K3.out.trans (KL.out.trans k7))
        have NXH := Lib.hid nX2
        have GX := Lib.hid (fun w1 (qq : Kp w7 w1) => heap_block qq gX7)
        have GA := Lib.hid (fun w1 (qq : Kp w7 w1) => heap_block (k7.trans qq) GA7.out)
        have GB := Lib.hid (fun w1 (qq : Kp w7 w1) => heap_block (k7.trans qq) GB7.out)
        have e0 : ((cntN (.mk k ⟨pk, y, m, q⟩ a t l : ND) : Nat) : Int) = c0 := by rw [← HC0.out]; simp only [cntN]; omega
        have e1 : ((depN (.mk k ⟨pk, y, m, q⟩ a t l : ND) : Nat) : Int) = dl := by rw [← HDL.out]; simp only [depN, hk2]; first | rfl | (simp; done) | omega
        have e2 : cntN (.mk k ⟨pk, y, m, q⟩ a t (l ++ [(.mk k' ⟨pk', y', m', q'⟩ a' t' l' : ND)]) : ND) = cntN (.mk k ⟨pk, y, m, q⟩ a t l : ND) + cntN (.mk k' ⟨pk', y', m', q'⟩ a' t' l' : ND) := by simp only [cntN, cntL_append, cntL]; omega
        have e3 : depN (.mk k ⟨pk, y, m, q⟩ a t l : ND) ≤ depN (.mk k ⟨pk, y, m, q⟩ a t (l ++ [(.mk k' ⟨pk', y', m', q'⟩ a' t' l' : ND)]) : ND) := by simp only [depN, depL_append, depL]; omega
        obtain ⟨dxn, hdx⟩ : ∃ z, depN (.mk k ⟨pk, y, m, q⟩ a t (l ++ [(.mk k' ⟨pk', y', m', q'⟩ a' t' l' : ND)]) : ND) = z := ⟨_, rfl⟩
        rw [hdx] at e3
        obtain ⟨dx, hdx2⟩ : ∃ z : Int, (dxn : Int) = z := ⟨_, rfl⟩
        have e4 : dl ≤ dx := by omega
        have e5 : decide (dl ≤ dx) = true := decide_eq_true e4
        obtain ⟨cm, hcm⟩ : ∃ z : Int, ((cntN (.mk k' ⟨pk', y', m', q'⟩ a' t' l' : ND) : Nat) : Int) = z := ⟨_, rfl⟩
        have cm9 : 1 ≤ cm ∧ cm ≤ 1000 := by have := CM.out; have := cnt_pos (.mk k' ⟨pk', y', m', q'⟩ a' t' l' : ND); omega
        have hwr : IntKind.i64.wrap (c0 + cm) = c0 + cm := by rw [IntKind.wrap_i64]; omega
        have Q1 : ∀ w1, Kp w7 w1 → Calls Tryd.prog 29 #[.agg #[.int .i64 k, .int .i64 pk, .string y, .string m, .string q, .bool a, .bool t, .slice ad l.length cp]] w1 fun e w' => e = .returned (.int .i64 c0) ∧ Kp w1 w' := fun w1 qq => by
          have this := tCount_any (.mk k ⟨pk, y, m, q⟩ a t l : ND) (.slice ad l.length cp) w1 (HU.out.kp (KF.out.trans qq)) CN.out
          rw [e0] at this
          exact this
        have Q2 : ∀ w1, Kp w7 w1 → Calls Tryd.prog 31 #[.agg #[.int .i64 k, .int .i64 pk, .string y, .string m, .string q, .bool a, .bool t, .slice ad l.length cp]] w1 fun e w' => e = .returned (.int .i64 (dl)) ∧ Kp w1 w' := fun w1 qq => by
          have this := tDeep_any (.mk k ⟨pk, y, m, q⟩ a t l : ND) (.slice ad l.length cp) w1 (HU.out.kp (KF.out.trans qq)) CN.out
          rw [e1] at this
          exact this
        have Q3 : ∀ w1, Kp w7 w1 → Calls Tryd.prog 29 #[.agg #[.int .i64 k, .int .i64 pk, .string y, .string m, .string q, .bool a, .bool t, .slice ad2 (l.length + 1) cp2]] w1 fun e w' => e = .returned (.int .i64 (c0 + cm)) ∧ Kp w1 w' := fun w1 qq => by
          have this := tCount_any (.mk k ⟨pk, y, m, q⟩ a t (l ++ [(.mk k' ⟨pk', y', m', q'⟩ a' t' l' : ND)]) : ND) (.slice ad2 (l.length + 1) cp2) w1 (NXH.out.kp qq) (by rw [e2]; have := few_120 HF.out; have := few_120 HG.out; omega)
          rw [e2, Int.natCast_add, e0, hcm] at this
          exact this
        have Q4 : ∀ w1, Kp w7 w1 → Calls Tryd.prog 29 #[.agg #[.int .i64 k', .int .i64 pk', .string y', .string m', .string q', .bool a', .bool t', .slice ad' l'.length cp']] w1 fun e w' => e = .returned (.int .i64 cm) ∧ Kp w1 w' := fun w1 qq => by
          have this := tCount_any (.mk k' ⟨pk', y', m', q'⟩ a' t' l' : ND) (.slice ad' l'.length cp') w1 (HV.out.kp (KF.out.trans qq)) CM.out
          rw [hcm] at this
          exact this
        have Q5 : ∀ w1, Kp w7 w1 → Calls Tryd.prog 33 #[.agg #[.int .i64 k, .int .i64 pk, .string y, .string m, .string q, .bool a, .bool t, .slice ad2 (l.length + 1) cp2], .agg #[.int .i64 k, .int .i64 pk, .string y, .string m, .string q, .bool a, .bool t, .slice ad l.length cp]] w1 fun e w' => e = .returned (.bool false) ∧ Kp w1 w' := fun w1 qq => by
          have this := tSame_any (.mk k ⟨pk, y, m, q⟩ a t (l ++ [(.mk k' ⟨pk', y', m', q'⟩ a' t' l' : ND)]) : ND) (.mk k ⟨pk, y, m, q⟩ a t l : ND) (.slice ad2 (l.length + 1) cp2) (.slice ad l.length cp) w1 (NXH.out.kp qq) (HU.out.kp (KF.out.trans qq)) (by rw [e2]; have := few_120 HF.out; have := few_120 HG.out; omega)
          rw [same_no (by intro h; simp at h)] at this
          exact this
        have Q6 : ∀ w1, Kp w7 w1 → Calls Tryd.prog 31 #[.agg #[.int .i64 k, .int .i64 pk, .string y, .string m, .string q, .bool a, .bool t, .slice ad2 (l.length + 1) cp2]] w1 fun e w' => e = .returned (.int .i64 dx) ∧ Kp w1 w' := fun w1 qq => by
          have this := tDeep_any (.mk k ⟨pk, y, m, q⟩ a t (l ++ [(.mk k' ⟨pk', y', m', q'⟩ a' t' l' : ND)]) : ND) (.slice ad2 (l.length + 1) cp2) w1 (NXH.out.kp qq) (by rw [e2]; have := few_120 HF.out; have := few_120 HG.out; omega)
          rw [hdx, hdx2] at this
          exact this
        have Q1H := Lib.hid Q1
        have Q2H := Lib.hid Q2
        have Q3H := Lib.hid Q3
        have Q4H := Lib.hid Q4
        have Q5H := Lib.hid Q5
        have Q6H := Lib.hid Q6
        clear Q1 Q2 Q3 Q4 Q5 Q6 e0 e1 e2 e3 hdx hdx2 hcm gX7 k7 own7 q7 nX nX2 zX zX2 n0 n1 n2 n3 l0 l1 l2
        have KS := Lib.hid (fun w' (qq : Kp w7 w') => show w'.cell? ⟨w.heap.size, 0, none⟩ = some (.int .i64 k) ∧ w'.cell? ⟨w.heap.size, 1, none⟩ = some (.int .i64 pk) ∧ w'.cell? ⟨w.heap.size, 2, none⟩ = some (.string y) ∧ w'.cell? ⟨w.heap.size, 3, none⟩ = some (.string m) ∧ w'.cell? ⟨w.heap.size, 4, none⟩ = some (.string q) ∧ w'.cell? ⟨w.heap.size, 5, none⟩ = some (.bool a) ∧ w'.cell? ⟨w.heap.size, 6, none⟩ = some (.bool t) ∧ w'.cell? ⟨w.heap.size, 7, none⟩ = some (.slice ad l.length cp) ∧ w'.cell? ⟨w.heap.size + 1, 0, none⟩ = some (.int .i64 k') ∧ w'.cell? ⟨w.heap.size + 1, 1, none⟩ = some (.int .i64 pk') ∧ w'.cell? ⟨w.heap.size + 1, 2, none⟩ = some (.string y') ∧ w'.cell? ⟨w.heap.size + 1, 3, none⟩ = some (.string m') ∧ w'.cell? ⟨w.heap.size + 1, 4, none⟩ = some (.string q') ∧ w'.cell? ⟨w.heap.size + 1, 5, none⟩ = some (.bool a') ∧ w'.cell? ⟨w.heap.size + 1, 6, none⟩ = some (.bool t') ∧ w'.cell? ⟨w.heap.size + 1, 7, none⟩ = some (.slice ad' l'.length cp') ∧ w'.cell? ⟨wr.heap.size, 0, none⟩ = some (.int .i64 k) ∧ w'.cell? ⟨wr.heap.size, 1, none⟩ = some (.int .i64 pk) ∧ w'.cell? ⟨wr.heap.size, 2, none⟩ = some (.string y) ∧ w'.cell? ⟨wr.heap.size, 3, none⟩ = some (.string m) ∧ w'.cell? ⟨wr.heap.size, 4, none⟩ = some (.string q) ∧ w'.cell? ⟨wr.heap.size, 5, none⟩ = some (.bool a) ∧ w'.cell? ⟨wr.heap.size, 6, none⟩ = some (.bool t) ∧ w'.cell? ⟨wr.heap.size, 7, none⟩ = some (.slice ad2 (l.length + 1) cp2) ∧ Kp w7 w' from ⟨(row8 (GA.out _ qq)).1, (row8 (GA.out _ qq)).2.1, (row8 (GA.out _ qq)).2.2.1, (row8 (GA.out _ qq)).2.2.2.1, (row8 (GA.out _ qq)).2.2.2.2.1, (row8 (GA.out _ qq)).2.2.2.2.2.1, (row8 (GA.out _ qq)).2.2.2.2.2.2.1, (row8 (GA.out _ qq)).2.2.2.2.2.2.2, (row8 (GB.out _ qq)).1, (row8 (GB.out _ qq)).2.1, (row8 (GB.out _ qq)).2.2.1, (row8 (GB.out _ qq)).2.2.2.1, (row8 (GB.out _ qq)).2.2.2.2.1, (row8 (GB.out _ qq)).2.2.2.2.2.1, (row8 (GB.out _ qq)).2.2.2.2.2.2.1, (row8 (GB.out _ qq)).2.2.2.2.2.2.2, (row8 (GX.out _ qq)).1, (row8 (GX.out _ qq)).2.1, (row8 (GX.out _ qq)).2.2.1, (row8 (GX.out _ qq)).2.2.2.1, (row8 (GX.out _ qq)).2.2.2.2.1, (row8 (GX.out _ qq)).2.2.2.2.2.1, (row8 (GX.out _ qq)).2.2.2.2.2.2.1, (row8 (GX.out _ qq)).2.2.2.2.2.2.2, qq⟩)
        refine wp_region_held_drew (S := fun w' => w'.cell? ⟨w.heap.size, 0, none⟩ = some (.int .i64 k) ∧ w'.cell? ⟨w.heap.size, 1, none⟩ = some (.int .i64 pk) ∧ w'.cell? ⟨w.heap.size, 2, none⟩ = some (.string y) ∧ w'.cell? ⟨w.heap.size, 3, none⟩ = some (.string m) ∧ w'.cell? ⟨w.heap.size, 4, none⟩ = some (.string q) ∧ w'.cell? ⟨w.heap.size, 5, none⟩ = some (.bool a) ∧ w'.cell? ⟨w.heap.size, 6, none⟩ = some (.bool t) ∧ w'.cell? ⟨w.heap.size, 7, none⟩ = some (.slice ad l.length cp) ∧ w'.cell? ⟨w.heap.size + 1, 0, none⟩ = some (.int .i64 k') ∧ w'.cell? ⟨w.heap.size + 1, 1, none⟩ = some (.int .i64 pk') ∧ w'.cell? ⟨w.heap.size + 1, 2, none⟩ = some (.string y') ∧ w'.cell? ⟨w.heap.size + 1, 3, none⟩ = some (.string m') ∧ w'.cell? ⟨w.heap.size + 1, 4, none⟩ = some (.string q') ∧ w'.cell? ⟨w.heap.size + 1, 5, none⟩ = some (.bool a') ∧ w'.cell? ⟨w.heap.size + 1, 6, none⟩ = some (.bool t') ∧ w'.cell? ⟨w.heap.size + 1, 7, none⟩ = some (.slice ad' l'.length cp') ∧ w'.cell? ⟨wr.heap.size, 0, none⟩ = some (.int .i64 k) ∧ w'.cell? ⟨wr.heap.size, 1, none⟩ = some (.int .i64 pk) ∧ w'.cell? ⟨wr.heap.size, 2, none⟩ = some (.string y) ∧ w'.cell? ⟨wr.heap.size, 3, none⟩ = some (.string m) ∧ w'.cell? ⟨wr.heap.size, 4, none⟩ = some (.string q) ∧ w'.cell? ⟨wr.heap.size, 5, none⟩ = some (.bool a) ∧ w'.cell? ⟨wr.heap.size, 6, none⟩ = some (.bool t) ∧ w'.cell? ⟨wr.heap.size, 7, none⟩ = some (.slice ad2 (l.length + 1) cp2) ∧ Kp w7 w') (by kernel_rfl) ?_ (fun hHeld0 => ?_)
        · (try dsimp only); exact KS.out _ (by first | assumption | exact Kp.drew _ | exact Kp.refl _)
        refine tkW (v := ?_) 0 sC0 rfl (by kernel_rfl) (by kernel_rfl) (by kernel_rfl) (fun _ _ _ h => h) (by rfl) ?_ (by assumption) ?_
        rotate_left
        · intro w hSw; (try dsimp only at hSw); go_simp; (try with_reducible rfl)
        (try simp only [Act.put, sC0, List.setIfInBounds_toArray, List.set_cons_zero, List.set_cons_succ])
        refine tkW (v := ?_) 1 sC1 rfl (by kernel_rfl) (by kernel_rfl) (by kernel_rfl) (fun _ _ _ h => h) (by rfl) ?_ (by assumption) ?_
        rotate_left
        · intro w hSw; (try dsimp only at hSw); go_simp; (try with_reducible rfl)
        (try simp only [Act.put, sC1, List.setIfInBounds_toArray, List.set_cons_zero, List.set_cons_succ])
        refine tkW (v := ?_) 2 sC2 rfl (by kernel_rfl) (by kernel_rfl) (by kernel_rfl) (fun _ _ _ h => h) (by rfl) ?_ (by assumption) ?_
        rotate_left
        · intro w hSw; (try dsimp only at hSw); go_simp; (try with_reducible rfl)
        (try simp only [Act.put, sC2, List.setIfInBounds_toArray, List.set_cons_zero, List.set_cons_succ])
        refine tkW (v := ?_) 4 sC4 rfl (by kernel_rfl) (by kernel_rfl) (by kernel_rfl) (fun _ _ _ h => h) (by rfl) ?_ (by assumption) ?_
        rotate_left
        · intro w hSw; (try dsimp only at hSw); go_simp; (try with_reducible rfl)
        (try simp only [Act.put, sC4, List.setIfInBounds_toArray, List.set_cons_zero, List.set_cons_succ])
        refine tkE 3 sC3 rfl (by kernel_rfl) (fun K hK => ?_)
        go_simp
        (refine (Q1H.out _ (by first | assumption | exact Kp.drew _ | exact Kp.refl _)).mono ?_; rintro e w' ⟨rfl, k1⟩; have k2 := Kp.trans (show Kp w7 _ from (by first | assumption | exact Kp.drew _ | exact Kp.refl _)) k1; clear k1)
        (try go_wp2_with fail)
        refine hK.out _ _ ?_ (fun hHeld1 => ?_)
        · (try dsimp only); exact KS.out _ (by first | assumption | exact Kp.drew _ | exact Kp.refl _)
        clear hK K hHeld0
        (try simp only [Act.put, sC3, List.setIfInBounds_toArray, List.set_cons_zero, List.set_cons_succ])
        refine tkW (v := ?_) 5 sC5 rfl (by kernel_rfl) (by kernel_rfl) (by kernel_rfl) (fun _ _ _ h => h) (by rfl) ?_ (by assumption) ?_
        rotate_left
        · intro w hSw; (try dsimp only at hSw); go_simp; (try with_reducible rfl)
        (try simp only [Act.put, sC5, List.setIfInBounds_toArray, List.set_cons_zero, List.set_cons_succ])
        refine tkW (v := ?_) 6 sC6 rfl (by kernel_rfl) (by kernel_rfl) (by kernel_rfl) (fun _ _ _ h => h) (by rfl) ?_ (by assumption) ?_
        rotate_left
        · intro w hSw; (try dsimp only at hSw); go_simp; (try with_reducible rfl)
        (try simp only [Act.put, sC6, List.setIfInBounds_toArray, List.set_cons_zero, List.set_cons_succ])
        refine tkW (v := ?_) 7 sC7 rfl (by kernel_rfl) (by kernel_rfl) (by kernel_rfl) (fun _ _ _ h => h) (by rfl) ?_ (by assumption) ?_
        rotate_left
        · intro w hSw; (try dsimp only at hSw); go_simp; (try with_reducible rfl)
        (try simp only [Act.put, sC7, List.setIfInBounds_toArray, List.set_cons_zero, List.set_cons_succ])
        refine tkW (v := ?_) 8 sC8 rfl (by kernel_rfl) (by kernel_rfl) (by kernel_rfl) (fun _ _ _ h => h) (by rfl) ?_ (by assumption) ?_
        rotate_left
        · intro w hSw; (try dsimp only at hSw); go_simp; (try with_reducible rfl)
        (try simp only [Act.put, sC8, List.setIfInBounds_toArray, List.set_cons_zero, List.set_cons_succ])
        refine tkW (v := ?_) 10 sC10 rfl (by kernel_rfl) (by kernel_rfl) (by kernel_rfl) (fun _ _ _ h => h) (by rfl) ?_ (by assumption) ?_
        rotate_left
        · intro w hSw; (try dsimp only at hSw); go_simp; (try with_reducible rfl)
        (try simp only [Act.put, sC10, List.setIfInBounds_toArray, List.set_cons_zero, List.set_cons_succ])
        refine tkE 9 sC9 rfl (by kernel_rfl) (fun K hK => ?_)
        go_simp
        (refine (Q2H.out _ (by first | assumption | exact Kp.drew _ | exact Kp.refl _)).mono ?_; rintro e w' ⟨rfl, k1⟩; have k2 := Kp.trans (show Kp w7 _ from (by first | assumption | exact Kp.drew _ | exact Kp.refl _)) k1; clear k1)
        (try go_wp2_with fail)
        refine hK.out _ _ ?_ (fun hHeld2 => ?_)
        · (try dsimp only); exact KS.out _ (by first | assumption | exact Kp.drew _ | exact Kp.refl _)
        clear hK K hHeld1
        (try simp only [Act.put, sC9, List.setIfInBounds_toArray, List.set_cons_zero, List.set_cons_succ])
        refine tkW (v := ?_) 11 sC11 rfl (by kernel_rfl) (by kernel_rfl) (by kernel_rfl) (fun _ _ _ h => h) (by rfl) ?_ (by assumption) ?_
        rotate_left
        · intro w hSw; (try dsimp only at hSw); go_simp; (try with_reducible rfl)
        (try simp only [Act.put, sC11, List.setIfInBounds_toArray, List.set_cons_zero, List.set_cons_succ])
        refine tkW (v := ?_) 12 sC12 rfl (by kernel_rfl) (by kernel_rfl) (by kernel_rfl) (fun _ _ _ h => h) (by rfl) ?_ (by assumption) ?_
        rotate_left
        · intro w hSw; (try dsimp only at hSw); go_simp; (try with_reducible rfl)
        (try simp only [Act.put, sC12, List.setIfInBounds_toArray, List.set_cons_zero, List.set_cons_succ])
        refine tkW (v := ?_) 13 sC13 rfl (by kernel_rfl) (by kernel_rfl) (by kernel_rfl) (fun _ _ _ h => h) (by rfl) ?_ (by assumption) ?_
        rotate_left
        · intro w hSw; (try dsimp only at hSw); go_simp; (try with_reducible rfl)
        (try simp only [Act.put, sC13, List.setIfInBounds_toArray, List.set_cons_zero, List.set_cons_succ])
        refine tkW (v := ?_) 14 sC14 rfl (by kernel_rfl) (by kernel_rfl) (by kernel_rfl) (fun _ _ _ h => h) (by rfl) ?_ (by assumption) ?_
        rotate_left
        · intro w hSw; (try dsimp only at hSw); go_simp; (try with_reducible rfl)
        (try simp only [Act.put, sC14, List.setIfInBounds_toArray, List.set_cons_zero, List.set_cons_succ])
        refine tkW (v := ?_) 16 sC16 rfl (by kernel_rfl) (by kernel_rfl) (by kernel_rfl) (fun _ _ _ h => h) (by rfl) ?_ (by assumption) ?_
        rotate_left
        · intro w hSw; (try dsimp only at hSw); go_simp; (try with_reducible rfl)
        (try simp only [Act.put, sC16, List.setIfInBounds_toArray, List.set_cons_zero, List.set_cons_succ])
        refine tkW (v := ?_) 17 sC17 rfl (by kernel_rfl) (by kernel_rfl) (by kernel_rfl) (fun _ _ _ h => h) (by rfl) ?_ (by assumption) ?_
        rotate_left
        · intro w hSw; (try dsimp only at hSw); go_simp; (try with_reducible rfl)
        (try simp only [Act.put, sC17, List.setIfInBounds_toArray, List.set_cons_zero, List.set_cons_succ])
        refine tkE 15 sC15 rfl (by kernel_rfl) (fun K hK => ?_)
        go_simp
        (refine (Q3H.out _ (by first | assumption | exact Kp.drew _ | exact Kp.refl _)).mono ?_; rintro e w' ⟨rfl, k1⟩; have k2 := Kp.trans (show Kp w7 _ from (by first | assumption | exact Kp.drew _ | exact Kp.refl _)) k1; clear k1)
        (try go_wp2_with fail)
        refine hK.out _ _ ?_ (fun hHeld3 => ?_)
        · (try dsimp only); exact KS.out _ (by first | assumption | exact Kp.drew _ | exact Kp.refl _)
        clear hK K hHeld2
        (try simp only [Act.put, sC15, List.setIfInBounds_toArray, List.set_cons_zero, List.set_cons_succ])
        refine tkE 18 sC18 rfl (by kernel_rfl) (fun K hK => ?_)
        go_simp
        (refine (Q4H.out _ (by first | assumption | exact Kp.drew _ | exact Kp.refl _)).mono ?_; rintro e w' ⟨rfl, k1⟩; have k2 := Kp.trans (show Kp w7 _ from (by first | assumption | exact Kp.drew _ | exact Kp.refl _)) k1; clear k1)
        (try go_wp2_with fail)
        refine hK.out _ _ ?_ (fun hHeld4 => ?_)
        · (try dsimp only); exact KS.out _ (by first | assumption | exact Kp.drew _ | exact Kp.refl _)
        clear hK K hHeld3
        (try simp only [Act.put, sC18, List.setIfInBounds_toArray, List.set_cons_zero, List.set_cons_succ])
        refine tkW (v := ?_) 19 sC19 rfl (by kernel_rfl) (by kernel_rfl) (by kernel_rfl) (fun _ _ _ h => h) (by rfl) ?_ (by assumption) ?_
        rotate_left
        · intro w hSw; (try dsimp only at hSw); go_simp; (try with_reducible rfl)
        (try simp only [Act.put, sC19, List.setIfInBounds_toArray, List.set_cons_zero, List.set_cons_succ])
        refine tkW (v := ?_) 20 sC20 rfl (by kernel_rfl) (by kernel_rfl) (by kernel_rfl) (fun _ _ _ h => h) (by rfl) ?_ (by assumption) ?_
        rotate_left
        · intro w hSw; (try dsimp only at hSw); go_simp; (try with_reducible rfl)
        (try simp only [Act.put, sC20, List.setIfInBounds_toArray, List.set_cons_zero, List.set_cons_succ])
        refine tkW (v := ?_) 21 sC21 rfl (by kernel_rfl) (by kernel_rfl) (by kernel_rfl) (fun _ _ _ h => h) (by rfl) ?_ (by assumption) ?_
        rotate_left
        · intro w hSw; (try dsimp only at hSw); go_simp; (try with_reducible rfl)
        (try simp only [Act.put, sC21, List.setIfInBounds_toArray, List.set_cons_zero, List.set_cons_succ])
        refine tkW (v := ?_) 22 sC22 rfl (by kernel_rfl) (by kernel_rfl) (by kernel_rfl) (fun _ _ _ h => h) (by rfl) ?_ (by assumption) ?_
        rotate_left
        · intro w hSw; (try dsimp only at hSw); go_simp; (try with_reducible rfl)
        (try simp only [Act.put, sC22, List.setIfInBounds_toArray, List.set_cons_zero, List.set_cons_succ])
        refine tkW (v := ?_) 23 sC23 rfl (by kernel_rfl) (by kernel_rfl) (by kernel_rfl) (fun _ _ _ h => h) (by rfl) ?_ (by assumption) ?_
        rotate_left
        · intro w hSw; (try dsimp only at hSw); go_simp; (try with_reducible rfl)
        (try simp only [Act.put, sC23, List.setIfInBounds_toArray, List.set_cons_zero, List.set_cons_succ])
        refine tkW (v := ?_) 24 sC24 rfl (by kernel_rfl) (by kernel_rfl) (by kernel_rfl) (fun _ _ _ h => h) (by rfl) ?_ (by assumption) ?_
        rotate_left
        · intro w hSw; (try dsimp only at hSw); go_simp; (try with_reducible rfl)
        (try simp only [Act.put, sC24, List.setIfInBounds_toArray, List.set_cons_zero, List.set_cons_succ])
        refine tkE 25 sC25 rfl (by kernel_rfl) (fun K hK => ?_)
        go_simp
        (refine (Q5H.out _ (by first | assumption | exact Kp.drew _ | exact Kp.refl _)).mono ?_; rintro e w' ⟨rfl, k1⟩; have k2 := Kp.trans (show Kp w7 _ from (by first | assumption | exact Kp.drew _ | exact Kp.refl _)) k1; clear k1)
        (try go_wp2_with fail)
        refine hK.out _ _ ?_ (fun hHeld5 => ?_)
        · (try dsimp only); exact KS.out _ (by first | assumption | exact Kp.drew _ | exact Kp.refl _)
        clear hK K hHeld4
        (try simp only [Act.put, sC25, List.setIfInBounds_toArray, List.set_cons_zero, List.set_cons_succ])
        refine tkW (v := ?_) 26 sC26 rfl (by kernel_rfl) (by kernel_rfl) (by kernel_rfl) (fun _ _ _ h => h) (by rfl) ?_ (by assumption) ?_
        rotate_left
        · intro w hSw; (try dsimp only at hSw); go_simp; (try with_reducible rfl)
        (try simp only [Act.put, sC26, List.setIfInBounds_toArray, List.set_cons_zero, List.set_cons_succ])
        refine tkW (v := ?_) 27 sC27 rfl (by kernel_rfl) (by kernel_rfl) (by kernel_rfl) (fun _ _ _ h => h) (by rfl) ?_ (by assumption) ?_
        rotate_left
        · intro w hSw; (try dsimp only at hSw); go_simp; (try with_reducible rfl)
        (try simp only [Act.put, sC27, List.setIfInBounds_toArray, List.set_cons_zero, List.set_cons_succ])
        refine tkW (v := ?_) 28 sC28 rfl (by kernel_rfl) (by kernel_rfl) (by kernel_rfl) (fun _ _ _ h => h) (by rfl) ?_ (by assumption) ?_
        rotate_left
        · intro w hSw; (try dsimp only at hSw); go_simp; (try with_reducible rfl)
        (try simp only [Act.put, sC28, List.setIfInBounds_toArray, List.set_cons_zero, List.set_cons_succ])
        refine tkW (v := ?_) 29 sC29 rfl (by kernel_rfl) (by kernel_rfl) (by kernel_rfl) (fun _ _ _ h => h) (by rfl) ?_ (by assumption) ?_
        rotate_left
        · intro w hSw; (try dsimp only at hSw); go_simp; (try with_reducible rfl)
        (try simp only [Act.put, sC29, List.setIfInBounds_toArray, List.set_cons_zero, List.set_cons_succ])
        refine tkW (v := ?_) 31 sC31 rfl (by kernel_rfl) (by kernel_rfl) (by kernel_rfl) (fun _ _ _ h => h) (by rfl) ?_ (by assumption) ?_
        rotate_left
        · intro w hSw; (try dsimp only at hSw); go_simp; (try with_reducible rfl)
        (try simp only [Act.put, sC31, List.setIfInBounds_toArray, List.set_cons_zero, List.set_cons_succ])
        refine tkE 30 sC30 rfl (by kernel_rfl) (fun K hK => ?_)
        go_simp
        (refine (Q6H.out _ (by first | assumption | exact Kp.drew _ | exact Kp.refl _)).mono ?_; rintro e w' ⟨rfl, k1⟩; have k2 := Kp.trans (show Kp w7 _ from (by first | assumption | exact Kp.drew _ | exact Kp.refl _)) k1; clear k1)
        (try go_wp2_with fail)
        refine hK.out _ _ ?_ (fun hHeld6 => ?_)
        · (try dsimp only); exact KS.out _ (by first | assumption | exact Kp.drew _ | exact Kp.refl _)
        clear hK K hHeld5
        (try simp only [Act.put, sC30, List.setIfInBounds_toArray, List.set_cons_zero, List.set_cons_succ])
        refine tkW (v := ?_) 32 sC32 rfl (by kernel_rfl) (by kernel_rfl) (by kernel_rfl) (fun _ _ _ h => h) (by rfl) ?_ (by assumption) ?_
        rotate_left
        · intro w hSw; (try dsimp only at hSw); go_simp; (try with_reducible rfl)
        (try simp only [Act.put, sC32, List.setIfInBounds_toArray, List.set_cons_zero, List.set_cons_succ])
        refine tkW (v := ?_) 33 sC33 rfl (by kernel_rfl) (by kernel_rfl) (by kernel_rfl) (fun _ _ _ h => h) (by rfl) ?_ (by assumption) ?_
        rotate_left
        · intro w hSw; (try dsimp only at hSw); go_simp; (try with_reducible rfl)
        (try simp only [Act.put, sC33, List.setIfInBounds_toArray, List.set_cons_zero, List.set_cons_succ])
        refine tkW (v := ?_) 34 sC34 rfl (by kernel_rfl) (by kernel_rfl) (by kernel_rfl) (fun _ _ _ h => h) (by rfl) ?_ (by assumption) ?_
        rotate_left
        · intro w hSw; (try dsimp only at hSw); go_simp; (try with_reducible rfl)
        (try simp only [Act.put, sC34, List.setIfInBounds_toArray, List.set_cons_zero, List.set_cons_succ])
        refine wpAnyH_done (by kernel_rfl) ?_ _
        have KE := KF.out.trans k2
        go_wp2
        go_ret
        exact ⟨rfl, KE⟩
end Go.Proofs.YtjiikianmjmgcaaDoor
