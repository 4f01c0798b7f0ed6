/-
  Layer 21: the walk of OrderRises.
-/
import Derived.Test.YtjjpnglilalnmaaDoorL21E
import Derived.Test.YtjjpnglilalnmaaDoorL21D
import Derived.Test.YtjjpnglilalnmaaDoorGLeafA
namespace Go.Proofs.YtjjpnglilalnmaaDoor
open Go.RowKit
set_option linter.unusedVariables false
set_option linter.unusedSimpArgs false
/-- what rises from place to place -/
theorem rise_told {LL : List (List LF)} {a b : Nat} (h : leP (plc LL a) (plc LL b)) :
    (anyB (lls LL a) = false → anyB (lls LL b) = false ∧ a ≤ b) ∧
    (anyB (lls LL a) = true → anyB (lls LL b) = true → cmpK (keyA (lls LL a)) (keyB (lls LL a)) (keyA (lls LL b)) (keyB (lls LL b)) ≤ 0 ∧
      (cmpK (keyA (lls LL a)) (keyB (lls LL a)) (keyA (lls LL b)) (keyB (lls LL b)) = 0 → a ≤ b)) := by
  rw [leP_iff] at h
  unfold plc at h
  simp only at h
  have hk := cmpK_cases (keyA (lls LL a)) (keyB (lls LL a)) (keyA (lls LL b)) (keyB (lls LL b))
  constructor
  · intro ha
    have z1 : keyA (lls LL a) = 0 := by unfold keyA; rw [ha]; rfl
    have z2 : keyB (lls LL a) = 0 := by unfold keyB; rw [ha]; rfl
    rw [ha] at h
    cases hb : anyB (lls LL b) with
    | true => rw [hb] at h; simp at h
    | false =>
      have z3 : keyA (lls LL b) = 0 := by unfold keyA; rw [hb]; rfl
      have z4 : keyB (lls LL b) = 0 := by unfold keyB; rw [hb]; rfl
      rw [z1, z2, z3, z4] at h
      rw [hb] at h
      simp at h
      exact ⟨rfl, by omega⟩
  · intro ha hb
    rw [ha, hb] at h
    simp at h
    omega
set_option maxHeartbeats 16000000 in
set_option maxRecDepth 100000 in
theorem orises_few (vl : Value) (LL : List (List LF)) (w : World) (rl : LvsAt w vl LL) (gl : ∀ l ∈ LL, ∀ f ∈ l, LeafG f) (T : Tabs w) (hf : fewLL LL = false) :
    Calls Tryd.prog 5 #[vl] w fun e w' => e = .returned (.bool true) ∧ Kp w w' := by
  have AW := Lib.hid (fun w1 (kk : Kp w w1) => awake21 w1 (T.kp kk))
  have F := Lib.hid (fun w1 (kk : Kp w w1) => few21_any vl LL w1 (rl.kp kk))
  rw [hf] at F
  obtain ⟨ad, cp, rfl⟩ := rl.slice
  have K0 := Lib.hid (Kp.refl w)
  clear rl gl T
  go_enter Tryd.func5, Tryd.ntmps5
  go_wp2_with fail
  refine (AW.out _ (by first | with_reducible exact K0.out | with_reducible exact K0.out.trans (Kp.alloc _ _) | with_reducible exact (K0.out.trans (Kp.alloc _ _)).trans (Kp.alloc _ _) | with_reducible exact ((K0.out.trans (Kp.alloc _ _)).trans (Kp.alloc _ _)).trans (Kp.alloc _ _) | with_reducible exact K0.out.trans (Kp.drew _) | with_reducible exact K0.out.trans (Kp.drewN _ _))).mono ?_
  rintro e w1 ⟨rfl, kk⟩
  have K1 := Lib.hid ((show Kp w _ from (by first | with_reducible exact K0.out | with_reducible exact K0.out.trans (Kp.alloc _ _) | with_reducible exact (K0.out.trans (Kp.alloc _ _)).trans (Kp.alloc _ _) | with_reducible exact ((K0.out.trans (Kp.alloc _ _)).trans (Kp.alloc _ _)).trans (Kp.alloc _ _) | with_reducible exact K0.out.trans (Kp.drew _) | with_reducible exact K0.out.trans (Kp.drewN _ _))).trans kk)
  clear kk
  go_wp2_with fail
  refine (F.out _ (by first | with_reducible exact K1.out | with_reducible exact K1.out.trans (Kp.alloc _ _) | with_reducible exact (K1.out.trans (Kp.alloc _ _)).trans (Kp.alloc _ _) | with_reducible exact ((K1.out.trans (Kp.alloc _ _)).trans (Kp.alloc _ _)).trans (Kp.alloc _ _) | with_reducible exact K1.out.trans (Kp.drew _) | with_reducible exact K1.out.trans (Kp.drewN _ _))).mono ?_
  rintro e w2 ⟨rfl, kk⟩
  have K2 := Lib.hid ((show Kp w _ from (by first | with_reducible exact K1.out | with_reducible exact K1.out.trans (Kp.alloc _ _) | with_reducible exact (K1.out.trans (Kp.alloc _ _)).trans (Kp.alloc _ _) | with_reducible exact ((K1.out.trans (Kp.alloc _ _)).trans (Kp.alloc _ _)).trans (Kp.alloc _ _) | with_reducible exact K1.out.trans (Kp.drew _) | with_reducible exact K1.out.trans (Kp.drewN _ _))).trans kk)
  clear kk
  go_wp2
  go_ret
  exact ⟨rfl, K2.out⟩
abbrev rA0 : Oper := { dst := some 49, op := Go.Op.move (Go.Operand.tmp 4), type := 40, pos := "law.go:128", after := #[], guard := none }
abbrev rA1 : Oper := { dst := some 50, op := Go.Op.move (Go.Operand.tmp 6), type := 3, pos := "law.go:128", after := #[], guard := none }
abbrev rA2 : Oper := { dst := some 51, op := Go.Op.indexAddr 40 (Go.Operand.tmp 49) (Go.Operand.tmp 50), type := 0, pos := "law.go:128", after := #[{ on := 0, ground := Go.Ground.data }, { on := 1, ground := Go.Ground.data }], guard := none }
abbrev rA3 : Oper := { dst := some 52, op := Go.Op.load 3 (Go.Operand.tmp 51), type := 3, pos := "law.go:128", after := #[{ on := 2, ground := Go.Ground.data }], guard := none }
abbrev rA4 : Oper := { dst := some 53, op := Go.Op.move (Go.Operand.tmp 4), type := 40, pos := "law.go:128", after := #[], guard := none }
abbrev rA5 : Oper := { dst := some 54, op := Go.Op.move (Go.Operand.tmp 5), type := 3, pos := "law.go:128", after := #[], guard := none }
abbrev rA6 : Oper := { dst := some 55, op := Go.Op.indexAddr 40 (Go.Operand.tmp 53) (Go.Operand.tmp 54), type := 0, pos := "law.go:128", after := #[{ on := 4, ground := Go.Ground.data }, { on := 5, ground := Go.Ground.data }], guard := none }
abbrev rA7 : Oper := { dst := some 56, op := Go.Op.load 3 (Go.Operand.tmp 55), type := 3, pos := "law.go:128", after := #[{ on := 6, ground := Go.Ground.data }], guard := none }
abbrev rA8 : Oper := { dst := some 57, op := Go.Op.binOp Go.BinOp.eql 3 (Go.Operand.tmp 52) (Go.Operand.tmp 56) 3, type := 4, pos := "law.go:128", after := #[{ on := 3, ground := Go.Ground.data }, { on := 7, ground := Go.Ground.data }], guard := none }
abbrev rB0 : Oper := { dst := some 105, op := Go.Op.move (Go.Operand.tmp 11), type := 4, pos := "law.go:137", after := #[], guard := none }
abbrev rB1 : Oper := { dst := some 106, op := Go.Op.move (Go.Operand.tmp 105), type := 4, pos := "law.go:137", after := #[{ on := 0, ground := Go.Ground.data }], guard := none }
abbrev rB2 : Oper := { dst := some 107, op := Go.Op.move (Go.Operand.tmp 4), type := 40, pos := "law.go:137", after := #[{ on := 1, ground := Go.Ground.guard }], guard := some (1, true) }
abbrev rB3 : Oper := { dst := some 108, op := Go.Op.move (Go.Operand.tmp 6), type := 3, pos := "law.go:137", after := #[{ on := 1, ground := Go.Ground.guard }], guard := some (1, true) }
abbrev rB4 : Oper := { dst := some 109, op := Go.Op.indexAddr 40 (Go.Operand.tmp 107) (Go.Operand.tmp 108), type := 0, pos := "law.go:137", after := #[{ on := 2, ground := Go.Ground.data }, { on := 3, ground := Go.Ground.data }, { on := 1, ground := Go.Ground.guard }], guard := some (1, true) }
abbrev rB5 : Oper := { dst := some 110, op := Go.Op.load 3 (Go.Operand.tmp 109), type := 3, pos := "law.go:137", after := #[{ on := 4, ground := Go.Ground.data }, { on := 1, ground := Go.Ground.guard }], guard := some (1, true) }
abbrev rB6 : Oper := { dst := some 111, op := Go.Op.move (Go.Operand.tmp 4), type := 40, pos := "law.go:137", after := #[{ on := 1, ground := Go.Ground.guard }], guard := some (1, true) }
abbrev rB7 : Oper := { dst := some 112, op := Go.Op.move (Go.Operand.tmp 5), type := 3, pos := "law.go:137", after := #[{ on := 1, ground := Go.Ground.guard }], guard := some (1, true) }
abbrev rB8 : Oper := { dst := some 113, op := Go.Op.indexAddr 40 (Go.Operand.tmp 111) (Go.Operand.tmp 112), type := 0, pos := "law.go:137", after := #[{ on := 6, ground := Go.Ground.data }, { on := 7, ground := Go.Ground.data }, { on := 1, ground := Go.Ground.guard }], guard := some (1, true) }
abbrev rB9 : Oper := { dst := some 114, op := Go.Op.load 3 (Go.Operand.tmp 113), type := 3, pos := "law.go:137", after := #[{ on := 8, ground := Go.Ground.data }, { on := 1, ground := Go.Ground.guard }], guard := some (1, true) }
abbrev rB10 : Oper := { dst := some 115, op := Go.Op.binOp Go.BinOp.gtr 3 (Go.Operand.tmp 110) (Go.Operand.tmp 114) 3, type := 4, pos := "law.go:137", after := #[{ on := 5, ground := Go.Ground.data }, { on := 9, ground := Go.Ground.data }, { on := 1, ground := Go.Ground.guard }], guard := some (1, true) }
abbrev rB11 : Oper := { dst := some 116, op := Go.Op.pick (Go.Operand.tmp 106) (Go.Operand.tmp 115) (Go.Operand.const (Go.Value.bool false)), type := 4, pos := "law.go:137", after := #[{ on := 1, ground := Go.Ground.data }, { on := 10, ground := Go.Ground.data }], guard := none }
abbrev rB12 : Oper := { dst := some 117, op := Go.Op.move (Go.Operand.tmp 116), type := 4, pos := "law.go:137", after := #[{ on := 11, ground := Go.Ground.data }, { on := 1, ground := Go.Ground.chain }], guard := none }
abbrev rB13 : Oper := { dst := some 118, op := Go.Op.move (Go.Operand.tmp 8), type := 27, pos := "law.go:137", after := #[{ on := 12, ground := Go.Ground.guard }], guard := some (12, false) }
abbrev rB14 : Oper := { dst := some 119, op := Go.Op.binOp Go.BinOp.eql 27 (Go.Operand.tmp 118) (Go.Operand.const (Go.Value.int Go.IntKind.i64 0)) 27, type := 4, pos := "law.go:137", after := #[{ on := 13, ground := Go.Ground.data }, { on := 12, ground := Go.Ground.guard }], guard := some (12, false) }
abbrev rB15 : Oper := { dst := some 120, op := Go.Op.move (Go.Operand.tmp 119), type := 4, pos := "law.go:137", after := #[{ on := 14, ground := Go.Ground.data }, { on := 12, ground := Go.Ground.chain }, { on := 12, ground := Go.Ground.guard }], guard := some (12, false) }
abbrev rB16 : Oper := { dst := some 121, op := Go.Op.move (Go.Operand.tmp 10), type := 27, pos := "law.go:137", after := #[{ on := 15, ground := Go.Ground.guard }], guard := some (15, true) }
abbrev rB17 : Oper := { dst := some 122, op := Go.Op.binOp Go.BinOp.eql 27 (Go.Operand.tmp 121) (Go.Operand.const (Go.Value.int Go.IntKind.i64 0)) 27, type := 4, pos := "law.go:137", after := #[{ on := 16, ground := Go.Ground.data }, { on := 15, ground := Go.Ground.guard }], guard := some (15, true) }
abbrev rB18 : Oper := { dst := some 123, op := Go.Op.pick (Go.Operand.tmp 120) (Go.Operand.tmp 122) (Go.Operand.const (Go.Value.bool false)), type := 4, pos := "law.go:137", after := #[{ on := 15, ground := Go.Ground.data }, { on := 17, ground := Go.Ground.data }, { on := 12, ground := Go.Ground.guard }], guard := some (12, false) }
abbrev rB19 : Oper := { dst := some 124, op := Go.Op.move (Go.Operand.tmp 123), type := 4, pos := "law.go:137", after := #[{ on := 18, ground := Go.Ground.data }, { on := 15, ground := Go.Ground.chain }, { on := 12, ground := Go.Ground.guard }], guard := some (12, false) }
abbrev rB20 : Oper := { dst := some 125, op := Go.Op.load 26 (Go.Operand.tmp 7), type := 26, pos := "law.go:137", after := #[{ on := 19, ground := Go.Ground.guard }], guard := some (19, true) }
abbrev rB21 : Oper := { dst := some 126, op := Go.Op.load 26 (Go.Operand.tmp 9), type := 26, pos := "law.go:137", after := #[{ on := 19, ground := Go.Ground.guard }], guard := some (19, true) }
abbrev rB22 : Oper := { dst := some 127, op := Go.Op.call { callee := Go.Callee.value (Go.Operand.func 14), args := #[Go.Operand.tmp 125, Go.Operand.tmp 126], argTypes := #[26, 26] }, type := 3, pos := "law.go:137", after := #[{ on := 20, ground := Go.Ground.data }, { on := 21, ground := Go.Ground.data }, { on := 19, ground := Go.Ground.chain }, { on := 19, ground := Go.Ground.guard }], guard := some (19, true) }
abbrev rB23 : Oper := { dst := some 128, op := Go.Op.binOp Go.BinOp.gtr 3 (Go.Operand.tmp 127) (Go.Operand.const (Go.Value.int Go.IntKind.i64 0)) 3, type := 4, pos := "law.go:137", after := #[{ on := 22, ground := Go.Ground.data }, { on := 19, ground := Go.Ground.guard }], guard := some (19, true) }
abbrev rB24 : Oper := { dst := some 129, op := Go.Op.pick (Go.Operand.tmp 124) (Go.Operand.tmp 128) (Go.Operand.const (Go.Value.bool false)), type := 4, pos := "law.go:137", after := #[{ on := 19, ground := Go.Ground.data }, { on := 23, ground := Go.Ground.data }, { on := 12, ground := Go.Ground.guard }], guard := some (12, false) }
abbrev rB25 : Oper := { dst := some 130, op := Go.Op.pick (Go.Operand.tmp 117) (Go.Operand.const (Go.Value.bool true)) (Go.Operand.tmp 129), type := 4, pos := "law.go:137", after := #[{ on := 12, ground := Go.Ground.data }, { on := 24, ground := Go.Ground.data }], guard := none }
set_option maxHeartbeats 16000000 in
set_option maxRecDepth 100000 in
theorem orises_all (vl : Value) (LL : List (List LF)) (w : World) (rl : LvsAt w vl LL) (gl : ∀ l ∈ LL, ∀ f ∈ l, LeafG f) (T : Tabs w) (hf : fewLL LL = true) :
    Calls Tryd.prog 5 #[vl] w fun e w' => e = .returned (.bool true) ∧ Kp w w' := by
  obtain ⟨hls, hn⟩ := fewLL_ok hf gl
  have AW := Lib.hid (fun w1 (kk : Kp w w1) => awake21 w1 (T.kp kk))
  have F := Lib.hid (fun w1 (kk : Kp w w1) => few21_any vl LL w1 (rl.kp kk))
  rw [hf] at F
  have CS := Lib.hid (fun w1 (kk : Kp w w1) => osort_any vl LL w1 (rl.kp kk) hls (by omega) (T.kp kk))
  have CO := Lib.hid (fun j (hj : j < LL.length) u w1 (hu : LeavesAt w1 u (lls LL j)) (kk : Kp w w1) => okey_any u (lls LL j) w1 hu (hls _ (lls_mem hj)) (T.kp kk))
  have HL := Lib.hid rl
  obtain ⟨ad, cp, rfl⟩ := rl.slice
  have K0 := Lib.hid (Kp.refl w)
  clear rl gl T hls hf
  go_enter Tryd.func5, Tryd.ntmps5
  go_wp2_with fail
  refine (AW.out _ (by first | with_reducible exact K0.out | with_reducible exact K0.out.trans (Kp.alloc _ _) | with_reducible exact (K0.out.trans (Kp.alloc _ _)).trans (Kp.alloc _ _) | with_reducible exact ((K0.out.trans (Kp.alloc _ _)).trans (Kp.alloc _ _)).trans (Kp.alloc _ _) | with_reducible exact K0.out.trans (Kp.drew _) | with_reducible exact K0.out.trans (Kp.drewN _ _))).mono ?_
  rintro e w1 ⟨rfl, kk⟩
  have K1 := Lib.hid ((show Kp w _ from (by first | with_reducible exact K0.out | with_reducible exact K0.out.trans (Kp.alloc _ _) | with_reducible exact (K0.out.trans (Kp.alloc _ _)).trans (Kp.alloc _ _) | with_reducible exact ((K0.out.trans (Kp.alloc _ _)).trans (Kp.alloc _ _)).trans (Kp.alloc _ _) | with_reducible exact K0.out.trans (Kp.drew _) | with_reducible exact K0.out.trans (Kp.drewN _ _))).trans kk)
  clear kk
  go_wp2_with fail
  refine (F.out _ (by first | with_reducible exact K1.out | with_reducible exact K1.out.trans (Kp.alloc _ _) | with_reducible exact (K1.out.trans (Kp.alloc _ _)).trans (Kp.alloc _ _) | with_reducible exact ((K1.out.trans (Kp.alloc _ _)).trans (Kp.alloc _ _)).trans (Kp.alloc _ _) | with_reducible exact K1.out.trans (Kp.drew _) | with_reducible exact K1.out.trans (Kp.drewN _ _))).mono ?_
  rintro e w2 ⟨rfl, kk⟩
  have K2 := Lib.hid ((show Kp w _ from (by first | with_reducible exact K1.out | with_reducible exact K1.out.trans (Kp.alloc _ _) | with_reducible exact (K1.out.trans (Kp.alloc _ _)).trans (Kp.alloc _ _) | with_reducible exact ((K1.out.trans (Kp.alloc _ _)).trans (Kp.alloc _ _)).trans (Kp.alloc _ _) | with_reducible exact K1.out.trans (Kp.drew _) | with_reducible exact K1.out.trans (Kp.drewN _ _))).trans kk)
  clear kk
  go_wp2_with fail
  refine (CS.out _ (by first | with_reducible exact K2.out | with_reducible exact K2.out.trans (Kp.alloc _ _) | with_reducible exact (K2.out.trans (Kp.alloc _ _)).trans (Kp.alloc _ _) | with_reducible exact ((K2.out.trans (Kp.alloc _ _)).trans (Kp.alloc _ _)).trans (Kp.alloc _ _) | with_reducible exact K2.out.trans (Kp.drew _) | with_reducible exact K2.out.trans (Kp.drewN _ _))).mono ?_
  rintro e w3 ⟨v3, out, rfl, iv, so, kk⟩
  have K3 := Lib.hid ((show Kp w _ from (by first | with_reducible exact K2.out | with_reducible exact K2.out.trans (Kp.alloc _ _) | with_reducible exact (K2.out.trans (Kp.alloc _ _)).trans (Kp.alloc _ _) | with_reducible exact ((K2.out.trans (Kp.alloc _ _)).trans (Kp.alloc _ _)).trans (Kp.alloc _ _) | with_reducible exact K2.out.trans (Kp.drew _) | with_reducible exact K2.out.trans (Kp.drewN _ _))).trans kk)
  clear kk
  obtain ⟨g, hg1, hg2⟩ := so.told
  have hlen := so.len
  have G1 := Lib.hid (fun i (hi : i < LL.length) => show out.getD i 0 = (g i : Int) ∧ g i < LL.length from ⟨by rw [List.getD_eq_getElem?_getD, (hg1 i hi).1]; rfl, (hg1 i hi).2⟩)
  have G2 := Lib.hid (fun k i (h1 : k < i) (h2 : i < LL.length) => (⟨(hg2 k i h1 h2).1, rise_told (hg2 k i h1 h2).2⟩ : _ ∧ _))
  obtain ⟨sa, sc, rfl⟩ := iv.slice
  have HI := Lib.hid iv
  have HLN := Lib.hid hlen
  have J0 := Lib.hid (Kp.refl w3)
  rw [hlen]
  clear iv so hg1 hg2 hlen
  go_wp2
  go_loopw [5] (fun iv wr => ∃ i : Nat, i ≤ LL.length ∧ iv = .int .i64 i ∧ Hid (Kp w3 wr)) (fun iv _ => LL.length - (intOf iv).toNat)
  case atStart => exact ⟨0, Nat.zero_le _, rfl, J0⟩
  case round =>
    obtain ⟨i, hi, rfl, J⟩ := hrel
    by_cases hlt : i < LL.length
    · rcases HI.out with ⟨_, _, _, e⟩ | ⟨b, off, cap, ev, hc, hmx, hx⟩
      · have := HLN.out; rw [e] at this; simp at this; omega
      rw [HLN.out] at ev
      cases ev
      have HX := Lib.hid (fun j (hj : j < LL.length) w' (q : Kp w3 w') => cell_up q (show w3.cell? ⟨b, off + j, none⟩ = some (.int .i64 (g j)) by rw [hx j (by have := HLN.out; omega), (G1.out j hj).1]))
      obtain ⟨y, hy⟩ : ∃ y, g i = y := ⟨_, rfl⟩
      have yl := (G1.out i hlt).2
      have ci := HX.out i hlt _ J.out
      rw [hy] at ci yl
      have z1 : (i : Int) < (LL.length : Int) := by omega
      have z2 : (0 : Int) ≤ (i : Int) := by omega
      have z3 : decide ((y : Int) < 0) = false := decide_eq_false (by omega)
      have z4 : decide ((LL.length : Int) ≤ (y : Int)) = false := decide_eq_false (by omega)
      have z5 : decide (LL.length ≤ y) = false := decide_eq_false (by omega)
      have HY := Lib.hid hy
      have HLT := Lib.hid hlt
      clear hx hc hmx hy
      go_wp2
      clear ci
      go_loopw [6] (fun kv wr => ∃ k : Nat, k ≤ i ∧ kv = .int .i64 k ∧ Hid (Kp w3 wr)) (fun kv _ => i - (intOf kv).toNat)
      case atStart => exact ⟨0, Nat.zero_le _, rfl, J⟩
      case round =>
        obtain ⟨k, hk, rfl, J5⟩ := hrel
        by_cases hki : k < i
        · have HKI := Lib.hid hki
          have HK1 := Lib.hid (show k + 1 ≤ i by omega)
          have HKV := Lib.hid (show Value.int IntKind.i64 ((k : Int) + 1) = Value.int IntKind.i64 ((k + 1 : Nat) : Int) from by simp)
          have RT := (G2.out k i hki HLT.out)
          have ck := HX.out k (by omega) _ J5.out
          have ci := HX.out i HLT.out _ J5.out
          obtain ⟨x, hx⟩ : ∃ x, g k = x := ⟨_, rfl⟩
          have xl := (G1.out k (by omega)).2
          rw [hx, HY.out] at RT
          rw [hx] at ck xl
          rw [HY.out] at ci
          obtain ⟨hne, RT⟩ := RT
          have q0 : ((x : Int) == (y : Int)) = false := beq_eq_false_iff_ne.2 (by omega)
          have RT := Lib.hid RT
          rcases HL.out.kp (K3.out.trans J5.out) with ⟨_, _, _, e⟩ | ⟨lb, loff, lcap, ev, hc, hmx, hxx⟩
          · rw [e] at hlt; simp at hlt
          cases ev
          obtain ⟨ux, cx, rx⟩ := hxx x xl
          obtain ⟨uy, cy, ry⟩ := hxx y yl
          obtain ⟨ax, bx, rfl⟩ := rx.slice
          obtain ⟨ay, b_y, rfl⟩ := ry.slice
          have CA := Lib.hid (fun w1 (kk : Kp wr w1) => CO.out x xl _ w1 (rx.kp kk) (K3.out.trans (J5.out.trans kk)))
          have CB := Lib.hid (fun w1 (kk : Kp wr w1) => CO.out y yl _ w1 (ry.kp kk) (K3.out.trans (J5.out.trans kk)))
          have HS := Lib.hid (fun w' (q : Kp wr w') => show w'.cell? ⟨b, off + k, none⟩ = some (.int .i64 (x : Nat)) ∧ w'.cell? ⟨b, off + i, none⟩ = some (.int .i64 (y : Nat)) ∧ w'.cell? ⟨lb, loff + x, none⟩ = some (.slice ax (lls LL x).length bx) ∧ w'.cell? ⟨lb, loff + y, none⟩ = some (.slice ay (lls LL y).length b_y) from ⟨cell_up q ck, cell_up q ci, cell_up q cx, cell_up q cy⟩)
          have KS := Lib.hid (fun w' (kq : Kp wr w') => show w'.cell? ⟨b, off + k, none⟩ = some (.int .i64 (x : Nat)) ∧ w'.cell? ⟨b, off + i, none⟩ = some (.int .i64 (y : Nat)) ∧ Kp wr w' from ⟨(HS.out w' kq).1, (HS.out w' kq).2.1, kq⟩)
          have zx1 : (x : Int) < (LL.length : Int) := by omega
          have zx2 : (0 : Int) ≤ (x : Int) := by omega
          have zy1 : (y : Int) < (LL.length : Int) := by omega
          have zy2 : (0 : Int) ≤ (y : Int) := by omega
          have zk1 : (k : Int) < (LL.length : Int) := by omega
          have zk2 : (0 : Int) ≤ (k : Int) := by omega
          have CK := Lib.hid (fun w1 => kcmp_any (keyA (lls LL x)) (keyB (lls LL x)) (keyA (lls LL y)) (keyB (lls LL y)) w1)
          generalize keyA (lls LL x) = xa at *
          generalize keyB (lls LL x) = xb at *
          generalize keyA (lls LL y) = xc at *
          generalize keyB (lls LL y) = xd at *
          clear hxx hc hmx rx ry hx hne xl ck ci cx cy
          go_wp2_with fail
          refine wp_region_held_drew (S := fun w' => w'.cell? ⟨b, off + k, none⟩ = some (.int .i64 (x : Nat)) ∧ w'.cell? ⟨b, off + i, none⟩ = some (.int .i64 (y : Nat)) ∧ Kp wr w') (by kernel_rfl) ?_ (fun hHeld0 => ?_)
          · (try dsimp only); exact KS.out _ (by first | assumption | exact Kp.drew _ | exact Kp.refl _)
          refine tkW (v := ?_) 0 rA0 rfl (by kernel_rfl) (by kernel_rfl) (by kernel_rfl) (fun _ _ _ h => h) (by rfl) ?_ (by assumption) ?_
          rotate_left
          · intro w hSw; (try dsimp only at hSw); go_simp; (try with_reducible rfl)
          (try simp only [Act.put, rA0, List.setIfInBounds_toArray, List.set_cons_zero, List.set_cons_succ])
          refine tkW (v := ?_) 1 rA1 rfl (by kernel_rfl) (by kernel_rfl) (by kernel_rfl) (fun _ _ _ h => h) (by rfl) ?_ (by assumption) ?_
          rotate_left
          · intro w hSw; (try dsimp only at hSw); go_simp; (try with_reducible rfl)
          (try simp only [Act.put, rA1, List.setIfInBounds_toArray, List.set_cons_zero, List.set_cons_succ])
          refine tkW (v := ?_) 2 rA2 rfl (by kernel_rfl) (by kernel_rfl) (by kernel_rfl) (fun _ _ _ h => h) (by rfl) ?_ (by assumption) ?_
          rotate_left
          · intro w hSw; (try dsimp only at hSw); go_simp; (try with_reducible rfl)
          (try simp only [Act.put, rA2, List.setIfInBounds_toArray, List.set_cons_zero, List.set_cons_succ])
          refine tkW (v := ?_) 3 rA3 rfl (by kernel_rfl) (by kernel_rfl) (by kernel_rfl) (fun _ _ _ h => h) (by rfl) ?_ (by assumption) ?_
          rotate_left
          · intro w hSw; (try dsimp only at hSw); go_simp; (try with_reducible rfl)
          (try simp only [Act.put, rA3, List.setIfInBounds_toArray, List.set_cons_zero, List.set_cons_succ])
          refine tkW (v := ?_) 4 rA4 rfl (by kernel_rfl) (by kernel_rfl) (by kernel_rfl) (fun _ _ _ h => h) (by rfl) ?_ (by assumption) ?_
          rotate_left
          · intro w hSw; (try dsimp only at hSw); go_simp; (try with_reducible rfl)
          (try simp only [Act.put, rA4, List.setIfInBounds_toArray, List.set_cons_zero, List.set_cons_succ])
          refine tkW (v := ?_) 5 rA5 rfl (by kernel_rfl) (by kernel_rfl) (by kernel_rfl) (fun _ _ _ h => h) (by rfl) ?_ (by assumption) ?_
          rotate_left
          · intro w hSw; (try dsimp only at hSw); go_simp; (try with_reducible rfl)
          (try simp only [Act.put, rA5, List.setIfInBounds_toArray, List.set_cons_zero, List.set_cons_succ])
          refine tkW (v := ?_) 6 rA6 rfl (by kernel_rfl) (by kernel_rfl) (by kernel_rfl) (fun _ _ _ h => h) (by rfl) ?_ (by assumption) ?_
          rotate_left
          · intro w hSw; (try dsimp only at hSw); go_simp; (try with_reducible rfl)
          (try simp only [Act.put, rA6, List.setIfInBounds_toArray, List.set_cons_zero, List.set_cons_succ])
          refine tkW (v := ?_) 7 rA7 rfl (by kernel_rfl) (by kernel_rfl) (by kernel_rfl) (fun _ _ _ h => h) (by rfl) ?_ (by assumption) ?_
          rotate_left
          · intro w hSw; (try dsimp only at hSw); go_simp; (try with_reducible rfl)
          (try simp only [Act.put, rA7, List.setIfInBounds_toArray, List.set_cons_zero, List.set_cons_succ])
          refine tkW (v := ?_) 8 rA8 rfl (by kernel_rfl) (by kernel_rfl) (by kernel_rfl) (fun _ _ _ h => h) (by rfl) ?_ (by assumption) ?_
          rotate_left
          · intro w hSw; (try dsimp only at hSw); go_simp; (try with_reducible rfl)
          (try simp only [Act.put, rA8, List.setIfInBounds_toArray, List.set_cons_zero, List.set_cons_succ])
          refine wpAnyH_done (by kernel_rfl) ?_ _
          clear KS
          obtain ⟨W5, hW5⟩ : ∃ z, z = wr := ⟨_, rfl⟩
          obtain ⟨c0, c1, c2, c3⟩ := HS.out wr (Kp.refl _)
          cases ea : anyB (lls LL x) with
          | false =>
            obtain ⟨eb, hxy⟩ := RT.out.1 ea
            have q1 : decide ((y : Int) < (x : Int)) = false := decide_eq_false (by omega)
            have q1n : decide (y < x) = false := decide_eq_false (by omega)
            rw [ea, erE_f] at CA
            rw [eb, erE_f] at CB
            clear ea eb
            have KV0 := Lib.hid (Kp.refl wr)
            go_wp2_with fail
            refine (CA.out _ (by first | with_reducible exact KV0.out | with_reducible exact KV0.out.trans (Kp.alloc _ _) | with_reducible exact (KV0.out.trans (Kp.alloc _ _)).trans (Kp.alloc _ _) | with_reducible exact ((KV0.out.trans (Kp.alloc _ _)).trans (Kp.alloc _ _)).trans (Kp.alloc _ _) | with_reducible exact KV0.out.trans (Kp.drew _) | with_reducible exact KV0.out.trans (Kp.drewN _ _))).mono ?_
            rintro e w6 ⟨rfl, kk⟩
            have K6 := Lib.hid ((show Kp wr _ from (by first | with_reducible exact KV0.out | with_reducible exact KV0.out.trans (Kp.alloc _ _) | with_reducible exact (KV0.out.trans (Kp.alloc _ _)).trans (Kp.alloc _ _) | with_reducible exact ((KV0.out.trans (Kp.alloc _ _)).trans (Kp.alloc _ _)).trans (Kp.alloc _ _) | with_reducible exact KV0.out.trans (Kp.drew _) | with_reducible exact KV0.out.trans (Kp.drewN _ _))).trans kk)
            clear kk c0 c1 c2 c3
            obtain ⟨V, hV⟩ : ∃ z, z = w6.alloc (.cells #[.int .i64 xa, .int .i64 xb] 26) := ⟨_, rfl⟩
            have kv : Kp w6 V := by rw [hV]; exact Kp.alloc _ _
            have hg : V.heap[w6.heap.size]? = some (.cells #[.int .i64 xa, .int .i64 xb] 26 (0, 0)) := by rw [hV]; exact heap_at _ _ _ rfl
            have KV := Lib.hid (K6.out.trans kv)
            have HC := Lib.hid (fun w' (q : Kp V w') => show w'.cell? ⟨w6.heap.size, 0, none⟩ = some (.int .i64 xa) ∧ w'.cell? ⟨w6.heap.size, 1, none⟩ = some (.int .i64 xb) from ⟨cell_up q (by simp [World.cell?, hg]), cell_up q (by simp [World.cell?, hg])⟩)
            have HV := Lib.hid hV
            clear hV hg kv
            obtain ⟨c0, c1, c2, c3⟩ := HS.out w6 K6.out
            have lt1 : b < w6.heap.size := World.block_lt_of_cell? _ _ c0
            have lt2 : lb < w6.heap.size := World.block_lt_of_cell? _ _ c2
            have ne1 : ¬ b = w6.heap.size := by omega
            have ne2 : ¬ lb = w6.heap.size := by omega
            go_wp2_with fail
            rw [← HV.out]
            refine (CB.out _ KV.out).mono ?_
            rintro e w7 ⟨rfl, kk⟩
            have K7 := Lib.hid kk
            clear kk c0 c1 c2 c3 lt1 lt2 ne1 ne2
            obtain ⟨d0, d1⟩ := HC.out w7 K7.out
            have lt3 : w6.heap.size < w7.heap.size := World.block_lt_of_cell? _ _ d0
            have ne3 : ¬ w6.heap.size = w7.heap.size := by omega
            obtain ⟨U, hU⟩ : ∃ z, z = w7.alloc (.cells #[.int .i64 xc, .int .i64 xd] 26) := ⟨_, rfl⟩
            have ku : Kp w7 U := by rw [hU]; exact Kp.alloc _ _
            have hg : U.heap[w7.heap.size]? = some (.cells #[.int .i64 xc, .int .i64 xd] 26 (0, 0)) := by rw [hU]; exact heap_at _ _ _ rfl
            have KU := Lib.hid (K7.out.trans ku)
            have HD := Lib.hid (fun w' (q : Kp U w') => show w'.cell? ⟨w7.heap.size, 0, none⟩ = some (.int .i64 xc) ∧ w'.cell? ⟨w7.heap.size, 1, none⟩ = some (.int .i64 xd) from ⟨cell_up q (by simp [World.cell?, hg]), cell_up q (by simp [World.cell?, hg])⟩)
            have HU := Lib.hid hU
            clear hU hg ku
            have KS := Lib.hid (fun w' (kq : Kp U w') => show w'.cell? ⟨b, off + k, none⟩ = some (.int .i64 (x : Nat)) ∧ w'.cell? ⟨b, off + i, none⟩ = some (.int .i64 (y : Nat)) ∧ w'.cell? ⟨w6.heap.size, 0, none⟩ = some (.int .i64 xa) ∧ w'.cell? ⟨w6.heap.size, 1, none⟩ = some (.int .i64 xb) ∧ w'.cell? ⟨w7.heap.size, 0, none⟩ = some (.int .i64 xc) ∧ w'.cell? ⟨w7.heap.size, 1, none⟩ = some (.int .i64 xd) ∧ Kp U w' from ⟨(HS.out w' (KV.out.trans (KU.out.trans kq))).1, (HS.out w' (KV.out.trans (KU.out.trans kq))).2.1, (HC.out w' (KU.out.trans kq)).1, (HC.out w' (KU.out.trans kq)).2, (HD.out w' kq).1, (HD.out w' kq).2, kq⟩)
            have KUU := Lib.hid (Kp.refl U)
            go_wp2_with fail
            rw [← HU.out]
            refine wp_region_held_drew (S := fun w' => w'.cell? ⟨b, off + k, none⟩ = some (.int .i64 (x : Nat)) ∧ w'.cell? ⟨b, off + i, none⟩ = some (.int .i64 (y : Nat)) ∧ w'.cell? ⟨w6.heap.size, 0, none⟩ = some (.int .i64 xa) ∧ w'.cell? ⟨w6.heap.size, 1, none⟩ = some (.int .i64 xb) ∧ w'.cell? ⟨w7.heap.size, 0, none⟩ = some (.int .i64 xc) ∧ w'.cell? ⟨w7.heap.size, 1, none⟩ = some (.int .i64 xd) ∧ Kp U w') (by kernel_rfl) ?_ (fun hHeld0 => ?_)
            · (try dsimp only); exact KS.out _ (by first | assumption | exact Kp.drew _ | exact Kp.refl _)
            refine tkW (v := ?_) 0 rB0 rfl (by kernel_rfl) (by kernel_rfl) (by kernel_rfl) (fun _ _ _ h => h) (by rfl) ?_ (by assumption) ?_
            rotate_left
            · intro w hSw; (try dsimp only at hSw); go_simp; (try with_reducible rfl)
            (try simp only [Act.put, rB0, List.setIfInBounds_toArray, List.set_cons_zero, List.set_cons_succ])
            refine tkW (v := ?_) 1 rB1 rfl (by kernel_rfl) (by kernel_rfl) (by kernel_rfl) (fun _ _ _ h => h) (by rfl) ?_ (by assumption) ?_
            rotate_left
            · intro w hSw; (try dsimp only at hSw); go_simp; (try with_reducible rfl)
            (try simp only [Act.put, rB1, List.setIfInBounds_toArray, List.set_cons_zero, List.set_cons_succ])
            refine tkW (v := ?_) 2 rB2 rfl (by kernel_rfl) (by kernel_rfl) (by kernel_rfl) (fun _ _ _ h => h) (by rfl) ?_ (by assumption) ?_
            rotate_left
            · intro w hSw; (try dsimp only at hSw); go_simp; (try with_reducible rfl)
            (try simp only [Act.put, rB2, List.setIfInBounds_toArray, List.set_cons_zero, List.set_cons_succ])
            refine tkW (v := ?_) 3 rB3 rfl (by kernel_rfl) (by kernel_rfl) (by kernel_rfl) (fun _ _ _ h => h) (by rfl) ?_ (by assumption) ?_
            rotate_left
            · intro w hSw; (try dsimp only at hSw); go_simp; (try with_reducible rfl)
            (try simp only [Act.put, rB3, List.setIfInBounds_toArray, List.set_cons_zero, List.set_cons_succ])
            refine tkW (v := ?_) 4 rB4 rfl (by kernel_rfl) (by kernel_rfl) (by kernel_rfl) (fun _ _ _ h => h) (by rfl) ?_ (by assumption) ?_
            rotate_left
            · intro w hSw; (try dsimp only at hSw); go_simp; (try with_reducible rfl)
            (try simp only [Act.put, rB4, List.setIfInBounds_toArray, List.set_cons_zero, List.set_cons_succ])
            refine tkW (v := ?_) 5 rB5 rfl (by kernel_rfl) (by kernel_rfl) (by kernel_rfl) (fun _ _ _ h => h) (by rfl) ?_ (by assumption) ?_
            rotate_left
            · intro w hSw; (try dsimp only at hSw); go_simp; (try with_reducible rfl)
            (try simp only [Act.put, rB5, List.setIfInBounds_toArray, List.set_cons_zero, List.set_cons_succ])
            refine tkW (v := ?_) 6 rB6 rfl (by kernel_rfl) (by kernel_rfl) (by kernel_rfl) (fun _ _ _ h => h) (by rfl) ?_ (by assumption) ?_
            rotate_left
            · intro w hSw; (try dsimp only at hSw); go_simp; (try with_reducible rfl)
            (try simp only [Act.put, rB6, List.setIfInBounds_toArray, List.set_cons_zero, List.set_cons_succ])
            refine tkW (v := ?_) 7 rB7 rfl (by kernel_rfl) (by kernel_rfl) (by kernel_rfl) (fun _ _ _ h => h) (by rfl) ?_ (by assumption) ?_
            rotate_left
            · intro w hSw; (try dsimp only at hSw); go_simp; (try with_reducible rfl)
            (try simp only [Act.put, rB7, List.setIfInBounds_toArray, List.set_cons_zero, List.set_cons_succ])
            refine tkW (v := ?_) 8 rB8 rfl (by kernel_rfl) (by kernel_rfl) (by kernel_rfl) (fun _ _ _ h => h) (by rfl) ?_ (by assumption) ?_
            rotate_left
            · intro w hSw; (try dsimp only at hSw); go_simp; (try with_reducible rfl)
            (try simp only [Act.put, rB8, List.setIfInBounds_toArray, List.set_cons_zero, List.set_cons_succ])
            refine tkW (v := ?_) 9 rB9 rfl (by kernel_rfl) (by kernel_rfl) (by kernel_rfl) (fun _ _ _ h => h) (by rfl) ?_ (by assumption) ?_
            rotate_left
            · intro w hSw; (try dsimp only at hSw); go_simp; (try with_reducible rfl)
            (try simp only [Act.put, rB9, List.setIfInBounds_toArray, List.set_cons_zero, List.set_cons_succ])
            refine tkW (v := ?_) 10 rB10 rfl (by kernel_rfl) (by kernel_rfl) (by kernel_rfl) (fun _ _ _ h => h) (by rfl) ?_ (by assumption) ?_
            rotate_left
            · intro w hSw; (try dsimp only at hSw); go_simp; (try with_reducible rfl)
            (try simp only [Act.put, rB10, List.setIfInBounds_toArray, List.set_cons_zero, List.set_cons_succ])
            refine tkW (v := ?_) 11 rB11 rfl (by kernel_rfl) (by kernel_rfl) (by kernel_rfl) (fun _ _ _ h => h) (by rfl) ?_ (by assumption) ?_
            rotate_left
            · intro w hSw; (try dsimp only at hSw); go_simp; (try with_reducible rfl)
            (try simp only [Act.put, rB11, List.setIfInBounds_toArray, List.set_cons_zero, List.set_cons_succ])
            refine tkW (v := ?_) 12 rB12 rfl (by kernel_rfl) (by kernel_rfl) (by kernel_rfl) (fun _ _ _ h => h) (by rfl) ?_ (by assumption) ?_
            rotate_left
            · intro w hSw; (try dsimp only at hSw); go_simp; (try with_reducible rfl)
            (try simp only [Act.put, rB12, List.setIfInBounds_toArray, List.set_cons_zero, List.set_cons_succ])
            refine tkW (v := ?_) 13 rB13 rfl (by kernel_rfl) (by kernel_rfl) (by kernel_rfl) (fun _ _ _ h => h) (by rfl) ?_ (by assumption) ?_
            rotate_left
            · intro w hSw; (try dsimp only at hSw); go_simp; (try with_reducible rfl)
            (try simp only [Act.put, rB13, List.setIfInBounds_toArray, List.set_cons_zero, List.set_cons_succ])
            refine tkW (v := ?_) 14 rB14 rfl (by kernel_rfl) (by kernel_rfl) (by kernel_rfl) (fun _ _ _ h => h) (by rfl) ?_ (by assumption) ?_
            rotate_left
            · intro w hSw; (try dsimp only at hSw); go_simp; (try with_reducible rfl)
            (try simp only [Act.put, rB14, List.setIfInBounds_toArray, List.set_cons_zero, List.set_cons_succ])
            refine tkW (v := ?_) 15 rB15 rfl (by kernel_rfl) (by kernel_rfl) (by kernel_rfl) (fun _ _ _ h => h) (by rfl) ?_ (by assumption) ?_
            rotate_left
            · intro w hSw; (try dsimp only at hSw); go_simp; (try with_reducible rfl)
            (try simp only [Act.put, rB15, List.setIfInBounds_toArray, List.set_cons_zero, List.set_cons_succ])
            refine tkU 16 rB16 rfl (by kernel_rfl) (by kernel_rfl) (by kernel_rfl) (fun _ _ _ h => h) (by rfl) (by assumption) ?_
            (try simp only [Act.put, rB16, List.setIfInBounds_toArray, List.set_cons_zero, List.set_cons_succ])
            refine tkU 17 rB17 rfl (by kernel_rfl) (by kernel_rfl) (by kernel_rfl) (fun _ _ _ h => h) (by rfl) (by assumption) ?_
            (try simp only [Act.put, rB17, List.setIfInBounds_toArray, List.set_cons_zero, List.set_cons_succ])
            refine tkW (v := ?_) 18 rB18 rfl (by kernel_rfl) (by kernel_rfl) (by kernel_rfl) (fun _ _ _ h => h) (by rfl) ?_ (by assumption) ?_
            rotate_left
            · intro w hSw; (try dsimp only at hSw); go_simp; (try with_reducible rfl)
            (try simp only [Act.put, rB18, List.setIfInBounds_toArray, List.set_cons_zero, List.set_cons_succ])
            refine tkW (v := ?_) 19 rB19 rfl (by kernel_rfl) (by kernel_rfl) (by kernel_rfl) (fun _ _ _ h => h) (by rfl) ?_ (by assumption) ?_
            rotate_left
            · intro w hSw; (try dsimp only at hSw); go_simp; (try with_reducible rfl)
            (try simp only [Act.put, rB19, List.setIfInBounds_toArray, List.set_cons_zero, List.set_cons_succ])
            refine tkU 20 rB20 rfl (by kernel_rfl) (by kernel_rfl) (by kernel_rfl) (fun _ _ _ h => h) (by rfl) (by assumption) ?_
            (try simp only [Act.put, rB20, List.setIfInBounds_toArray, List.set_cons_zero, List.set_cons_succ])
            refine tkU 21 rB21 rfl (by kernel_rfl) (by kernel_rfl) (by kernel_rfl) (fun _ _ _ h => h) (by rfl) (by assumption) ?_
            (try simp only [Act.put, rB21, List.setIfInBounds_toArray, List.set_cons_zero, List.set_cons_succ])
            refine tkU 22 rB22 rfl (by kernel_rfl) (by kernel_rfl) (by kernel_rfl) (fun _ _ _ h => h) (by rfl) (by assumption) ?_
            (try simp only [Act.put, rB22, List.setIfInBounds_toArray, List.set_cons_zero, List.set_cons_succ])
            refine tkU 23 rB23 rfl (by kernel_rfl) (by kernel_rfl) (by kernel_rfl) (fun _ _ _ h => h) (by rfl) (by assumption) ?_
            (try simp only [Act.put, rB23, List.setIfInBounds_toArray, List.set_cons_zero, List.set_cons_succ])
            refine tkW (v := ?_) 24 rB24 rfl (by kernel_rfl) (by kernel_rfl) (by kernel_rfl) (fun _ _ _ h => h) (by rfl) ?_ (by assumption) ?_
            rotate_left
            · intro w hSw; (try dsimp only at hSw); go_simp; (try with_reducible rfl)
            (try simp only [Act.put, rB24, List.setIfInBounds_toArray, List.set_cons_zero, List.set_cons_succ])
            refine tkW (v := ?_) 25 rB25 rfl (by kernel_rfl) (by kernel_rfl) (by kernel_rfl) (fun _ _ _ h => h) (by rfl) ?_ (by assumption) ?_
            rotate_left
            · intro w hSw; (try dsimp only at hSw); go_simp; (try with_reducible rfl)
            (try simp only [Act.put, rB25, List.setIfInBounds_toArray, List.set_cons_zero, List.set_cons_succ])
            refine wpAnyH_done (by kernel_rfl) ?_ _
            have KE := Lib.hid (J5.out.trans (KV.out.trans (KU.out.trans (show Kp U _ from (by first | exact k2 | exact Kp.drew _ | exact k2.trans (Kp.drew _) | exact Kp.drewN _ _ | exact Kp.refl _)))))
            go_wp2
            go_roundw
            case rel => exact ⟨k + 1, HK1.out, HKV.out, KE⟩
            case measure => have hki := HKI.out; simp [intOf]; omega
          | true =>
            cases eb : anyB (lls LL y) with
            | false =>
              rw [ea, erE_t] at CA
              rw [eb, erE_f] at CB
              clear ea eb
              have KV0 := Lib.hid (Kp.refl wr)
              go_wp2_with fail
              refine (CA.out _ (by first | with_reducible exact KV0.out | with_reducible exact KV0.out.trans (Kp.alloc _ _) | with_reducible exact (KV0.out.trans (Kp.alloc _ _)).trans (Kp.alloc _ _) | with_reducible exact ((KV0.out.trans (Kp.alloc _ _)).trans (Kp.alloc _ _)).trans (Kp.alloc _ _) | with_reducible exact KV0.out.trans (Kp.drew _) | with_reducible exact KV0.out.trans (Kp.drewN _ _))).mono ?_
              rintro e w6 ⟨rfl, kk⟩
              have K6 := Lib.hid ((show Kp wr _ from (by first | with_reducible exact KV0.out | with_reducible exact KV0.out.trans (Kp.alloc _ _) | with_reducible exact (KV0.out.trans (Kp.alloc _ _)).trans (Kp.alloc _ _) | with_reducible exact ((KV0.out.trans (Kp.alloc _ _)).trans (Kp.alloc _ _)).trans (Kp.alloc _ _) | with_reducible exact KV0.out.trans (Kp.drew _) | with_reducible exact KV0.out.trans (Kp.drewN _ _))).trans kk)
              clear kk c0 c1 c2 c3
              obtain ⟨V, hV⟩ : ∃ z, z = w6.alloc (.cells #[.int .i64 xa, .int .i64 xb] 26) := ⟨_, rfl⟩
              have kv : Kp w6 V := by rw [hV]; exact Kp.alloc _ _
              have hg : V.heap[w6.heap.size]? = some (.cells #[.int .i64 xa, .int .i64 xb] 26 (0, 0)) := by rw [hV]; exact heap_at _ _ _ rfl
              have KV := Lib.hid (K6.out.trans kv)
              have HC := Lib.hid (fun w' (q : Kp V w') => show w'.cell? ⟨w6.heap.size, 0, none⟩ = some (.int .i64 xa) ∧ w'.cell? ⟨w6.heap.size, 1, none⟩ = some (.int .i64 xb) from ⟨cell_up q (by simp [World.cell?, hg]), cell_up q (by simp [World.cell?, hg])⟩)
              have HV := Lib.hid hV
              clear hV hg kv
              obtain ⟨c0, c1, c2, c3⟩ := HS.out w6 K6.out
              have lt1 : b < w6.heap.size := World.block_lt_of_cell? _ _ c0
              have lt2 : lb < w6.heap.size := World.block_lt_of_cell? _ _ c2
              have ne1 : ¬ b = w6.heap.size := by omega
              have ne2 : ¬ lb = w6.heap.size := by omega
              go_wp2_with fail
              rw [← HV.out]
              refine (CB.out _ KV.out).mono ?_
              rintro e w7 ⟨rfl, kk⟩
              have K7 := Lib.hid kk
              clear kk c0 c1 c2 c3 lt1 lt2 ne1 ne2
              obtain ⟨d0, d1⟩ := HC.out w7 K7.out
              have lt3 : w6.heap.size < w7.heap.size := World.block_lt_of_cell? _ _ d0
              have ne3 : ¬ w6.heap.size = w7.heap.size := by omega
              obtain ⟨U, hU⟩ : ∃ z, z = w7.alloc (.cells #[.int .i64 xc, .int .i64 xd] 26) := ⟨_, rfl⟩
              have ku : Kp w7 U := by rw [hU]; exact Kp.alloc _ _
              have hg : U.heap[w7.heap.size]? = some (.cells #[.int .i64 xc, .int .i64 xd] 26 (0, 0)) := by rw [hU]; exact heap_at _ _ _ rfl
              have KU := Lib.hid (K7.out.trans ku)
              have HD := Lib.hid (fun w' (q : Kp U w') => show w'.cell? ⟨w7.heap.size, 0, none⟩ = some (.int .i64 xc) ∧ w'.cell? ⟨w7.heap.size, 1, none⟩ = some (.int .i64 xd) from ⟨cell_up q (by simp [World.cell?, hg]), cell_up q (by simp [World.cell?, hg])⟩)
              have HU := Lib.hid hU
              clear hU hg ku
              have KS := Lib.hid (fun w' (kq : Kp U w') => show w'.cell? ⟨b, off + k, none⟩ = some (.int .i64 (x : Nat)) ∧ w'.cell? ⟨b, off + i, none⟩ = some (.int .i64 (y : Nat)) ∧ w'.cell? ⟨w6.heap.size, 0, none⟩ = some (.int .i64 xa) ∧ w'.cell? ⟨w6.heap.size, 1, none⟩ = some (.int .i64 xb) ∧ w'.cell? ⟨w7.heap.size, 0, none⟩ = some (.int .i64 xc) ∧ w'.cell? ⟨w7.heap.size, 1, none⟩ = some (.int .i64 xd) ∧ Kp U w' from ⟨(HS.out w' (KV.out.trans (KU.out.trans kq))).1, (HS.out w' (KV.out.trans (KU.out.trans kq))).2.1, (HC.out w' (KU.out.trans kq)).1, (HC.out w' (KU.out.trans kq)).2, (HD.out w' kq).1, (HD.out w' kq).2, kq⟩)
              have KUU := Lib.hid (Kp.refl U)
              go_wp2_with fail
              rw [← HU.out]
              refine wp_region_held_drew (S := fun w' => w'.cell? ⟨b, off + k, none⟩ = some (.int .i64 (x : Nat)) ∧ w'.cell? ⟨b, off + i, none⟩ = some (.int .i64 (y : Nat)) ∧ w'.cell? ⟨w6.heap.size, 0, none⟩ = some (.int .i64 xa) ∧ w'.cell? ⟨w6.heap.size, 1, none⟩ = some (.int .i64 xb) ∧ w'.cell? ⟨w7.heap.size, 0, none⟩ = some (.int .i64 xc) ∧ w'.cell? ⟨w7.heap.size, 1, none⟩ = some (.int .i64 xd) ∧ Kp U w') (by kernel_rfl) ?_ (fun hHeld0 => ?_)
              · (try dsimp only); exact KS.out _ (by first | assumption | exact Kp.drew _ | exact Kp.refl _)
              refine tkW (v := ?_) 0 rB0 rfl (by kernel_rfl) (by kernel_rfl) (by kernel_rfl) (fun _ _ _ h => h) (by rfl) ?_ (by assumption) ?_
              rotate_left
              · intro w hSw; (try dsimp only at hSw); go_simp; (try with_reducible rfl)
              (try simp only [Act.put, rB0, List.setIfInBounds_toArray, List.set_cons_zero, List.set_cons_succ])
              refine tkW (v := ?_) 1 rB1 rfl (by kernel_rfl) (by kernel_rfl) (by kernel_rfl) (fun _ _ _ h => h) (by rfl) ?_ (by assumption) ?_
              rotate_left
              · intro w hSw; (try dsimp only at hSw); go_simp; (try with_reducible rfl)
              (try simp only [Act.put, rB1, List.setIfInBounds_toArray, List.set_cons_zero, List.set_cons_succ])
              refine tkU 2 rB2 rfl (by kernel_rfl) (by kernel_rfl) (by kernel_rfl) (fun _ _ _ h => h) (by rfl) (by assumption) ?_
              (try simp only [Act.put, rB2, List.setIfInBounds_toArray, List.set_cons_zero, List.set_cons_succ])
              refine tkU 3 rB3 rfl (by kernel_rfl) (by kernel_rfl) (by kernel_rfl) (fun _ _ _ h => h) (by rfl) (by assumption) ?_
              (try simp only [Act.put, rB3, List.setIfInBounds_toArray, List.set_cons_zero, List.set_cons_succ])
              refine tkU 4 rB4 rfl (by kernel_rfl) (by kernel_rfl) (by kernel_rfl) (fun _ _ _ h => h) (by rfl) (by assumption) ?_
              (try simp only [Act.put, rB4, List.setIfInBounds_toArray, List.set_cons_zero, List.set_cons_succ])
              refine tkU 5 rB5 rfl (by kernel_rfl) (by kernel_rfl) (by kernel_rfl) (fun _ _ _ h => h) (by rfl) (by assumption) ?_
              (try simp only [Act.put, rB5, List.setIfInBounds_toArray, List.set_cons_zero, List.set_cons_succ])
              refine tkU 6 rB6 rfl (by kernel_rfl) (by kernel_rfl) (by kernel_rfl) (fun _ _ _ h => h) (by rfl) (by assumption) ?_
              (try simp only [Act.put, rB6, List.setIfInBounds_toArray, List.set_cons_zero, List.set_cons_succ])
              refine tkU 7 rB7 rfl (by kernel_rfl) (by kernel_rfl) (by kernel_rfl) (fun _ _ _ h => h) (by rfl) (by assumption) ?_
              (try simp only [Act.put, rB7, List.setIfInBounds_toArray, List.set_cons_zero, List.set_cons_succ])
              refine tkU 8 rB8 rfl (by kernel_rfl) (by kernel_rfl) (by kernel_rfl) (fun _ _ _ h => h) (by rfl) (by assumption) ?_
              (try simp only [Act.put, rB8, List.setIfInBounds_toArray, List.set_cons_zero, List.set_cons_succ])
              refine tkU 9 rB9 rfl (by kernel_rfl) (by kernel_rfl) (by kernel_rfl) (fun _ _ _ h => h) (by rfl) (by assumption) ?_
              (try simp only [Act.put, rB9, List.setIfInBounds_toArray, List.set_cons_zero, List.set_cons_succ])
              refine tkU 10 rB10 rfl (by kernel_rfl) (by kernel_rfl) (by kernel_rfl) (fun _ _ _ h => h) (by rfl) (by assumption) ?_
              (try simp only [Act.put, rB10, List.setIfInBounds_toArray, List.set_cons_zero, List.set_cons_succ])
              refine tkW (v := ?_) 11 rB11 rfl (by kernel_rfl) (by kernel_rfl) (by kernel_rfl) (fun _ _ _ h => h) (by rfl) ?_ (by assumption) ?_
              rotate_left
              · intro w hSw; (try dsimp only at hSw); go_simp; (try with_reducible rfl)
              (try simp only [Act.put, rB11, List.setIfInBounds_toArray, List.set_cons_zero, List.set_cons_succ])
              refine tkW (v := ?_) 12 rB12 rfl (by kernel_rfl) (by kernel_rfl) (by kernel_rfl) (fun _ _ _ h => h) (by rfl) ?_ (by assumption) ?_
              rotate_left
              · intro w hSw; (try dsimp only at hSw); go_simp; (try with_reducible rfl)
              (try simp only [Act.put, rB12, List.setIfInBounds_toArray, List.set_cons_zero, List.set_cons_succ])
              refine tkW (v := ?_) 13 rB13 rfl (by kernel_rfl) (by kernel_rfl) (by kernel_rfl) (fun _ _ _ h => h) (by rfl) ?_ (by assumption) ?_
              rotate_left
              · intro w hSw; (try dsimp only at hSw); go_simp; (try with_reducible rfl)
              (try simp only [Act.put, rB13, List.setIfInBounds_toArray, List.set_cons_zero, List.set_cons_succ])
              refine tkW (v := ?_) 14 rB14 rfl (by kernel_rfl) (by kernel_rfl) (by kernel_rfl) (fun _ _ _ h => h) (by rfl) ?_ (by assumption) ?_
              rotate_left
              · intro w hSw; (try dsimp only at hSw); go_simp; (try with_reducible rfl)
              (try simp only [Act.put, rB14, List.setIfInBounds_toArray, List.set_cons_zero, List.set_cons_succ])
              refine tkW (v := ?_) 15 rB15 rfl (by kernel_rfl) (by kernel_rfl) (by kernel_rfl) (fun _ _ _ h => h) (by rfl) ?_ (by assumption) ?_
              rotate_left
              · intro w hSw; (try dsimp only at hSw); go_simp; (try with_reducible rfl)
              (try simp only [Act.put, rB15, List.setIfInBounds_toArray, List.set_cons_zero, List.set_cons_succ])
              refine tkW (v := ?_) 16 rB16 rfl (by kernel_rfl) (by kernel_rfl) (by kernel_rfl) (fun _ _ _ h => h) (by rfl) ?_ (by assumption) ?_
              rotate_left
              · intro w hSw; (try dsimp only at hSw); go_simp; (try with_reducible rfl)
              (try simp only [Act.put, rB16, List.setIfInBounds_toArray, List.set_cons_zero, List.set_cons_succ])
              refine tkW (v := ?_) 17 rB17 rfl (by kernel_rfl) (by kernel_rfl) (by kernel_rfl) (fun _ _ _ h => h) (by rfl) ?_ (by assumption) ?_
              rotate_left
              · intro w hSw; (try dsimp only at hSw); go_simp; (try with_reducible rfl)
              (try simp only [Act.put, rB17, List.setIfInBounds_toArray, List.set_cons_zero, List.set_cons_succ])
              refine tkW (v := ?_) 18 rB18 rfl (by kernel_rfl) (by kernel_rfl) (by kernel_rfl) (fun _ _ _ h => h) (by rfl) ?_ (by assumption) ?_
              rotate_left
              · intro w hSw; (try dsimp only at hSw); go_simp; (try with_reducible rfl)
              (try simp only [Act.put, rB18, List.setIfInBounds_toArray, List.set_cons_zero, List.set_cons_succ])
              refine tkW (v := ?_) 19 rB19 rfl (by kernel_rfl) (by kernel_rfl) (by kernel_rfl) (fun _ _ _ h => h) (by rfl) ?_ (by assumption) ?_
              rotate_left
              · intro w hSw; (try dsimp only at hSw); go_simp; (try with_reducible rfl)
              (try simp only [Act.put, rB19, List.setIfInBounds_toArray, List.set_cons_zero, List.set_cons_succ])
              refine tkU 20 rB20 rfl (by kernel_rfl) (by kernel_rfl) (by kernel_rfl) (fun _ _ _ h => h) (by rfl) (by assumption) ?_
              (try simp only [Act.put, rB20, List.setIfInBounds_toArray, List.set_cons_zero, List.set_cons_succ])
              refine tkU 21 rB21 rfl (by kernel_rfl) (by kernel_rfl) (by kernel_rfl) (fun _ _ _ h => h) (by rfl) (by assumption) ?_
              (try simp only [Act.put, rB21, List.setIfInBounds_toArray, List.set_cons_zero, List.set_cons_succ])
              refine tkU 22 rB22 rfl (by kernel_rfl) (by kernel_rfl) (by kernel_rfl) (fun _ _ _ h => h) (by rfl) (by assumption) ?_
              (try simp only [Act.put, rB22, List.setIfInBounds_toArray, List.set_cons_zero, List.set_cons_succ])
              refine tkU 23 rB23 rfl (by kernel_rfl) (by kernel_rfl) (by kernel_rfl) (fun _ _ _ h => h) (by rfl) (by assumption) ?_
              (try simp only [Act.put, rB23, List.setIfInBounds_toArray, List.set_cons_zero, List.set_cons_succ])
              refine tkW (v := ?_) 24 rB24 rfl (by kernel_rfl) (by kernel_rfl) (by kernel_rfl) (fun _ _ _ h => h) (by rfl) ?_ (by assumption) ?_
              rotate_left
              · intro w hSw; (try dsimp only at hSw); go_simp; (try with_reducible rfl)
              (try simp only [Act.put, rB24, List.setIfInBounds_toArray, List.set_cons_zero, List.set_cons_succ])
              refine tkW (v := ?_) 25 rB25 rfl (by kernel_rfl) (by kernel_rfl) (by kernel_rfl) (fun _ _ _ h => h) (by rfl) ?_ (by assumption) ?_
              rotate_left
              · intro w hSw; (try dsimp only at hSw); go_simp; (try with_reducible rfl)
              (try simp only [Act.put, rB25, List.setIfInBounds_toArray, List.set_cons_zero, List.set_cons_succ])
              refine wpAnyH_done (by kernel_rfl) ?_ _
              have KE := Lib.hid (J5.out.trans (KV.out.trans (KU.out.trans (show Kp U _ from (by first | exact k2 | exact Kp.drew _ | exact k2.trans (Kp.drew _) | exact Kp.drewN _ _ | exact Kp.refl _)))))
              go_wp2
              go_roundw
              case rel => exact ⟨k + 1, HK1.out, HKV.out, KE⟩
              case measure => have hki := HKI.out; simp [intOf]; omega
            | true =>
              obtain ⟨h1, h2⟩ := RT.out.2 ea eb
              have eqk := fun w1 => eqKey xa xb xc xd w1
              have q2 := (cmpK_three xa xb xc xd 0 0).2.1
              rw [q2] at eqk
              clear q2
              generalize cmpK xa xb xc xd = ck at *
              by_cases h0 : ck = 0
              · subst h0
                have hxy := h2 rfl
                have q1 : decide ((y : Int) < (x : Int)) = false := decide_eq_false (by omega)
                have q1n : decide (y < x) = false := decide_eq_false (by omega)
                have eqk2 : ∀ w1, (binOp .eql 26 (.agg #[.int .i64 xa, .int .i64 xb]) (.agg #[.int .i64 xc, .int .i64 xd])).run Tryd.prog w1 = .ok (.bool true) w1 := fun w1 => by rw [eqk w1]; rfl
                clear eqk h1 h2
                rw [ea, erE_t] at CA
                rw [eb, erE_t] at CB
                clear ea eb
                have KV0 := Lib.hid (Kp.refl wr)
                go_wp2_with fail
                refine (CA.out _ (by first | with_reducible exact KV0.out | with_reducible exact KV0.out.trans (Kp.alloc _ _) | with_reducible exact (KV0.out.trans (Kp.alloc _ _)).trans (Kp.alloc _ _) | with_reducible exact ((KV0.out.trans (Kp.alloc _ _)).trans (Kp.alloc _ _)).trans (Kp.alloc _ _) | with_reducible exact KV0.out.trans (Kp.drew _) | with_reducible exact KV0.out.trans (Kp.drewN _ _))).mono ?_
                rintro e w6 ⟨rfl, kk⟩
                have K6 := Lib.hid ((show Kp wr _ from (by first | with_reducible exact KV0.out | with_reducible exact KV0.out.trans (Kp.alloc _ _) | with_reducible exact (KV0.out.trans (Kp.alloc _ _)).trans (Kp.alloc _ _) | with_reducible exact ((KV0.out.trans (Kp.alloc _ _)).trans (Kp.alloc _ _)).trans (Kp.alloc _ _) | with_reducible exact KV0.out.trans (Kp.drew _) | with_reducible exact KV0.out.trans (Kp.drewN _ _))).trans kk)
                clear kk c0 c1 c2 c3
                obtain ⟨V, hV⟩ : ∃ z, z = w6.alloc (.cells #[.int .i64 xa, .int .i64 xb] 26) := ⟨_, rfl⟩
                have kv : Kp w6 V := by rw [hV]; exact Kp.alloc _ _
                have hg : V.heap[w6.heap.size]? = some (.cells #[.int .i64 xa, .int .i64 xb] 26 (0, 0)) := by rw [hV]; exact heap_at _ _ _ rfl
                have KV := Lib.hid (K6.out.trans kv)
                have HC := Lib.hid (fun w' (q : Kp V w') => show w'.cell? ⟨w6.heap.size, 0, none⟩ = some (.int .i64 xa) ∧ w'.cell? ⟨w6.heap.size, 1, none⟩ = some (.int .i64 xb) from ⟨cell_up q (by simp [World.cell?, hg]), cell_up q (by simp [World.cell?, hg])⟩)
                have HV := Lib.hid hV
                clear hV hg kv
                obtain ⟨c0, c1, c2, c3⟩ := HS.out w6 K6.out
                have lt1 : b < w6.heap.size := World.block_lt_of_cell? _ _ c0
                have lt2 : lb < w6.heap.size := World.block_lt_of_cell? _ _ c2
                have ne1 : ¬ b = w6.heap.size := by omega
                have ne2 : ¬ lb = w6.heap.size := by omega
                go_wp2_with fail
                rw [← HV.out]
                refine (CB.out _ KV.out).mono ?_
                rintro e w7 ⟨rfl, kk⟩
                have K7 := Lib.hid kk
                clear kk c0 c1 c2 c3 lt1 lt2 ne1 ne2
                obtain ⟨d0, d1⟩ := HC.out w7 K7.out
                have lt3 : w6.heap.size < w7.heap.size := World.block_lt_of_cell? _ _ d0
                have ne3 : ¬ w6.heap.size = w7.heap.size := by omega
                obtain ⟨U, hU⟩ : ∃ z, z = w7.alloc (.cells #[.int .i64 xc, .int .i64 xd] 26) := ⟨_, rfl⟩
                have ku : Kp w7 U := by rw [hU]; exact Kp.alloc _ _
                have hg : U.heap[w7.heap.size]? = some (.cells #[.int .i64 xc, .int .i64 xd] 26 (0, 0)) := by rw [hU]; exact heap_at _ _ _ rfl
                have KU := Lib.hid (K7.out.trans ku)
                have HD := Lib.hid (fun w' (q : Kp U w') => show w'.cell? ⟨w7.heap.size, 0, none⟩ = some (.int .i64 xc) ∧ w'.cell? ⟨w7.heap.size, 1, none⟩ = some (.int .i64 xd) from ⟨cell_up q (by simp [World.cell?, hg]), cell_up q (by simp [World.cell?, hg])⟩)
                have HU := Lib.hid hU
                clear hU hg ku
                have KS := Lib.hid (fun w' (kq : Kp U w') => show w'.cell? ⟨b, off + k, none⟩ = some (.int .i64 (x : Nat)) ∧ w'.cell? ⟨b, off + i, none⟩ = some (.int .i64 (y : Nat)) ∧ w'.cell? ⟨w6.heap.size, 0, none⟩ = some (.int .i64 xa) ∧ w'.cell? ⟨w6.heap.size, 1, none⟩ = some (.int .i64 xb) ∧ w'.cell? ⟨w7.heap.size, 0, none⟩ = some (.int .i64 xc) ∧ w'.cell? ⟨w7.heap.size, 1, none⟩ = some (.int .i64 xd) ∧ Kp U w' from ⟨(HS.out w' (KV.out.trans (KU.out.trans kq))).1, (HS.out w' (KV.out.trans (KU.out.trans kq))).2.1, (HC.out w' (KU.out.trans kq)).1, (HC.out w' (KU.out.trans kq)).2, (HD.out w' kq).1, (HD.out w' kq).2, kq⟩)
                have KUU := Lib.hid (Kp.refl U)
                go_wp2_with fail
                rw [← HU.out]
                refine wp_region_held_drew (S := fun w' => w'.cell? ⟨b, off + k, none⟩ = some (.int .i64 (x : Nat)) ∧ w'.cell? ⟨b, off + i, none⟩ = some (.int .i64 (y : Nat)) ∧ w'.cell? ⟨w6.heap.size, 0, none⟩ = some (.int .i64 xa) ∧ w'.cell? ⟨w6.heap.size, 1, none⟩ = some (.int .i64 xb) ∧ w'.cell? ⟨w7.heap.size, 0, none⟩ = some (.int .i64 xc) ∧ w'.cell? ⟨w7.heap.size, 1, none⟩ = some (.int .i64 xd) ∧ Kp U w') (by kernel_rfl) ?_ (fun hHeld0 => ?_)
                · (try dsimp only); exact KS.out _ (by first | assumption | exact Kp.drew _ | exact Kp.refl _)
                refine tkW (v := ?_) 0 rB0 rfl (by kernel_rfl) (by kernel_rfl) (by kernel_rfl) (fun _ _ _ h => h) (by rfl) ?_ (by assumption) ?_
                rotate_left
                · intro w hSw; (try dsimp only at hSw); go_simp; (try with_reducible rfl)
                (try simp only [Act.put, rB0, List.setIfInBounds_toArray, List.set_cons_zero, List.set_cons_succ])
                refine tkW (v := ?_) 1 rB1 rfl (by kernel_rfl) (by kernel_rfl) (by kernel_rfl) (fun _ _ _ h => h) (by rfl) ?_ (by assumption) ?_
                rotate_left
                · intro w hSw; (try dsimp only at hSw); go_simp; (try with_reducible rfl)
                (try simp only [Act.put, rB1, List.setIfInBounds_toArray, List.set_cons_zero, List.set_cons_succ])
                refine tkW (v := ?_) 2 rB2 rfl (by kernel_rfl) (by kernel_rfl) (by kernel_rfl) (fun _ _ _ h => h) (by rfl) ?_ (by assumption) ?_
                rotate_left
                · intro w hSw; (try dsimp only at hSw); go_simp; (try with_reducible rfl)
                (try simp only [Act.put, rB2, List.setIfInBounds_toArray, List.set_cons_zero, List.set_cons_succ])
                refine tkW (v := ?_) 3 rB3 rfl (by kernel_rfl) (by kernel_rfl) (by kernel_rfl) (fun _ _ _ h => h) (by rfl) ?_ (by assumption) ?_
                rotate_left
                · intro w hSw; (try dsimp only at hSw); go_simp; (try with_reducible rfl)
                (try simp only [Act.put, rB3, List.setIfInBounds_toArray, List.set_cons_zero, List.set_cons_succ])
                refine tkW (v := ?_) 4 rB4 rfl (by kernel_rfl) (by kernel_rfl) (by kernel_rfl) (fun _ _ _ h => h) (by rfl) ?_ (by assumption) ?_
                rotate_left
                · intro w hSw; (try dsimp only at hSw); go_simp; (try with_reducible rfl)
                (try simp only [Act.put, rB4, List.setIfInBounds_toArray, List.set_cons_zero, List.set_cons_succ])
                refine tkW (v := ?_) 5 rB5 rfl (by kernel_rfl) (by kernel_rfl) (by kernel_rfl) (fun _ _ _ h => h) (by rfl) ?_ (by assumption) ?_
                rotate_left
                · intro w hSw; (try dsimp only at hSw); go_simp; (try with_reducible rfl)
                (try simp only [Act.put, rB5, List.setIfInBounds_toArray, List.set_cons_zero, List.set_cons_succ])
                refine tkW (v := ?_) 6 rB6 rfl (by kernel_rfl) (by kernel_rfl) (by kernel_rfl) (fun _ _ _ h => h) (by rfl) ?_ (by assumption) ?_
                rotate_left
                · intro w hSw; (try dsimp only at hSw); go_simp; (try with_reducible rfl)
                (try simp only [Act.put, rB6, List.setIfInBounds_toArray, List.set_cons_zero, List.set_cons_succ])
                refine tkW (v := ?_) 7 rB7 rfl (by kernel_rfl) (by kernel_rfl) (by kernel_rfl) (fun _ _ _ h => h) (by rfl) ?_ (by assumption) ?_
                rotate_left
                · intro w hSw; (try dsimp only at hSw); go_simp; (try with_reducible rfl)
                (try simp only [Act.put, rB7, List.setIfInBounds_toArray, List.set_cons_zero, List.set_cons_succ])
                refine tkW (v := ?_) 8 rB8 rfl (by kernel_rfl) (by kernel_rfl) (by kernel_rfl) (fun _ _ _ h => h) (by rfl) ?_ (by assumption) ?_
                rotate_left
                · intro w hSw; (try dsimp only at hSw); go_simp; (try with_reducible rfl)
                (try simp only [Act.put, rB8, List.setIfInBounds_toArray, List.set_cons_zero, List.set_cons_succ])
                refine tkW (v := ?_) 9 rB9 rfl (by kernel_rfl) (by kernel_rfl) (by kernel_rfl) (fun _ _ _ h => h) (by rfl) ?_ (by assumption) ?_
                rotate_left
                · intro w hSw; (try dsimp only at hSw); go_simp; (try with_reducible rfl)
                (try simp only [Act.put, rB9, List.setIfInBounds_toArray, List.set_cons_zero, List.set_cons_succ])
                refine tkW (v := ?_) 10 rB10 rfl (by kernel_rfl) (by kernel_rfl) (by kernel_rfl) (fun _ _ _ h => h) (by rfl) ?_ (by assumption) ?_
                rotate_left
                · intro w hSw; (try dsimp only at hSw); go_simp; (try with_reducible rfl)
                (try simp only [Act.put, rB10, List.setIfInBounds_toArray, List.set_cons_zero, List.set_cons_succ])
                refine tkW (v := ?_) 11 rB11 rfl (by kernel_rfl) (by kernel_rfl) (by kernel_rfl) (fun _ _ _ h => h) (by rfl) ?_ (by assumption) ?_
                rotate_left
                · intro w hSw; (try dsimp only at hSw); go_simp; (try with_reducible rfl)
                (try simp only [Act.put, rB11, List.setIfInBounds_toArray, List.set_cons_zero, List.set_cons_succ])
                refine tkW (v := ?_) 12 rB12 rfl (by kernel_rfl) (by kernel_rfl) (by kernel_rfl) (fun _ _ _ h => h) (by rfl) ?_ (by assumption) ?_
                rotate_left
                · intro w hSw; (try dsimp only at hSw); go_simp; (try with_reducible rfl)
                (try simp only [Act.put, rB12, List.setIfInBounds_toArray, List.set_cons_zero, List.set_cons_succ])
                refine tkW (v := ?_) 13 rB13 rfl (by kernel_rfl) (by kernel_rfl) (by kernel_rfl) (fun _ _ _ h => h) (by rfl) ?_ (by assumption) ?_
                rotate_left
                · intro w hSw; (try dsimp only at hSw); go_simp; (try with_reducible rfl)
                (try simp only [Act.put, rB13, List.setIfInBounds_toArray, List.set_cons_zero, List.set_cons_succ])
                refine tkW (v := ?_) 14 rB14 rfl (by kernel_rfl) (by kernel_rfl) (by kernel_rfl) (fun _ _ _ h => h) (by rfl) ?_ (by assumption) ?_
                rotate_left
                · intro w hSw; (try dsimp only at hSw); go_simp; (try with_reducible rfl)
                (try simp only [Act.put, rB14, List.setIfInBounds_toArray, List.set_cons_zero, List.set_cons_succ])
                refine tkW (v := ?_) 15 rB15 rfl (by kernel_rfl) (by kernel_rfl) (by kernel_rfl) (fun _ _ _ h => h) (by rfl) ?_ (by assumption) ?_
                rotate_left
                · intro w hSw; (try dsimp only at hSw); go_simp; (try with_reducible rfl)
                (try simp only [Act.put, rB15, List.setIfInBounds_toArray, List.set_cons_zero, List.set_cons_succ])
                refine tkW (v := ?_) 16 rB16 rfl (by kernel_rfl) (by kernel_rfl) (by kernel_rfl) (fun _ _ _ h => h) (by rfl) ?_ (by assumption) ?_
                rotate_left
                · intro w hSw; (try dsimp only at hSw); go_simp; (try with_reducible rfl)
                (try simp only [Act.put, rB16, List.setIfInBounds_toArray, List.set_cons_zero, List.set_cons_succ])
                refine tkW (v := ?_) 17 rB17 rfl (by kernel_rfl) (by kernel_rfl) (by kernel_rfl) (fun _ _ _ h => h) (by rfl) ?_ (by assumption) ?_
                rotate_left
                · intro w hSw; (try dsimp only at hSw); go_simp; (try with_reducible rfl)
                (try simp only [Act.put, rB17, List.setIfInBounds_toArray, List.set_cons_zero, List.set_cons_succ])
                refine tkW (v := ?_) 18 rB18 rfl (by kernel_rfl) (by kernel_rfl) (by kernel_rfl) (fun _ _ _ h => h) (by rfl) ?_ (by assumption) ?_
                rotate_left
                · intro w hSw; (try dsimp only at hSw); go_simp; (try with_reducible rfl)
                (try simp only [Act.put, rB18, List.setIfInBounds_toArray, List.set_cons_zero, List.set_cons_succ])
                refine tkW (v := ?_) 19 rB19 rfl (by kernel_rfl) (by kernel_rfl) (by kernel_rfl) (fun _ _ _ h => h) (by rfl) ?_ (by assumption) ?_
                rotate_left
                · intro w hSw; (try dsimp only at hSw); go_simp; (try with_reducible rfl)
                (try simp only [Act.put, rB19, List.setIfInBounds_toArray, List.set_cons_zero, List.set_cons_succ])
                refine tkW (v := ?_) 20 rB20 rfl (by kernel_rfl) (by kernel_rfl) (by kernel_rfl) (fun _ _ _ h => h) (by rfl) ?_ (by assumption) ?_
                rotate_left
                · intro w hSw; (try dsimp only at hSw); go_simp; (try with_reducible rfl)
                (try simp only [Act.put, rB20, List.setIfInBounds_toArray, List.set_cons_zero, List.set_cons_succ])
                refine tkW (v := ?_) 21 rB21 rfl (by kernel_rfl) (by kernel_rfl) (by kernel_rfl) (fun _ _ _ h => h) (by rfl) ?_ (by assumption) ?_
                rotate_left
                · intro w hSw; (try dsimp only at hSw); go_simp; (try with_reducible rfl)
                (try simp only [Act.put, rB21, List.setIfInBounds_toArray, List.set_cons_zero, List.set_cons_succ])
                refine tkE 22 rB22 rfl (by kernel_rfl) (fun K hK => ?_)
                go_simp
                (refine (CK.out _).mono ?_; rintro e w' ⟨rfl, k1⟩; have k2 := Kp.trans (show Kp U _ from (by first | assumption | exact Kp.drew _)) k1; clear k1)
                (try go_wp2_with fail)
                refine hK.out _ _ ?_ (fun hHeld1 => ?_)
                · (try dsimp only); exact KS.out _ (by first | assumption | exact Kp.drew _ | exact Kp.refl _)
                clear hK K hHeld0
                (try simp only [Act.put, rB22, List.setIfInBounds_toArray, List.set_cons_zero, List.set_cons_succ])
                refine tkW (v := ?_) 23 rB23 rfl (by kernel_rfl) (by kernel_rfl) (by kernel_rfl) (fun _ _ _ h => h) (by rfl) ?_ (by assumption) ?_
                rotate_left
                · intro w hSw; (try dsimp only at hSw); go_simp; (try with_reducible rfl)
                (try simp only [Act.put, rB23, List.setIfInBounds_toArray, List.set_cons_zero, List.set_cons_succ])
                refine tkW (v := ?_) 24 rB24 rfl (by kernel_rfl) (by kernel_rfl) (by kernel_rfl) (fun _ _ _ h => h) (by rfl) ?_ (by assumption) ?_
                rotate_left
                · intro w hSw; (try dsimp only at hSw); go_simp; (try with_reducible rfl)
                (try simp only [Act.put, rB24, List.setIfInBounds_toArray, List.set_cons_zero, List.set_cons_succ])
                refine tkW (v := ?_) 25 rB25 rfl (by kernel_rfl) (by kernel_rfl) (by kernel_rfl) (fun _ _ _ h => h) (by rfl) ?_ (by assumption) ?_
                rotate_left
                · intro w hSw; (try dsimp only at hSw); go_simp; (try with_reducible rfl)
                (try simp only [Act.put, rB25, List.setIfInBounds_toArray, List.set_cons_zero, List.set_cons_succ])
                refine wpAnyH_done (by kernel_rfl) ?_ _
                have KE := Lib.hid (J5.out.trans (KV.out.trans (KU.out.trans (show Kp U _ from (by first | exact k2 | exact Kp.drew _ | exact k2.trans (Kp.drew _) | exact Kp.drewN _ _ | exact Kp.refl _)))))
                go_wp2
                go_roundw
                case rel => exact ⟨k + 1, HK1.out, HKV.out, KE⟩
                case measure => have hki := HKI.out; simp [intOf]; omega
              · have eqk2 : ∀ w1, (binOp .eql 26 (.agg #[.int .i64 xa, .int .i64 xb]) (.agg #[.int .i64 xc, .int .i64 xd])).run Tryd.prog w1 = .ok (.bool false) w1 := fun w1 => by rw [eqk w1, decide_eq_false h0]
                have q3 : decide (0 < ck) = false := decide_eq_false (by omega)
                clear eqk h0 h1 h2
                rw [ea, erE_t] at CA
                rw [eb, erE_t] at CB
                clear ea eb
                have KV0 := Lib.hid (Kp.refl wr)
                go_wp2_with fail
                refine (CA.out _ (by first | with_reducible exact KV0.out | with_reducible exact KV0.out.trans (Kp.alloc _ _) | with_reducible exact (KV0.out.trans (Kp.alloc _ _)).trans (Kp.alloc _ _) | with_reducible exact ((KV0.out.trans (Kp.alloc _ _)).trans (Kp.alloc _ _)).trans (Kp.alloc _ _) | with_reducible exact KV0.out.trans (Kp.drew _) | with_reducible exact KV0.out.trans (Kp.drewN _ _))).mono ?_
                rintro e w6 ⟨rfl, kk⟩
                have K6 := Lib.hid ((show Kp wr _ from (by first | with_reducible exact KV0.out | with_reducible exact KV0.out.trans (Kp.alloc _ _) | with_reducible exact (KV0.out.trans (Kp.alloc _ _)).trans (Kp.alloc _ _) | with_reducible exact ((KV0.out.trans (Kp.alloc _ _)).trans (Kp.alloc _ _)).trans (Kp.alloc _ _) | with_reducible exact KV0.out.trans (Kp.drew _) | with_reducible exact KV0.out.trans (Kp.drewN _ _))).trans kk)
                clear kk c0 c1 c2 c3
                obtain ⟨V, hV⟩ : ∃ z, z = w6.alloc (.cells #[.int .i64 xa, .int .i64 xb] 26) := ⟨_, rfl⟩
                have kv : Kp w6 V := by rw [hV]; exact Kp.alloc _ _
                have hg : V.heap[w6.heap.size]? = some (.cells #[.int .i64 xa, .int .i64 xb] 26 (0, 0)) := by rw [hV]; exact heap_at _ _ _ rfl
                have KV := Lib.hid (K6.out.trans kv)
                have HC := Lib.hid (fun w' (q : Kp V w') => show w'.cell? ⟨w6.heap.size, 0, none⟩ = some (.int .i64 xa) ∧ w'.cell? ⟨w6.heap.size, 1, none⟩ = some (.int .i64 xb) from ⟨cell_up q (by simp [World.cell?, hg]), cell_up q (by simp [World.cell?, hg])⟩)
                have HV := Lib.hid hV
                clear hV hg kv
                obtain ⟨c0, c1, c2, c3⟩ := HS.out w6 K6.out
                have lt1 : b < w6.heap.size := World.block_lt_of_cell? _ _ c0
                have lt2 : lb < w6.heap.size := World.block_lt_of_cell? _ _ c2
                have ne1 : ¬ b = w6.heap.size := by omega
                have ne2 : ¬ lb = w6.heap.size := by omega
                go_wp2_with fail
                rw [← HV.out]
                refine (CB.out _ KV.out).mono ?_
                rintro e w7 ⟨rfl, kk⟩
                have K7 := Lib.hid kk
                clear kk c0 c1 c2 c3 lt1 lt2 ne1 ne2
                obtain ⟨d0, d1⟩ := HC.out w7 K7.out
                have lt3 : w6.heap.size < w7.heap.size := World.block_lt_of_cell? _ _ d0
                have ne3 : ¬ w6.heap.size = w7.heap.size := by omega
                obtain ⟨U, hU⟩ : ∃ z, z = w7.alloc (.cells #[.int .i64 xc, .int .i64 xd] 26) := ⟨_, rfl⟩
                have ku : Kp w7 U := by rw [hU]; exact Kp.alloc _ _
                have hg : U.heap[w7.heap.size]? = some (.cells #[.int .i64 xc, .int .i64 xd] 26 (0, 0)) := by rw [hU]; exact heap_at _ _ _ rfl
                have KU := Lib.hid (K7.out.trans ku)
                have HD := Lib.hid (fun w' (q : Kp U w') => show w'.cell? ⟨w7.heap.size, 0, none⟩ = some (.int .i64 xc) ∧ w'.cell? ⟨w7.heap.size, 1, none⟩ = some (.int .i64 xd) from ⟨cell_up q (by simp [World.cell?, hg]), cell_up q (by simp [World.cell?, hg])⟩)
                have HU := Lib.hid hU
                clear hU hg ku
                have KS := Lib.hid (fun w' (kq : Kp U w') => show w'.cell? ⟨b, off + k, none⟩ = some (.int .i64 (x : Nat)) ∧ w'.cell? ⟨b, off + i, none⟩ = some (.int .i64 (y : Nat)) ∧ w'.cell? ⟨w6.heap.size, 0, none⟩ = some (.int .i64 xa) ∧ w'.cell? ⟨w6.heap.size, 1, none⟩ = some (.int .i64 xb) ∧ w'.cell? ⟨w7.heap.size, 0, none⟩ = some (.int .i64 xc) ∧ w'.cell? ⟨w7.heap.size, 1, none⟩ = some (.int .i64 xd) ∧ Kp U w' from ⟨(HS.out w' (KV.out.trans (KU.out.trans kq))).1, (HS.out w' (KV.out.trans (KU.out.trans kq))).2.1, (HC.out w' (KU.out.trans kq)).1, (HC.out w' (KU.out.trans kq)).2, (HD.out w' kq).1, (HD.out w' kq).2, kq⟩)
                have KUU := Lib.hid (Kp.refl U)
                go_wp2_with fail
                rw [← HU.out]
                refine wp_region_held_drew (S := fun w' => w'.cell? ⟨b, off + k, none⟩ = some (.int .i64 (x : Nat)) ∧ w'.cell? ⟨b, off + i, none⟩ = some (.int .i64 (y : Nat)) ∧ w'.cell? ⟨w6.heap.size, 0, none⟩ = some (.int .i64 xa) ∧ w'.cell? ⟨w6.heap.size, 1, none⟩ = some (.int .i64 xb) ∧ w'.cell? ⟨w7.heap.size, 0, none⟩ = some (.int .i64 xc) ∧ w'.cell? ⟨w7.heap.size, 1, none⟩ = some (.int .i64 xd) ∧ Kp U w') (by kernel_rfl) ?_ (fun hHeld0 => ?_)
                · (try dsimp only); exact KS.out _ (by first | assumption | exact Kp.drew _ | exact Kp.refl _)
                refine tkW (v := ?_) 0 rB0 rfl (by kernel_rfl) (by kernel_rfl) (by kernel_rfl) (fun _ _ _ h => h) (by rfl) ?_ (by assumption) ?_
                rotate_left
                · intro w hSw; (try dsimp only at hSw); go_simp; (try with_reducible rfl)
                (try simp only [Act.put, rB0, List.setIfInBounds_toArray, List.set_cons_zero, List.set_cons_succ])
                refine tkW (v := ?_) 1 rB1 rfl (by kernel_rfl) (by kernel_rfl) (by kernel_rfl) (fun _ _ _ h => h) (by rfl) ?_ (by assumption) ?_
                rotate_left
                · intro w hSw; (try dsimp only at hSw); go_simp; (try with_reducible rfl)
                (try simp only [Act.put, rB1, List.setIfInBounds_toArray, List.set_cons_zero, List.set_cons_succ])
                refine tkU 2 rB2 rfl (by kernel_rfl) (by kernel_rfl) (by kernel_rfl) (fun _ _ _ h => h) (by rfl) (by assumption) ?_
                (try simp only [Act.put, rB2, List.setIfInBounds_toArray, List.set_cons_zero, List.set_cons_succ])
                refine tkU 3 rB3 rfl (by kernel_rfl) (by kernel_rfl) (by kernel_rfl) (fun _ _ _ h => h) (by rfl) (by assumption) ?_
                (try simp only [Act.put, rB3, List.setIfInBounds_toArray, List.set_cons_zero, List.set_cons_succ])
                refine tkU 4 rB4 rfl (by kernel_rfl) (by kernel_rfl) (by kernel_rfl) (fun _ _ _ h => h) (by rfl) (by assumption) ?_
                (try simp only [Act.put, rB4, List.setIfInBounds_toArray, List.set_cons_zero, List.set_cons_succ])
                refine tkU 5 rB5 rfl (by kernel_rfl) (by kernel_rfl) (by kernel_rfl) (fun _ _ _ h => h) (by rfl) (by assumption) ?_
                (try simp only [Act.put, rB5, List.setIfInBounds_toArray, List.set_cons_zero, List.set_cons_succ])
                refine tkU 6 rB6 rfl (by kernel_rfl) (by kernel_rfl) (by kernel_rfl) (fun _ _ _ h => h) (by rfl) (by assumption) ?_
                (try simp only [Act.put, rB6, List.setIfInBounds_toArray, List.set_cons_zero, List.set_cons_succ])
                refine tkU 7 rB7 rfl (by kernel_rfl) (by kernel_rfl) (by kernel_rfl) (fun _ _ _ h => h) (by rfl) (by assumption) ?_
                (try simp only [Act.put, rB7, List.setIfInBounds_toArray, List.set_cons_zero, List.set_cons_succ])
                refine tkU 8 rB8 rfl (by kernel_rfl) (by kernel_rfl) (by kernel_rfl) (fun _ _ _ h => h) (by rfl) (by assumption) ?_
                (try simp only [Act.put, rB8, List.setIfInBounds_toArray, List.set_cons_zero, List.set_cons_succ])
                refine tkU 9 rB9 rfl (by kernel_rfl) (by kernel_rfl) (by kernel_rfl) (fun _ _ _ h => h) (by rfl) (by assumption) ?_
                (try simp only [Act.put, rB9, List.setIfInBounds_toArray, List.set_cons_zero, List.set_cons_succ])
                refine tkU 10 rB10 rfl (by kernel_rfl) (by kernel_rfl) (by kernel_rfl) (fun _ _ _ h => h) (by rfl) (by assumption) ?_
                (try simp only [Act.put, rB10, List.setIfInBounds_toArray, List.set_cons_zero, List.set_cons_succ])
                refine tkW (v := ?_) 11 rB11 rfl (by kernel_rfl) (by kernel_rfl) (by kernel_rfl) (fun _ _ _ h => h) (by rfl) ?_ (by assumption) ?_
                rotate_left
                · intro w hSw; (try dsimp only at hSw); go_simp; (try with_reducible rfl)
                (try simp only [Act.put, rB11, List.setIfInBounds_toArray, List.set_cons_zero, List.set_cons_succ])
                refine tkW (v := ?_) 12 rB12 rfl (by kernel_rfl) (by kernel_rfl) (by kernel_rfl) (fun _ _ _ h => h) (by rfl) ?_ (by assumption) ?_
                rotate_left
                · intro w hSw; (try dsimp only at hSw); go_simp; (try with_reducible rfl)
                (try simp only [Act.put, rB12, List.setIfInBounds_toArray, List.set_cons_zero, List.set_cons_succ])
                refine tkW (v := ?_) 13 rB13 rfl (by kernel_rfl) (by kernel_rfl) (by kernel_rfl) (fun _ _ _ h => h) (by rfl) ?_ (by assumption) ?_
                rotate_left
                · intro w hSw; (try dsimp only at hSw); go_simp; (try with_reducible rfl)
                (try simp only [Act.put, rB13, List.setIfInBounds_toArray, List.set_cons_zero, List.set_cons_succ])
                refine tkW (v := ?_) 14 rB14 rfl (by kernel_rfl) (by kernel_rfl) (by kernel_rfl) (fun _ _ _ h => h) (by rfl) ?_ (by assumption) ?_
                rotate_left
                · intro w hSw; (try dsimp only at hSw); go_simp; (try with_reducible rfl)
                (try simp only [Act.put, rB14, List.setIfInBounds_toArray, List.set_cons_zero, List.set_cons_succ])
                refine tkW (v := ?_) 15 rB15 rfl (by kernel_rfl) (by kernel_rfl) (by kernel_rfl) (fun _ _ _ h => h) (by rfl) ?_ (by assumption) ?_
                rotate_left
                · intro w hSw; (try dsimp only at hSw); go_simp; (try with_reducible rfl)
                (try simp only [Act.put, rB15, List.setIfInBounds_toArray, List.set_cons_zero, List.set_cons_succ])
                refine tkW (v := ?_) 16 rB16 rfl (by kernel_rfl) (by kernel_rfl) (by kernel_rfl) (fun _ _ _ h => h) (by rfl) ?_ (by assumption) ?_
                rotate_left
                · intro w hSw; (try dsimp only at hSw); go_simp; (try with_reducible rfl)
                (try simp only [Act.put, rB16, List.setIfInBounds_toArray, List.set_cons_zero, List.set_cons_succ])
                refine tkW (v := ?_) 17 rB17 rfl (by kernel_rfl) (by kernel_rfl) (by kernel_rfl) (fun _ _ _ h => h) (by rfl) ?_ (by assumption) ?_
                rotate_left
                · intro w hSw; (try dsimp only at hSw); go_simp; (try with_reducible rfl)
                (try simp only [Act.put, rB17, List.setIfInBounds_toArray, List.set_cons_zero, List.set_cons_succ])
                refine tkW (v := ?_) 18 rB18 rfl (by kernel_rfl) (by kernel_rfl) (by kernel_rfl) (fun _ _ _ h => h) (by rfl) ?_ (by assumption) ?_
                rotate_left
                · intro w hSw; (try dsimp only at hSw); go_simp; (try with_reducible rfl)
                (try simp only [Act.put, rB18, List.setIfInBounds_toArray, List.set_cons_zero, List.set_cons_succ])
                refine tkW (v := ?_) 19 rB19 rfl (by kernel_rfl) (by kernel_rfl) (by kernel_rfl) (fun _ _ _ h => h) (by rfl) ?_ (by assumption) ?_
                rotate_left
                · intro w hSw; (try dsimp only at hSw); go_simp; (try with_reducible rfl)
                (try simp only [Act.put, rB19, List.setIfInBounds_toArray, List.set_cons_zero, List.set_cons_succ])
                refine tkW (v := ?_) 20 rB20 rfl (by kernel_rfl) (by kernel_rfl) (by kernel_rfl) (fun _ _ _ h => h) (by rfl) ?_ (by assumption) ?_
                rotate_left
                · intro w hSw; (try dsimp only at hSw); go_simp; (try with_reducible rfl)
                (try simp only [Act.put, rB20, List.setIfInBounds_toArray, List.set_cons_zero, List.set_cons_succ])
                refine tkW (v := ?_) 21 rB21 rfl (by kernel_rfl) (by kernel_rfl) (by kernel_rfl) (fun _ _ _ h => h) (by rfl) ?_ (by assumption) ?_
                rotate_left
                · intro w hSw; (try dsimp only at hSw); go_simp; (try with_reducible rfl)
                (try simp only [Act.put, rB21, List.setIfInBounds_toArray, List.set_cons_zero, List.set_cons_succ])
                refine tkE 22 rB22 rfl (by kernel_rfl) (fun K hK => ?_)
                go_simp
                (refine (CK.out _).mono ?_; rintro e w' ⟨rfl, k1⟩; have k2 := Kp.trans (show Kp U _ from (by first | assumption | exact Kp.drew _)) k1; clear k1)
                (try go_wp2_with fail)
                refine hK.out _ _ ?_ (fun hHeld1 => ?_)
                · (try dsimp only); exact KS.out _ (by first | assumption | exact Kp.drew _ | exact Kp.refl _)
                clear hK K hHeld0
                (try simp only [Act.put, rB22, List.setIfInBounds_toArray, List.set_cons_zero, List.set_cons_succ])
                refine tkW (v := ?_) 23 rB23 rfl (by kernel_rfl) (by kernel_rfl) (by kernel_rfl) (fun _ _ _ h => h) (by rfl) ?_ (by assumption) ?_
                rotate_left
                · intro w hSw; (try dsimp only at hSw); go_simp; (try with_reducible rfl)
                (try simp only [Act.put, rB23, List.setIfInBounds_toArray, List.set_cons_zero, List.set_cons_succ])
                refine tkW (v := ?_) 24 rB24 rfl (by kernel_rfl) (by kernel_rfl) (by kernel_rfl) (fun _ _ _ h => h) (by rfl) ?_ (by assumption) ?_
                rotate_left
                · intro w hSw; (try dsimp only at hSw); go_simp; (try with_reducible rfl)
                (try simp only [Act.put, rB24, List.setIfInBounds_toArray, List.set_cons_zero, List.set_cons_succ])
                refine tkW (v := ?_) 25 rB25 rfl (by kernel_rfl) (by kernel_rfl) (by kernel_rfl) (fun _ _ _ h => h) (by rfl) ?_ (by assumption) ?_
                rotate_left
                · intro w hSw; (try dsimp only at hSw); go_simp; (try with_reducible rfl)
                (try simp only [Act.put, rB25, List.setIfInBounds_toArray, List.set_cons_zero, List.set_cons_succ])
                refine wpAnyH_done (by kernel_rfl) ?_ _
                have KE := Lib.hid (J5.out.trans (KV.out.trans (KU.out.trans (show Kp U _ from (by first | exact k2 | exact Kp.drew _ | exact k2.trans (Kp.drew _) | exact Kp.drewN _ _ | exact Kp.refl _)))))
                go_wp2
                go_roundw
                case rel => exact ⟨k + 1, HK1.out, HKV.out, KE⟩
                case measure => have hki := HKI.out; simp [intOf]; omega
        · obtain rfl : k = i := by omega
          go_wp2
          go_roundw
          case rel => exact ⟨k + 1, by omega, by go_num, J5⟩
          case measure => simp [intOf]; omega
    · obtain rfl : i = LL.length := by omega
      have KE := Lib.hid (K3.out.trans J.out)
      go_wp2
      go_ret
      exact ⟨rfl, KE.out⟩
theorem orderRises_walk (vl : Value) (LL : List (List LF)) (w : World) (rl : LvsAt w vl LL) (gl : ∀ l ∈ LL, ∀ f ∈ l, LeafG f) (T : Tabs w) :
    Calls Tryd.prog 5 #[vl] w fun e w' => e = .returned (.bool true) ∧ Kp w w' := by
  rcases Bool.eq_false_or_eq_true (fewLL LL) with a | a
  · exact orises_all vl LL w rl gl T a
  · exact orises_few vl LL w rl gl T a
end Go.Proofs.YtjjpnglilalnmaaDoor
