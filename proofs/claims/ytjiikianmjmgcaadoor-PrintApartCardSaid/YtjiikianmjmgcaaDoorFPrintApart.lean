/-
  Joined: L11B, L11E, LPrintApart.
-/
import Derived.Test.YtjiikianmjmgcaaDoorGPrA
import Derived.Test.YtjiikianmjmgcaaDoorGTrB
import Derived.Test.YtjiikianmjmgcaaDoorCards
import Derived.Test.YtjiikianmjmgcaaDoorTie
import Derived.WalkKit
import Derived.ProofKit
import Derived.OpenShut
import Derived.ShutString
import Derived.ChangeOld
import Derived.Below
import Derived.Test.YtjiikianmjmgcaaDoor8T
import Derived.Deep.DeepHandedRow
import Derived.Lib.LaidTab
import Derived.Carry
namespace Go.Proofs.YtjiikianmjmgcaaDoor
open Go.RowKit
set_option linter.unusedVariables false
set_option linter.unusedSimpArgs false
theorem bs_inj {a b : List UInt8} (h : bs a = bs b) : a = b := by
  have := congrArg (fun s : ByteArray => s.data.toList) h
  simpa [bs] using this
theorem apart_eq {n m : ND} (hn : saneN saneP n = true) (hm : saneN saneP m = true) : ((bs (textN n)).toList == (bs (textN m)).toList) = sameN n m := by
  unfold textN
  rw [if_pos hn, if_pos hm, Bool.eq_iff_iff, bytes_iff, same_iff, ← text_apart hn hm]
  exact ⟨bs_inj, fun h => by rw [h]⟩
abbrev pA0 : Oper := { dst := some 26, op := Go.Op.move (Go.Operand.tmp 5), type := 4, pos := "law.go:117", after := #[], guard := none }
abbrev pA1 : Oper := { dst := some 27, op := Go.Op.move (Go.Operand.tmp 26), type := 4, pos := "law.go:117", after := #[{ on := 0, ground := Go.Ground.data }], guard := none }
abbrev pA2 : Oper := { dst := some 28, op := Go.Op.load 46 (Go.Operand.tmp 2), type := 46, pos := "law.go:117", after := #[{ on := 1, ground := Go.Ground.guard }], guard := some (1, true) }
abbrev pA3 : Oper := { dst := some 29, op := Go.Op.call { callee := Go.Callee.value (Go.Operand.func 39), args := #[Go.Operand.tmp 28], argTypes := #[46] }, type := 9, pos := "law.go:117", after := #[{ on := 2, ground := Go.Ground.data }, { on := 1, ground := Go.Ground.chain }, { on := 1, ground := Go.Ground.guard }], guard := some (1, true) }
abbrev pA4 : Oper := { dst := some 30, op := Go.Op.load 46 (Go.Operand.tmp 3), type := 46, pos := "law.go:117", after := #[{ on := 1, ground := Go.Ground.guard }], guard := some (1, true) }
abbrev pA5 : Oper := { dst := some 31, op := Go.Op.call { callee := Go.Callee.value (Go.Operand.func 39), args := #[Go.Operand.tmp 30], argTypes := #[46] }, type := 9, pos := "law.go:117", after := #[{ on := 4, ground := Go.Ground.data }, { on := 3, ground := Go.Ground.chain }, { on := 1, ground := Go.Ground.guard }], guard := some (1, true) }
abbrev pA6 : Oper := { dst := some 32, op := Go.Op.binOp Go.BinOp.eql 9 (Go.Operand.tmp 29) (Go.Operand.tmp 31) 9, type := 4, pos := "law.go:117", after := #[{ on := 3, ground := Go.Ground.data }, { on := 5, ground := Go.Ground.data }, { on := 1, ground := Go.Ground.guard }], guard := some (1, true) }
abbrev pA7 : Oper := { dst := some 33, op := Go.Op.load 46 (Go.Operand.tmp 2), type := 46, pos := "law.go:117", after := #[{ on := 1, ground := Go.Ground.guard }], guard := some (1, true) }
abbrev pA8 : Oper := { dst := some 34, op := Go.Op.load 46 (Go.Operand.tmp 3), type := 46, pos := "law.go:117", after := #[{ on := 1, ground := Go.Ground.guard }], guard := some (1, true) }
abbrev pA9 : Oper := { dst := some 35, op := Go.Op.call { callee := Go.Callee.value (Go.Operand.func 33), args := #[Go.Operand.tmp 33, Go.Operand.tmp 34], argTypes := #[46, 46] }, type := 4, pos := "law.go:117", after := #[{ on := 7, ground := Go.Ground.data }, { on := 8, ground := Go.Ground.data }, { on := 5, ground := Go.Ground.chain }, { on := 1, ground := Go.Ground.guard }], guard := some (1, true) }
abbrev pA10 : Oper := { dst := some 36, op := Go.Op.binOp Go.BinOp.eql 4 (Go.Operand.tmp 32) (Go.Operand.tmp 35) 4, type := 4, pos := "law.go:117", after := #[{ on := 6, ground := Go.Ground.data }, { on := 9, ground := Go.Ground.data }, { on := 1, ground := Go.Ground.guard }], guard := some (1, true) }
abbrev pA11 : Oper := { dst := some 37, op := Go.Op.pick (Go.Operand.tmp 27) (Go.Operand.tmp 36) (Go.Operand.const (Go.Value.bool false)), type := 4, pos := "law.go:117", after := #[{ on := 1, ground := Go.Ground.data }, { on := 10, ground := Go.Ground.data }], guard := none }
abbrev pA12 : Oper := { dst := some 4, op := Go.Op.assign (Go.Operand.tmp 37), type := 4, pos := "law.go:117", after := #[{ on := 11, ground := Go.Ground.data }, { on := 9, ground := Go.Ground.chain }, { on := 0, ground := Go.Ground.phase }, { on := 1, ground := Go.Ground.phase }, { on := 2, ground := Go.Ground.phase }, { on := 3, ground := Go.Ground.phase }, { on := 4, ground := Go.Ground.phase }, { on := 5, ground := Go.Ground.phase }, { on := 6, ground := Go.Ground.phase }, { on := 7, ground := Go.Ground.phase }, { on := 8, ground := Go.Ground.phase }, { on := 9, ground := Go.Ground.phase }, { on := 10, ground := Go.Ground.phase }, { on := 11, ground := Go.Ground.phase }], guard := none }
set_option maxHeartbeats 16000000 in
set_option maxRecDepth 100000 in
theorem printApart_no1 (k pk : Int) (y m q : ByteArray) (a t : Bool) (l : List ND) (ad : Option Addr) (cp : Nat) (k' pk' : Int) (y' m' q' : ByteArray) (a' t' : Bool) (l' : List ND) (ad' : Option Addr) (cp' : Nat) (w : World) (hu : NodesAt w (.slice ad l.length cp) l) (hv : NodesAt w (.slice ad' l'.length cp') l') (bn : cntL l ≤ 2000000) (bm : cntL l' ≤ 2000000) (T : TabSH w) (hf : fewN (.mk k ⟨pk, y, m, q⟩ a t l : ND) = false) : Calls Tryd.prog 11 #[.agg #[.int .i64 k, .int .i64 pk, .string y, .string m, .string q, .bool a, .bool t, .slice ad l.length cp], .agg #[.int .i64 k', .int .i64 pk', .string y', .string m', .string q', .bool a', .bool t', .slice ad' l'.length cp']] w fun e w' => e = .returned (.bool true) ∧ Kp w w' := by
  have AW := Lib.hid (fun w1 (qq : Kp w w1) => awake11 w1 (T.kp qq))
  have F1 : ∀ w1, Kp w w1 → Calls Tryd.prog 24 #[.agg #[.int .i64 k, .int .i64 pk, .string y, .string m, .string q, .bool a, .bool t, .slice ad l.length cp]] w1 fun e w' => e = .returned (.bool (fewN (.mk k ⟨pk, y, m, q⟩ a t l : ND))) ∧ Kp w1 w' := fun w1 qq => rfewN_any (.mk k ⟨pk, y, m, q⟩ a t l : ND) (.slice ad l.length cp) w1 (hu.kp qq) bn
  have F2 : ∀ w1, Kp w w1 → Calls Tryd.prog 24 #[.agg #[.int .i64 k', .int .i64 pk', .string y', .string m', .string q', .bool a', .bool t', .slice ad' l'.length cp']] w1 fun e w' => e = .returned (.bool (fewN (.mk k' ⟨pk', y', m', q'⟩ a' t' l' : ND))) ∧ Kp w1 w' := fun w1 qq => rfewN_any (.mk k' ⟨pk', y', m', q'⟩ a' t' l' : ND) (.slice ad' l'.length cp') w1 (hv.kp qq) bm
  rw [hf] at F1
  have F1H := Lib.hid F1
  clear F1 F2 hu hv T hf bn bm
  go_enter Tryd.func11, Tryd.ntmps11
  go_wp2_with fail
  refine (AW.out _ ((Kp.alloc _ _).trans (Kp.alloc _ _))).mono ?_
  rintro e w1 ⟨rfl, kk⟩
  have gA := heap_block ((Kp.alloc _ _).trans kk) (heap_at w (.cells #[.int .i64 k, .int .i64 pk, .string y, .string m, .string q, .bool a, .bool t, .slice ad l.length cp] 46) w.heap.size rfl)
  have gB := heap_block kk (heap_at (w.alloc (.cells #[.int .i64 k, .int .i64 pk, .string y, .string m, .string q, .bool a, .bool t, .slice ad l.length cp] 46)) (.cells #[.int .i64 k', .int .i64 pk', .string y', .string m', .string q', .bool a', .bool t', .slice ad' l'.length cp'] 46) (w.heap.size + 1) (by simp))
  have K1 := Lib.hid (((Kp.alloc _ _).trans (Kp.alloc _ _)).trans kk)
  have GA := Lib.hid gA
  have GB := Lib.hid gB
  clear kk gA gB
  obtain ⟨x0, x1, x2, x3, x4, x5, x6, x7⟩ := row8 GA.out
  go_wp2_with fail
  refine (F1H.out _ K1.out).mono ?_
  rintro e w2 ⟨rfl, kk⟩
  have K2 := Lib.hid (K1.out.trans kk)
  have GA2 := Lib.hid (heap_block kk GA.out)
  have GB2 := Lib.hid (heap_block kk GB.out)
  clear kk x0 x1 x2 x3 x4 x5 x6 x7 GA GB
  go_wp2
  go_ret
  exact ⟨rfl, K2.out⟩
set_option maxHeartbeats 16000000 in
set_option maxRecDepth 100000 in
theorem printApart_no2 (k pk : Int) (y m q : ByteArray) (a t : Bool) (l : List ND) (ad : Option Addr) (cp : Nat) (k' pk' : Int) (y' m' q' : ByteArray) (a' t' : Bool) (l' : List ND) (ad' : Option Addr) (cp' : Nat) (w : World) (hu : NodesAt w (.slice ad l.length cp) l) (hv : NodesAt w (.slice ad' l'.length cp') l') (bn : cntL l ≤ 2000000) (bm : cntL l' ≤ 2000000) (T : TabSH w) (hf : fewN (.mk k ⟨pk, y, m, q⟩ a t l : ND) = true) (hg : fewN (.mk k' ⟨pk', y', m', q'⟩ a' t' l' : ND) = false) : Calls Tryd.prog 11 #[.agg #[.int .i64 k, .int .i64 pk, .string y, .string m, .string q, .bool a, .bool t, .slice ad l.length cp], .agg #[.int .i64 k', .int .i64 pk', .string y', .string m', .string q', .bool a', .bool t', .slice ad' l'.length cp']] w fun e w' => e = .returned (.bool true) ∧ Kp w w' := by
  have AW := Lib.hid (fun w1 (qq : Kp w w1) => awake11 w1 (T.kp qq))
  have F1 : ∀ w1, Kp w w1 → Calls Tryd.prog 24 #[.agg #[.int .i64 k, .int .i64 pk, .string y, .string m, .string q, .bool a, .bool t, .slice ad l.length cp]] w1 fun e w' => e = .returned (.bool (fewN (.mk k ⟨pk, y, m, q⟩ a t l : ND))) ∧ Kp w1 w' := fun w1 qq => rfewN_any (.mk k ⟨pk, y, m, q⟩ a t l : ND) (.slice ad l.length cp) w1 (hu.kp qq) bn
  have F2 : ∀ w1, Kp w w1 → Calls Tryd.prog 24 #[.agg #[.int .i64 k', .int .i64 pk', .string y', .string m', .string q', .bool a', .bool t', .slice ad' l'.length cp']] w1 fun e w' => e = .returned (.bool (fewN (.mk k' ⟨pk', y', m', q'⟩ a' t' l' : ND))) ∧ Kp w1 w' := fun w1 qq => rfewN_any (.mk k' ⟨pk', y', m', q'⟩ a' t' l' : ND) (.slice ad' l'.length cp') w1 (hv.kp qq) bm
  rw [hf] at F1
  rw [hg] at F2
  have F1H := Lib.hid F1
  have F2H := Lib.hid F2
  clear F1 F2 hu hv T hf hg bn bm
  go_enter Tryd.func11, Tryd.ntmps11
  go_wp2_with fail
  refine (AW.out _ ((Kp.alloc _ _).trans (Kp.alloc _ _))).mono ?_
  rintro e w1 ⟨rfl, kk⟩
  have gA := heap_block ((Kp.alloc _ _).trans kk) (heap_at w (.cells #[.int .i64 k, .int .i64 pk, .string y, .string m, .string q, .bool a, .bool t, .slice ad l.length cp] 46) w.heap.size rfl)
  have gB := heap_block kk (heap_at (w.alloc (.cells #[.int .i64 k, .int .i64 pk, .string y, .string m, .string q, .bool a, .bool t, .slice ad l.length cp] 46)) (.cells #[.int .i64 k', .int .i64 pk', .string y', .string m', .string q', .bool a', .bool t', .slice ad' l'.length cp'] 46) (w.heap.size + 1) (by simp))
  have K1 := Lib.hid (((Kp.alloc _ _).trans (Kp.alloc _ _)).trans kk)
  have GA := Lib.hid gA
  have GB := Lib.hid gB
  clear kk gA gB
  obtain ⟨x0, x1, x2, x3, x4, x5, x6, x7⟩ := row8 GA.out
  go_wp2_with fail
  refine (F1H.out _ K1.out).mono ?_
  rintro e w2 ⟨rfl, kk⟩
  have K2 := Lib.hid (K1.out.trans kk)
  have GA2 := Lib.hid (heap_block kk GA.out)
  have GB2 := Lib.hid (heap_block kk GB.out)
  clear kk x0 x1 x2 x3 x4 x5 x6 x7 GA GB
  obtain ⟨x0, x1, x2, x3, x4, x5, x6, x7⟩ := row8 GB2.out
  go_wp2_with fail
  refine (F2H.out _ K2.out).mono ?_
  rintro e w3 ⟨rfl, kk⟩
  have K3 := Lib.hid (K2.out.trans kk)
  have GA := Lib.hid (heap_block kk GA2.out)
  have GB := Lib.hid (heap_block kk GB2.out)
  clear kk x0 x1 x2 x3 x4 x5 x6 x7 GA2 GB2
  go_wp2
  go_ret
  exact ⟨rfl, K3.out⟩
set_option maxHeartbeats 16000000 in
set_option maxRecDepth 100000 in
theorem printApart_no3 (k pk : Int) (y m q : ByteArray) (a t : Bool) (l : List ND) (ad : Option Addr) (cp : Nat) (k' pk' : Int) (y' m' q' : ByteArray) (a' t' : Bool) (l' : List ND) (ad' : Option Addr) (cp' : Nat) (w : World) (hu : NodesAt w (.slice ad l.length cp) l) (hv : NodesAt w (.slice ad' l'.length cp') l') (bn : cntL l ≤ 2000000) (bm : cntL l' ≤ 2000000) (T : TabSH w) (hf : fewN (.mk k ⟨pk, y, m, q⟩ a t l : ND) = true) (hg : fewN (.mk k' ⟨pk', y', m', q'⟩ a' t' l' : ND) = true) (h1 : saneN saneP (.mk k ⟨pk, y, m, q⟩ a t l : ND) = false) : Calls Tryd.prog 11 #[.agg #[.int .i64 k, .int .i64 pk, .string y, .string m, .string q, .bool a, .bool t, .slice ad l.length cp], .agg #[.int .i64 k', .int .i64 pk', .string y', .string m', .string q', .bool a', .bool t', .slice ad' l'.length cp']] w fun e w' => e = .returned (.bool true) ∧ Kp w w' := by
  have AW := Lib.hid (fun w1 (qq : Kp w w1) => awake11 w1 (T.kp qq))
  have F1 : ∀ w1, Kp w w1 → Calls Tryd.prog 24 #[.agg #[.int .i64 k, .int .i64 pk, .string y, .string m, .string q, .bool a, .bool t, .slice ad l.length cp]] w1 fun e w' => e = .returned (.bool (fewN (.mk k ⟨pk, y, m, q⟩ a t l : ND))) ∧ Kp w1 w' := fun w1 qq => rfewN_any (.mk k ⟨pk, y, m, q⟩ a t l : ND) (.slice ad l.length cp) w1 (hu.kp qq) bn
  have F2 : ∀ w1, Kp w w1 → Calls Tryd.prog 24 #[.agg #[.int .i64 k', .int .i64 pk', .string y', .string m', .string q', .bool a', .bool t', .slice ad' l'.length cp']] w1 fun e w' => e = .returned (.bool (fewN (.mk k' ⟨pk', y', m', q'⟩ a' t' l' : ND))) ∧ Kp w1 w' := fun w1 qq => rfewN_any (.mk k' ⟨pk', y', m', q'⟩ a' t' l' : ND) (.slice ad' l'.length cp') w1 (hv.kp qq) bm
  rw [hf] at F1
  rw [hg] at F2
  have F1H := Lib.hid F1
  have F2H := Lib.hid F2
  have cn := few_cnt hf
  have cm := few_cnt hg
  have S1 : ∀ w1, Kp w w1 → Calls Tryd.prog 25 #[.agg #[.int .i64 k, .int .i64 pk, .string y, .string m, .string q, .bool a, .bool t, .slice ad l.length cp]] w1 fun e w' => e = .returned (.bool (saneN saneP (.mk k ⟨pk, y, m, q⟩ a t l : ND))) ∧ Kp w1 w' := fun w1 qq => tSane_any (.mk k ⟨pk, y, m, q⟩ a t l : ND) (.slice ad l.length cp) w1 (hu.kp qq) cn (T.kp qq)
  have S1H := Lib.hid S1
  clear S1
  have S2 : ∀ w1, Kp w w1 → Calls Tryd.prog 25 #[.agg #[.int .i64 k', .int .i64 pk', .string y', .string m', .string q', .bool a', .bool t', .slice ad' l'.length cp']] w1 fun e w' => e = .returned (.bool (saneN saneP (.mk k' ⟨pk', y', m', q'⟩ a' t' l' : ND))) ∧ Kp w1 w' := fun w1 qq => tSane_any (.mk k' ⟨pk', y', m', q'⟩ a' t' l' : ND) (.slice ad' l'.length cp') w1 (hv.kp qq) cm (T.kp qq)
  have S2H := Lib.hid S2
  clear S2
  rw [h1] at S1H
  clear h1
  clear F1 F2 hu hv T hf hg bn bm cn cm
  go_enter Tryd.func11, Tryd.ntmps11
  go_wp2_with fail
  refine (AW.out _ ((Kp.alloc _ _).trans (Kp.alloc _ _))).mono ?_
  rintro e w1 ⟨rfl, kk⟩
  have gA := heap_block ((Kp.alloc _ _).trans kk) (heap_at w (.cells #[.int .i64 k, .int .i64 pk, .string y, .string m, .string q, .bool a, .bool t, .slice ad l.length cp] 46) w.heap.size rfl)
  have gB := heap_block kk (heap_at (w.alloc (.cells #[.int .i64 k, .int .i64 pk, .string y, .string m, .string q, .bool a, .bool t, .slice ad l.length cp] 46)) (.cells #[.int .i64 k', .int .i64 pk', .string y', .string m', .string q', .bool a', .bool t', .slice ad' l'.length cp'] 46) (w.heap.size + 1) (by simp))
  have K1 := Lib.hid (((Kp.alloc _ _).trans (Kp.alloc _ _)).trans kk)
  have GA := Lib.hid gA
  have GB := Lib.hid gB
  clear kk gA gB
  obtain ⟨x0, x1, x2, x3, x4, x5, x6, x7⟩ := row8 GA.out
  go_wp2_with fail
  refine (F1H.out _ K1.out).mono ?_
  rintro e w2 ⟨rfl, kk⟩
  have K2 := Lib.hid (K1.out.trans kk)
  have GA2 := Lib.hid (heap_block kk GA.out)
  have GB2 := Lib.hid (heap_block kk GB.out)
  clear kk x0 x1 x2 x3 x4 x5 x6 x7 GA GB
  obtain ⟨x0, x1, x2, x3, x4, x5, x6, x7⟩ := row8 GB2.out
  go_wp2_with fail
  refine (F2H.out _ K2.out).mono ?_
  rintro e w3 ⟨rfl, kk⟩
  have K3 := Lib.hid (K2.out.trans kk)
  have GA := Lib.hid (heap_block kk GA2.out)
  have GB := Lib.hid (heap_block kk GB2.out)
  clear kk x0 x1 x2 x3 x4 x5 x6 x7 GA2 GB2
  obtain ⟨x0, x1, x2, x3, x4, x5, x6, x7⟩ := row8 GA.out
  go_wp2_with fail
  refine (S1H.out _ K3.out).mono ?_
  rintro e w4 ⟨rfl, kk⟩
  have K4 := Lib.hid (K3.out.trans kk)
  have GAx := Lib.hid (heap_block kk GA.out)
  have GBx := Lib.hid (heap_block kk GB.out)
  clear kk x0 x1 x2 x3 x4 x5 x6 x7 GA GB
  have GA := Lib.hid GAx.out
  have GB := Lib.hid GBx.out
  clear GAx GBx
  go_wp2
  go_ret
  exact ⟨rfl, K4.out⟩
set_option maxHeartbeats 16000000 in
set_option maxRecDepth 100000 in
theorem printApart_no4 (k pk : Int) (y m q : ByteArray) (a t : Bool) (l : List ND) (ad : Option Addr) (cp : Nat) (k' pk' : Int) (y' m' q' : ByteArray) (a' t' : Bool) (l' : List ND) (ad' : Option Addr) (cp' : Nat) (w : World) (hu : NodesAt w (.slice ad l.length cp) l) (hv : NodesAt w (.slice ad' l'.length cp') l') (bn : cntL l ≤ 2000000) (bm : cntL l' ≤ 2000000) (T : TabSH w) (hf : fewN (.mk k ⟨pk, y, m, q⟩ a t l : ND) = true) (hg : fewN (.mk k' ⟨pk', y', m', q'⟩ a' t' l' : ND) = true) (h1 : saneN saneP (.mk k ⟨pk, y, m, q⟩ a t l : ND) = true) (h2 : saneN saneP (.mk k' ⟨pk', y', m', q'⟩ a' t' l' : ND) = false) : Calls Tryd.prog 11 #[.agg #[.int .i64 k, .int .i64 pk, .string y, .string m, .string q, .bool a, .bool t, .slice ad l.length cp], .agg #[.int .i64 k', .int .i64 pk', .string y', .string m', .string q', .bool a', .bool t', .slice ad' l'.length cp']] w fun e w' => e = .returned (.bool true) ∧ Kp w w' := by
  have AW := Lib.hid (fun w1 (qq : Kp w w1) => awake11 w1 (T.kp qq))
  have F1 : ∀ w1, Kp w w1 → Calls Tryd.prog 24 #[.agg #[.int .i64 k, .int .i64 pk, .string y, .string m, .string q, .bool a, .bool t, .slice ad l.length cp]] w1 fun e w' => e = .returned (.bool (fewN (.mk k ⟨pk, y, m, q⟩ a t l : ND))) ∧ Kp w1 w' := fun w1 qq => rfewN_any (.mk k ⟨pk, y, m, q⟩ a t l : ND) (.slice ad l.length cp) w1 (hu.kp qq) bn
  have F2 : ∀ w1, Kp w w1 → Calls Tryd.prog 24 #[.agg #[.int .i64 k', .int .i64 pk', .string y', .string m', .string q', .bool a', .bool t', .slice ad' l'.length cp']] w1 fun e w' => e = .returned (.bool (fewN (.mk k' ⟨pk', y', m', q'⟩ a' t' l' : ND))) ∧ Kp w1 w' := fun w1 qq => rfewN_any (.mk k' ⟨pk', y', m', q'⟩ a' t' l' : ND) (.slice ad' l'.length cp') w1 (hv.kp qq) bm
  rw [hf] at F1
  rw [hg] at F2
  have F1H := Lib.hid F1
  have F2H := Lib.hid F2
  have cn := few_cnt hf
  have cm := few_cnt hg
  have S1 : ∀ w1, Kp w w1 → Calls Tryd.prog 25 #[.agg #[.int .i64 k, .int .i64 pk, .string y, .string m, .string q, .bool a, .bool t, .slice ad l.length cp]] w1 fun e w' => e = .returned (.bool (saneN saneP (.mk k ⟨pk, y, m, q⟩ a t l : ND))) ∧ Kp w1 w' := fun w1 qq => tSane_any (.mk k ⟨pk, y, m, q⟩ a t l : ND) (.slice ad l.length cp) w1 (hu.kp qq) cn (T.kp qq)
  have S1H := Lib.hid S1
  clear S1
  have S2 : ∀ w1, Kp w w1 → Calls Tryd.prog 25 #[.agg #[.int .i64 k', .int .i64 pk', .string y', .string m', .string q', .bool a', .bool t', .slice ad' l'.length cp']] w1 fun e w' => e = .returned (.bool (saneN saneP (.mk k' ⟨pk', y', m', q'⟩ a' t' l' : ND))) ∧ Kp w1 w' := fun w1 qq => tSane_any (.mk k' ⟨pk', y', m', q'⟩ a' t' l' : ND) (.slice ad' l'.length cp') w1 (hv.kp qq) cm (T.kp qq)
  have S2H := Lib.hid S2
  clear S2
  rw [h1] at S1H
  rw [h2] at S2H
  clear h1 h2
  clear F1 F2 hu hv T hf hg bn bm cn cm
  go_enter Tryd.func11, Tryd.ntmps11
  go_wp2_with fail
  refine (AW.out _ ((Kp.alloc _ _).trans (Kp.alloc _ _))).mono ?_
  rintro e w1 ⟨rfl, kk⟩
  have gA := heap_block ((Kp.alloc _ _).trans kk) (heap_at w (.cells #[.int .i64 k, .int .i64 pk, .string y, .string m, .string q, .bool a, .bool t, .slice ad l.length cp] 46) w.heap.size rfl)
  have gB := heap_block kk (heap_at (w.alloc (.cells #[.int .i64 k, .int .i64 pk, .string y, .string m, .string q, .bool a, .bool t, .slice ad l.length cp] 46)) (.cells #[.int .i64 k', .int .i64 pk', .string y', .string m', .string q', .bool a', .bool t', .slice ad' l'.length cp'] 46) (w.heap.size + 1) (by simp))
  have K1 := Lib.hid (((Kp.alloc _ _).trans (Kp.alloc _ _)).trans kk)
  have GA := Lib.hid gA
  have GB := Lib.hid gB
  clear kk gA gB
  obtain ⟨x0, x1, x2, x3, x4, x5, x6, x7⟩ := row8 GA.out
  go_wp2_with fail
  refine (F1H.out _ K1.out).mono ?_
  rintro e w2 ⟨rfl, kk⟩
  have K2 := Lib.hid (K1.out.trans kk)
  have GA2 := Lib.hid (heap_block kk GA.out)
  have GB2 := Lib.hid (heap_block kk GB.out)
  clear kk x0 x1 x2 x3 x4 x5 x6 x7 GA GB
  obtain ⟨x0, x1, x2, x3, x4, x5, x6, x7⟩ := row8 GB2.out
  go_wp2_with fail
  refine (F2H.out _ K2.out).mono ?_
  rintro e w3 ⟨rfl, kk⟩
  have K3 := Lib.hid (K2.out.trans kk)
  have GA := Lib.hid (heap_block kk GA2.out)
  have GB := Lib.hid (heap_block kk GB2.out)
  clear kk x0 x1 x2 x3 x4 x5 x6 x7 GA2 GB2
  obtain ⟨x0, x1, x2, x3, x4, x5, x6, x7⟩ := row8 GA.out
  go_wp2_with fail
  refine (S1H.out _ K3.out).mono ?_
  rintro e w4 ⟨rfl, kk⟩
  have K4 := Lib.hid (K3.out.trans kk)
  have GAx := Lib.hid (heap_block kk GA.out)
  have GBx := Lib.hid (heap_block kk GB.out)
  clear kk x0 x1 x2 x3 x4 x5 x6 x7 GA GB
  have GA := Lib.hid GAx.out
  have GB := Lib.hid GBx.out
  clear GAx GBx
  obtain ⟨x0, x1, x2, x3, x4, x5, x6, x7⟩ := row8 GB.out
  go_wp2_with fail
  refine (S2H.out _ K4.out).mono ?_
  rintro e w5 ⟨rfl, kk⟩
  have K5 := Lib.hid (K4.out.trans kk)
  have GAx := Lib.hid (heap_block kk GA.out)
  have GBx := Lib.hid (heap_block kk GB.out)
  clear kk x0 x1 x2 x3 x4 x5 x6 x7 GA GB
  have GA := Lib.hid GAx.out
  have GB := Lib.hid GBx.out
  clear GAx GBx
  go_wp2
  go_ret
  exact ⟨rfl, K5.out⟩
set_option maxHeartbeats 16000000 in
set_option maxRecDepth 100000 in
theorem printApart_yes2 (k pk : Int) (y m q : ByteArray) (a t : Bool) (l : List ND) (ad : Option Addr) (cp : Nat) (k' pk' : Int) (y' m' q' : ByteArray) (a' t' : Bool) (l' : List ND) (ad' : Option Addr) (cp' : Nat) (w : World) (hu : NodesAt w (.slice ad l.length cp) l) (hv : NodesAt w (.slice ad' l'.length cp') l') (bn : cntL l ≤ 2000000) (bm : cntL l' ≤ 2000000) (T : TabSH w) (hf : fewN (.mk k ⟨pk, y, m, q⟩ a t l : ND) = true) (hg : fewN (.mk k' ⟨pk', y', m', q'⟩ a' t' l' : ND) = true) (h1 : saneN saneP (.mk k ⟨pk, y, m, q⟩ a t l : ND) = true) (h2 : saneN saneP (.mk k' ⟨pk', y', m', q'⟩ a' t' l' : ND) = true) : Calls Tryd.prog 11 #[.agg #[.int .i64 k, .int .i64 pk, .string y, .string m, .string q, .bool a, .bool t, .slice ad l.length cp], .agg #[.int .i64 k', .int .i64 pk', .string y', .string m', .string q', .bool a', .bool t', .slice ad' l'.length cp']] w fun e w' => e = .returned (.bool true) ∧ Kp w w' := by
  have AW := Lib.hid (fun w1 (qq : Kp w w1) => awake11 w1 (T.kp qq))
  have F1 : ∀ w1, Kp w w1 → Calls Tryd.prog 24 #[.agg #[.int .i64 k, .int .i64 pk, .string y, .string m, .string q, .bool a, .bool t, .slice ad l.length cp]] w1 fun e w' => e = .returned (.bool (fewN (.mk k ⟨pk, y, m, q⟩ a t l : ND))) ∧ Kp w1 w' := fun w1 qq => rfewN_any (.mk k ⟨pk, y, m, q⟩ a t l : ND) (.slice ad l.length cp) w1 (hu.kp qq) bn
  have F2 : ∀ w1, Kp w w1 → Calls Tryd.prog 24 #[.agg #[.int .i64 k', .int .i64 pk', .string y', .string m', .string q', .bool a', .bool t', .slice ad' l'.length cp']] w1 fun e w' => e = .returned (.bool (fewN (.mk k' ⟨pk', y', m', q'⟩ a' t' l' : ND))) ∧ Kp w1 w' := fun w1 qq => rfewN_any (.mk k' ⟨pk', y', m', q'⟩ a' t' l' : ND) (.slice ad' l'.length cp') w1 (hv.kp qq) bm
  rw [hf] at F1
  rw [hg] at F2
  have F1H := Lib.hid F1
  have F2H := Lib.hid F2
  have cn := few_cnt hf
  have cm := few_cnt hg
  have S1 : ∀ w1, Kp w w1 → Calls Tryd.prog 25 #[.agg #[.int .i64 k, .int .i64 pk, .string y, .string m, .string q, .bool a, .bool t, .slice ad l.length cp]] w1 fun e w' => e = .returned (.bool (saneN saneP (.mk k ⟨pk, y, m, q⟩ a t l : ND))) ∧ Kp w1 w' := fun w1 qq => tSane_any (.mk k ⟨pk, y, m, q⟩ a t l : ND) (.slice ad l.length cp) w1 (hu.kp qq) cn (T.kp qq)
  have S1H := Lib.hid S1
  clear S1
  have S2 : ∀ w1, Kp w w1 → Calls Tryd.prog 25 #[.agg #[.int .i64 k', .int .i64 pk', .string y', .string m', .string q', .bool a', .bool t', .slice ad' l'.length cp']] w1 fun e w' => e = .returned (.bool (saneN saneP (.mk k' ⟨pk', y', m', q'⟩ a' t' l' : ND))) ∧ Kp w1 w' := fun w1 qq => tSane_any (.mk k' ⟨pk', y', m', q'⟩ a' t' l' : ND) (.slice ad' l'.length cp') w1 (hv.kp qq) cm (T.kp qq)
  have S2H := Lib.hid S2
  clear S2
  have P1 : ∀ w1, Kp w w1 → Calls Tryd.prog 39 #[.agg #[.int .i64 k, .int .i64 pk, .string y, .string m, .string q, .bool a, .bool t, .slice ad l.length cp]] w1 fun e w' => e = .returned (.string (bs (textN (.mk k ⟨pk, y, m, q⟩ a t l : ND)))) ∧ Kp w1 w' := fun w1 qq => ptext_any (.mk k ⟨pk, y, m, q⟩ a t l : ND) (.slice ad l.length cp) w1 (hu.kp qq) cn (T.kp qq)
  have P1H := Lib.hid P1
  clear P1
  have P2 : ∀ w1, Kp w w1 → Calls Tryd.prog 39 #[.agg #[.int .i64 k', .int .i64 pk', .string y', .string m', .string q', .bool a', .bool t', .slice ad' l'.length cp']] w1 fun e w' => e = .returned (.string (bs (textN (.mk k' ⟨pk', y', m', q'⟩ a' t' l' : ND)))) ∧ Kp w1 w' := fun w1 qq => ptext_any (.mk k' ⟨pk', y', m', q'⟩ a' t' l' : ND) (.slice ad' l'.length cp') w1 (hv.kp qq) cm (T.kp qq)
  have P2H := Lib.hid P2
  clear P2
  have PM : ∀ w1, Kp w w1 → Calls Tryd.prog 33 #[.agg #[.int .i64 k, .int .i64 pk, .string y, .string m, .string q, .bool a, .bool t, .slice ad l.length cp], .agg #[.int .i64 k', .int .i64 pk', .string y', .string m', .string q', .bool a', .bool t', .slice ad' l'.length cp']] w1 fun e w' => e = .returned (.bool (sameN (.mk k ⟨pk, y, m, q⟩ a t l : ND) (.mk k' ⟨pk', y', m', q'⟩ a' t' l' : ND))) ∧ Kp w1 w' := fun w1 qq => tSame_any (.mk k ⟨pk, y, m, q⟩ a t l : ND) (.mk k' ⟨pk', y', m', q'⟩ a' t' l' : ND) (.slice ad l.length cp) (.slice ad' l'.length cp') w1 (hu.kp qq) (hv.kp qq) cn
  have PMH := Lib.hid PM
  clear PM
  have AE := apart_eq h1 h2
  obtain ⟨t1, ht1⟩ : ∃ u, bs (textN (.mk k ⟨pk, y, m, q⟩ a t l : ND)) = u := ⟨_, rfl⟩
  obtain ⟨t2, ht2⟩ : ∃ u, bs (textN (.mk k' ⟨pk', y', m', q'⟩ a' t' l' : ND)) = u := ⟨_, rfl⟩
  rw [ht1] at P1H AE
  rw [ht2] at P2H AE
  obtain ⟨mb, hmb⟩ : ∃ b, sameN (.mk k ⟨pk, y, m, q⟩ a t l : ND) (.mk k' ⟨pk', y', m', q'⟩ a' t' l' : ND) = b := ⟨_, rfl⟩
  rw [hmb] at PMH AE
  rw [h1] at S1H
  rw [h2] at S2H
  clear ht1 ht2 hmb h1 h2
  clear F1 F2 hu hv T hf hg bn bm cn cm
  go_enter Tryd.func11, Tryd.ntmps11
  go_wp2_with fail
  refine (AW.out _ ((Kp.alloc _ _).trans (Kp.alloc _ _))).mono ?_
  rintro e w1 ⟨rfl, kk⟩
  have gA := heap_block ((Kp.alloc _ _).trans kk) (heap_at w (.cells #[.int .i64 k, .int .i64 pk, .string y, .string m, .string q, .bool a, .bool t, .slice ad l.length cp] 46) w.heap.size rfl)
  have gB := heap_block kk (heap_at (w.alloc (.cells #[.int .i64 k, .int .i64 pk, .string y, .string m, .string q, .bool a, .bool t, .slice ad l.length cp] 46)) (.cells #[.int .i64 k', .int .i64 pk', .string y', .string m', .string q', .bool a', .bool t', .slice ad' l'.length cp'] 46) (w.heap.size + 1) (by simp))
  have K1 := Lib.hid (((Kp.alloc _ _).trans (Kp.alloc _ _)).trans kk)
  have GA := Lib.hid gA
  have GB := Lib.hid gB
  clear kk gA gB
  obtain ⟨x0, x1, x2, x3, x4, x5, x6, x7⟩ := row8 GA.out
  go_wp2_with fail
  refine (F1H.out _ K1.out).mono ?_
  rintro e w2 ⟨rfl, kk⟩
  have K2 := Lib.hid (K1.out.trans kk)
  have GA2 := Lib.hid (heap_block kk GA.out)
  have GB2 := Lib.hid (heap_block kk GB.out)
  clear kk x0 x1 x2 x3 x4 x5 x6 x7 GA GB
  obtain ⟨x0, x1, x2, x3, x4, x5, x6, x7⟩ := row8 GB2.out
  go_wp2_with fail
  refine (F2H.out _ K2.out).mono ?_
  rintro e w3 ⟨rfl, kk⟩
  have K3 := Lib.hid (K2.out.trans kk)
  have GA := Lib.hid (heap_block kk GA2.out)
  have GB := Lib.hid (heap_block kk GB2.out)
  clear kk x0 x1 x2 x3 x4 x5 x6 x7 GA2 GB2
  obtain ⟨x0, x1, x2, x3, x4, x5, x6, x7⟩ := row8 GA.out
  go_wp2_with fail
  refine (S1H.out _ K3.out).mono ?_
  rintro e w4 ⟨rfl, kk⟩
  have K4 := Lib.hid (K3.out.trans kk)
  have GAx := Lib.hid (heap_block kk GA.out)
  have GBx := Lib.hid (heap_block kk GB.out)
  clear kk x0 x1 x2 x3 x4 x5 x6 x7 GA GB
  have GA := Lib.hid GAx.out
  have GB := Lib.hid GBx.out
  clear GAx GBx
  obtain ⟨x0, x1, x2, x3, x4, x5, x6, x7⟩ := row8 GB.out
  go_wp2_with fail
  refine (S2H.out _ K4.out).mono ?_
  rintro e w5 ⟨rfl, kk⟩
  have K5 := Lib.hid (K4.out.trans kk)
  have GAx := Lib.hid (heap_block kk GA.out)
  have GBx := Lib.hid (heap_block kk GB.out)
  clear kk x0 x1 x2 x3 x4 x5 x6 x7 GA GB
  have GA := Lib.hid GAx.out
  have GB := Lib.hid GBx.out
  clear GAx GBx
  have KS := Lib.hid (fun w' (qq : Kp w5 w') => show w'.cell? ⟨w.heap.size, 0, none⟩ = some (.int .i64 k) ∧ w'.cell? ⟨w.heap.size, 1, none⟩ = some (.int .i64 pk) ∧ w'.cell? ⟨w.heap.size, 2, none⟩ = some (.string y) ∧ w'.cell? ⟨w.heap.size, 3, none⟩ = some (.string m) ∧ w'.cell? ⟨w.heap.size, 4, none⟩ = some (.string q) ∧ w'.cell? ⟨w.heap.size, 5, none⟩ = some (.bool a) ∧ w'.cell? ⟨w.heap.size, 6, none⟩ = some (.bool t) ∧ w'.cell? ⟨w.heap.size, 7, none⟩ = some (.slice ad l.length cp) ∧ w'.cell? ⟨w.heap.size + 1, 0, none⟩ = some (.int .i64 k') ∧ w'.cell? ⟨w.heap.size + 1, 1, none⟩ = some (.int .i64 pk') ∧ w'.cell? ⟨w.heap.size + 1, 2, none⟩ = some (.string y') ∧ w'.cell? ⟨w.heap.size + 1, 3, none⟩ = some (.string m') ∧ w'.cell? ⟨w.heap.size + 1, 4, none⟩ = some (.string q') ∧ w'.cell? ⟨w.heap.size + 1, 5, none⟩ = some (.bool a') ∧ w'.cell? ⟨w.heap.size + 1, 6, none⟩ = some (.bool t') ∧ w'.cell? ⟨w.heap.size + 1, 7, none⟩ = some (.slice ad' l'.length cp') ∧ Kp w5 w' from ⟨(row8 (heap_block qq GA.out)).1, (row8 (heap_block qq GA.out)).2.1, (row8 (heap_block qq GA.out)).2.2.1, (row8 (heap_block qq GA.out)).2.2.2.1, (row8 (heap_block qq GA.out)).2.2.2.2.1, (row8 (heap_block qq GA.out)).2.2.2.2.2.1, (row8 (heap_block qq GA.out)).2.2.2.2.2.2.1, (row8 (heap_block qq GA.out)).2.2.2.2.2.2.2, (row8 (heap_block qq GB.out)).1, (row8 (heap_block qq GB.out)).2.1, (row8 (heap_block qq GB.out)).2.2.1, (row8 (heap_block qq GB.out)).2.2.2.1, (row8 (heap_block qq GB.out)).2.2.2.2.1, (row8 (heap_block qq GB.out)).2.2.2.2.2.1, (row8 (heap_block qq GB.out)).2.2.2.2.2.2.1, (row8 (heap_block qq GB.out)).2.2.2.2.2.2.2, qq⟩)
  go_wp2_with fail
  refine wp_region_held_drew (S := fun w' => w'.cell? ⟨w.heap.size, 0, none⟩ = some (.int .i64 k) ∧ w'.cell? ⟨w.heap.size, 1, none⟩ = some (.int .i64 pk) ∧ w'.cell? ⟨w.heap.size, 2, none⟩ = some (.string y) ∧ w'.cell? ⟨w.heap.size, 3, none⟩ = some (.string m) ∧ w'.cell? ⟨w.heap.size, 4, none⟩ = some (.string q) ∧ w'.cell? ⟨w.heap.size, 5, none⟩ = some (.bool a) ∧ w'.cell? ⟨w.heap.size, 6, none⟩ = some (.bool t) ∧ w'.cell? ⟨w.heap.size, 7, none⟩ = some (.slice ad l.length cp) ∧ w'.cell? ⟨w.heap.size + 1, 0, none⟩ = some (.int .i64 k') ∧ w'.cell? ⟨w.heap.size + 1, 1, none⟩ = some (.int .i64 pk') ∧ w'.cell? ⟨w.heap.size + 1, 2, none⟩ = some (.string y') ∧ w'.cell? ⟨w.heap.size + 1, 3, none⟩ = some (.string m') ∧ w'.cell? ⟨w.heap.size + 1, 4, none⟩ = some (.string q') ∧ w'.cell? ⟨w.heap.size + 1, 5, none⟩ = some (.bool a') ∧ w'.cell? ⟨w.heap.size + 1, 6, none⟩ = some (.bool t') ∧ w'.cell? ⟨w.heap.size + 1, 7, none⟩ = some (.slice ad' l'.length cp') ∧ Kp w5 w') (by kernel_rfl) ?_ (fun hHeld0 => ?_)
  · (try dsimp only); exact KS.out _ (by first | assumption | exact Kp.drew _ | exact Kp.refl _)
  refine tkW (v := ?_) 0 pA0 rfl (by kernel_rfl) (by kernel_rfl) (by kernel_rfl) (fun _ _ _ h => h) (by rfl) ?_ (by assumption) ?_
  rotate_left
  · intro w hSw; (try dsimp only at hSw); go_simp; (try with_reducible rfl)
  (try simp only [Act.put, pA0, List.setIfInBounds_toArray, List.set_cons_zero, List.set_cons_succ])
  refine tkW (v := ?_) 1 pA1 rfl (by kernel_rfl) (by kernel_rfl) (by kernel_rfl) (fun _ _ _ h => h) (by rfl) ?_ (by assumption) ?_
  rotate_left
  · intro w hSw; (try dsimp only at hSw); go_simp; (try with_reducible rfl)
  (try simp only [Act.put, pA1, List.setIfInBounds_toArray, List.set_cons_zero, List.set_cons_succ])
  refine tkW (v := ?_) 2 pA2 rfl (by kernel_rfl) (by kernel_rfl) (by kernel_rfl) (fun _ _ _ h => h) (by rfl) ?_ (by assumption) ?_
  rotate_left
  · intro w hSw; (try dsimp only at hSw); go_simp; (try with_reducible rfl)
  (try simp only [Act.put, pA2, List.setIfInBounds_toArray, List.set_cons_zero, List.set_cons_succ])
  refine tkW (v := ?_) 4 pA4 rfl (by kernel_rfl) (by kernel_rfl) (by kernel_rfl) (fun _ _ _ h => h) (by rfl) ?_ (by assumption) ?_
  rotate_left
  · intro w hSw; (try dsimp only at hSw); go_simp; (try with_reducible rfl)
  (try simp only [Act.put, pA4, List.setIfInBounds_toArray, List.set_cons_zero, List.set_cons_succ])
  refine tkW (v := ?_) 7 pA7 rfl (by kernel_rfl) (by kernel_rfl) (by kernel_rfl) (fun _ _ _ h => h) (by rfl) ?_ (by assumption) ?_
  rotate_left
  · intro w hSw; (try dsimp only at hSw); go_simp; (try with_reducible rfl)
  (try simp only [Act.put, pA7, List.setIfInBounds_toArray, List.set_cons_zero, List.set_cons_succ])
  refine tkW (v := ?_) 8 pA8 rfl (by kernel_rfl) (by kernel_rfl) (by kernel_rfl) (fun _ _ _ h => h) (by rfl) ?_ (by assumption) ?_
  rotate_left
  · intro w hSw; (try dsimp only at hSw); go_simp; (try with_reducible rfl)
  (try simp only [Act.put, pA8, List.setIfInBounds_toArray, List.set_cons_zero, List.set_cons_succ])
  refine tkE 3 pA3 rfl (by kernel_rfl) (fun K hK => ?_)
  go_simp
  (refine (P1H.out _ (K5.out.trans (by first | assumption | exact Kp.drew _ | exact Kp.refl _))).mono ?_; rintro e w' ⟨rfl, kq⟩; have k2 := Kp.trans (show Kp w5 _ from (by first | assumption | exact Kp.drew _ | exact Kp.refl _)) kq; clear kq)
  (try go_wp2_with fail)
  refine hK.out _ _ ?_ (fun hHeld1 => ?_)
  · (try dsimp only); exact KS.out _ (by first | assumption | exact Kp.drew _ | exact Kp.refl _)
  clear hK K hHeld0
  (try simp only [Act.put, pA3, List.setIfInBounds_toArray, List.set_cons_zero, List.set_cons_succ])
  refine tkE 5 pA5 rfl (by kernel_rfl) (fun K hK => ?_)
  go_simp
  (refine (P2H.out _ (K5.out.trans (by first | assumption | exact Kp.drew _ | exact Kp.refl _))).mono ?_; rintro e w' ⟨rfl, kq⟩; have k2 := Kp.trans (show Kp w5 _ from (by first | assumption | exact Kp.drew _ | exact Kp.refl _)) kq; clear kq)
  (try go_wp2_with fail)
  refine hK.out _ _ ?_ (fun hHeld2 => ?_)
  · (try dsimp only); exact KS.out _ (by first | assumption | exact Kp.drew _ | exact Kp.refl _)
  clear hK K hHeld1
  (try simp only [Act.put, pA5, List.setIfInBounds_toArray, List.set_cons_zero, List.set_cons_succ])
  refine tkW (v := ?_) 6 pA6 rfl (by kernel_rfl) (by kernel_rfl) (by kernel_rfl) (fun _ _ _ h => h) (by rfl) ?_ (by assumption) ?_
  rotate_left
  · intro w hSw; (try dsimp only at hSw); go_simp; (try with_reducible rfl)
  (try simp only [Act.put, pA6, List.setIfInBounds_toArray, List.set_cons_zero, List.set_cons_succ])
  refine tkE 9 pA9 rfl (by kernel_rfl) (fun K hK => ?_)
  go_simp
  (refine (PMH.out _ (K5.out.trans (by first | assumption | exact Kp.drew _ | exact Kp.refl _))).mono ?_; rintro e w' ⟨rfl, kq⟩; have k2 := Kp.trans (show Kp w5 _ from (by first | assumption | exact Kp.drew _ | exact Kp.refl _)) kq; clear kq)
  (try go_wp2_with fail)
  refine hK.out _ _ ?_ (fun hHeld3 => ?_)
  · (try dsimp only); exact KS.out _ (by first | assumption | exact Kp.drew _ | exact Kp.refl _)
  clear hK K hHeld2
  (try simp only [Act.put, pA9, List.setIfInBounds_toArray, List.set_cons_zero, List.set_cons_succ])
  refine tkW (v := ?_) 10 pA10 rfl (by kernel_rfl) (by kernel_rfl) (by kernel_rfl) (fun _ _ _ h => h) (by rfl) ?_ (by assumption) ?_
  rotate_left
  · intro w hSw; (try dsimp only at hSw); go_simp; (try with_reducible rfl)
  (try simp only [Act.put, pA10, List.setIfInBounds_toArray, List.set_cons_zero, List.set_cons_succ])
  refine tkW (v := ?_) 11 pA11 rfl (by kernel_rfl) (by kernel_rfl) (by kernel_rfl) (fun _ _ _ h => h) (by rfl) ?_ (by assumption) ?_
  rotate_left
  · intro w hSw; (try dsimp only at hSw); go_simp; (try with_reducible rfl)
  (try simp only [Act.put, pA11, List.setIfInBounds_toArray, List.set_cons_zero, List.set_cons_succ])
  refine tkW (v := ?_) 12 pA12 rfl (by kernel_rfl) (by kernel_rfl) (by kernel_rfl) (fun _ _ _ h => h) (by rfl) ?_ (by assumption) ?_
  rotate_left
  · intro w hSw; (try dsimp only at hSw); go_simp; (try with_reducible rfl)
  (try simp only [Act.put, pA12, List.setIfInBounds_toArray, List.set_cons_zero, List.set_cons_succ])
  refine wpAnyH_done (by kernel_rfl) ?_ _
  have KE := K5.out.trans k2
  go_wp2
  go_ret
  exact ⟨rfl, KE⟩
theorem printApart_yes (k pk : Int) (y m q : ByteArray) (a t : Bool) (l : List ND) (ad : Option Addr) (cp : Nat) (k' pk' : Int) (y' m' q' : ByteArray) (a' t' : Bool) (l' : List ND) (ad' : Option Addr) (cp' : Nat) (w : World) (hu : NodesAt w (.slice ad l.length cp) l) (hv : NodesAt w (.slice ad' l'.length cp') l') (bn : cntL l ≤ 2000000) (bm : cntL l' ≤ 2000000) (T : TabSH w) (hf : fewN (.mk k ⟨pk, y, m, q⟩ a t l : ND) = true) (hg : fewN (.mk k' ⟨pk', y', m', q'⟩ a' t' l' : ND) = true) : Calls Tryd.prog 11 #[.agg #[.int .i64 k, .int .i64 pk, .string y, .string m, .string q, .bool a, .bool t, .slice ad l.length cp], .agg #[.int .i64 k', .int .i64 pk', .string y', .string m', .string q', .bool a', .bool t', .slice ad' l'.length cp']] w fun e w' => e = .returned (.bool true) ∧ Kp w w' := by
  rcases Bool.eq_false_or_eq_true (saneN saneP (.mk k ⟨pk, y, m, q⟩ a t l : ND)) with h1 | h1
  rotate_left
  · exact printApart_no3 k pk y m q a t l ad cp k' pk' y' m' q' a' t' l' ad' cp' w hu hv bn bm T hf hg h1
  rcases Bool.eq_false_or_eq_true (saneN saneP (.mk k' ⟨pk', y', m', q'⟩ a' t' l' : ND)) with h2 | h2
  rotate_left
  · exact printApart_no4 k pk y m q a t l ad cp k' pk' y' m' q' a' t' l' ad' cp' w hu hv bn bm T hf hg h1 h2
  exact printApart_yes2 k pk y m q a t l ad cp k' pk' y' m' q' a' t' l' ad' cp' w hu hv bn bm T hf hg h1 h2
theorem printApart_walk (n m : ND) (u v : Value) (w : World) (hu : NodesAt w u n.l) (hv : NodesAt w v m.l) (bn : wgtN n ≤ 1048576) (bm : wgtN m ≤ 1048576) (T : TabSH w) :
    Calls Tryd.prog 11 #[ndV n u, ndV m v] w fun e w' => e = .returned (.bool true) ∧ Kp w w' := by
  have cn := cntL_of_wgt bn
  have cm := cntL_of_wgt bm
  obtain ⟨ad, cp, rfl⟩ := hu.slice
  obtain ⟨ad', cp', rfl⟩ := hv.slice
  obtain ⟨k, pk, y, q, d, a, t, l, rfl⟩ := nd_dest n
  obtain ⟨k', pk', y', q', d', a', t', l', rfl⟩ := nd_dest m
  rcases Bool.eq_false_or_eq_true (fewN (.mk k ⟨pk, y, q, d⟩ a t l)) with f1 | f1
  rotate_left
  · exact printApart_no1 k pk y q d a t l ad cp k' pk' y' q' d' a' t' l' ad' cp' w hu hv cn cm T f1
  rcases Bool.eq_false_or_eq_true (fewN (.mk k' ⟨pk', y', q', d'⟩ a' t' l')) with f2 | f2
  rotate_left
  · exact printApart_no2 k pk y q d a t l ad cp k' pk' y' q' d' a' t' l' ad' cp' w hu hv cn cm T f1 f2
  exact printApart_yes k pk y q d a t l ad cp k' pk' y' q' d' a' t' l' ad' cp' w hu hv cn cm T f1 f2
end Go.Proofs.YtjiikianmjmgcaaDoor

namespace Go.Proofs.YtjiikianmjmgcaaDoor
open Go.RowKit
set_option linter.unusedVariables false
set_option linter.unusedSimpArgs false
set_option maxHeartbeats 16000000 in
set_option maxRecDepth 100000 in
theorem printApart_no1G (k pk : Int) (y m q : ByteArray) (a t : Bool) (l : List ND) (ad : Option Addr) (cp : Nat) (k' pk' : Int) (y' m' q' : ByteArray) (a' t' : Bool) (l' : List ND) (ad' : Option Addr) (cp' : Nat) (w : World) (hu : NodesAt w (.slice ad l.length cp) l) (hv : NodesAt w (.slice ad' l'.length cp') l') (T : TabSH w) (hf : fewG (.mk k ⟨pk, y, m, q⟩ a t l : ND) = false) : Calls Tryd.prog 11 #[.agg #[.int .i64 k, .int .i64 pk, .string y, .string m, .string q, .bool a, .bool t, .slice ad l.length cp], .agg #[.int .i64 k', .int .i64 pk', .string y', .string m', .string q', .bool a', .bool t', .slice ad' l'.length cp']] w fun e w' => e = .returned (.bool true) ∧ Kp w w' := by
  have AW := Lib.hid (fun w1 (qq : Kp w w1) => awake11 w1 (T.kp qq))
  have F1 : ∀ w1, Kp w w1 → Calls Tryd.prog 24 #[.agg #[.int .i64 k, .int .i64 pk, .string y, .string m, .string q, .bool a, .bool t, .slice ad l.length cp]] w1 fun e w' => e = .returned (.bool (fewG (.mk k ⟨pk, y, m, q⟩ a t l : ND))) ∧ Kp w1 w' := fun w1 qq => rfewG_any (.mk k ⟨pk, y, m, q⟩ a t l : ND) (.slice ad l.length cp) w1 (hu.kp qq)
  have F2 : ∀ w1, Kp w w1 → Calls Tryd.prog 24 #[.agg #[.int .i64 k', .int .i64 pk', .string y', .string m', .string q', .bool a', .bool t', .slice ad' l'.length cp']] w1 fun e w' => e = .returned (.bool (fewG (.mk k' ⟨pk', y', m', q'⟩ a' t' l' : ND))) ∧ Kp w1 w' := fun w1 qq => rfewG_any (.mk k' ⟨pk', y', m', q'⟩ a' t' l' : ND) (.slice ad' l'.length cp') w1 (hv.kp qq)
  rw [hf] at F1
  have F1H := Lib.hid F1
  clear F1 F2 hu hv T hf
  go_enter Tryd.func11, Tryd.ntmps11
  go_wp2_with fail
  refine (AW.out _ ((Kp.alloc _ _).trans (Kp.alloc _ _))).mono ?_
  rintro e w1 ⟨rfl, kk⟩
  have gA := heap_block ((Kp.alloc _ _).trans kk) (heap_at w (.cells #[.int .i64 k, .int .i64 pk, .string y, .string m, .string q, .bool a, .bool t, .slice ad l.length cp] 46) w.heap.size rfl)
  have gB := heap_block kk (heap_at (w.alloc (.cells #[.int .i64 k, .int .i64 pk, .string y, .string m, .string q, .bool a, .bool t, .slice ad l.length cp] 46)) (.cells #[.int .i64 k', .int .i64 pk', .string y', .string m', .string q', .bool a', .bool t', .slice ad' l'.length cp'] 46) (w.heap.size + 1) (by simp))
  have K1 := Lib.hid (((Kp.alloc _ _).trans (Kp.alloc _ _)).trans kk)
  have GA := Lib.hid gA
  have GB := Lib.hid gB
  clear kk gA gB
  obtain ⟨x0, x1, x2, x3, x4, x5, x6, x7⟩ := row8 GA.out
  go_wp2_with fail
  refine (F1H.out _ K1.out).mono ?_
  rintro e w2 ⟨rfl, kk⟩
  have K2 := Lib.hid (K1.out.trans kk)
  have GA2 := Lib.hid (heap_block kk GA.out)
  have GB2 := Lib.hid (heap_block kk GB.out)
  clear kk x0 x1 x2 x3 x4 x5 x6 x7 GA GB
  go_wp2
  go_ret
  exact ⟨rfl, K2.out⟩
set_option maxHeartbeats 16000000 in
set_option maxRecDepth 100000 in
theorem printApart_no2G (k pk : Int) (y m q : ByteArray) (a t : Bool) (l : List ND) (ad : Option Addr) (cp : Nat) (k' pk' : Int) (y' m' q' : ByteArray) (a' t' : Bool) (l' : List ND) (ad' : Option Addr) (cp' : Nat) (w : World) (hu : NodesAt w (.slice ad l.length cp) l) (hv : NodesAt w (.slice ad' l'.length cp') l') (T : TabSH w) (hf : fewG (.mk k ⟨pk, y, m, q⟩ a t l : ND) = true) (hg : fewG (.mk k' ⟨pk', y', m', q'⟩ a' t' l' : ND) = false) : Calls Tryd.prog 11 #[.agg #[.int .i64 k, .int .i64 pk, .string y, .string m, .string q, .bool a, .bool t, .slice ad l.length cp], .agg #[.int .i64 k', .int .i64 pk', .string y', .string m', .string q', .bool a', .bool t', .slice ad' l'.length cp']] w fun e w' => e = .returned (.bool true) ∧ Kp w w' := by
  have AW := Lib.hid (fun w1 (qq : Kp w w1) => awake11 w1 (T.kp qq))
  have F1 : ∀ w1, Kp w w1 → Calls Tryd.prog 24 #[.agg #[.int .i64 k, .int .i64 pk, .string y, .string m, .string q, .bool a, .bool t, .slice ad l.length cp]] w1 fun e w' => e = .returned (.bool (fewG (.mk k ⟨pk, y, m, q⟩ a t l : ND))) ∧ Kp w1 w' := fun w1 qq => rfewG_any (.mk k ⟨pk, y, m, q⟩ a t l : ND) (.slice ad l.length cp) w1 (hu.kp qq)
  have F2 : ∀ w1, Kp w w1 → Calls Tryd.prog 24 #[.agg #[.int .i64 k', .int .i64 pk', .string y', .string m', .string q', .bool a', .bool t', .slice ad' l'.length cp']] w1 fun e w' => e = .returned (.bool (fewG (.mk k' ⟨pk', y', m', q'⟩ a' t' l' : ND))) ∧ Kp w1 w' := fun w1 qq => rfewG_any (.mk k' ⟨pk', y', m', q'⟩ a' t' l' : ND) (.slice ad' l'.length cp') w1 (hv.kp qq)
  rw [hf] at F1
  rw [hg] at F2
  have F1H := Lib.hid F1
  have F2H := Lib.hid F2
  clear F1 F2 hu hv T hf hg
  go_enter Tryd.func11, Tryd.ntmps11
  go_wp2_with fail
  refine (AW.out _ ((Kp.alloc _ _).trans (Kp.alloc _ _))).mono ?_
  rintro e w1 ⟨rfl, kk⟩
  have gA := heap_block ((Kp.alloc _ _).trans kk) (heap_at w (.cells #[.int .i64 k, .int .i64 pk, .string y, .string m, .string q, .bool a, .bool t, .slice ad l.length cp] 46) w.heap.size rfl)
  have gB := heap_block kk (heap_at (w.alloc (.cells #[.int .i64 k, .int .i64 pk, .string y, .string m, .string q, .bool a, .bool t, .slice ad l.length cp] 46)) (.cells #[.int .i64 k', .int .i64 pk', .string y', .string m', .string q', .bool a', .bool t', .slice ad' l'.length cp'] 46) (w.heap.size + 1) (by simp))
  have K1 := Lib.hid (((Kp.alloc _ _).trans (Kp.alloc _ _)).trans kk)
  have GA := Lib.hid gA
  have GB := Lib.hid gB
  clear kk gA gB
  obtain ⟨x0, x1, x2, x3, x4, x5, x6, x7⟩ := row8 GA.out
  go_wp2_with fail
  refine (F1H.out _ K1.out).mono ?_
  rintro e w2 ⟨rfl, kk⟩
  have K2 := Lib.hid (K1.out.trans kk)
  have GA2 := Lib.hid (heap_block kk GA.out)
  have GB2 := Lib.hid (heap_block kk GB.out)
  clear kk x0 x1 x2 x3 x4 x5 x6 x7 GA GB
  obtain ⟨x0, x1, x2, x3, x4, x5, x6, x7⟩ := row8 GB2.out
  go_wp2_with fail
  refine (F2H.out _ K2.out).mono ?_
  rintro e w3 ⟨rfl, kk⟩
  have K3 := Lib.hid (K2.out.trans kk)
  have GA := Lib.hid (heap_block kk GA2.out)
  have GB := Lib.hid (heap_block kk GB2.out)
  clear kk x0 x1 x2 x3 x4 x5 x6 x7 GA2 GB2
  go_wp2
  go_ret
  exact ⟨rfl, K3.out⟩
set_option maxHeartbeats 16000000 in
set_option maxRecDepth 100000 in
theorem printApart_no3G (k pk : Int) (y m q : ByteArray) (a t : Bool) (l : List ND) (ad : Option Addr) (cp : Nat) (k' pk' : Int) (y' m' q' : ByteArray) (a' t' : Bool) (l' : List ND) (ad' : Option Addr) (cp' : Nat) (w : World) (hu : NodesAt w (.slice ad l.length cp) l) (hv : NodesAt w (.slice ad' l'.length cp') l') (T : TabSH w) (hf : fewG (.mk k ⟨pk, y, m, q⟩ a t l : ND) = true) (hg : fewG (.mk k' ⟨pk', y', m', q'⟩ a' t' l' : ND) = true) (h1 : saneN saneP (.mk k ⟨pk, y, m, q⟩ a t l : ND) = false) : Calls Tryd.prog 11 #[.agg #[.int .i64 k, .int .i64 pk, .string y, .string m, .string q, .bool a, .bool t, .slice ad l.length cp], .agg #[.int .i64 k', .int .i64 pk', .string y', .string m', .string q', .bool a', .bool t', .slice ad' l'.length cp']] w fun e w' => e = .returned (.bool true) ∧ Kp w w' := by
  have AW := Lib.hid (fun w1 (qq : Kp w w1) => awake11 w1 (T.kp qq))
  have F1 : ∀ w1, Kp w w1 → Calls Tryd.prog 24 #[.agg #[.int .i64 k, .int .i64 pk, .string y, .string m, .string q, .bool a, .bool t, .slice ad l.length cp]] w1 fun e w' => e = .returned (.bool (fewG (.mk k ⟨pk, y, m, q⟩ a t l : ND))) ∧ Kp w1 w' := fun w1 qq => rfewG_any (.mk k ⟨pk, y, m, q⟩ a t l : ND) (.slice ad l.length cp) w1 (hu.kp qq)
  have F2 : ∀ w1, Kp w w1 → Calls Tryd.prog 24 #[.agg #[.int .i64 k', .int .i64 pk', .string y', .string m', .string q', .bool a', .bool t', .slice ad' l'.length cp']] w1 fun e w' => e = .returned (.bool (fewG (.mk k' ⟨pk', y', m', q'⟩ a' t' l' : ND))) ∧ Kp w1 w' := fun w1 qq => rfewG_any (.mk k' ⟨pk', y', m', q'⟩ a' t' l' : ND) (.slice ad' l'.length cp') w1 (hv.kp qq)
  rw [hf] at F1
  rw [hg] at F2
  have F1H := Lib.hid F1
  have F2H := Lib.hid F2
  have S1 : ∀ w1, Kp w w1 → Calls Tryd.prog 25 #[.agg #[.int .i64 k, .int .i64 pk, .string y, .string m, .string q, .bool a, .bool t, .slice ad l.length cp]] w1 fun e w' => e = .returned (.bool (saneN saneP (.mk k ⟨pk, y, m, q⟩ a t l : ND))) ∧ Kp w1 w' := fun w1 qq => tSaneG_any (.mk k ⟨pk, y, m, q⟩ a t l : ND) (.slice ad l.length cp) w1 (hu.kp qq) (T.kp qq)
  have S1H := Lib.hid S1
  clear S1
  have S2 : ∀ w1, Kp w w1 → Calls Tryd.prog 25 #[.agg #[.int .i64 k', .int .i64 pk', .string y', .string m', .string q', .bool a', .bool t', .slice ad' l'.length cp']] w1 fun e w' => e = .returned (.bool (saneN saneP (.mk k' ⟨pk', y', m', q'⟩ a' t' l' : ND))) ∧ Kp w1 w' := fun w1 qq => tSaneG_any (.mk k' ⟨pk', y', m', q'⟩ a' t' l' : ND) (.slice ad' l'.length cp') w1 (hv.kp qq) (T.kp qq)
  have S2H := Lib.hid S2
  clear S2
  rw [h1] at S1H
  clear h1
  clear F1 F2 hu hv T hf hg
  go_enter Tryd.func11, Tryd.ntmps11
  go_wp2_with fail
  refine (AW.out _ ((Kp.alloc _ _).trans (Kp.alloc _ _))).mono ?_
  rintro e w1 ⟨rfl, kk⟩
  have gA := heap_block ((Kp.alloc _ _).trans kk) (heap_at w (.cells #[.int .i64 k, .int .i64 pk, .string y, .string m, .string q, .bool a, .bool t, .slice ad l.length cp] 46) w.heap.size rfl)
  have gB := heap_block kk (heap_at (w.alloc (.cells #[.int .i64 k, .int .i64 pk, .string y, .string m, .string q, .bool a, .bool t, .slice ad l.length cp] 46)) (.cells #[.int .i64 k', .int .i64 pk', .string y', .string m', .string q', .bool a', .bool t', .slice ad' l'.length cp'] 46) (w.heap.size + 1) (by simp))
  have K1 := Lib.hid (((Kp.alloc _ _).trans (Kp.alloc _ _)).trans kk)
  have GA := Lib.hid gA
  have GB := Lib.hid gB
  clear kk gA gB
  obtain ⟨x0, x1, x2, x3, x4, x5, x6, x7⟩ := row8 GA.out
  go_wp2_with fail
  refine (F1H.out _ K1.out).mono ?_
  rintro e w2 ⟨rfl, kk⟩
  have K2 := Lib.hid (K1.out.trans kk)
  have GA2 := Lib.hid (heap_block kk GA.out)
  have GB2 := Lib.hid (heap_block kk GB.out)
  clear kk x0 x1 x2 x3 x4 x5 x6 x7 GA GB
  obtain ⟨x0, x1, x2, x3, x4, x5, x6, x7⟩ := row8 GB2.out
  go_wp2_with fail
  refine (F2H.out _ K2.out).mono ?_
  rintro e w3 ⟨rfl, kk⟩
  have K3 := Lib.hid (K2.out.trans kk)
  have GA := Lib.hid (heap_block kk GA2.out)
  have GB := Lib.hid (heap_block kk GB2.out)
  clear kk x0 x1 x2 x3 x4 x5 x6 x7 GA2 GB2
  obtain ⟨x0, x1, x2, x3, x4, x5, x6, x7⟩ := row8 GA.out
  go_wp2_with fail
  refine (S1H.out _ K3.out).mono ?_
  rintro e w4 ⟨rfl, kk⟩
  have K4 := Lib.hid (K3.out.trans kk)
  have GAx := Lib.hid (heap_block kk GA.out)
  have GBx := Lib.hid (heap_block kk GB.out)
  clear kk x0 x1 x2 x3 x4 x5 x6 x7 GA GB
  have GA := Lib.hid GAx.out
  have GB := Lib.hid GBx.out
  clear GAx GBx
  go_wp2
  go_ret
  exact ⟨rfl, K4.out⟩
set_option maxHeartbeats 16000000 in
set_option maxRecDepth 100000 in
theorem printApart_no4G (k pk : Int) (y m q : ByteArray) (a t : Bool) (l : List ND) (ad : Option Addr) (cp : Nat) (k' pk' : Int) (y' m' q' : ByteArray) (a' t' : Bool) (l' : List ND) (ad' : Option Addr) (cp' : Nat) (w : World) (hu : NodesAt w (.slice ad l.length cp) l) (hv : NodesAt w (.slice ad' l'.length cp') l') (T : TabSH w) (hf : fewG (.mk k ⟨pk, y, m, q⟩ a t l : ND) = true) (hg : fewG (.mk k' ⟨pk', y', m', q'⟩ a' t' l' : ND) = true) (h1 : saneN saneP (.mk k ⟨pk, y, m, q⟩ a t l : ND) = true) (h2 : saneN saneP (.mk k' ⟨pk', y', m', q'⟩ a' t' l' : ND) = false) : Calls Tryd.prog 11 #[.agg #[.int .i64 k, .int .i64 pk, .string y, .string m, .string q, .bool a, .bool t, .slice ad l.length cp], .agg #[.int .i64 k', .int .i64 pk', .string y', .string m', .string q', .bool a', .bool t', .slice ad' l'.length cp']] w fun e w' => e = .returned (.bool true) ∧ Kp w w' := by
  have AW := Lib.hid (fun w1 (qq : Kp w w1) => awake11 w1 (T.kp qq))
  have F1 : ∀ w1, Kp w w1 → Calls Tryd.prog 24 #[.agg #[.int .i64 k, .int .i64 pk, .string y, .string m, .string q, .bool a, .bool t, .slice ad l.length cp]] w1 fun e w' => e = .returned (.bool (fewG (.mk k ⟨pk, y, m, q⟩ a t l : ND))) ∧ Kp w1 w' := fun w1 qq => rfewG_any (.mk k ⟨pk, y, m, q⟩ a t l : ND) (.slice ad l.length cp) w1 (hu.kp qq)
  have F2 : ∀ w1, Kp w w1 → Calls Tryd.prog 24 #[.agg #[.int .i64 k', .int .i64 pk', .string y', .string m', .string q', .bool a', .bool t', .slice ad' l'.length cp']] w1 fun e w' => e = .returned (.bool (fewG (.mk k' ⟨pk', y', m', q'⟩ a' t' l' : ND))) ∧ Kp w1 w' := fun w1 qq => rfewG_any (.mk k' ⟨pk', y', m', q'⟩ a' t' l' : ND) (.slice ad' l'.length cp') w1 (hv.kp qq)
  rw [hf] at F1
  rw [hg] at F2
  have F1H := Lib.hid F1
  have F2H := Lib.hid F2
  have S1 : ∀ w1, Kp w w1 → Calls Tryd.prog 25 #[.agg #[.int .i64 k, .int .i64 pk, .string y, .string m, .string q, .bool a, .bool t, .slice ad l.length cp]] w1 fun e w' => e = .returned (.bool (saneN saneP (.mk k ⟨pk, y, m, q⟩ a t l : ND))) ∧ Kp w1 w' := fun w1 qq => tSaneG_any (.mk k ⟨pk, y, m, q⟩ a t l : ND) (.slice ad l.length cp) w1 (hu.kp qq) (T.kp qq)
  have S1H := Lib.hid S1
  clear S1
  have S2 : ∀ w1, Kp w w1 → Calls Tryd.prog 25 #[.agg #[.int .i64 k', .int .i64 pk', .string y', .string m', .string q', .bool a', .bool t', .slice ad' l'.length cp']] w1 fun e w' => e = .returned (.bool (saneN saneP (.mk k' ⟨pk', y', m', q'⟩ a' t' l' : ND))) ∧ Kp w1 w' := fun w1 qq => tSaneG_any (.mk k' ⟨pk', y', m', q'⟩ a' t' l' : ND) (.slice ad' l'.length cp') w1 (hv.kp qq) (T.kp qq)
  have S2H := Lib.hid S2
  clear S2
  rw [h1] at S1H
  rw [h2] at S2H
  clear h1 h2
  clear F1 F2 hu hv T hf hg
  go_enter Tryd.func11, Tryd.ntmps11
  go_wp2_with fail
  refine (AW.out _ ((Kp.alloc _ _).trans (Kp.alloc _ _))).mono ?_
  rintro e w1 ⟨rfl, kk⟩
  have gA := heap_block ((Kp.alloc _ _).trans kk) (heap_at w (.cells #[.int .i64 k, .int .i64 pk, .string y, .string m, .string q, .bool a, .bool t, .slice ad l.length cp] 46) w.heap.size rfl)
  have gB := heap_block kk (heap_at (w.alloc (.cells #[.int .i64 k, .int .i64 pk, .string y, .string m, .string q, .bool a, .bool t, .slice ad l.length cp] 46)) (.cells #[.int .i64 k', .int .i64 pk', .string y', .string m', .string q', .bool a', .bool t', .slice ad' l'.length cp'] 46) (w.heap.size + 1) (by simp))
  have K1 := Lib.hid (((Kp.alloc _ _).trans (Kp.alloc _ _)).trans kk)
  have GA := Lib.hid gA
  have GB := Lib.hid gB
  clear kk gA gB
  obtain ⟨x0, x1, x2, x3, x4, x5, x6, x7⟩ := row8 GA.out
  go_wp2_with fail
  refine (F1H.out _ K1.out).mono ?_
  rintro e w2 ⟨rfl, kk⟩
  have K2 := Lib.hid (K1.out.trans kk)
  have GA2 := Lib.hid (heap_block kk GA.out)
  have GB2 := Lib.hid (heap_block kk GB.out)
  clear kk x0 x1 x2 x3 x4 x5 x6 x7 GA GB
  obtain ⟨x0, x1, x2, x3, x4, x5, x6, x7⟩ := row8 GB2.out
  go_wp2_with fail
  refine (F2H.out _ K2.out).mono ?_
  rintro e w3 ⟨rfl, kk⟩
  have K3 := Lib.hid (K2.out.trans kk)
  have GA := Lib.hid (heap_block kk GA2.out)
  have GB := Lib.hid (heap_block kk GB2.out)
  clear kk x0 x1 x2 x3 x4 x5 x6 x7 GA2 GB2
  obtain ⟨x0, x1, x2, x3, x4, x5, x6, x7⟩ := row8 GA.out
  go_wp2_with fail
  refine (S1H.out _ K3.out).mono ?_
  rintro e w4 ⟨rfl, kk⟩
  have K4 := Lib.hid (K3.out.trans kk)
  have GAx := Lib.hid (heap_block kk GA.out)
  have GBx := Lib.hid (heap_block kk GB.out)
  clear kk x0 x1 x2 x3 x4 x5 x6 x7 GA GB
  have GA := Lib.hid GAx.out
  have GB := Lib.hid GBx.out
  clear GAx GBx
  obtain ⟨x0, x1, x2, x3, x4, x5, x6, x7⟩ := row8 GB.out
  go_wp2_with fail
  refine (S2H.out _ K4.out).mono ?_
  rintro e w5 ⟨rfl, kk⟩
  have K5 := Lib.hid (K4.out.trans kk)
  have GAx := Lib.hid (heap_block kk GA.out)
  have GBx := Lib.hid (heap_block kk GB.out)
  clear kk x0 x1 x2 x3 x4 x5 x6 x7 GA GB
  have GA := Lib.hid GAx.out
  have GB := Lib.hid GBx.out
  clear GAx GBx
  go_wp2
  go_ret
  exact ⟨rfl, K5.out⟩
theorem printApart_walkG (n m : ND) (u v : Value) (w : World) (hu : NodesAt w u n.l) (hv : NodesAt w v m.l) (T : TabSH w) :
    Calls Tryd.prog 11 #[ndV n u, ndV m v] w fun e w' => e = .returned (.bool true) ∧ Kp w w' := by
  obtain ⟨ad, cp, rfl⟩ := hu.slice
  obtain ⟨ad', cp', rfl⟩ := hv.slice
  obtain ⟨k, pk, y, q, d, a, t, l, rfl⟩ := nd_dest n
  obtain ⟨k', pk', y', q', d', a', t', l', rfl⟩ := nd_dest m
  rcases Bool.eq_false_or_eq_true (fewG (.mk k ⟨pk, y, q, d⟩ a t l)) with f1 | f1
  rotate_left
  · exact printApart_no1G k pk y q d a t l ad cp k' pk' y' q' d' a' t' l' ad' cp' w hu hv T f1
  rcases Bool.eq_false_or_eq_true (fewG (.mk k' ⟨pk', y', q', d'⟩ a' t' l')) with f2 | f2
  rotate_left
  · exact printApart_no2G k pk y q d a t l ad cp k' pk' y' q' d' a' t' l' ad' cp' w hu hv T f1 f2
  rcases Bool.eq_false_or_eq_true (saneN saneP (.mk k ⟨pk, y, q, d⟩ a t l)) with s1 | s1
  rotate_left
  · exact printApart_no3G k pk y q d a t l ad cp k' pk' y' q' d' a' t' l' ad' cp' w hu hv T f1 f2 s1
  rcases Bool.eq_false_or_eq_true (saneN saneP (.mk k' ⟨pk', y', q', d'⟩ a' t' l')) with s2 | s2
  rotate_left
  · exact printApart_no4G k pk y q d a t l ad cp k' pk' y' q' d' a' t' l' ad' cp' w hu hv T f1 f2 s1 s2
  · skip
    have c1 : cntN (.mk k ⟨pk, y, q, d⟩ a t l) ≤ 64 := by
      have h := s1
      unfold saneN at h
      simp only [Bool.and_eq_true, decide_eq_true_eq] at h
      exact h.1
    have e1 : cntN (.mk k ⟨pk, y, q, d⟩ a t l) = cntL l + 1 := rfl
    have c2 : cntN (.mk k' ⟨pk', y', q', d'⟩ a' t' l') ≤ 64 := by
      have h := s2
      unfold saneN at h
      simp only [Bool.and_eq_true, decide_eq_true_eq] at h
      exact h.1
    have e2 : cntN (.mk k' ⟨pk', y', q', d'⟩ a' t' l') = cntL l' + 1 := rfl
    exact printApart_yes2 k pk y q d a t l ad cp k' pk' y' q' d' a' t' l' ad' cp' w hu hv (by omega) (by omega) T (fewG_N f1 c1) (fewG_N f2 c2) s1 s2
end Go.Proofs.YtjiikianmjmgcaaDoor

namespace Go.Proofs.YtjiikianmjmgcaaDoor.lawPrintApart
open Go.ChangeShapes Go.WideShapes Go.ChangeAt Go.RowKit
open Go.ChangeMaps (open_string shut_string)
set_option linter.unusedVariables false

theorem own : ownKnob Tryd.prog.godebug = none := by kernel_rfl
theorem laidOut : laidOutB Tryd.prog = true := by kernel_rfl

/-- A world for the witness: the settled one, each table holding what its initialiser lays. -/
noncomputable def laidWorld (os : Os) : World :=
  { World.holding Tryd.prog os ⟨#[], #[], []⟩ with heap := ((World.holding Tryd.prog os ⟨#[], #[], []⟩).heap.modify 0 fun
      | .cells _ t frozen => .cells #[.int .i64 4, .int .i64 2, .int .i64 2, .int .i64 12, .string ⟨#[]⟩, .int .i64 4, .int .i64 2, .int .i64 0, .int .i64 12, .string ⟨#[]⟩, .int .i64 4, .int .i64 1, .int .i64 0, .int .i64 4, .string ⟨#[]⟩, .int .i64 4, .int .i64 0, .int .i64 0, .int .i64 0, .string ⟨#[]⟩, .int .i64 3, .int .i64 0, .int .i64 0, .int .i64 0, .string ⟨#[100]⟩, .int .i64 2, .int .i64 0, .int .i64 0, .int .i64 0, .string ⟨#[99]⟩] t frozen
      | o => o) }
theorem laid_met (os : Os) : laidMet Tryd.prog Rows.printApartRow.laid ((laidWorld os).forCall (fun _ _ => 0) ⟨#[], #[.agg #[.int .i64 0, .int .i64 0, .string ByteArray.empty, .string ByteArray.empty, .string ByteArray.empty, .bool false, .bool false, .slice none 0 0], .agg #[.int .i64 0, .int .i64 0, .string ByteArray.empty, .string ByteArray.empty, .string ByteArray.empty, .bool false, .bool false, .slice none 0 0]], []⟩).memory :=
  laidMet_of_run' 8 (by kernel_rfl) (by kernel_rfl)
theorem reads (os : Os) {H : Type} (enc : TypeId × Value → H) : ∃ places, DataW.whole enc Tryd.prog ((laidWorld os).forCall (fun _ _ => 0) ⟨#[], #[.agg #[.int .i64 0, .int .i64 0, .string ByteArray.empty, .string ByteArray.empty, .string ByteArray.empty, .bool false, .bool false, .slice none 0 0], .agg #[.int .i64 0, .int .i64 0, .string ByteArray.empty, .string ByteArray.empty, .string ByteArray.empty, .bool false, .bool false, .slice none 0 0]], []⟩).memory Tryd.f11.params.toList Rows.printApartSpec.vars false (#[.agg #[.int .i64 0, .int .i64 0, .string ByteArray.empty, .string ByteArray.empty, .string ByteArray.empty, .bool false, .bool false, .slice none 0 0], .agg #[.int .i64 0, .int .i64 0, .string ByteArray.empty, .string ByteArray.empty, .string ByteArray.empty, .bool false, .bool false, .slice none 0 0]] : Array Value).toList 8 = some ([.agg [.lit (.int .i64 0), .agg [.lit (.int .i64 0), .lit (.string []), .lit (.string []), .lit (.string [])], .lit (.bool false), .lit (.bool false), .nil], .agg [.lit (.int .i64 0), .agg [.lit (.int .i64 0), .lit (.string []), .lit (.string []), .lit (.string [])], .lit (.bool false), .lit (.bool false), .nil]], [], places) :=
  ⟨[], by kernel_rfl⟩

set_option maxRecDepth 100000 in
theorem contract (H : Type) (enc : TypeId × Value → H) (W : World) (base : Nat) (args : Array Value) (ds gs : List (DataW H)) (before : List MemPlace)
    (hval : ∀ (j : Nat) t v, Tryd.f11.params[j]? = some t → args[j]? = some v → Value.okWide Tryd.prog W .any base t v)
    (hW : DataW.Whole enc Tryd.prog Tryd.f11.params.toList Rows.printApartSpec.vars false W args.toList ds gs before) (hL : laidMetH Tryd.prog Rows.printApartRow.laid W) :
    Calls Tryd.prog 11 args W fun e W' => ∃ v, e = .returned v ∧ Rows.printApartSpec.post enc Tryd.prog Tryd.f11 false true false false W args v W' := by
  have hW' := hW
  have hltA : ∀ x ∈ before, x.block < W.heap.size := fun x hx => by simpa using hW'.lt x hx
  obtain ⟨p, q, hA0, hV, rfl, hfz, hnd⟩ := hW
  have hA : DataW.TrodAll enc Tryd.prog W 0 (fun _ => true) true Tryd.f11.params.toList args.toList ds p := hA0
  rw [Tryd.params11] at hA hval
  obtain ⟨v0, vs0, d0, ds0, p0, q0, hargs, rfl, rfl, h0, r0⟩ := trodAll_cons hA
  obtain ⟨v1, vs1, d1, ds1, p1, q1, rfl, rfl, rfl, h1, r1⟩ := trodAll_cons r0
  obtain ⟨rfl, rfl, rfl⟩ := trodAll_nil r1
  obtain rfl : args = #[v0, v1] := by cases args; simp_all
  obtain ⟨rfl, rfl⟩ := trodVars_none hV
  have hk0 := h0
  obtain ⟨n0, u0, rfl, hn0, gn0, wg0⟩ := open_node (hval 0 46 v0 rfl rfl) h0
  have hk1 := h1
  obtain ⟨n1, u1, rfl, hn1, gn1, wg1⟩ := open_node (hval 1 46 v1 rfl rfl) h1
  clear hA0
  simp only [List.append_nil] at hW'
  refine (printApart_walkG n0 n1 u0 u1 W hn0 hn1 (tabs_of1 hL)).mono fun e W' ⟨he, hg⟩ => ?_
  subst he
  have bel : Below W.heap.size W W' := hg
  exact ⟨_, rfl, _, _, _, [], _, [], hW', trodAll_mk1 (shut_bool Tryd.underlying4 _), (trodAll_cons_mk (Below.trod laidOut (by kernel_rfl) (of_decide_eq_true (by kernel_rfl)) hk0 bel (fun x hx => hltA x (by simp [hx]))) (trodAll_cons_mk (Below.trod laidOut (by kernel_rfl) (of_decide_eq_true (by kernel_rfl)) hk1 bel (fun x hx => hltA x (by simp [hx]))) trodAll_mk0)), rfl, bel.frame _, fun h => by cases h⟩

set_option maxRecDepth 100000 in
theorem lifted (os : Os) (started : os.Started) (H : Type) (enc : TypeId × Value → H) (F : Stop.Interp) :
    ReturnsInHanded {} Tryd.checked os 11 .any ((OpenSpec.ofChange Rows.printApartSpec).preRow enc Tryd.prog Tryd.f11 Rows.printApartRow.domain false Rows.printApartRow.laid) (((OpenSpec.ofChange Rows.printApartSpec).at F).post enc Tryd.prog Tryd.f11 false true false false) := by
  obtain ⟨places, hx⟩ := reads os enc
  refine returnsInHanded_of_row (C := Tryd.checked) (s := OpenSpec.ofChange Rows.printApartSpec) own started (by kernel_rfl) Tryd.func11
    (witness_row_at (enc := enc) (C := Tryd.checked) false (laidWorld os) #[.agg #[.int .i64 0, .int .i64 0, .string ByteArray.empty, .string ByteArray.empty, .string ByteArray.empty, .bool false, .bool false, .slice none 0 0], .agg #[.int .i64 0, .int .i64 0, .string ByteArray.empty, .string ByteArray.empty, .string ByteArray.empty, .bool false, .bool false, .slice none 0 0]] rfl (by kernel_rfl) (by kernel_rfl) (by kernel_rfl)
      (OpenSpec.preRow_of_cond 8 hx (by kernel_rfl) (fun k hk => by cases hk) (by kernel_rfl) (laid_met os))) ?_
  intro W base args ds gs before hval hW _ hcond _ hL _ _
  exact contract H enc W base args ds gs before hval hW hL

theorem said : Rows.PrintApartSaid :=
  OpenClaim.holds_of_cond 11 Tryd.f11 rfl rfl rfl rfl rfl rfl rfl ⟨rfl, rfl, rfl, rfl, rfl⟩ rfl rfl rfl rfl rfl (by kernel_rfl) Tryd.func11 (by kernel_rfl)
    (of_decide_eq_true (by kernel_rfl)) (by unfold Func.isWrapper; first | (rw [if_pos (by decide +kernel)]; kernel_rfl) | (rw [if_neg (by decide +kernel)]; exact ⟨rfl, rfl⟩))
    (fun os started H enc _ F => by rw [OpenClaim.pre_eq_preRow]; exact lifted os started H enc F)

theorem plain (f : FuncId) (fn : Func) (hf : Tryd.pinned.checked.prog.funcNamed "lustrum/lustrumlaw11.PrintApart" = some f) (hfn : Tryd.pinned.checked.prog.funcs[f]? = some fn) :
    false = Tryd.pinned.checked.prog.looks [] ∧ ∀ (j : Nat) t, fn.params[j]? = some t → Tryd.pinned.checked.prog.wantsStandIn t = false := by
  obtain rfl : f = 11 := Option.some.inj ((show Tryd.prog.funcNamed "lustrum/lustrumlaw11.PrintApart" = some 11 by kernel_rfl).symm.trans hf) |>.symm
  obtain rfl : fn = Tryd.f11 := (Option.some.inj (Tryd.func11.symm.trans hfn)).symm
  refine ⟨by kernel_rfl, fun j t ht => ?_⟩
  rw [Tryd.params11] at ht
  have hm := Array.mem_of_getElem? ht
  have ho : t = 46 := by first | simpa using hm | (simp at hm; rcases hm with h <;> simp [h])
  subst ho
  exact (show Tryd.prog.wantsStandIn 46 = false by kernel_rfl)

/-- THE CARD. -/
theorem proved : Rows.PrintApartCardSaid :=
  Claim7.holds_tied_plain_at .later [] _ _ _ _ said (fun _ h => by cases h) (by kernel_rfl) (fun _ h => by cases h) printApart_row_tie rfl ⟨rfl, rfl⟩ (by kernel_rfl) rfl plain (by kernel_rfl)
#print axioms proved
end Go.Proofs.YtjiikianmjmgcaaDoor.lawPrintApart
