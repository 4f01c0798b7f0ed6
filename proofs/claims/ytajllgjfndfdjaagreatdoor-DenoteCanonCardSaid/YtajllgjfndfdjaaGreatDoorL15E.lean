import Derived.Test.YtajllgjfndfdjaaGreatDoorDnQ
import Derived.Test.YtajllgjfndfdjaaGreatDoorSeg
namespace Go.Proofs.YtajllgjfndfdjaaGreatDoor
open Go.RowKit Go.Shelf
set_option linter.unusedVariables false
set_option linter.unusedSimpArgs false
abbrev dcA0 : Oper := { dst := some 31, op := Go.Op.move (Go.Operand.tmp 5), type := 4, pos := "law.go:96", after := #[], guard := none }
abbrev dcA1 : Oper := { dst := some 32, op := Go.Op.move (Go.Operand.tmp 31), type := 4, pos := "law.go:96", after := #[{ on := 0, ground := Go.Ground.data }], guard := none }
abbrev dcA2 : Oper := { dst := some 33, op := Go.Op.move (Go.Operand.tmp 7), type := 32, pos := "law.go:96", after := #[{ on := 1, ground := Go.Ground.guard }], guard := some (1, true) }
abbrev dcA3 : Oper := { dst := some 34, op := Go.Op.move (Go.Operand.tmp 9), type := 32, pos := "law.go:96", after := #[{ on := 1, ground := Go.Ground.guard }], guard := some (1, true) }
abbrev dcA4 : Oper := { dst := some 35, op := Go.Op.binOp Go.BinOp.eql 32 (Go.Operand.tmp 33) (Go.Operand.tmp 34) 32, type := 4, pos := "law.go:96", after := #[{ on := 2, ground := Go.Ground.data }, { on := 3, ground := Go.Ground.data }, { on := 1, ground := Go.Ground.guard }], guard := some (1, true) }
abbrev dcA5 : Oper := { dst := some 36, op := Go.Op.pick (Go.Operand.tmp 32) (Go.Operand.tmp 35) (Go.Operand.const (Go.Value.bool false)), type := 4, pos := "law.go:96", after := #[{ on := 1, ground := Go.Ground.data }, { on := 4, ground := Go.Ground.data }], guard := none }
abbrev dcA6 : Oper := { dst := some 37, op := Go.Op.move (Go.Operand.tmp 36), type := 4, pos := "law.go:96", after := #[{ on := 5, ground := Go.Ground.data }, { on := 1, ground := Go.Ground.chain }], guard := none }
abbrev dcA7 : Oper := { dst := some 38, op := Go.Op.move (Go.Operand.tmp 6), type := 31, pos := "law.go:96", after := #[{ on := 6, ground := Go.Ground.guard }], guard := some (6, true) }
abbrev dcA8 : Oper := { dst := some 39, op := Go.Op.load 28 (Go.Operand.tmp 3), type := 28, pos := "law.go:96", after := #[{ on := 6, ground := Go.Ground.guard }], guard := some (6, true) }
abbrev dcA9 : Oper := { dst := some 40, op := Go.Op.call { callee := Go.Callee.value (Go.Operand.func 9), args := #[Go.Operand.tmp 38, Go.Operand.tmp 39], argTypes := #[31, 28] }, type := 4, pos := "law.go:96", after := #[{ on := 7, ground := Go.Ground.data }, { on := 8, ground := Go.Ground.data }, { on := 6, ground := Go.Ground.chain }, { on := 6, ground := Go.Ground.guard }], guard := some (6, true) }
abbrev dcA10 : Oper := { dst := some 41, op := Go.Op.move (Go.Operand.tmp 8), type := 31, pos := "law.go:96", after := #[{ on := 6, ground := Go.Ground.guard }], guard := some (6, true) }
abbrev dcA11 : Oper := { dst := some 42, op := Go.Op.load 28 (Go.Operand.tmp 3), type := 28, pos := "law.go:96", after := #[{ on := 6, ground := Go.Ground.guard }], guard := some (6, true) }
abbrev dcA12 : Oper := { dst := some 43, op := Go.Op.call { callee := Go.Callee.value (Go.Operand.func 9), args := #[Go.Operand.tmp 41, Go.Operand.tmp 42], argTypes := #[31, 28] }, type := 4, pos := "law.go:96", after := #[{ on := 10, ground := Go.Ground.data }, { on := 11, ground := Go.Ground.data }, { on := 9, ground := Go.Ground.chain }, { on := 6, ground := Go.Ground.guard }], guard := some (6, true) }
abbrev dcA13 : Oper := { dst := some 44, op := Go.Op.binOp Go.BinOp.eql 4 (Go.Operand.tmp 40) (Go.Operand.tmp 43) 4, type := 4, pos := "law.go:96", after := #[{ on := 9, ground := Go.Ground.data }, { on := 12, ground := Go.Ground.data }, { on := 6, ground := Go.Ground.guard }], guard := some (6, true) }
abbrev dcA14 : Oper := { dst := some 45, op := Go.Op.pick (Go.Operand.tmp 37) (Go.Operand.tmp 44) (Go.Operand.const (Go.Value.bool false)), type := 4, pos := "law.go:96", after := #[{ on := 6, ground := Go.Ground.data }, { on := 13, ground := Go.Ground.data }], guard := none }
abbrev dcA15 : Oper := { dst := some 46, op := Go.Op.move (Go.Operand.tmp 45), type := 4, pos := "law.go:96", after := #[{ on := 14, ground := Go.Ground.data }, { on := 12, ground := Go.Ground.chain }], guard := none }
abbrev dcA16 : Oper := { dst := some 47, op := Go.Op.move (Go.Operand.tmp 8), type := 31, pos := "law.go:96", after := #[{ on := 15, ground := Go.Ground.guard }], guard := some (15, true) }
abbrev dcA17 : Oper := { dst := some 48, op := Go.Op.call { callee := Go.Callee.value (Go.Operand.func 10), args := #[Go.Operand.tmp 47], argTypes := #[31] }, type := 3, pos := "law.go:96", after := #[{ on := 16, ground := Go.Ground.data }, { on := 15, ground := Go.Ground.chain }, { on := 15, ground := Go.Ground.guard }], guard := some (15, true) }
abbrev dcA18 : Oper := { dst := some 49, op := Go.Op.move (Go.Operand.tmp 6), type := 31, pos := "law.go:96", after := #[{ on := 15, ground := Go.Ground.guard }], guard := some (15, true) }
abbrev dcA19 : Oper := { dst := some 50, op := Go.Op.call { callee := Go.Callee.value (Go.Operand.func 10), args := #[Go.Operand.tmp 49], argTypes := #[31] }, type := 3, pos := "law.go:96", after := #[{ on := 18, ground := Go.Ground.data }, { on := 17, ground := Go.Ground.chain }, { on := 15, ground := Go.Ground.guard }], guard := some (15, true) }
abbrev dcA20 : Oper := { dst := some 51, op := Go.Op.binOp Go.BinOp.leq 3 (Go.Operand.tmp 48) (Go.Operand.tmp 50) 3, type := 4, pos := "law.go:96", after := #[{ on := 17, ground := Go.Ground.data }, { on := 19, ground := Go.Ground.data }, { on := 15, ground := Go.Ground.guard }], guard := some (15, true) }
abbrev dcA21 : Oper := { dst := some 52, op := Go.Op.pick (Go.Operand.tmp 46) (Go.Operand.tmp 51) (Go.Operand.const (Go.Value.bool false)), type := 4, pos := "law.go:96", after := #[{ on := 15, ground := Go.Ground.data }, { on := 20, ground := Go.Ground.data }], guard := none }
abbrev dcA22 : Oper := { dst := some 4, op := Go.Op.assign (Go.Operand.tmp 52), type := 4, pos := "law.go:96", after := #[{ on := 21, ground := Go.Ground.data }, { on := 19, ground := Go.Ground.chain }, { on := 0, ground := Go.Ground.phase }, { on := 1, ground := Go.Ground.phase }, { on := 2, ground := Go.Ground.phase }, { on := 3, ground := Go.Ground.phase }, { on := 4, ground := Go.Ground.phase }, { on := 5, ground := Go.Ground.phase }, { on := 6, ground := Go.Ground.phase }, { on := 7, ground := Go.Ground.phase }, { on := 8, ground := Go.Ground.phase }, { on := 9, ground := Go.Ground.phase }, { on := 10, ground := Go.Ground.phase }, { on := 11, ground := Go.Ground.phase }, { on := 12, ground := Go.Ground.phase }, { on := 13, ground := Go.Ground.phase }, { on := 14, ground := Go.Ground.phase }, { on := 15, ground := Go.Ground.phase }, { on := 16, ground := Go.Ground.phase }, { on := 17, ground := Go.Ground.phase }, { on := 18, ground := Go.Ground.phase }, { on := 19, ground := Go.Ground.phase }, { on := 20, ground := Go.Ground.phase }, { on := 21, ground := Go.Ground.phase }], guard := none }
theorem tsh {w : World} (T : Tabs8 w) : TabSH w := T.2.1
set_option maxHeartbeats 16000000 in
set_option maxRecDepth 100000 in
theorem dcan_no (n : ND) (u : Value) (qS qE : Int) (w : World) (hn : NodesAt w u n.l) (hq1 : -9223372036854775808 ≤ qS) (hq2 : qS ≤ 9223372036854775807) (hq3 : -9223372036854775808 ≤ qE) (hq4 : qE ≤ 9223372036854775807) (T : Tabs8 w) (hs : saneN saneP n = false) :
  Calls Tryz.prog 3 #[ndV n u, .agg #[.int .i64 qS, .int .i64 qE]] w fun e w' => e = .returned (.bool true) ∧ Kp w w' := by
 obtain ⟨ad, cp, rfl⟩ := hn.slice
 have AW := Lib.hid (fun w1 (kk : Kp w w1) => show Calls Tryz.prog 4 #[] w1 fun e w' => e = .returned (.bool true) ∧ Kp w1 w' from awake15 w1 (T.kp kk))
 have FW := Lib.hid (fun ad1 cp1 w1 (h : NodesAt w1 (.slice ad1 n.l.length cp1) n.l) (kk : Kp w w1) => show Calls Tryz.prog 5 #[.agg #[.int .i64 n.k, .int .i64 n.p.k, .string n.p.y, .string n.p.m, .string n.p.d, .bool n.a, .bool n.t, .slice ad1 n.l.length cp1]] w1 fun e w' => (∃ b : Value, (b = .bool true ∨ b = .bool false) ∧ e = .returned b) ∧ Kp w1 w' from small_any n _ w1 h)
 have SN := Lib.hid (fun ad1 cp1 w1 (h : NodesAt w1 (.slice ad1 n.l.length cp1) n.l) (kk : Kp w w1) => show Calls Tryz.prog 6 #[.agg #[.int .i64 n.k, .int .i64 n.p.k, .string n.p.y, .string n.p.m, .string n.p.d, .bool n.a, .bool n.t, .slice ad1 n.l.length cp1]] w1 fun e w' => e = .returned (.bool false) ∧ Kp w1 w' from hs ▸ tSaneG_any n _ w1 h (tsh (T.kp kk)))
 unfold ndV
 have K00 := Lib.hid (Kp.refl w)
 obtain ⟨v0, hV⟩ : ∃ x, x = (w.alloc (.cells #[.int .i64 n.k, .int .i64 n.p.k, .string n.p.y, .string n.p.m, .string n.p.d, .bool n.a, .bool n.t, .slice ad n.l.length cp] 26)).alloc (.cells #[.int .i64 qS, .int .i64 qE] 28) := ⟨_, rfl⟩
 have ka : Kp w v0 := by rw [hV]; exact (Kp.alloc _ _).trans (Kp.alloc _ _)
 have Bx := Lib.hid (show NB v0 w.heap.size n from NB.of (by rw [hV]; exact heap_block (Kp.alloc _ _) (heap_at _ _ _ rfl)) (hn.kp ka))
 have gq : v0.heap[w.heap.size + 1]? = some (.cells #[.int .i64 qS, .int .i64 qE] 28 (0, 0)) := by rw [hV]; exact heap_at _ _ _ (by simp)
 have PQ := Lib.hid (fun w1 (k : Kp v0 w1) => show w1.cell? ⟨w.heap.size + 1, 0, none⟩ = some (.int .i64 qS) ∧ w1.cell? ⟨w.heap.size + 1, 1, none⟩ = some (.int .i64 qE) from ⟨by simp [World.cell?, heap_block k gq], by simp [World.cell?, heap_block k gq]⟩)
 have Kv0 := Lib.hid ka
 have HV := Lib.hid hV
 clear hV ka gq T hn hs
 go_enter Tryz.func3, Tryz.ntmps3
 go_upto_region 1 with fail
 rw [← HV.out]
 clear HV
 have KP := Lib.hid (Kp.refl v0)
 go_wp2_with fail
 refine (AW.out _ Kv0.out).mono ?_
 rintro e w1 ⟨rfl, kz⟩
 have Kw1 := Lib.hid (Kv0.out.trans kz)
 have Bx := Lib.hid (Bx.out.kp kz)
 have KP := Lib.hid (KP.out.trans kz)
 clear kz
 go_upto_region 2 with fail
 obtain ⟨adx, cpx, gx, nx⟩ := Bx.out.opn
 have Nx := Lib.hid nx
 obtain ⟨cx0, cx1, cx2, cx3, cx4, cx5, cx6, cx7⟩ := row8 gx
 clear nx gx
 go_wp2_with fail
 refine (FW.out _ _ _ Nx.out Kw1.out).mono ?_
 rintro e w2 ⟨⟨b, hb', rfl⟩, kz⟩
 clear cx0 cx1 cx2 cx3 cx4 cx5 cx6 cx7
 have Kw2 := Lib.hid (Kw1.out.trans kz)
 have Bx := Lib.hid (Bx.out.kp kz)
 have KP := Lib.hid (KP.out.trans kz)
 clear kz
 rcases hb' with rfl | rfl
 rotate_left
 ·go_wp2
  go_ret
  exact ⟨rfl, Kw2.out⟩
 obtain ⟨adx, cpx, gx, nx⟩ := Bx.out.opn
 have Nx := Lib.hid nx
 obtain ⟨cx0, cx1, cx2, cx3, cx4, cx5, cx6, cx7⟩ := row8 gx
 clear nx gx
 go_wp2_with fail
 refine (SN.out _ _ _ Nx.out Kw2.out).mono ?_
 rintro e w3 ⟨rfl, kz⟩
 clear cx0 cx1 cx2 cx3 cx4 cx5 cx6 cx7
 have Kw3 := Lib.hid (Kw2.out.trans kz)
 have Bx := Lib.hid (Bx.out.kp kz)
 have KP := Lib.hid (KP.out.trans kz)
 clear kz
 go_wp2
 go_ret
 exact ⟨rfl, Kw3.out⟩
set_option maxHeartbeats 16000000 in
set_option maxRecDepth 100000 in
theorem dcan_yes (n : ND) (u : Value) (qS qE : Int) (w : World) (hn : NodesAt w u n.l) (hq1 : -9223372036854775808 ≤ qS) (hq2 : qS ≤ 9223372036854775807) (hq3 : -9223372036854775808 ≤ qE) (hq4 : qE ≤ 9223372036854775807) (T : Tabs8 w) (hs : saneN saneP n = true) :
  Calls Tryz.prog 3 #[ndV n u, .agg #[.int .i64 qS, .int .i64 qE]] w fun e w' => e = .returned (.bool true) ∧ Kp w w' := by
 obtain ⟨ad, cp, rfl⟩ := hn.slice
 have AW := Lib.hid (fun w1 (kk : Kp w w1) => show Calls Tryz.prog 4 #[] w1 fun e w' => e = .returned (.bool true) ∧ Kp w1 w' from awake15 w1 (T.kp kk))
 have FW := Lib.hid (fun ad1 cp1 w1 (h : NodesAt w1 (.slice ad1 n.l.length cp1) n.l) (kk : Kp w w1) => show Calls Tryz.prog 5 #[.agg #[.int .i64 n.k, .int .i64 n.p.k, .string n.p.y, .string n.p.m, .string n.p.d, .bool n.a, .bool n.t, .slice ad1 n.l.length cp1]] w1 fun e w' => (∃ b : Value, (b = .bool true ∨ b = .bool false) ∧ e = .returned b) ∧ Kp w1 w' from small_any n _ w1 h)
 have SN := Lib.hid (fun ad1 cp1 w1 (h : NodesAt w1 (.slice ad1 n.l.length cp1) n.l) (kk : Kp w w1) => show Calls Tryz.prog 6 #[.agg #[.int .i64 n.k, .int .i64 n.p.k, .string n.p.y, .string n.p.m, .string n.p.d, .bool n.a, .bool n.t, .slice ad1 n.l.length cp1]] w1 fun e w' => e = .returned (.bool true) ∧ Kp w1 w' from hs ▸ tSaneG_any n _ w1 h (tsh (T.kp kk)))
 obtain ⟨e1, e2, e3, o1, o2, n1, n2⟩ := can_of hs
 have cf := canF_yes hs
 have OF := Lib.hid (fun ad1 cp1 w1 (h : NodesAt w1 (.slice ad1 n.l.length cp1) n.l) (kk : Kp w w1) => show Calls Tryz.prog 7 #[.agg #[.int .i64 n.k, .int .i64 n.p.k, .string n.p.y, .string n.p.m, .string n.p.d, .bool n.a, .bool n.t, .slice ad1 n.l.length cp1]] w1 fun e w' => ∃ ad2 cp2, e = .returned (.tuple #[.slice ad2 (ofS n).length cp2, .int .i64 (ofE n)]) ∧ LeavesAt w' (.slice ad2 (ofS n).length cp2) (ofS n) ∧ Kp w1 w' from (dnOf_any n _ w1 h (T.kp kk)).mono (fun e w' ⟨v', e1, h', k'⟩ => by obtain ⟨ad2, cp2, rfl⟩ := h'.slice; exact ⟨ad2, cp2, e1, h', k'⟩))
 have CN := Lib.hid (fun ad1 cp1 w1 (h : NodesAt w1 (.slice ad1 n.l.length cp1) n.l) (kk : Kp w w1) => show Calls Tryz.prog 8 #[.agg #[.int .i64 n.k, .int .i64 n.p.k, .string n.p.y, .string n.p.m, .string n.p.d, .bool n.a, .bool n.t, .slice ad1 n.l.length cp1]] w1 fun e w' => ∃ ad2 cp2, e = .returned (.agg #[.int .i64 (canN n).k, .int .i64 (canN n).p.k, .string (canN n).p.y, .string (canN n).p.m, .string (canN n).p.d, .bool (canN n).a, .bool (canN n).t, .slice ad2 (canN n).l.length cp2]) ∧ NodesAt w' (.slice ad2 (canN n).l.length cp2) (canN n).l ∧ Kp w1 w' from (ccan_any n _ w1 h (tsh (T.kp kk))).mono (fun e w' ⟨v', e1, h', k'⟩ => by rw [cf] at e1 h'; obtain ⟨ad2, cp2, rfl⟩ := h'.slice; exact ⟨ad2, cp2, e1, h', k'⟩))
 have OG := Lib.hid (fun ad1 cp1 w1 (h : NodesAt w1 (.slice ad1 (canN n).l.length cp1) (canN n).l) (kk : Kp w w1) => show Calls Tryz.prog 7 #[.agg #[.int .i64 (canN n).k, .int .i64 (canN n).p.k, .string (canN n).p.y, .string (canN n).p.m, .string (canN n).p.d, .bool (canN n).a, .bool (canN n).t, .slice ad1 (canN n).l.length cp1]] w1 fun e w' => ∃ ad2 cp2, e = .returned (.tuple #[.slice ad2 (ofS (canN n)).length cp2, .int .i64 (ofE n)]) ∧ LeavesAt w' (.slice ad2 (ofS (canN n)).length cp2) (ofS (canN n)) ∧ Kp w1 w' from (dnOf_any (canN n) _ w1 h (T.kp kk)).mono (fun e w' ⟨v', g1, h', k'⟩ => by rw [e1] at g1; obtain ⟨ad2, cp2, rfl⟩ := h'.slice; exact ⟨ad2, cp2, g1, h', k'⟩))
 have HA := Lib.hid (fun v w1 (h : LeavesAt w1 v (ofS n)) (kk : Kp w w1) => show Calls Tryz.prog 9 #[v, .agg #[.int .i64 qS, .int .i64 qE]] w1 fun e w' => e = .returned (.bool (hasL (ofS n) qS qE)) ∧ Kp w1 w' from denHas_any v _ qS qE w1 h o1 (T.kp kk).1 hq1 hq2 hq3 hq4)
 have HC := Lib.hid (fun v w1 (h : LeavesAt w1 v (ofS (canN n))) (kk : Kp w w1) => show Calls Tryz.prog 9 #[v, .agg #[.int .i64 qS, .int .i64 qE]] w1 fun e w' => e = .returned (.bool (hasL (ofS n) qS qE)) ∧ Kp w1 w' from e2 qS qE ▸ denHas_any v _ qS qE w1 h o2 (T.kp kk).1 hq1 hq2 hq3 hq4)
 have ZA := Lib.hid (fun v w1 (h : LeavesAt w1 v (ofS n)) => show Calls Tryz.prog 10 #[v] w1 fun e w' => e = .returned (.int .i64 (sizeL (ofS n) : Nat)) ∧ Kp w1 w' from dn_size v _ w1 h o1 (by omega))
 have ZC := Lib.hid (fun v w1 (h : LeavesAt w1 v (ofS (canN n))) => show Calls Tryz.prog 10 #[v] w1 fun e w' => e = .returned (.int .i64 (sizeL (ofS (canN n)) : Nat)) ∧ Kp w1 w' from dn_size v _ w1 h o2 (by omega))
 clear o1 o2 n1 n2 e1 e2 cf
 generalize hasL (ofS n) qS qE = hb at *
 generalize ofE n = er at *
 generalize sizeL (ofS n) = z1 at *
 generalize sizeL (ofS (canN n)) = z2 at *
 have g1 : decide ((z2 : Int) ≤ (z1 : Int)) = true := decide_eq_true (by omega)
 have g2 : decide (z2 ≤ z1) = true := decide_eq_true e3
 generalize ofS (canN n) = L2 at *
 generalize ofS n = L1 at *
 generalize canN n = c at *
 clear e3
 unfold ndV
 have K00 := Lib.hid (Kp.refl w)
 obtain ⟨v0, hV⟩ : ∃ x, x = (w.alloc (.cells #[.int .i64 n.k, .int .i64 n.p.k, .string n.p.y, .string n.p.m, .string n.p.d, .bool n.a, .bool n.t, .slice ad n.l.length cp] 26)).alloc (.cells #[.int .i64 qS, .int .i64 qE] 28) := ⟨_, rfl⟩
 have ka : Kp w v0 := by rw [hV]; exact (Kp.alloc _ _).trans (Kp.alloc _ _)
 have Bx := Lib.hid (show NB v0 w.heap.size n from NB.of (by rw [hV]; exact heap_block (Kp.alloc _ _) (heap_at _ _ _ rfl)) (hn.kp ka))
 have gq : v0.heap[w.heap.size + 1]? = some (.cells #[.int .i64 qS, .int .i64 qE] 28 (0, 0)) := by rw [hV]; exact heap_at _ _ _ (by simp)
 have PQ := Lib.hid (fun w1 (k : Kp v0 w1) => show w1.cell? ⟨w.heap.size + 1, 0, none⟩ = some (.int .i64 qS) ∧ w1.cell? ⟨w.heap.size + 1, 1, none⟩ = some (.int .i64 qE) from ⟨by simp [World.cell?, heap_block k gq], by simp [World.cell?, heap_block k gq]⟩)
 have Kv0 := Lib.hid ka
 have HV := Lib.hid hV
 clear hV ka gq T hn hs
 go_enter Tryz.func3, Tryz.ntmps3
 go_upto_region 1 with fail
 rw [← HV.out]
 clear HV
 have KP := Lib.hid (Kp.refl v0)
 go_wp2_with fail
 refine (AW.out _ Kv0.out).mono ?_
 rintro e w1 ⟨rfl, kz⟩
 have Kw1 := Lib.hid (Kv0.out.trans kz)
 have Bx := Lib.hid (Bx.out.kp kz)
 have KP := Lib.hid (KP.out.trans kz)
 clear kz
 go_upto_region 2 with fail
 obtain ⟨adx, cpx, gx, nx⟩ := Bx.out.opn
 have Nx := Lib.hid nx
 obtain ⟨cx0, cx1, cx2, cx3, cx4, cx5, cx6, cx7⟩ := row8 gx
 clear nx gx
 go_wp2_with fail
 refine (FW.out _ _ _ Nx.out Kw1.out).mono ?_
 rintro e w2 ⟨⟨b, hb', rfl⟩, kz⟩
 clear cx0 cx1 cx2 cx3 cx4 cx5 cx6 cx7
 have Kw2 := Lib.hid (Kw1.out.trans kz)
 have Bx := Lib.hid (Bx.out.kp kz)
 have KP := Lib.hid (KP.out.trans kz)
 clear kz
 rcases hb' with rfl | rfl
 rotate_left
 ·go_wp2
  go_ret
  exact ⟨rfl, Kw2.out⟩
 obtain ⟨adx, cpx, gx, nx⟩ := Bx.out.opn
 have Nx := Lib.hid nx
 obtain ⟨cx0, cx1, cx2, cx3, cx4, cx5, cx6, cx7⟩ := row8 gx
 clear nx gx
 go_wp2_with fail
 refine (SN.out _ _ _ Nx.out Kw2.out).mono ?_
 rintro e w3 ⟨rfl, kz⟩
 clear cx0 cx1 cx2 cx3 cx4 cx5 cx6 cx7
 have Kw3 := Lib.hid (Kw2.out.trans kz)
 have Bx := Lib.hid (Bx.out.kp kz)
 have KP := Lib.hid (KP.out.trans kz)
 clear kz
 go_upto_region 4 with fail
 obtain ⟨adx, cpx, gx, nx⟩ := Bx.out.opn
 have Nx := Lib.hid nx
 obtain ⟨cx0, cx1, cx2, cx3, cx4, cx5, cx6, cx7⟩ := row8 gx
 clear nx gx
 go_wp2_with fail
 refine (OF.out _ _ _ Nx.out Kw3.out).mono ?_
 rintro e w4 ⟨ad1, cp1, rfl, h1, kz⟩
 clear cx0 cx1 cx2 cx3 cx4 cx5 cx6 cx7
 have Kw4 := Lib.hid (Kw3.out.trans kz)
 have Bx := Lib.hid (Bx.out.kp kz)
 have KP := Lib.hid (KP.out.trans kz)
 have LA := Lib.hid h1
 clear h1
 clear kz
 go_upto_region 5 with fail
 obtain ⟨adx, cpx, gx, nx⟩ := Bx.out.opn
 have Nx := Lib.hid nx
 obtain ⟨cx0, cx1, cx2, cx3, cx4, cx5, cx6, cx7⟩ := row8 gx
 clear nx gx
 go_wp2_with fail
 refine (CN.out _ _ _ Nx.out Kw4.out).mono ?_
 rintro e w5 ⟨ad2, cp2, rfl, h2, kz⟩
 clear cx0 cx1 cx2 cx3 cx4 cx5 cx6 cx7
 have Kw5 := Lib.hid (Kw4.out.trans kz)
 have Bx := Lib.hid (Bx.out.kp kz)
 have KP := Lib.hid (KP.out.trans kz)
 have LA := Lib.hid (LA.out.kp kz)
 clear kz
 go_wp2_with fail
 refine (OG.out _ _ _ h2 Kw5.out).mono ?_
 rintro e w6 ⟨ad3, cp3, rfl, h3, kz⟩
 have Kw6 := Lib.hid (Kw5.out.trans kz)
 have Bx := Lib.hid (Bx.out.kp kz)
 have KP := Lib.hid (KP.out.trans kz)
 have LA := Lib.hid (LA.out.kp kz)
 have LC := Lib.hid h3
 clear h2 h3
 clear kz
 go_upto_region 6 with fail
 have KS := Lib.hid (fun w' (kq : Kp w6 w') => show w'.cell? ⟨w.heap.size + 1, 0, none⟩ = some (.int .i64 qS) ∧ w'.cell? ⟨w.heap.size + 1, 1, none⟩ = some (.int .i64 qE) ∧ Kp w6 w' from ⟨(PQ.out w' (KP.out.trans kq)).1, (PQ.out w' (KP.out.trans kq)).2, kq⟩)
 have k00 : Kp w6 w6 := Kp.refl _
 refine wp_region_held_drew (S := fun w' => w'.cell? ⟨w.heap.size + 1, 0, none⟩ = some (.int .i64 qS) ∧ w'.cell? ⟨w.heap.size + 1, 1, none⟩ = some (.int .i64 qE) ∧ Kp w6 w') (by kernel_rfl) ?_ (fun hHeld0 => ?_)
 ·(try dsimp only); exact KS.out _ (by first | with_reducible exact k00 | ((repeat (first | with_reducible refine Kp.trans ?_ (Kp.drew _) | with_reducible refine Kp.trans ?_ (Kp.alloc _ _))); with_reducible exact k00))
 refine tkv 0 dcA0 ?_
 (try simp only [Act.put, dcA0, List.setIfInBounds_toArray, List.set_cons_zero, List.set_cons_succ])
 refine tkv 1 dcA1 ?_
 (try simp only [Act.put, dcA1, List.setIfInBounds_toArray, List.set_cons_zero, List.set_cons_succ])
 refine tkv 2 dcA2 ?_
 (try simp only [Act.put, dcA2, List.setIfInBounds_toArray, List.set_cons_zero, List.set_cons_succ])
 refine tkv 3 dcA3 ?_
 (try simp only [Act.put, dcA3, List.setIfInBounds_toArray, List.set_cons_zero, List.set_cons_succ])
 refine tkv 4 dcA4 ?_
 (try simp only [Act.put, dcA4, List.setIfInBounds_toArray, List.set_cons_zero, List.set_cons_succ])
 refine tkv 5 dcA5 ?_
 (try simp only [Act.put, dcA5, List.setIfInBounds_toArray, List.set_cons_zero, List.set_cons_succ])
 refine tkv 6 dcA6 ?_
 (try simp only [Act.put, dcA6, List.setIfInBounds_toArray, List.set_cons_zero, List.set_cons_succ])
 refine tkv 7 dcA7 ?_
 (try simp only [Act.put, dcA7, List.setIfInBounds_toArray, List.set_cons_zero, List.set_cons_succ])
 refine tkv 8 dcA8 ?_
 (try simp only [Act.put, dcA8, List.setIfInBounds_toArray, List.set_cons_zero, List.set_cons_succ])
 refine tkv 10 dcA10 ?_
 (try simp only [Act.put, dcA10, List.setIfInBounds_toArray, List.set_cons_zero, List.set_cons_succ])
 refine tkv 11 dcA11 ?_
 (try simp only [Act.put, dcA11, List.setIfInBounds_toArray, List.set_cons_zero, List.set_cons_succ])
 refine tkE 9 dcA9 rfl (by kernel_rfl) (fun K hK => ?_)
 go_simp
 (refine (HA.out _ _ (LA.out.kp (by first | with_reducible exact k00 | ((repeat (first | with_reducible refine Kp.trans ?_ (Kp.drew _) | with_reducible refine Kp.trans ?_ (Kp.alloc _ _))); with_reducible exact k00))) (Kw6.out.trans (by first | with_reducible exact k00 | ((repeat (first | with_reducible refine Kp.trans ?_ (Kp.drew _) | with_reducible refine Kp.trans ?_ (Kp.alloc _ _))); with_reducible exact k00)))).mono ?_; rintro e wa ⟨rfl, kq1⟩; have kwa : Kp w6 wa := Kp.trans (show Kp w6 _ from (by first | with_reducible exact k00 | ((repeat (first | with_reducible refine Kp.trans ?_ (Kp.drew _) | with_reducible refine Kp.trans ?_ (Kp.alloc _ _))); with_reducible exact k00))) kq1; clear kq1)
 (try go_wp2_with fail)
 refine hK.out _ _ ?_ (fun hHeld1 => ?_)
 ·(try dsimp only); exact KS.out _ (by first | with_reducible exact kwa | ((repeat (first | with_reducible refine Kp.trans ?_ (Kp.drew _) | with_reducible refine Kp.trans ?_ (Kp.alloc _ _))); with_reducible exact kwa))
 clear hK K hHeld0
 (try simp only [Act.put, dcA9, List.setIfInBounds_toArray, List.set_cons_zero, List.set_cons_succ])
 refine tkE 12 dcA12 rfl (by kernel_rfl) (fun K hK => ?_)
 go_simp
 (refine (HC.out _ _ (LC.out.kp (by first | with_reducible exact kwa | ((repeat (first | with_reducible refine Kp.trans ?_ (Kp.drew _) | with_reducible refine Kp.trans ?_ (Kp.alloc _ _))); with_reducible exact kwa))) (Kw6.out.trans (by first | with_reducible exact kwa | ((repeat (first | with_reducible refine Kp.trans ?_ (Kp.drew _) | with_reducible refine Kp.trans ?_ (Kp.alloc _ _))); with_reducible exact kwa)))).mono ?_; rintro e wb ⟨rfl, kq1⟩; have kwb : Kp w6 wb := Kp.trans (show Kp w6 _ from (by first | with_reducible exact kwa | ((repeat (first | with_reducible refine Kp.trans ?_ (Kp.drew _) | with_reducible refine Kp.trans ?_ (Kp.alloc _ _))); with_reducible exact kwa))) kq1; clear kq1)
 (try go_wp2_with fail)
 refine hK.out _ _ ?_ (fun hHeld2 => ?_)
 ·(try dsimp only); exact KS.out _ (by first | with_reducible exact kwb | ((repeat (first | with_reducible refine Kp.trans ?_ (Kp.drew _) | with_reducible refine Kp.trans ?_ (Kp.alloc _ _))); with_reducible exact kwb))
 clear hK K hHeld1
 (try simp only [Act.put, dcA12, List.setIfInBounds_toArray, List.set_cons_zero, List.set_cons_succ])
 refine tkv 13 dcA13 ?_
 (try simp only [Act.put, dcA13, List.setIfInBounds_toArray, List.set_cons_zero, List.set_cons_succ])
 refine tkv 14 dcA14 ?_
 (try simp only [Act.put, dcA14, List.setIfInBounds_toArray, List.set_cons_zero, List.set_cons_succ])
 refine tkv 15 dcA15 ?_
 (try simp only [Act.put, dcA15, List.setIfInBounds_toArray, List.set_cons_zero, List.set_cons_succ])
 refine tkv 16 dcA16 ?_
 (try simp only [Act.put, dcA16, List.setIfInBounds_toArray, List.set_cons_zero, List.set_cons_succ])
 refine tkv 18 dcA18 ?_
 (try simp only [Act.put, dcA18, List.setIfInBounds_toArray, List.set_cons_zero, List.set_cons_succ])
 refine tkE 17 dcA17 rfl (by kernel_rfl) (fun K hK => ?_)
 go_simp
 (refine (ZC.out _ _ (LC.out.kp (by first | with_reducible exact kwb | ((repeat (first | with_reducible refine Kp.trans ?_ (Kp.drew _) | with_reducible refine Kp.trans ?_ (Kp.alloc _ _))); with_reducible exact kwb)))).mono ?_; rintro e wc ⟨rfl, kq1⟩; have kwc : Kp w6 wc := Kp.trans (show Kp w6 _ from (by first | with_reducible exact kwb | ((repeat (first | with_reducible refine Kp.trans ?_ (Kp.drew _) | with_reducible refine Kp.trans ?_ (Kp.alloc _ _))); with_reducible exact kwb))) kq1; clear kq1)
 (try go_wp2_with fail)
 refine hK.out _ _ ?_ (fun hHeld3 => ?_)
 ·(try dsimp only); exact KS.out _ (by first | with_reducible exact kwc | ((repeat (first | with_reducible refine Kp.trans ?_ (Kp.drew _) | with_reducible refine Kp.trans ?_ (Kp.alloc _ _))); with_reducible exact kwc))
 clear hK K hHeld2
 (try simp only [Act.put, dcA17, List.setIfInBounds_toArray, List.set_cons_zero, List.set_cons_succ])
 refine tkE 19 dcA19 rfl (by kernel_rfl) (fun K hK => ?_)
 go_simp
 (refine (ZA.out _ _ (LA.out.kp (by first | with_reducible exact kwc | ((repeat (first | with_reducible refine Kp.trans ?_ (Kp.drew _) | with_reducible refine Kp.trans ?_ (Kp.alloc _ _))); with_reducible exact kwc)))).mono ?_; rintro e wd ⟨rfl, kq1⟩; have kwd : Kp w6 wd := Kp.trans (show Kp w6 _ from (by first | with_reducible exact kwc | ((repeat (first | with_reducible refine Kp.trans ?_ (Kp.drew _) | with_reducible refine Kp.trans ?_ (Kp.alloc _ _))); with_reducible exact kwc))) kq1; clear kq1)
 (try go_wp2_with fail)
 refine hK.out _ _ ?_ (fun hHeld4 => ?_)
 ·(try dsimp only); exact KS.out _ (by first | with_reducible exact kwd | ((repeat (first | with_reducible refine Kp.trans ?_ (Kp.drew _) | with_reducible refine Kp.trans ?_ (Kp.alloc _ _))); with_reducible exact kwd))
 clear hK K hHeld3
 (try simp only [Act.put, dcA19, List.setIfInBounds_toArray, List.set_cons_zero, List.set_cons_succ])
 refine tkv 20 dcA20 ?_
 (try simp only [Act.put, dcA20, List.setIfInBounds_toArray, List.set_cons_zero, List.set_cons_succ])
 refine tkv 21 dcA21 ?_
 (try simp only [Act.put, dcA21, List.setIfInBounds_toArray, List.set_cons_zero, List.set_cons_succ])
 refine tkv 22 dcA22 ?_
 (try simp only [Act.put, dcA22, List.setIfInBounds_toArray, List.set_cons_zero, List.set_cons_succ])
 refine wpAnyH_done (by kernel_rfl) ?_ _
 go_wp2
 go_ret
 exact ⟨rfl, Kw6.out.trans (by first | with_reducible exact kwd | ((repeat (first | with_reducible refine Kp.trans ?_ (Kp.drew _) | with_reducible refine Kp.trans ?_ (Kp.alloc _ _))); with_reducible exact kwd))⟩
theorem denoteCanon_walk (n : ND) (u : Value) (qS qE : Int) (w : World) (hn : NodesAt w u n.l) (hq1 : -9223372036854775808 ≤ qS) (hq2 : qS ≤ 9223372036854775807) (hq3 : -9223372036854775808 ≤ qE) (hq4 : qE ≤ 9223372036854775807) (T : Tabs8 w) :
  Calls Tryz.prog 3 #[ndV n u, .agg #[.int .i64 qS, .int .i64 qE]] w fun e w' => e = .returned (.bool true) ∧ Kp w w' := by
 rcases Bool.eq_false_or_eq_true (saneN saneP n) with hs | hs
 ·exact dcan_yes n u qS qE w hn hq1 hq2 hq3 hq4 T hs
 ·exact dcan_no n u qS qE w hn hq1 hq2 hq3 hq4 T hs
end Go.Proofs.YtajllgjfndfdjaaGreatDoor
