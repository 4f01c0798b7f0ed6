import Derived.Test.YtjdnejglapnbbaaGreatDoorRlV
import Derived.Test.YtjdnejglapnbbaaGreatDoorGLeafA
import Derived.LoopTactic
set_option maxHeartbeats 16000000
set_option maxRecDepth 100000
namespace Go.Proofs.YtjdnejglapnbbaaGreatDoor
open Go.RowKit Go.Shelf
set_option linter.unusedVariables false
set_option linter.unusedSimpArgs false
theorem flipN_any (m : Nat) (w : World) : Calls Tryz.prog 91 #[.int .i64 m] w fun e w' => e = .returned (.int .i64 ((flN m : Nat) : Int)) ∧ w = w' := by
 rw [← flN_int]
 exact flip_any _ _
theorem SsAt.open' {w : World} {v : Value} {l : List (List R)} (h : SsAt w v l) : ∃ b c, v = .slice (some ⟨b, 0, none⟩) l.length c := by obtain ⟨b, c, e, _⟩ := h; exact ⟨b, c, e⟩
theorem SsAt.at' {w : World} {b c : Nat} {l : List (List R)} (h : SsAt w (.slice (some ⟨b, 0, none⟩) l.length c) l) {i : Nat} (hi : i < l.length) : ∃ ad cp, w.cell? ⟨b, i, none⟩ = some (.slice ad (l.getD i []).length cp) ∧ RunsAt w (.slice ad (l.getD i []).length cp) (l.getD i []) := by
 obtain ⟨b', c', e, g⟩ := h
 cases e
 obtain ⟨u, h1, h2⟩ := g i hi
 obtain ⟨ad, cp, rfl⟩ := h2.slice
 exact ⟨ad, cp, h1, h2⟩
theorem LooAt.slice {w : World} {v : Value} {l : List LO} (h : LooAt w v l) : ∃ ad c, v = .slice ad l.length c := by
 rcases h with ⟨c, rfl, rfl⟩ | ⟨b, c, e, _⟩
 ·exact ⟨_, _, rfl⟩
 ·exact ⟨_, _, e⟩
theorem LooAt.at' {w : World} {ad : Option Addr} {c : Nat} {l : List LO} (h : LooAt w (.slice ad l.length c) l) {i : Nat} (hi : i < l.length) : ∃ b, ad = some ⟨b, 0, none⟩ ∧ ∃ aa ca ab cb, w.cell? ⟨b, i * 3, none⟩ = some (.bool (l.getD i (false, [], [])).1) ∧ w.cell? ⟨b, i * 3 + 1, none⟩ = some (.slice aa (l.getD i (false, [], [])).2.1.length ca) ∧ w.cell? ⟨b, i * 3 + 2, none⟩ = some (.slice ab (l.getD i (false, [], [])).2.2.length cb) ∧ RunsAt w (.slice aa (l.getD i (false, [], [])).2.1.length ca) (l.getD i (false, [], [])).2.1 ∧ RunsAt w (.slice ab (l.getD i (false, [], [])).2.2.length cb) (l.getD i (false, [], [])).2.2 := by
 rcases h with ⟨c, e, rfl⟩ | ⟨b, c', e, g⟩
 ·simp at hi
 ·cases e
  obtain ⟨ua, ub, h1, h2, h3, h4, h5⟩ := g i hi
  obtain ⟨aa, ca, rfl⟩ := h4.slice
  obtain ⟨ab, cb, rfl⟩ := h5.slice
  exact ⟨b, rfl, aa, ca, ab, cb, h1, h2, h3, h4, h5⟩
theorem exPs_len (d : Bool) (A B C D : List R) : (exPs d A B C D).length ≤ 1000000 := by
 have h1 := edg_len [interR (interR A C) (interR B D)]
 have h2 := edg_len [A, interR A C, interR A [(leastR C + 1, 3652424)], interR A (nf (shR 1 1 D))]
 have h3 := edg_len [B, interR B D, interR B [(0, greatR D - 1)], interR B (nf (shR (-1) (-1) C))]
 simp only [List.length_cons, List.length_nil] at h1 h2 h3
 have a : (exSt A B C D).length ≤ 10 := by unfold exSt exS1; rw [List.length_append]; omega
 have b : (exEn A B C D).length ≤ 10 := by unfold exEn exS1; rw [List.length_append]; omega
 unfold exPs
 split
 ·rw [List.length_map, List.length_append]; omega
 ·have h4 := pairs_len (exSt A B C D) (exEn A B C D)
  have h5 := Nat.mul_le_mul a b
  exact Nat.le_trans h4 (Nat.le_trans h5 (by omega))
theorem SsAt.atN {w : World} {b c : Nat} {F : FdD} (h : SsAt w (.slice (some ⟨b, 0, none⟩) F.ls.length c) F.ls) {i : Nat} (hi : i < F.ls.length) : ∃ ad cp, w.cell? ⟨b, i, none⟩ = some (.slice ad (lsN F i).length cp) ∧ RunsAt w (.slice ad (lsN F i).length cp) (lsN F i) := h.at' hi
theorem LooAt.atN {w : World} {ad : Option Addr} {c : Nat} {F : FdD} (h : LooAt w (.slice ad F.lo.length c) F.lo) {i : Nat} (hi : i < F.lo.length) : ∃ b, ad = some ⟨b, 0, none⟩ ∧ ∃ aa ca ab cb, w.cell? ⟨b, i * 3, none⟩ = some (.bool (loN F i).1) ∧ w.cell? ⟨b, i * 3 + 1, none⟩ = some (.slice aa (loN F i).2.1.length ca) ∧ w.cell? ⟨b, i * 3 + 2, none⟩ = some (.slice ab (loN F i).2.2.length cb) ∧ RunsAt w (.slice aa (loN F i).2.1.length ca) (loN F i).2.1 ∧ RunsAt w (.slice ab (loN F i).2.2.length cb) (loN F i).2.2 := h.at' hi
theorem examplesR (d d' : Bool) (A B C D : List R) (va vb vc vd : Value) (w : World) (ha : RunsAt w va A) (hb : RunsAt w vb B) (hc : RunsAt w vc C) (hd : RunsAt w vd D) (H : LsOkP d A B) (H' : LsOkP d' C D)
  (nA : A.length ≤ 100000) (nB : B.length ≤ 100000) (nC : C.length ≤ 100000) (nD : D.length ≤ 100000) :
  Calls Tryz.prog 92 #[.agg #[.bool d, va, vb], .agg #[.bool d', vc, vd]] w fun e w' => ∃ v', e = .returned v' ∧ RunsAt w' v' (exPs d A B C D) ∧ Kp w w' :=
 (examples_any d d' A B C D va vb vc vd w ha hb hc hd H H' nA nB nC nD).mono fun e w' ⟨v', he, ho, hk⟩ => ⟨v', he, ho.runs, hk⟩
abbrev btA0 : Oper := { dst := some 66, op := Go.Op.move (Go.Operand.tmp 15), type := 118, pos := "relate.go:50", after := #[], guard := none }
abbrev btA1 : Oper := { dst := some 67, op := Go.Op.load 111 (Go.Operand.tmp 13), type := 111, pos := "relate.go:50", after := #[], guard := none }
abbrev btA2 : Oper := { dst := some 68, op := Go.Op.makeInterface 111 (Go.Operand.tmp 67), type := 165, pos := "relate.go:50", after := #[{ on := 1, ground := Go.Ground.data }], guard := none }
abbrev btA3 : Oper := { dst := some 69, op := Go.Op.move (Go.Operand.tmp 5), type := 3, pos := "relate.go:50", after := #[], guard := none }
abbrev btA4 : Oper := { dst := some 70, op := Go.Op.call { callee := Go.Callee.value (Go.Operand.func 91), args := #[Go.Operand.tmp 69], argTypes := #[3] }, type := 3, pos := "relate.go:50", after := #[{ on := 3, ground := Go.Ground.data }], guard := none }
abbrev btA5 : Oper := { dst := some 71, op := Go.Op.call { callee := Go.Callee.value (Go.Operand.func 90), args := #[Go.Operand.tmp 66, Go.Operand.tmp 68, Go.Operand.tmp 70], argTypes := #[49, 165, 3] }, type := 3, pos := "relate.go:50", after := #[{ on := 0, ground := Go.Ground.data }, { on := 2, ground := Go.Ground.data }, { on := 4, ground := Go.Ground.data }, { on := 4, ground := Go.Ground.chain }], guard := none }
abbrev btA6 : Oper := { dst := some 72, op := Go.Op.call { callee := Go.Callee.value (Go.Operand.func 91), args := #[Go.Operand.tmp 71], argTypes := #[3] }, type := 3, pos := "relate.go:50", after := #[{ on := 5, ground := Go.Ground.data }, { on := 5, ground := Go.Ground.chain }], guard := none }
abbrev btA7 : Oper := { dst := some 5, op := Go.Op.assign (Go.Operand.tmp 72), type := 3, pos := "relate.go:50", after := #[{ on := 6, ground := Go.Ground.data }, { on := 6, ground := Go.Ground.chain }, { on := 0, ground := Go.Ground.phase }, { on := 1, ground := Go.Ground.phase }, { on := 2, ground := Go.Ground.phase }, { on := 3, ground := Go.Ground.phase }, { on := 4, ground := Go.Ground.phase }, { on := 5, ground := Go.Ground.phase }, { on := 6, ground := Go.Ground.phase }], guard := none }
abbrev btB0 : Oper := { dst := some 81, op := Go.Op.load 111 (Go.Operand.tmp 13), type := 111, pos := "relate.go:53", after := #[], guard := none }
abbrev btB1 : Oper := { dst := some 82, op := Go.Op.load 111 (Go.Operand.tmp 17), type := 111, pos := "relate.go:53", after := #[], guard := none }
abbrev btB2 : Oper := { dst := some 83, op := Go.Op.call { callee := Go.Callee.value (Go.Operand.func 92), args := #[Go.Operand.tmp 81, Go.Operand.tmp 82], argTypes := #[111, 111] }, type := 49, pos := "relate.go:53", after := #[{ on := 0, ground := Go.Ground.data }, { on := 1, ground := Go.Ground.data }], guard := none }
abbrev btB3 : Oper := { dst := some 84, op := Go.Op.load 111 (Go.Operand.tmp 17), type := 111, pos := "relate.go:53", after := #[], guard := none }
abbrev btB4 : Oper := { dst := some 85, op := Go.Op.makeInterface 111 (Go.Operand.tmp 84), type := 165, pos := "relate.go:53", after := #[{ on := 3, ground := Go.Ground.data }], guard := none }
abbrev btB5 : Oper := { dst := some 86, op := Go.Op.move (Go.Operand.tmp 5), type := 3, pos := "relate.go:53", after := #[], guard := none }
abbrev btB6 : Oper := { dst := some 87, op := Go.Op.call { callee := Go.Callee.value (Go.Operand.func 90), args := #[Go.Operand.tmp 83, Go.Operand.tmp 85, Go.Operand.tmp 86], argTypes := #[49, 165, 3] }, type := 3, pos := "relate.go:53", after := #[{ on := 2, ground := Go.Ground.data }, { on := 4, ground := Go.Ground.data }, { on := 5, ground := Go.Ground.data }, { on := 2, ground := Go.Ground.chain }], guard := none }
abbrev btB7 : Oper := { dst := some 5, op := Go.Op.assign (Go.Operand.tmp 87), type := 3, pos := "relate.go:53", after := #[{ on := 6, ground := Go.Ground.data }, { on := 6, ground := Go.Ground.chain }, { on := 0, ground := Go.Ground.phase }, { on := 1, ground := Go.Ground.phase }, { on := 2, ground := Go.Ground.phase }, { on := 3, ground := Go.Ground.phase }, { on := 4, ground := Go.Ground.phase }, { on := 5, ground := Go.Ground.phase }, { on := 6, ground := Go.Ground.phase }], guard := none }
theorem between_any (fa fb : Value) (F G : FdD) (w : World) (ha : FdAt w fa F) (hb : FdAt w fb G) (oF : FdOk F) (oG : FdOk G) :
  Calls Tryz.prog 43 #[fa, fb] w fun e w' => ∃ m : Nat, e = .returned (.int .i64 m) ∧ m < 8192 ∧ bitsP m 0 (relP (fdP F) (fdP G)) ∧ Kp w w' := by
 obtain ⟨va, vo, rfl, sa, la⟩ := ha
 obtain ⟨vb, vp, rfl, sb, lb⟩ := hb
 obtain ⟨b1, c1, rfl⟩ := sa.open'
 obtain ⟨b2, c2, rfl⟩ := sb.open'
 obtain ⟨a1, d1, rfl⟩ := la.slice
 obtain ⟨a2, d2, rfl⟩ := lb.slice
 obtain ⟨W0, hW⟩ : ∃ x, x = (w.alloc (.cells #[.slice (some ⟨b1, 0, none⟩) F.ls.length c1, .slice a1 F.lo.length d1] 61)).alloc (.cells #[.slice (some ⟨b2, 0, none⟩) G.ls.length c2, .slice a2 G.lo.length d2] 61) := ⟨_, rfl⟩
 have ka : Kp w W0 := by rw [hW]; exact (Kp.alloc _ _).trans (Kp.alloc _ _)
 have gf : W0.heap[w.heap.size]? = some (.cells #[.slice (some ⟨b1, 0, none⟩) F.ls.length c1, .slice a1 F.lo.length d1] 61 (0, 0)) := by rw [hW]; exact heap_block (Kp.alloc _ _) (heap_at _ _ _ rfl)
 have gg : W0.heap[w.heap.size + 1]? = some (.cells #[.slice (some ⟨b2, 0, none⟩) G.ls.length c2, .slice a2 G.lo.length d2] 61 (0, 0)) := by rw [hW]; exact heap_at _ _ _ (by simp)
 have HB := Lib.hid (fun w' (kq : Kp W0 w') => And.intro (row2 (heap_block kq gf)) (row2 (heap_block kq gg)))
 have SA := Lib.hid (sa.kp ka)
 have SB := Lib.hid (sb.kp ka)
 have LA := Lib.hid (la.kp ka)
 have LB := Lib.hid (lb.kp ka)
 have OF := Lib.hid oF
 have OG := Lib.hid oG
 have KA := Lib.hid ka
 have HW := Lib.hid hW
 have f1 := oF.n1
 have f2 := oF.n2
 have g1 := oG.n1
 have g2 := oG.n2
 have PG := Lib.hid (fdOk_pr oG)
 clear sa sb la lb oF oG ka hW gf gg
 go_enter Tryz.func43, Tryz.ntmps43
 go_wp2_with fail
 rw [← HW.out]
 obtain ⟨⟨e1, e2⟩, e3, e4⟩ := HB.out W0 (Kp.refl _)
 go_loopw [5, 21] (fun f i wr => ∃ qk qm : Nat, qk ≤ F.ls.length ∧ f = .int .i64 qm ∧ i = .int .i64 qk ∧ Hid (qm < 8192) ∧ Hid (bitsP qm 0 fun r => ∃ i, i < qk ∧ relP (memP (lsN F i)) (fdP G) r) ∧ Hid (Kp W0 wr)) (fun _ i _ => F.ls.length - (intOf i).toNat)
 case atStart => exact ⟨0, 0, Nat.zero_le _, rfl, rfl, Lib.hid (by decide), bits_none _ _, Lib.hid (Kp.refl _)⟩
 case round =>
  obtain ⟨k, m, hk, rfl, rfl, M, B0, K1⟩ := hrel
  obtain ⟨wo, hwq⟩ : ∃ x, x = wr := ⟨_, rfl⟩
  subst hwq
  by_cases ltL : k < F.ls.length
  ·have q1 : decide ((k : Int) < ((F.ls.length : Nat) : Int)) = true := decide_eq_true (by omega)
   obtain ⟨adL, cpL, cL, rL⟩ := (SA.out.kp K1.out).atN ltL
   have pL := Lib.hid (show prOk (memP (lsN F k)) from OF.out.ok _ (getD_in (d := []) ltL))
   have nL := (show (lsN F k).length ≤ 1000000 from OF.out.len _ (getD_in (d := []) ltL))
   have iL := Lib.hid (show riseP (lsN F k) from OF.out.rise _ (getD_in (d := []) ltL))
   have z1 : (0 : Int) ≤ (k : Int) := by omega
   have LtL := Lib.hid ltL
   clear e1 e2 e3 e4
   obtain ⟨⟨e1, e2⟩, e3, e4⟩ := HB.out wo K1.out
   go_wp2
   go_loopw [5, 28] (fun f i wr => ∃ qk qm : Nat, qk ≤ G.ls.length ∧ f = .int .i64 qm ∧ i = .int .i64 qk ∧ Hid (qm < 8192) ∧ Hid (bitsP qm m fun r => ∃ i, i < qk ∧ relP (memP (lsN F k)) (memP (lsN G i)) r) ∧ Hid (Kp wo wr)) (fun _ i _ => G.ls.length - (intOf i).toNat)
   case atStart => exact ⟨0, m, Nat.zero_le _, rfl, rfl, M, bits_none _ _, Lib.hid (Kp.refl _)⟩
   case round =>
    obtain ⟨j, mj, hj, rfl, rfl, MJ, BJ, KJ⟩ := hrel
    obtain ⟨wi, hwq⟩ : ∃ x, x = wr := ⟨_, rfl⟩
    subst hwq
    by_cases ltM : j < G.ls.length
    ·have q2 : decide ((j : Int) < ((G.ls.length : Nat) : Int)) = true := decide_eq_true (by omega)
     obtain ⟨adM, cpM, cM, rM⟩ := (SB.out.kp (K1.out.trans KJ.out)).atN ltM
     have pM := Lib.hid (show prOk (memP (lsN G j)) from OG.out.ok _ (getD_in (d := []) ltM))
     have nM := (show (lsN G j).length ≤ 1000000 from OG.out.len _ (getD_in (d := []) ltM))
     have iM := Lib.hid (show riseP (lsN G j) from OG.out.rise _ (getD_in (d := []) ltM))
     have rL2 := rL.kp KJ.out
     have CQ := Lib.hid (askQ_any _ _ _ _ mj wi rL2 rM MJ.out pL.out pM.out nL nM iM.out)
     have z3 : (0 : Int) ≤ (j : Int) := by omega
     have LtM := Lib.hid ltM
     clear rL2 rM
     go_wp2_with fail
     refine CQ.out.mono ?_
     rintro e w2 ⟨m2, rfl, h1, h2, h3⟩
     have M2 := Lib.hid h1
     have B2 := Lib.hid (bits_next BJ.out h2)
     have K2 := Lib.hid (KJ.out.trans h3)
     clear h1 h2 h3 CQ cM
     go_wp2
     go_roundw
     case rel => exact ⟨j + 1, m2, by have := LtM.out; omega, by go_num, by go_num, M2, B2, K2⟩
     case measure => have := LtM.out; simp [intOf]; omega
    ·have q2 : decide ((j : Int) < ((G.ls.length : Nat) : Int)) = false := decide_eq_false (by omega)
     have eej : j = G.ls.length := by omega
     subst eej
     have B1 := BJ
     have KK := Lib.hid (K1.out.trans KJ.out)
     clear e1 e2 e3 e4
     obtain ⟨⟨e1, e2⟩, e3, e4⟩ := HB.out wi KK.out
     have rL2 := Lib.hid (rL.kp KJ.out)
     clear q2
     go_wp2
     go_loopw [5, 41] (fun f i wr => ∃ qk qm : Nat, qk ≤ G.lo.length ∧ f = .int .i64 qm ∧ i = .int .i64 qk ∧ Hid (qm < 8192) ∧ Hid (bitsP qm mj fun r => ∃ i, i < qk ∧ relP (memP (lsN F k)) (looP (loN G i)) r) ∧ Hid (Kp wi wr)) (fun _ i _ => G.lo.length - (intOf i).toNat)
     case atStart => exact ⟨0, mj, Nat.zero_le _, rfl, rfl, MJ, bits_none _ _, Lib.hid (Kp.refl _)⟩
     case round =>
      obtain ⟨x, mx, hx, rfl, rfl, MX, BX, KX⟩ := hrel
      obtain ⟨wx, hwq⟩ : ∃ x, x = wr := ⟨_, rfl⟩
      subst hwq
      by_cases ltX : x < G.lo.length
      ·have q3 : decide ((x : Int) < ((G.lo.length : Nat) : Int)) = true := decide_eq_true (by omega)
       have HX := Lib.hid (show LsOkP (loN G x).1 (loN G x).2.1 (loN G x).2.2 ∧ (loN G x).2.1.length ≤ 100000 ∧ (loN G x).2.2.length ≤ 100000 from OG.out.lo _ (getD_in (d := (false, [], [])) ltX))
       obtain ⟨bx, hax, a1x, l1x, a2x, l2x, xc0, xc1, xc2, rxa, rxb⟩ := (LB.out.kp (KK.out.trans KX.out)).atN ltX
       subst hax
       have yx : (0 : Int) ≤ (x : Int) := by omega
       generalize hgx : loN G x = qx at HX xc0 xc1 xc2 rxa rxb
       have Gx := Lib.hid hgx
       clear hgx
       have CQ := Lib.hid (fun W1 (kq : Kp wx W1) => askO_any _ _ _ _ qx mx W1 (rL2.out.kp (KX.out.trans kq)) (rxa.kp kq) (rxb.kp kq) MX.out pL.out nL HX.out.1 HX.out.2.1 HX.out.2.2)
       obtain ⟨V, hV⟩ : ∃ q, q = wx.alloc (.cells #[.bool qx.1, .slice a1x qx.2.1.length l1x, .slice a2x qx.2.2.length l2x] 111) := ⟨_, rfl⟩
       have kv : Kp wx V := by rw [hV]; exact Kp.alloc _ _
       have gv : V.heap[wx.heap.size]? = some (.cells #[.bool qx.1, .slice a1x qx.2.1.length l1x, .slice a2x qx.2.2.length l2x] 111 (0, 0)) := by rw [hV]; exact heap_at _ _ _ rfl
       have BV := Lib.hid (fun w' (kq : Kp V w') => row3 (heap_block kq gv))
       have KV := Lib.hid kv
       have HV := Lib.hid hV
       clear hV kv gv
       have LtX := Lib.hid ltX
       clear rxa rxb
       go_upto_region 13 with fail
       rw [← HV.out]
       clear HV xc0 xc1 xc2
       obtain ⟨v0, v1, v2⟩ := BV.out V (Kp.refl _)
       go_wp2_with fail
       refine (CQ.out _ KV.out).mono ?_
       rintro e w2 ⟨m2, rfl, h1, h2, h3⟩
       have M2 := Lib.hid h1
       have B2 := Lib.hid (bits_next BX.out (by rw [Gx.out]; exact askO_rel pL.out HX.out.1 h2))
       have K2 := Lib.hid (KX.out.trans (KV.out.trans h3))
       clear h1 h2 h3 CQ v0 v1 v2
       go_wp2
       go_roundw
       case rel => exact ⟨x + 1, m2, by have := LtX.out; omega, by go_num, by go_num, M2, B2, K2⟩
       case measure => have := LtX.out; simp [intOf]; omega
      ·have q3 : decide ((x : Int) < ((G.lo.length : Nat) : Int)) = false := decide_eq_false (by omega)
       have eex : x = G.lo.length := by omega
       subst eex
       have BE := Lib.hid (bits_next B0.out (bits_congr (bits_trans B1.out BX.out) fun r _ => (relP_split _ G r).symm))
       have KE := Lib.hid (K1.out.trans (KJ.out.trans KX.out))
       go_wp2
       go_roundw
       case rel => exact ⟨k + 1, mx, by have := LtL.out; omega, by go_num, by go_num, MX, BE, KE⟩
       case measure => have := LtL.out; simp [intOf]; omega
  ·have q1 : decide ((k : Int) < ((F.ls.length : Nat) : Int)) = false := decide_eq_false (by omega)
   have eek : k = F.ls.length := by omega
   subst eek
   clear e1 e2 e3 e4
   obtain ⟨⟨e1, e2⟩, e3, e4⟩ := HB.out wo K1.out
   clear q1
   go_wp2
   go_loopw [5, 55] (fun f i wr => ∃ qk qm : Nat, qk ≤ F.lo.length ∧ f = .int .i64 qm ∧ i = .int .i64 qk ∧ Hid (qm < 8192) ∧ Hid (bitsP qm m fun r => ∃ i, i < qk ∧ relP (looP (loN F i)) (fdP G) r) ∧ Hid (Kp wo wr)) (fun _ i _ => F.lo.length - (intOf i).toNat)
   case atStart => exact ⟨0, m, Nat.zero_le _, rfl, rfl, M, bits_none _ _, Lib.hid (Kp.refl _)⟩
   case round =>
    obtain ⟨p, mp, hp, rfl, rfl, MP, BP, KP⟩ := hrel
    obtain ⟨wp, hwq⟩ : ∃ x, x = wr := ⟨_, rfl⟩
    subst hwq
    by_cases ltP : p < F.lo.length
    ·have q4 : decide ((p : Int) < ((F.lo.length : Nat) : Int)) = true := decide_eq_true (by omega)
     have HP := Lib.hid (show LsOkP (loN F p).1 (loN F p).2.1 (loN F p).2.2 ∧ (loN F p).2.1.length ≤ 100000 ∧ (loN F p).2.2.length ≤ 100000 from OF.out.lo _ (getD_in (d := (false, [], [])) ltP))
     obtain ⟨bp, hap, a1p, l1p, a2p, l2p, pc0, pc1, pc2, rpa, rpb⟩ := (LA.out.kp (K1.out.trans KP.out)).atN ltP
     subst hap
     have yp : (0 : Int) ≤ (p : Int) := by omega
     generalize hgp : loN F p = qp at HP pc0 pc1 pc2 rpa rpb
     have Gp := Lib.hid hgp
     clear hgp
     have RA := Lib.hid (fun W1 (kq : Kp wp W1) => And.intro (rpa.kp kq) (rpb.kp kq))
     obtain ⟨V, hV⟩ : ∃ q, q = wp.alloc (.cells #[.bool qp.1, .slice a1p qp.2.1.length l1p, .slice a2p qp.2.2.length l2p] 111) := ⟨_, rfl⟩
     have kv : Kp wp V := by rw [hV]; exact Kp.alloc _ _
     have gv : V.heap[wp.heap.size]? = some (.cells #[.bool qp.1, .slice a1p qp.2.1.length l1p, .slice a2p qp.2.2.length l2p] 111 (0, 0)) := by rw [hV]; exact heap_at _ _ _ rfl
     have BV := Lib.hid (fun w' (kq : Kp V w') => row3 (heap_block kq gv))
     have KV := Lib.hid kv
     have HV := Lib.hid hV
     clear hV kv gv
     have LtP := Lib.hid ltP
     have KPP := Lib.hid (K1.out.trans (KP.out.trans KV.out))
     clear rpa rpb e1 e2 e3 e4
     obtain ⟨⟨e1, e2⟩, e3, e4⟩ := HB.out wp (K1.out.trans KP.out)
     go_upto_region 19 with fail
     rw [← HV.out]
     clear HV pc0 pc1 pc2 e1 e2 e3 e4
     obtain ⟨⟨e1, e2⟩, e3, e4⟩ := HB.out V KPP.out
     go_wp2
     go_loopw [5, 62] (fun f i wr => ∃ qk qm : Nat, qk ≤ G.ls.length ∧ f = .int .i64 qm ∧ i = .int .i64 qk ∧ Hid (qm < 8192) ∧ Hid (bitsP qm mp fun r => ∃ i, i < qk ∧ relP (looP (loN F p)) (memP (lsN G i)) r) ∧ Hid (Kp V wr)) (fun _ i _ => G.ls.length - (intOf i).toNat)
     case atStart => exact ⟨0, mp, Nat.zero_le _, rfl, rfl, MP, bits_none _ _, Lib.hid (Kp.refl _)⟩
     case round =>
      obtain ⟨j, mj, hj, rfl, rfl, MJ, BJ, KJ⟩ := hrel
      obtain ⟨wi, hwq⟩ : ∃ x, x = wr := ⟨_, rfl⟩
      subst hwq
      by_cases ltM : j < G.ls.length
      ·have q5 : decide ((j : Int) < ((G.ls.length : Nat) : Int)) = true := decide_eq_true (by omega)
       obtain ⟨adM, cpM, cM, rM⟩ := (SB.out.kp (KPP.out.trans KJ.out)).atN ltM
       have pM := Lib.hid (show prOk (memP (lsN G j)) from OG.out.ok _ (getD_in (d := []) ltM))
       have nM := (show (lsN G j).length ≤ 1000000 from OG.out.len _ (getD_in (d := []) ltM))
       have iM := Lib.hid (show riseP (lsN G j) from OG.out.rise _ (getD_in (d := []) ltM))
       have z3 : (0 : Int) ≤ (j : Int) := by omega
       have CQ := Lib.hid (fun W1 (kq : Kp wi W1) => askO_any _ _ _ _ qp (flN mj) W1 (rM.kp kq) (RA.out W1 (KV.out.trans (KJ.out.trans kq))).1 (RA.out W1 (KV.out.trans (KJ.out.trans kq))).2 (flN_lt mj) pM.out nM HP.out.1 HP.out.2.1 HP.out.2.2)
       have LtM := Lib.hid ltM
       have KS := Lib.hid (fun w' (kq : Kp wi w') => show w'.cell? ⟨wp.heap.size, 0, none⟩ = some (.bool qp.1) ∧ w'.cell? ⟨wp.heap.size, 1, none⟩ = some (.slice a1p qp.2.1.length l1p) ∧ w'.cell? ⟨wp.heap.size, 2, none⟩ = some (.slice a2p qp.2.2.length l2p) ∧ Kp wi w' from ⟨(BV.out w' (KJ.out.trans kq)).1, (BV.out w' (KJ.out.trans kq)).2.1, (BV.out w' (KJ.out.trans kq)).2.2, kq⟩)
       have k00 : Kp wi wi := Kp.refl _
       clear rM
       go_upto_region 22 with fail
       clear cM
       refine wp_region_held_drew (S := fun w' => w'.cell? ⟨wp.heap.size, 0, none⟩ = some (.bool qp.1) ∧ w'.cell? ⟨wp.heap.size, 1, none⟩ = some (.slice a1p qp.2.1.length l1p) ∧ w'.cell? ⟨wp.heap.size, 2, none⟩ = some (.slice a2p qp.2.2.length l2p) ∧ Kp wi w') (by kernel_rfl) ?_ (fun hHeld0 => ?_)
       ·(try dsimp only); exact KS.out _ (by first | with_reducible exact k00 | ((repeat (first | with_reducible refine Kp.trans ?_ (Kp.drew _) | with_reducible refine Kp.trans ?_ (Kp.alloc _ _))); with_reducible exact k00))
       refine tkv 0 btA0 ?_
       (try simp only [Act.put, btA0, List.setIfInBounds_toArray, List.set_cons_zero, List.set_cons_succ])
       refine tkv 1 btA1 ?_
       (try simp only [Act.put, btA1, List.setIfInBounds_toArray, List.set_cons_zero, List.set_cons_succ])
       refine tkv 2 btA2 ?_
       (try simp only [Act.put, btA2, List.setIfInBounds_toArray, List.set_cons_zero, List.set_cons_succ])
       refine tkv 3 btA3 ?_
       (try simp only [Act.put, btA3, List.setIfInBounds_toArray, List.set_cons_zero, List.set_cons_succ])
       refine tkE 4 btA4 rfl (by kernel_rfl) (fun K hK => ?_)
       go_simp
       (refine (flipN_any mj _).mono ?_; rintro e w' ⟨rfl, rfl⟩)
       (try go_wp2_with fail)
       refine hK.out _ _ ?_ (fun hHeld1 => ?_)
       ·(try dsimp only); exact KS.out _ (by first | with_reducible exact k00 | ((repeat (first | with_reducible refine Kp.trans ?_ (Kp.drew _) | with_reducible refine Kp.trans ?_ (Kp.alloc _ _))); with_reducible exact k00))
       clear hK K hHeld0
       (try simp only [Act.put, btA4, List.setIfInBounds_toArray, List.set_cons_zero, List.set_cons_succ])
       refine tkE 5 btA5 rfl (by kernel_rfl) (fun K hK => ?_)
       go_simp
       (refine (CQ.out _ (by first | with_reducible exact k00 | ((repeat (first | with_reducible refine Kp.trans ?_ (Kp.drew _) | with_reducible refine Kp.trans ?_ (Kp.alloc _ _))); with_reducible exact k00))).mono ?_; rintro e wy ⟨m2, rfl, h1, h2, kq1⟩; have kky : Kp wi wy := Kp.trans (show Kp wi _ from (by first | with_reducible exact k00 | ((repeat (first | with_reducible refine Kp.trans ?_ (Kp.drew _) | with_reducible refine Kp.trans ?_ (Kp.alloc _ _))); with_reducible exact k00))) kq1; have M2 := Lib.hid h1; have B2 := Lib.hid h2; clear h1 h2; clear kq1)
       (try go_wp2_with fail)
       refine hK.out _ _ ?_ (fun hHeld2 => ?_)
       ·(try dsimp only); exact KS.out _ (by first | with_reducible exact kky | ((repeat (first | with_reducible refine Kp.trans ?_ (Kp.drew _) | with_reducible refine Kp.trans ?_ (Kp.alloc _ _))); with_reducible exact kky))
       clear hK K hHeld1
       (try simp only [Act.put, btA5, List.setIfInBounds_toArray, List.set_cons_zero, List.set_cons_succ])
       refine tkE 6 btA6 rfl (by kernel_rfl) (fun K hK => ?_)
       go_simp
       (refine (flipN_any m2 _).mono ?_; rintro e w' ⟨rfl, rfl⟩)
       (try go_wp2_with fail)
       refine hK.out _ _ ?_ (fun hHeld3 => ?_)
       ·(try dsimp only); exact KS.out _ (by first | with_reducible exact kky | ((repeat (first | with_reducible refine Kp.trans ?_ (Kp.drew _) | with_reducible refine Kp.trans ?_ (Kp.alloc _ _))); with_reducible exact kky))
       clear hK K hHeld2
       (try simp only [Act.put, btA6, List.setIfInBounds_toArray, List.set_cons_zero, List.set_cons_succ])
       refine tkv 7 btA7 ?_
       (try simp only [Act.put, btA7, List.setIfInBounds_toArray, List.set_cons_zero, List.set_cons_succ])
       refine wpAnyH_done (by kernel_rfl) ?_ _
       have B3 := Lib.hid (bits_next BJ.out (by rw [Gp.out]; exact bitsP_turn (ls_ok HP.out.1) pM.out (askO_rel pM.out HP.out.1 B2.out)))
       have K3 := Lib.hid (KJ.out.trans kky)
       have M3 := Lib.hid (flN_lt m2)
       go_wp2
       go_roundw
       case rel => exact ⟨j + 1, flN m2, by have := LtM.out; omega, by go_num, by go_num, M3, B3, Lib.hid (K3.out.trans (by first | with_reducible exact Kp.refl _ | with_reducible exact Kp.alloc _ _ | with_reducible exact (Kp.alloc _ _).trans (Kp.alloc _ _) | with_reducible exact ((Kp.alloc _ _).trans (Kp.alloc _ _)).trans (Kp.alloc _ _) | with_reducible exact Kp.drew _ | with_reducible exact Kp.drewN _ _))⟩
       case measure => have := LtM.out; simp [intOf]; omega
      ·have q5 : decide ((j : Int) < ((G.ls.length : Nat) : Int)) = false := decide_eq_false (by omega)
       have eej : j = G.ls.length := by omega
       subst eej
       have KK := Lib.hid (KPP.out.trans KJ.out)
       clear q5 e1 e2 e3 e4
       obtain ⟨⟨e1, e2⟩, e3, e4⟩ := HB.out wi KK.out
       go_wp2
       go_loopw [5, 77] (fun f i wr => ∃ qk qm : Nat, qk ≤ G.lo.length ∧ f = .int .i64 qm ∧ i = .int .i64 qk ∧ Hid (qm < 8192) ∧ Hid (bitsP qm mj fun r => ∃ i, i < qk ∧ relP (looP (loN F p)) (looP (loN G i)) r) ∧ Hid (Kp wi wr)) (fun _ i _ => G.lo.length - (intOf i).toNat)
       case atStart => exact ⟨0, mj, Nat.zero_le _, rfl, rfl, MJ, bits_none _ _, Lib.hid (Kp.refl _)⟩
       case round =>
        obtain ⟨x, mx, hx, rfl, rfl, MX, BX, KX⟩ := hrel
        obtain ⟨wx, hwq⟩ : ∃ x, x = wr := ⟨_, rfl⟩
        subst hwq
        by_cases ltX : x < G.lo.length
        ·have q6 : decide ((x : Int) < ((G.lo.length : Nat) : Int)) = true := decide_eq_true (by omega)
         have HX := Lib.hid (show LsOkP (loN G x).1 (loN G x).2.1 (loN G x).2.2 ∧ (loN G x).2.1.length ≤ 100000 ∧ (loN G x).2.2.length ≤ 100000 from OG.out.lo _ (getD_in (d := (false, [], [])) ltX))
         obtain ⟨bx, hax, a1x, l1x, a2x, l2x, xc0, xc1, xc2, rxa, rxb⟩ := (LB.out.kp (KK.out.trans KX.out)).atN ltX
         subst hax
         have yx : (0 : Int) ≤ (x : Int) := by omega
         generalize hgx : loN G x = qx at HX xc0 xc1 xc2 rxa rxb
         have Gx := Lib.hid hgx
         clear hgx
         have RB := Lib.hid (fun W1 (kq : Kp wx W1) => And.intro (rxa.kp kq) (rxb.kp kq))
         obtain ⟨V2, hV⟩ : ∃ q, q = wx.alloc (.cells #[.bool qx.1, .slice a1x qx.2.1.length l1x, .slice a2x qx.2.2.length l2x] 111) := ⟨_, rfl⟩
         have kv : Kp wx V2 := by rw [hV]; exact Kp.alloc _ _
         have gv : V2.heap[wx.heap.size]? = some (.cells #[.bool qx.1, .slice a1x qx.2.1.length l1x, .slice a2x qx.2.2.length l2x] 111 (0, 0)) := by rw [hV]; exact heap_at _ _ _ rfl
         have BV2 := Lib.hid (fun w' (kq : Kp V2 w') => row3 (heap_block kq gv))
         have KV2 := Lib.hid kv
         have HV := Lib.hid hV
         clear hV kv gv
         have LtX := Lib.hid ltX
         have CE := Lib.hid (fun W1 (kq : Kp V2 W1) => examplesR qp.1 qx.1 qp.2.1 qp.2.2 qx.2.1 qx.2.2 _ _ _ _ W1 (RA.out W1 (KV.out.trans (KJ.out.trans (KX.out.trans (KV2.out.trans kq))))).1 (RA.out W1 (KV.out.trans (KJ.out.trans (KX.out.trans (KV2.out.trans kq))))).2 (RB.out W1 (KV2.out.trans kq)).1 (RB.out W1 (KV2.out.trans kq)).2 HP.out.1 HX.out.1 HP.out.2.1 HP.out.2.2 HX.out.2.1 HX.out.2.2)
         have CQ := Lib.hid (fun v W1 (hv : RunsAt W1 v (exPs qp.1 qp.2.1 qp.2.2 qx.2.1 qx.2.2)) (kq : Kp V2 W1) => askO_any v _ _ _ qx mx W1 hv (RB.out W1 (KV2.out.trans kq)).1 (RB.out W1 (KV2.out.trans kq)).2 MX.out (ex_ok (d' := qx.1) HP.out.1) (exPs_len _ _ _ _ _) HX.out.1 HX.out.2.1 HX.out.2.2)
         have EX := Lib.hid (fun m' h => askE_rel (m := mx) (m' := m') HP.out.1 HX.out.1 h)
         have KS := Lib.hid (fun w' (kq : Kp V2 w') => show w'.cell? ⟨wp.heap.size, 0, none⟩ = some (.bool qp.1) ∧ w'.cell? ⟨wp.heap.size, 1, none⟩ = some (.slice a1p qp.2.1.length l1p) ∧ w'.cell? ⟨wp.heap.size, 2, none⟩ = some (.slice a2p qp.2.2.length l2p) ∧ w'.cell? ⟨wx.heap.size, 0, none⟩ = some (.bool qx.1) ∧ w'.cell? ⟨wx.heap.size, 1, none⟩ = some (.slice a1x qx.2.1.length l1x) ∧ w'.cell? ⟨wx.heap.size, 2, none⟩ = some (.slice a2x qx.2.2.length l2x) ∧ Kp V2 w' from ⟨(BV.out w' (KJ.out.trans (KX.out.trans (KV2.out.trans kq)))).1, (BV.out w' (KJ.out.trans (KX.out.trans (KV2.out.trans kq)))).2.1, (BV.out w' (KJ.out.trans (KX.out.trans (KV2.out.trans kq)))).2.2, (BV2.out w' kq).1, (BV2.out w' kq).2.1, (BV2.out w' kq).2.2, kq⟩)
         have k00 : Kp V2 V2 := Kp.refl _
         generalize exPs qp.1 qp.2.1 qp.2.2 qx.2.1 qx.2.2 = XP at *
         clear rxa rxb
         go_upto_region 27 with fail
         rw [← HV.out]
         clear HV xc0 xc1 xc2
         refine wp_region_held_drew (S := fun w' => w'.cell? ⟨wp.heap.size, 0, none⟩ = some (.bool qp.1) ∧ w'.cell? ⟨wp.heap.size, 1, none⟩ = some (.slice a1p qp.2.1.length l1p) ∧ w'.cell? ⟨wp.heap.size, 2, none⟩ = some (.slice a2p qp.2.2.length l2p) ∧ w'.cell? ⟨wx.heap.size, 0, none⟩ = some (.bool qx.1) ∧ w'.cell? ⟨wx.heap.size, 1, none⟩ = some (.slice a1x qx.2.1.length l1x) ∧ w'.cell? ⟨wx.heap.size, 2, none⟩ = some (.slice a2x qx.2.2.length l2x) ∧ Kp V2 w') (by kernel_rfl) ?_ (fun hHeld0 => ?_)
         ·(try dsimp only); exact KS.out _ (by first | with_reducible exact k00 | ((repeat (first | with_reducible refine Kp.trans ?_ (Kp.drew _) | with_reducible refine Kp.trans ?_ (Kp.alloc _ _))); with_reducible exact k00))
         refine tkv 0 btB0 ?_
         (try simp only [Act.put, btB0, List.setIfInBounds_toArray, List.set_cons_zero, List.set_cons_succ])
         refine tkv 1 btB1 ?_
         (try simp only [Act.put, btB1, List.setIfInBounds_toArray, List.set_cons_zero, List.set_cons_succ])
         refine tkv 3 btB3 ?_
         (try simp only [Act.put, btB3, List.setIfInBounds_toArray, List.set_cons_zero, List.set_cons_succ])
         refine tkv 4 btB4 ?_
         (try simp only [Act.put, btB4, List.setIfInBounds_toArray, List.set_cons_zero, List.set_cons_succ])
         refine tkv 5 btB5 ?_
         (try simp only [Act.put, btB5, List.setIfInBounds_toArray, List.set_cons_zero, List.set_cons_succ])
         refine tkE 2 btB2 rfl (by kernel_rfl) (fun K hK => ?_)
         go_simp
         (refine (CE.out _ (by first | with_reducible exact k00 | ((repeat (first | with_reducible refine Kp.trans ?_ (Kp.drew _) | with_reducible refine Kp.trans ?_ (Kp.alloc _ _))); with_reducible exact k00))).mono ?_; rintro e wy ⟨ve, rfl, oe, kq1⟩; have kky : Kp V2 wy := Kp.trans (show Kp V2 _ from (by first | with_reducible exact k00 | ((repeat (first | with_reducible refine Kp.trans ?_ (Kp.drew _) | with_reducible refine Kp.trans ?_ (Kp.alloc _ _))); with_reducible exact k00))) kq1; have RE := Lib.hid oe; clear oe; clear kq1)
         (try go_wp2_with fail)
         refine hK.out _ _ ?_ (fun hHeld1 => ?_)
         ·(try dsimp only); exact KS.out _ (by first | with_reducible exact kky | ((repeat (first | with_reducible refine Kp.trans ?_ (Kp.drew _) | with_reducible refine Kp.trans ?_ (Kp.alloc _ _))); with_reducible exact kky))
         clear hK K hHeld0
         (try simp only [Act.put, btB2, List.setIfInBounds_toArray, List.set_cons_zero, List.set_cons_succ])
         refine tkE 6 btB6 rfl (by kernel_rfl) (fun K hK => ?_)
         go_simp
         (refine (CQ.out _ _ (RE.out.kp (by first | with_reducible exact (Kp.refl wy) | ((repeat (first | with_reducible refine Kp.trans ?_ (Kp.drew _) | with_reducible refine Kp.trans ?_ (Kp.alloc _ _))); with_reducible exact (Kp.refl wy)))) (by first | with_reducible exact kky | ((repeat (first | with_reducible refine Kp.trans ?_ (Kp.drew _) | with_reducible refine Kp.trans ?_ (Kp.alloc _ _))); with_reducible exact kky))).mono ?_; rintro e wz ⟨m2, rfl, h1, h2, kq1⟩; have kkz : Kp V2 wz := Kp.trans (show Kp V2 _ from (by first | with_reducible exact kky | ((repeat (first | with_reducible refine Kp.trans ?_ (Kp.drew _) | with_reducible refine Kp.trans ?_ (Kp.alloc _ _))); with_reducible exact kky))) kq1; have M2 := Lib.hid h1; have B2 := Lib.hid h2; clear h1 h2; clear kq1)
         (try go_wp2_with fail)
         refine hK.out _ _ ?_ (fun hHeld2 => ?_)
         ·(try dsimp only); exact KS.out _ (by first | with_reducible exact kkz | ((repeat (first | with_reducible refine Kp.trans ?_ (Kp.drew _) | with_reducible refine Kp.trans ?_ (Kp.alloc _ _))); with_reducible exact kkz))
         clear hK K hHeld1
         (try simp only [Act.put, btB6, List.setIfInBounds_toArray, List.set_cons_zero, List.set_cons_succ])
         refine tkv 7 btB7 ?_
         (try simp only [Act.put, btB7, List.setIfInBounds_toArray, List.set_cons_zero, List.set_cons_succ])
         refine wpAnyH_done (by kernel_rfl) ?_ _
         have B3 := Lib.hid (bits_next BX.out (by rw [Gp.out, Gx.out]; exact EX.out _ B2.out))
         have K3 := Lib.hid (KX.out.trans (KV2.out.trans kkz))
         go_wp2
         go_roundw
         case rel => exact ⟨x + 1, m2, by have := LtX.out; omega, by go_num, by go_num, M2, B3, Lib.hid (K3.out.trans (by first | with_reducible exact Kp.refl _ | with_reducible exact Kp.alloc _ _ | with_reducible exact (Kp.alloc _ _).trans (Kp.alloc _ _) | with_reducible exact ((Kp.alloc _ _).trans (Kp.alloc _ _)).trans (Kp.alloc _ _) | with_reducible exact Kp.drew _ | with_reducible exact Kp.drewN _ _))⟩
         case measure => have := LtX.out; simp [intOf]; omega
        ·have q6 : decide ((x : Int) < ((G.lo.length : Nat) : Int)) = false := decide_eq_false (by omega)
         have eex : x = G.lo.length := by omega
         subst eex
         have BE := Lib.hid (bits_next BP.out (bits_congr (bits_trans BJ.out BX.out) fun r _ => (relP_split _ G r).symm))
         have KE := Lib.hid (KP.out.trans (KV.out.trans (KJ.out.trans KX.out)))
         go_wp2
         go_roundw
         case rel => exact ⟨p + 1, mx, by have := LtP.out; omega, by go_num, by go_num, MX, BE, KE⟩
         case measure => have := LtP.out; simp [intOf]; omega
    ·have q4 : decide ((p : Int) < ((F.lo.length : Nat) : Int)) = false := decide_eq_false (by omega)
     have eep : p = F.lo.length := by omega
     subst eep
     have BE := Lib.hid (bits_congr (bits_trans B0.out BP.out) fun r _ => (relP_first F _ r).symm)
     have KE := Lib.hid (KA.out.trans (K1.out.trans KP.out))
     go_wp2
     go_ret
     exact ⟨mp, rfl, MP.out, BE.out, KE.out⟩
end Go.Proofs.YtjdnejglapnbbaaGreatDoor
