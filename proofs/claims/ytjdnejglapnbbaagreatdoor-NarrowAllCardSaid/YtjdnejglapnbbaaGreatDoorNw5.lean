/-
  Layer 22: the walk of NarrowAll.
-/
import Derived.Test.YtjdnejglapnbbaaGreatDoorNwN
import Derived.Test.YtjdnejglapnbbaaGreatDoorNwS
import Derived.LoopTactic
namespace Go.Proofs.YtjdnejglapnbbaaGreatDoor
open Go.RowKit
set_option linter.unusedVariables false
set_option linter.unusedSimpArgs false
def insQ (Q : List R) (p : R) (j : Nat) : Bool := (Q.take j).any fun q => decide (q.1 ≤ p.1) && decide (p.2 ≤ q.2)
theorem insQ_next (Q : List R) (p : R) {j : Nat} (h : j < Q.length) : insQ Q p (j + 1) = (insQ Q p j || (decide ((at_ Q j).1 ≤ p.1) && decide (p.2 ≤ (at_ Q j).2))) := by
  unfold insQ
  rw [take_at Q j h, List.any_append]
  simp
theorem insQ_all (m : List LF) {p : R} (h : p.1 ≤ p.2) : insQ (pls m) p (pls m).length = inB m p.1 p.2 := by
  refine boolN_iff (P := inL m p.1 p.2) ?_ (inB_iff _ _ _)
  unfold insQ
  rw [List.take_length, List.any_eq_true]
  constructor
  · rintro ⟨q, hq, g⟩
    rw [Bool.and_eq_true, decide_eq_true_eq, decide_eq_true_eq] at g
    obtain ⟨f, hf, k⟩ := (hasL_iff _ _ _).1 ((pls_mem m q).1 hq)
    exact ⟨h, f, hf, _, _, k, g.1, g.2⟩
  · rintro ⟨_, f, hf, x, y, k, a, b⟩
    exact ⟨(x, y), (pls_mem m (x, y)).2 ((hasL_iff _ _ _).2 ⟨f, hf, k⟩), by simp [a, b]⟩
noncomputable def anyQ (m : List LF) (P : List R) (i : Nat) : Bool := (P.take i).any fun p => inB m p.1 p.2
theorem anyQ_next (m : List LF) (P : List R) {i : Nat} (h : i < P.length) : anyQ m P (i + 1) = (anyQ m P i || inB m (at_ P i).1 (at_ P i).2) := by
  unfold anyQ
  rw [take_at P i h, List.any_append]
  simp
theorem anyQ_all (l m : List LF) : anyQ m (pls l) (pls l).length = true ↔ ∃ S T, leftP l m S T := by
  unfold anyQ
  rw [List.take_length, List.any_eq_true]
  constructor
  · rintro ⟨p, hp, g⟩
    exact ⟨p.1, p.2, (pls_mem l p).1 hp, (inB_iff _ _ _).1 g⟩
  · rintro ⟨S, T, a, b⟩
    exact ⟨(S, T), (pls_mem l (S, T)).2 a, (inB_iff _ _ _).2 b⟩
theorem pls_le {l : List LF} {k : Nat} (h : k < (pls l).length) : (at_ (pls l) k).1 ≤ (at_ (pls l) k).2 ∧ 0 ≤ (at_ (pls l) k).1 ∧ (at_ (pls l) k).2 ≤ 3652424 := hasL_st ((pls_mem l _).1 (at_mem h))
theorem all_told {l m L : List LF} {n : Int} (h : NarP l m n L) (ok : (okEs l && okEs m) = true) :
    (n = 8 ∧ L = [] ∧ anyQ m (pls l) (pls l).length = true) ∨ (n = 9 ∧ anyQ m (pls l) (pls l).length = false) ∨ (n = 0 ∧ anyQ m (pls l) (pls l).length = true ∧ ∀ i, i < (pls l).length → hasL L (at_ (pls l) i).1 (at_ (pls l) i).2 = inB m (at_ (pls l) i).1 (at_ (pls l) i).2) := by
  rcases h with ⟨h1, h2, h3 | ⟨_, h3⟩⟩ | ⟨h1, _, _, h2⟩ | ⟨h1, h0, _, h2, h3, _⟩
  · rw [ok] at h3; cases h3
  · exact .inl ⟨h1, h2, (anyQ_all l m).2 (wideS_some h3)⟩
  · refine .inr (.inl ⟨h1, ?_⟩)
    rcases Bool.eq_false_or_eq_true (anyQ m (pls l) (pls l).length) with q | q
    · obtain ⟨S, T, q⟩ := (anyQ_all l m).1 q
      exact absurd q (h2 S T)
    · exact q
  · refine .inr (.inr ⟨h1, ?_, fun i hi => ?_⟩)
    · obtain ⟨S, T, p⟩ := good_some h2 h0
      exact (anyQ_all l m).2 ⟨S, T, (h3 S T).1 p⟩
    · have hp := (pls_mem l _).1 (at_mem hi)
      exact boolN_iff (P := inL m _ _) ((h3 _ _).trans ⟨fun q => q.2, fun q => ⟨hp, q⟩⟩) (inB_iff _ _ _)
set_option maxHeartbeats 16000000 in
set_option maxRecDepth 100000 in
theorem pr22_any (v : Value) (l : List LF) (w : World) (hv : LeavesAt w v l) (hl : LsOk l) (hn : l.length ≤ 12) (T : Tabs w) :
    Calls Tryz.prog 39 #[v] w fun e w' => ∃ ad n c, e = .returned (.tuple #[.slice ad n c, .bool (fewP l)]) ∧ (fewP l = true → n = (pls l).length ∧ RunsAt w' (.slice ad n c) (pls l)) ∧ Kp w w' :=
  (pairs22_any v l w hv hl hn T).mono (by
    rintro e w' ⟨h1, h2, k⟩
    rcases Bool.eq_false_or_eq_true (fewP l) with h | h
    · obtain ⟨u, rfl, r⟩ := h1 h
      obtain ⟨ad, c, rfl⟩ := r.slice
      exact ⟨ad, _, c, by rw [h], fun _ => ⟨rfl, r⟩, k⟩
    · exact ⟨none, 0, 0, by rw [h2 h, h], fun q => (by rw [h] at q; cases q), k⟩)
set_option maxHeartbeats 16000000 in
set_option maxRecDepth 100000 in
theorem nall_f1 (vl : Value) (l : List LF) (vm : Value) (m : List LF) (w : World) (rl : LeavesAt w vl l) (gl : ∀ f ∈ l, LeafG f) (rm : LeavesAt w vm m) (gm : ∀ f ∈ m, LeafG f) (T : Tabs w) (hf : few22 l = false) :
    Calls Tryz.prog 7 #[vl, vm] w fun e w' => e = .returned (.bool true) ∧ Kp w w' := by
  have RFl := Lib.hid (fun w1 (kk : Kp w w1) => few22_any vl l w1 (rl.kp kk) gl)
  have RFm := Lib.hid (fun w1 (kk : Kp w w1) => few22_any vm m w1 (rm.kp kk) gm)
  rw [hf] at RFl
  obtain ⟨adl, cal, rfl⟩ := rl.slice
  obtain ⟨adm, cam, rfl⟩ := rm.slice
  obtain ⟨W0, hW⟩ : ∃ W0, W0 = w := ⟨_, rfl⟩
  subst hW
  have K00 := Lib.hid (Kp.refl W0)
  have K0 := Lib.hid (Kp.refl W0)
  have AW := Lib.hid (fun w1 (kk : Kp W0 w1) => awake22 w1 (T.kp (K00.out.trans kk)))
  have F1 := Lib.hid (fun w1 (kk : Kp W0 w1) => RFl.out w1 (K00.out.trans kk))
  have F2 := Lib.hid (fun w1 (kk : Kp W0 w1) => RFm.out w1 (K00.out.trans kk))
  clear rl rm gl gm T
  go_enter Tryz.func7, Tryz.ntmps7
  go_wp2_with fail
  refine (AW.out _ (by first | with_reducible exact K0.out | with_reducible exact K0.out.trans (Kp.alloc _ _) | with_reducible exact (K0.out.trans (Kp.alloc _ _)).trans (Kp.alloc _ _) | with_reducible exact ((K0.out.trans (Kp.alloc _ _)).trans (Kp.alloc _ _)).trans (Kp.alloc _ _) | with_reducible exact K0.out.trans (Kp.drew _) | with_reducible exact K0.out.trans (Kp.drewN _ _))).mono ?_
  rintro e w1 ⟨rfl, kk⟩
  have K1 := Lib.hid ((show Kp W0 _ from (by first | with_reducible exact K0.out | with_reducible exact K0.out.trans (Kp.alloc _ _) | with_reducible exact (K0.out.trans (Kp.alloc _ _)).trans (Kp.alloc _ _) | with_reducible exact ((K0.out.trans (Kp.alloc _ _)).trans (Kp.alloc _ _)).trans (Kp.alloc _ _) | with_reducible exact K0.out.trans (Kp.drew _) | with_reducible exact K0.out.trans (Kp.drewN _ _))).trans kk)
  clear kk
  go_wp2_with fail
  refine (F1.out _ (by first | with_reducible exact K1.out | with_reducible exact K1.out.trans (Kp.alloc _ _) | with_reducible exact (K1.out.trans (Kp.alloc _ _)).trans (Kp.alloc _ _) | with_reducible exact ((K1.out.trans (Kp.alloc _ _)).trans (Kp.alloc _ _)).trans (Kp.alloc _ _) | with_reducible exact K1.out.trans (Kp.drew _) | with_reducible exact K1.out.trans (Kp.drewN _ _))).mono ?_
  rintro e w2 ⟨rfl, kk⟩
  have K2 := Lib.hid ((show Kp W0 _ from (by first | with_reducible exact K1.out | with_reducible exact K1.out.trans (Kp.alloc _ _) | with_reducible exact (K1.out.trans (Kp.alloc _ _)).trans (Kp.alloc _ _) | with_reducible exact ((K1.out.trans (Kp.alloc _ _)).trans (Kp.alloc _ _)).trans (Kp.alloc _ _) | with_reducible exact K1.out.trans (Kp.drew _) | with_reducible exact K1.out.trans (Kp.drewN _ _))).trans kk)
  clear kk
  go_wp2
  go_ret
  exact ⟨rfl, K00.out.trans K2.out⟩
set_option maxHeartbeats 16000000 in
set_option maxRecDepth 100000 in
theorem nall_f2 (vl : Value) (l : List LF) (vm : Value) (m : List LF) (w : World) (rl : LeavesAt w vl l) (gl : ∀ f ∈ l, LeafG f) (rm : LeavesAt w vm m) (gm : ∀ f ∈ m, LeafG f) (T : Tabs w) (hf : few22 l = true) (hg : few22 m = false) :
    Calls Tryz.prog 7 #[vl, vm] w fun e w' => e = .returned (.bool true) ∧ Kp w w' := by
  have RFl := Lib.hid (fun w1 (kk : Kp w w1) => few22_any vl l w1 (rl.kp kk) gl)
  have RFm := Lib.hid (fun w1 (kk : Kp w w1) => few22_any vm m w1 (rm.kp kk) gm)
  rw [hf] at RFl
  rw [hg] at RFm
  obtain ⟨adl, cal, rfl⟩ := rl.slice
  obtain ⟨adm, cam, rfl⟩ := rm.slice
  obtain ⟨W0, hW⟩ : ∃ W0, W0 = w := ⟨_, rfl⟩
  subst hW
  have K00 := Lib.hid (Kp.refl W0)
  have K0 := Lib.hid (Kp.refl W0)
  have AW := Lib.hid (fun w1 (kk : Kp W0 w1) => awake22 w1 (T.kp (K00.out.trans kk)))
  have F1 := Lib.hid (fun w1 (kk : Kp W0 w1) => RFl.out w1 (K00.out.trans kk))
  have F2 := Lib.hid (fun w1 (kk : Kp W0 w1) => RFm.out w1 (K00.out.trans kk))
  clear rl rm gl gm T
  go_enter Tryz.func7, Tryz.ntmps7
  go_wp2_with fail
  refine (AW.out _ (by first | with_reducible exact K0.out | with_reducible exact K0.out.trans (Kp.alloc _ _) | with_reducible exact (K0.out.trans (Kp.alloc _ _)).trans (Kp.alloc _ _) | with_reducible exact ((K0.out.trans (Kp.alloc _ _)).trans (Kp.alloc _ _)).trans (Kp.alloc _ _) | with_reducible exact K0.out.trans (Kp.drew _) | with_reducible exact K0.out.trans (Kp.drewN _ _))).mono ?_
  rintro e w1 ⟨rfl, kk⟩
  have K1 := Lib.hid ((show Kp W0 _ from (by first | with_reducible exact K0.out | with_reducible exact K0.out.trans (Kp.alloc _ _) | with_reducible exact (K0.out.trans (Kp.alloc _ _)).trans (Kp.alloc _ _) | with_reducible exact ((K0.out.trans (Kp.alloc _ _)).trans (Kp.alloc _ _)).trans (Kp.alloc _ _) | with_reducible exact K0.out.trans (Kp.drew _) | with_reducible exact K0.out.trans (Kp.drewN _ _))).trans kk)
  clear kk
  go_wp2_with fail
  refine (F1.out _ (by first | with_reducible exact K1.out | with_reducible exact K1.out.trans (Kp.alloc _ _) | with_reducible exact (K1.out.trans (Kp.alloc _ _)).trans (Kp.alloc _ _) | with_reducible exact ((K1.out.trans (Kp.alloc _ _)).trans (Kp.alloc _ _)).trans (Kp.alloc _ _) | with_reducible exact K1.out.trans (Kp.drew _) | with_reducible exact K1.out.trans (Kp.drewN _ _))).mono ?_
  rintro e w2 ⟨rfl, kk⟩
  have K2 := Lib.hid ((show Kp W0 _ from (by first | with_reducible exact K1.out | with_reducible exact K1.out.trans (Kp.alloc _ _) | with_reducible exact (K1.out.trans (Kp.alloc _ _)).trans (Kp.alloc _ _) | with_reducible exact ((K1.out.trans (Kp.alloc _ _)).trans (Kp.alloc _ _)).trans (Kp.alloc _ _) | with_reducible exact K1.out.trans (Kp.drew _) | with_reducible exact K1.out.trans (Kp.drewN _ _))).trans kk)
  clear kk
  go_wp2_with fail
  refine (F2.out _ (by first | with_reducible exact K2.out | with_reducible exact K2.out.trans (Kp.alloc _ _) | with_reducible exact (K2.out.trans (Kp.alloc _ _)).trans (Kp.alloc _ _) | with_reducible exact ((K2.out.trans (Kp.alloc _ _)).trans (Kp.alloc _ _)).trans (Kp.alloc _ _) | with_reducible exact K2.out.trans (Kp.drew _) | with_reducible exact K2.out.trans (Kp.drewN _ _))).mono ?_
  rintro e w3 ⟨rfl, kk⟩
  have K3 := Lib.hid ((show Kp W0 _ from (by first | with_reducible exact K2.out | with_reducible exact K2.out.trans (Kp.alloc _ _) | with_reducible exact (K2.out.trans (Kp.alloc _ _)).trans (Kp.alloc _ _) | with_reducible exact ((K2.out.trans (Kp.alloc _ _)).trans (Kp.alloc _ _)).trans (Kp.alloc _ _) | with_reducible exact K2.out.trans (Kp.drew _) | with_reducible exact K2.out.trans (Kp.drewN _ _))).trans kk)
  clear kk
  go_wp2
  go_ret
  exact ⟨rfl, K00.out.trans K3.out⟩
abbrev nwAl0 : Oper := { dst := some 61, op := Go.Op.move (Go.Operand.tmp 14), type := 4, pos := "law.go:95", after := #[], guard := none }
abbrev nwAl1 : Oper := { dst := some 62, op := Go.Op.move (Go.Operand.tmp 61), type := 4, pos := "law.go:95", after := #[{ on := 0, ground := Go.Ground.data }], guard := none }
abbrev nwAl2 : Oper := { dst := some 63, op := Go.Op.move (Go.Operand.tmp 8), type := 49, pos := "law.go:95", after := #[{ on := 1, ground := Go.Ground.guard }], guard := some (1, false) }
abbrev nwAl3 : Oper := { dst := some 64, op := Go.Op.move (Go.Operand.tmp 15), type := 3, pos := "law.go:95", after := #[{ on := 1, ground := Go.Ground.guard }], guard := some (1, false) }
abbrev nwAl4 : Oper := { dst := some 65, op := Go.Op.indexAddr 49 (Go.Operand.tmp 63) (Go.Operand.tmp 64), type := 0, pos := "law.go:95", after := #[{ on := 2, ground := Go.Ground.data }, { on := 3, ground := Go.Ground.data }, { on := 1, ground := Go.Ground.guard }], guard := some (1, false) }
abbrev nwAl5 : Oper := { dst := some 66, op := Go.Op.fieldAddr 35 (Go.Operand.tmp 65) 0, type := 0, pos := "law.go:95", after := #[{ on := 4, ground := Go.Ground.data }, { on := 1, ground := Go.Ground.guard }], guard := some (1, false) }
abbrev nwAl6 : Oper := { dst := some 67, op := Go.Op.load 3 (Go.Operand.tmp 66), type := 3, pos := "law.go:95", after := #[{ on := 5, ground := Go.Ground.data }, { on := 1, ground := Go.Ground.guard }], guard := some (1, false) }
abbrev nwAl7 : Oper := { dst := some 68, op := Go.Op.move (Go.Operand.tmp 6), type := 49, pos := "law.go:95", after := #[{ on := 1, ground := Go.Ground.guard }], guard := some (1, false) }
abbrev nwAl8 : Oper := { dst := some 69, op := Go.Op.move (Go.Operand.tmp 13), type := 3, pos := "law.go:95", after := #[{ on := 1, ground := Go.Ground.guard }], guard := some (1, false) }
abbrev nwAl9 : Oper := { dst := some 70, op := Go.Op.indexAddr 49 (Go.Operand.tmp 68) (Go.Operand.tmp 69), type := 0, pos := "law.go:95", after := #[{ on := 7, ground := Go.Ground.data }, { on := 8, ground := Go.Ground.data }, { on := 1, ground := Go.Ground.guard }], guard := some (1, false) }
abbrev nwAl10 : Oper := { dst := some 71, op := Go.Op.fieldAddr 35 (Go.Operand.tmp 70) 0, type := 0, pos := "law.go:95", after := #[{ on := 9, ground := Go.Ground.data }, { on := 1, ground := Go.Ground.guard }], guard := some (1, false) }
abbrev nwAl11 : Oper := { dst := some 72, op := Go.Op.load 3 (Go.Operand.tmp 71), type := 3, pos := "law.go:95", after := #[{ on := 10, ground := Go.Ground.data }, { on := 1, ground := Go.Ground.guard }], guard := some (1, false) }
abbrev nwAl12 : Oper := { dst := some 73, op := Go.Op.binOp Go.BinOp.leq 3 (Go.Operand.tmp 67) (Go.Operand.tmp 72) 3, type := 4, pos := "law.go:95", after := #[{ on := 6, ground := Go.Ground.data }, { on := 11, ground := Go.Ground.data }, { on := 1, ground := Go.Ground.guard }], guard := some (1, false) }
abbrev nwAl13 : Oper := { dst := some 74, op := Go.Op.move (Go.Operand.tmp 73), type := 4, pos := "law.go:95", after := #[{ on := 12, ground := Go.Ground.data }, { on := 1, ground := Go.Ground.chain }, { on := 1, ground := Go.Ground.guard }], guard := some (1, false) }
abbrev nwAl14 : Oper := { dst := some 75, op := Go.Op.move (Go.Operand.tmp 6), type := 49, pos := "law.go:95", after := #[{ on := 13, ground := Go.Ground.guard }], guard := some (13, true) }
abbrev nwAl15 : Oper := { dst := some 76, op := Go.Op.move (Go.Operand.tmp 13), type := 3, pos := "law.go:95", after := #[{ on := 13, ground := Go.Ground.guard }], guard := some (13, true) }
abbrev nwAl16 : Oper := { dst := some 77, op := Go.Op.indexAddr 49 (Go.Operand.tmp 75) (Go.Operand.tmp 76), type := 0, pos := "law.go:95", after := #[{ on := 14, ground := Go.Ground.data }, { on := 15, ground := Go.Ground.data }, { on := 13, ground := Go.Ground.guard }], guard := some (13, true) }
abbrev nwAl17 : Oper := { dst := some 78, op := Go.Op.fieldAddr 35 (Go.Operand.tmp 77) 1, type := 0, pos := "law.go:95", after := #[{ on := 16, ground := Go.Ground.data }, { on := 13, ground := Go.Ground.guard }], guard := some (13, true) }
abbrev nwAl18 : Oper := { dst := some 79, op := Go.Op.load 3 (Go.Operand.tmp 78), type := 3, pos := "law.go:95", after := #[{ on := 17, ground := Go.Ground.data }, { on := 13, ground := Go.Ground.guard }], guard := some (13, true) }
abbrev nwAl19 : Oper := { dst := some 80, op := Go.Op.move (Go.Operand.tmp 8), type := 49, pos := "law.go:95", after := #[{ on := 13, ground := Go.Ground.guard }], guard := some (13, true) }
abbrev nwAl20 : Oper := { dst := some 81, op := Go.Op.move (Go.Operand.tmp 15), type := 3, pos := "law.go:95", after := #[{ on := 13, ground := Go.Ground.guard }], guard := some (13, true) }
abbrev nwAl21 : Oper := { dst := some 82, op := Go.Op.indexAddr 49 (Go.Operand.tmp 80) (Go.Operand.tmp 81), type := 0, pos := "law.go:95", after := #[{ on := 19, ground := Go.Ground.data }, { on := 20, ground := Go.Ground.data }, { on := 13, ground := Go.Ground.guard }], guard := some (13, true) }
abbrev nwAl22 : Oper := { dst := some 83, op := Go.Op.fieldAddr 35 (Go.Operand.tmp 82) 1, type := 0, pos := "law.go:95", after := #[{ on := 21, ground := Go.Ground.data }, { on := 13, ground := Go.Ground.guard }], guard := some (13, true) }
abbrev nwAl23 : Oper := { dst := some 84, op := Go.Op.load 3 (Go.Operand.tmp 83), type := 3, pos := "law.go:95", after := #[{ on := 22, ground := Go.Ground.data }, { on := 13, ground := Go.Ground.guard }], guard := some (13, true) }
abbrev nwAl24 : Oper := { dst := some 85, op := Go.Op.binOp Go.BinOp.leq 3 (Go.Operand.tmp 79) (Go.Operand.tmp 84) 3, type := 4, pos := "law.go:95", after := #[{ on := 18, ground := Go.Ground.data }, { on := 23, ground := Go.Ground.data }, { on := 13, ground := Go.Ground.guard }], guard := some (13, true) }
abbrev nwAl25 : Oper := { dst := some 86, op := Go.Op.pick (Go.Operand.tmp 74) (Go.Operand.tmp 85) (Go.Operand.const (Go.Value.bool false)), type := 4, pos := "law.go:95", after := #[{ on := 13, ground := Go.Ground.data }, { on := 24, ground := Go.Ground.data }, { on := 1, ground := Go.Ground.guard }], guard := some (1, false) }
abbrev nwAl26 : Oper := { dst := some 87, op := Go.Op.pick (Go.Operand.tmp 62) (Go.Operand.const (Go.Value.bool true)) (Go.Operand.tmp 86), type := 4, pos := "law.go:95", after := #[{ on := 1, ground := Go.Ground.data }, { on := 25, ground := Go.Ground.data }], guard := none }
abbrev nwAl27 : Oper := { dst := some 14, op := Go.Op.assign (Go.Operand.tmp 87), type := 4, pos := "law.go:95", after := #[{ on := 26, ground := Go.Ground.data }, { on := 13, ground := Go.Ground.chain }, { on := 0, ground := Go.Ground.phase }, { on := 1, ground := Go.Ground.phase }, { on := 2, ground := Go.Ground.phase }, { on := 3, ground := Go.Ground.phase }, { on := 4, ground := Go.Ground.phase }, { on := 5, ground := Go.Ground.phase }, { on := 6, ground := Go.Ground.phase }, { on := 7, ground := Go.Ground.phase }, { on := 8, ground := Go.Ground.phase }, { on := 9, ground := Go.Ground.phase }, { on := 10, ground := Go.Ground.phase }, { on := 11, ground := Go.Ground.phase }, { on := 12, ground := Go.Ground.phase }, { on := 13, ground := Go.Ground.phase }, { on := 14, ground := Go.Ground.phase }, { on := 15, ground := Go.Ground.phase }, { on := 16, ground := Go.Ground.phase }, { on := 17, ground := Go.Ground.phase }, { on := 18, ground := Go.Ground.phase }, { on := 19, ground := Go.Ground.phase }, { on := 20, ground := Go.Ground.phase }, { on := 21, ground := Go.Ground.phase }, { on := 22, ground := Go.Ground.phase }, { on := 23, ground := Go.Ground.phase }, { on := 24, ground := Go.Ground.phase }, { on := 25, ground := Go.Ground.phase }, { on := 26, ground := Go.Ground.phase }], guard := none }
set_option maxHeartbeats 16000000 in
set_option maxRecDepth 100000 in
theorem nall_main (vl : Value) (l : List LF) (vm : Value) (m : List LF) (w : World) (rl : LeavesAt w vl l) (gl : ∀ f ∈ l, LeafG f) (rm : LeavesAt w vm m) (gm : ∀ f ∈ m, LeafG f) (T : Tabs w) (hf : few22 l = true) (hg : few22 m = true) :
    Calls Tryz.prog 7 #[vl, vm] w fun e w' => e = .returned (.bool true) ∧ Kp w w' := by
  have RFl := Lib.hid (fun w1 (kk : Kp w w1) => few22_any vl l w1 (rl.kp kk) gl)
  have RFm := Lib.hid (fun w1 (kk : Kp w w1) => few22_any vm m w1 (rm.kp kk) gm)
  rw [hf] at RFl
  rw [hg] at RFm
  obtain ⟨ok, sm, ll, _, _⟩ := few22_told hf gl
  obtain ⟨okm, smm, lm, kI, dD⟩ := few22_told hg gm
  have RP1 := Lib.hid (fun w1 (kk : Kp w w1) => pr22_any vl l w1 (rl.kp kk) ok (by omega) (T.kp kk))
  have RP2 := Lib.hid (fun w1 (kk : Kp w w1) => pr22_any vm m w1 (rm.kp kk) okm (by omega) (T.kp kk))
  have RN1 := Lib.hid (fun w1 (kk : Kp w w1) => nwN_any vl vm l m w1 (rl.kp kk) (rm.kp kk) ok okm (T.kp kk) sm (by omega) (by omega))
  have RHX := Lib.hid (fun v L S E w1 (h : LeavesAt w1 v L) (ho : LsOk L) (kk : Kp w w1) b1 b2 b3 b4 => denHas_any v L S E w1 h ho (T.kp kk) b1 b2 b3 b4)
  have RIN := Lib.hid (fun S E w1 (kk : Kp w w1) b1 b2 b3 b4 => nwInside_any vm m S E w1 (rm.kp kk) okm (T.kp kk) b1 b2 b3 b4)
  have O1 := Lib.hid (fun h => fewP_ok (l := l) h)
  have O2 := Lib.hid (fun h => fewP_ok (l := m) h)
  have lz : (pls l).length ≤ 200 * l.length ∨ fewP l = false := by rcases Bool.eq_false_or_eq_true (fewP l) with h | h <;> simp [h, fewP_ok]
  have mz : (pls m).length ≤ 200 * m.length ∨ fewP m = false := by rcases Bool.eq_false_or_eq_true (fewP m) with h | h <;> simp [h, fewP_ok]
  obtain ⟨adl, cal, rfl⟩ := rl.slice
  obtain ⟨adm, cam, rfl⟩ := rm.slice
  obtain ⟨W0, hW⟩ : ∃ W0, W0 = w := ⟨_, rfl⟩
  subst hW
  have K00 := Lib.hid (Kp.refl W0)
  have K0 := Lib.hid (Kp.refl W0)
  have AW := Lib.hid (fun w1 (kk : Kp W0 w1) => awake22 w1 (T.kp (K00.out.trans kk)))
  have F1 := Lib.hid (fun w1 (kk : Kp W0 w1) => RFl.out w1 (K00.out.trans kk))
  have F2 := Lib.hid (fun w1 (kk : Kp W0 w1) => RFm.out w1 (K00.out.trans kk))
  have P1 := Lib.hid (fun w1 (kk : Kp W0 w1) => RP1.out w1 (K00.out.trans kk))
  have P2 := Lib.hid (fun w1 (kk : Kp W0 w1) => RP2.out w1 (K00.out.trans kk))
  have N1 := Lib.hid (fun w1 (kk : Kp W0 w1) => RN1.out w1 (K00.out.trans kk))
  have HX1 := Lib.hid (fun v L S E w1 h ho (kk : Kp W0 w1) => RHX.out v L S E w1 h ho (K00.out.trans kk))
  have IN1 := Lib.hid (fun S E w1 (kk : Kp W0 w1) => RIN.out S E w1 (K00.out.trans kk))
  clear rl rm gl gm T RP1 RP2 RN1 RHX RIN RFl RFm ok sm okm smm kI dD hf hg
  go_enter Tryz.func7, Tryz.ntmps7
  go_wp2_with fail
  refine (AW.out _ (by first | with_reducible exact K0.out | with_reducible exact K0.out.trans (Kp.alloc _ _) | with_reducible exact (K0.out.trans (Kp.alloc _ _)).trans (Kp.alloc _ _) | with_reducible exact ((K0.out.trans (Kp.alloc _ _)).trans (Kp.alloc _ _)).trans (Kp.alloc _ _) | with_reducible exact K0.out.trans (Kp.drew _) | with_reducible exact K0.out.trans (Kp.drewN _ _))).mono ?_
  rintro e w1 ⟨rfl, kk⟩
  have K1 := Lib.hid ((show Kp W0 _ from (by first | with_reducible exact K0.out | with_reducible exact K0.out.trans (Kp.alloc _ _) | with_reducible exact (K0.out.trans (Kp.alloc _ _)).trans (Kp.alloc _ _) | with_reducible exact ((K0.out.trans (Kp.alloc _ _)).trans (Kp.alloc _ _)).trans (Kp.alloc _ _) | with_reducible exact K0.out.trans (Kp.drew _) | with_reducible exact K0.out.trans (Kp.drewN _ _))).trans kk)
  clear kk
  go_wp2_with fail
  refine (F1.out _ (by first | with_reducible exact K1.out | with_reducible exact K1.out.trans (Kp.alloc _ _) | with_reducible exact (K1.out.trans (Kp.alloc _ _)).trans (Kp.alloc _ _) | with_reducible exact ((K1.out.trans (Kp.alloc _ _)).trans (Kp.alloc _ _)).trans (Kp.alloc _ _) | with_reducible exact K1.out.trans (Kp.drew _) | with_reducible exact K1.out.trans (Kp.drewN _ _))).mono ?_
  rintro e w2 ⟨rfl, kk⟩
  have K2 := Lib.hid ((show Kp W0 _ from (by first | with_reducible exact K1.out | with_reducible exact K1.out.trans (Kp.alloc _ _) | with_reducible exact (K1.out.trans (Kp.alloc _ _)).trans (Kp.alloc _ _) | with_reducible exact ((K1.out.trans (Kp.alloc _ _)).trans (Kp.alloc _ _)).trans (Kp.alloc _ _) | with_reducible exact K1.out.trans (Kp.drew _) | with_reducible exact K1.out.trans (Kp.drewN _ _))).trans kk)
  clear kk
  go_wp2_with fail
  refine (F2.out _ (by first | with_reducible exact K2.out | with_reducible exact K2.out.trans (Kp.alloc _ _) | with_reducible exact (K2.out.trans (Kp.alloc _ _)).trans (Kp.alloc _ _) | with_reducible exact ((K2.out.trans (Kp.alloc _ _)).trans (Kp.alloc _ _)).trans (Kp.alloc _ _) | with_reducible exact K2.out.trans (Kp.drew _) | with_reducible exact K2.out.trans (Kp.drewN _ _))).mono ?_
  rintro e w3 ⟨rfl, kk⟩
  have K3 := Lib.hid ((show Kp W0 _ from (by first | with_reducible exact K2.out | with_reducible exact K2.out.trans (Kp.alloc _ _) | with_reducible exact (K2.out.trans (Kp.alloc _ _)).trans (Kp.alloc _ _) | with_reducible exact ((K2.out.trans (Kp.alloc _ _)).trans (Kp.alloc _ _)).trans (Kp.alloc _ _) | with_reducible exact K2.out.trans (Kp.drew _) | with_reducible exact K2.out.trans (Kp.drewN _ _))).trans kk)
  clear kk
  go_wp2_with fail
  refine (P1.out _ (by first | with_reducible exact K3.out | with_reducible exact K3.out.trans (Kp.alloc _ _) | with_reducible exact (K3.out.trans (Kp.alloc _ _)).trans (Kp.alloc _ _) | with_reducible exact ((K3.out.trans (Kp.alloc _ _)).trans (Kp.alloc _ _)).trans (Kp.alloc _ _) | with_reducible exact K3.out.trans (Kp.drew _) | with_reducible exact K3.out.trans (Kp.drewN _ _))).mono ?_
  rintro e w4 ⟨da, na, ca, rfl, pa, kk⟩
  have K4 := Lib.hid ((show Kp W0 _ from (by first | with_reducible exact K3.out | with_reducible exact K3.out.trans (Kp.alloc _ _) | with_reducible exact (K3.out.trans (Kp.alloc _ _)).trans (Kp.alloc _ _) | with_reducible exact ((K3.out.trans (Kp.alloc _ _)).trans (Kp.alloc _ _)).trans (Kp.alloc _ _) | with_reducible exact K3.out.trans (Kp.drew _) | with_reducible exact K3.out.trans (Kp.drewN _ _))).trans kk)
  have PA := Lib.hid pa
  clear kk pa
  have G4_4 := Lib.hid (Kp.refl w4)
  go_wp2_with fail
  refine (P2.out _ (by first | with_reducible exact K4.out | with_reducible exact K4.out.trans (Kp.alloc _ _) | with_reducible exact (K4.out.trans (Kp.alloc _ _)).trans (Kp.alloc _ _) | with_reducible exact ((K4.out.trans (Kp.alloc _ _)).trans (Kp.alloc _ _)).trans (Kp.alloc _ _) | with_reducible exact K4.out.trans (Kp.drew _) | with_reducible exact K4.out.trans (Kp.drewN _ _))).mono ?_
  rintro e w5 ⟨db, nb, cb, rfl, pb, kk⟩
  have K5 := Lib.hid ((show Kp W0 _ from (by first | with_reducible exact K4.out | with_reducible exact K4.out.trans (Kp.alloc _ _) | with_reducible exact (K4.out.trans (Kp.alloc _ _)).trans (Kp.alloc _ _) | with_reducible exact ((K4.out.trans (Kp.alloc _ _)).trans (Kp.alloc _ _)).trans (Kp.alloc _ _) | with_reducible exact K4.out.trans (Kp.drew _) | with_reducible exact K4.out.trans (Kp.drewN _ _))).trans kk)
  have G4_5 := Lib.hid (G4_4.out.trans ((show Kp w4 _ from (by first | with_reducible exact Kp.refl _ | with_reducible exact Kp.alloc _ _ | with_reducible exact (Kp.alloc _ _).trans (Kp.alloc _ _) | with_reducible exact ((Kp.alloc _ _).trans (Kp.alloc _ _)).trans (Kp.alloc _ _) | with_reducible exact Kp.drew _ | with_reducible exact Kp.drewN _ _)).trans kk))
  have PB := Lib.hid pb
  clear kk pb
  rcases Bool.eq_false_or_eq_true (fewP l) with f1 | f1
  rotate_left
  · rw [f1]
    clear PA PB N1 HX1 IN1 O1 O2 lz mz f1
    generalize fewP m = x at *
    go_wp2_with fail
    go_wp2
    go_ret
    exact ⟨rfl, K00.out.trans K5.out⟩
  rcases Bool.eq_false_or_eq_true (fewP m) with f2 | f2
  rotate_left
  · rw [f1, f2]
    clear PA PB N1 HX1 IN1 O1 O2 lz mz f1 f2
    go_wp2_with fail
    go_wp2
    go_ret
    exact ⟨rfl, K00.out.trans K5.out⟩
  obtain ⟨rfl, ra⟩ := PA.out f1
  obtain ⟨rfl, rb⟩ := PB.out f2
  have RA := Lib.hid (ra.kp G4_5.out)
  have RB := Lib.hid rb
  have np : (pls l).length ≤ 2000 := by rcases lz with h | h; omega; (rw [f1] at h; cases h)
  have nq : (pls m).length ≤ 2000 := by rcases mz with h | h; omega; (rw [f2] at h; cases h)
  have OK := Lib.hid (show (okEs l && okEs m) = true by
    have a := (O1.out f1).1
    have b := (O2.out f2).1
    unfold okAll at a b
    unfold okEs okE
    rw [a, b]
    rfl)
  rw [f1, f2]
  clear PA PB ra rb O1 O2 lz mz f1 f2 ll lm
  have G5_5 := Lib.hid (Kp.refl w5)
  go_wp2_with fail
  refine (N1.out _ (by first | with_reducible exact K5.out | with_reducible exact K5.out.trans (Kp.alloc _ _) | with_reducible exact (K5.out.trans (Kp.alloc _ _)).trans (Kp.alloc _ _) | with_reducible exact ((K5.out.trans (Kp.alloc _ _)).trans (Kp.alloc _ _)).trans (Kp.alloc _ _) | with_reducible exact K5.out.trans (Kp.drew _) | with_reducible exact K5.out.trans (Kp.drewN _ _))).mono ?_
  rintro e w6 ⟨dl, L, cl, n, rfl, ⟨la, pa⟩, kk⟩
  have K6 := Lib.hid ((show Kp W0 _ from (by first | with_reducible exact K5.out | with_reducible exact K5.out.trans (Kp.alloc _ _) | with_reducible exact (K5.out.trans (Kp.alloc _ _)).trans (Kp.alloc _ _) | with_reducible exact ((K5.out.trans (Kp.alloc _ _)).trans (Kp.alloc _ _)).trans (Kp.alloc _ _) | with_reducible exact K5.out.trans (Kp.drew _) | with_reducible exact K5.out.trans (Kp.drewN _ _))).trans kk)
  have G5_6 := Lib.hid (G5_5.out.trans ((show Kp w5 _ from (by first | with_reducible exact Kp.refl _ | with_reducible exact Kp.alloc _ _ | with_reducible exact (Kp.alloc _ _).trans (Kp.alloc _ _) | with_reducible exact ((Kp.alloc _ _).trans (Kp.alloc _ _)).trans (Kp.alloc _ _) | with_reducible exact Kp.drew _ | with_reducible exact Kp.drewN _ _)).trans kk))
  have LA := Lib.hid la
  have PA := Lib.hid pa
  clear kk la pa
  have LK := Lib.hid (nar_ok PA.out).1
  have LLA := LA.out.len
  unfold maxLen at LLA
  have HXr := Lib.hid (fun S E w' (kk : Kp w6 w') b1 b2 b3 b4 => HX1.out _ L S E w' (LA.out.kp kk) LK.out (K6.out.trans kk) b1 b2 b3 b4)
  have INr := Lib.hid (fun S E w' (kk : Kp w6 w') b1 b2 b3 b4 => IN1.out S E w' (K6.out.trans kk) b1 b2 b3 b4)
  have RA6 := Lib.hid (RA.out.kp G5_6.out)
  have RB6 := Lib.hid (RB.out.kp G5_6.out)
  have AL := Lib.hid (all_told PA.out OK.out)
  have OKP := Lib.hid (fun i (h : i < (pls l).length) => pls_le h)
  have CZ := Lib.hid (fun (p : R) (h : p.1 ≤ p.2) => insQ_all m h)
  have AN := Lib.hid (fun i (h : i < (pls l).length) => anyQ_next m (pls l) h)
  have CN := Lib.hid (fun p j (h : j < (pls m).length) => insQ_next (pls m) p h)
  have A0 := Lib.hid (show anyQ m (pls l) 0 = false from rfl)
  have C0 := Lib.hid (fun p => show insQ (pls m) p 0 = false from rfl)
  clear RA RB PA LK LA OK HX1 IN1 N1
  generalize hP : pls l = P at *
  generalize hQ : pls m = Q at *
  clear hP hQ
  generalize anyQ m P = A at *
  generalize insQ Q = C at *
  have hal := AL.out
  clear AL
  rcases hal with ⟨rfl, rfl, hA⟩ | ⟨rfl, hA⟩ | ⟨rfl, hA, has⟩
  · have HA := Lib.hid hA
    have e0 : (([] : List LF).length) = 0 := rfl
    clear hA HXr
    go_wp2_with fail
    go_loopw [12, 13] (fun av iv wr => ∃ i : Nat, i ≤ P.length ∧ av = .bool (A i) ∧ iv = .int .i64 i ∧ Hid (Kp w6 wr)) (fun _ iv _ => P.length - (intOf iv).toNat)
    case atStart => exact ⟨0, Nat.zero_le _, by rw [A0.out], rfl, Lib.hid (Kp.refl _)⟩
    case round =>
      obtain ⟨i, hi, rfl, rfl, J⟩ := hrel
      obtain ⟨wo, hwo⟩ : ∃ x, x = wr := ⟨_, rfl⟩
      subst hwo
      by_cases hlt : i < P.length
      · have q1 : decide ((i : Int) < (P.length : Int)) = true := decide_eq_true (by omega)
        have q1n : decide (i < P.length) = true := decide_eq_true hlt
        have HLT := Lib.hid hlt
        go_wp2
        go_loopw [14, 15] (fun cv jv wr => ∃ j : Nat, j ≤ Q.length ∧ cv = .bool (C (at_ P i) j) ∧ jv = .int .i64 j ∧ Hid (Kp wo wr)) (fun _ jv _ => Q.length - (intOf jv).toNat)
        case atStart => exact ⟨0, Nat.zero_le _, by rw [C0.out], rfl, Lib.hid (Kp.refl _)⟩
        case round =>
          obtain ⟨j, hj, rfl, rfl, JJ⟩ := hrel
          obtain ⟨wi, hwi⟩ : ∃ x, x = wr := ⟨_, rfl⟩
          subst hwi
          have z1 : (0 : Int) ≤ (i : Int) := by omega
          have z3 : (i : Int) < (P.length : Int) := by omega
          by_cases hlq : j < Q.length
          · have q2 : decide ((j : Int) < (Q.length : Int)) = true := decide_eq_true (by omega)
            have q2n : decide (j < Q.length) = true := decide_eq_true hlq
            rcases RA6.out.kp (J.out.trans JJ.out) with ⟨_, _, _, e⟩ | ⟨bp, op, cpp, ev, hc, hmx, hx⟩
            · rw [e] at hlt; simp at hlt
            cases ev
            obtain ⟨d1, d2⟩ := hx i hlt
            rcases RB6.out.kp (J.out.trans JJ.out) with ⟨_, _, _, e⟩ | ⟨bq, oq, cqq, ev, hc2, hmx2, hx2⟩
            · rw [e] at hlq; simp at hlq
            cases ev
            obtain ⟨d3, d4⟩ := hx2 j hlq
            have NX := CN.out (at_ P i) j hlq
            obtain ⟨p, hp⟩ : ∃ p, at_ P i = p := ⟨_, rfl⟩
            obtain ⟨q, hq⟩ : ∃ q, at_ Q j = q := ⟨_, rfl⟩
            rw [hp] at d1 d2 NX
            rw [hq] at d3 d4 NX
            rw [hp]
            obtain ⟨ps, pt⟩ := p
            obtain ⟨qs, qt⟩ := q
            simp only at d1 d2 d3 d4 NX
            have z2 : (0 : Int) ≤ (j : Int) := by omega
            have z4 : (j : Int) < (Q.length : Int) := by omega
            have KS := Lib.hid (fun w' (kq : Kp wi w') => show w'.cell? ⟨bp, op + i * 2, none⟩ = some (.int .i64 ps) ∧ w'.cell? ⟨bp, op + i * 2 + 1, none⟩ = some (.int .i64 pt) ∧ w'.cell? ⟨bq, oq + j * 2, none⟩ = some (.int .i64 qs) ∧ w'.cell? ⟨bq, oq + j * 2 + 1, none⟩ = some (.int .i64 qt) ∧ Kp wi w' from ⟨cell_up kq d1, cell_up kq d2, cell_up kq d3, cell_up kq d4, kq⟩)
            have k00 : Kp wi wi := Kp.refl _
            have HP := Lib.hid hp
            have HN := Lib.hid NX
            clear hx hc hmx hx2 hc2 hmx2 d1 d2 d3 d4 hp hq NX
            cases hE : C (ps, pt) j with
            | true =>
              have N2 := Lib.hid (show C (ps, pt) (j + 1) = true by rw [HN.out, hE]; rfl)
              clear hE HN HP
              go_upto_region 17 with fail
              refine wp_region_held_drew (S := fun w' => w'.cell? ⟨bp, op + i * 2, none⟩ = some (.int .i64 ps) ∧ w'.cell? ⟨bp, op + i * 2 + 1, none⟩ = some (.int .i64 pt) ∧ w'.cell? ⟨bq, oq + j * 2, none⟩ = some (.int .i64 qs) ∧ w'.cell? ⟨bq, oq + j * 2 + 1, none⟩ = some (.int .i64 qt) ∧ Kp wi w') (by kernel_rfl) ?_ (fun hHeld0 => ?_)
              · (try dsimp only); exact KS.out _ (by first | with_reducible exact k00 | ((repeat (first | with_reducible refine Kp.trans ?_ (Kp.drew _) | with_reducible refine Kp.trans ?_ (Kp.alloc _ _))); with_reducible exact k00))
              refine tkW (v := ?_) 0 nwAl0 rfl (by kernel_rfl) (by kernel_rfl) (by kernel_rfl) (fun _ _ _ h => h) (by rfl) ?_ (by assumption) ?_
              rotate_left
              · intro w hSw; (try dsimp only at hSw); go_simp; (try with_reducible rfl)
              (try simp only [Act.put, nwAl0, List.setIfInBounds_toArray, List.set_cons_zero, List.set_cons_succ])
              refine tkW (v := ?_) 1 nwAl1 rfl (by kernel_rfl) (by kernel_rfl) (by kernel_rfl) (fun _ _ _ h => h) (by rfl) ?_ (by assumption) ?_
              rotate_left
              · intro w hSw; (try dsimp only at hSw); go_simp; (try with_reducible rfl)
              (try simp only [Act.put, nwAl1, List.setIfInBounds_toArray, List.set_cons_zero, List.set_cons_succ])
              refine tkU 2 nwAl2 rfl (by kernel_rfl) (by kernel_rfl) (by kernel_rfl) (fun _ _ _ h => h) (by rfl) (by assumption) ?_
              (try simp only [Act.put, nwAl2, List.setIfInBounds_toArray, List.set_cons_zero, List.set_cons_succ])
              refine tkU 3 nwAl3 rfl (by kernel_rfl) (by kernel_rfl) (by kernel_rfl) (fun _ _ _ h => h) (by rfl) (by assumption) ?_
              (try simp only [Act.put, nwAl3, List.setIfInBounds_toArray, List.set_cons_zero, List.set_cons_succ])
              refine tkU 4 nwAl4 rfl (by kernel_rfl) (by kernel_rfl) (by kernel_rfl) (fun _ _ _ h => h) (by rfl) (by assumption) ?_
              (try simp only [Act.put, nwAl4, List.setIfInBounds_toArray, List.set_cons_zero, List.set_cons_succ])
              refine tkU 5 nwAl5 rfl (by kernel_rfl) (by kernel_rfl) (by kernel_rfl) (fun _ _ _ h => h) (by rfl) (by assumption) ?_
              (try simp only [Act.put, nwAl5, List.setIfInBounds_toArray, List.set_cons_zero, List.set_cons_succ])
              refine tkU 6 nwAl6 rfl (by kernel_rfl) (by kernel_rfl) (by kernel_rfl) (fun _ _ _ h => h) (by rfl) (by assumption) ?_
              (try simp only [Act.put, nwAl6, List.setIfInBounds_toArray, List.set_cons_zero, List.set_cons_succ])
              refine tkU 7 nwAl7 rfl (by kernel_rfl) (by kernel_rfl) (by kernel_rfl) (fun _ _ _ h => h) (by rfl) (by assumption) ?_
              (try simp only [Act.put, nwAl7, List.setIfInBounds_toArray, List.set_cons_zero, List.set_cons_succ])
              refine tkU 8 nwAl8 rfl (by kernel_rfl) (by kernel_rfl) (by kernel_rfl) (fun _ _ _ h => h) (by rfl) (by assumption) ?_
              (try simp only [Act.put, nwAl8, List.setIfInBounds_toArray, List.set_cons_zero, List.set_cons_succ])
              refine tkU 9 nwAl9 rfl (by kernel_rfl) (by kernel_rfl) (by kernel_rfl) (fun _ _ _ h => h) (by rfl) (by assumption) ?_
              (try simp only [Act.put, nwAl9, List.setIfInBounds_toArray, List.set_cons_zero, List.set_cons_succ])
              refine tkU 10 nwAl10 rfl (by kernel_rfl) (by kernel_rfl) (by kernel_rfl) (fun _ _ _ h => h) (by rfl) (by assumption) ?_
              (try simp only [Act.put, nwAl10, List.setIfInBounds_toArray, List.set_cons_zero, List.set_cons_succ])
              refine tkU 11 nwAl11 rfl (by kernel_rfl) (by kernel_rfl) (by kernel_rfl) (fun _ _ _ h => h) (by rfl) (by assumption) ?_
              (try simp only [Act.put, nwAl11, List.setIfInBounds_toArray, List.set_cons_zero, List.set_cons_succ])
              refine tkU 12 nwAl12 rfl (by kernel_rfl) (by kernel_rfl) (by kernel_rfl) (fun _ _ _ h => h) (by rfl) (by assumption) ?_
              (try simp only [Act.put, nwAl12, List.setIfInBounds_toArray, List.set_cons_zero, List.set_cons_succ])
              refine tkU 13 nwAl13 rfl (by kernel_rfl) (by kernel_rfl) (by kernel_rfl) (fun _ _ _ h => h) (by rfl) (by assumption) ?_
              (try simp only [Act.put, nwAl13, List.setIfInBounds_toArray, List.set_cons_zero, List.set_cons_succ])
              refine tkU 14 nwAl14 rfl (by kernel_rfl) (by kernel_rfl) (by kernel_rfl) (fun _ _ _ h => h) (by rfl) (by assumption) ?_
              (try simp only [Act.put, nwAl14, List.setIfInBounds_toArray, List.set_cons_zero, List.set_cons_succ])
              refine tkU 15 nwAl15 rfl (by kernel_rfl) (by kernel_rfl) (by kernel_rfl) (fun _ _ _ h => h) (by rfl) (by assumption) ?_
              (try simp only [Act.put, nwAl15, List.setIfInBounds_toArray, List.set_cons_zero, List.set_cons_succ])
              refine tkU 16 nwAl16 rfl (by kernel_rfl) (by kernel_rfl) (by kernel_rfl) (fun _ _ _ h => h) (by rfl) (by assumption) ?_
              (try simp only [Act.put, nwAl16, List.setIfInBounds_toArray, List.set_cons_zero, List.set_cons_succ])
              refine tkU 17 nwAl17 rfl (by kernel_rfl) (by kernel_rfl) (by kernel_rfl) (fun _ _ _ h => h) (by rfl) (by assumption) ?_
              (try simp only [Act.put, nwAl17, List.setIfInBounds_toArray, List.set_cons_zero, List.set_cons_succ])
              refine tkU 18 nwAl18 rfl (by kernel_rfl) (by kernel_rfl) (by kernel_rfl) (fun _ _ _ h => h) (by rfl) (by assumption) ?_
              (try simp only [Act.put, nwAl18, List.setIfInBounds_toArray, List.set_cons_zero, List.set_cons_succ])
              refine tkU 19 nwAl19 rfl (by kernel_rfl) (by kernel_rfl) (by kernel_rfl) (fun _ _ _ h => h) (by rfl) (by assumption) ?_
              (try simp only [Act.put, nwAl19, List.setIfInBounds_toArray, List.set_cons_zero, List.set_cons_succ])
              refine tkU 20 nwAl20 rfl (by kernel_rfl) (by kernel_rfl) (by kernel_rfl) (fun _ _ _ h => h) (by rfl) (by assumption) ?_
              (try simp only [Act.put, nwAl20, List.setIfInBounds_toArray, List.set_cons_zero, List.set_cons_succ])
              refine tkU 21 nwAl21 rfl (by kernel_rfl) (by kernel_rfl) (by kernel_rfl) (fun _ _ _ h => h) (by rfl) (by assumption) ?_
              (try simp only [Act.put, nwAl21, List.setIfInBounds_toArray, List.set_cons_zero, List.set_cons_succ])
              refine tkU 22 nwAl22 rfl (by kernel_rfl) (by kernel_rfl) (by kernel_rfl) (fun _ _ _ h => h) (by rfl) (by assumption) ?_
              (try simp only [Act.put, nwAl22, List.setIfInBounds_toArray, List.set_cons_zero, List.set_cons_succ])
              refine tkU 23 nwAl23 rfl (by kernel_rfl) (by kernel_rfl) (by kernel_rfl) (fun _ _ _ h => h) (by rfl) (by assumption) ?_
              (try simp only [Act.put, nwAl23, List.setIfInBounds_toArray, List.set_cons_zero, List.set_cons_succ])
              refine tkU 24 nwAl24 rfl (by kernel_rfl) (by kernel_rfl) (by kernel_rfl) (fun _ _ _ h => h) (by rfl) (by assumption) ?_
              (try simp only [Act.put, nwAl24, List.setIfInBounds_toArray, List.set_cons_zero, List.set_cons_succ])
              refine tkU 25 nwAl25 rfl (by kernel_rfl) (by kernel_rfl) (by kernel_rfl) (fun _ _ _ h => h) (by rfl) (by assumption) ?_
              (try simp only [Act.put, nwAl25, List.setIfInBounds_toArray, List.set_cons_zero, List.set_cons_succ])
              refine tkW (v := ?_) 26 nwAl26 rfl (by kernel_rfl) (by kernel_rfl) (by kernel_rfl) (fun _ _ _ h => h) (by rfl) ?_ (by assumption) ?_
              rotate_left
              · intro w hSw; (try dsimp only at hSw); go_simp; (try with_reducible rfl)
              (try simp only [Act.put, nwAl26, List.setIfInBounds_toArray, List.set_cons_zero, List.set_cons_succ])
              refine tkW (v := ?_) 27 nwAl27 rfl (by kernel_rfl) (by kernel_rfl) (by kernel_rfl) (fun _ _ _ h => h) (by rfl) ?_ (by assumption) ?_
              rotate_left
              · intro w hSw; (try dsimp only at hSw); go_simp; (try with_reducible rfl)
              (try simp only [Act.put, nwAl27, List.setIfInBounds_toArray, List.set_cons_zero, List.set_cons_succ])
              refine wpAnyH_done (by kernel_rfl) ?_ _
              go_wp2
              go_roundw
              case rel => exact ⟨j + 1, by omega, by rw [N2.out], by go_num, Lib.hid (JJ.out.trans (by first | assumption | exact Kp.drew _))⟩
              case measure => simp [intOf]; omega
            | false =>
              by_cases c1 : qs ≤ ps
              · have u1 : decide (qs ≤ ps) = true := decide_eq_true c1
                have N2 := Lib.hid (show C (ps, pt) (j + 1) = decide (pt ≤ qt) by rw [HN.out, hE, u1]; rfl)
                clear hE HN HP c1
                go_upto_region 17 with fail
                refine wp_region_held_drew (S := fun w' => w'.cell? ⟨bp, op + i * 2, none⟩ = some (.int .i64 ps) ∧ w'.cell? ⟨bp, op + i * 2 + 1, none⟩ = some (.int .i64 pt) ∧ w'.cell? ⟨bq, oq + j * 2, none⟩ = some (.int .i64 qs) ∧ w'.cell? ⟨bq, oq + j * 2 + 1, none⟩ = some (.int .i64 qt) ∧ Kp wi w') (by kernel_rfl) ?_ (fun hHeld0 => ?_)
                · (try dsimp only); exact KS.out _ (by first | with_reducible exact k00 | ((repeat (first | with_reducible refine Kp.trans ?_ (Kp.drew _) | with_reducible refine Kp.trans ?_ (Kp.alloc _ _))); with_reducible exact k00))
                refine tkW (v := ?_) 0 nwAl0 rfl (by kernel_rfl) (by kernel_rfl) (by kernel_rfl) (fun _ _ _ h => h) (by rfl) ?_ (by assumption) ?_
                rotate_left
                · intro w hSw; (try dsimp only at hSw); go_simp; (try with_reducible rfl)
                (try simp only [Act.put, nwAl0, List.setIfInBounds_toArray, List.set_cons_zero, List.set_cons_succ])
                refine tkW (v := ?_) 1 nwAl1 rfl (by kernel_rfl) (by kernel_rfl) (by kernel_rfl) (fun _ _ _ h => h) (by rfl) ?_ (by assumption) ?_
                rotate_left
                · intro w hSw; (try dsimp only at hSw); go_simp; (try with_reducible rfl)
                (try simp only [Act.put, nwAl1, List.setIfInBounds_toArray, List.set_cons_zero, List.set_cons_succ])
                refine tkW (v := ?_) 2 nwAl2 rfl (by kernel_rfl) (by kernel_rfl) (by kernel_rfl) (fun _ _ _ h => h) (by rfl) ?_ (by assumption) ?_
                rotate_left
                · intro w hSw; (try dsimp only at hSw); go_simp; (try with_reducible rfl)
                (try simp only [Act.put, nwAl2, List.setIfInBounds_toArray, List.set_cons_zero, List.set_cons_succ])
                refine tkW (v := ?_) 3 nwAl3 rfl (by kernel_rfl) (by kernel_rfl) (by kernel_rfl) (fun _ _ _ h => h) (by rfl) ?_ (by assumption) ?_
                rotate_left
                · intro w hSw; (try dsimp only at hSw); go_simp; (try with_reducible rfl)
                (try simp only [Act.put, nwAl3, List.setIfInBounds_toArray, List.set_cons_zero, List.set_cons_succ])
                refine tkW (v := ?_) 4 nwAl4 rfl (by kernel_rfl) (by kernel_rfl) (by kernel_rfl) (fun _ _ _ h => h) (by rfl) ?_ (by assumption) ?_
                rotate_left
                · intro w hSw; (try dsimp only at hSw); go_simp; (try with_reducible rfl)
                (try simp only [Act.put, nwAl4, List.setIfInBounds_toArray, List.set_cons_zero, List.set_cons_succ])
                refine tkW (v := ?_) 5 nwAl5 rfl (by kernel_rfl) (by kernel_rfl) (by kernel_rfl) (fun _ _ _ h => h) (by rfl) ?_ (by assumption) ?_
                rotate_left
                · intro w hSw; (try dsimp only at hSw); go_simp; (try with_reducible rfl)
                (try simp only [Act.put, nwAl5, List.setIfInBounds_toArray, List.set_cons_zero, List.set_cons_succ])
                refine tkW (v := ?_) 6 nwAl6 rfl (by kernel_rfl) (by kernel_rfl) (by kernel_rfl) (fun _ _ _ h => h) (by rfl) ?_ (by assumption) ?_
                rotate_left
                · intro w hSw; (try dsimp only at hSw); go_simp; (try with_reducible rfl)
                (try simp only [Act.put, nwAl6, List.setIfInBounds_toArray, List.set_cons_zero, List.set_cons_succ])
                refine tkW (v := ?_) 7 nwAl7 rfl (by kernel_rfl) (by kernel_rfl) (by kernel_rfl) (fun _ _ _ h => h) (by rfl) ?_ (by assumption) ?_
                rotate_left
                · intro w hSw; (try dsimp only at hSw); go_simp; (try with_reducible rfl)
                (try simp only [Act.put, nwAl7, List.setIfInBounds_toArray, List.set_cons_zero, List.set_cons_succ])
                refine tkW (v := ?_) 8 nwAl8 rfl (by kernel_rfl) (by kernel_rfl) (by kernel_rfl) (fun _ _ _ h => h) (by rfl) ?_ (by assumption) ?_
                rotate_left
                · intro w hSw; (try dsimp only at hSw); go_simp; (try with_reducible rfl)
                (try simp only [Act.put, nwAl8, List.setIfInBounds_toArray, List.set_cons_zero, List.set_cons_succ])
                refine tkW (v := ?_) 9 nwAl9 rfl (by kernel_rfl) (by kernel_rfl) (by kernel_rfl) (fun _ _ _ h => h) (by rfl) ?_ (by assumption) ?_
                rotate_left
                · intro w hSw; (try dsimp only at hSw); go_simp; (try with_reducible rfl)
                (try simp only [Act.put, nwAl9, List.setIfInBounds_toArray, List.set_cons_zero, List.set_cons_succ])
                refine tkW (v := ?_) 10 nwAl10 rfl (by kernel_rfl) (by kernel_rfl) (by kernel_rfl) (fun _ _ _ h => h) (by rfl) ?_ (by assumption) ?_
                rotate_left
                · intro w hSw; (try dsimp only at hSw); go_simp; (try with_reducible rfl)
                (try simp only [Act.put, nwAl10, List.setIfInBounds_toArray, List.set_cons_zero, List.set_cons_succ])
                refine tkW (v := ?_) 11 nwAl11 rfl (by kernel_rfl) (by kernel_rfl) (by kernel_rfl) (fun _ _ _ h => h) (by rfl) ?_ (by assumption) ?_
                rotate_left
                · intro w hSw; (try dsimp only at hSw); go_simp; (try with_reducible rfl)
                (try simp only [Act.put, nwAl11, List.setIfInBounds_toArray, List.set_cons_zero, List.set_cons_succ])
                refine tkW (v := ?_) 12 nwAl12 rfl (by kernel_rfl) (by kernel_rfl) (by kernel_rfl) (fun _ _ _ h => h) (by rfl) ?_ (by assumption) ?_
                rotate_left
                · intro w hSw; (try dsimp only at hSw); go_simp; (try with_reducible rfl)
                (try simp only [Act.put, nwAl12, List.setIfInBounds_toArray, List.set_cons_zero, List.set_cons_succ])
                refine tkW (v := ?_) 13 nwAl13 rfl (by kernel_rfl) (by kernel_rfl) (by kernel_rfl) (fun _ _ _ h => h) (by rfl) ?_ (by assumption) ?_
                rotate_left
                · intro w hSw; (try dsimp only at hSw); go_simp; (try with_reducible rfl)
                (try simp only [Act.put, nwAl13, List.setIfInBounds_toArray, List.set_cons_zero, List.set_cons_succ])
                refine tkW (v := ?_) 14 nwAl14 rfl (by kernel_rfl) (by kernel_rfl) (by kernel_rfl) (fun _ _ _ h => h) (by rfl) ?_ (by assumption) ?_
                rotate_left
                · intro w hSw; (try dsimp only at hSw); go_simp; (try with_reducible rfl)
                (try simp only [Act.put, nwAl14, List.setIfInBounds_toArray, List.set_cons_zero, List.set_cons_succ])
                refine tkW (v := ?_) 15 nwAl15 rfl (by kernel_rfl) (by kernel_rfl) (by kernel_rfl) (fun _ _ _ h => h) (by rfl) ?_ (by assumption) ?_
                rotate_left
                · intro w hSw; (try dsimp only at hSw); go_simp; (try with_reducible rfl)
                (try simp only [Act.put, nwAl15, List.setIfInBounds_toArray, List.set_cons_zero, List.set_cons_succ])
                refine tkW (v := ?_) 16 nwAl16 rfl (by kernel_rfl) (by kernel_rfl) (by kernel_rfl) (fun _ _ _ h => h) (by rfl) ?_ (by assumption) ?_
                rotate_left
                · intro w hSw; (try dsimp only at hSw); go_simp; (try with_reducible rfl)
                (try simp only [Act.put, nwAl16, List.setIfInBounds_toArray, List.set_cons_zero, List.set_cons_succ])
                refine tkW (v := ?_) 17 nwAl17 rfl (by kernel_rfl) (by kernel_rfl) (by kernel_rfl) (fun _ _ _ h => h) (by rfl) ?_ (by assumption) ?_
                rotate_left
                · intro w hSw; (try dsimp only at hSw); go_simp; (try with_reducible rfl)
                (try simp only [Act.put, nwAl17, List.setIfInBounds_toArray, List.set_cons_zero, List.set_cons_succ])
                refine tkW (v := ?_) 18 nwAl18 rfl (by kernel_rfl) (by kernel_rfl) (by kernel_rfl) (fun _ _ _ h => h) (by rfl) ?_ (by assumption) ?_
                rotate_left
                · intro w hSw; (try dsimp only at hSw); go_simp; (try with_reducible rfl)
                (try simp only [Act.put, nwAl18, List.setIfInBounds_toArray, List.set_cons_zero, List.set_cons_succ])
                refine tkW (v := ?_) 19 nwAl19 rfl (by kernel_rfl) (by kernel_rfl) (by kernel_rfl) (fun _ _ _ h => h) (by rfl) ?_ (by assumption) ?_
                rotate_left
                · intro w hSw; (try dsimp only at hSw); go_simp; (try with_reducible rfl)
                (try simp only [Act.put, nwAl19, List.setIfInBounds_toArray, List.set_cons_zero, List.set_cons_succ])
                refine tkW (v := ?_) 20 nwAl20 rfl (by kernel_rfl) (by kernel_rfl) (by kernel_rfl) (fun _ _ _ h => h) (by rfl) ?_ (by assumption) ?_
                rotate_left
                · intro w hSw; (try dsimp only at hSw); go_simp; (try with_reducible rfl)
                (try simp only [Act.put, nwAl20, List.setIfInBounds_toArray, List.set_cons_zero, List.set_cons_succ])
                refine tkW (v := ?_) 21 nwAl21 rfl (by kernel_rfl) (by kernel_rfl) (by kernel_rfl) (fun _ _ _ h => h) (by rfl) ?_ (by assumption) ?_
                rotate_left
                · intro w hSw; (try dsimp only at hSw); go_simp; (try with_reducible rfl)
                (try simp only [Act.put, nwAl21, List.setIfInBounds_toArray, List.set_cons_zero, List.set_cons_succ])
                refine tkW (v := ?_) 22 nwAl22 rfl (by kernel_rfl) (by kernel_rfl) (by kernel_rfl) (fun _ _ _ h => h) (by rfl) ?_ (by assumption) ?_
                rotate_left
                · intro w hSw; (try dsimp only at hSw); go_simp; (try with_reducible rfl)
                (try simp only [Act.put, nwAl22, List.setIfInBounds_toArray, List.set_cons_zero, List.set_cons_succ])
                refine tkW (v := ?_) 23 nwAl23 rfl (by kernel_rfl) (by kernel_rfl) (by kernel_rfl) (fun _ _ _ h => h) (by rfl) ?_ (by assumption) ?_
                rotate_left
                · intro w hSw; (try dsimp only at hSw); go_simp; (try with_reducible rfl)
                (try simp only [Act.put, nwAl23, List.setIfInBounds_toArray, List.set_cons_zero, List.set_cons_succ])
                refine tkW (v := ?_) 24 nwAl24 rfl (by kernel_rfl) (by kernel_rfl) (by kernel_rfl) (fun _ _ _ h => h) (by rfl) ?_ (by assumption) ?_
                rotate_left
                · intro w hSw; (try dsimp only at hSw); go_simp; (try with_reducible rfl)
                (try simp only [Act.put, nwAl24, List.setIfInBounds_toArray, List.set_cons_zero, List.set_cons_succ])
                refine tkW (v := ?_) 25 nwAl25 rfl (by kernel_rfl) (by kernel_rfl) (by kernel_rfl) (fun _ _ _ h => h) (by rfl) ?_ (by assumption) ?_
                rotate_left
                · intro w hSw; (try dsimp only at hSw); go_simp; (try with_reducible rfl)
                (try simp only [Act.put, nwAl25, List.setIfInBounds_toArray, List.set_cons_zero, List.set_cons_succ])
                refine tkW (v := ?_) 26 nwAl26 rfl (by kernel_rfl) (by kernel_rfl) (by kernel_rfl) (fun _ _ _ h => h) (by rfl) ?_ (by assumption) ?_
                rotate_left
                · intro w hSw; (try dsimp only at hSw); go_simp; (try with_reducible rfl)
                (try simp only [Act.put, nwAl26, List.setIfInBounds_toArray, List.set_cons_zero, List.set_cons_succ])
                refine tkW (v := ?_) 27 nwAl27 rfl (by kernel_rfl) (by kernel_rfl) (by kernel_rfl) (fun _ _ _ h => h) (by rfl) ?_ (by assumption) ?_
                rotate_left
                · intro w hSw; (try dsimp only at hSw); go_simp; (try with_reducible rfl)
                (try simp only [Act.put, nwAl27, List.setIfInBounds_toArray, List.set_cons_zero, List.set_cons_succ])
                refine wpAnyH_done (by kernel_rfl) ?_ _
                go_wp2
                go_roundw
                case rel => exact ⟨j + 1, by omega, by rw [N2.out], by go_num, Lib.hid (JJ.out.trans (by first | assumption | exact Kp.drew _))⟩
                case measure => simp [intOf]; omega
              · have u1 : decide (qs ≤ ps) = false := decide_eq_false c1
                have N2 := Lib.hid (show C (ps, pt) (j + 1) = false by rw [HN.out, hE, u1]; rfl)
                clear hE HN HP c1
                go_upto_region 17 with fail
                refine wp_region_held_drew (S := fun w' => w'.cell? ⟨bp, op + i * 2, none⟩ = some (.int .i64 ps) ∧ w'.cell? ⟨bp, op + i * 2 + 1, none⟩ = some (.int .i64 pt) ∧ w'.cell? ⟨bq, oq + j * 2, none⟩ = some (.int .i64 qs) ∧ w'.cell? ⟨bq, oq + j * 2 + 1, none⟩ = some (.int .i64 qt) ∧ Kp wi w') (by kernel_rfl) ?_ (fun hHeld0 => ?_)
                · (try dsimp only); exact KS.out _ (by first | with_reducible exact k00 | ((repeat (first | with_reducible refine Kp.trans ?_ (Kp.drew _) | with_reducible refine Kp.trans ?_ (Kp.alloc _ _))); with_reducible exact k00))
                refine tkW (v := ?_) 0 nwAl0 rfl (by kernel_rfl) (by kernel_rfl) (by kernel_rfl) (fun _ _ _ h => h) (by rfl) ?_ (by assumption) ?_
                rotate_left
                · intro w hSw; (try dsimp only at hSw); go_simp; (try with_reducible rfl)
                (try simp only [Act.put, nwAl0, List.setIfInBounds_toArray, List.set_cons_zero, List.set_cons_succ])
                refine tkW (v := ?_) 1 nwAl1 rfl (by kernel_rfl) (by kernel_rfl) (by kernel_rfl) (fun _ _ _ h => h) (by rfl) ?_ (by assumption) ?_
                rotate_left
                · intro w hSw; (try dsimp only at hSw); go_simp; (try with_reducible rfl)
                (try simp only [Act.put, nwAl1, List.setIfInBounds_toArray, List.set_cons_zero, List.set_cons_succ])
                refine tkW (v := ?_) 2 nwAl2 rfl (by kernel_rfl) (by kernel_rfl) (by kernel_rfl) (fun _ _ _ h => h) (by rfl) ?_ (by assumption) ?_
                rotate_left
                · intro w hSw; (try dsimp only at hSw); go_simp; (try with_reducible rfl)
                (try simp only [Act.put, nwAl2, List.setIfInBounds_toArray, List.set_cons_zero, List.set_cons_succ])
                refine tkW (v := ?_) 3 nwAl3 rfl (by kernel_rfl) (by kernel_rfl) (by kernel_rfl) (fun _ _ _ h => h) (by rfl) ?_ (by assumption) ?_
                rotate_left
                · intro w hSw; (try dsimp only at hSw); go_simp; (try with_reducible rfl)
                (try simp only [Act.put, nwAl3, List.setIfInBounds_toArray, List.set_cons_zero, List.set_cons_succ])
                refine tkW (v := ?_) 4 nwAl4 rfl (by kernel_rfl) (by kernel_rfl) (by kernel_rfl) (fun _ _ _ h => h) (by rfl) ?_ (by assumption) ?_
                rotate_left
                · intro w hSw; (try dsimp only at hSw); go_simp; (try with_reducible rfl)
                (try simp only [Act.put, nwAl4, List.setIfInBounds_toArray, List.set_cons_zero, List.set_cons_succ])
                refine tkW (v := ?_) 5 nwAl5 rfl (by kernel_rfl) (by kernel_rfl) (by kernel_rfl) (fun _ _ _ h => h) (by rfl) ?_ (by assumption) ?_
                rotate_left
                · intro w hSw; (try dsimp only at hSw); go_simp; (try with_reducible rfl)
                (try simp only [Act.put, nwAl5, List.setIfInBounds_toArray, List.set_cons_zero, List.set_cons_succ])
                refine tkW (v := ?_) 6 nwAl6 rfl (by kernel_rfl) (by kernel_rfl) (by kernel_rfl) (fun _ _ _ h => h) (by rfl) ?_ (by assumption) ?_
                rotate_left
                · intro w hSw; (try dsimp only at hSw); go_simp; (try with_reducible rfl)
                (try simp only [Act.put, nwAl6, List.setIfInBounds_toArray, List.set_cons_zero, List.set_cons_succ])
                refine tkW (v := ?_) 7 nwAl7 rfl (by kernel_rfl) (by kernel_rfl) (by kernel_rfl) (fun _ _ _ h => h) (by rfl) ?_ (by assumption) ?_
                rotate_left
                · intro w hSw; (try dsimp only at hSw); go_simp; (try with_reducible rfl)
                (try simp only [Act.put, nwAl7, List.setIfInBounds_toArray, List.set_cons_zero, List.set_cons_succ])
                refine tkW (v := ?_) 8 nwAl8 rfl (by kernel_rfl) (by kernel_rfl) (by kernel_rfl) (fun _ _ _ h => h) (by rfl) ?_ (by assumption) ?_
                rotate_left
                · intro w hSw; (try dsimp only at hSw); go_simp; (try with_reducible rfl)
                (try simp only [Act.put, nwAl8, List.setIfInBounds_toArray, List.set_cons_zero, List.set_cons_succ])
                refine tkW (v := ?_) 9 nwAl9 rfl (by kernel_rfl) (by kernel_rfl) (by kernel_rfl) (fun _ _ _ h => h) (by rfl) ?_ (by assumption) ?_
                rotate_left
                · intro w hSw; (try dsimp only at hSw); go_simp; (try with_reducible rfl)
                (try simp only [Act.put, nwAl9, List.setIfInBounds_toArray, List.set_cons_zero, List.set_cons_succ])
                refine tkW (v := ?_) 10 nwAl10 rfl (by kernel_rfl) (by kernel_rfl) (by kernel_rfl) (fun _ _ _ h => h) (by rfl) ?_ (by assumption) ?_
                rotate_left
                · intro w hSw; (try dsimp only at hSw); go_simp; (try with_reducible rfl)
                (try simp only [Act.put, nwAl10, List.setIfInBounds_toArray, List.set_cons_zero, List.set_cons_succ])
                refine tkW (v := ?_) 11 nwAl11 rfl (by kernel_rfl) (by kernel_rfl) (by kernel_rfl) (fun _ _ _ h => h) (by rfl) ?_ (by assumption) ?_
                rotate_left
                · intro w hSw; (try dsimp only at hSw); go_simp; (try with_reducible rfl)
                (try simp only [Act.put, nwAl11, List.setIfInBounds_toArray, List.set_cons_zero, List.set_cons_succ])
                refine tkW (v := ?_) 12 nwAl12 rfl (by kernel_rfl) (by kernel_rfl) (by kernel_rfl) (fun _ _ _ h => h) (by rfl) ?_ (by assumption) ?_
                rotate_left
                · intro w hSw; (try dsimp only at hSw); go_simp; (try with_reducible rfl)
                (try simp only [Act.put, nwAl12, List.setIfInBounds_toArray, List.set_cons_zero, List.set_cons_succ])
                refine tkW (v := ?_) 13 nwAl13 rfl (by kernel_rfl) (by kernel_rfl) (by kernel_rfl) (fun _ _ _ h => h) (by rfl) ?_ (by assumption) ?_
                rotate_left
                · intro w hSw; (try dsimp only at hSw); go_simp; (try with_reducible rfl)
                (try simp only [Act.put, nwAl13, List.setIfInBounds_toArray, List.set_cons_zero, List.set_cons_succ])
                refine tkU 14 nwAl14 rfl (by kernel_rfl) (by kernel_rfl) (by kernel_rfl) (fun _ _ _ h => h) (by rfl) (by assumption) ?_
                (try simp only [Act.put, nwAl14, List.setIfInBounds_toArray, List.set_cons_zero, List.set_cons_succ])
                refine tkU 15 nwAl15 rfl (by kernel_rfl) (by kernel_rfl) (by kernel_rfl) (fun _ _ _ h => h) (by rfl) (by assumption) ?_
                (try simp only [Act.put, nwAl15, List.setIfInBounds_toArray, List.set_cons_zero, List.set_cons_succ])
                refine tkU 16 nwAl16 rfl (by kernel_rfl) (by kernel_rfl) (by kernel_rfl) (fun _ _ _ h => h) (by rfl) (by assumption) ?_
                (try simp only [Act.put, nwAl16, List.setIfInBounds_toArray, List.set_cons_zero, List.set_cons_succ])
                refine tkU 17 nwAl17 rfl (by kernel_rfl) (by kernel_rfl) (by kernel_rfl) (fun _ _ _ h => h) (by rfl) (by assumption) ?_
                (try simp only [Act.put, nwAl17, List.setIfInBounds_toArray, List.set_cons_zero, List.set_cons_succ])
                refine tkU 18 nwAl18 rfl (by kernel_rfl) (by kernel_rfl) (by kernel_rfl) (fun _ _ _ h => h) (by rfl) (by assumption) ?_
                (try simp only [Act.put, nwAl18, List.setIfInBounds_toArray, List.set_cons_zero, List.set_cons_succ])
                refine tkU 19 nwAl19 rfl (by kernel_rfl) (by kernel_rfl) (by kernel_rfl) (fun _ _ _ h => h) (by rfl) (by assumption) ?_
                (try simp only [Act.put, nwAl19, List.setIfInBounds_toArray, List.set_cons_zero, List.set_cons_succ])
                refine tkU 20 nwAl20 rfl (by kernel_rfl) (by kernel_rfl) (by kernel_rfl) (fun _ _ _ h => h) (by rfl) (by assumption) ?_
                (try simp only [Act.put, nwAl20, List.setIfInBounds_toArray, List.set_cons_zero, List.set_cons_succ])
                refine tkU 21 nwAl21 rfl (by kernel_rfl) (by kernel_rfl) (by kernel_rfl) (fun _ _ _ h => h) (by rfl) (by assumption) ?_
                (try simp only [Act.put, nwAl21, List.setIfInBounds_toArray, List.set_cons_zero, List.set_cons_succ])
                refine tkU 22 nwAl22 rfl (by kernel_rfl) (by kernel_rfl) (by kernel_rfl) (fun _ _ _ h => h) (by rfl) (by assumption) ?_
                (try simp only [Act.put, nwAl22, List.setIfInBounds_toArray, List.set_cons_zero, List.set_cons_succ])
                refine tkU 23 nwAl23 rfl (by kernel_rfl) (by kernel_rfl) (by kernel_rfl) (fun _ _ _ h => h) (by rfl) (by assumption) ?_
                (try simp only [Act.put, nwAl23, List.setIfInBounds_toArray, List.set_cons_zero, List.set_cons_succ])
                refine tkU 24 nwAl24 rfl (by kernel_rfl) (by kernel_rfl) (by kernel_rfl) (fun _ _ _ h => h) (by rfl) (by assumption) ?_
                (try simp only [Act.put, nwAl24, List.setIfInBounds_toArray, List.set_cons_zero, List.set_cons_succ])
                refine tkW (v := ?_) 25 nwAl25 rfl (by kernel_rfl) (by kernel_rfl) (by kernel_rfl) (fun _ _ _ h => h) (by rfl) ?_ (by assumption) ?_
                rotate_left
                · intro w hSw; (try dsimp only at hSw); go_simp; (try with_reducible rfl)
                (try simp only [Act.put, nwAl25, List.setIfInBounds_toArray, List.set_cons_zero, List.set_cons_succ])
                refine tkW (v := ?_) 26 nwAl26 rfl (by kernel_rfl) (by kernel_rfl) (by kernel_rfl) (fun _ _ _ h => h) (by rfl) ?_ (by assumption) ?_
                rotate_left
                · intro w hSw; (try dsimp only at hSw); go_simp; (try with_reducible rfl)
                (try simp only [Act.put, nwAl26, List.setIfInBounds_toArray, List.set_cons_zero, List.set_cons_succ])
                refine tkW (v := ?_) 27 nwAl27 rfl (by kernel_rfl) (by kernel_rfl) (by kernel_rfl) (fun _ _ _ h => h) (by rfl) ?_ (by assumption) ?_
                rotate_left
                · intro w hSw; (try dsimp only at hSw); go_simp; (try with_reducible rfl)
                (try simp only [Act.put, nwAl27, List.setIfInBounds_toArray, List.set_cons_zero, List.set_cons_succ])
                refine wpAnyH_done (by kernel_rfl) ?_ _
                go_wp2
                go_roundw
                case rel => exact ⟨j + 1, by omega, by rw [N2.out], by go_num, Lib.hid (JJ.out.trans (by first | assumption | exact Kp.drew _))⟩
                case measure => simp [intOf]; omega
          · have q2 : decide ((j : Int) < (Q.length : Int)) = false := decide_eq_false (by omega)
            have q2n : decide (j < Q.length) = false := decide_eq_false hlq
            obtain rfl : j = Q.length := by omega
            rcases RA6.out.kp (J.out.trans JJ.out) with ⟨_, _, _, e⟩ | ⟨bp, op, cpp, ev, hc, hmx, hx⟩
            · rw [e] at hlt; simp at hlt
            cases ev
            obtain ⟨d1, d2⟩ := hx i hlt
            obtain ⟨v1, v2, v3⟩ := OKP.out i hlt
            have AX := AN.out i hlt
            have CX := CZ.out (at_ P i) v1
            obtain ⟨p, hp⟩ : ∃ p, at_ P i = p := ⟨_, rfl⟩
            rw [hp] at d1 d2 v1 v2 v3 AX CX
            rw [hp]
            obtain ⟨ps, pt⟩ := p
            simp only at d1 d2 v1 v2 v3 AX CX
            have CI := INr.out ps pt
            rw [CX]
            generalize inB m ps pt = c2 at *
            have e1 : (c2 != c2) = false := by simp
            have CI := Lib.hid (fun w' (kk : Kp wi w') => CI w' (J.out.trans (JJ.out.trans kk)) (by omega) (by omega) (by omega) (by omega))
            have K2 := Lib.hid (J.out.trans JJ.out)
            have DD := Lib.hid (fun w' (kq : Kp wi w') => (show w'.cell? ⟨bp, op + i * 2, none⟩ = some (.int .i64 ps) ∧ w'.cell? ⟨bp, op + i * 2 + 1, none⟩ = some (.int .i64 pt) from ⟨cell_up kq d1, cell_up kq d2⟩))
            have AY := Lib.hid AX
            have KI := Lib.hid (Kp.refl wi)
            clear hx hc hmx CX AX hp hlq v1 v2 v3
            cases hA : A i with
            | true =>
              have N2 := Lib.hid (show A (i + 1) = true by rw [AY.out, hA]; rfl)
              clear hA AY
              go_wp2_with fail
              refine (CI.out _ (by first | with_reducible exact Kp.refl _ | with_reducible exact Kp.alloc _ _ | with_reducible exact (Kp.alloc _ _).trans (Kp.alloc _ _) | with_reducible exact ((Kp.alloc _ _).trans (Kp.alloc _ _)).trans (Kp.alloc _ _) | with_reducible exact Kp.drew _ | with_reducible exact Kp.drewN _ _)).mono ?_
              rintro e w7 ⟨rfl, k7⟩
              have K7 := Lib.hid ((show Kp wi _ from (by first | with_reducible exact Kp.refl _ | with_reducible exact Kp.alloc _ _ | with_reducible exact (Kp.alloc _ _).trans (Kp.alloc _ _) | with_reducible exact ((Kp.alloc _ _).trans (Kp.alloc _ _)).trans (Kp.alloc _ _) | with_reducible exact Kp.drew _ | with_reducible exact Kp.drewN _ _)).trans k7)
              clear k7 d1 d2
              obtain ⟨d1, d2⟩ := DD.out w7 K7.out
              have K8 := Lib.hid K7.out
              go_wp2
              go_roundw
              case rel => exact ⟨i + 1, by omega, by rw [N2.out], by go_num, Lib.hid (K2.out.trans (K8.out.trans (by first | with_reducible exact Kp.refl _ | with_reducible exact Kp.alloc _ _ | with_reducible exact (Kp.alloc _ _).trans (Kp.alloc _ _) | with_reducible exact ((Kp.alloc _ _).trans (Kp.alloc _ _)).trans (Kp.alloc _ _) | with_reducible exact Kp.drew _ | with_reducible exact Kp.drewN _ _)))⟩
              case measure => have := HLT.out; simp [intOf]; omega
            | false =>
              have N2 := Lib.hid (show A (i + 1) = c2 by rw [AY.out, hA]; rfl)
              clear hA AY
              go_wp2_with fail
              refine (CI.out _ (by first | with_reducible exact Kp.refl _ | with_reducible exact Kp.alloc _ _ | with_reducible exact (Kp.alloc _ _).trans (Kp.alloc _ _) | with_reducible exact ((Kp.alloc _ _).trans (Kp.alloc _ _)).trans (Kp.alloc _ _) | with_reducible exact Kp.drew _ | with_reducible exact Kp.drewN _ _)).mono ?_
              rintro e w7 ⟨rfl, k7⟩
              have K7 := Lib.hid ((show Kp wi _ from (by first | with_reducible exact Kp.refl _ | with_reducible exact Kp.alloc _ _ | with_reducible exact (Kp.alloc _ _).trans (Kp.alloc _ _) | with_reducible exact ((Kp.alloc _ _).trans (Kp.alloc _ _)).trans (Kp.alloc _ _) | with_reducible exact Kp.drew _ | with_reducible exact Kp.drewN _ _)).trans k7)
              clear k7 d1 d2
              obtain ⟨d1, d2⟩ := DD.out w7 K7.out
              have K8 := Lib.hid K7.out
              go_wp2
              go_roundw
              case rel => exact ⟨i + 1, by omega, by rw [N2.out], by go_num, Lib.hid (K2.out.trans (K8.out.trans (by first | with_reducible exact Kp.refl _ | with_reducible exact Kp.alloc _ _ | with_reducible exact (Kp.alloc _ _).trans (Kp.alloc _ _) | with_reducible exact ((Kp.alloc _ _).trans (Kp.alloc _ _)).trans (Kp.alloc _ _) | with_reducible exact Kp.drew _ | with_reducible exact Kp.drewN _ _)))⟩
              case measure => have := HLT.out; simp [intOf]; omega
      · have q1 : decide ((i : Int) < (P.length : Int)) = false := decide_eq_false (by omega)
        have q1n : decide (i < P.length) = false := decide_eq_false hlt
        obtain rfl : i = P.length := by omega
        have hE := HA.out
        rw [hE]
        go_wp2
        go_ret
        exact ⟨rfl, K00.out.trans (K6.out.trans (J.out.trans (by first | with_reducible exact Kp.refl _ | with_reducible exact Kp.alloc _ _ | with_reducible exact (Kp.alloc _ _).trans (Kp.alloc _ _) | with_reducible exact ((Kp.alloc _ _).trans (Kp.alloc _ _)).trans (Kp.alloc _ _) | with_reducible exact Kp.drew _ | with_reducible exact Kp.drewN _ _)))⟩
  · have HA := Lib.hid hA
    clear hA HXr
    generalize L.length = yl at *
    go_wp2_with fail
    go_loopw [12, 13] (fun av iv wr => ∃ i : Nat, i ≤ P.length ∧ av = .bool (A i) ∧ iv = .int .i64 i ∧ Hid (Kp w6 wr)) (fun _ iv _ => P.length - (intOf iv).toNat)
    case atStart => exact ⟨0, Nat.zero_le _, by rw [A0.out], rfl, Lib.hid (Kp.refl _)⟩
    case round =>
      obtain ⟨i, hi, rfl, rfl, J⟩ := hrel
      obtain ⟨wo, hwo⟩ : ∃ x, x = wr := ⟨_, rfl⟩
      subst hwo
      by_cases hlt : i < P.length
      · have q1 : decide ((i : Int) < (P.length : Int)) = true := decide_eq_true (by omega)
        have q1n : decide (i < P.length) = true := decide_eq_true hlt
        have HLT := Lib.hid hlt
        go_wp2
        go_loopw [14, 15] (fun cv jv wr => ∃ j : Nat, j ≤ Q.length ∧ cv = .bool (C (at_ P i) j) ∧ jv = .int .i64 j ∧ Hid (Kp wo wr)) (fun _ jv _ => Q.length - (intOf jv).toNat)
        case atStart => exact ⟨0, Nat.zero_le _, by rw [C0.out], rfl, Lib.hid (Kp.refl _)⟩
        case round =>
          obtain ⟨j, hj, rfl, rfl, JJ⟩ := hrel
          obtain ⟨wi, hwi⟩ : ∃ x, x = wr := ⟨_, rfl⟩
          subst hwi
          have z1 : (0 : Int) ≤ (i : Int) := by omega
          have z3 : (i : Int) < (P.length : Int) := by omega
          by_cases hlq : j < Q.length
          · have q2 : decide ((j : Int) < (Q.length : Int)) = true := decide_eq_true (by omega)
            have q2n : decide (j < Q.length) = true := decide_eq_true hlq
            rcases RA6.out.kp (J.out.trans JJ.out) with ⟨_, _, _, e⟩ | ⟨bp, op, cpp, ev, hc, hmx, hx⟩
            · rw [e] at hlt; simp at hlt
            cases ev
            obtain ⟨d1, d2⟩ := hx i hlt
            rcases RB6.out.kp (J.out.trans JJ.out) with ⟨_, _, _, e⟩ | ⟨bq, oq, cqq, ev, hc2, hmx2, hx2⟩
            · rw [e] at hlq; simp at hlq
            cases ev
            obtain ⟨d3, d4⟩ := hx2 j hlq
            have NX := CN.out (at_ P i) j hlq
            obtain ⟨p, hp⟩ : ∃ p, at_ P i = p := ⟨_, rfl⟩
            obtain ⟨q, hq⟩ : ∃ q, at_ Q j = q := ⟨_, rfl⟩
            rw [hp] at d1 d2 NX
            rw [hq] at d3 d4 NX
            rw [hp]
            obtain ⟨ps, pt⟩ := p
            obtain ⟨qs, qt⟩ := q
            simp only at d1 d2 d3 d4 NX
            have z2 : (0 : Int) ≤ (j : Int) := by omega
            have z4 : (j : Int) < (Q.length : Int) := by omega
            have KS := Lib.hid (fun w' (kq : Kp wi w') => show w'.cell? ⟨bp, op + i * 2, none⟩ = some (.int .i64 ps) ∧ w'.cell? ⟨bp, op + i * 2 + 1, none⟩ = some (.int .i64 pt) ∧ w'.cell? ⟨bq, oq + j * 2, none⟩ = some (.int .i64 qs) ∧ w'.cell? ⟨bq, oq + j * 2 + 1, none⟩ = some (.int .i64 qt) ∧ Kp wi w' from ⟨cell_up kq d1, cell_up kq d2, cell_up kq d3, cell_up kq d4, kq⟩)
            have k00 : Kp wi wi := Kp.refl _
            have HP := Lib.hid hp
            have HN := Lib.hid NX
            clear hx hc hmx hx2 hc2 hmx2 d1 d2 d3 d4 hp hq NX
            cases hE : C (ps, pt) j with
            | true =>
              have N2 := Lib.hid (show C (ps, pt) (j + 1) = true by rw [HN.out, hE]; rfl)
              clear hE HN HP
              go_upto_region 17 with fail
              refine wp_region_held_drew (S := fun w' => w'.cell? ⟨bp, op + i * 2, none⟩ = some (.int .i64 ps) ∧ w'.cell? ⟨bp, op + i * 2 + 1, none⟩ = some (.int .i64 pt) ∧ w'.cell? ⟨bq, oq + j * 2, none⟩ = some (.int .i64 qs) ∧ w'.cell? ⟨bq, oq + j * 2 + 1, none⟩ = some (.int .i64 qt) ∧ Kp wi w') (by kernel_rfl) ?_ (fun hHeld0 => ?_)
              · (try dsimp only); exact KS.out _ (by first | with_reducible exact k00 | ((repeat (first | with_reducible refine Kp.trans ?_ (Kp.drew _) | with_reducible refine Kp.trans ?_ (Kp.alloc _ _))); with_reducible exact k00))
              refine tkW (v := ?_) 0 nwAl0 rfl (by kernel_rfl) (by kernel_rfl) (by kernel_rfl) (fun _ _ _ h => h) (by rfl) ?_ (by assumption) ?_
              rotate_left
              · intro w hSw; (try dsimp only at hSw); go_simp; (try with_reducible rfl)
              (try simp only [Act.put, nwAl0, List.setIfInBounds_toArray, List.set_cons_zero, List.set_cons_succ])
              refine tkW (v := ?_) 1 nwAl1 rfl (by kernel_rfl) (by kernel_rfl) (by kernel_rfl) (fun _ _ _ h => h) (by rfl) ?_ (by assumption) ?_
              rotate_left
              · intro w hSw; (try dsimp only at hSw); go_simp; (try with_reducible rfl)
              (try simp only [Act.put, nwAl1, List.setIfInBounds_toArray, List.set_cons_zero, List.set_cons_succ])
              refine tkU 2 nwAl2 rfl (by kernel_rfl) (by kernel_rfl) (by kernel_rfl) (fun _ _ _ h => h) (by rfl) (by assumption) ?_
              (try simp only [Act.put, nwAl2, List.setIfInBounds_toArray, List.set_cons_zero, List.set_cons_succ])
              refine tkU 3 nwAl3 rfl (by kernel_rfl) (by kernel_rfl) (by kernel_rfl) (fun _ _ _ h => h) (by rfl) (by assumption) ?_
              (try simp only [Act.put, nwAl3, List.setIfInBounds_toArray, List.set_cons_zero, List.set_cons_succ])
              refine tkU 4 nwAl4 rfl (by kernel_rfl) (by kernel_rfl) (by kernel_rfl) (fun _ _ _ h => h) (by rfl) (by assumption) ?_
              (try simp only [Act.put, nwAl4, List.setIfInBounds_toArray, List.set_cons_zero, List.set_cons_succ])
              refine tkU 5 nwAl5 rfl (by kernel_rfl) (by kernel_rfl) (by kernel_rfl) (fun _ _ _ h => h) (by rfl) (by assumption) ?_
              (try simp only [Act.put, nwAl5, List.setIfInBounds_toArray, List.set_cons_zero, List.set_cons_succ])
              refine tkU 6 nwAl6 rfl (by kernel_rfl) (by kernel_rfl) (by kernel_rfl) (fun _ _ _ h => h) (by rfl) (by assumption) ?_
              (try simp only [Act.put, nwAl6, List.setIfInBounds_toArray, List.set_cons_zero, List.set_cons_succ])
              refine tkU 7 nwAl7 rfl (by kernel_rfl) (by kernel_rfl) (by kernel_rfl) (fun _ _ _ h => h) (by rfl) (by assumption) ?_
              (try simp only [Act.put, nwAl7, List.setIfInBounds_toArray, List.set_cons_zero, List.set_cons_succ])
              refine tkU 8 nwAl8 rfl (by kernel_rfl) (by kernel_rfl) (by kernel_rfl) (fun _ _ _ h => h) (by rfl) (by assumption) ?_
              (try simp only [Act.put, nwAl8, List.setIfInBounds_toArray, List.set_cons_zero, List.set_cons_succ])
              refine tkU 9 nwAl9 rfl (by kernel_rfl) (by kernel_rfl) (by kernel_rfl) (fun _ _ _ h => h) (by rfl) (by assumption) ?_
              (try simp only [Act.put, nwAl9, List.setIfInBounds_toArray, List.set_cons_zero, List.set_cons_succ])
              refine tkU 10 nwAl10 rfl (by kernel_rfl) (by kernel_rfl) (by kernel_rfl) (fun _ _ _ h => h) (by rfl) (by assumption) ?_
              (try simp only [Act.put, nwAl10, List.setIfInBounds_toArray, List.set_cons_zero, List.set_cons_succ])
              refine tkU 11 nwAl11 rfl (by kernel_rfl) (by kernel_rfl) (by kernel_rfl) (fun _ _ _ h => h) (by rfl) (by assumption) ?_
              (try simp only [Act.put, nwAl11, List.setIfInBounds_toArray, List.set_cons_zero, List.set_cons_succ])
              refine tkU 12 nwAl12 rfl (by kernel_rfl) (by kernel_rfl) (by kernel_rfl) (fun _ _ _ h => h) (by rfl) (by assumption) ?_
              (try simp only [Act.put, nwAl12, List.setIfInBounds_toArray, List.set_cons_zero, List.set_cons_succ])
              refine tkU 13 nwAl13 rfl (by kernel_rfl) (by kernel_rfl) (by kernel_rfl) (fun _ _ _ h => h) (by rfl) (by assumption) ?_
              (try simp only [Act.put, nwAl13, List.setIfInBounds_toArray, List.set_cons_zero, List.set_cons_succ])
              refine tkU 14 nwAl14 rfl (by kernel_rfl) (by kernel_rfl) (by kernel_rfl) (fun _ _ _ h => h) (by rfl) (by assumption) ?_
              (try simp only [Act.put, nwAl14, List.setIfInBounds_toArray, List.set_cons_zero, List.set_cons_succ])
              refine tkU 15 nwAl15 rfl (by kernel_rfl) (by kernel_rfl) (by kernel_rfl) (fun _ _ _ h => h) (by rfl) (by assumption) ?_
              (try simp only [Act.put, nwAl15, List.setIfInBounds_toArray, List.set_cons_zero, List.set_cons_succ])
              refine tkU 16 nwAl16 rfl (by kernel_rfl) (by kernel_rfl) (by kernel_rfl) (fun _ _ _ h => h) (by rfl) (by assumption) ?_
              (try simp only [Act.put, nwAl16, List.setIfInBounds_toArray, List.set_cons_zero, List.set_cons_succ])
              refine tkU 17 nwAl17 rfl (by kernel_rfl) (by kernel_rfl) (by kernel_rfl) (fun _ _ _ h => h) (by rfl) (by assumption) ?_
              (try simp only [Act.put, nwAl17, List.setIfInBounds_toArray, List.set_cons_zero, List.set_cons_succ])
              refine tkU 18 nwAl18 rfl (by kernel_rfl) (by kernel_rfl) (by kernel_rfl) (fun _ _ _ h => h) (by rfl) (by assumption) ?_
              (try simp only [Act.put, nwAl18, List.setIfInBounds_toArray, List.set_cons_zero, List.set_cons_succ])
              refine tkU 19 nwAl19 rfl (by kernel_rfl) (by kernel_rfl) (by kernel_rfl) (fun _ _ _ h => h) (by rfl) (by assumption) ?_
              (try simp only [Act.put, nwAl19, List.setIfInBounds_toArray, List.set_cons_zero, List.set_cons_succ])
              refine tkU 20 nwAl20 rfl (by kernel_rfl) (by kernel_rfl) (by kernel_rfl) (fun _ _ _ h => h) (by rfl) (by assumption) ?_
              (try simp only [Act.put, nwAl20, List.setIfInBounds_toArray, List.set_cons_zero, List.set_cons_succ])
              refine tkU 21 nwAl21 rfl (by kernel_rfl) (by kernel_rfl) (by kernel_rfl) (fun _ _ _ h => h) (by rfl) (by assumption) ?_
              (try simp only [Act.put, nwAl21, List.setIfInBounds_toArray, List.set_cons_zero, List.set_cons_succ])
              refine tkU 22 nwAl22 rfl (by kernel_rfl) (by kernel_rfl) (by kernel_rfl) (fun _ _ _ h => h) (by rfl) (by assumption) ?_
              (try simp only [Act.put, nwAl22, List.setIfInBounds_toArray, List.set_cons_zero, List.set_cons_succ])
              refine tkU 23 nwAl23 rfl (by kernel_rfl) (by kernel_rfl) (by kernel_rfl) (fun _ _ _ h => h) (by rfl) (by assumption) ?_
              (try simp only [Act.put, nwAl23, List.setIfInBounds_toArray, List.set_cons_zero, List.set_cons_succ])
              refine tkU 24 nwAl24 rfl (by kernel_rfl) (by kernel_rfl) (by kernel_rfl) (fun _ _ _ h => h) (by rfl) (by assumption) ?_
              (try simp only [Act.put, nwAl24, List.setIfInBounds_toArray, List.set_cons_zero, List.set_cons_succ])
              refine tkU 25 nwAl25 rfl (by kernel_rfl) (by kernel_rfl) (by kernel_rfl) (fun _ _ _ h => h) (by rfl) (by assumption) ?_
              (try simp only [Act.put, nwAl25, List.setIfInBounds_toArray, List.set_cons_zero, List.set_cons_succ])
              refine tkW (v := ?_) 26 nwAl26 rfl (by kernel_rfl) (by kernel_rfl) (by kernel_rfl) (fun _ _ _ h => h) (by rfl) ?_ (by assumption) ?_
              rotate_left
              · intro w hSw; (try dsimp only at hSw); go_simp; (try with_reducible rfl)
              (try simp only [Act.put, nwAl26, List.setIfInBounds_toArray, List.set_cons_zero, List.set_cons_succ])
              refine tkW (v := ?_) 27 nwAl27 rfl (by kernel_rfl) (by kernel_rfl) (by kernel_rfl) (fun _ _ _ h => h) (by rfl) ?_ (by assumption) ?_
              rotate_left
              · intro w hSw; (try dsimp only at hSw); go_simp; (try with_reducible rfl)
              (try simp only [Act.put, nwAl27, List.setIfInBounds_toArray, List.set_cons_zero, List.set_cons_succ])
              refine wpAnyH_done (by kernel_rfl) ?_ _
              go_wp2
              go_roundw
              case rel => exact ⟨j + 1, by omega, by rw [N2.out], by go_num, Lib.hid (JJ.out.trans (by first | assumption | exact Kp.drew _))⟩
              case measure => simp [intOf]; omega
            | false =>
              by_cases c1 : qs ≤ ps
              · have u1 : decide (qs ≤ ps) = true := decide_eq_true c1
                have N2 := Lib.hid (show C (ps, pt) (j + 1) = decide (pt ≤ qt) by rw [HN.out, hE, u1]; rfl)
                clear hE HN HP c1
                go_upto_region 17 with fail
                refine wp_region_held_drew (S := fun w' => w'.cell? ⟨bp, op + i * 2, none⟩ = some (.int .i64 ps) ∧ w'.cell? ⟨bp, op + i * 2 + 1, none⟩ = some (.int .i64 pt) ∧ w'.cell? ⟨bq, oq + j * 2, none⟩ = some (.int .i64 qs) ∧ w'.cell? ⟨bq, oq + j * 2 + 1, none⟩ = some (.int .i64 qt) ∧ Kp wi w') (by kernel_rfl) ?_ (fun hHeld0 => ?_)
                · (try dsimp only); exact KS.out _ (by first | with_reducible exact k00 | ((repeat (first | with_reducible refine Kp.trans ?_ (Kp.drew _) | with_reducible refine Kp.trans ?_ (Kp.alloc _ _))); with_reducible exact k00))
                refine tkW (v := ?_) 0 nwAl0 rfl (by kernel_rfl) (by kernel_rfl) (by kernel_rfl) (fun _ _ _ h => h) (by rfl) ?_ (by assumption) ?_
                rotate_left
                · intro w hSw; (try dsimp only at hSw); go_simp; (try with_reducible rfl)
                (try simp only [Act.put, nwAl0, List.setIfInBounds_toArray, List.set_cons_zero, List.set_cons_succ])
                refine tkW (v := ?_) 1 nwAl1 rfl (by kernel_rfl) (by kernel_rfl) (by kernel_rfl) (fun _ _ _ h => h) (by rfl) ?_ (by assumption) ?_
                rotate_left
                · intro w hSw; (try dsimp only at hSw); go_simp; (try with_reducible rfl)
                (try simp only [Act.put, nwAl1, List.setIfInBounds_toArray, List.set_cons_zero, List.set_cons_succ])
                refine tkW (v := ?_) 2 nwAl2 rfl (by kernel_rfl) (by kernel_rfl) (by kernel_rfl) (fun _ _ _ h => h) (by rfl) ?_ (by assumption) ?_
                rotate_left
                · intro w hSw; (try dsimp only at hSw); go_simp; (try with_reducible rfl)
                (try simp only [Act.put, nwAl2, List.setIfInBounds_toArray, List.set_cons_zero, List.set_cons_succ])
                refine tkW (v := ?_) 3 nwAl3 rfl (by kernel_rfl) (by kernel_rfl) (by kernel_rfl) (fun _ _ _ h => h) (by rfl) ?_ (by assumption) ?_
                rotate_left
                · intro w hSw; (try dsimp only at hSw); go_simp; (try with_reducible rfl)
                (try simp only [Act.put, nwAl3, List.setIfInBounds_toArray, List.set_cons_zero, List.set_cons_succ])
                refine tkW (v := ?_) 4 nwAl4 rfl (by kernel_rfl) (by kernel_rfl) (by kernel_rfl) (fun _ _ _ h => h) (by rfl) ?_ (by assumption) ?_
                rotate_left
                · intro w hSw; (try dsimp only at hSw); go_simp; (try with_reducible rfl)
                (try simp only [Act.put, nwAl4, List.setIfInBounds_toArray, List.set_cons_zero, List.set_cons_succ])
                refine tkW (v := ?_) 5 nwAl5 rfl (by kernel_rfl) (by kernel_rfl) (by kernel_rfl) (fun _ _ _ h => h) (by rfl) ?_ (by assumption) ?_
                rotate_left
                · intro w hSw; (try dsimp only at hSw); go_simp; (try with_reducible rfl)
                (try simp only [Act.put, nwAl5, List.setIfInBounds_toArray, List.set_cons_zero, List.set_cons_succ])
                refine tkW (v := ?_) 6 nwAl6 rfl (by kernel_rfl) (by kernel_rfl) (by kernel_rfl) (fun _ _ _ h => h) (by rfl) ?_ (by assumption) ?_
                rotate_left
                · intro w hSw; (try dsimp only at hSw); go_simp; (try with_reducible rfl)
                (try simp only [Act.put, nwAl6, List.setIfInBounds_toArray, List.set_cons_zero, List.set_cons_succ])
                refine tkW (v := ?_) 7 nwAl7 rfl (by kernel_rfl) (by kernel_rfl) (by kernel_rfl) (fun _ _ _ h => h) (by rfl) ?_ (by assumption) ?_
                rotate_left
                · intro w hSw; (try dsimp only at hSw); go_simp; (try with_reducible rfl)
                (try simp only [Act.put, nwAl7, List.setIfInBounds_toArray, List.set_cons_zero, List.set_cons_succ])
                refine tkW (v := ?_) 8 nwAl8 rfl (by kernel_rfl) (by kernel_rfl) (by kernel_rfl) (fun _ _ _ h => h) (by rfl) ?_ (by assumption) ?_
                rotate_left
                · intro w hSw; (try dsimp only at hSw); go_simp; (try with_reducible rfl)
                (try simp only [Act.put, nwAl8, List.setIfInBounds_toArray, List.set_cons_zero, List.set_cons_succ])
                refine tkW (v := ?_) 9 nwAl9 rfl (by kernel_rfl) (by kernel_rfl) (by kernel_rfl) (fun _ _ _ h => h) (by rfl) ?_ (by assumption) ?_
                rotate_left
                · intro w hSw; (try dsimp only at hSw); go_simp; (try with_reducible rfl)
                (try simp only [Act.put, nwAl9, List.setIfInBounds_toArray, List.set_cons_zero, List.set_cons_succ])
                refine tkW (v := ?_) 10 nwAl10 rfl (by kernel_rfl) (by kernel_rfl) (by kernel_rfl) (fun _ _ _ h => h) (by rfl) ?_ (by assumption) ?_
                rotate_left
                · intro w hSw; (try dsimp only at hSw); go_simp; (try with_reducible rfl)
                (try simp only [Act.put, nwAl10, List.setIfInBounds_toArray, List.set_cons_zero, List.set_cons_succ])
                refine tkW (v := ?_) 11 nwAl11 rfl (by kernel_rfl) (by kernel_rfl) (by kernel_rfl) (fun _ _ _ h => h) (by rfl) ?_ (by assumption) ?_
                rotate_left
                · intro w hSw; (try dsimp only at hSw); go_simp; (try with_reducible rfl)
                (try simp only [Act.put, nwAl11, List.setIfInBounds_toArray, List.set_cons_zero, List.set_cons_succ])
                refine tkW (v := ?_) 12 nwAl12 rfl (by kernel_rfl) (by kernel_rfl) (by kernel_rfl) (fun _ _ _ h => h) (by rfl) ?_ (by assumption) ?_
                rotate_left
                · intro w hSw; (try dsimp only at hSw); go_simp; (try with_reducible rfl)
                (try simp only [Act.put, nwAl12, List.setIfInBounds_toArray, List.set_cons_zero, List.set_cons_succ])
                refine tkW (v := ?_) 13 nwAl13 rfl (by kernel_rfl) (by kernel_rfl) (by kernel_rfl) (fun _ _ _ h => h) (by rfl) ?_ (by assumption) ?_
                rotate_left
                · intro w hSw; (try dsimp only at hSw); go_simp; (try with_reducible rfl)
                (try simp only [Act.put, nwAl13, List.setIfInBounds_toArray, List.set_cons_zero, List.set_cons_succ])
                refine tkW (v := ?_) 14 nwAl14 rfl (by kernel_rfl) (by kernel_rfl) (by kernel_rfl) (fun _ _ _ h => h) (by rfl) ?_ (by assumption) ?_
                rotate_left
                · intro w hSw; (try dsimp only at hSw); go_simp; (try with_reducible rfl)
                (try simp only [Act.put, nwAl14, List.setIfInBounds_toArray, List.set_cons_zero, List.set_cons_succ])
                refine tkW (v := ?_) 15 nwAl15 rfl (by kernel_rfl) (by kernel_rfl) (by kernel_rfl) (fun _ _ _ h => h) (by rfl) ?_ (by assumption) ?_
                rotate_left
                · intro w hSw; (try dsimp only at hSw); go_simp; (try with_reducible rfl)
                (try simp only [Act.put, nwAl15, List.setIfInBounds_toArray, List.set_cons_zero, List.set_cons_succ])
                refine tkW (v := ?_) 16 nwAl16 rfl (by kernel_rfl) (by kernel_rfl) (by kernel_rfl) (fun _ _ _ h => h) (by rfl) ?_ (by assumption) ?_
                rotate_left
                · intro w hSw; (try dsimp only at hSw); go_simp; (try with_reducible rfl)
                (try simp only [Act.put, nwAl16, List.setIfInBounds_toArray, List.set_cons_zero, List.set_cons_succ])
                refine tkW (v := ?_) 17 nwAl17 rfl (by kernel_rfl) (by kernel_rfl) (by kernel_rfl) (fun _ _ _ h => h) (by rfl) ?_ (by assumption) ?_
                rotate_left
                · intro w hSw; (try dsimp only at hSw); go_simp; (try with_reducible rfl)
                (try simp only [Act.put, nwAl17, List.setIfInBounds_toArray, List.set_cons_zero, List.set_cons_succ])
                refine tkW (v := ?_) 18 nwAl18 rfl (by kernel_rfl) (by kernel_rfl) (by kernel_rfl) (fun _ _ _ h => h) (by rfl) ?_ (by assumption) ?_
                rotate_left
                · intro w hSw; (try dsimp only at hSw); go_simp; (try with_reducible rfl)
                (try simp only [Act.put, nwAl18, List.setIfInBounds_toArray, List.set_cons_zero, List.set_cons_succ])
                refine tkW (v := ?_) 19 nwAl19 rfl (by kernel_rfl) (by kernel_rfl) (by kernel_rfl) (fun _ _ _ h => h) (by rfl) ?_ (by assumption) ?_
                rotate_left
                · intro w hSw; (try dsimp only at hSw); go_simp; (try with_reducible rfl)
                (try simp only [Act.put, nwAl19, List.setIfInBounds_toArray, List.set_cons_zero, List.set_cons_succ])
                refine tkW (v := ?_) 20 nwAl20 rfl (by kernel_rfl) (by kernel_rfl) (by kernel_rfl) (fun _ _ _ h => h) (by rfl) ?_ (by assumption) ?_
                rotate_left
                · intro w hSw; (try dsimp only at hSw); go_simp; (try with_reducible rfl)
                (try simp only [Act.put, nwAl20, List.setIfInBounds_toArray, List.set_cons_zero, List.set_cons_succ])
                refine tkW (v := ?_) 21 nwAl21 rfl (by kernel_rfl) (by kernel_rfl) (by kernel_rfl) (fun _ _ _ h => h) (by rfl) ?_ (by assumption) ?_
                rotate_left
                · intro w hSw; (try dsimp only at hSw); go_simp; (try with_reducible rfl)
                (try simp only [Act.put, nwAl21, List.setIfInBounds_toArray, List.set_cons_zero, List.set_cons_succ])
                refine tkW (v := ?_) 22 nwAl22 rfl (by kernel_rfl) (by kernel_rfl) (by kernel_rfl) (fun _ _ _ h => h) (by rfl) ?_ (by assumption) ?_
                rotate_left
                · intro w hSw; (try dsimp only at hSw); go_simp; (try with_reducible rfl)
                (try simp only [Act.put, nwAl22, List.setIfInBounds_toArray, List.set_cons_zero, List.set_cons_succ])
                refine tkW (v := ?_) 23 nwAl23 rfl (by kernel_rfl) (by kernel_rfl) (by kernel_rfl) (fun _ _ _ h => h) (by rfl) ?_ (by assumption) ?_
                rotate_left
                · intro w hSw; (try dsimp only at hSw); go_simp; (try with_reducible rfl)
                (try simp only [Act.put, nwAl23, List.setIfInBounds_toArray, List.set_cons_zero, List.set_cons_succ])
                refine tkW (v := ?_) 24 nwAl24 rfl (by kernel_rfl) (by kernel_rfl) (by kernel_rfl) (fun _ _ _ h => h) (by rfl) ?_ (by assumption) ?_
                rotate_left
                · intro w hSw; (try dsimp only at hSw); go_simp; (try with_reducible rfl)
                (try simp only [Act.put, nwAl24, List.setIfInBounds_toArray, List.set_cons_zero, List.set_cons_succ])
                refine tkW (v := ?_) 25 nwAl25 rfl (by kernel_rfl) (by kernel_rfl) (by kernel_rfl) (fun _ _ _ h => h) (by rfl) ?_ (by assumption) ?_
                rotate_left
                · intro w hSw; (try dsimp only at hSw); go_simp; (try with_reducible rfl)
                (try simp only [Act.put, nwAl25, List.setIfInBounds_toArray, List.set_cons_zero, List.set_cons_succ])
                refine tkW (v := ?_) 26 nwAl26 rfl (by kernel_rfl) (by kernel_rfl) (by kernel_rfl) (fun _ _ _ h => h) (by rfl) ?_ (by assumption) ?_
                rotate_left
                · intro w hSw; (try dsimp only at hSw); go_simp; (try with_reducible rfl)
                (try simp only [Act.put, nwAl26, List.setIfInBounds_toArray, List.set_cons_zero, List.set_cons_succ])
                refine tkW (v := ?_) 27 nwAl27 rfl (by kernel_rfl) (by kernel_rfl) (by kernel_rfl) (fun _ _ _ h => h) (by rfl) ?_ (by assumption) ?_
                rotate_left
                · intro w hSw; (try dsimp only at hSw); go_simp; (try with_reducible rfl)
                (try simp only [Act.put, nwAl27, List.setIfInBounds_toArray, List.set_cons_zero, List.set_cons_succ])
                refine wpAnyH_done (by kernel_rfl) ?_ _
                go_wp2
                go_roundw
                case rel => exact ⟨j + 1, by omega, by rw [N2.out], by go_num, Lib.hid (JJ.out.trans (by first | assumption | exact Kp.drew _))⟩
                case measure => simp [intOf]; omega
              · have u1 : decide (qs ≤ ps) = false := decide_eq_false c1
                have N2 := Lib.hid (show C (ps, pt) (j + 1) = false by rw [HN.out, hE, u1]; rfl)
                clear hE HN HP c1
                go_upto_region 17 with fail
                refine wp_region_held_drew (S := fun w' => w'.cell? ⟨bp, op + i * 2, none⟩ = some (.int .i64 ps) ∧ w'.cell? ⟨bp, op + i * 2 + 1, none⟩ = some (.int .i64 pt) ∧ w'.cell? ⟨bq, oq + j * 2, none⟩ = some (.int .i64 qs) ∧ w'.cell? ⟨bq, oq + j * 2 + 1, none⟩ = some (.int .i64 qt) ∧ Kp wi w') (by kernel_rfl) ?_ (fun hHeld0 => ?_)
                · (try dsimp only); exact KS.out _ (by first | with_reducible exact k00 | ((repeat (first | with_reducible refine Kp.trans ?_ (Kp.drew _) | with_reducible refine Kp.trans ?_ (Kp.alloc _ _))); with_reducible exact k00))
                refine tkW (v := ?_) 0 nwAl0 rfl (by kernel_rfl) (by kernel_rfl) (by kernel_rfl) (fun _ _ _ h => h) (by rfl) ?_ (by assumption) ?_
                rotate_left
                · intro w hSw; (try dsimp only at hSw); go_simp; (try with_reducible rfl)
                (try simp only [Act.put, nwAl0, List.setIfInBounds_toArray, List.set_cons_zero, List.set_cons_succ])
                refine tkW (v := ?_) 1 nwAl1 rfl (by kernel_rfl) (by kernel_rfl) (by kernel_rfl) (fun _ _ _ h => h) (by rfl) ?_ (by assumption) ?_
                rotate_left
                · intro w hSw; (try dsimp only at hSw); go_simp; (try with_reducible rfl)
                (try simp only [Act.put, nwAl1, List.setIfInBounds_toArray, List.set_cons_zero, List.set_cons_succ])
                refine tkW (v := ?_) 2 nwAl2 rfl (by kernel_rfl) (by kernel_rfl) (by kernel_rfl) (fun _ _ _ h => h) (by rfl) ?_ (by assumption) ?_
                rotate_left
                · intro w hSw; (try dsimp only at hSw); go_simp; (try with_reducible rfl)
                (try simp only [Act.put, nwAl2, List.setIfInBounds_toArray, List.set_cons_zero, List.set_cons_succ])
                refine tkW (v := ?_) 3 nwAl3 rfl (by kernel_rfl) (by kernel_rfl) (by kernel_rfl) (fun _ _ _ h => h) (by rfl) ?_ (by assumption) ?_
                rotate_left
                · intro w hSw; (try dsimp only at hSw); go_simp; (try with_reducible rfl)
                (try simp only [Act.put, nwAl3, List.setIfInBounds_toArray, List.set_cons_zero, List.set_cons_succ])
                refine tkW (v := ?_) 4 nwAl4 rfl (by kernel_rfl) (by kernel_rfl) (by kernel_rfl) (fun _ _ _ h => h) (by rfl) ?_ (by assumption) ?_
                rotate_left
                · intro w hSw; (try dsimp only at hSw); go_simp; (try with_reducible rfl)
                (try simp only [Act.put, nwAl4, List.setIfInBounds_toArray, List.set_cons_zero, List.set_cons_succ])
                refine tkW (v := ?_) 5 nwAl5 rfl (by kernel_rfl) (by kernel_rfl) (by kernel_rfl) (fun _ _ _ h => h) (by rfl) ?_ (by assumption) ?_
                rotate_left
                · intro w hSw; (try dsimp only at hSw); go_simp; (try with_reducible rfl)
                (try simp only [Act.put, nwAl5, List.setIfInBounds_toArray, List.set_cons_zero, List.set_cons_succ])
                refine tkW (v := ?_) 6 nwAl6 rfl (by kernel_rfl) (by kernel_rfl) (by kernel_rfl) (fun _ _ _ h => h) (by rfl) ?_ (by assumption) ?_
                rotate_left
                · intro w hSw; (try dsimp only at hSw); go_simp; (try with_reducible rfl)
                (try simp only [Act.put, nwAl6, List.setIfInBounds_toArray, List.set_cons_zero, List.set_cons_succ])
                refine tkW (v := ?_) 7 nwAl7 rfl (by kernel_rfl) (by kernel_rfl) (by kernel_rfl) (fun _ _ _ h => h) (by rfl) ?_ (by assumption) ?_
                rotate_left
                · intro w hSw; (try dsimp only at hSw); go_simp; (try with_reducible rfl)
                (try simp only [Act.put, nwAl7, List.setIfInBounds_toArray, List.set_cons_zero, List.set_cons_succ])
                refine tkW (v := ?_) 8 nwAl8 rfl (by kernel_rfl) (by kernel_rfl) (by kernel_rfl) (fun _ _ _ h => h) (by rfl) ?_ (by assumption) ?_
                rotate_left
                · intro w hSw; (try dsimp only at hSw); go_simp; (try with_reducible rfl)
                (try simp only [Act.put, nwAl8, List.setIfInBounds_toArray, List.set_cons_zero, List.set_cons_succ])
                refine tkW (v := ?_) 9 nwAl9 rfl (by kernel_rfl) (by kernel_rfl) (by kernel_rfl) (fun _ _ _ h => h) (by rfl) ?_ (by assumption) ?_
                rotate_left
                · intro w hSw; (try dsimp only at hSw); go_simp; (try with_reducible rfl)
                (try simp only [Act.put, nwAl9, List.setIfInBounds_toArray, List.set_cons_zero, List.set_cons_succ])
                refine tkW (v := ?_) 10 nwAl10 rfl (by kernel_rfl) (by kernel_rfl) (by kernel_rfl) (fun _ _ _ h => h) (by rfl) ?_ (by assumption) ?_
                rotate_left
                · intro w hSw; (try dsimp only at hSw); go_simp; (try with_reducible rfl)
                (try simp only [Act.put, nwAl10, List.setIfInBounds_toArray, List.set_cons_zero, List.set_cons_succ])
                refine tkW (v := ?_) 11 nwAl11 rfl (by kernel_rfl) (by kernel_rfl) (by kernel_rfl) (fun _ _ _ h => h) (by rfl) ?_ (by assumption) ?_
                rotate_left
                · intro w hSw; (try dsimp only at hSw); go_simp; (try with_reducible rfl)
                (try simp only [Act.put, nwAl11, List.setIfInBounds_toArray, List.set_cons_zero, List.set_cons_succ])
                refine tkW (v := ?_) 12 nwAl12 rfl (by kernel_rfl) (by kernel_rfl) (by kernel_rfl) (fun _ _ _ h => h) (by rfl) ?_ (by assumption) ?_
                rotate_left
                · intro w hSw; (try dsimp only at hSw); go_simp; (try with_reducible rfl)
                (try simp only [Act.put, nwAl12, List.setIfInBounds_toArray, List.set_cons_zero, List.set_cons_succ])
                refine tkW (v := ?_) 13 nwAl13 rfl (by kernel_rfl) (by kernel_rfl) (by kernel_rfl) (fun _ _ _ h => h) (by rfl) ?_ (by assumption) ?_
                rotate_left
                · intro w hSw; (try dsimp only at hSw); go_simp; (try with_reducible rfl)
                (try simp only [Act.put, nwAl13, List.setIfInBounds_toArray, List.set_cons_zero, List.set_cons_succ])
                refine tkU 14 nwAl14 rfl (by kernel_rfl) (by kernel_rfl) (by kernel_rfl) (fun _ _ _ h => h) (by rfl) (by assumption) ?_
                (try simp only [Act.put, nwAl14, List.setIfInBounds_toArray, List.set_cons_zero, List.set_cons_succ])
                refine tkU 15 nwAl15 rfl (by kernel_rfl) (by kernel_rfl) (by kernel_rfl) (fun _ _ _ h => h) (by rfl) (by assumption) ?_
                (try simp only [Act.put, nwAl15, List.setIfInBounds_toArray, List.set_cons_zero, List.set_cons_succ])
                refine tkU 16 nwAl16 rfl (by kernel_rfl) (by kernel_rfl) (by kernel_rfl) (fun _ _ _ h => h) (by rfl) (by assumption) ?_
                (try simp only [Act.put, nwAl16, List.setIfInBounds_toArray, List.set_cons_zero, List.set_cons_succ])
                refine tkU 17 nwAl17 rfl (by kernel_rfl) (by kernel_rfl) (by kernel_rfl) (fun _ _ _ h => h) (by rfl) (by assumption) ?_
                (try simp only [Act.put, nwAl17, List.setIfInBounds_toArray, List.set_cons_zero, List.set_cons_succ])
                refine tkU 18 nwAl18 rfl (by kernel_rfl) (by kernel_rfl) (by kernel_rfl) (fun _ _ _ h => h) (by rfl) (by assumption) ?_
                (try simp only [Act.put, nwAl18, List.setIfInBounds_toArray, List.set_cons_zero, List.set_cons_succ])
                refine tkU 19 nwAl19 rfl (by kernel_rfl) (by kernel_rfl) (by kernel_rfl) (fun _ _ _ h => h) (by rfl) (by assumption) ?_
                (try simp only [Act.put, nwAl19, List.setIfInBounds_toArray, List.set_cons_zero, List.set_cons_succ])
                refine tkU 20 nwAl20 rfl (by kernel_rfl) (by kernel_rfl) (by kernel_rfl) (fun _ _ _ h => h) (by rfl) (by assumption) ?_
                (try simp only [Act.put, nwAl20, List.setIfInBounds_toArray, List.set_cons_zero, List.set_cons_succ])
                refine tkU 21 nwAl21 rfl (by kernel_rfl) (by kernel_rfl) (by kernel_rfl) (fun _ _ _ h => h) (by rfl) (by assumption) ?_
                (try simp only [Act.put, nwAl21, List.setIfInBounds_toArray, List.set_cons_zero, List.set_cons_succ])
                refine tkU 22 nwAl22 rfl (by kernel_rfl) (by kernel_rfl) (by kernel_rfl) (fun _ _ _ h => h) (by rfl) (by assumption) ?_
                (try simp only [Act.put, nwAl22, List.setIfInBounds_toArray, List.set_cons_zero, List.set_cons_succ])
                refine tkU 23 nwAl23 rfl (by kernel_rfl) (by kernel_rfl) (by kernel_rfl) (fun _ _ _ h => h) (by rfl) (by assumption) ?_
                (try simp only [Act.put, nwAl23, List.setIfInBounds_toArray, List.set_cons_zero, List.set_cons_succ])
                refine tkU 24 nwAl24 rfl (by kernel_rfl) (by kernel_rfl) (by kernel_rfl) (fun _ _ _ h => h) (by rfl) (by assumption) ?_
                (try simp only [Act.put, nwAl24, List.setIfInBounds_toArray, List.set_cons_zero, List.set_cons_succ])
                refine tkW (v := ?_) 25 nwAl25 rfl (by kernel_rfl) (by kernel_rfl) (by kernel_rfl) (fun _ _ _ h => h) (by rfl) ?_ (by assumption) ?_
                rotate_left
                · intro w hSw; (try dsimp only at hSw); go_simp; (try with_reducible rfl)
                (try simp only [Act.put, nwAl25, List.setIfInBounds_toArray, List.set_cons_zero, List.set_cons_succ])
                refine tkW (v := ?_) 26 nwAl26 rfl (by kernel_rfl) (by kernel_rfl) (by kernel_rfl) (fun _ _ _ h => h) (by rfl) ?_ (by assumption) ?_
                rotate_left
                · intro w hSw; (try dsimp only at hSw); go_simp; (try with_reducible rfl)
                (try simp only [Act.put, nwAl26, List.setIfInBounds_toArray, List.set_cons_zero, List.set_cons_succ])
                refine tkW (v := ?_) 27 nwAl27 rfl (by kernel_rfl) (by kernel_rfl) (by kernel_rfl) (fun _ _ _ h => h) (by rfl) ?_ (by assumption) ?_
                rotate_left
                · intro w hSw; (try dsimp only at hSw); go_simp; (try with_reducible rfl)
                (try simp only [Act.put, nwAl27, List.setIfInBounds_toArray, List.set_cons_zero, List.set_cons_succ])
                refine wpAnyH_done (by kernel_rfl) ?_ _
                go_wp2
                go_roundw
                case rel => exact ⟨j + 1, by omega, by rw [N2.out], by go_num, Lib.hid (JJ.out.trans (by first | assumption | exact Kp.drew _))⟩
                case measure => simp [intOf]; omega
          · have q2 : decide ((j : Int) < (Q.length : Int)) = false := decide_eq_false (by omega)
            have q2n : decide (j < Q.length) = false := decide_eq_false hlq
            obtain rfl : j = Q.length := by omega
            rcases RA6.out.kp (J.out.trans JJ.out) with ⟨_, _, _, e⟩ | ⟨bp, op, cpp, ev, hc, hmx, hx⟩
            · rw [e] at hlt; simp at hlt
            cases ev
            obtain ⟨d1, d2⟩ := hx i hlt
            obtain ⟨v1, v2, v3⟩ := OKP.out i hlt
            have AX := AN.out i hlt
            have CX := CZ.out (at_ P i) v1
            obtain ⟨p, hp⟩ : ∃ p, at_ P i = p := ⟨_, rfl⟩
            rw [hp] at d1 d2 v1 v2 v3 AX CX
            rw [hp]
            obtain ⟨ps, pt⟩ := p
            simp only at d1 d2 v1 v2 v3 AX CX
            have CI := INr.out ps pt
            rw [CX]
            generalize inB m ps pt = c2 at *
            have e1 : (c2 != c2) = false := by simp
            have CI := Lib.hid (fun w' (kk : Kp wi w') => CI w' (J.out.trans (JJ.out.trans kk)) (by omega) (by omega) (by omega) (by omega))
            have K2 := Lib.hid (J.out.trans JJ.out)
            have DD := Lib.hid (fun w' (kq : Kp wi w') => (show w'.cell? ⟨bp, op + i * 2, none⟩ = some (.int .i64 ps) ∧ w'.cell? ⟨bp, op + i * 2 + 1, none⟩ = some (.int .i64 pt) from ⟨cell_up kq d1, cell_up kq d2⟩))
            have AY := Lib.hid AX
            have KI := Lib.hid (Kp.refl wi)
            clear hx hc hmx CX AX hp hlq v1 v2 v3
            cases hA : A i with
            | true =>
              have N2 := Lib.hid (show A (i + 1) = true by rw [AY.out, hA]; rfl)
              clear hA AY
              go_wp2_with fail
              refine (CI.out _ (by first | with_reducible exact Kp.refl _ | with_reducible exact Kp.alloc _ _ | with_reducible exact (Kp.alloc _ _).trans (Kp.alloc _ _) | with_reducible exact ((Kp.alloc _ _).trans (Kp.alloc _ _)).trans (Kp.alloc _ _) | with_reducible exact Kp.drew _ | with_reducible exact Kp.drewN _ _)).mono ?_
              rintro e w7 ⟨rfl, k7⟩
              have K7 := Lib.hid ((show Kp wi _ from (by first | with_reducible exact Kp.refl _ | with_reducible exact Kp.alloc _ _ | with_reducible exact (Kp.alloc _ _).trans (Kp.alloc _ _) | with_reducible exact ((Kp.alloc _ _).trans (Kp.alloc _ _)).trans (Kp.alloc _ _) | with_reducible exact Kp.drew _ | with_reducible exact Kp.drewN _ _)).trans k7)
              clear k7 d1 d2
              obtain ⟨d1, d2⟩ := DD.out w7 K7.out
              have K8 := Lib.hid K7.out
              go_wp2
              go_roundw
              case rel => exact ⟨i + 1, by omega, by rw [N2.out], by go_num, Lib.hid (K2.out.trans (K8.out.trans (by first | with_reducible exact Kp.refl _ | with_reducible exact Kp.alloc _ _ | with_reducible exact (Kp.alloc _ _).trans (Kp.alloc _ _) | with_reducible exact ((Kp.alloc _ _).trans (Kp.alloc _ _)).trans (Kp.alloc _ _) | with_reducible exact Kp.drew _ | with_reducible exact Kp.drewN _ _)))⟩
              case measure => have := HLT.out; simp [intOf]; omega
            | false =>
              have N2 := Lib.hid (show A (i + 1) = c2 by rw [AY.out, hA]; rfl)
              clear hA AY
              go_wp2_with fail
              refine (CI.out _ (by first | with_reducible exact Kp.refl _ | with_reducible exact Kp.alloc _ _ | with_reducible exact (Kp.alloc _ _).trans (Kp.alloc _ _) | with_reducible exact ((Kp.alloc _ _).trans (Kp.alloc _ _)).trans (Kp.alloc _ _) | with_reducible exact Kp.drew _ | with_reducible exact Kp.drewN _ _)).mono ?_
              rintro e w7 ⟨rfl, k7⟩
              have K7 := Lib.hid ((show Kp wi _ from (by first | with_reducible exact Kp.refl _ | with_reducible exact Kp.alloc _ _ | with_reducible exact (Kp.alloc _ _).trans (Kp.alloc _ _) | with_reducible exact ((Kp.alloc _ _).trans (Kp.alloc _ _)).trans (Kp.alloc _ _) | with_reducible exact Kp.drew _ | with_reducible exact Kp.drewN _ _)).trans k7)
              clear k7 d1 d2
              obtain ⟨d1, d2⟩ := DD.out w7 K7.out
              have K8 := Lib.hid K7.out
              go_wp2
              go_roundw
              case rel => exact ⟨i + 1, by omega, by rw [N2.out], by go_num, Lib.hid (K2.out.trans (K8.out.trans (by first | with_reducible exact Kp.refl _ | with_reducible exact Kp.alloc _ _ | with_reducible exact (Kp.alloc _ _).trans (Kp.alloc _ _) | with_reducible exact ((Kp.alloc _ _).trans (Kp.alloc _ _)).trans (Kp.alloc _ _) | with_reducible exact Kp.drew _ | with_reducible exact Kp.drewN _ _)))⟩
              case measure => have := HLT.out; simp [intOf]; omega
      · have q1 : decide ((i : Int) < (P.length : Int)) = false := decide_eq_false (by omega)
        have q1n : decide (i < P.length) = false := decide_eq_false hlt
        obtain rfl : i = P.length := by omega
        have hE := HA.out
        rw [hE]
        go_wp2
        go_ret
        exact ⟨rfl, K00.out.trans (K6.out.trans (J.out.trans (by first | with_reducible exact Kp.refl _ | with_reducible exact Kp.alloc _ _ | with_reducible exact (Kp.alloc _ _).trans (Kp.alloc _ _) | with_reducible exact ((Kp.alloc _ _).trans (Kp.alloc _ _)).trans (Kp.alloc _ _) | with_reducible exact Kp.drew _ | with_reducible exact Kp.drewN _ _)))⟩
  · have HA := Lib.hid hA
    have HAS := Lib.hid has
    clear hA has
    generalize hasL L = hx0 at *
    generalize L.length = yl at *
    go_wp2_with fail
    go_loopw [12, 13] (fun av iv wr => ∃ i : Nat, i ≤ P.length ∧ av = .bool (A i) ∧ iv = .int .i64 i ∧ Hid (Kp w6 wr)) (fun _ iv _ => P.length - (intOf iv).toNat)
    case atStart => exact ⟨0, Nat.zero_le _, by rw [A0.out], rfl, Lib.hid (Kp.refl _)⟩
    case round =>
      obtain ⟨i, hi, rfl, rfl, J⟩ := hrel
      obtain ⟨wo, hwo⟩ : ∃ x, x = wr := ⟨_, rfl⟩
      subst hwo
      by_cases hlt : i < P.length
      · have q1 : decide ((i : Int) < (P.length : Int)) = true := decide_eq_true (by omega)
        have q1n : decide (i < P.length) = true := decide_eq_true hlt
        have HLT := Lib.hid hlt
        go_wp2
        go_loopw [14, 15] (fun cv jv wr => ∃ j : Nat, j ≤ Q.length ∧ cv = .bool (C (at_ P i) j) ∧ jv = .int .i64 j ∧ Hid (Kp wo wr)) (fun _ jv _ => Q.length - (intOf jv).toNat)
        case atStart => exact ⟨0, Nat.zero_le _, by rw [C0.out], rfl, Lib.hid (Kp.refl _)⟩
        case round =>
          obtain ⟨j, hj, rfl, rfl, JJ⟩ := hrel
          obtain ⟨wi, hwi⟩ : ∃ x, x = wr := ⟨_, rfl⟩
          subst hwi
          have z1 : (0 : Int) ≤ (i : Int) := by omega
          have z3 : (i : Int) < (P.length : Int) := by omega
          by_cases hlq : j < Q.length
          · have q2 : decide ((j : Int) < (Q.length : Int)) = true := decide_eq_true (by omega)
            have q2n : decide (j < Q.length) = true := decide_eq_true hlq
            rcases RA6.out.kp (J.out.trans JJ.out) with ⟨_, _, _, e⟩ | ⟨bp, op, cpp, ev, hc, hmx, hx⟩
            · rw [e] at hlt; simp at hlt
            cases ev
            obtain ⟨d1, d2⟩ := hx i hlt
            rcases RB6.out.kp (J.out.trans JJ.out) with ⟨_, _, _, e⟩ | ⟨bq, oq, cqq, ev, hc2, hmx2, hx2⟩
            · rw [e] at hlq; simp at hlq
            cases ev
            obtain ⟨d3, d4⟩ := hx2 j hlq
            have NX := CN.out (at_ P i) j hlq
            obtain ⟨p, hp⟩ : ∃ p, at_ P i = p := ⟨_, rfl⟩
            obtain ⟨q, hq⟩ : ∃ q, at_ Q j = q := ⟨_, rfl⟩
            rw [hp] at d1 d2 NX
            rw [hq] at d3 d4 NX
            rw [hp]
            obtain ⟨ps, pt⟩ := p
            obtain ⟨qs, qt⟩ := q
            simp only at d1 d2 d3 d4 NX
            have z2 : (0 : Int) ≤ (j : Int) := by omega
            have z4 : (j : Int) < (Q.length : Int) := by omega
            have KS := Lib.hid (fun w' (kq : Kp wi w') => show w'.cell? ⟨bp, op + i * 2, none⟩ = some (.int .i64 ps) ∧ w'.cell? ⟨bp, op + i * 2 + 1, none⟩ = some (.int .i64 pt) ∧ w'.cell? ⟨bq, oq + j * 2, none⟩ = some (.int .i64 qs) ∧ w'.cell? ⟨bq, oq + j * 2 + 1, none⟩ = some (.int .i64 qt) ∧ Kp wi w' from ⟨cell_up kq d1, cell_up kq d2, cell_up kq d3, cell_up kq d4, kq⟩)
            have k00 : Kp wi wi := Kp.refl _
            have HP := Lib.hid hp
            have HN := Lib.hid NX
            clear hx hc hmx hx2 hc2 hmx2 d1 d2 d3 d4 hp hq NX
            cases hE : C (ps, pt) j with
            | true =>
              have N2 := Lib.hid (show C (ps, pt) (j + 1) = true by rw [HN.out, hE]; rfl)
              clear hE HN HP
              go_upto_region 17 with fail
              refine wp_region_held_drew (S := fun w' => w'.cell? ⟨bp, op + i * 2, none⟩ = some (.int .i64 ps) ∧ w'.cell? ⟨bp, op + i * 2 + 1, none⟩ = some (.int .i64 pt) ∧ w'.cell? ⟨bq, oq + j * 2, none⟩ = some (.int .i64 qs) ∧ w'.cell? ⟨bq, oq + j * 2 + 1, none⟩ = some (.int .i64 qt) ∧ Kp wi w') (by kernel_rfl) ?_ (fun hHeld0 => ?_)
              · (try dsimp only); exact KS.out _ (by first | with_reducible exact k00 | ((repeat (first | with_reducible refine Kp.trans ?_ (Kp.drew _) | with_reducible refine Kp.trans ?_ (Kp.alloc _ _))); with_reducible exact k00))
              refine tkW (v := ?_) 0 nwAl0 rfl (by kernel_rfl) (by kernel_rfl) (by kernel_rfl) (fun _ _ _ h => h) (by rfl) ?_ (by assumption) ?_
              rotate_left
              · intro w hSw; (try dsimp only at hSw); go_simp; (try with_reducible rfl)
              (try simp only [Act.put, nwAl0, List.setIfInBounds_toArray, List.set_cons_zero, List.set_cons_succ])
              refine tkW (v := ?_) 1 nwAl1 rfl (by kernel_rfl) (by kernel_rfl) (by kernel_rfl) (fun _ _ _ h => h) (by rfl) ?_ (by assumption) ?_
              rotate_left
              · intro w hSw; (try dsimp only at hSw); go_simp; (try with_reducible rfl)
              (try simp only [Act.put, nwAl1, List.setIfInBounds_toArray, List.set_cons_zero, List.set_cons_succ])
              refine tkU 2 nwAl2 rfl (by kernel_rfl) (by kernel_rfl) (by kernel_rfl) (fun _ _ _ h => h) (by rfl) (by assumption) ?_
              (try simp only [Act.put, nwAl2, List.setIfInBounds_toArray, List.set_cons_zero, List.set_cons_succ])
              refine tkU 3 nwAl3 rfl (by kernel_rfl) (by kernel_rfl) (by kernel_rfl) (fun _ _ _ h => h) (by rfl) (by assumption) ?_
              (try simp only [Act.put, nwAl3, List.setIfInBounds_toArray, List.set_cons_zero, List.set_cons_succ])
              refine tkU 4 nwAl4 rfl (by kernel_rfl) (by kernel_rfl) (by kernel_rfl) (fun _ _ _ h => h) (by rfl) (by assumption) ?_
              (try simp only [Act.put, nwAl4, List.setIfInBounds_toArray, List.set_cons_zero, List.set_cons_succ])
              refine tkU 5 nwAl5 rfl (by kernel_rfl) (by kernel_rfl) (by kernel_rfl) (fun _ _ _ h => h) (by rfl) (by assumption) ?_
              (try simp only [Act.put, nwAl5, List.setIfInBounds_toArray, List.set_cons_zero, List.set_cons_succ])
              refine tkU 6 nwAl6 rfl (by kernel_rfl) (by kernel_rfl) (by kernel_rfl) (fun _ _ _ h => h) (by rfl) (by assumption) ?_
              (try simp only [Act.put, nwAl6, List.setIfInBounds_toArray, List.set_cons_zero, List.set_cons_succ])
              refine tkU 7 nwAl7 rfl (by kernel_rfl) (by kernel_rfl) (by kernel_rfl) (fun _ _ _ h => h) (by rfl) (by assumption) ?_
              (try simp only [Act.put, nwAl7, List.setIfInBounds_toArray, List.set_cons_zero, List.set_cons_succ])
              refine tkU 8 nwAl8 rfl (by kernel_rfl) (by kernel_rfl) (by kernel_rfl) (fun _ _ _ h => h) (by rfl) (by assumption) ?_
              (try simp only [Act.put, nwAl8, List.setIfInBounds_toArray, List.set_cons_zero, List.set_cons_succ])
              refine tkU 9 nwAl9 rfl (by kernel_rfl) (by kernel_rfl) (by kernel_rfl) (fun _ _ _ h => h) (by rfl) (by assumption) ?_
              (try simp only [Act.put, nwAl9, List.setIfInBounds_toArray, List.set_cons_zero, List.set_cons_succ])
              refine tkU 10 nwAl10 rfl (by kernel_rfl) (by kernel_rfl) (by kernel_rfl) (fun _ _ _ h => h) (by rfl) (by assumption) ?_
              (try simp only [Act.put, nwAl10, List.setIfInBounds_toArray, List.set_cons_zero, List.set_cons_succ])
              refine tkU 11 nwAl11 rfl (by kernel_rfl) (by kernel_rfl) (by kernel_rfl) (fun _ _ _ h => h) (by rfl) (by assumption) ?_
              (try simp only [Act.put, nwAl11, List.setIfInBounds_toArray, List.set_cons_zero, List.set_cons_succ])
              refine tkU 12 nwAl12 rfl (by kernel_rfl) (by kernel_rfl) (by kernel_rfl) (fun _ _ _ h => h) (by rfl) (by assumption) ?_
              (try simp only [Act.put, nwAl12, List.setIfInBounds_toArray, List.set_cons_zero, List.set_cons_succ])
              refine tkU 13 nwAl13 rfl (by kernel_rfl) (by kernel_rfl) (by kernel_rfl) (fun _ _ _ h => h) (by rfl) (by assumption) ?_
              (try simp only [Act.put, nwAl13, List.setIfInBounds_toArray, List.set_cons_zero, List.set_cons_succ])
              refine tkU 14 nwAl14 rfl (by kernel_rfl) (by kernel_rfl) (by kernel_rfl) (fun _ _ _ h => h) (by rfl) (by assumption) ?_
              (try simp only [Act.put, nwAl14, List.setIfInBounds_toArray, List.set_cons_zero, List.set_cons_succ])
              refine tkU 15 nwAl15 rfl (by kernel_rfl) (by kernel_rfl) (by kernel_rfl) (fun _ _ _ h => h) (by rfl) (by assumption) ?_
              (try simp only [Act.put, nwAl15, List.setIfInBounds_toArray, List.set_cons_zero, List.set_cons_succ])
              refine tkU 16 nwAl16 rfl (by kernel_rfl) (by kernel_rfl) (by kernel_rfl) (fun _ _ _ h => h) (by rfl) (by assumption) ?_
              (try simp only [Act.put, nwAl16, List.setIfInBounds_toArray, List.set_cons_zero, List.set_cons_succ])
              refine tkU 17 nwAl17 rfl (by kernel_rfl) (by kernel_rfl) (by kernel_rfl) (fun _ _ _ h => h) (by rfl) (by assumption) ?_
              (try simp only [Act.put, nwAl17, List.setIfInBounds_toArray, List.set_cons_zero, List.set_cons_succ])
              refine tkU 18 nwAl18 rfl (by kernel_rfl) (by kernel_rfl) (by kernel_rfl) (fun _ _ _ h => h) (by rfl) (by assumption) ?_
              (try simp only [Act.put, nwAl18, List.setIfInBounds_toArray, List.set_cons_zero, List.set_cons_succ])
              refine tkU 19 nwAl19 rfl (by kernel_rfl) (by kernel_rfl) (by kernel_rfl) (fun _ _ _ h => h) (by rfl) (by assumption) ?_
              (try simp only [Act.put, nwAl19, List.setIfInBounds_toArray, List.set_cons_zero, List.set_cons_succ])
              refine tkU 20 nwAl20 rfl (by kernel_rfl) (by kernel_rfl) (by kernel_rfl) (fun _ _ _ h => h) (by rfl) (by assumption) ?_
              (try simp only [Act.put, nwAl20, List.setIfInBounds_toArray, List.set_cons_zero, List.set_cons_succ])
              refine tkU 21 nwAl21 rfl (by kernel_rfl) (by kernel_rfl) (by kernel_rfl) (fun _ _ _ h => h) (by rfl) (by assumption) ?_
              (try simp only [Act.put, nwAl21, List.setIfInBounds_toArray, List.set_cons_zero, List.set_cons_succ])
              refine tkU 22 nwAl22 rfl (by kernel_rfl) (by kernel_rfl) (by kernel_rfl) (fun _ _ _ h => h) (by rfl) (by assumption) ?_
              (try simp only [Act.put, nwAl22, List.setIfInBounds_toArray, List.set_cons_zero, List.set_cons_succ])
              refine tkU 23 nwAl23 rfl (by kernel_rfl) (by kernel_rfl) (by kernel_rfl) (fun _ _ _ h => h) (by rfl) (by assumption) ?_
              (try simp only [Act.put, nwAl23, List.setIfInBounds_toArray, List.set_cons_zero, List.set_cons_succ])
              refine tkU 24 nwAl24 rfl (by kernel_rfl) (by kernel_rfl) (by kernel_rfl) (fun _ _ _ h => h) (by rfl) (by assumption) ?_
              (try simp only [Act.put, nwAl24, List.setIfInBounds_toArray, List.set_cons_zero, List.set_cons_succ])
              refine tkU 25 nwAl25 rfl (by kernel_rfl) (by kernel_rfl) (by kernel_rfl) (fun _ _ _ h => h) (by rfl) (by assumption) ?_
              (try simp only [Act.put, nwAl25, List.setIfInBounds_toArray, List.set_cons_zero, List.set_cons_succ])
              refine tkW (v := ?_) 26 nwAl26 rfl (by kernel_rfl) (by kernel_rfl) (by kernel_rfl) (fun _ _ _ h => h) (by rfl) ?_ (by assumption) ?_
              rotate_left
              · intro w hSw; (try dsimp only at hSw); go_simp; (try with_reducible rfl)
              (try simp only [Act.put, nwAl26, List.setIfInBounds_toArray, List.set_cons_zero, List.set_cons_succ])
              refine tkW (v := ?_) 27 nwAl27 rfl (by kernel_rfl) (by kernel_rfl) (by kernel_rfl) (fun _ _ _ h => h) (by rfl) ?_ (by assumption) ?_
              rotate_left
              · intro w hSw; (try dsimp only at hSw); go_simp; (try with_reducible rfl)
              (try simp only [Act.put, nwAl27, List.setIfInBounds_toArray, List.set_cons_zero, List.set_cons_succ])
              refine wpAnyH_done (by kernel_rfl) ?_ _
              go_wp2
              go_roundw
              case rel => exact ⟨j + 1, by omega, by rw [N2.out], by go_num, Lib.hid (JJ.out.trans (by first | assumption | exact Kp.drew _))⟩
              case measure => simp [intOf]; omega
            | false =>
              by_cases c1 : qs ≤ ps
              · have u1 : decide (qs ≤ ps) = true := decide_eq_true c1
                have N2 := Lib.hid (show C (ps, pt) (j + 1) = decide (pt ≤ qt) by rw [HN.out, hE, u1]; rfl)
                clear hE HN HP c1
                go_upto_region 17 with fail
                refine wp_region_held_drew (S := fun w' => w'.cell? ⟨bp, op + i * 2, none⟩ = some (.int .i64 ps) ∧ w'.cell? ⟨bp, op + i * 2 + 1, none⟩ = some (.int .i64 pt) ∧ w'.cell? ⟨bq, oq + j * 2, none⟩ = some (.int .i64 qs) ∧ w'.cell? ⟨bq, oq + j * 2 + 1, none⟩ = some (.int .i64 qt) ∧ Kp wi w') (by kernel_rfl) ?_ (fun hHeld0 => ?_)
                · (try dsimp only); exact KS.out _ (by first | with_reducible exact k00 | ((repeat (first | with_reducible refine Kp.trans ?_ (Kp.drew _) | with_reducible refine Kp.trans ?_ (Kp.alloc _ _))); with_reducible exact k00))
                refine tkW (v := ?_) 0 nwAl0 rfl (by kernel_rfl) (by kernel_rfl) (by kernel_rfl) (fun _ _ _ h => h) (by rfl) ?_ (by assumption) ?_
                rotate_left
                · intro w hSw; (try dsimp only at hSw); go_simp; (try with_reducible rfl)
                (try simp only [Act.put, nwAl0, List.setIfInBounds_toArray, List.set_cons_zero, List.set_cons_succ])
                refine tkW (v := ?_) 1 nwAl1 rfl (by kernel_rfl) (by kernel_rfl) (by kernel_rfl) (fun _ _ _ h => h) (by rfl) ?_ (by assumption) ?_
                rotate_left
                · intro w hSw; (try dsimp only at hSw); go_simp; (try with_reducible rfl)
                (try simp only [Act.put, nwAl1, List.setIfInBounds_toArray, List.set_cons_zero, List.set_cons_succ])
                refine tkW (v := ?_) 2 nwAl2 rfl (by kernel_rfl) (by kernel_rfl) (by kernel_rfl) (fun _ _ _ h => h) (by rfl) ?_ (by assumption) ?_
                rotate_left
                · intro w hSw; (try dsimp only at hSw); go_simp; (try with_reducible rfl)
                (try simp only [Act.put, nwAl2, List.setIfInBounds_toArray, List.set_cons_zero, List.set_cons_succ])
                refine tkW (v := ?_) 3 nwAl3 rfl (by kernel_rfl) (by kernel_rfl) (by kernel_rfl) (fun _ _ _ h => h) (by rfl) ?_ (by assumption) ?_
                rotate_left
                · intro w hSw; (try dsimp only at hSw); go_simp; (try with_reducible rfl)
                (try simp only [Act.put, nwAl3, List.setIfInBounds_toArray, List.set_cons_zero, List.set_cons_succ])
                refine tkW (v := ?_) 4 nwAl4 rfl (by kernel_rfl) (by kernel_rfl) (by kernel_rfl) (fun _ _ _ h => h) (by rfl) ?_ (by assumption) ?_
                rotate_left
                · intro w hSw; (try dsimp only at hSw); go_simp; (try with_reducible rfl)
                (try simp only [Act.put, nwAl4, List.setIfInBounds_toArray, List.set_cons_zero, List.set_cons_succ])
                refine tkW (v := ?_) 5 nwAl5 rfl (by kernel_rfl) (by kernel_rfl) (by kernel_rfl) (fun _ _ _ h => h) (by rfl) ?_ (by assumption) ?_
                rotate_left
                · intro w hSw; (try dsimp only at hSw); go_simp; (try with_reducible rfl)
                (try simp only [Act.put, nwAl5, List.setIfInBounds_toArray, List.set_cons_zero, List.set_cons_succ])
                refine tkW (v := ?_) 6 nwAl6 rfl (by kernel_rfl) (by kernel_rfl) (by kernel_rfl) (fun _ _ _ h => h) (by rfl) ?_ (by assumption) ?_
                rotate_left
                · intro w hSw; (try dsimp only at hSw); go_simp; (try with_reducible rfl)
                (try simp only [Act.put, nwAl6, List.setIfInBounds_toArray, List.set_cons_zero, List.set_cons_succ])
                refine tkW (v := ?_) 7 nwAl7 rfl (by kernel_rfl) (by kernel_rfl) (by kernel_rfl) (fun _ _ _ h => h) (by rfl) ?_ (by assumption) ?_
                rotate_left
                · intro w hSw; (try dsimp only at hSw); go_simp; (try with_reducible rfl)
                (try simp only [Act.put, nwAl7, List.setIfInBounds_toArray, List.set_cons_zero, List.set_cons_succ])
                refine tkW (v := ?_) 8 nwAl8 rfl (by kernel_rfl) (by kernel_rfl) (by kernel_rfl) (fun _ _ _ h => h) (by rfl) ?_ (by assumption) ?_
                rotate_left
                · intro w hSw; (try dsimp only at hSw); go_simp; (try with_reducible rfl)
                (try simp only [Act.put, nwAl8, List.setIfInBounds_toArray, List.set_cons_zero, List.set_cons_succ])
                refine tkW (v := ?_) 9 nwAl9 rfl (by kernel_rfl) (by kernel_rfl) (by kernel_rfl) (fun _ _ _ h => h) (by rfl) ?_ (by assumption) ?_
                rotate_left
                · intro w hSw; (try dsimp only at hSw); go_simp; (try with_reducible rfl)
                (try simp only [Act.put, nwAl9, List.setIfInBounds_toArray, List.set_cons_zero, List.set_cons_succ])
                refine tkW (v := ?_) 10 nwAl10 rfl (by kernel_rfl) (by kernel_rfl) (by kernel_rfl) (fun _ _ _ h => h) (by rfl) ?_ (by assumption) ?_
                rotate_left
                · intro w hSw; (try dsimp only at hSw); go_simp; (try with_reducible rfl)
                (try simp only [Act.put, nwAl10, List.setIfInBounds_toArray, List.set_cons_zero, List.set_cons_succ])
                refine tkW (v := ?_) 11 nwAl11 rfl (by kernel_rfl) (by kernel_rfl) (by kernel_rfl) (fun _ _ _ h => h) (by rfl) ?_ (by assumption) ?_
                rotate_left
                · intro w hSw; (try dsimp only at hSw); go_simp; (try with_reducible rfl)
                (try simp only [Act.put, nwAl11, List.setIfInBounds_toArray, List.set_cons_zero, List.set_cons_succ])
                refine tkW (v := ?_) 12 nwAl12 rfl (by kernel_rfl) (by kernel_rfl) (by kernel_rfl) (fun _ _ _ h => h) (by rfl) ?_ (by assumption) ?_
                rotate_left
                · intro w hSw; (try dsimp only at hSw); go_simp; (try with_reducible rfl)
                (try simp only [Act.put, nwAl12, List.setIfInBounds_toArray, List.set_cons_zero, List.set_cons_succ])
                refine tkW (v := ?_) 13 nwAl13 rfl (by kernel_rfl) (by kernel_rfl) (by kernel_rfl) (fun _ _ _ h => h) (by rfl) ?_ (by assumption) ?_
                rotate_left
                · intro w hSw; (try dsimp only at hSw); go_simp; (try with_reducible rfl)
                (try simp only [Act.put, nwAl13, List.setIfInBounds_toArray, List.set_cons_zero, List.set_cons_succ])
                refine tkW (v := ?_) 14 nwAl14 rfl (by kernel_rfl) (by kernel_rfl) (by kernel_rfl) (fun _ _ _ h => h) (by rfl) ?_ (by assumption) ?_
                rotate_left
                · intro w hSw; (try dsimp only at hSw); go_simp; (try with_reducible rfl)
                (try simp only [Act.put, nwAl14, List.setIfInBounds_toArray, List.set_cons_zero, List.set_cons_succ])
                refine tkW (v := ?_) 15 nwAl15 rfl (by kernel_rfl) (by kernel_rfl) (by kernel_rfl) (fun _ _ _ h => h) (by rfl) ?_ (by assumption) ?_
                rotate_left
                · intro w hSw; (try dsimp only at hSw); go_simp; (try with_reducible rfl)
                (try simp only [Act.put, nwAl15, List.setIfInBounds_toArray, List.set_cons_zero, List.set_cons_succ])
                refine tkW (v := ?_) 16 nwAl16 rfl (by kernel_rfl) (by kernel_rfl) (by kernel_rfl) (fun _ _ _ h => h) (by rfl) ?_ (by assumption) ?_
                rotate_left
                · intro w hSw; (try dsimp only at hSw); go_simp; (try with_reducible rfl)
                (try simp only [Act.put, nwAl16, List.setIfInBounds_toArray, List.set_cons_zero, List.set_cons_succ])
                refine tkW (v := ?_) 17 nwAl17 rfl (by kernel_rfl) (by kernel_rfl) (by kernel_rfl) (fun _ _ _ h => h) (by rfl) ?_ (by assumption) ?_
                rotate_left
                · intro w hSw; (try dsimp only at hSw); go_simp; (try with_reducible rfl)
                (try simp only [Act.put, nwAl17, List.setIfInBounds_toArray, List.set_cons_zero, List.set_cons_succ])
                refine tkW (v := ?_) 18 nwAl18 rfl (by kernel_rfl) (by kernel_rfl) (by kernel_rfl) (fun _ _ _ h => h) (by rfl) ?_ (by assumption) ?_
                rotate_left
                · intro w hSw; (try dsimp only at hSw); go_simp; (try with_reducible rfl)
                (try simp only [Act.put, nwAl18, List.setIfInBounds_toArray, List.set_cons_zero, List.set_cons_succ])
                refine tkW (v := ?_) 19 nwAl19 rfl (by kernel_rfl) (by kernel_rfl) (by kernel_rfl) (fun _ _ _ h => h) (by rfl) ?_ (by assumption) ?_
                rotate_left
                · intro w hSw; (try dsimp only at hSw); go_simp; (try with_reducible rfl)
                (try simp only [Act.put, nwAl19, List.setIfInBounds_toArray, List.set_cons_zero, List.set_cons_succ])
                refine tkW (v := ?_) 20 nwAl20 rfl (by kernel_rfl) (by kernel_rfl) (by kernel_rfl) (fun _ _ _ h => h) (by rfl) ?_ (by assumption) ?_
                rotate_left
                · intro w hSw; (try dsimp only at hSw); go_simp; (try with_reducible rfl)
                (try simp only [Act.put, nwAl20, List.setIfInBounds_toArray, List.set_cons_zero, List.set_cons_succ])
                refine tkW (v := ?_) 21 nwAl21 rfl (by kernel_rfl) (by kernel_rfl) (by kernel_rfl) (fun _ _ _ h => h) (by rfl) ?_ (by assumption) ?_
                rotate_left
                · intro w hSw; (try dsimp only at hSw); go_simp; (try with_reducible rfl)
                (try simp only [Act.put, nwAl21, List.setIfInBounds_toArray, List.set_cons_zero, List.set_cons_succ])
                refine tkW (v := ?_) 22 nwAl22 rfl (by kernel_rfl) (by kernel_rfl) (by kernel_rfl) (fun _ _ _ h => h) (by rfl) ?_ (by assumption) ?_
                rotate_left
                · intro w hSw; (try dsimp only at hSw); go_simp; (try with_reducible rfl)
                (try simp only [Act.put, nwAl22, List.setIfInBounds_toArray, List.set_cons_zero, List.set_cons_succ])
                refine tkW (v := ?_) 23 nwAl23 rfl (by kernel_rfl) (by kernel_rfl) (by kernel_rfl) (fun _ _ _ h => h) (by rfl) ?_ (by assumption) ?_
                rotate_left
                · intro w hSw; (try dsimp only at hSw); go_simp; (try with_reducible rfl)
                (try simp only [Act.put, nwAl23, List.setIfInBounds_toArray, List.set_cons_zero, List.set_cons_succ])
                refine tkW (v := ?_) 24 nwAl24 rfl (by kernel_rfl) (by kernel_rfl) (by kernel_rfl) (fun _ _ _ h => h) (by rfl) ?_ (by assumption) ?_
                rotate_left
                · intro w hSw; (try dsimp only at hSw); go_simp; (try with_reducible rfl)
                (try simp only [Act.put, nwAl24, List.setIfInBounds_toArray, List.set_cons_zero, List.set_cons_succ])
                refine tkW (v := ?_) 25 nwAl25 rfl (by kernel_rfl) (by kernel_rfl) (by kernel_rfl) (fun _ _ _ h => h) (by rfl) ?_ (by assumption) ?_
                rotate_left
                · intro w hSw; (try dsimp only at hSw); go_simp; (try with_reducible rfl)
                (try simp only [Act.put, nwAl25, List.setIfInBounds_toArray, List.set_cons_zero, List.set_cons_succ])
                refine tkW (v := ?_) 26 nwAl26 rfl (by kernel_rfl) (by kernel_rfl) (by kernel_rfl) (fun _ _ _ h => h) (by rfl) ?_ (by assumption) ?_
                rotate_left
                · intro w hSw; (try dsimp only at hSw); go_simp; (try with_reducible rfl)
                (try simp only [Act.put, nwAl26, List.setIfInBounds_toArray, List.set_cons_zero, List.set_cons_succ])
                refine tkW (v := ?_) 27 nwAl27 rfl (by kernel_rfl) (by kernel_rfl) (by kernel_rfl) (fun _ _ _ h => h) (by rfl) ?_ (by assumption) ?_
                rotate_left
                · intro w hSw; (try dsimp only at hSw); go_simp; (try with_reducible rfl)
                (try simp only [Act.put, nwAl27, List.setIfInBounds_toArray, List.set_cons_zero, List.set_cons_succ])
                refine wpAnyH_done (by kernel_rfl) ?_ _
                go_wp2
                go_roundw
                case rel => exact ⟨j + 1, by omega, by rw [N2.out], by go_num, Lib.hid (JJ.out.trans (by first | assumption | exact Kp.drew _))⟩
                case measure => simp [intOf]; omega
              · have u1 : decide (qs ≤ ps) = false := decide_eq_false c1
                have N2 := Lib.hid (show C (ps, pt) (j + 1) = false by rw [HN.out, hE, u1]; rfl)
                clear hE HN HP c1
                go_upto_region 17 with fail
                refine wp_region_held_drew (S := fun w' => w'.cell? ⟨bp, op + i * 2, none⟩ = some (.int .i64 ps) ∧ w'.cell? ⟨bp, op + i * 2 + 1, none⟩ = some (.int .i64 pt) ∧ w'.cell? ⟨bq, oq + j * 2, none⟩ = some (.int .i64 qs) ∧ w'.cell? ⟨bq, oq + j * 2 + 1, none⟩ = some (.int .i64 qt) ∧ Kp wi w') (by kernel_rfl) ?_ (fun hHeld0 => ?_)
                · (try dsimp only); exact KS.out _ (by first | with_reducible exact k00 | ((repeat (first | with_reducible refine Kp.trans ?_ (Kp.drew _) | with_reducible refine Kp.trans ?_ (Kp.alloc _ _))); with_reducible exact k00))
                refine tkW (v := ?_) 0 nwAl0 rfl (by kernel_rfl) (by kernel_rfl) (by kernel_rfl) (fun _ _ _ h => h) (by rfl) ?_ (by assumption) ?_
                rotate_left
                · intro w hSw; (try dsimp only at hSw); go_simp; (try with_reducible rfl)
                (try simp only [Act.put, nwAl0, List.setIfInBounds_toArray, List.set_cons_zero, List.set_cons_succ])
                refine tkW (v := ?_) 1 nwAl1 rfl (by kernel_rfl) (by kernel_rfl) (by kernel_rfl) (fun _ _ _ h => h) (by rfl) ?_ (by assumption) ?_
                rotate_left
                · intro w hSw; (try dsimp only at hSw); go_simp; (try with_reducible rfl)
                (try simp only [Act.put, nwAl1, List.setIfInBounds_toArray, List.set_cons_zero, List.set_cons_succ])
                refine tkW (v := ?_) 2 nwAl2 rfl (by kernel_rfl) (by kernel_rfl) (by kernel_rfl) (fun _ _ _ h => h) (by rfl) ?_ (by assumption) ?_
                rotate_left
                · intro w hSw; (try dsimp only at hSw); go_simp; (try with_reducible rfl)
                (try simp only [Act.put, nwAl2, List.setIfInBounds_toArray, List.set_cons_zero, List.set_cons_succ])
                refine tkW (v := ?_) 3 nwAl3 rfl (by kernel_rfl) (by kernel_rfl) (by kernel_rfl) (fun _ _ _ h => h) (by rfl) ?_ (by assumption) ?_
                rotate_left
                · intro w hSw; (try dsimp only at hSw); go_simp; (try with_reducible rfl)
                (try simp only [Act.put, nwAl3, List.setIfInBounds_toArray, List.set_cons_zero, List.set_cons_succ])
                refine tkW (v := ?_) 4 nwAl4 rfl (by kernel_rfl) (by kernel_rfl) (by kernel_rfl) (fun _ _ _ h => h) (by rfl) ?_ (by assumption) ?_
                rotate_left
                · intro w hSw; (try dsimp only at hSw); go_simp; (try with_reducible rfl)
                (try simp only [Act.put, nwAl4, List.setIfInBounds_toArray, List.set_cons_zero, List.set_cons_succ])
                refine tkW (v := ?_) 5 nwAl5 rfl (by kernel_rfl) (by kernel_rfl) (by kernel_rfl) (fun _ _ _ h => h) (by rfl) ?_ (by assumption) ?_
                rotate_left
                · intro w hSw; (try dsimp only at hSw); go_simp; (try with_reducible rfl)
                (try simp only [Act.put, nwAl5, List.setIfInBounds_toArray, List.set_cons_zero, List.set_cons_succ])
                refine tkW (v := ?_) 6 nwAl6 rfl (by kernel_rfl) (by kernel_rfl) (by kernel_rfl) (fun _ _ _ h => h) (by rfl) ?_ (by assumption) ?_
                rotate_left
                · intro w hSw; (try dsimp only at hSw); go_simp; (try with_reducible rfl)
                (try simp only [Act.put, nwAl6, List.setIfInBounds_toArray, List.set_cons_zero, List.set_cons_succ])
                refine tkW (v := ?_) 7 nwAl7 rfl (by kernel_rfl) (by kernel_rfl) (by kernel_rfl) (fun _ _ _ h => h) (by rfl) ?_ (by assumption) ?_
                rotate_left
                · intro w hSw; (try dsimp only at hSw); go_simp; (try with_reducible rfl)
                (try simp only [Act.put, nwAl7, List.setIfInBounds_toArray, List.set_cons_zero, List.set_cons_succ])
                refine tkW (v := ?_) 8 nwAl8 rfl (by kernel_rfl) (by kernel_rfl) (by kernel_rfl) (fun _ _ _ h => h) (by rfl) ?_ (by assumption) ?_
                rotate_left
                · intro w hSw; (try dsimp only at hSw); go_simp; (try with_reducible rfl)
                (try simp only [Act.put, nwAl8, List.setIfInBounds_toArray, List.set_cons_zero, List.set_cons_succ])
                refine tkW (v := ?_) 9 nwAl9 rfl (by kernel_rfl) (by kernel_rfl) (by kernel_rfl) (fun _ _ _ h => h) (by rfl) ?_ (by assumption) ?_
                rotate_left
                · intro w hSw; (try dsimp only at hSw); go_simp; (try with_reducible rfl)
                (try simp only [Act.put, nwAl9, List.setIfInBounds_toArray, List.set_cons_zero, List.set_cons_succ])
                refine tkW (v := ?_) 10 nwAl10 rfl (by kernel_rfl) (by kernel_rfl) (by kernel_rfl) (fun _ _ _ h => h) (by rfl) ?_ (by assumption) ?_
                rotate_left
                · intro w hSw; (try dsimp only at hSw); go_simp; (try with_reducible rfl)
                (try simp only [Act.put, nwAl10, List.setIfInBounds_toArray, List.set_cons_zero, List.set_cons_succ])
                refine tkW (v := ?_) 11 nwAl11 rfl (by kernel_rfl) (by kernel_rfl) (by kernel_rfl) (fun _ _ _ h => h) (by rfl) ?_ (by assumption) ?_
                rotate_left
                · intro w hSw; (try dsimp only at hSw); go_simp; (try with_reducible rfl)
                (try simp only [Act.put, nwAl11, List.setIfInBounds_toArray, List.set_cons_zero, List.set_cons_succ])
                refine tkW (v := ?_) 12 nwAl12 rfl (by kernel_rfl) (by kernel_rfl) (by kernel_rfl) (fun _ _ _ h => h) (by rfl) ?_ (by assumption) ?_
                rotate_left
                · intro w hSw; (try dsimp only at hSw); go_simp; (try with_reducible rfl)
                (try simp only [Act.put, nwAl12, List.setIfInBounds_toArray, List.set_cons_zero, List.set_cons_succ])
                refine tkW (v := ?_) 13 nwAl13 rfl (by kernel_rfl) (by kernel_rfl) (by kernel_rfl) (fun _ _ _ h => h) (by rfl) ?_ (by assumption) ?_
                rotate_left
                · intro w hSw; (try dsimp only at hSw); go_simp; (try with_reducible rfl)
                (try simp only [Act.put, nwAl13, List.setIfInBounds_toArray, List.set_cons_zero, List.set_cons_succ])
                refine tkU 14 nwAl14 rfl (by kernel_rfl) (by kernel_rfl) (by kernel_rfl) (fun _ _ _ h => h) (by rfl) (by assumption) ?_
                (try simp only [Act.put, nwAl14, List.setIfInBounds_toArray, List.set_cons_zero, List.set_cons_succ])
                refine tkU 15 nwAl15 rfl (by kernel_rfl) (by kernel_rfl) (by kernel_rfl) (fun _ _ _ h => h) (by rfl) (by assumption) ?_
                (try simp only [Act.put, nwAl15, List.setIfInBounds_toArray, List.set_cons_zero, List.set_cons_succ])
                refine tkU 16 nwAl16 rfl (by kernel_rfl) (by kernel_rfl) (by kernel_rfl) (fun _ _ _ h => h) (by rfl) (by assumption) ?_
                (try simp only [Act.put, nwAl16, List.setIfInBounds_toArray, List.set_cons_zero, List.set_cons_succ])
                refine tkU 17 nwAl17 rfl (by kernel_rfl) (by kernel_rfl) (by kernel_rfl) (fun _ _ _ h => h) (by rfl) (by assumption) ?_
                (try simp only [Act.put, nwAl17, List.setIfInBounds_toArray, List.set_cons_zero, List.set_cons_succ])
                refine tkU 18 nwAl18 rfl (by kernel_rfl) (by kernel_rfl) (by kernel_rfl) (fun _ _ _ h => h) (by rfl) (by assumption) ?_
                (try simp only [Act.put, nwAl18, List.setIfInBounds_toArray, List.set_cons_zero, List.set_cons_succ])
                refine tkU 19 nwAl19 rfl (by kernel_rfl) (by kernel_rfl) (by kernel_rfl) (fun _ _ _ h => h) (by rfl) (by assumption) ?_
                (try simp only [Act.put, nwAl19, List.setIfInBounds_toArray, List.set_cons_zero, List.set_cons_succ])
                refine tkU 20 nwAl20 rfl (by kernel_rfl) (by kernel_rfl) (by kernel_rfl) (fun _ _ _ h => h) (by rfl) (by assumption) ?_
                (try simp only [Act.put, nwAl20, List.setIfInBounds_toArray, List.set_cons_zero, List.set_cons_succ])
                refine tkU 21 nwAl21 rfl (by kernel_rfl) (by kernel_rfl) (by kernel_rfl) (fun _ _ _ h => h) (by rfl) (by assumption) ?_
                (try simp only [Act.put, nwAl21, List.setIfInBounds_toArray, List.set_cons_zero, List.set_cons_succ])
                refine tkU 22 nwAl22 rfl (by kernel_rfl) (by kernel_rfl) (by kernel_rfl) (fun _ _ _ h => h) (by rfl) (by assumption) ?_
                (try simp only [Act.put, nwAl22, List.setIfInBounds_toArray, List.set_cons_zero, List.set_cons_succ])
                refine tkU 23 nwAl23 rfl (by kernel_rfl) (by kernel_rfl) (by kernel_rfl) (fun _ _ _ h => h) (by rfl) (by assumption) ?_
                (try simp only [Act.put, nwAl23, List.setIfInBounds_toArray, List.set_cons_zero, List.set_cons_succ])
                refine tkU 24 nwAl24 rfl (by kernel_rfl) (by kernel_rfl) (by kernel_rfl) (fun _ _ _ h => h) (by rfl) (by assumption) ?_
                (try simp only [Act.put, nwAl24, List.setIfInBounds_toArray, List.set_cons_zero, List.set_cons_succ])
                refine tkW (v := ?_) 25 nwAl25 rfl (by kernel_rfl) (by kernel_rfl) (by kernel_rfl) (fun _ _ _ h => h) (by rfl) ?_ (by assumption) ?_
                rotate_left
                · intro w hSw; (try dsimp only at hSw); go_simp; (try with_reducible rfl)
                (try simp only [Act.put, nwAl25, List.setIfInBounds_toArray, List.set_cons_zero, List.set_cons_succ])
                refine tkW (v := ?_) 26 nwAl26 rfl (by kernel_rfl) (by kernel_rfl) (by kernel_rfl) (fun _ _ _ h => h) (by rfl) ?_ (by assumption) ?_
                rotate_left
                · intro w hSw; (try dsimp only at hSw); go_simp; (try with_reducible rfl)
                (try simp only [Act.put, nwAl26, List.setIfInBounds_toArray, List.set_cons_zero, List.set_cons_succ])
                refine tkW (v := ?_) 27 nwAl27 rfl (by kernel_rfl) (by kernel_rfl) (by kernel_rfl) (fun _ _ _ h => h) (by rfl) ?_ (by assumption) ?_
                rotate_left
                · intro w hSw; (try dsimp only at hSw); go_simp; (try with_reducible rfl)
                (try simp only [Act.put, nwAl27, List.setIfInBounds_toArray, List.set_cons_zero, List.set_cons_succ])
                refine wpAnyH_done (by kernel_rfl) ?_ _
                go_wp2
                go_roundw
                case rel => exact ⟨j + 1, by omega, by rw [N2.out], by go_num, Lib.hid (JJ.out.trans (by first | assumption | exact Kp.drew _))⟩
                case measure => simp [intOf]; omega
          · have q2 : decide ((j : Int) < (Q.length : Int)) = false := decide_eq_false (by omega)
            have q2n : decide (j < Q.length) = false := decide_eq_false hlq
            obtain rfl : j = Q.length := by omega
            rcases RA6.out.kp (J.out.trans JJ.out) with ⟨_, _, _, e⟩ | ⟨bp, op, cpp, ev, hc, hmx, hx⟩
            · rw [e] at hlt; simp at hlt
            cases ev
            obtain ⟨d1, d2⟩ := hx i hlt
            obtain ⟨v1, v2, v3⟩ := OKP.out i hlt
            have AX := AN.out i hlt
            have CX := CZ.out (at_ P i) v1
            have HQ := HAS.out i hlt
            obtain ⟨p, hp⟩ : ∃ p, at_ P i = p := ⟨_, rfl⟩
            rw [hp] at d1 d2 v1 v2 v3 AX CX HQ
            rw [hp]
            obtain ⟨ps, pt⟩ := p
            simp only at d1 d2 v1 v2 v3 AX CX HQ
            have CI := INr.out ps pt
            have CH := HXr.out ps pt
            rw [HQ] at CH
            rw [CX]
            generalize inB m ps pt = c2 at *
            have e1 : (c2 != c2) = false := by simp
            have CI := Lib.hid (fun w' (kk : Kp wi w') => CI w' (J.out.trans (JJ.out.trans kk)) (by omega) (by omega) (by omega) (by omega))
            have CH := Lib.hid (fun w' (kk : Kp wi w') => CH w' (J.out.trans (JJ.out.trans kk)) (by omega) (by omega) (by omega) (by omega))
            have K2 := Lib.hid (J.out.trans JJ.out)
            have DD := Lib.hid (fun w' (kq : Kp wi w') => (show w'.cell? ⟨bp, op + i * 2, none⟩ = some (.int .i64 ps) ∧ w'.cell? ⟨bp, op + i * 2 + 1, none⟩ = some (.int .i64 pt) from ⟨cell_up kq d1, cell_up kq d2⟩))
            have AY := Lib.hid AX
            have KI := Lib.hid (Kp.refl wi)
            clear hx hc hmx CX AX hp hlq v1 v2 v3 HQ
            cases hA : A i with
            | true =>
              have N2 := Lib.hid (show A (i + 1) = true by rw [AY.out, hA]; rfl)
              clear hA AY
              go_wp2_with fail
              refine (CI.out _ (by first | with_reducible exact Kp.refl _ | with_reducible exact Kp.alloc _ _ | with_reducible exact (Kp.alloc _ _).trans (Kp.alloc _ _) | with_reducible exact ((Kp.alloc _ _).trans (Kp.alloc _ _)).trans (Kp.alloc _ _) | with_reducible exact Kp.drew _ | with_reducible exact Kp.drewN _ _)).mono ?_
              rintro e w7 ⟨rfl, k7⟩
              have K7 := Lib.hid ((show Kp wi _ from (by first | with_reducible exact Kp.refl _ | with_reducible exact Kp.alloc _ _ | with_reducible exact (Kp.alloc _ _).trans (Kp.alloc _ _) | with_reducible exact ((Kp.alloc _ _).trans (Kp.alloc _ _)).trans (Kp.alloc _ _) | with_reducible exact Kp.drew _ | with_reducible exact Kp.drewN _ _)).trans k7)
              clear k7 d1 d2
              obtain ⟨d1, d2⟩ := DD.out w7 K7.out
              go_wp2_with fail
              refine (CH.out _ (K7.out.trans (by first | with_reducible exact Kp.refl _ | with_reducible exact Kp.alloc _ _ | with_reducible exact (Kp.alloc _ _).trans (Kp.alloc _ _) | with_reducible exact ((Kp.alloc _ _).trans (Kp.alloc _ _)).trans (Kp.alloc _ _) | with_reducible exact Kp.drew _ | with_reducible exact Kp.drewN _ _))).mono ?_
              rintro e w8 ⟨rfl, k8⟩
              have K8 := Lib.hid (K7.out.trans ((show Kp w7 _ from (by first | with_reducible exact Kp.refl _ | with_reducible exact Kp.alloc _ _ | with_reducible exact (Kp.alloc _ _).trans (Kp.alloc _ _) | with_reducible exact ((Kp.alloc _ _).trans (Kp.alloc _ _)).trans (Kp.alloc _ _) | with_reducible exact Kp.drew _ | with_reducible exact Kp.drewN _ _)).trans k8))
              clear k8
              go_wp2
              go_roundw
              case rel => exact ⟨i + 1, by omega, by rw [N2.out], by go_num, Lib.hid (K2.out.trans (K8.out.trans (by first | with_reducible exact Kp.refl _ | with_reducible exact Kp.alloc _ _ | with_reducible exact (Kp.alloc _ _).trans (Kp.alloc _ _) | with_reducible exact ((Kp.alloc _ _).trans (Kp.alloc _ _)).trans (Kp.alloc _ _) | with_reducible exact Kp.drew _ | with_reducible exact Kp.drewN _ _)))⟩
              case measure => have := HLT.out; simp [intOf]; omega
            | false =>
              have N2 := Lib.hid (show A (i + 1) = c2 by rw [AY.out, hA]; rfl)
              clear hA AY
              go_wp2_with fail
              refine (CI.out _ (by first | with_reducible exact Kp.refl _ | with_reducible exact Kp.alloc _ _ | with_reducible exact (Kp.alloc _ _).trans (Kp.alloc _ _) | with_reducible exact ((Kp.alloc _ _).trans (Kp.alloc _ _)).trans (Kp.alloc _ _) | with_reducible exact Kp.drew _ | with_reducible exact Kp.drewN _ _)).mono ?_
              rintro e w7 ⟨rfl, k7⟩
              have K7 := Lib.hid ((show Kp wi _ from (by first | with_reducible exact Kp.refl _ | with_reducible exact Kp.alloc _ _ | with_reducible exact (Kp.alloc _ _).trans (Kp.alloc _ _) | with_reducible exact ((Kp.alloc _ _).trans (Kp.alloc _ _)).trans (Kp.alloc _ _) | with_reducible exact Kp.drew _ | with_reducible exact Kp.drewN _ _)).trans k7)
              clear k7 d1 d2
              obtain ⟨d1, d2⟩ := DD.out w7 K7.out
              go_wp2_with fail
              refine (CH.out _ (K7.out.trans (by first | with_reducible exact Kp.refl _ | with_reducible exact Kp.alloc _ _ | with_reducible exact (Kp.alloc _ _).trans (Kp.alloc _ _) | with_reducible exact ((Kp.alloc _ _).trans (Kp.alloc _ _)).trans (Kp.alloc _ _) | with_reducible exact Kp.drew _ | with_reducible exact Kp.drewN _ _))).mono ?_
              rintro e w8 ⟨rfl, k8⟩
              have K8 := Lib.hid (K7.out.trans ((show Kp w7 _ from (by first | with_reducible exact Kp.refl _ | with_reducible exact Kp.alloc _ _ | with_reducible exact (Kp.alloc _ _).trans (Kp.alloc _ _) | with_reducible exact ((Kp.alloc _ _).trans (Kp.alloc _ _)).trans (Kp.alloc _ _) | with_reducible exact Kp.drew _ | with_reducible exact Kp.drewN _ _)).trans k8))
              clear k8
              go_wp2
              go_roundw
              case rel => exact ⟨i + 1, by omega, by rw [N2.out], by go_num, Lib.hid (K2.out.trans (K8.out.trans (by first | with_reducible exact Kp.refl _ | with_reducible exact Kp.alloc _ _ | with_reducible exact (Kp.alloc _ _).trans (Kp.alloc _ _) | with_reducible exact ((Kp.alloc _ _).trans (Kp.alloc _ _)).trans (Kp.alloc _ _) | with_reducible exact Kp.drew _ | with_reducible exact Kp.drewN _ _)))⟩
              case measure => have := HLT.out; simp [intOf]; omega
      · have q1 : decide ((i : Int) < (P.length : Int)) = false := decide_eq_false (by omega)
        have q1n : decide (i < P.length) = false := decide_eq_false hlt
        obtain rfl : i = P.length := by omega
        have hE := HA.out
        rw [hE]
        go_wp2
        go_ret
        exact ⟨rfl, K00.out.trans (K6.out.trans (J.out.trans (by first | with_reducible exact Kp.refl _ | with_reducible exact Kp.alloc _ _ | with_reducible exact (Kp.alloc _ _).trans (Kp.alloc _ _) | with_reducible exact ((Kp.alloc _ _).trans (Kp.alloc _ _)).trans (Kp.alloc _ _) | with_reducible exact Kp.drew _ | with_reducible exact Kp.drewN _ _)))⟩
set_option maxHeartbeats 16000000 in
set_option maxRecDepth 100000 in
theorem narrowAll_walk (vl : Value) (l : List LF) (vm : Value) (m : List LF) (w : World) (rl : LeavesAt w vl l) (gl : ∀ f ∈ l, LeafG f) (rm : LeavesAt w vm m) (gm : ∀ f ∈ m, LeafG f) (T : Tabs w) :
    Calls Tryz.prog 7 #[vl, vm] w fun e w' => e = .returned (.bool true) ∧ Kp w w' := by
  rcases Bool.eq_false_or_eq_true (few22 l) with hf | hf
  · rcases Bool.eq_false_or_eq_true (few22 m) with hg | hg
    · exact nall_main vl l vm m w rl gl rm gm T hf hg
    · exact nall_f2 vl l vm m w rl gl rm gm T hf hg
  · exact nall_f1 vl l vm m w rl gl rm gm T hf
end Go.Proofs.YtjdnejglapnbbaaGreatDoor
