/-
  Joined: L13B, LParseBack.
-/
import Derived.Test.YtndmohamjffpcaaDoorGPsR
import Derived.Test.YtndmohamjffpcaaDoorGPrA
import Derived.Test.YtndmohamjffpcaaDoorGTrB
import Derived.Test.YtndmohamjffpcaaDoorCards
import Derived.Test.YtndmohamjffpcaaDoorTie
import Derived.WalkKit
import Derived.ProofKit
import Derived.OpenShut
import Derived.ShutString
import Derived.ChangeOld
import Derived.Below
import Derived.Deep.DeepHandedRow
import Derived.Lib.LaidTab
import Derived.Carry
namespace Go.Proofs.YtndmohamjffpcaaDoor
open Go.RowKit Go.Shelf
set_option linter.unusedVariables false
set_option linter.unusedSimpArgs false
set_option maxHeartbeats 16000000 in
set_option maxRecDepth 100000 in
theorem pback_long (n : ND) (u : Value) (w : World) (hn : NodesAt w u n.l) (T : TabSH w) (hf : fewG n = false) :
    Calls Tryd.prog 3 #[ndV n u] w fun e w' => e = .returned (.bool true) ∧ Kp w w' := by
  obtain ⟨ad, cp, rfl⟩ := hn.slice
  have AW := Lib.hid (fun w1 (kk : Kp w w1) => show Calls Tryd.prog 8 #[] w1 fun e w' => e = .returned (.bool true) ∧ Kp w1 w' from awake13 w1 (T.kp kk))
  have FW := Lib.hid (fun ad1 cp1 w1 (h : NodesAt w1 (.slice ad1 n.l.length cp1) n.l) (kk : Kp w w1) => show Calls Tryd.prog 9 #[.agg #[.int .i64 n.k, .int .i64 n.p.k, .string n.p.y, .string n.p.m, .string n.p.d, .bool n.a, .bool n.t, .slice ad1 n.l.length cp1]] w1 fun e w' => e = .returned (.bool false) ∧ Kp w1 w' from hf ▸ rfewG_any n _ w1 h)
  unfold ndV
  have K00 := Lib.hid (Kp.refl w)
  obtain ⟨v0, hV⟩ : ∃ x, x = (w.alloc (.cells #[.int .i64 n.k, .int .i64 n.p.k, .string n.p.y, .string n.p.m, .string n.p.d, .bool n.a, .bool n.t, .slice ad n.l.length cp] 26)) := ⟨_, rfl⟩
  have ka : Kp w v0 := by rw [hV]; exact Kp.alloc _ _
  have Bx := Lib.hid (show NB v0 (w.heap.size) n from NB.of (by rw [hV]; exact heap_at _ _ _ (by first | rfl | simp)) ((hn).kp ka))
  have Kv0 := Lib.hid ka
  have HV := Lib.hid hV
  clear hV ka
  clear T hn hf
  go_enter Tryd.func3, Tryd.ntmps3
  go_upto_region 1 with fail
  rw [← HV.out]
  clear HV
  go_wp2_with fail
  refine (AW.out _ (Kv0.out.trans (by first | with_reducible exact (Kp.refl v0) | ((repeat (first | with_reducible refine Kp.trans ?_ (Kp.drew _) | with_reducible refine Kp.trans ?_ (Kp.alloc _ _))); with_reducible exact (Kp.refl v0))))).mono ?_
  rintro e w1 ⟨rfl, kk⟩
  have kz : Kp v0 w1 := Kp.trans (show Kp v0 _ from (by first | with_reducible exact (Kp.refl v0) | ((repeat (first | with_reducible refine Kp.trans ?_ (Kp.drew _) | with_reducible refine Kp.trans ?_ (Kp.alloc _ _))); with_reducible exact (Kp.refl v0)))) kk
  clear kk
  have Kw1 := Lib.hid (Kv0.out.trans kz)
  have Bx := Lib.hid (Bx.out.kp kz)
  clear kz
  go_upto_region 2 with fail
  obtain ⟨adx, cpx, gx, nx⟩ := Bx.out.opn
  have Nx := Lib.hid nx
  obtain ⟨cx0, cx1, cx2, cx3, cx4, cx5, cx6, cx7⟩ := row8 gx
  clear nx gx
  go_wp2_with fail
  refine (FW.out _ _ _ Nx.out (Kw1.out.trans (by first | with_reducible exact (Kp.refl w1) | ((repeat (first | with_reducible refine Kp.trans ?_ (Kp.drew _) | with_reducible refine Kp.trans ?_ (Kp.alloc _ _))); with_reducible exact (Kp.refl w1))))).mono ?_
  rintro e w2 ⟨rfl, kk⟩
  have kz : Kp w1 w2 := Kp.trans (show Kp w1 _ from (by first | with_reducible exact (Kp.refl w1) | ((repeat (first | with_reducible refine Kp.trans ?_ (Kp.drew _) | with_reducible refine Kp.trans ?_ (Kp.alloc _ _))); with_reducible exact (Kp.refl w1)))) kk
  clear kk
  clear cx0 cx1 cx2 cx3 cx4 cx5 cx6 cx7
  have Kw2 := Lib.hid (Kw1.out.trans kz)
  have Bx := Lib.hid (Bx.out.kp kz)
  clear kz
  go_wp2
  go_ret
  exact ⟨rfl, Kw2.out⟩
set_option maxHeartbeats 16000000 in
set_option maxRecDepth 100000 in
theorem pback_no (n : ND) (u : Value) (w : World) (hn : NodesAt w u n.l) (T : TabSH w) (hf : fewG n = true) (hs : saneN saneP n = false) :
    Calls Tryd.prog 3 #[ndV n u] w fun e w' => e = .returned (.bool true) ∧ Kp w w' := by
  obtain ⟨ad, cp, rfl⟩ := hn.slice
  have AW := Lib.hid (fun w1 (kk : Kp w w1) => show Calls Tryd.prog 8 #[] w1 fun e w' => e = .returned (.bool true) ∧ Kp w1 w' from awake13 w1 (T.kp kk))
  have FW := Lib.hid (fun ad1 cp1 w1 (h : NodesAt w1 (.slice ad1 n.l.length cp1) n.l) (kk : Kp w w1) => show Calls Tryd.prog 9 #[.agg #[.int .i64 n.k, .int .i64 n.p.k, .string n.p.y, .string n.p.m, .string n.p.d, .bool n.a, .bool n.t, .slice ad1 n.l.length cp1]] w1 fun e w' => e = .returned (.bool true) ∧ Kp w1 w' from hf ▸ rfewG_any n _ w1 h)
  have SN := Lib.hid (fun ad1 cp1 w1 (h : NodesAt w1 (.slice ad1 n.l.length cp1) n.l) (kk : Kp w w1) => show Calls Tryd.prog 10 #[.agg #[.int .i64 n.k, .int .i64 n.p.k, .string n.p.y, .string n.p.m, .string n.p.d, .bool n.a, .bool n.t, .slice ad1 n.l.length cp1]] w1 fun e w' => e = .returned (.bool false) ∧ Kp w1 w' from hs ▸ tSaneG_any n _ w1 h (T.kp kk))
  unfold ndV
  have K00 := Lib.hid (Kp.refl w)
  obtain ⟨v0, hV⟩ : ∃ x, x = (w.alloc (.cells #[.int .i64 n.k, .int .i64 n.p.k, .string n.p.y, .string n.p.m, .string n.p.d, .bool n.a, .bool n.t, .slice ad n.l.length cp] 26)) := ⟨_, rfl⟩
  have ka : Kp w v0 := by rw [hV]; exact Kp.alloc _ _
  have Bx := Lib.hid (show NB v0 (w.heap.size) n from NB.of (by rw [hV]; exact heap_at _ _ _ (by first | rfl | simp)) ((hn).kp ka))
  have Kv0 := Lib.hid ka
  have HV := Lib.hid hV
  clear hV ka
  clear T hn hf hs
  go_enter Tryd.func3, Tryd.ntmps3
  go_upto_region 1 with fail
  rw [← HV.out]
  clear HV
  go_wp2_with fail
  refine (AW.out _ (Kv0.out.trans (by first | with_reducible exact (Kp.refl v0) | ((repeat (first | with_reducible refine Kp.trans ?_ (Kp.drew _) | with_reducible refine Kp.trans ?_ (Kp.alloc _ _))); with_reducible exact (Kp.refl v0))))).mono ?_
  rintro e w1 ⟨rfl, kk⟩
  have kz : Kp v0 w1 := Kp.trans (show Kp v0 _ from (by first | with_reducible exact (Kp.refl v0) | ((repeat (first | with_reducible refine Kp.trans ?_ (Kp.drew _) | with_reducible refine Kp.trans ?_ (Kp.alloc _ _))); with_reducible exact (Kp.refl v0)))) kk
  clear kk
  have Kw1 := Lib.hid (Kv0.out.trans kz)
  have Bx := Lib.hid (Bx.out.kp kz)
  clear kz
  go_upto_region 2 with fail
  obtain ⟨adx, cpx, gx, nx⟩ := Bx.out.opn
  have Nx := Lib.hid nx
  obtain ⟨cx0, cx1, cx2, cx3, cx4, cx5, cx6, cx7⟩ := row8 gx
  clear nx gx
  go_wp2_with fail
  refine (FW.out _ _ _ Nx.out (Kw1.out.trans (by first | with_reducible exact (Kp.refl w1) | ((repeat (first | with_reducible refine Kp.trans ?_ (Kp.drew _) | with_reducible refine Kp.trans ?_ (Kp.alloc _ _))); with_reducible exact (Kp.refl w1))))).mono ?_
  rintro e w2 ⟨rfl, kk⟩
  have kz : Kp w1 w2 := Kp.trans (show Kp w1 _ from (by first | with_reducible exact (Kp.refl w1) | ((repeat (first | with_reducible refine Kp.trans ?_ (Kp.drew _) | with_reducible refine Kp.trans ?_ (Kp.alloc _ _))); with_reducible exact (Kp.refl w1)))) kk
  clear kk
  clear cx0 cx1 cx2 cx3 cx4 cx5 cx6 cx7
  have Kw2 := Lib.hid (Kw1.out.trans kz)
  have Bx := Lib.hid (Bx.out.kp kz)
  clear kz
  obtain ⟨adx, cpx, gx, nx⟩ := Bx.out.opn
  have Nx := Lib.hid nx
  obtain ⟨cx0, cx1, cx2, cx3, cx4, cx5, cx6, cx7⟩ := row8 gx
  clear nx gx
  go_wp2_with fail
  refine (SN.out _ _ _ Nx.out (Kw2.out.trans (by first | with_reducible exact (Kp.refl w2) | ((repeat (first | with_reducible refine Kp.trans ?_ (Kp.drew _) | with_reducible refine Kp.trans ?_ (Kp.alloc _ _))); with_reducible exact (Kp.refl w2))))).mono ?_
  rintro e w3 ⟨rfl, kk⟩
  have kz : Kp w2 w3 := Kp.trans (show Kp w2 _ from (by first | with_reducible exact (Kp.refl w2) | ((repeat (first | with_reducible refine Kp.trans ?_ (Kp.drew _) | with_reducible refine Kp.trans ?_ (Kp.alloc _ _))); with_reducible exact (Kp.refl w2)))) kk
  clear kk
  clear cx0 cx1 cx2 cx3 cx4 cx5 cx6 cx7
  have Kw3 := Lib.hid (Kw2.out.trans kz)
  have Bx := Lib.hid (Bx.out.kp kz)
  clear kz
  go_wp2
  go_ret
  exact ⟨rfl, Kw3.out⟩
set_option maxHeartbeats 16000000 in
set_option maxRecDepth 100000 in
theorem pback_yes (n : ND) (u : Value) (w : World) (hn : NodesAt w u n.l) (T : TabSH w) (hf : fewG n = true) (hs : saneN saneP n = true) :
    Calls Tryd.prog 3 #[ndV n u] w fun e w' => e = .returned (.bool true) ∧ Kp w w' := by
  obtain ⟨ad, cp, rfl⟩ := hn.slice
  have AW := Lib.hid (fun w1 (kk : Kp w w1) => show Calls Tryd.prog 8 #[] w1 fun e w' => e = .returned (.bool true) ∧ Kp w1 w' from awake13 w1 (T.kp kk))
  have FW := Lib.hid (fun ad1 cp1 w1 (h : NodesAt w1 (.slice ad1 n.l.length cp1) n.l) (kk : Kp w w1) => show Calls Tryd.prog 9 #[.agg #[.int .i64 n.k, .int .i64 n.p.k, .string n.p.y, .string n.p.m, .string n.p.d, .bool n.a, .bool n.t, .slice ad1 n.l.length cp1]] w1 fun e w' => e = .returned (.bool true) ∧ Kp w1 w' from hf ▸ rfewG_any n _ w1 h)
  have SN := Lib.hid (fun ad1 cp1 w1 (h : NodesAt w1 (.slice ad1 n.l.length cp1) n.l) (kk : Kp w w1) => show Calls Tryd.prog 10 #[.agg #[.int .i64 n.k, .int .i64 n.p.k, .string n.p.y, .string n.p.m, .string n.p.d, .bool n.a, .bool n.t, .slice ad1 n.l.length cp1]] w1 fun e w' => e = .returned (.bool true) ∧ Kp w1 w' from hs ▸ tSaneG_any n _ w1 h (T.kp kk))
  have c64 := (cn_right hs).2
  have TX := Lib.hid (fun ad1 cp1 w1 (h : NodesAt w1 (.slice ad1 n.l.length cp1) n.l) (kk : Kp w w1) => show Calls Tryd.prog 11 #[.agg #[.int .i64 n.k, .int .i64 n.p.k, .string n.p.y, .string n.p.m, .string n.p.d, .bool n.a, .bool n.t, .slice ad1 n.l.length cp1]] w1 fun e w' => e = .returned (.string (bs (textN n))) ∧ Kp w1 w' from ptext_any n _ w1 h (by omega) (T.kp kk))
  have SM := Lib.hid (fun ad1 cp1 ad2 cp2 w1 (h : NodesAt w1 (.slice ad1 n.l.length cp1) n.l) (h2 : NodesAt w1 (.slice ad2 n.l.length cp2) n.l) (kk : Kp w w1) => show Calls Tryd.prog 13 #[.agg #[.int .i64 n.k, .int .i64 n.p.k, .string n.p.y, .string n.p.m, .string n.p.d, .bool n.a, .bool n.t, .slice ad1 n.l.length cp1], .agg #[.int .i64 n.k, .int .i64 n.p.k, .string n.p.y, .string n.p.m, .string n.p.d, .bool n.a, .bool n.t, .slice ad2 n.l.length cp2]] w1 fun e w' => e = .returned (.bool true) ∧ Kp w1 w' from same_refl n ▸ tSame_any n n _ _ w1 h h2 (by omega))
  obtain ⟨pr, sz⟩ := pr_text hs
  have PA := Lib.hid (fun w1 (kk : Kp w w1) => show Calls Tryd.prog 12 #[.string (bs (textN n))] w1 fun en w' => ∃ ad cp, en = .returned (.tuple #[.agg #[.int .i64 n.k, .int .i64 n.p.k, .string n.p.y, .string n.p.m, .string n.p.d, .bool n.a, .bool n.t, .slice ad n.l.length cp], .int .i64 ((bs (textN n)).size : Nat), .int .i64 0]) ∧ Fnd w' w1.heap.size (fun _ => False) (.slice ad n.l.length cp) n.l ∧ Kp w1 w' from parse_any pr w1 (by unfold maxLen; omega) (T.kp kk))
  generalize bs (textN n) = tx at *
  clear pr c64
  unfold ndV
  have K00 := Lib.hid (Kp.refl w)
  obtain ⟨v0, hV⟩ : ∃ x, x = (w.alloc (.cells #[.int .i64 n.k, .int .i64 n.p.k, .string n.p.y, .string n.p.m, .string n.p.d, .bool n.a, .bool n.t, .slice ad n.l.length cp] 26)) := ⟨_, rfl⟩
  have ka : Kp w v0 := by rw [hV]; exact Kp.alloc _ _
  have Bx := Lib.hid (show NB v0 (w.heap.size) n from NB.of (by rw [hV]; exact heap_at _ _ _ (by first | rfl | simp)) ((hn).kp ka))
  have Kv0 := Lib.hid ka
  have HV := Lib.hid hV
  clear hV ka
  clear T hn hf hs
  go_enter Tryd.func3, Tryd.ntmps3
  go_upto_region 1 with fail
  rw [← HV.out]
  clear HV
  go_wp2_with fail
  refine (AW.out _ (Kv0.out.trans (by first | with_reducible exact (Kp.refl v0) | ((repeat (first | with_reducible refine Kp.trans ?_ (Kp.drew _) | with_reducible refine Kp.trans ?_ (Kp.alloc _ _))); with_reducible exact (Kp.refl v0))))).mono ?_
  rintro e w1 ⟨rfl, kk⟩
  have kz : Kp v0 w1 := Kp.trans (show Kp v0 _ from (by first | with_reducible exact (Kp.refl v0) | ((repeat (first | with_reducible refine Kp.trans ?_ (Kp.drew _) | with_reducible refine Kp.trans ?_ (Kp.alloc _ _))); with_reducible exact (Kp.refl v0)))) kk
  clear kk
  have Kw1 := Lib.hid (Kv0.out.trans kz)
  have Bx := Lib.hid (Bx.out.kp kz)
  clear kz
  go_upto_region 2 with fail
  obtain ⟨adx, cpx, gx, nx⟩ := Bx.out.opn
  have Nx := Lib.hid nx
  obtain ⟨cx0, cx1, cx2, cx3, cx4, cx5, cx6, cx7⟩ := row8 gx
  clear nx gx
  go_wp2_with fail
  refine (FW.out _ _ _ Nx.out (Kw1.out.trans (by first | with_reducible exact (Kp.refl w1) | ((repeat (first | with_reducible refine Kp.trans ?_ (Kp.drew _) | with_reducible refine Kp.trans ?_ (Kp.alloc _ _))); with_reducible exact (Kp.refl w1))))).mono ?_
  rintro e w2 ⟨rfl, kk⟩
  have kz : Kp w1 w2 := Kp.trans (show Kp w1 _ from (by first | with_reducible exact (Kp.refl w1) | ((repeat (first | with_reducible refine Kp.trans ?_ (Kp.drew _) | with_reducible refine Kp.trans ?_ (Kp.alloc _ _))); with_reducible exact (Kp.refl w1)))) kk
  clear kk
  clear cx0 cx1 cx2 cx3 cx4 cx5 cx6 cx7
  have Kw2 := Lib.hid (Kw1.out.trans kz)
  have Bx := Lib.hid (Bx.out.kp kz)
  clear kz
  obtain ⟨adx, cpx, gx, nx⟩ := Bx.out.opn
  have Nx := Lib.hid nx
  obtain ⟨cx0, cx1, cx2, cx3, cx4, cx5, cx6, cx7⟩ := row8 gx
  clear nx gx
  go_wp2_with fail
  refine (SN.out _ _ _ Nx.out (Kw2.out.trans (by first | with_reducible exact (Kp.refl w2) | ((repeat (first | with_reducible refine Kp.trans ?_ (Kp.drew _) | with_reducible refine Kp.trans ?_ (Kp.alloc _ _))); with_reducible exact (Kp.refl w2))))).mono ?_
  rintro e w3 ⟨rfl, kk⟩
  have kz : Kp w2 w3 := Kp.trans (show Kp w2 _ from (by first | with_reducible exact (Kp.refl w2) | ((repeat (first | with_reducible refine Kp.trans ?_ (Kp.drew _) | with_reducible refine Kp.trans ?_ (Kp.alloc _ _))); with_reducible exact (Kp.refl w2)))) kk
  clear kk
  clear cx0 cx1 cx2 cx3 cx4 cx5 cx6 cx7
  have Kw3 := Lib.hid (Kw2.out.trans kz)
  have Bx := Lib.hid (Bx.out.kp kz)
  clear kz
  go_upto_region 4 with fail
  obtain ⟨adx, cpx, gx, nx⟩ := Bx.out.opn
  have Nx := Lib.hid nx
  obtain ⟨cx0, cx1, cx2, cx3, cx4, cx5, cx6, cx7⟩ := row8 gx
  clear nx gx
  go_wp2_with fail
  refine (TX.out _ _ _ Nx.out (Kw3.out.trans (by first | with_reducible exact (Kp.refl w3) | ((repeat (first | with_reducible refine Kp.trans ?_ (Kp.drew _) | with_reducible refine Kp.trans ?_ (Kp.alloc _ _))); with_reducible exact (Kp.refl w3))))).mono ?_
  rintro e w4 ⟨rfl, kk⟩
  have kz : Kp w3 w4 := Kp.trans (show Kp w3 _ from (by first | with_reducible exact (Kp.refl w3) | ((repeat (first | with_reducible refine Kp.trans ?_ (Kp.drew _) | with_reducible refine Kp.trans ?_ (Kp.alloc _ _))); with_reducible exact (Kp.refl w3)))) kk
  clear kk
  clear cx0 cx1 cx2 cx3 cx4 cx5 cx6 cx7
  have Kw4 := Lib.hid (Kw3.out.trans kz)
  have Bx := Lib.hid (Bx.out.kp kz)
  clear kz
  go_wp2_with fail
  refine (PA.out _ (Kw4.out.trans (by first | with_reducible exact (Kp.refl w4) | ((repeat (first | with_reducible refine Kp.trans ?_ (Kp.drew _) | with_reducible refine Kp.trans ?_ (Kp.alloc _ _))); with_reducible exact (Kp.refl w4))))).mono ?_
  rintro e w5 ⟨ad1, cp1, rfl, f1, kk⟩
  have kz : Kp w4 w5 := Kp.trans (show Kp w4 _ from (by first | with_reducible exact (Kp.refl w4) | ((repeat (first | with_reducible refine Kp.trans ?_ (Kp.drew _) | with_reducible refine Kp.trans ?_ (Kp.alloc _ _))); with_reducible exact (Kp.refl w4)))) kk
  clear kk
  have Kw5 := Lib.hid (Kw4.out.trans kz)
  have Bx := Lib.hid (Bx.out.kp kz)
  clear kz
  obtain ⟨vw5, hV⟩ : ∃ x, x = w5.alloc (.cells #[.int .i64 n.k, .int .i64 n.p.k, .string n.p.y, .string n.p.m, .string n.p.d, .bool n.a, .bool n.t, .slice ad1 n.l.length cp1] 26) := ⟨_, rfl⟩
  have ka : Kp w5 vw5 := by rw [hV]; exact Kp.alloc _ _
  have By' := Lib.hid (show NB vw5 w5.heap.size n from NB.of (by rw [hV]; exact heap_at _ _ _ rfl) ((f1.nodes).kp ka))
  have Kvw5 := Lib.hid (Kw5.out.trans ka)
  have Bx := Lib.hid (Bx.out.kp ka)
  have By := By'
  have HV := Lib.hid hV
  clear hV ka By'
  go_upto_region 6 with fail
  rw [← HV.out]
  clear HV
  clear f1
  obtain ⟨adx, cpx, gx, nx⟩ := Bx.out.opn
  have Nx := Lib.hid nx
  obtain ⟨cx0, cx1, cx2, cx3, cx4, cx5, cx6, cx7⟩ := row8 gx
  clear nx gx
  obtain ⟨ady, cpy, gy, ny⟩ := By.out.opn
  have Ny := Lib.hid ny
  obtain ⟨cy0, cy1, cy2, cy3, cy4, cy5, cy6, cy7⟩ := row8 gy
  clear ny gy
  go_wp2_with fail
  refine (SM.out _ _ _ _ _ Ny.out Nx.out (Kvw5.out.trans (by first | with_reducible exact (Kp.refl vw5) | ((repeat (first | with_reducible refine Kp.trans ?_ (Kp.drew _) | with_reducible refine Kp.trans ?_ (Kp.alloc _ _))); with_reducible exact (Kp.refl vw5))))).mono ?_
  rintro e w6 ⟨rfl, kk⟩
  have kz : Kp vw5 w6 := Kp.trans (show Kp vw5 _ from (by first | with_reducible exact (Kp.refl vw5) | ((repeat (first | with_reducible refine Kp.trans ?_ (Kp.drew _) | with_reducible refine Kp.trans ?_ (Kp.alloc _ _))); with_reducible exact (Kp.refl vw5)))) kk
  clear kk
  clear cx0 cx1 cx2 cx3 cx4 cx5 cx6 cx7 cy0 cy1 cy2 cy3 cy4 cy5 cy6 cy7
  have Kw6 := Lib.hid (Kvw5.out.trans kz)
  have Bx := Lib.hid (Bx.out.kp kz)
  have By := Lib.hid (By.out.kp kz)
  clear kz
  go_wp2
  go_ret
  exact ⟨rfl, Kw6.out⟩
theorem parseBack_walk (n : ND) (u : Value) (w : World) (hn : NodesAt w u n.l) (T : TabSH w) :
    Calls Tryd.prog 3 #[ndV n u] w fun e w' => e = .returned (.bool true) ∧ Kp w w' := by
  rcases Bool.eq_false_or_eq_true (fewG n) with hf | hf
  · rcases Bool.eq_false_or_eq_true (saneN saneP n) with hs | hs
    · exact pback_yes n u w hn T hf hs
    · exact pback_no n u w hn T hf hs
  · exact pback_long n u w hn T hf
end Go.Proofs.YtndmohamjffpcaaDoor

namespace Go.Proofs.YtndmohamjffpcaaDoor.lawParseBack
open Go.ChangeShapes Go.WideShapes Go.ChangeAt Go.RowKit
open Go.ChangeMaps (open_string shut_string)
set_option linter.unusedVariables false

theorem own : ownKnob Tryd.prog.godebug = none := by kernel_rfl
theorem laidOut : laidOutB Tryd.prog = true := by kernel_rfl

/-- A world for the witness: the settled one, each table holding what its initialiser lays. -/
noncomputable def laidWorld (os : Os) : World :=
  { World.holding Tryd.prog os ⟨#[], #[], []⟩ with heap := ((World.holding Tryd.prog os ⟨#[], #[], []⟩).heap.modify 0 fun
      | .cells _ t frozen => .cells #[.int .i64 4, .int .i64 2, .int .i64 2, .int .i64 12, .string ⟨#[]⟩, .int .i64 4, .int .i64 2, .int .i64 0, .int .i64 12, .string ⟨#[]⟩, .int .i64 4, .int .i64 1, .int .i64 0, .int .i64 4, .string ⟨#[]⟩, .int .i64 4, .int .i64 0, .int .i64 0, .int .i64 0, .string ⟨#[]⟩, .int .i64 3, .int .i64 0, .int .i64 0, .int .i64 0, .string ⟨#[100]⟩, .int .i64 2, .int .i64 0, .int .i64 0, .int .i64 0, .string ⟨#[99]⟩] t frozen
      | o => o) }
theorem laid_met (os : Os) : laidMet Tryd.prog Rows.parseBackRow.laid ((laidWorld os).forCall (fun _ _ => 0) ⟨#[], #[.agg #[.int .i64 0, .int .i64 0, .string ByteArray.empty, .string ByteArray.empty, .string ByteArray.empty, .bool false, .bool false, .slice none 0 0]], []⟩).memory :=
  laidMet_of_run' 8 (by kernel_rfl) (by kernel_rfl)
theorem reads (os : Os) {H : Type} (enc : TypeId × Value → H) : ∃ places, DataW.whole enc Tryd.prog ((laidWorld os).forCall (fun _ _ => 0) ⟨#[], #[.agg #[.int .i64 0, .int .i64 0, .string ByteArray.empty, .string ByteArray.empty, .string ByteArray.empty, .bool false, .bool false, .slice none 0 0]], []⟩).memory Tryd.f3.params.toList Rows.parseBackSpec.vars false (#[.agg #[.int .i64 0, .int .i64 0, .string ByteArray.empty, .string ByteArray.empty, .string ByteArray.empty, .bool false, .bool false, .slice none 0 0]] : Array Value).toList 8 = some ([.agg [.lit (.int .i64 0), .agg [.lit (.int .i64 0), .lit (.string []), .lit (.string []), .lit (.string [])], .lit (.bool false), .lit (.bool false), .nil]], [], places) :=
  ⟨[], by kernel_rfl⟩

set_option maxRecDepth 100000 in
theorem contract (H : Type) (enc : TypeId × Value → H) (W : World) (base : Nat) (args : Array Value) (ds gs : List (DataW H)) (before : List MemPlace)
    (hval : ∀ (j : Nat) t v, Tryd.f3.params[j]? = some t → args[j]? = some v → Value.okWide Tryd.prog W .any base t v)
    (hW : DataW.Whole enc Tryd.prog Tryd.f3.params.toList Rows.parseBackSpec.vars false W args.toList ds gs before) (hL : laidMetH Tryd.prog Rows.parseBackRow.laid W) :
    Calls Tryd.prog 3 args W fun e W' => ∃ v, e = .returned v ∧ Rows.parseBackSpec.post enc Tryd.prog Tryd.f3 false true false false W args v W' := by
  have hW' := hW
  have hltA : ∀ x ∈ before, x.block < W.heap.size := fun x hx => by simpa using hW'.lt x hx
  obtain ⟨p, q, hA0, hV, rfl, hfz, hnd⟩ := hW
  have hA : DataW.TrodAll enc Tryd.prog W 0 (fun _ => true) true Tryd.f3.params.toList args.toList ds p := hA0
  rw [Tryd.params3] at hA hval
  obtain ⟨v0, vs0, d0, ds0, p0, q0, hargs, rfl, rfl, h0, r0⟩ := trodAll_cons hA
  obtain ⟨rfl, rfl, rfl⟩ := trodAll_nil r0
  obtain rfl : args = #[v0] := by cases args; simp_all
  obtain ⟨rfl, rfl⟩ := trodVars_none hV
  have hk0 := h0
  obtain ⟨n0, u0, rfl, hn0, gn0, wg0⟩ := open_node (hval 0 26 v0 rfl rfl) h0
  clear hA0
  simp only [List.append_nil] at hW'
  refine (parseBack_walk n0 u0 W hn0 (tabs_of1 hL)).mono fun e W' ⟨he, hg⟩ => ?_
  subst he
  have bel : Below W.heap.size W W' := hg
  exact ⟨_, rfl, _, _, _, [], _, [], hW', trodAll_mk1 (shut_bool Tryd.underlying4 _), (trodAll_cons_mk (Below.trod laidOut (by kernel_rfl) (of_decide_eq_true (by kernel_rfl)) hk0 bel (fun x hx => hltA x (by simp [hx]))) trodAll_mk0), rfl, bel.frame _, fun h => by cases h⟩

set_option maxRecDepth 100000 in
theorem lifted (os : Os) (started : os.Started) (H : Type) (enc : TypeId × Value → H) (F : Stop.Interp) :
    ReturnsInHanded {} Tryd.checked os 3 .any ((OpenSpec.ofChange Rows.parseBackSpec).preRow enc Tryd.prog Tryd.f3 Rows.parseBackRow.domain false Rows.parseBackRow.laid) (((OpenSpec.ofChange Rows.parseBackSpec).at F).post enc Tryd.prog Tryd.f3 false true false false) := by
  obtain ⟨places, hx⟩ := reads os enc
  refine returnsInHanded_of_row (C := Tryd.checked) (s := OpenSpec.ofChange Rows.parseBackSpec) own started (by kernel_rfl) Tryd.func3
    (witness_row_at (enc := enc) (C := Tryd.checked) false (laidWorld os) #[.agg #[.int .i64 0, .int .i64 0, .string ByteArray.empty, .string ByteArray.empty, .string ByteArray.empty, .bool false, .bool false, .slice none 0 0]] rfl (by kernel_rfl) (by kernel_rfl) (by kernel_rfl)
      (OpenSpec.preRow_of_cond 8 hx (by kernel_rfl) (fun k hk => by cases hk) (by kernel_rfl) (laid_met os))) ?_
  intro W base args ds gs before hval hW _ hcond _ hL _ _
  exact contract H enc W base args ds gs before hval hW hL

theorem said : Rows.ParseBackSaid :=
  OpenClaim.holds_of_cond 3 Tryd.f3 rfl rfl rfl rfl rfl rfl rfl ⟨rfl, rfl, rfl, rfl, rfl⟩ rfl rfl rfl rfl rfl (by kernel_rfl) Tryd.func3 (by kernel_rfl)
    (of_decide_eq_true (by kernel_rfl)) (by unfold Func.isWrapper; first | (rw [if_pos (by decide +kernel)]; kernel_rfl) | (rw [if_neg (by decide +kernel)]; exact ⟨rfl, rfl⟩))
    (fun os started H enc _ F => by rw [OpenClaim.pre_eq_preRow]; exact lifted os started H enc F)

theorem plain (f : FuncId) (fn : Func) (hf : Tryd.pinned.checked.prog.funcNamed "lustrum/lustrumlaw13.ParseBack" = some f) (hfn : Tryd.pinned.checked.prog.funcs[f]? = some fn) :
    true = Tryd.pinned.checked.prog.looks [] ∧ ∀ (j : Nat) t, fn.params[j]? = some t → Tryd.pinned.checked.prog.wantsStandIn t = false := by
  obtain rfl : f = 3 := Option.some.inj ((show Tryd.prog.funcNamed "lustrum/lustrumlaw13.ParseBack" = some 3 by kernel_rfl).symm.trans hf) |>.symm
  obtain rfl : fn = Tryd.f3 := (Option.some.inj (Tryd.func3.symm.trans hfn)).symm
  refine ⟨by kernel_rfl, fun j t ht => ?_⟩
  rw [Tryd.params3] at ht
  have hm := Array.mem_of_getElem? ht
  have ho : t = 26 := by first | simpa using hm | (simp at hm; rcases hm with h <;> simp [h])
  subst ho
  exact (show Tryd.prog.wantsStandIn 26 = false by kernel_rfl)

/-- THE CARD. -/
theorem proved : Rows.ParseBackCardSaid :=
  Claim7.holds_tied_plain_at .later [] _ _ _ _ said (fun _ h => by cases h) (by kernel_rfl) (fun _ h => by cases h) parseBack_row_tie rfl ⟨rfl, rfl⟩ (by kernel_rfl) rfl plain (by kernel_rfl)
#print axioms proved
end Go.Proofs.YtndmohamjffpcaaDoor.lawParseBack
