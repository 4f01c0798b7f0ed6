/-
  Joined: L13F, LParseFixed.
-/
import Derived.Test.YtndmohamjffpcaaDoorGPsR
import Derived.Test.YtndmohamjffpcaaDoorGPrA
import Derived.Test.YtndmohamjffpcaaDoorGCnB
import Derived.Test.YtndmohamjffpcaaDoorGTrB
import Derived.Test.YtndmohamjffpcaaDoorCards
import Derived.Test.YtndmohamjffpcaaDoorTie
import Derived.WalkKit
import Derived.ProofKit
import Derived.OpenShut
import Derived.ShutString
import Derived.ChangeOld
import Derived.Below
import Derived.Deep.DeepHandedRow
import Derived.Lib.LaidTab
namespace Go.Proofs.YtndmohamjffpcaaDoor
open Go.RowKit Go.Shelf
set_option linter.unusedVariables false
set_option linter.unusedSimpArgs false
set_option maxHeartbeats 16000000 in
set_option maxRecDepth 100000 in
theorem pfix_long (s : ByteArray) (w : World) (hm : s.size ≤ maxLen) (T : TabSH w) (hs : 600 < s.size) :
    Calls Tryd.prog 4 #[.string s] w fun e w' => e = .returned (.bool true) ∧ Kp w w' := by
  have AW := Lib.hid (fun w1 (kk : Kp w w1) => show Calls Tryd.prog 8 #[] w1 fun e w' => e = .returned (.bool true) ∧ Kp w1 w' from awake13 w1 (T.kp kk))
  have z0 : decide ((s.size : Int) > 600) = true := decide_eq_true (by omega)
  clear hs
  have K00 := Lib.hid (Kp.refl w)
  clear T
  go_enter Tryd.func4, Tryd.ntmps4
  go_upto_region 1 with fail
  go_wp2_with fail
  refine (AW.out _ (K00.out.trans (by first | with_reducible exact (Kp.refl w) | ((repeat (first | with_reducible refine Kp.trans ?_ (Kp.drew _) | with_reducible refine Kp.trans ?_ (Kp.alloc _ _))); with_reducible exact (Kp.refl w))))).mono ?_
  rintro e w1 ⟨rfl, kk⟩
  have kz : Kp w w1 := Kp.trans (show Kp w _ from (by first | with_reducible exact (Kp.refl w) | ((repeat (first | with_reducible refine Kp.trans ?_ (Kp.drew _) | with_reducible refine Kp.trans ?_ (Kp.alloc _ _))); with_reducible exact (Kp.refl w)))) kk
  clear kk
  have Kw1 := Lib.hid (K00.out.trans kz)
  clear kz
  go_wp2
  go_ret
  exact ⟨rfl, Kw1.out⟩
set_option maxHeartbeats 16000000 in
set_option maxRecDepth 100000 in
theorem pfix_er (s : ByteArray) (w : World) (hm : s.size ≤ maxLen) (T : TabSH w) (hs : s.size ≤ 600) (a x : Int) (pr : PR s (.er a x)) :
    Calls Tryd.prog 4 #[.string s] w fun e w' => e = .returned (.bool true) ∧ Kp w w' := by
  have AW := Lib.hid (fun w1 (kk : Kp w w1) => show Calls Tryd.prog 8 #[] w1 fun e w' => e = .returned (.bool true) ∧ Kp w1 w' from awake13 w1 (T.kp kk))
  have z0 : decide ((s.size : Int) > 600) = false := decide_eq_false (by omega)
  have PA := Lib.hid (fun w1 (kk : Kp w w1) => show Calls Tryd.prog 12 #[.string s] w1 fun en w' => ∃ ad cp, en = .returned (.tuple #[.agg #[.int .i64 nd0.k, .int .i64 nd0.p.k, .string nd0.p.y, .string nd0.p.m, .string nd0.p.d, .bool nd0.a, .bool nd0.t, .slice ad nd0.l.length cp], .int .i64 a, .int .i64 x]) ∧ Fnd w' w1.heap.size (fun _ => False) (.slice ad nd0.l.length cp) nd0.l ∧ Kp w1 w' from parse_any pr w1 (by unfold maxLen; omega) (T.kp kk))
  have SM := Lib.hid (fun ad1 cp1 w1 (h : NodesAt w1 (.slice ad1 nd0.l.length cp1) nd0.l) => show Calls Tryd.prog 13 #[.agg #[.int .i64 nd0.k, .int .i64 nd0.p.k, .string nd0.p.y, .string nd0.p.m, .string nd0.p.d, .bool nd0.a, .bool nd0.t, .slice ad1 nd0.l.length cp1], .agg #[.int .i64 0, .int .i64 0, .string ⟨#[]⟩, .string ⟨#[]⟩, .string ⟨#[]⟩, .bool false, .bool false, .slice none 0 0]] w1 fun e w' => e = .returned (.bool true) ∧ Kp w1 w' from same_refl nd0 ▸ tSame_any nd0 nd0 _ (.slice none 0 0) w1 h (.none _ _) (by decide))
  obtain ⟨hx, ha1, ha2⟩ := pr_er pr
  have x0 : (x == 0) = false := beq_eq_false_iff_ne.2 hx
  have x1 : (x != 0) = true := by simp [hx]
  have a0 : decide (a ≥ 0) = true := decide_eq_true ha1
  have a1 : decide (a ≤ (s.size : Int)) = true := decide_eq_true ha2
  clear pr hs hx
  generalize nd0 = n at *
  have K00 := Lib.hid (Kp.refl w)
  clear T
  go_enter Tryd.func4, Tryd.ntmps4
  go_upto_region 1 with fail
  go_wp2_with fail
  refine (AW.out _ (K00.out.trans (by first | with_reducible exact (Kp.refl w) | ((repeat (first | with_reducible refine Kp.trans ?_ (Kp.drew _) | with_reducible refine Kp.trans ?_ (Kp.alloc _ _))); with_reducible exact (Kp.refl w))))).mono ?_
  rintro e w1 ⟨rfl, kk⟩
  have kz : Kp w w1 := Kp.trans (show Kp w _ from (by first | with_reducible exact (Kp.refl w) | ((repeat (first | with_reducible refine Kp.trans ?_ (Kp.drew _) | with_reducible refine Kp.trans ?_ (Kp.alloc _ _))); with_reducible exact (Kp.refl w)))) kk
  clear kk
  have Kw1 := Lib.hid (K00.out.trans kz)
  clear kz
  go_upto_region 4 with fail
  go_wp2_with fail
  refine (PA.out _ (Kw1.out.trans (by first | with_reducible exact (Kp.refl w1) | ((repeat (first | with_reducible refine Kp.trans ?_ (Kp.drew _) | with_reducible refine Kp.trans ?_ (Kp.alloc _ _))); with_reducible exact (Kp.refl w1))))).mono ?_
  rintro e w2 ⟨ad1, cp1, rfl, f1, kk⟩
  have kz : Kp w1 w2 := Kp.trans (show Kp w1 _ from (by first | with_reducible exact (Kp.refl w1) | ((repeat (first | with_reducible refine Kp.trans ?_ (Kp.drew _) | with_reducible refine Kp.trans ?_ (Kp.alloc _ _))); with_reducible exact (Kp.refl w1)))) kk
  clear kk
  have Kw2 := Lib.hid (Kw1.out.trans kz)
  clear kz
  obtain ⟨vw2, hV⟩ : ∃ x, x = w2.alloc (.cells #[.int .i64 n.k, .int .i64 n.p.k, .string n.p.y, .string n.p.m, .string n.p.d, .bool n.a, .bool n.t, .slice ad1 n.l.length cp1] 26) := ⟨_, rfl⟩
  have ka : Kp w2 vw2 := by rw [hV]; exact Kp.alloc _ _
  have Bx' := Lib.hid (show NB vw2 w2.heap.size n from NB.of (by rw [hV]; exact heap_at _ _ _ rfl) ((f1.nodes).kp ka))
  have Kvw2 := Lib.hid (Kw2.out.trans ka)
  have Bx := Bx'
  have HV := Lib.hid hV
  clear hV ka Bx'
  go_upto_region 5 with fail
  rw [← HV.out]
  clear HV
  clear f1
  obtain ⟨adx, cpx, gx, nx⟩ := Bx.out.opn
  have Nx := Lib.hid nx
  obtain ⟨cx0, cx1, cx2, cx3, cx4, cx5, cx6, cx7⟩ := row8 gx
  clear nx gx
  go_upto_region 6 with fail
  go_wp2_with fail
  refine (SM.out _ _ _ Nx.out).mono ?_
  rintro e w3 ⟨rfl, kk⟩
  have kz : Kp vw2 w3 := Kp.trans (show Kp vw2 _ from (by first | with_reducible exact (Kp.refl vw2) | ((repeat (first | with_reducible refine Kp.trans ?_ (Kp.drew _) | with_reducible refine Kp.trans ?_ (Kp.alloc _ _))); with_reducible exact (Kp.refl vw2)))) kk
  clear kk
  clear cx0 cx1 cx2 cx3 cx4 cx5 cx6 cx7
  have Kw3 := Lib.hid (Kvw2.out.trans kz)
  have Bx := Lib.hid (Bx.out.kp kz)
  clear kz
  go_wp2
  go_ret
  exact ⟨rfl, Kw3.out⟩
set_option maxHeartbeats 16000000 in
set_option maxRecDepth 100000 in
theorem pfix_ok (s : ByteArray) (w : World) (hm : s.size ≤ maxLen) (T : TabSH w) (hs : s.size ≤ 600) (n : ND) (pr : PR s (.ok n)) :
    Calls Tryd.prog 4 #[.string s] w fun e w' => e = .returned (.bool true) ∧ Kp w w' := by
  have AW := Lib.hid (fun w1 (kk : Kp w w1) => show Calls Tryd.prog 8 #[] w1 fun e w' => e = .returned (.bool true) ∧ Kp w1 w' from awake13 w1 (T.kp kk))
  have z0 : decide ((s.size : Int) > 600) = false := decide_eq_false (by omega)
  obtain ⟨_, sn, _⟩ := pr_ok pr
  have cs := can_sane sn
  have c64 := (cn_right sn).2
  have d64 := (cn_right cs.1).2
  obtain ⟨pn, zn⟩ := pr_text sn
  obtain ⟨pc, zc⟩ := pr_text cs.1
  have CC := can_can sn
  have IC := isN_can sn
  rw [← canF_yes cs.1] at CC
  obtain ⟨c, hc⟩ : ∃ z, canN n = z := ⟨_, rfl⟩
  have CF := canF_yes sn
  rw [hc] at CC IC CF pc zc d64
  have sc := cs.1
  rw [hc] at sc
  have PS := Lib.hid (fun w1 (kk : Kp w w1) => show Calls Tryd.prog 12 #[.string s] w1 fun en w' => ∃ ad cp, en = .returned (.tuple #[.agg #[.int .i64 n.k, .int .i64 n.p.k, .string n.p.y, .string n.p.m, .string n.p.d, .bool n.a, .bool n.t, .slice ad n.l.length cp], .int .i64 (s.size : Nat), .int .i64 0]) ∧ Fnd w' w1.heap.size (fun _ => False) (.slice ad n.l.length cp) n.l ∧ Kp w1 w' from parse_any pr w1 (by unfold maxLen; omega) (T.kp kk))
  have PN := Lib.hid (fun w1 (kk : Kp w w1) => show Calls Tryd.prog 12 #[.string (bs (textN n))] w1 fun en w' => ∃ ad cp, en = .returned (.tuple #[.agg #[.int .i64 n.k, .int .i64 n.p.k, .string n.p.y, .string n.p.m, .string n.p.d, .bool n.a, .bool n.t, .slice ad n.l.length cp], .int .i64 ((bs (textN n)).size : Nat), .int .i64 0]) ∧ Fnd w' w1.heap.size (fun _ => False) (.slice ad n.l.length cp) n.l ∧ Kp w1 w' from parse_any pn w1 (by unfold maxLen; omega) (T.kp kk))
  have PC := Lib.hid (fun w1 (kk : Kp w w1) => show Calls Tryd.prog 12 #[.string (bs (textN c))] w1 fun en w' => ∃ ad cp, en = .returned (.tuple #[.agg #[.int .i64 c.k, .int .i64 c.p.k, .string c.p.y, .string c.p.m, .string c.p.d, .bool c.a, .bool c.t, .slice ad c.l.length cp], .int .i64 ((bs (textN c)).size : Nat), .int .i64 0]) ∧ Fnd w' w1.heap.size (fun _ => False) (.slice ad c.l.length cp) c.l ∧ Kp w1 w' from parse_any pc w1 (by unfold maxLen; omega) (T.kp kk))
  have TN := Lib.hid (fun ad1 cp1 w1 (h : NodesAt w1 (.slice ad1 n.l.length cp1) n.l) (kk : Kp w w1) => show Calls Tryd.prog 11 #[.agg #[.int .i64 n.k, .int .i64 n.p.k, .string n.p.y, .string n.p.m, .string n.p.d, .bool n.a, .bool n.t, .slice ad1 n.l.length cp1]] w1 fun e w' => e = .returned (.string (bs (textN n))) ∧ Kp w1 w' from ptext_any n _ w1 h (by omega) (T.kp kk))
  have TC := Lib.hid (fun ad1 cp1 w1 (h : NodesAt w1 (.slice ad1 c.l.length cp1) c.l) (kk : Kp w w1) => show Calls Tryd.prog 11 #[.agg #[.int .i64 c.k, .int .i64 c.p.k, .string c.p.y, .string c.p.m, .string c.p.d, .bool c.a, .bool c.t, .slice ad1 c.l.length cp1]] w1 fun e w' => e = .returned (.string (bs (textN c))) ∧ Kp w1 w' from ptext_any c _ w1 h (by omega) (T.kp kk))
  have SN := Lib.hid (fun ad1 cp1 w1 (h : NodesAt w1 (.slice ad1 n.l.length cp1) n.l) (kk : Kp w w1) => show Calls Tryd.prog 10 #[.agg #[.int .i64 n.k, .int .i64 n.p.k, .string n.p.y, .string n.p.m, .string n.p.d, .bool n.a, .bool n.t, .slice ad1 n.l.length cp1]] w1 fun e w' => e = .returned (.bool true) ∧ Kp w1 w' from sn ▸ tSaneG_any n _ w1 h (T.kp kk))
  have IS := Lib.hid (fun ad1 cp1 w1 (h : NodesAt w1 (.slice ad1 c.l.length cp1) c.l) (kk : Kp w w1) => show Calls Tryd.prog 15 #[.agg #[.int .i64 c.k, .int .i64 c.p.k, .string c.p.y, .string c.p.m, .string c.p.d, .bool c.a, .bool c.t, .slice ad1 c.l.length cp1]] w1 fun e w' => e = .returned (.bool true) ∧ Kp w1 w' from IC ▸ cis_any c _ w1 h (T.kp kk))
  have CN := Lib.hid (fun ad1 cp1 w1 (h : NodesAt w1 (.slice ad1 n.l.length cp1) n.l) (kk : Kp w w1) => show Calls Tryd.prog 14 #[.agg #[.int .i64 n.k, .int .i64 n.p.k, .string n.p.y, .string n.p.m, .string n.p.d, .bool n.a, .bool n.t, .slice ad1 n.l.length cp1]] w1 fun e w' => ∃ ad2 cp2, e = .returned (.agg #[.int .i64 c.k, .int .i64 c.p.k, .string c.p.y, .string c.p.m, .string c.p.d, .bool c.a, .bool c.t, .slice ad2 c.l.length cp2]) ∧ NodesAt w' (.slice ad2 c.l.length cp2) c.l ∧ Kp w1 w' from (ccan_any n _ w1 h (T.kp kk)).mono (fun e w' ⟨v', e1, h', k'⟩ => by rw [CF] at e1 h'; obtain ⟨ad2, cp2, rfl⟩ := h'.slice; exact ⟨ad2, cp2, e1, h', k'⟩))
  have CM := Lib.hid (fun ad1 cp1 w1 (h : NodesAt w1 (.slice ad1 c.l.length cp1) c.l) (kk : Kp w w1) => show Calls Tryd.prog 14 #[.agg #[.int .i64 c.k, .int .i64 c.p.k, .string c.p.y, .string c.p.m, .string c.p.d, .bool c.a, .bool c.t, .slice ad1 c.l.length cp1]] w1 fun e w' => ∃ ad2 cp2, e = .returned (.agg #[.int .i64 c.k, .int .i64 c.p.k, .string c.p.y, .string c.p.m, .string c.p.d, .bool c.a, .bool c.t, .slice ad2 c.l.length cp2]) ∧ NodesAt w' (.slice ad2 c.l.length cp2) c.l ∧ Kp w1 w' from (ccan_any c _ w1 h (T.kp kk)).mono (fun e w' ⟨v', e1, h', k'⟩ => by rw [CC] at e1 h'; obtain ⟨ad2, cp2, rfl⟩ := h'.slice; exact ⟨ad2, cp2, e1, h', k'⟩))
  have SC := Lib.hid (fun ad1 cp1 ad2 cp2 w1 (h : NodesAt w1 (.slice ad1 c.l.length cp1) c.l) (h2 : NodesAt w1 (.slice ad2 c.l.length cp2) c.l) (kk : Kp w w1) => show Calls Tryd.prog 13 #[.agg #[.int .i64 c.k, .int .i64 c.p.k, .string c.p.y, .string c.p.m, .string c.p.d, .bool c.a, .bool c.t, .slice ad1 c.l.length cp1], .agg #[.int .i64 c.k, .int .i64 c.p.k, .string c.p.y, .string c.p.m, .string c.p.d, .bool c.a, .bool c.t, .slice ad2 c.l.length cp2]] w1 fun e w' => e = .returned (.bool true) ∧ Kp w1 w' from same_refl c ▸ tSame_any c c _ _ w1 h h2 (by omega))
  have SS := Lib.hid (fun ad1 cp1 ad2 cp2 w1 (h : NodesAt w1 (.slice ad1 n.l.length cp1) n.l) (h2 : NodesAt w1 (.slice ad2 n.l.length cp2) n.l) (kk : Kp w w1) => show Calls Tryd.prog 13 #[.agg #[.int .i64 n.k, .int .i64 n.p.k, .string n.p.y, .string n.p.m, .string n.p.d, .bool n.a, .bool n.t, .slice ad1 n.l.length cp1], .agg #[.int .i64 n.k, .int .i64 n.p.k, .string n.p.y, .string n.p.m, .string n.p.d, .bool n.a, .bool n.t, .slice ad2 n.l.length cp2]] w1 fun e w' => e = .returned (.bool true) ∧ Kp w1 w' from same_refl n ▸ tSame_any n n _ _ w1 h h2 (by omega))
  clear CF CC IC hc cs sc sn pr pn pc c64 d64 hs
  generalize bs (textN c) = tc at *
  generalize bs (textN n) = tn at *
  have K00 := Lib.hid (Kp.refl w)
  clear T
  go_enter Tryd.func4, Tryd.ntmps4
  go_upto_region 1 with fail
  go_wp2_with fail
  refine (AW.out _ (K00.out.trans (by first | with_reducible exact (Kp.refl w) | ((repeat (first | with_reducible refine Kp.trans ?_ (Kp.drew _) | with_reducible refine Kp.trans ?_ (Kp.alloc _ _))); with_reducible exact (Kp.refl w))))).mono ?_
  rintro e w1 ⟨rfl, kk⟩
  have kz : Kp w w1 := Kp.trans (show Kp w _ from (by first | with_reducible exact (Kp.refl w) | ((repeat (first | with_reducible refine Kp.trans ?_ (Kp.drew _) | with_reducible refine Kp.trans ?_ (Kp.alloc _ _))); with_reducible exact (Kp.refl w)))) kk
  clear kk
  have Kw1 := Lib.hid (K00.out.trans kz)
  clear kz
  go_upto_region 4 with fail
  go_wp2_with fail
  refine (PS.out _ (Kw1.out.trans (by first | with_reducible exact (Kp.refl w1) | ((repeat (first | with_reducible refine Kp.trans ?_ (Kp.drew _) | with_reducible refine Kp.trans ?_ (Kp.alloc _ _))); with_reducible exact (Kp.refl w1))))).mono ?_
  rintro e w2 ⟨ad1, cp1, rfl, f1, kk⟩
  have kz : Kp w1 w2 := Kp.trans (show Kp w1 _ from (by first | with_reducible exact (Kp.refl w1) | ((repeat (first | with_reducible refine Kp.trans ?_ (Kp.drew _) | with_reducible refine Kp.trans ?_ (Kp.alloc _ _))); with_reducible exact (Kp.refl w1)))) kk
  clear kk
  have Kw2 := Lib.hid (Kw1.out.trans kz)
  clear kz
  obtain ⟨vw2, hV⟩ : ∃ x, x = w2.alloc (.cells #[.int .i64 n.k, .int .i64 n.p.k, .string n.p.y, .string n.p.m, .string n.p.d, .bool n.a, .bool n.t, .slice ad1 n.l.length cp1] 26) := ⟨_, rfl⟩
  have ka : Kp w2 vw2 := by rw [hV]; exact Kp.alloc _ _
  have Bx' := Lib.hid (show NB vw2 w2.heap.size n from NB.of (by rw [hV]; exact heap_at _ _ _ rfl) ((f1.nodes).kp ka))
  have Kvw2 := Lib.hid (Kw2.out.trans ka)
  have Bx := Bx'
  have HV := Lib.hid hV
  clear hV ka Bx'
  go_upto_region 5 with fail
  rw [← HV.out]
  clear HV
  clear f1
  go_upto_region 7 with fail
  obtain ⟨adx, cpx, gx, nx⟩ := Bx.out.opn
  have Nx := Lib.hid nx
  obtain ⟨cx0, cx1, cx2, cx3, cx4, cx5, cx6, cx7⟩ := row8 gx
  clear nx gx
  go_wp2_with fail
  refine (CN.out _ _ _ Nx.out (Kvw2.out.trans (by first | with_reducible exact (Kp.refl vw2) | ((repeat (first | with_reducible refine Kp.trans ?_ (Kp.drew _) | with_reducible refine Kp.trans ?_ (Kp.alloc _ _))); with_reducible exact (Kp.refl vw2))))).mono ?_
  rintro e w3 ⟨ad2, cp2, rfl, h2, kk⟩
  have kz : Kp vw2 w3 := Kp.trans (show Kp vw2 _ from (by first | with_reducible exact (Kp.refl vw2) | ((repeat (first | with_reducible refine Kp.trans ?_ (Kp.drew _) | with_reducible refine Kp.trans ?_ (Kp.alloc _ _))); with_reducible exact (Kp.refl vw2)))) kk
  clear kk
  clear cx0 cx1 cx2 cx3 cx4 cx5 cx6 cx7
  have Kw3 := Lib.hid (Kvw2.out.trans kz)
  have Bx := Lib.hid (Bx.out.kp kz)
  clear kz
  obtain ⟨vw3, hV⟩ : ∃ x, x = w3.alloc (.cells #[.int .i64 c.k, .int .i64 c.p.k, .string c.p.y, .string c.p.m, .string c.p.d, .bool c.a, .bool c.t, .slice ad2 c.l.length cp2] 26) := ⟨_, rfl⟩
  have ka : Kp w3 vw3 := by rw [hV]; exact Kp.alloc _ _
  have Bc' := Lib.hid (show NB vw3 w3.heap.size c from NB.of (by rw [hV]; exact heap_at _ _ _ rfl) ((h2).kp ka))
  have Kvw3 := Lib.hid (Kw3.out.trans ka)
  have Bx := Lib.hid (Bx.out.kp ka)
  have Bc := Bc'
  have HV := Lib.hid hV
  clear hV ka Bc'
  go_upto_region 8 with fail
  rw [← HV.out]
  clear HV
  clear h2
  obtain ⟨adc, cpc, gc, nc⟩ := Bc.out.opn
  have Nc := Lib.hid nc
  obtain ⟨cc0, cc1, cc2, cc3, cc4, cc5, cc6, cc7⟩ := row8 gc
  clear nc gc
  go_wp2_with fail
  refine (TC.out _ _ _ Nc.out (Kvw3.out.trans (by first | with_reducible exact (Kp.refl vw3) | ((repeat (first | with_reducible refine Kp.trans ?_ (Kp.drew _) | with_reducible refine Kp.trans ?_ (Kp.alloc _ _))); with_reducible exact (Kp.refl vw3))))).mono ?_
  rintro e w4 ⟨rfl, kk⟩
  have kz : Kp vw3 w4 := Kp.trans (show Kp vw3 _ from (by first | with_reducible exact (Kp.refl vw3) | ((repeat (first | with_reducible refine Kp.trans ?_ (Kp.drew _) | with_reducible refine Kp.trans ?_ (Kp.alloc _ _))); with_reducible exact (Kp.refl vw3)))) kk
  clear kk
  clear cc0 cc1 cc2 cc3 cc4 cc5 cc6 cc7
  have Kw4 := Lib.hid (Kvw3.out.trans kz)
  have Bx := Lib.hid (Bx.out.kp kz)
  have Bc := Lib.hid (Bc.out.kp kz)
  clear kz
  go_upto_region 9 with fail
  go_wp2_with fail
  refine (PC.out _ (Kw4.out.trans (by first | with_reducible exact (Kp.refl w4) | ((repeat (first | with_reducible refine Kp.trans ?_ (Kp.drew _) | with_reducible refine Kp.trans ?_ (Kp.alloc _ _))); with_reducible exact (Kp.refl w4))))).mono ?_
  rintro e w5 ⟨ad3, cp3, rfl, f3, kk⟩
  have kz : Kp w4 w5 := Kp.trans (show Kp w4 _ from (by first | with_reducible exact (Kp.refl w4) | ((repeat (first | with_reducible refine Kp.trans ?_ (Kp.drew _) | with_reducible refine Kp.trans ?_ (Kp.alloc _ _))); with_reducible exact (Kp.refl w4)))) kk
  clear kk
  have Kw5 := Lib.hid (Kw4.out.trans kz)
  have Bx := Lib.hid (Bx.out.kp kz)
  have Bc := Lib.hid (Bc.out.kp kz)
  clear kz
  obtain ⟨vw5, hV⟩ : ∃ x, x = w5.alloc (.cells #[.int .i64 c.k, .int .i64 c.p.k, .string c.p.y, .string c.p.m, .string c.p.d, .bool c.a, .bool c.t, .slice ad3 c.l.length cp3] 26) := ⟨_, rfl⟩
  have ka : Kp w5 vw5 := by rw [hV]; exact Kp.alloc _ _
  have Bm' := Lib.hid (show NB vw5 w5.heap.size c from NB.of (by rw [hV]; exact heap_at _ _ _ rfl) ((f3.nodes).kp ka))
  have Kvw5 := Lib.hid (Kw5.out.trans ka)
  have Bx := Lib.hid (Bx.out.kp ka)
  have Bc := Lib.hid (Bc.out.kp ka)
  have Bm := Bm'
  have HV := Lib.hid hV
  clear hV ka Bm'
  go_upto_region 10 with fail
  rw [← HV.out]
  clear HV
  clear f3
  obtain ⟨adx, cpx, gx, nx⟩ := Bx.out.opn
  have Nx := Lib.hid nx
  obtain ⟨cx0, cx1, cx2, cx3, cx4, cx5, cx6, cx7⟩ := row8 gx
  clear nx gx
  go_wp2_with fail
  refine (TN.out _ _ _ Nx.out (Kvw5.out.trans (by first | with_reducible exact (Kp.refl vw5) | ((repeat (first | with_reducible refine Kp.trans ?_ (Kp.drew _) | with_reducible refine Kp.trans ?_ (Kp.alloc _ _))); with_reducible exact (Kp.refl vw5))))).mono ?_
  rintro e w6 ⟨rfl, kk⟩
  have kz : Kp vw5 w6 := Kp.trans (show Kp vw5 _ from (by first | with_reducible exact (Kp.refl vw5) | ((repeat (first | with_reducible refine Kp.trans ?_ (Kp.drew _) | with_reducible refine Kp.trans ?_ (Kp.alloc _ _))); with_reducible exact (Kp.refl vw5)))) kk
  clear kk
  clear cx0 cx1 cx2 cx3 cx4 cx5 cx6 cx7
  have Kw6 := Lib.hid (Kvw5.out.trans kz)
  have Bx := Lib.hid (Bx.out.kp kz)
  have Bc := Lib.hid (Bc.out.kp kz)
  have Bm := Lib.hid (Bm.out.kp kz)
  clear kz
  go_wp2_with fail
  refine (PN.out _ (Kw6.out.trans (by first | with_reducible exact (Kp.refl w6) | ((repeat (first | with_reducible refine Kp.trans ?_ (Kp.drew _) | with_reducible refine Kp.trans ?_ (Kp.alloc _ _))); with_reducible exact (Kp.refl w6))))).mono ?_
  rintro e w7 ⟨ad4, cp4, rfl, f4, kk⟩
  have kz : Kp w6 w7 := Kp.trans (show Kp w6 _ from (by first | with_reducible exact (Kp.refl w6) | ((repeat (first | with_reducible refine Kp.trans ?_ (Kp.drew _) | with_reducible refine Kp.trans ?_ (Kp.alloc _ _))); with_reducible exact (Kp.refl w6)))) kk
  clear kk
  have Kw7 := Lib.hid (Kw6.out.trans kz)
  have Bx := Lib.hid (Bx.out.kp kz)
  have Bc := Lib.hid (Bc.out.kp kz)
  have Bm := Lib.hid (Bm.out.kp kz)
  clear kz
  obtain ⟨vw7, hV⟩ : ∃ x, x = w7.alloc (.cells #[.int .i64 n.k, .int .i64 n.p.k, .string n.p.y, .string n.p.m, .string n.p.d, .bool n.a, .bool n.t, .slice ad4 n.l.length cp4] 26) := ⟨_, rfl⟩
  have ka : Kp w7 vw7 := by rw [hV]; exact Kp.alloc _ _
  have Bk' := Lib.hid (show NB vw7 w7.heap.size n from NB.of (by rw [hV]; exact heap_at _ _ _ rfl) ((f4.nodes).kp ka))
  have Kvw7 := Lib.hid (Kw7.out.trans ka)
  have Bx := Lib.hid (Bx.out.kp ka)
  have Bc := Lib.hid (Bc.out.kp ka)
  have Bm := Lib.hid (Bm.out.kp ka)
  have Bk := Bk'
  have HV := Lib.hid hV
  clear hV ka Bk'
  go_upto_region 11 with fail
  rw [← HV.out]
  clear HV
  clear f4
  obtain ⟨adx, cpx, gx, nx⟩ := Bx.out.opn
  have Nx := Lib.hid nx
  obtain ⟨cx0, cx1, cx2, cx3, cx4, cx5, cx6, cx7⟩ := row8 gx
  clear nx gx
  go_wp2_with fail
  refine (SN.out _ _ _ Nx.out (Kvw7.out.trans (by first | with_reducible exact (Kp.refl vw7) | ((repeat (first | with_reducible refine Kp.trans ?_ (Kp.drew _) | with_reducible refine Kp.trans ?_ (Kp.alloc _ _))); with_reducible exact (Kp.refl vw7))))).mono ?_
  rintro e w8 ⟨rfl, kk⟩
  have kz : Kp vw7 w8 := Kp.trans (show Kp vw7 _ from (by first | with_reducible exact (Kp.refl vw7) | ((repeat (first | with_reducible refine Kp.trans ?_ (Kp.drew _) | with_reducible refine Kp.trans ?_ (Kp.alloc _ _))); with_reducible exact (Kp.refl vw7)))) kk
  clear kk
  clear cx0 cx1 cx2 cx3 cx4 cx5 cx6 cx7
  have Kw8 := Lib.hid (Kvw7.out.trans kz)
  have Bx := Lib.hid (Bx.out.kp kz)
  have Bc := Lib.hid (Bc.out.kp kz)
  have Bm := Lib.hid (Bm.out.kp kz)
  have Bk := Lib.hid (Bk.out.kp kz)
  clear kz
  obtain ⟨adm, cpm, gm, nm⟩ := Bm.out.opn
  have Nm := Lib.hid nm
  obtain ⟨cm0, cm1, cm2, cm3, cm4, cm5, cm6, cm7⟩ := row8 gm
  clear nm gm
  obtain ⟨adc, cpc, gc, nc⟩ := Bc.out.opn
  have Nc := Lib.hid nc
  obtain ⟨cc0, cc1, cc2, cc3, cc4, cc5, cc6, cc7⟩ := row8 gc
  clear nc gc
  go_wp2_with fail
  refine (SC.out _ _ _ _ _ Nm.out Nc.out (Kw8.out.trans (by first | with_reducible exact (Kp.refl w8) | ((repeat (first | with_reducible refine Kp.trans ?_ (Kp.drew _) | with_reducible refine Kp.trans ?_ (Kp.alloc _ _))); with_reducible exact (Kp.refl w8))))).mono ?_
  rintro e w9 ⟨rfl, kk⟩
  have kz : Kp w8 w9 := Kp.trans (show Kp w8 _ from (by first | with_reducible exact (Kp.refl w8) | ((repeat (first | with_reducible refine Kp.trans ?_ (Kp.drew _) | with_reducible refine Kp.trans ?_ (Kp.alloc _ _))); with_reducible exact (Kp.refl w8)))) kk
  clear kk
  clear cm0 cm1 cm2 cm3 cm4 cm5 cm6 cm7 cc0 cc1 cc2 cc3 cc4 cc5 cc6 cc7
  have Kw9 := Lib.hid (Kw8.out.trans kz)
  have Bx := Lib.hid (Bx.out.kp kz)
  have Bc := Lib.hid (Bc.out.kp kz)
  have Bm := Lib.hid (Bm.out.kp kz)
  have Bk := Lib.hid (Bk.out.kp kz)
  clear kz
  obtain ⟨adm, cpm, gm, nm⟩ := Bm.out.opn
  have Nm := Lib.hid nm
  obtain ⟨cm0, cm1, cm2, cm3, cm4, cm5, cm6, cm7⟩ := row8 gm
  clear nm gm
  go_wp2_with fail
  refine (IS.out _ _ _ Nm.out (Kw9.out.trans (by first | with_reducible exact (Kp.refl w9) | ((repeat (first | with_reducible refine Kp.trans ?_ (Kp.drew _) | with_reducible refine Kp.trans ?_ (Kp.alloc _ _))); with_reducible exact (Kp.refl w9))))).mono ?_
  rintro e w10 ⟨rfl, kk⟩
  have kz : Kp w9 w10 := Kp.trans (show Kp w9 _ from (by first | with_reducible exact (Kp.refl w9) | ((repeat (first | with_reducible refine Kp.trans ?_ (Kp.drew _) | with_reducible refine Kp.trans ?_ (Kp.alloc _ _))); with_reducible exact (Kp.refl w9)))) kk
  clear kk
  clear cm0 cm1 cm2 cm3 cm4 cm5 cm6 cm7
  have Kw10 := Lib.hid (Kw9.out.trans kz)
  have Bx := Lib.hid (Bx.out.kp kz)
  have Bc := Lib.hid (Bc.out.kp kz)
  have Bm := Lib.hid (Bm.out.kp kz)
  have Bk := Lib.hid (Bk.out.kp kz)
  clear kz
  obtain ⟨adm, cpm, gm, nm⟩ := Bm.out.opn
  have Nm := Lib.hid nm
  obtain ⟨cm0, cm1, cm2, cm3, cm4, cm5, cm6, cm7⟩ := row8 gm
  clear nm gm
  go_wp2_with fail
  refine (CM.out _ _ _ Nm.out (Kw10.out.trans (by first | with_reducible exact (Kp.refl w10) | ((repeat (first | with_reducible refine Kp.trans ?_ (Kp.drew _) | with_reducible refine Kp.trans ?_ (Kp.alloc _ _))); with_reducible exact (Kp.refl w10))))).mono ?_
  rintro e w11 ⟨ad5, cp5, rfl, h5, kk⟩
  have kz : Kp w10 w11 := Kp.trans (show Kp w10 _ from (by first | with_reducible exact (Kp.refl w10) | ((repeat (first | with_reducible refine Kp.trans ?_ (Kp.drew _) | with_reducible refine Kp.trans ?_ (Kp.alloc _ _))); with_reducible exact (Kp.refl w10)))) kk
  clear kk
  clear cm0 cm1 cm2 cm3 cm4 cm5 cm6 cm7
  have Kw11 := Lib.hid (Kw10.out.trans kz)
  have Bx := Lib.hid (Bx.out.kp kz)
  have Bc := Lib.hid (Bc.out.kp kz)
  have Bm := Lib.hid (Bm.out.kp kz)
  have Bk := Lib.hid (Bk.out.kp kz)
  clear kz
  go_wp2_with fail
  refine (TC.out _ _ _ h5 (Kw11.out.trans (by first | with_reducible exact (Kp.refl w11) | ((repeat (first | with_reducible refine Kp.trans ?_ (Kp.drew _) | with_reducible refine Kp.trans ?_ (Kp.alloc _ _))); with_reducible exact (Kp.refl w11))))).mono ?_
  rintro e w12 ⟨rfl, kk⟩
  have kz : Kp w11 w12 := Kp.trans (show Kp w11 _ from (by first | with_reducible exact (Kp.refl w11) | ((repeat (first | with_reducible refine Kp.trans ?_ (Kp.drew _) | with_reducible refine Kp.trans ?_ (Kp.alloc _ _))); with_reducible exact (Kp.refl w11)))) kk
  clear kk
  have Kw12 := Lib.hid (Kw11.out.trans kz)
  have Bx := Lib.hid (Bx.out.kp kz)
  have Bc := Lib.hid (Bc.out.kp kz)
  have Bm := Lib.hid (Bm.out.kp kz)
  have Bk := Lib.hid (Bk.out.kp kz)
  clear kz
  obtain ⟨adk, cpk, gk, nk⟩ := Bk.out.opn
  have Nk := Lib.hid nk
  obtain ⟨ck0, ck1, ck2, ck3, ck4, ck5, ck6, ck7⟩ := row8 gk
  clear nk gk
  obtain ⟨adx, cpx, gx, nx⟩ := Bx.out.opn
  have Nx := Lib.hid nx
  obtain ⟨cx0, cx1, cx2, cx3, cx4, cx5, cx6, cx7⟩ := row8 gx
  clear nx gx
  go_wp2_with fail
  refine (SS.out _ _ _ _ _ Nk.out Nx.out (Kw12.out.trans (by first | with_reducible exact (Kp.refl w12) | ((repeat (first | with_reducible refine Kp.trans ?_ (Kp.drew _) | with_reducible refine Kp.trans ?_ (Kp.alloc _ _))); with_reducible exact (Kp.refl w12))))).mono ?_
  rintro e w13 ⟨rfl, kk⟩
  have kz : Kp w12 w13 := Kp.trans (show Kp w12 _ from (by first | with_reducible exact (Kp.refl w12) | ((repeat (first | with_reducible refine Kp.trans ?_ (Kp.drew _) | with_reducible refine Kp.trans ?_ (Kp.alloc _ _))); with_reducible exact (Kp.refl w12)))) kk
  clear kk
  clear ck0 ck1 ck2 ck3 ck4 ck5 ck6 ck7 cx0 cx1 cx2 cx3 cx4 cx5 cx6 cx7
  have Kw13 := Lib.hid (Kw12.out.trans kz)
  have Bx := Lib.hid (Bx.out.kp kz)
  have Bc := Lib.hid (Bc.out.kp kz)
  have Bm := Lib.hid (Bm.out.kp kz)
  have Bk := Lib.hid (Bk.out.kp kz)
  clear kz
  go_wp2
  go_ret
  exact ⟨rfl, Kw13.out⟩
theorem parseFixed_walk (s : ByteArray) (w : World) (hm : s.size ≤ maxLen) (T : TabSH w) :
    Calls Tryd.prog 4 #[.string s] w fun e w' => e = .returned (.bool true) ∧ Kp w w' := by
  by_cases hs : s.size ≤ 600
  · obtain ⟨o, pr⟩ := pr_ex s
    cases o with
    | ok n => exact pfix_ok s w hm T hs n pr
    | er a x => exact pfix_er s w hm T hs a x pr
  · exact pfix_long s w hm T (by omega)
end Go.Proofs.YtndmohamjffpcaaDoor

namespace Go.Proofs.YtndmohamjffpcaaDoor.lawParseFixed
open Go.ChangeShapes Go.WideShapes Go.ChangeAt Go.RowKit
open Go.ChangeMaps (open_string shut_string)
set_option linter.unusedVariables false

theorem own : ownKnob Tryd.prog.godebug = none := by kernel_rfl
theorem laidOut : laidOutB Tryd.prog = true := by kernel_rfl

/-- A world for the witness: the settled one, each table holding what its initialiser lays. -/
noncomputable def laidWorld (os : Os) : World :=
  { World.holding Tryd.prog os ⟨#[], #[], []⟩ with heap := ((World.holding Tryd.prog os ⟨#[], #[], []⟩).heap.modify 0 fun
      | .cells _ t frozen => .cells #[.int .i64 4, .int .i64 2, .int .i64 2, .int .i64 12, .string ⟨#[]⟩, .int .i64 4, .int .i64 2, .int .i64 0, .int .i64 12, .string ⟨#[]⟩, .int .i64 4, .int .i64 1, .int .i64 0, .int .i64 4, .string ⟨#[]⟩, .int .i64 4, .int .i64 0, .int .i64 0, .int .i64 0, .string ⟨#[]⟩, .int .i64 3, .int .i64 0, .int .i64 0, .int .i64 0, .string ⟨#[100]⟩, .int .i64 2, .int .i64 0, .int .i64 0, .int .i64 0, .string ⟨#[99]⟩] t frozen
      | o => o) }
theorem laid_met (os : Os) : laidMet Tryd.prog Rows.parseFixedRow.laid ((laidWorld os).forCall (fun _ _ => 0) ⟨#[], #[.string ByteArray.empty], []⟩).memory :=
  laidMet_of_run' 8 (by kernel_rfl) (by kernel_rfl)
theorem reads (os : Os) {H : Type} (enc : TypeId × Value → H) : ∃ places, DataW.whole enc Tryd.prog ((laidWorld os).forCall (fun _ _ => 0) ⟨#[], #[.string ByteArray.empty], []⟩).memory Tryd.f4.params.toList Rows.parseFixedSpec.vars false (#[.string ByteArray.empty] : Array Value).toList 8 = some ([.lit (.string [])], [], places) :=
  ⟨[], by kernel_rfl⟩

set_option maxRecDepth 100000 in
theorem contract (H : Type) (enc : TypeId × Value → H) (W : World) (base : Nat) (args : Array Value) (ds gs : List (DataW H)) (before : List MemPlace)
    (hval : ∀ (j : Nat) t v, Tryd.f4.params[j]? = some t → args[j]? = some v → Value.okWide Tryd.prog W .any base t v)
    (hW : DataW.Whole enc Tryd.prog Tryd.f4.params.toList Rows.parseFixedSpec.vars false W args.toList ds gs before) (hL : laidMetH Tryd.prog Rows.parseFixedRow.laid W) :
    Calls Tryd.prog 4 args W fun e W' => ∃ v, e = .returned v ∧ Rows.parseFixedSpec.post enc Tryd.prog Tryd.f4 false true false false W args v W' := by
  have hW' := hW
  have hltA : ∀ x ∈ before, x.block < W.heap.size := fun x hx => by simpa using hW'.lt x hx
  obtain ⟨p, q, hA0, hV, rfl, hfz, hnd⟩ := hW
  have hA : DataW.TrodAll enc Tryd.prog W 0 (fun _ => true) true Tryd.f4.params.toList args.toList ds p := hA0
  rw [Tryd.params4] at hA hval
  obtain ⟨v0, vs0, d0, ds0, p0, q0, hargs, rfl, rfl, h0, r0⟩ := trodAll_cons hA
  obtain ⟨rfl, rfl, rfl⟩ := trodAll_nil r0
  obtain rfl : args = #[v0] := by cases args; simp_all
  obtain ⟨rfl, rfl⟩ := trodVars_none hV
  have hk0 := h0
  obtain ⟨a0, rfl, rfl, rfl, w0⟩ := open_string Tryd.underlying9 (hval 0 9 v0 rfl rfl) h0
  clear hA0
  simp only [List.append_nil] at hW'
  refine (parseFixed_walk a0 W w0 (tabs_of1 hL)).mono fun e W' ⟨he, hg⟩ => ?_
  subst he
  have bel : Below W.heap.size W W' := hg
  exact ⟨_, rfl, _, _, _, [], _, [], hW', trodAll_mk1 (shut_bool Tryd.underlying4 _), (trodAll_cons_mk (shut_string Tryd.underlying9 w0) trodAll_mk0), rfl, bel.frame _, fun h => by cases h⟩

set_option maxRecDepth 100000 in
theorem lifted (os : Os) (started : os.Started) (H : Type) (enc : TypeId × Value → H) (F : Stop.Interp) :
    ReturnsInHanded {} Tryd.checked os 4 .any ((OpenSpec.ofChange Rows.parseFixedSpec).preRow enc Tryd.prog Tryd.f4 Rows.parseFixedRow.domain false Rows.parseFixedRow.laid) (((OpenSpec.ofChange Rows.parseFixedSpec).at F).post enc Tryd.prog Tryd.f4 false true false false) := by
  obtain ⟨places, hx⟩ := reads os enc
  refine returnsInHanded_of_row (C := Tryd.checked) (s := OpenSpec.ofChange Rows.parseFixedSpec) own started (by kernel_rfl) Tryd.func4
    (witness_row_at (enc := enc) (C := Tryd.checked) false (laidWorld os) #[.string ByteArray.empty] rfl (by kernel_rfl) (by kernel_rfl) (by kernel_rfl)
      (OpenSpec.preRow_of_cond 8 hx (by kernel_rfl) (fun k hk => by cases hk) (by kernel_rfl) (laid_met os))) ?_
  intro W base args ds gs before hval hW _ hcond _ hL _ _
  exact contract H enc W base args ds gs before hval hW hL

theorem said : Rows.ParseFixedSaid :=
  OpenClaim.holds_of_cond 4 Tryd.f4 rfl rfl rfl rfl rfl rfl rfl ⟨rfl, rfl, rfl, rfl, rfl⟩ rfl rfl rfl rfl rfl (by kernel_rfl) Tryd.func4 (by kernel_rfl)
    (of_decide_eq_true (by kernel_rfl)) (by unfold Func.isWrapper; first | (rw [if_pos (by decide +kernel)]; kernel_rfl) | (rw [if_neg (by decide +kernel)]; exact ⟨rfl, rfl⟩))
    (fun os started H enc _ F => by rw [OpenClaim.pre_eq_preRow]; exact lifted os started H enc F)

theorem plain (f : FuncId) (fn : Func) (hf : Tryd.pinned.checked.prog.funcNamed "lustrum/lustrumlaw13.ParseFixed" = some f) (hfn : Tryd.pinned.checked.prog.funcs[f]? = some fn) :
    true = Tryd.pinned.checked.prog.looks [] ∧ ∀ (j : Nat) t, fn.params[j]? = some t → Tryd.pinned.checked.prog.wantsStandIn t = false := by
  obtain rfl : f = 4 := Option.some.inj ((show Tryd.prog.funcNamed "lustrum/lustrumlaw13.ParseFixed" = some 4 by kernel_rfl).symm.trans hf) |>.symm
  obtain rfl : fn = Tryd.f4 := (Option.some.inj (Tryd.func4.symm.trans hfn)).symm
  refine ⟨by kernel_rfl, fun j t ht => ?_⟩
  rw [Tryd.params4] at ht
  have hm := Array.mem_of_getElem? ht
  have ho : t = 9 := by first | simpa using hm | (simp at hm; rcases hm with h <;> simp [h])
  subst ho
  exact (show Tryd.prog.wantsStandIn 9 = false by kernel_rfl)

/-- THE CARD. -/
theorem proved : Rows.ParseFixedCardSaid :=
  Claim7.holds_tied_plain_at .later [] _ _ _ _ said (fun _ h => by cases h) (by kernel_rfl) (fun _ h => by cases h) parseFixed_row_tie rfl ⟨rfl, rfl⟩ (by kernel_rfl) rfl plain (by kernel_rfl)
#print axioms proved
end Go.Proofs.YtndmohamjffpcaaDoor.lawParseFixed
