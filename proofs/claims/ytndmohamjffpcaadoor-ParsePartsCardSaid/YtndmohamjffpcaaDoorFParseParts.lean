/-
  Joined: L13P, LParseParts.
-/
import Derived.Test.YtndmohamjffpcaaDoorGPsR
import Derived.Test.YtndmohamjffpcaaDoorGPrA
import Derived.Test.YtndmohamjffpcaaDoorGCnB
import Derived.Test.YtndmohamjffpcaaDoorGTrB
import Derived.Test.YtndmohamjffpcaaDoorCards
import Derived.Test.YtndmohamjffpcaaDoorTie
import Derived.WalkKit
import Derived.ProofKit
import Derived.OpenShut
import Derived.ShutString
import Derived.ChangeOld
import Derived.Below
import Derived.Deep.DeepHandedRow
import Derived.Lib.LaidTab
namespace Go.Proofs.YtndmohamjffpcaaDoor
open Go.RowKit Go.Shelf
set_option linter.unusedVariables false
set_option linter.unusedSimpArgs false
set_option maxHeartbeats 16000000 in
set_option maxRecDepth 100000 in
theorem ppar_long1 (s t : ByteArray) (w : World) (hm : s.size ≤ maxLen) (hm2 : t.size ≤ maxLen) (T : TabSH w) (hs : 400 < s.size) :
    Calls Tryd.prog 7 #[.string s, .string t] w fun e w' => e = .returned (.bool true) ∧ Kp w w' := by
  have AW := Lib.hid (fun w1 (kk : Kp w w1) => show Calls Tryd.prog 8 #[] w1 fun e w' => e = .returned (.bool true) ∧ Kp w1 w' from awake13 w1 (T.kp kk))
  have z0 : decide ((s.size : Int) > 400) = true := decide_eq_true (by omega)
  clear hs
  have K00 := Lib.hid (Kp.refl w)
  clear T
  go_enter Tryd.func7, Tryd.ntmps7
  go_upto_region 1 with fail
  go_wp2_with fail
  refine (AW.out _ K00.out).mono ?_
  rintro e w1 ⟨rfl, kz⟩
  have Kw1 := Lib.hid (K00.out.trans kz)
  clear kz
  go_wp2
  go_ret
  exact ⟨rfl, Kw1.out⟩
set_option maxHeartbeats 16000000 in
set_option maxRecDepth 100000 in
theorem ppar_long2 (s t : ByteArray) (w : World) (hm : s.size ≤ maxLen) (hm2 : t.size ≤ maxLen) (T : TabSH w) (hs : s.size ≤ 400) (ht : 400 < t.size) :
    Calls Tryd.prog 7 #[.string s, .string t] w fun e w' => e = .returned (.bool true) ∧ Kp w w' := by
  have AW := Lib.hid (fun w1 (kk : Kp w w1) => show Calls Tryd.prog 8 #[] w1 fun e w' => e = .returned (.bool true) ∧ Kp w1 w' from awake13 w1 (T.kp kk))
  have z0 : decide ((s.size : Int) > 400) = false := decide_eq_false (by omega)
  have z1 : decide ((t.size : Int) > 400) = true := decide_eq_true (by omega)
  clear hs ht
  have K00 := Lib.hid (Kp.refl w)
  clear T
  go_enter Tryd.func7, Tryd.ntmps7
  go_upto_region 1 with fail
  go_wp2_with fail
  refine (AW.out _ K00.out).mono ?_
  rintro e w1 ⟨rfl, kz⟩
  have Kw1 := Lib.hid (K00.out.trans kz)
  clear kz
  go_wp2
  go_ret
  exact ⟨rfl, Kw1.out⟩
set_option maxHeartbeats 16000000 in
set_option maxRecDepth 100000 in
theorem ppar_e1 (s t : ByteArray) (w : World) (hm : s.size ≤ maxLen) (hm2 : t.size ≤ maxLen) (T : TabSH w) (hs : s.size ≤ 400) (ht : t.size ≤ 400) (a1 x1 : Int) (o2 o3 : Out) (pr1 : PR s (.er a1 x1)) (pr2 : PR t o2) (pr3 : PR (two13 s t) o3) :
    Calls Tryd.prog 7 #[.string s, .string t] w fun e w' => e = .returned (.bool true) ∧ Kp w w' := by
  have AW := Lib.hid (fun w1 (kk : Kp w w1) => show Calls Tryd.prog 8 #[] w1 fun e w' => e = .returned (.bool true) ∧ Kp w1 w' from awake13 w1 (T.kp kk))
  have z0 : decide ((s.size : Int) > 400) = false := decide_eq_false (by omega)
  have z1 : decide ((t.size : Int) > 400) = false := decide_eq_false (by omega)
  have sz := two_size s t
  have tb := two_bytes s t
  have P1 := Lib.hid (fun w1 (kk : Kp w w1) => show Calls Tryd.prog 12 #[.string s] w1 fun en w' => ∃ ad cp, en = .returned (.tuple #[.agg #[.int .i64 nd0.k, .int .i64 nd0.p.k, .string nd0.p.y, .string nd0.p.m, .string nd0.p.d, .bool nd0.a, .bool nd0.t, .slice ad nd0.l.length cp], .int .i64 a1, .int .i64 x1]) ∧ Fnd w' w1.heap.size (fun _ => False) (.slice ad nd0.l.length cp) nd0.l ∧ Kp w1 w' from parse_any pr1 w1 (by unfold maxLen; omega) (T.kp kk))
  have P2 := Lib.hid (fun w1 (kk : Kp w w1) => show Calls Tryd.prog 12 #[.string t] w1 fun en w' => ∃ ad cp, en = .returned (.tuple #[.agg #[.int .i64 (outN o2).k, .int .i64 (outN o2).p.k, .string (outN o2).p.y, .string (outN o2).p.m, .string (outN o2).p.d, .bool (outN o2).a, .bool (outN o2).t, .slice ad (outN o2).l.length cp], .int .i64 (outA t o2), .int .i64 (outE o2)]) ∧ Fnd w' w1.heap.size (fun _ => False) (.slice ad (outN o2).l.length cp) (outN o2).l ∧ Kp w1 w' from parse_any pr2 w1 (by unfold maxLen; omega) (T.kp kk))
  have P3 := Lib.hid (fun w1 (kk : Kp w w1) => show Calls Tryd.prog 12 #[.string (two13 s t)] w1 fun en w' => ∃ ad cp, en = .returned (.tuple #[.agg #[.int .i64 (outN o3).k, .int .i64 (outN o3).p.k, .string (outN o3).p.y, .string (outN o3).p.m, .string (outN o3).p.d, .bool (outN o3).a, .bool (outN o3).t, .slice ad (outN o3).l.length cp], .int .i64 (outA (two13 s t) o3), .int .i64 (outE o3)]) ∧ Fnd w' w1.heap.size (fun _ => False) (.slice ad (outN o3).l.length cp) (outN o3).l ∧ Kp w1 w' from parse_any pr3 w1 (by unfold maxLen; omega) (T.kp kk))
  have hx := (pr_er pr1).1
  have x0 : (x1 == 0) = false := beq_eq_false_iff_ne.2 hx
  have x0' : (x1 != 0) = true := by simp [hx]
  generalize outN o2 = n2 at *
  generalize outA t o2 = a2 at *
  generalize outE o2 = x2 at *
  clear hx
  generalize outN o3 = n3 at *
  generalize outA (two13 s t) o3 = a3 at *
  generalize outE o3 = x3 at *
  generalize nd0 = n1 at *
  generalize two13 s t = st at *
  have tb2 : (({ data := #[91] } : ByteArray) ++ s ++ { data := #[44] } ++ t ++ { data := #[93] }) = st := tb
  clear tb pr1 pr2 pr3
  have y1 : (9223372036854775807 < 1 + s.size) = False := eq_false (by omega)
  have y2 : (9223372036854775807 < 1 + s.size + 1) = False := eq_false (by omega)
  have y3 : (9223372036854775807 < 1 + s.size + 1 + t.size) = False := eq_false (by omega)
  have y4 : (9223372036854775807 < 1 + s.size + 1 + t.size + 1) = False := eq_false (by omega)
  have y5 : (st.size : Int) = (s.size : Int) + (t.size : Int) + 3 := by omega
  have K00 := Lib.hid (Kp.refl w)
  clear T
  go_enter Tryd.func7, Tryd.ntmps7
  go_upto_region 1 with fail
  go_wp2_with fail
  refine (AW.out _ K00.out).mono ?_
  rintro e w1 ⟨rfl, kz⟩
  have Kw1 := Lib.hid (K00.out.trans kz)
  clear kz
  go_upto_region 4 with fail
  go_wp2_with fail
  refine (P1.out _ Kw1.out).mono ?_
  rintro e w2 ⟨ad1, cp1, rfl, f1, kz⟩
  have Kw2 := Lib.hid (Kw1.out.trans kz)
  clear kz
  obtain ⟨vw2, hV⟩ : ∃ x, x = w2.alloc (.cells #[.int .i64 n1.k, .int .i64 n1.p.k, .string n1.p.y, .string n1.p.m, .string n1.p.d, .bool n1.a, .bool n1.t, .slice ad1 n1.l.length cp1] 26) := ⟨_, rfl⟩
  have ka : Kp w2 vw2 := by rw [hV]; exact Kp.alloc _ _
  have Bx' := Lib.hid (show NB vw2 w2.heap.size n1 from NB.of (by rw [hV]; exact heap_at _ _ _ rfl) ((f1.nodes).kp ka))
  have Kvw2 := Lib.hid (Kw2.out.trans ka)
  have Bx := Bx'
  have HV := Lib.hid hV
  clear hV ka Bx'
  go_upto_region 5 with fail
  rw [← HV.out]
  clear HV
  clear f1
  go_wp2_with fail
  refine (P2.out _ Kvw2.out).mono ?_
  rintro e w3 ⟨ad2, cp2, rfl, f2, kz⟩
  have Kw3 := Lib.hid (Kvw2.out.trans kz)
  have Bx := Lib.hid (Bx.out.kp kz)
  clear kz
  obtain ⟨vw3, hV⟩ : ∃ x, x = w3.alloc (.cells #[.int .i64 n2.k, .int .i64 n2.p.k, .string n2.p.y, .string n2.p.m, .string n2.p.d, .bool n2.a, .bool n2.t, .slice ad2 n2.l.length cp2] 26) := ⟨_, rfl⟩
  have ka : Kp w3 vw3 := by rw [hV]; exact Kp.alloc _ _
  have By' := Lib.hid (show NB vw3 w3.heap.size n2 from NB.of (by rw [hV]; exact heap_at _ _ _ rfl) ((f2.nodes).kp ka))
  have Kvw3 := Lib.hid (Kw3.out.trans ka)
  have Bx := Lib.hid (Bx.out.kp ka)
  have By := By'
  have HV := Lib.hid hV
  clear hV ka By'
  go_upto_region 6 with fail
  rw [← HV.out]
  clear HV
  clear f2
  go_wp2_with fail
  refine (P3.out _ Kvw3.out).mono ?_
  rintro e w4 ⟨ad3, cp3, rfl, f3, kz⟩
  have Kw4 := Lib.hid (Kvw3.out.trans kz)
  have Bx := Lib.hid (Bx.out.kp kz)
  have By := Lib.hid (By.out.kp kz)
  clear kz
  obtain ⟨vw4, hV⟩ : ∃ x, x = w4.alloc (.cells #[.int .i64 n3.k, .int .i64 n3.p.k, .string n3.p.y, .string n3.p.m, .string n3.p.d, .bool n3.a, .bool n3.t, .slice ad3 n3.l.length cp3] 26) := ⟨_, rfl⟩
  have ka : Kp w4 vw4 := by rw [hV]; exact Kp.alloc _ _
  have Bz' := Lib.hid (show NB vw4 w4.heap.size n3 from NB.of (by rw [hV]; exact heap_at _ _ _ rfl) ((f3.nodes).kp ka))
  have Kvw4 := Lib.hid (Kw4.out.trans ka)
  have Bx := Lib.hid (Bx.out.kp ka)
  have By := Lib.hid (By.out.kp ka)
  have Bz := Bz'
  have HV := Lib.hid hV
  clear hV ka Bz'
  go_upto_region 7 with fail
  rw [← HV.out]
  clear HV
  clear f3
  go_wp2
  go_ret
  exact ⟨rfl, Kvw4.out⟩
set_option maxHeartbeats 16000000 in
set_option maxRecDepth 100000 in
theorem ppar_e2 (s t : ByteArray) (w : World) (hm : s.size ≤ maxLen) (hm2 : t.size ≤ maxLen) (T : TabSH w) (hs : s.size ≤ 400) (ht : t.size ≤ 400) (n1 : ND) (a2 x2 : Int) (o3 : Out) (pr1 : PR s (.ok n1)) (pr2 : PR t (.er a2 x2)) (pr3 : PR (two13 s t) o3) :
    Calls Tryd.prog 7 #[.string s, .string t] w fun e w' => e = .returned (.bool true) ∧ Kp w w' := by
  have AW := Lib.hid (fun w1 (kk : Kp w w1) => show Calls Tryd.prog 8 #[] w1 fun e w' => e = .returned (.bool true) ∧ Kp w1 w' from awake13 w1 (T.kp kk))
  have z0 : decide ((s.size : Int) > 400) = false := decide_eq_false (by omega)
  have z1 : decide ((t.size : Int) > 400) = false := decide_eq_false (by omega)
  have sz := two_size s t
  have tb := two_bytes s t
  have P1 := Lib.hid (fun w1 (kk : Kp w w1) => show Calls Tryd.prog 12 #[.string s] w1 fun en w' => ∃ ad cp, en = .returned (.tuple #[.agg #[.int .i64 n1.k, .int .i64 n1.p.k, .string n1.p.y, .string n1.p.m, .string n1.p.d, .bool n1.a, .bool n1.t, .slice ad n1.l.length cp], .int .i64 (s.size : Nat), .int .i64 0]) ∧ Fnd w' w1.heap.size (fun _ => False) (.slice ad n1.l.length cp) n1.l ∧ Kp w1 w' from parse_any pr1 w1 (by unfold maxLen; omega) (T.kp kk))
  have P2 := Lib.hid (fun w1 (kk : Kp w w1) => show Calls Tryd.prog 12 #[.string t] w1 fun en w' => ∃ ad cp, en = .returned (.tuple #[.agg #[.int .i64 nd0.k, .int .i64 nd0.p.k, .string nd0.p.y, .string nd0.p.m, .string nd0.p.d, .bool nd0.a, .bool nd0.t, .slice ad nd0.l.length cp], .int .i64 a2, .int .i64 x2]) ∧ Fnd w' w1.heap.size (fun _ => False) (.slice ad nd0.l.length cp) nd0.l ∧ Kp w1 w' from parse_any pr2 w1 (by unfold maxLen; omega) (T.kp kk))
  have P3 := Lib.hid (fun w1 (kk : Kp w w1) => show Calls Tryd.prog 12 #[.string (two13 s t)] w1 fun en w' => ∃ ad cp, en = .returned (.tuple #[.agg #[.int .i64 (outN o3).k, .int .i64 (outN o3).p.k, .string (outN o3).p.y, .string (outN o3).p.m, .string (outN o3).p.d, .bool (outN o3).a, .bool (outN o3).t, .slice ad (outN o3).l.length cp], .int .i64 (outA (two13 s t) o3), .int .i64 (outE o3)]) ∧ Fnd w' w1.heap.size (fun _ => False) (.slice ad (outN o3).l.length cp) (outN o3).l ∧ Kp w1 w' from parse_any pr3 w1 (by unfold maxLen; omega) (T.kp kk))
  have hx := (pr_er pr2).1
  have x0 : (x2 == 0) = false := beq_eq_false_iff_ne.2 hx
  have x0' : (x2 != 0) = true := by simp [hx]
  clear hx
  generalize outN o3 = n3 at *
  generalize outA (two13 s t) o3 = a3 at *
  generalize outE o3 = x3 at *
  generalize nd0 = n2 at *
  generalize two13 s t = st at *
  have tb2 : (({ data := #[91] } : ByteArray) ++ s ++ { data := #[44] } ++ t ++ { data := #[93] }) = st := tb
  clear tb pr1 pr2 pr3
  have y1 : (9223372036854775807 < 1 + s.size) = False := eq_false (by omega)
  have y2 : (9223372036854775807 < 1 + s.size + 1) = False := eq_false (by omega)
  have y3 : (9223372036854775807 < 1 + s.size + 1 + t.size) = False := eq_false (by omega)
  have y4 : (9223372036854775807 < 1 + s.size + 1 + t.size + 1) = False := eq_false (by omega)
  have y5 : (st.size : Int) = (s.size : Int) + (t.size : Int) + 3 := by omega
  have K00 := Lib.hid (Kp.refl w)
  clear T
  go_enter Tryd.func7, Tryd.ntmps7
  go_upto_region 1 with fail
  go_wp2_with fail
  refine (AW.out _ K00.out).mono ?_
  rintro e w1 ⟨rfl, kz⟩
  have Kw1 := Lib.hid (K00.out.trans kz)
  clear kz
  go_upto_region 4 with fail
  go_wp2_with fail
  refine (P1.out _ Kw1.out).mono ?_
  rintro e w2 ⟨ad1, cp1, rfl, f1, kz⟩
  have Kw2 := Lib.hid (Kw1.out.trans kz)
  clear kz
  obtain ⟨vw2, hV⟩ : ∃ x, x = w2.alloc (.cells #[.int .i64 n1.k, .int .i64 n1.p.k, .string n1.p.y, .string n1.p.m, .string n1.p.d, .bool n1.a, .bool n1.t, .slice ad1 n1.l.length cp1] 26) := ⟨_, rfl⟩
  have ka : Kp w2 vw2 := by rw [hV]; exact Kp.alloc _ _
  have Bx' := Lib.hid (show NB vw2 w2.heap.size n1 from NB.of (by rw [hV]; exact heap_at _ _ _ rfl) ((f1.nodes).kp ka))
  have Kvw2 := Lib.hid (Kw2.out.trans ka)
  have Bx := Bx'
  have HV := Lib.hid hV
  clear hV ka Bx'
  go_upto_region 5 with fail
  rw [← HV.out]
  clear HV
  clear f1
  go_wp2_with fail
  refine (P2.out _ Kvw2.out).mono ?_
  rintro e w3 ⟨ad2, cp2, rfl, f2, kz⟩
  have Kw3 := Lib.hid (Kvw2.out.trans kz)
  have Bx := Lib.hid (Bx.out.kp kz)
  clear kz
  obtain ⟨vw3, hV⟩ : ∃ x, x = w3.alloc (.cells #[.int .i64 n2.k, .int .i64 n2.p.k, .string n2.p.y, .string n2.p.m, .string n2.p.d, .bool n2.a, .bool n2.t, .slice ad2 n2.l.length cp2] 26) := ⟨_, rfl⟩
  have ka : Kp w3 vw3 := by rw [hV]; exact Kp.alloc _ _
  have By' := Lib.hid (show NB vw3 w3.heap.size n2 from NB.of (by rw [hV]; exact heap_at _ _ _ rfl) ((f2.nodes).kp ka))
  have Kvw3 := Lib.hid (Kw3.out.trans ka)
  have Bx := Lib.hid (Bx.out.kp ka)
  have By := By'
  have HV := Lib.hid hV
  clear hV ka By'
  go_upto_region 6 with fail
  rw [← HV.out]
  clear HV
  clear f2
  go_wp2_with fail
  refine (P3.out _ Kvw3.out).mono ?_
  rintro e w4 ⟨ad3, cp3, rfl, f3, kz⟩
  have Kw4 := Lib.hid (Kvw3.out.trans kz)
  have Bx := Lib.hid (Bx.out.kp kz)
  have By := Lib.hid (By.out.kp kz)
  clear kz
  obtain ⟨vw4, hV⟩ : ∃ x, x = w4.alloc (.cells #[.int .i64 n3.k, .int .i64 n3.p.k, .string n3.p.y, .string n3.p.m, .string n3.p.d, .bool n3.a, .bool n3.t, .slice ad3 n3.l.length cp3] 26) := ⟨_, rfl⟩
  have ka : Kp w4 vw4 := by rw [hV]; exact Kp.alloc _ _
  have Bz' := Lib.hid (show NB vw4 w4.heap.size n3 from NB.of (by rw [hV]; exact heap_at _ _ _ rfl) ((f3.nodes).kp ka))
  have Kvw4 := Lib.hid (Kw4.out.trans ka)
  have Bx := Lib.hid (Bx.out.kp ka)
  have By := Lib.hid (By.out.kp ka)
  have Bz := Bz'
  have HV := Lib.hid hV
  clear hV ka Bz'
  go_upto_region 7 with fail
  rw [← HV.out]
  clear HV
  clear f3
  go_wp2
  go_ret
  exact ⟨rfl, Kvw4.out⟩
set_option maxHeartbeats 16000000 in
set_option maxRecDepth 100000 in
theorem ppar_ok (s t : ByteArray) (w : World) (hm : s.size ≤ maxLen) (hm2 : t.size ≤ maxLen) (T : TabSH w) (hs : s.size ≤ 400) (ht : t.size ≤ 400) (n1 n2 : ND) (pr1 : PR s (.ok n1)) (pr2 : PR t (.ok n2)) (hl : saneN saneP (orN [n1, n2]) = true) (pr3 : PR (two13 s t) (.ok (orN [n1, n2]))) :
    Calls Tryd.prog 7 #[.string s, .string t] w fun e w' => e = .returned (.bool true) ∧ Kp w w' := by
  have AW := Lib.hid (fun w1 (kk : Kp w w1) => show Calls Tryd.prog 8 #[] w1 fun e w' => e = .returned (.bool true) ∧ Kp w1 w' from awake13 w1 (T.kp kk))
  have z0 : decide ((s.size : Int) > 400) = false := decide_eq_false (by omega)
  have z1 : decide ((t.size : Int) > 400) = false := decide_eq_false (by omega)
  have sz := two_size s t
  have tb := two_bytes s t
  have P1 := Lib.hid (fun w1 (kk : Kp w w1) => show Calls Tryd.prog 12 #[.string s] w1 fun en w' => ∃ ad cp, en = .returned (.tuple #[.agg #[.int .i64 n1.k, .int .i64 n1.p.k, .string n1.p.y, .string n1.p.m, .string n1.p.d, .bool n1.a, .bool n1.t, .slice ad n1.l.length cp], .int .i64 (s.size : Nat), .int .i64 0]) ∧ Fnd w' w1.heap.size (fun _ => False) (.slice ad n1.l.length cp) n1.l ∧ Kp w1 w' from parse_any pr1 w1 (by unfold maxLen; omega) (T.kp kk))
  have P2 := Lib.hid (fun w1 (kk : Kp w w1) => show Calls Tryd.prog 12 #[.string t] w1 fun en w' => ∃ ad cp, en = .returned (.tuple #[.agg #[.int .i64 n2.k, .int .i64 n2.p.k, .string n2.p.y, .string n2.p.m, .string n2.p.d, .bool n2.a, .bool n2.t, .slice ad n2.l.length cp], .int .i64 (t.size : Nat), .int .i64 0]) ∧ Fnd w' w1.heap.size (fun _ => False) (.slice ad n2.l.length cp) n2.l ∧ Kp w1 w' from parse_any pr2 w1 (by unfold maxLen; omega) (T.kp kk))
  have P3 := Lib.hid (fun w1 (kk : Kp w w1) => show Calls Tryd.prog 12 #[.string (two13 s t)] w1 fun en w' => ∃ ad cp, en = .returned (.tuple #[.agg #[.int .i64 (orN [n1, n2]).k, .int .i64 (orN [n1, n2]).p.k, .string (orN [n1, n2]).p.y, .string (orN [n1, n2]).p.m, .string (orN [n1, n2]).p.d, .bool (orN [n1, n2]).a, .bool (orN [n1, n2]).t, .slice ad (orN [n1, n2]).l.length cp], .int .i64 ((two13 s t).size : Nat), .int .i64 0]) ∧ Fnd w' w1.heap.size (fun _ => False) (.slice ad (orN [n1, n2]).l.length cp) (orN [n1, n2]).l ∧ Kp w1 w' from parse_any pr3 w1 (by unfold maxLen; omega) (T.kp kk))
  have OO := Lib.hid (fun b w1 => show Calls Tryd.prog 18 #[.slice (some ⟨b, 0, none⟩) 2 2] w1 fun e w' => e = .returned (.agg #[.int .i64 (orN [n1, n2]).k, .int .i64 (orN [n1, n2]).p.k, .string (orN [n1, n2]).p.y, .string (orN [n1, n2]).p.m, .string (orN [n1, n2]).p.d, .bool (orN [n1, n2]).a, .bool (orN [n1, n2]).t, .slice (some ⟨b, 0, none⟩) 2 2]) ∧ Kp w1 w' from oneOf_any (.slice (some ⟨b, 0, none⟩) 2 2) [n1, n2] w1 ⟨_, _, rfl⟩)
  have SN := Lib.hid (fun ad1 cp1 w1 (h : NodesAt w1 (.slice ad1 (orN [n1, n2]).l.length cp1) (orN [n1, n2]).l) (kk : Kp w w1) => show Calls Tryd.prog 10 #[.agg #[.int .i64 (orN [n1, n2]).k, .int .i64 (orN [n1, n2]).p.k, .string (orN [n1, n2]).p.y, .string (orN [n1, n2]).p.m, .string (orN [n1, n2]).p.d, .bool (orN [n1, n2]).a, .bool (orN [n1, n2]).t, .slice ad1 (orN [n1, n2]).l.length cp1]] w1 fun e w' => e = .returned (.bool true) ∧ Kp w1 w' from hl ▸ tSaneG_any (orN [n1, n2]) _ w1 h (T.kp kk))
  have HL := Lib.hid (show (orN [n1, n2]).l = [n1, n2] from rfl)
  have c64 := (cn_right hl).2
  have SM := Lib.hid (fun ad1 cp1 ad2 cp2 w1 (h : NodesAt w1 (.slice ad1 (orN [n1, n2]).l.length cp1) (orN [n1, n2]).l) (h2 : NodesAt w1 (.slice ad2 (orN [n1, n2]).l.length cp2) (orN [n1, n2]).l) (kk : Kp w w1) => show Calls Tryd.prog 13 #[.agg #[.int .i64 (orN [n1, n2]).k, .int .i64 (orN [n1, n2]).p.k, .string (orN [n1, n2]).p.y, .string (orN [n1, n2]).p.m, .string (orN [n1, n2]).p.d, .bool (orN [n1, n2]).a, .bool (orN [n1, n2]).t, .slice ad1 (orN [n1, n2]).l.length cp1], .agg #[.int .i64 (orN [n1, n2]).k, .int .i64 (orN [n1, n2]).p.k, .string (orN [n1, n2]).p.y, .string (orN [n1, n2]).p.m, .string (orN [n1, n2]).p.d, .bool (orN [n1, n2]).a, .bool (orN [n1, n2]).t, .slice ad2 (orN [n1, n2]).l.length cp2]] w1 fun e w' => e = .returned (.bool true) ∧ Kp w1 w' from same_refl _ ▸ tSame_any (orN [n1, n2]) (orN [n1, n2]) _ _ w1 h h2 (by omega))
  clear c64
  clear hl
  generalize orN [n1, n2] = L at *
  generalize two13 s t = st at *
  have tb2 : (({ data := #[91] } : ByteArray) ++ s ++ { data := #[44] } ++ t ++ { data := #[93] }) = st := tb
  clear tb pr1 pr2 pr3
  have y1 : (9223372036854775807 < 1 + s.size) = False := eq_false (by omega)
  have y2 : (9223372036854775807 < 1 + s.size + 1) = False := eq_false (by omega)
  have y3 : (9223372036854775807 < 1 + s.size + 1 + t.size) = False := eq_false (by omega)
  have y4 : (9223372036854775807 < 1 + s.size + 1 + t.size + 1) = False := eq_false (by omega)
  have y5 : (st.size : Int) = (s.size : Int) + (t.size : Int) + 3 := by omega
  have K00 := Lib.hid (Kp.refl w)
  clear T
  go_enter Tryd.func7, Tryd.ntmps7
  go_upto_region 1 with fail
  go_wp2_with fail
  refine (AW.out _ K00.out).mono ?_
  rintro e w1 ⟨rfl, kz⟩
  have Kw1 := Lib.hid (K00.out.trans kz)
  clear kz
  go_upto_region 4 with fail
  go_wp2_with fail
  refine (P1.out _ Kw1.out).mono ?_
  rintro e w2 ⟨ad1, cp1, rfl, f1, kz⟩
  have Kw2 := Lib.hid (Kw1.out.trans kz)
  clear kz
  obtain ⟨vw2, hV⟩ : ∃ x, x = w2.alloc (.cells #[.int .i64 n1.k, .int .i64 n1.p.k, .string n1.p.y, .string n1.p.m, .string n1.p.d, .bool n1.a, .bool n1.t, .slice ad1 n1.l.length cp1] 26) := ⟨_, rfl⟩
  have ka : Kp w2 vw2 := by rw [hV]; exact Kp.alloc _ _
  have Bx' := Lib.hid (show NB vw2 w2.heap.size n1 from NB.of (by rw [hV]; exact heap_at _ _ _ rfl) ((f1.nodes).kp ka))
  have Kvw2 := Lib.hid (Kw2.out.trans ka)
  have Bx := Bx'
  have HV := Lib.hid hV
  clear hV ka Bx'
  go_upto_region 5 with fail
  rw [← HV.out]
  clear HV
  clear f1
  go_wp2_with fail
  refine (P2.out _ Kvw2.out).mono ?_
  rintro e w3 ⟨ad2, cp2, rfl, f2, kz⟩
  have Kw3 := Lib.hid (Kvw2.out.trans kz)
  have Bx := Lib.hid (Bx.out.kp kz)
  clear kz
  obtain ⟨vw3, hV⟩ : ∃ x, x = w3.alloc (.cells #[.int .i64 n2.k, .int .i64 n2.p.k, .string n2.p.y, .string n2.p.m, .string n2.p.d, .bool n2.a, .bool n2.t, .slice ad2 n2.l.length cp2] 26) := ⟨_, rfl⟩
  have ka : Kp w3 vw3 := by rw [hV]; exact Kp.alloc _ _
  have By' := Lib.hid (show NB vw3 w3.heap.size n2 from NB.of (by rw [hV]; exact heap_at _ _ _ rfl) ((f2.nodes).kp ka))
  have Kvw3 := Lib.hid (Kw3.out.trans ka)
  have Bx := Lib.hid (Bx.out.kp ka)
  have By := By'
  have HV := Lib.hid hV
  clear hV ka By'
  go_upto_region 6 with fail
  rw [← HV.out]
  clear HV
  clear f2
  go_wp2_with fail
  refine (P3.out _ Kvw3.out).mono ?_
  rintro e w4 ⟨ad3, cp3, rfl, f3, kz⟩
  have Kw4 := Lib.hid (Kvw3.out.trans kz)
  have Bx := Lib.hid (Bx.out.kp kz)
  have By := Lib.hid (By.out.kp kz)
  clear kz
  obtain ⟨vw4, hV⟩ : ∃ x, x = w4.alloc (.cells #[.int .i64 L.k, .int .i64 L.p.k, .string L.p.y, .string L.p.m, .string L.p.d, .bool L.a, .bool L.t, .slice ad3 L.l.length cp3] 26) := ⟨_, rfl⟩
  have ka : Kp w4 vw4 := by rw [hV]; exact Kp.alloc _ _
  have Bz' := Lib.hid (show NB vw4 w4.heap.size L from NB.of (by rw [hV]; exact heap_at _ _ _ rfl) ((f3.nodes).kp ka))
  have Kvw4 := Lib.hid (Kw4.out.trans ka)
  have Bx := Lib.hid (Bx.out.kp ka)
  have By := Lib.hid (By.out.kp ka)
  have Bz := Bz'
  have HV := Lib.hid hV
  clear hV ka Bz'
  go_upto_region 7 with fail
  rw [← HV.out]
  clear HV
  clear f3
  go_upto_region 9 with fail
  obtain ⟨adx, cpx, gx, nx⟩ := Bx.out.opn
  have Nx := Lib.hid nx
  obtain ⟨cx0, cx1, cx2, cx3, cx4, cx5, cx6, cx7⟩ := row8 gx
  clear nx gx
  obtain ⟨ady, cpy, gy, ny⟩ := By.out.opn
  have Ny := Lib.hid ny
  obtain ⟨cy0, cy1, cy2, cy3, cy4, cy5, cy6, cy7⟩ := row8 gy
  clear ny gy
  have hb0 := Lib.hid True.intro
  go_wp2_with fail
  refine (OO.out _ _).mono ?_
  rintro e w5 ⟨rfl, kk⟩
  have gR := heap_block kk (heap_at _ _ _ rfl)
  have kz : Kp vw4 w5 := Kp.trans (show Kp vw4 _ from (by first | with_reducible exact (Kp.refl vw4) | ((repeat (first | with_reducible refine Kp.trans ?_ (Kp.drew _) | with_reducible refine Kp.trans ?_ (Kp.alloc _ _))); with_reducible exact (Kp.refl vw4)))) kk
  clear kk
  clear cx0 cx1 cx2 cx3 cx4 cx5 cx6 cx7 cy0 cy1 cy2 cy3 cy4 cy5 cy6 cy7
  have Kw5 := Lib.hid (Kvw4.out.trans kz)
  have Bx := Lib.hid (Bx.out.kp kz)
  have By := Lib.hid (By.out.kp kz)
  have Bz := Lib.hid (Bz.out.kp kz)
  have NT := Lib.hid (show NodesAt w5 (.slice (some ⟨vw4.heap.size, 0, none⟩) 2 2) L.l from HL.out ▸ two_in gR (Nx.out.kp kz) (Ny.out.kp kz))
  clear gR
  clear kz
  obtain ⟨vw5, hV⟩ : ∃ x, x = w5.alloc (.cells #[.int .i64 L.k, .int .i64 L.p.k, .string L.p.y, .string L.p.m, .string L.p.d, .bool L.a, .bool L.t, .slice (some ⟨vw4.heap.size, 0, none⟩) 2 2] 26) := ⟨_, rfl⟩
  have ka : Kp w5 vw5 := by rw [hV]; exact Kp.alloc _ _
  have Bl' := Lib.hid (show NB vw5 w5.heap.size L from NB.of (by rw [hV]; exact heap_at _ _ _ rfl) ((NT.out).kp ka))
  have Kvw5 := Lib.hid (Kw5.out.trans ka)
  have Bx := Lib.hid (Bx.out.kp ka)
  have By := Lib.hid (By.out.kp ka)
  have Bz := Lib.hid (Bz.out.kp ka)
  have Bl := Bl'
  have HV := Lib.hid hV
  clear hV ka Bl'
  go_upto_region 10 with fail
  rw [← HV.out]
  clear HV
  obtain ⟨adl, cpl, gl, nl⟩ := Bl.out.opn
  have Nl := Lib.hid nl
  obtain ⟨cl0, cl1, cl2, cl3, cl4, cl5, cl6, cl7⟩ := row8 gl
  clear nl gl
  go_wp2_with fail
  refine (SN.out _ _ _ Nl.out Kvw5.out).mono ?_
  rintro e w6 ⟨rfl, kz⟩
  clear cl0 cl1 cl2 cl3 cl4 cl5 cl6 cl7
  have Kw6 := Lib.hid (Kvw5.out.trans kz)
  have Bx := Lib.hid (Bx.out.kp kz)
  have By := Lib.hid (By.out.kp kz)
  have Bz := Lib.hid (Bz.out.kp kz)
  have Bl := Lib.hid (Bl.out.kp kz)
  clear kz
  go_upto_region 12 with fail
  obtain ⟨adz, cpz, gz, nz⟩ := Bz.out.opn
  have Nz := Lib.hid nz
  obtain ⟨cz0, cz1, cz2, cz3, cz4, cz5, cz6, cz7⟩ := row8 gz
  clear nz gz
  obtain ⟨adl, cpl, gl, nl⟩ := Bl.out.opn
  have Nl := Lib.hid nl
  obtain ⟨cl0, cl1, cl2, cl3, cl4, cl5, cl6, cl7⟩ := row8 gl
  clear nl gl
  go_wp2_with fail
  refine (SM.out _ _ _ _ _ Nz.out Nl.out Kw6.out).mono ?_
  rintro e w7 ⟨rfl, kz⟩
  clear cz0 cz1 cz2 cz3 cz4 cz5 cz6 cz7 cl0 cl1 cl2 cl3 cl4 cl5 cl6 cl7
  have Kw7 := Lib.hid (Kw6.out.trans kz)
  have Bx := Lib.hid (Bx.out.kp kz)
  have By := Lib.hid (By.out.kp kz)
  have Bz := Lib.hid (Bz.out.kp kz)
  have Bl := Lib.hid (Bl.out.kp kz)
  clear kz
  go_wp2
  go_ret
  exact ⟨rfl, Kw7.out⟩
set_option maxHeartbeats 16000000 in
set_option maxRecDepth 100000 in
theorem ppar_no5 (s t : ByteArray) (w : World) (hm : s.size ≤ maxLen) (hm2 : t.size ≤ maxLen) (T : TabSH w) (hs : s.size ≤ 400) (ht : t.size ≤ 400) (n1 n2 : ND) (a3 : Int) (pr1 : PR s (.ok n1)) (pr2 : PR t (.ok n2)) (hl : saneN saneP (orN [n1, n2]) = false) (pr3 : PR (two13 s t) (.er a3 5)) :
    Calls Tryd.prog 7 #[.string s, .string t] w fun e w' => e = .returned (.bool true) ∧ Kp w w' := by
  have AW := Lib.hid (fun w1 (kk : Kp w w1) => show Calls Tryd.prog 8 #[] w1 fun e w' => e = .returned (.bool true) ∧ Kp w1 w' from awake13 w1 (T.kp kk))
  have z0 : decide ((s.size : Int) > 400) = false := decide_eq_false (by omega)
  have z1 : decide ((t.size : Int) > 400) = false := decide_eq_false (by omega)
  have sz := two_size s t
  have tb := two_bytes s t
  have P1 := Lib.hid (fun w1 (kk : Kp w w1) => show Calls Tryd.prog 12 #[.string s] w1 fun en w' => ∃ ad cp, en = .returned (.tuple #[.agg #[.int .i64 n1.k, .int .i64 n1.p.k, .string n1.p.y, .string n1.p.m, .string n1.p.d, .bool n1.a, .bool n1.t, .slice ad n1.l.length cp], .int .i64 (s.size : Nat), .int .i64 0]) ∧ Fnd w' w1.heap.size (fun _ => False) (.slice ad n1.l.length cp) n1.l ∧ Kp w1 w' from parse_any pr1 w1 (by unfold maxLen; omega) (T.kp kk))
  have P2 := Lib.hid (fun w1 (kk : Kp w w1) => show Calls Tryd.prog 12 #[.string t] w1 fun en w' => ∃ ad cp, en = .returned (.tuple #[.agg #[.int .i64 n2.k, .int .i64 n2.p.k, .string n2.p.y, .string n2.p.m, .string n2.p.d, .bool n2.a, .bool n2.t, .slice ad n2.l.length cp], .int .i64 (t.size : Nat), .int .i64 0]) ∧ Fnd w' w1.heap.size (fun _ => False) (.slice ad n2.l.length cp) n2.l ∧ Kp w1 w' from parse_any pr2 w1 (by unfold maxLen; omega) (T.kp kk))
  have P3 := Lib.hid (fun w1 (kk : Kp w w1) => show Calls Tryd.prog 12 #[.string (two13 s t)] w1 fun en w' => ∃ ad cp, en = .returned (.tuple #[.agg #[.int .i64 nd0.k, .int .i64 nd0.p.k, .string nd0.p.y, .string nd0.p.m, .string nd0.p.d, .bool nd0.a, .bool nd0.t, .slice ad nd0.l.length cp], .int .i64 a3, .int .i64 5]) ∧ Fnd w' w1.heap.size (fun _ => False) (.slice ad nd0.l.length cp) nd0.l ∧ Kp w1 w' from parse_any pr3 w1 (by unfold maxLen; omega) (T.kp kk))
  have OO := Lib.hid (fun b w1 => show Calls Tryd.prog 18 #[.slice (some ⟨b, 0, none⟩) 2 2] w1 fun e w' => e = .returned (.agg #[.int .i64 (orN [n1, n2]).k, .int .i64 (orN [n1, n2]).p.k, .string (orN [n1, n2]).p.y, .string (orN [n1, n2]).p.m, .string (orN [n1, n2]).p.d, .bool (orN [n1, n2]).a, .bool (orN [n1, n2]).t, .slice (some ⟨b, 0, none⟩) 2 2]) ∧ Kp w1 w' from oneOf_any (.slice (some ⟨b, 0, none⟩) 2 2) [n1, n2] w1 ⟨_, _, rfl⟩)
  have SN := Lib.hid (fun ad1 cp1 w1 (h : NodesAt w1 (.slice ad1 (orN [n1, n2]).l.length cp1) (orN [n1, n2]).l) (kk : Kp w w1) => show Calls Tryd.prog 10 #[.agg #[.int .i64 (orN [n1, n2]).k, .int .i64 (orN [n1, n2]).p.k, .string (orN [n1, n2]).p.y, .string (orN [n1, n2]).p.m, .string (orN [n1, n2]).p.d, .bool (orN [n1, n2]).a, .bool (orN [n1, n2]).t, .slice ad1 (orN [n1, n2]).l.length cp1]] w1 fun e w' => e = .returned (.bool false) ∧ Kp w1 w' from hl ▸ tSaneG_any (orN [n1, n2]) _ w1 h (T.kp kk))
  have HL := Lib.hid (show (orN [n1, n2]).l = [n1, n2] from rfl)
  clear hl
  generalize orN [n1, n2] = L at *
  generalize nd0 = n0 at *
  generalize two13 s t = st at *
  have tb2 : (({ data := #[91] } : ByteArray) ++ s ++ { data := #[44] } ++ t ++ { data := #[93] }) = st := tb
  clear tb pr1 pr2 pr3
  have y1 : (9223372036854775807 < 1 + s.size) = False := eq_false (by omega)
  have y2 : (9223372036854775807 < 1 + s.size + 1) = False := eq_false (by omega)
  have y3 : (9223372036854775807 < 1 + s.size + 1 + t.size) = False := eq_false (by omega)
  have y4 : (9223372036854775807 < 1 + s.size + 1 + t.size + 1) = False := eq_false (by omega)
  have y5 : (st.size : Int) = (s.size : Int) + (t.size : Int) + 3 := by omega
  have K00 := Lib.hid (Kp.refl w)
  clear T
  go_enter Tryd.func7, Tryd.ntmps7
  go_upto_region 1 with fail
  go_wp2_with fail
  refine (AW.out _ K00.out).mono ?_
  rintro e w1 ⟨rfl, kz⟩
  have Kw1 := Lib.hid (K00.out.trans kz)
  clear kz
  go_upto_region 4 with fail
  go_wp2_with fail
  refine (P1.out _ Kw1.out).mono ?_
  rintro e w2 ⟨ad1, cp1, rfl, f1, kz⟩
  have Kw2 := Lib.hid (Kw1.out.trans kz)
  clear kz
  obtain ⟨vw2, hV⟩ : ∃ x, x = w2.alloc (.cells #[.int .i64 n1.k, .int .i64 n1.p.k, .string n1.p.y, .string n1.p.m, .string n1.p.d, .bool n1.a, .bool n1.t, .slice ad1 n1.l.length cp1] 26) := ⟨_, rfl⟩
  have ka : Kp w2 vw2 := by rw [hV]; exact Kp.alloc _ _
  have Bx' := Lib.hid (show NB vw2 w2.heap.size n1 from NB.of (by rw [hV]; exact heap_at _ _ _ rfl) ((f1.nodes).kp ka))
  have Kvw2 := Lib.hid (Kw2.out.trans ka)
  have Bx := Bx'
  have HV := Lib.hid hV
  clear hV ka Bx'
  go_upto_region 5 with fail
  rw [← HV.out]
  clear HV
  clear f1
  go_wp2_with fail
  refine (P2.out _ Kvw2.out).mono ?_
  rintro e w3 ⟨ad2, cp2, rfl, f2, kz⟩
  have Kw3 := Lib.hid (Kvw2.out.trans kz)
  have Bx := Lib.hid (Bx.out.kp kz)
  clear kz
  obtain ⟨vw3, hV⟩ : ∃ x, x = w3.alloc (.cells #[.int .i64 n2.k, .int .i64 n2.p.k, .string n2.p.y, .string n2.p.m, .string n2.p.d, .bool n2.a, .bool n2.t, .slice ad2 n2.l.length cp2] 26) := ⟨_, rfl⟩
  have ka : Kp w3 vw3 := by rw [hV]; exact Kp.alloc _ _
  have By' := Lib.hid (show NB vw3 w3.heap.size n2 from NB.of (by rw [hV]; exact heap_at _ _ _ rfl) ((f2.nodes).kp ka))
  have Kvw3 := Lib.hid (Kw3.out.trans ka)
  have Bx := Lib.hid (Bx.out.kp ka)
  have By := By'
  have HV := Lib.hid hV
  clear hV ka By'
  go_upto_region 6 with fail
  rw [← HV.out]
  clear HV
  clear f2
  go_wp2_with fail
  refine (P3.out _ Kvw3.out).mono ?_
  rintro e w4 ⟨ad3, cp3, rfl, f3, kz⟩
  have Kw4 := Lib.hid (Kvw3.out.trans kz)
  have Bx := Lib.hid (Bx.out.kp kz)
  have By := Lib.hid (By.out.kp kz)
  clear kz
  obtain ⟨vw4, hV⟩ : ∃ x, x = w4.alloc (.cells #[.int .i64 n0.k, .int .i64 n0.p.k, .string n0.p.y, .string n0.p.m, .string n0.p.d, .bool n0.a, .bool n0.t, .slice ad3 n0.l.length cp3] 26) := ⟨_, rfl⟩
  have ka : Kp w4 vw4 := by rw [hV]; exact Kp.alloc _ _
  have Bz' := Lib.hid (show NB vw4 w4.heap.size n0 from NB.of (by rw [hV]; exact heap_at _ _ _ rfl) ((f3.nodes).kp ka))
  have Kvw4 := Lib.hid (Kw4.out.trans ka)
  have Bx := Lib.hid (Bx.out.kp ka)
  have By := Lib.hid (By.out.kp ka)
  have Bz := Bz'
  have HV := Lib.hid hV
  clear hV ka Bz'
  go_upto_region 7 with fail
  rw [← HV.out]
  clear HV
  clear f3
  go_upto_region 9 with fail
  obtain ⟨adx, cpx, gx, nx⟩ := Bx.out.opn
  have Nx := Lib.hid nx
  obtain ⟨cx0, cx1, cx2, cx3, cx4, cx5, cx6, cx7⟩ := row8 gx
  clear nx gx
  obtain ⟨ady, cpy, gy, ny⟩ := By.out.opn
  have Ny := Lib.hid ny
  obtain ⟨cy0, cy1, cy2, cy3, cy4, cy5, cy6, cy7⟩ := row8 gy
  clear ny gy
  have hb0 := Lib.hid True.intro
  go_wp2_with fail
  refine (OO.out _ _).mono ?_
  rintro e w5 ⟨rfl, kk⟩
  have gR := heap_block kk (heap_at _ _ _ rfl)
  have kz : Kp vw4 w5 := Kp.trans (show Kp vw4 _ from (by first | with_reducible exact (Kp.refl vw4) | ((repeat (first | with_reducible refine Kp.trans ?_ (Kp.drew _) | with_reducible refine Kp.trans ?_ (Kp.alloc _ _))); with_reducible exact (Kp.refl vw4)))) kk
  clear kk
  clear cx0 cx1 cx2 cx3 cx4 cx5 cx6 cx7 cy0 cy1 cy2 cy3 cy4 cy5 cy6 cy7
  have Kw5 := Lib.hid (Kvw4.out.trans kz)
  have Bx := Lib.hid (Bx.out.kp kz)
  have By := Lib.hid (By.out.kp kz)
  have Bz := Lib.hid (Bz.out.kp kz)
  have NT := Lib.hid (show NodesAt w5 (.slice (some ⟨vw4.heap.size, 0, none⟩) 2 2) L.l from HL.out ▸ two_in gR (Nx.out.kp kz) (Ny.out.kp kz))
  clear gR
  clear kz
  obtain ⟨vw5, hV⟩ : ∃ x, x = w5.alloc (.cells #[.int .i64 L.k, .int .i64 L.p.k, .string L.p.y, .string L.p.m, .string L.p.d, .bool L.a, .bool L.t, .slice (some ⟨vw4.heap.size, 0, none⟩) 2 2] 26) := ⟨_, rfl⟩
  have ka : Kp w5 vw5 := by rw [hV]; exact Kp.alloc _ _
  have Bl' := Lib.hid (show NB vw5 w5.heap.size L from NB.of (by rw [hV]; exact heap_at _ _ _ rfl) ((NT.out).kp ka))
  have Kvw5 := Lib.hid (Kw5.out.trans ka)
  have Bx := Lib.hid (Bx.out.kp ka)
  have By := Lib.hid (By.out.kp ka)
  have Bz := Lib.hid (Bz.out.kp ka)
  have Bl := Bl'
  have HV := Lib.hid hV
  clear hV ka Bl'
  go_upto_region 10 with fail
  rw [← HV.out]
  clear HV
  obtain ⟨adl, cpl, gl, nl⟩ := Bl.out.opn
  have Nl := Lib.hid nl
  obtain ⟨cl0, cl1, cl2, cl3, cl4, cl5, cl6, cl7⟩ := row8 gl
  clear nl gl
  go_wp2_with fail
  refine (SN.out _ _ _ Nl.out Kvw5.out).mono ?_
  rintro e w6 ⟨rfl, kz⟩
  clear cl0 cl1 cl2 cl3 cl4 cl5 cl6 cl7
  have Kw6 := Lib.hid (Kvw5.out.trans kz)
  have Bx := Lib.hid (Bx.out.kp kz)
  have By := Lib.hid (By.out.kp kz)
  have Bz := Lib.hid (Bz.out.kp kz)
  have Bl := Lib.hid (Bl.out.kp kz)
  clear kz
  go_wp2
  go_ret
  exact ⟨rfl, Kw6.out⟩
set_option maxHeartbeats 16000000 in
set_option maxRecDepth 100000 in
theorem ppar_no6 (s t : ByteArray) (w : World) (hm : s.size ≤ maxLen) (hm2 : t.size ≤ maxLen) (T : TabSH w) (hs : s.size ≤ 400) (ht : t.size ≤ 400) (n1 n2 : ND) (a3 : Int) (pr1 : PR s (.ok n1)) (pr2 : PR t (.ok n2)) (hl : saneN saneP (orN [n1, n2]) = false) (pr3 : PR (two13 s t) (.er a3 6)) :
    Calls Tryd.prog 7 #[.string s, .string t] w fun e w' => e = .returned (.bool true) ∧ Kp w w' := by
  have AW := Lib.hid (fun w1 (kk : Kp w w1) => show Calls Tryd.prog 8 #[] w1 fun e w' => e = .returned (.bool true) ∧ Kp w1 w' from awake13 w1 (T.kp kk))
  have z0 : decide ((s.size : Int) > 400) = false := decide_eq_false (by omega)
  have z1 : decide ((t.size : Int) > 400) = false := decide_eq_false (by omega)
  have sz := two_size s t
  have tb := two_bytes s t
  have P1 := Lib.hid (fun w1 (kk : Kp w w1) => show Calls Tryd.prog 12 #[.string s] w1 fun en w' => ∃ ad cp, en = .returned (.tuple #[.agg #[.int .i64 n1.k, .int .i64 n1.p.k, .string n1.p.y, .string n1.p.m, .string n1.p.d, .bool n1.a, .bool n1.t, .slice ad n1.l.length cp], .int .i64 (s.size : Nat), .int .i64 0]) ∧ Fnd w' w1.heap.size (fun _ => False) (.slice ad n1.l.length cp) n1.l ∧ Kp w1 w' from parse_any pr1 w1 (by unfold maxLen; omega) (T.kp kk))
  have P2 := Lib.hid (fun w1 (kk : Kp w w1) => show Calls Tryd.prog 12 #[.string t] w1 fun en w' => ∃ ad cp, en = .returned (.tuple #[.agg #[.int .i64 n2.k, .int .i64 n2.p.k, .string n2.p.y, .string n2.p.m, .string n2.p.d, .bool n2.a, .bool n2.t, .slice ad n2.l.length cp], .int .i64 (t.size : Nat), .int .i64 0]) ∧ Fnd w' w1.heap.size (fun _ => False) (.slice ad n2.l.length cp) n2.l ∧ Kp w1 w' from parse_any pr2 w1 (by unfold maxLen; omega) (T.kp kk))
  have P3 := Lib.hid (fun w1 (kk : Kp w w1) => show Calls Tryd.prog 12 #[.string (two13 s t)] w1 fun en w' => ∃ ad cp, en = .returned (.tuple #[.agg #[.int .i64 nd0.k, .int .i64 nd0.p.k, .string nd0.p.y, .string nd0.p.m, .string nd0.p.d, .bool nd0.a, .bool nd0.t, .slice ad nd0.l.length cp], .int .i64 a3, .int .i64 6]) ∧ Fnd w' w1.heap.size (fun _ => False) (.slice ad nd0.l.length cp) nd0.l ∧ Kp w1 w' from parse_any pr3 w1 (by unfold maxLen; omega) (T.kp kk))
  have OO := Lib.hid (fun b w1 => show Calls Tryd.prog 18 #[.slice (some ⟨b, 0, none⟩) 2 2] w1 fun e w' => e = .returned (.agg #[.int .i64 (orN [n1, n2]).k, .int .i64 (orN [n1, n2]).p.k, .string (orN [n1, n2]).p.y, .string (orN [n1, n2]).p.m, .string (orN [n1, n2]).p.d, .bool (orN [n1, n2]).a, .bool (orN [n1, n2]).t, .slice (some ⟨b, 0, none⟩) 2 2]) ∧ Kp w1 w' from oneOf_any (.slice (some ⟨b, 0, none⟩) 2 2) [n1, n2] w1 ⟨_, _, rfl⟩)
  have SN := Lib.hid (fun ad1 cp1 w1 (h : NodesAt w1 (.slice ad1 (orN [n1, n2]).l.length cp1) (orN [n1, n2]).l) (kk : Kp w w1) => show Calls Tryd.prog 10 #[.agg #[.int .i64 (orN [n1, n2]).k, .int .i64 (orN [n1, n2]).p.k, .string (orN [n1, n2]).p.y, .string (orN [n1, n2]).p.m, .string (orN [n1, n2]).p.d, .bool (orN [n1, n2]).a, .bool (orN [n1, n2]).t, .slice ad1 (orN [n1, n2]).l.length cp1]] w1 fun e w' => e = .returned (.bool false) ∧ Kp w1 w' from hl ▸ tSaneG_any (orN [n1, n2]) _ w1 h (T.kp kk))
  have HL := Lib.hid (show (orN [n1, n2]).l = [n1, n2] from rfl)
  clear hl
  generalize orN [n1, n2] = L at *
  generalize nd0 = n0 at *
  generalize two13 s t = st at *
  have tb2 : (({ data := #[91] } : ByteArray) ++ s ++ { data := #[44] } ++ t ++ { data := #[93] }) = st := tb
  clear tb pr1 pr2 pr3
  have y1 : (9223372036854775807 < 1 + s.size) = False := eq_false (by omega)
  have y2 : (9223372036854775807 < 1 + s.size + 1) = False := eq_false (by omega)
  have y3 : (9223372036854775807 < 1 + s.size + 1 + t.size) = False := eq_false (by omega)
  have y4 : (9223372036854775807 < 1 + s.size + 1 + t.size + 1) = False := eq_false (by omega)
  have y5 : (st.size : Int) = (s.size : Int) + (t.size : Int) + 3 := by omega
  have K00 := Lib.hid (Kp.refl w)
  clear T
  go_enter Tryd.func7, Tryd.ntmps7
  go_upto_region 1 with fail
  go_wp2_with fail
  refine (AW.out _ K00.out).mono ?_
  rintro e w1 ⟨rfl, kz⟩
  have Kw1 := Lib.hid (K00.out.trans kz)
  clear kz
  go_upto_region 4 with fail
  go_wp2_with fail
  refine (P1.out _ Kw1.out).mono ?_
  rintro e w2 ⟨ad1, cp1, rfl, f1, kz⟩
  have Kw2 := Lib.hid (Kw1.out.trans kz)
  clear kz
  obtain ⟨vw2, hV⟩ : ∃ x, x = w2.alloc (.cells #[.int .i64 n1.k, .int .i64 n1.p.k, .string n1.p.y, .string n1.p.m, .string n1.p.d, .bool n1.a, .bool n1.t, .slice ad1 n1.l.length cp1] 26) := ⟨_, rfl⟩
  have ka : Kp w2 vw2 := by rw [hV]; exact Kp.alloc _ _
  have Bx' := Lib.hid (show NB vw2 w2.heap.size n1 from NB.of (by rw [hV]; exact heap_at _ _ _ rfl) ((f1.nodes).kp ka))
  have Kvw2 := Lib.hid (Kw2.out.trans ka)
  have Bx := Bx'
  have HV := Lib.hid hV
  clear hV ka Bx'
  go_upto_region 5 with fail
  rw [← HV.out]
  clear HV
  clear f1
  go_wp2_with fail
  refine (P2.out _ Kvw2.out).mono ?_
  rintro e w3 ⟨ad2, cp2, rfl, f2, kz⟩
  have Kw3 := Lib.hid (Kvw2.out.trans kz)
  have Bx := Lib.hid (Bx.out.kp kz)
  clear kz
  obtain ⟨vw3, hV⟩ : ∃ x, x = w3.alloc (.cells #[.int .i64 n2.k, .int .i64 n2.p.k, .string n2.p.y, .string n2.p.m, .string n2.p.d, .bool n2.a, .bool n2.t, .slice ad2 n2.l.length cp2] 26) := ⟨_, rfl⟩
  have ka : Kp w3 vw3 := by rw [hV]; exact Kp.alloc _ _
  have By' := Lib.hid (show NB vw3 w3.heap.size n2 from NB.of (by rw [hV]; exact heap_at _ _ _ rfl) ((f2.nodes).kp ka))
  have Kvw3 := Lib.hid (Kw3.out.trans ka)
  have Bx := Lib.hid (Bx.out.kp ka)
  have By := By'
  have HV := Lib.hid hV
  clear hV ka By'
  go_upto_region 6 with fail
  rw [← HV.out]
  clear HV
  clear f2
  go_wp2_with fail
  refine (P3.out _ Kvw3.out).mono ?_
  rintro e w4 ⟨ad3, cp3, rfl, f3, kz⟩
  have Kw4 := Lib.hid (Kvw3.out.trans kz)
  have Bx := Lib.hid (Bx.out.kp kz)
  have By := Lib.hid (By.out.kp kz)
  clear kz
  obtain ⟨vw4, hV⟩ : ∃ x, x = w4.alloc (.cells #[.int .i64 n0.k, .int .i64 n0.p.k, .string n0.p.y, .string n0.p.m, .string n0.p.d, .bool n0.a, .bool n0.t, .slice ad3 n0.l.length cp3] 26) := ⟨_, rfl⟩
  have ka : Kp w4 vw4 := by rw [hV]; exact Kp.alloc _ _
  have Bz' := Lib.hid (show NB vw4 w4.heap.size n0 from NB.of (by rw [hV]; exact heap_at _ _ _ rfl) ((f3.nodes).kp ka))
  have Kvw4 := Lib.hid (Kw4.out.trans ka)
  have Bx := Lib.hid (Bx.out.kp ka)
  have By := Lib.hid (By.out.kp ka)
  have Bz := Bz'
  have HV := Lib.hid hV
  clear hV ka Bz'
  go_upto_region 7 with fail
  rw [← HV.out]
  clear HV
  clear f3
  go_upto_region 9 with fail
  obtain ⟨adx, cpx, gx, nx⟩ := Bx.out.opn
  have Nx := Lib.hid nx
  obtain ⟨cx0, cx1, cx2, cx3, cx4, cx5, cx6, cx7⟩ := row8 gx
  clear nx gx
  obtain ⟨ady, cpy, gy, ny⟩ := By.out.opn
  have Ny := Lib.hid ny
  obtain ⟨cy0, cy1, cy2, cy3, cy4, cy5, cy6, cy7⟩ := row8 gy
  clear ny gy
  have hb0 := Lib.hid True.intro
  go_wp2_with fail
  refine (OO.out _ _).mono ?_
  rintro e w5 ⟨rfl, kk⟩
  have gR := heap_block kk (heap_at _ _ _ rfl)
  have kz : Kp vw4 w5 := Kp.trans (show Kp vw4 _ from (by first | with_reducible exact (Kp.refl vw4) | ((repeat (first | with_reducible refine Kp.trans ?_ (Kp.drew _) | with_reducible refine Kp.trans ?_ (Kp.alloc _ _))); with_reducible exact (Kp.refl vw4)))) kk
  clear kk
  clear cx0 cx1 cx2 cx3 cx4 cx5 cx6 cx7 cy0 cy1 cy2 cy3 cy4 cy5 cy6 cy7
  have Kw5 := Lib.hid (Kvw4.out.trans kz)
  have Bx := Lib.hid (Bx.out.kp kz)
  have By := Lib.hid (By.out.kp kz)
  have Bz := Lib.hid (Bz.out.kp kz)
  have NT := Lib.hid (show NodesAt w5 (.slice (some ⟨vw4.heap.size, 0, none⟩) 2 2) L.l from HL.out ▸ two_in gR (Nx.out.kp kz) (Ny.out.kp kz))
  clear gR
  clear kz
  obtain ⟨vw5, hV⟩ : ∃ x, x = w5.alloc (.cells #[.int .i64 L.k, .int .i64 L.p.k, .string L.p.y, .string L.p.m, .string L.p.d, .bool L.a, .bool L.t, .slice (some ⟨vw4.heap.size, 0, none⟩) 2 2] 26) := ⟨_, rfl⟩
  have ka : Kp w5 vw5 := by rw [hV]; exact Kp.alloc _ _
  have Bl' := Lib.hid (show NB vw5 w5.heap.size L from NB.of (by rw [hV]; exact heap_at _ _ _ rfl) ((NT.out).kp ka))
  have Kvw5 := Lib.hid (Kw5.out.trans ka)
  have Bx := Lib.hid (Bx.out.kp ka)
  have By := Lib.hid (By.out.kp ka)
  have Bz := Lib.hid (Bz.out.kp ka)
  have Bl := Bl'
  have HV := Lib.hid hV
  clear hV ka Bl'
  go_upto_region 10 with fail
  rw [← HV.out]
  clear HV
  obtain ⟨adl, cpl, gl, nl⟩ := Bl.out.opn
  have Nl := Lib.hid nl
  obtain ⟨cl0, cl1, cl2, cl3, cl4, cl5, cl6, cl7⟩ := row8 gl
  clear nl gl
  go_wp2_with fail
  refine (SN.out _ _ _ Nl.out Kvw5.out).mono ?_
  rintro e w6 ⟨rfl, kz⟩
  clear cl0 cl1 cl2 cl3 cl4 cl5 cl6 cl7
  have Kw6 := Lib.hid (Kvw5.out.trans kz)
  have Bx := Lib.hid (Bx.out.kp kz)
  have By := Lib.hid (By.out.kp kz)
  have Bz := Lib.hid (Bz.out.kp kz)
  have Bl := Lib.hid (Bl.out.kp kz)
  clear kz
  go_wp2
  go_ret
  exact ⟨rfl, Kw6.out⟩
theorem parseParts_walk (s t : ByteArray) (w : World) (hm : s.size ≤ maxLen) (hm2 : t.size ≤ maxLen) (T : TabSH w) :
    Calls Tryd.prog 7 #[.string s, .string t] w fun e w' => e = .returned (.bool true) ∧ Kp w w' := by
  by_cases hs : s.size ≤ 400
  · by_cases ht : t.size ≤ 400
    · obtain ⟨o1, pr1⟩ := pr_ex s
      obtain ⟨o2, pr2⟩ := pr_ex t
      obtain ⟨o3, pr3⟩ := pr_ex (two13 s t)
      cases o1 with
      | er a1 x1 => exact ppar_e1 s t w hm hm2 T hs ht a1 x1 o2 o3 pr1 pr2 pr3
      | ok n1 =>
        cases o2 with
        | er a2 x2 => exact ppar_e2 s t w hm hm2 T hs ht n1 a2 x2 o3 pr1 pr2 pr3
        | ok n2 =>
          have g := pr_two hs ht pr1 pr2 pr3
          rcases Bool.eq_false_or_eq_true (saneN saneP (orN [n1, n2])) with hl | hl
          · have := g.1 hl
            subst this
            exact ppar_ok s t w hm hm2 T hs ht n1 n2 pr1 pr2 hl pr3
          · obtain ⟨i, e, he, rfl⟩ := g.2 hl
            rcases he with rfl | rfl
            · exact ppar_no5 s t w hm hm2 T hs ht n1 n2 i pr1 pr2 hl pr3
            · exact ppar_no6 s t w hm hm2 T hs ht n1 n2 i pr1 pr2 hl pr3
    · exact ppar_long2 s t w hm hm2 T hs (by omega)
  · exact ppar_long1 s t w hm hm2 T (by omega)
end Go.Proofs.YtndmohamjffpcaaDoor

namespace Go.Proofs.YtndmohamjffpcaaDoor.lawParseParts
open Go.ChangeShapes Go.WideShapes Go.ChangeAt Go.RowKit
open Go.ChangeMaps (open_string shut_string)
set_option linter.unusedVariables false

theorem own : ownKnob Tryd.prog.godebug = none := by kernel_rfl
theorem laidOut : laidOutB Tryd.prog = true := by kernel_rfl

/-- A world for the witness: the settled one, each table holding what its initialiser lays. -/
noncomputable def laidWorld (os : Os) : World :=
  { World.holding Tryd.prog os ⟨#[], #[], []⟩ with heap := ((World.holding Tryd.prog os ⟨#[], #[], []⟩).heap.modify 0 fun
      | .cells _ t frozen => .cells #[.int .i64 4, .int .i64 2, .int .i64 2, .int .i64 12, .string ⟨#[]⟩, .int .i64 4, .int .i64 2, .int .i64 0, .int .i64 12, .string ⟨#[]⟩, .int .i64 4, .int .i64 1, .int .i64 0, .int .i64 4, .string ⟨#[]⟩, .int .i64 4, .int .i64 0, .int .i64 0, .int .i64 0, .string ⟨#[]⟩, .int .i64 3, .int .i64 0, .int .i64 0, .int .i64 0, .string ⟨#[100]⟩, .int .i64 2, .int .i64 0, .int .i64 0, .int .i64 0, .string ⟨#[99]⟩] t frozen
      | o => o) }
theorem laid_met (os : Os) : laidMet Tryd.prog Rows.parsePartsRow.laid ((laidWorld os).forCall (fun _ _ => 0) ⟨#[], #[.string ByteArray.empty, .string ByteArray.empty], []⟩).memory :=
  laidMet_of_run' 8 (by kernel_rfl) (by kernel_rfl)
theorem reads (os : Os) {H : Type} (enc : TypeId × Value → H) : ∃ places, DataW.whole enc Tryd.prog ((laidWorld os).forCall (fun _ _ => 0) ⟨#[], #[.string ByteArray.empty, .string ByteArray.empty], []⟩).memory Tryd.f7.params.toList Rows.parsePartsSpec.vars false (#[.string ByteArray.empty, .string ByteArray.empty] : Array Value).toList 8 = some ([.lit (.string []), .lit (.string [])], [], places) :=
  ⟨[], by kernel_rfl⟩

set_option maxRecDepth 100000 in
theorem contract (H : Type) (enc : TypeId × Value → H) (W : World) (base : Nat) (args : Array Value) (ds gs : List (DataW H)) (before : List MemPlace)
    (hval : ∀ (j : Nat) t v, Tryd.f7.params[j]? = some t → args[j]? = some v → Value.okWide Tryd.prog W .any base t v)
    (hW : DataW.Whole enc Tryd.prog Tryd.f7.params.toList Rows.parsePartsSpec.vars false W args.toList ds gs before) (hL : laidMetH Tryd.prog Rows.parsePartsRow.laid W) :
    Calls Tryd.prog 7 args W fun e W' => ∃ v, e = .returned v ∧ Rows.parsePartsSpec.post enc Tryd.prog Tryd.f7 false true false false W args v W' := by
  have hW' := hW
  have hltA : ∀ x ∈ before, x.block < W.heap.size := fun x hx => by simpa using hW'.lt x hx
  obtain ⟨p, q, hA0, hV, rfl, hfz, hnd⟩ := hW
  have hA : DataW.TrodAll enc Tryd.prog W 0 (fun _ => true) true Tryd.f7.params.toList args.toList ds p := hA0
  rw [Tryd.params7] at hA hval
  obtain ⟨v0, vs0, d0, ds0, p0, q0, hargs, rfl, rfl, h0, r0⟩ := trodAll_cons hA
  obtain ⟨v1, vs1, d1, ds1, p1, q1, rfl, rfl, rfl, h1, r1⟩ := trodAll_cons r0
  obtain ⟨rfl, rfl, rfl⟩ := trodAll_nil r1
  obtain rfl : args = #[v0, v1] := by cases args; simp_all
  obtain ⟨rfl, rfl⟩ := trodVars_none hV
  have hk0 := h0
  obtain ⟨a0, rfl, rfl, rfl, w0⟩ := open_string Tryd.underlying9 (hval 0 9 v0 rfl rfl) h0
  have hk1 := h1
  obtain ⟨a1, rfl, rfl, rfl, w1⟩ := open_string Tryd.underlying9 (hval 1 9 v1 rfl rfl) h1
  clear hA0
  simp only [List.append_nil] at hW'
  refine (parseParts_walk a0 a1 W w0 w1 (tabs_of1 hL)).mono fun e W' ⟨he, hg⟩ => ?_
  subst he
  have bel : Below W.heap.size W W' := hg
  exact ⟨_, rfl, _, _, _, [], _, [], hW', trodAll_mk1 (shut_bool Tryd.underlying4 _), (trodAll_cons_mk (shut_string Tryd.underlying9 w0) (trodAll_cons_mk (shut_string Tryd.underlying9 w1) trodAll_mk0)), rfl, bel.frame _, fun h => by cases h⟩

set_option maxRecDepth 100000 in
theorem lifted (os : Os) (started : os.Started) (H : Type) (enc : TypeId × Value → H) (F : Stop.Interp) :
    ReturnsInHanded {} Tryd.checked os 7 .any ((OpenSpec.ofChange Rows.parsePartsSpec).preRow enc Tryd.prog Tryd.f7 Rows.parsePartsRow.domain false Rows.parsePartsRow.laid) (((OpenSpec.ofChange Rows.parsePartsSpec).at F).post enc Tryd.prog Tryd.f7 false true false false) := by
  obtain ⟨places, hx⟩ := reads os enc
  refine returnsInHanded_of_row (C := Tryd.checked) (s := OpenSpec.ofChange Rows.parsePartsSpec) own started (by kernel_rfl) Tryd.func7
    (witness_row_at (enc := enc) (C := Tryd.checked) false (laidWorld os) #[.string ByteArray.empty, .string ByteArray.empty] rfl (by kernel_rfl) (by kernel_rfl) (by kernel_rfl)
      (OpenSpec.preRow_of_cond 8 hx (by kernel_rfl) (fun k hk => by cases hk) (by kernel_rfl) (laid_met os))) ?_
  intro W base args ds gs before hval hW _ hcond _ hL _ _
  exact contract H enc W base args ds gs before hval hW hL

theorem said : Rows.ParsePartsSaid :=
  OpenClaim.holds_of_cond 7 Tryd.f7 rfl rfl rfl rfl rfl rfl rfl ⟨rfl, rfl, rfl, rfl, rfl⟩ rfl rfl rfl rfl rfl (by kernel_rfl) Tryd.func7 (by kernel_rfl)
    (of_decide_eq_true (by kernel_rfl)) (by unfold Func.isWrapper; first | (rw [if_pos (by decide +kernel)]; kernel_rfl) | (rw [if_neg (by decide +kernel)]; exact ⟨rfl, rfl⟩))
    (fun os started H enc _ F => by rw [OpenClaim.pre_eq_preRow]; exact lifted os started H enc F)

theorem plain (f : FuncId) (fn : Func) (hf : Tryd.pinned.checked.prog.funcNamed "lustrum/lustrumlaw13.ParseParts" = some f) (hfn : Tryd.pinned.checked.prog.funcs[f]? = some fn) :
    true = Tryd.pinned.checked.prog.looks [] ∧ ∀ (j : Nat) t, fn.params[j]? = some t → Tryd.pinned.checked.prog.wantsStandIn t = false := by
  obtain rfl : f = 7 := Option.some.inj ((show Tryd.prog.funcNamed "lustrum/lustrumlaw13.ParseParts" = some 7 by kernel_rfl).symm.trans hf) |>.symm
  obtain rfl : fn = Tryd.f7 := (Option.some.inj (Tryd.func7.symm.trans hfn)).symm
  refine ⟨by kernel_rfl, fun j t ht => ?_⟩
  rw [Tryd.params7] at ht
  have hm := Array.mem_of_getElem? ht
  have ho : t = 9 := by first | simpa using hm | (simp at hm; rcases hm with h <;> simp [h])
  subst ho
  exact (show Tryd.prog.wantsStandIn 9 = false by kernel_rfl)

/-- THE CARD. -/
theorem proved : Rows.ParsePartsCardSaid :=
  Claim7.holds_tied_plain_at .later [] _ _ _ _ said (fun _ h => by cases h) (by kernel_rfl) (fun _ h => by cases h) parseParts_row_tie rfl ⟨rfl, rfl⟩ (by kernel_rfl) rfl plain (by kernel_rfl)
#print axioms proved
end Go.Proofs.YtndmohamjffpcaaDoor.lawParseParts
