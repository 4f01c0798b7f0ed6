/-
  Layer 8, the document's answer: contracts of Text, part, Read, Radius (PointIs).
-/
import Derived.Test.YtinpglfclbnhlaaGreatDoorGRf
import Derived.Test.YtinpglfclbnhlaaGreatDoorIsA
import Derived.LoopTactic
namespace Go.Proofs.YtinpglfclbnhlaaGreatDoor
open Go.RowKit
set_option linter.unusedVariables false
set_option linter.unusedSimpArgs false
theorem cut_sl (s : ByteArray) (a b : Nat) (h : a ≤ b) (h2 : b ≤ s.size) (wx : World) : (Instr.slice 9 (.string s) (some (.int .i64 (a : Int))) (some (.int .i64 (b : Int))) none).run Tryz.prog wx = .ok (.string (s.extract a b)) wx := by
  simp [Instr.slice, run_underlying Tryz.underlying9, go_sem, h, h2]
theorem row4p {w : World} {b : Nat} {c0 c1 c2 c3 : Value} {t : TypeId} {fr : Nat × Nat} (hg : w.heap[b]? = some (.cells #[c0, c1, c2, c3] t fr)) :
    w.cell? ⟨b, 0, none⟩ = some c0 ∧ w.cell? ⟨b, 1, none⟩ = some c1 ∧ w.cell? ⟨b, 2, none⟩ = some c2 ∧ w.cell? ⟨b, 3, none⟩ = some c3 := by
  refine ⟨?_, ?_, ?_, ?_⟩ <;> simp [World.cell?, hg]
theorem bempty (s : ByteArray) : s ++ (⟨#[]⟩ : ByteArray) = s := by apply ByteArray.ext; simp [ByteArray.data_append]
set_option maxHeartbeats 16000000 in
set_option maxRecDepth 100000 in
theorem rtext8_0 (y m d : ByteArray) (w : World) (hy : y.size ≤ 10) (hm : m.size ≤ 10) (hd : d.size ≤ 10) : Calls Tryz.prog 16 #[.agg #[.int .i64 0, .string y, .string m, .string d]] w fun e w' => e = .returned (.string (textP ⟨0, y, m, d⟩)) ∧ Kp w w' := by
  obtain ⟨W0, hW⟩ : ∃ x, x = w.alloc (.cells #[.int .i64 0, .string y, .string m, .string d] 23) := ⟨_, rfl⟩
  have kw : Kp w W0 := by rw [hW]; exact Kp.alloc _ _
  have gB : W0.heap[w.heap.size]? = some (.cells #[.int .i64 0, .string y, .string m, .string d] 23 (0, 0)) := by rw [hW]; exact heap_at _ _ _ rfl
  have GB := Lib.hid (fun w1 (q : Kp W0 w1) => heap_block q gB)
  have KW := Lib.hid kw
  have HW := Lib.hid hW
  have CS := Lib.hid (fun w1 (q : Kp W0 w1) => show Calls Tryz.prog 14 #[.agg #[.int .i64 0, .string y, .string m, .string d]] w1 fun e w' => e = .returned (.bool (saneP ⟨0, y, m, d⟩)) ∧ Kp w1 w' from rsane8_any ⟨0, y, m, d⟩ w1 hy hm hd)
  clear kw gB hW
  unfold textP
  obtain ⟨sb, hsb⟩ : ∃ b, saneP ⟨0, y, m, d⟩ = b := ⟨_, rfl⟩
  rw [hsb] at CS ⊢
  clear hsb
  cases sb with
  | false =>
    rw [if_neg (by decide)]
    go_enter Tryz.func16, Tryz.ntmps16
    go_wp2_with fail
    rw [← HW.out]
    obtain ⟨x0, x1, x2, x3⟩ := row4p (GB.out _ (Kp.refl _))
    go_wp2_with fail
    refine (CS.out _ (Kp.refl _)).mono ?_
    rintro e w1 ⟨rfl, kk⟩
    have K1 := Lib.hid kk
    clear kk x0 x1 x2 x3
    go_wp2
    go_ret
    exact ⟨rfl, KW.out.trans K1.out⟩
  | true =>
    rw [if_pos rfl]
    have HR := Lib.hid (show ((((y ++ dash) ++ m) ++ dash) ++ d) = y ++ (dash ++ m ++ (dash ++ d)) by simp only [ByteArray.append_assoc])
    obtain ⟨r, hr⟩ : ∃ r, y ++ (dash ++ m ++ (dash ++ d)) = r := ⟨_, rfl⟩
    have HR2 := Lib.hid (HR.out.trans hr)
    show Calls _ _ _ _ fun e w' => e = .returned (.string (y ++ (dash ++ m ++ (dash ++ d)))) ∧ Kp w w'
    rw [hr]
    clear hr HR
    unfold dash at HR2
    go_enter Tryz.func16, Tryz.ntmps16
    go_wp2_with fail
    rw [← HW.out]
    obtain ⟨x0, x1, x2, x3⟩ := row4p (GB.out _ (Kp.refl _))
    go_wp2_with fail
    refine (CS.out _ (Kp.refl _)).mono ?_
    rintro e w1 ⟨rfl, kk⟩
    have K1 := Lib.hid kk
    clear kk x0 x1 x2 x3
    obtain ⟨x0, x1, x2, x3⟩ := row4p (GB.out _ K1.out)
    go_wp2
    go_ret
    exact ⟨by rw [← HR2.out]; rfl, KW.out.trans K1.out⟩
set_option maxHeartbeats 16000000 in
set_option maxRecDepth 100000 in
theorem rtext8_1 (y m d : ByteArray) (w : World) (hy : y.size ≤ 10) (hm : m.size ≤ 10) (hd : d.size ≤ 10) : Calls Tryz.prog 16 #[.agg #[.int .i64 1, .string y, .string m, .string d]] w fun e w' => e = .returned (.string (textP ⟨1, y, m, d⟩)) ∧ Kp w w' := by
  obtain ⟨W0, hW⟩ : ∃ x, x = w.alloc (.cells #[.int .i64 1, .string y, .string m, .string d] 23) := ⟨_, rfl⟩
  have kw : Kp w W0 := by rw [hW]; exact Kp.alloc _ _
  have gB : W0.heap[w.heap.size]? = some (.cells #[.int .i64 1, .string y, .string m, .string d] 23 (0, 0)) := by rw [hW]; exact heap_at _ _ _ rfl
  have GB := Lib.hid (fun w1 (q : Kp W0 w1) => heap_block q gB)
  have KW := Lib.hid kw
  have HW := Lib.hid hW
  have CS := Lib.hid (fun w1 (q : Kp W0 w1) => show Calls Tryz.prog 14 #[.agg #[.int .i64 1, .string y, .string m, .string d]] w1 fun e w' => e = .returned (.bool (saneP ⟨1, y, m, d⟩)) ∧ Kp w1 w' from rsane8_any ⟨1, y, m, d⟩ w1 hy hm hd)
  clear kw gB hW
  unfold textP
  obtain ⟨sb, hsb⟩ : ∃ b, saneP ⟨1, y, m, d⟩ = b := ⟨_, rfl⟩
  rw [hsb] at CS ⊢
  clear hsb
  cases sb with
  | false =>
    rw [if_neg (by decide)]
    go_enter Tryz.func16, Tryz.ntmps16
    go_wp2_with fail
    rw [← HW.out]
    obtain ⟨x0, x1, x2, x3⟩ := row4p (GB.out _ (Kp.refl _))
    go_wp2_with fail
    refine (CS.out _ (Kp.refl _)).mono ?_
    rintro e w1 ⟨rfl, kk⟩
    have K1 := Lib.hid kk
    clear kk x0 x1 x2 x3
    go_wp2
    go_ret
    exact ⟨rfl, KW.out.trans K1.out⟩
  | true =>
    rw [if_pos rfl]
    have HR := Lib.hid (show ((y ++ dash) ++ m) = y ++ (dash ++ m ++ ⟨#[]⟩) by rw [bempty, ByteArray.append_assoc])
    obtain ⟨r, hr⟩ : ∃ r, y ++ (dash ++ m ++ ⟨#[]⟩) = r := ⟨_, rfl⟩
    have HR2 := Lib.hid (HR.out.trans hr)
    show Calls _ _ _ _ fun e w' => e = .returned (.string (y ++ (dash ++ m ++ ⟨#[]⟩))) ∧ Kp w w'
    rw [hr]
    clear hr HR
    unfold dash at HR2
    go_enter Tryz.func16, Tryz.ntmps16
    go_wp2_with fail
    rw [← HW.out]
    obtain ⟨x0, x1, x2, x3⟩ := row4p (GB.out _ (Kp.refl _))
    go_wp2_with fail
    refine (CS.out _ (Kp.refl _)).mono ?_
    rintro e w1 ⟨rfl, kk⟩
    have K1 := Lib.hid kk
    clear kk x0 x1 x2 x3
    obtain ⟨x0, x1, x2, x3⟩ := row4p (GB.out _ K1.out)
    go_wp2
    go_ret
    exact ⟨by rw [← HR2.out]; rfl, KW.out.trans K1.out⟩
set_option maxHeartbeats 16000000 in
set_option maxRecDepth 100000 in
theorem rtext8_2 (y m d : ByteArray) (w : World) (hy : y.size ≤ 10) (hm : m.size ≤ 10) (hd : d.size ≤ 10) : Calls Tryz.prog 16 #[.agg #[.int .i64 2, .string y, .string m, .string d]] w fun e w' => e = .returned (.string (textP ⟨2, y, m, d⟩)) ∧ Kp w w' := by
  obtain ⟨W0, hW⟩ : ∃ x, x = w.alloc (.cells #[.int .i64 2, .string y, .string m, .string d] 23) := ⟨_, rfl⟩
  have kw : Kp w W0 := by rw [hW]; exact Kp.alloc _ _
  have gB : W0.heap[w.heap.size]? = some (.cells #[.int .i64 2, .string y, .string m, .string d] 23 (0, 0)) := by rw [hW]; exact heap_at _ _ _ rfl
  have GB := Lib.hid (fun w1 (q : Kp W0 w1) => heap_block q gB)
  have KW := Lib.hid kw
  have HW := Lib.hid hW
  have CS := Lib.hid (fun w1 (q : Kp W0 w1) => show Calls Tryz.prog 14 #[.agg #[.int .i64 2, .string y, .string m, .string d]] w1 fun e w' => e = .returned (.bool (saneP ⟨2, y, m, d⟩)) ∧ Kp w1 w' from rsane8_any ⟨2, y, m, d⟩ w1 hy hm hd)
  clear kw gB hW
  unfold textP
  obtain ⟨sb, hsb⟩ : ∃ b, saneP ⟨2, y, m, d⟩ = b := ⟨_, rfl⟩
  rw [hsb] at CS ⊢
  clear hsb
  cases sb with
  | false =>
    rw [if_neg (by decide)]
    go_enter Tryz.func16, Tryz.ntmps16
    go_wp2_with fail
    rw [← HW.out]
    obtain ⟨x0, x1, x2, x3⟩ := row4p (GB.out _ (Kp.refl _))
    go_wp2_with fail
    refine (CS.out _ (Kp.refl _)).mono ?_
    rintro e w1 ⟨rfl, kk⟩
    have K1 := Lib.hid kk
    clear kk x0 x1 x2 x3
    go_wp2
    go_ret
    exact ⟨rfl, KW.out.trans K1.out⟩
  | true =>
    rw [if_pos rfl]
    have HR := Lib.hid (show ((y ++ (⟨#[115]⟩ : ByteArray)) ++ m) = y ++ ((⟨#[115]⟩ : ByteArray) ++ m) by rw [ByteArray.append_assoc])
    obtain ⟨r, hr⟩ : ∃ r, y ++ ((⟨#[115]⟩ : ByteArray) ++ m) = r := ⟨_, rfl⟩
    have HR2 := Lib.hid (HR.out.trans hr)
    show Calls _ _ _ _ fun e w' => e = .returned (.string (y ++ ((⟨#[115]⟩ : ByteArray) ++ m))) ∧ Kp w w'
    rw [hr]
    clear hr HR
    unfold dash at HR2
    go_enter Tryz.func16, Tryz.ntmps16
    go_wp2_with fail
    rw [← HW.out]
    obtain ⟨x0, x1, x2, x3⟩ := row4p (GB.out _ (Kp.refl _))
    go_wp2_with fail
    refine (CS.out _ (Kp.refl _)).mono ?_
    rintro e w1 ⟨rfl, kk⟩
    have K1 := Lib.hid kk
    clear kk x0 x1 x2 x3
    obtain ⟨x0, x1, x2, x3⟩ := row4p (GB.out _ K1.out)
    go_wp2
    go_ret
    exact ⟨by rw [← HR2.out]; rfl, KW.out.trans K1.out⟩
set_option maxHeartbeats 16000000 in
set_option maxRecDepth 100000 in
theorem rtext8_3 (y m d : ByteArray) (w : World) (hy : y.size ≤ 10) (hm : m.size ≤ 10) (hd : d.size ≤ 10) : Calls Tryz.prog 16 #[.agg #[.int .i64 3, .string y, .string m, .string d]] w fun e w' => e = .returned (.string (textP ⟨3, y, m, d⟩)) ∧ Kp w w' := by
  obtain ⟨W0, hW⟩ : ∃ x, x = w.alloc (.cells #[.int .i64 3, .string y, .string m, .string d] 23) := ⟨_, rfl⟩
  have kw : Kp w W0 := by rw [hW]; exact Kp.alloc _ _
  have gB : W0.heap[w.heap.size]? = some (.cells #[.int .i64 3, .string y, .string m, .string d] 23 (0, 0)) := by rw [hW]; exact heap_at _ _ _ rfl
  have GB := Lib.hid (fun w1 (q : Kp W0 w1) => heap_block q gB)
  have KW := Lib.hid kw
  have HW := Lib.hid hW
  have CS := Lib.hid (fun w1 (q : Kp W0 w1) => show Calls Tryz.prog 14 #[.agg #[.int .i64 3, .string y, .string m, .string d]] w1 fun e w' => e = .returned (.bool (saneP ⟨3, y, m, d⟩)) ∧ Kp w1 w' from rsane8_any ⟨3, y, m, d⟩ w1 hy hm hd)
  clear kw gB hW
  unfold textP
  obtain ⟨sb, hsb⟩ : ∃ b, saneP ⟨3, y, m, d⟩ = b := ⟨_, rfl⟩
  rw [hsb] at CS ⊢
  clear hsb
  cases sb with
  | false =>
    rw [if_neg (by decide)]
    go_enter Tryz.func16, Tryz.ntmps16
    go_wp2_with fail
    rw [← HW.out]
    obtain ⟨x0, x1, x2, x3⟩ := row4p (GB.out _ (Kp.refl _))
    go_wp2_with fail
    refine (CS.out _ (Kp.refl _)).mono ?_
    rintro e w1 ⟨rfl, kk⟩
    have K1 := Lib.hid kk
    clear kk x0 x1 x2 x3
    go_wp2
    go_ret
    exact ⟨rfl, KW.out.trans K1.out⟩
  | true =>
    rw [if_pos rfl]
    have HR := Lib.hid (show y = y ++ (⟨#[]⟩ : ByteArray) by rw [bempty])
    obtain ⟨r, hr⟩ : ∃ r, y ++ (⟨#[]⟩ : ByteArray) = r := ⟨_, rfl⟩
    have HR2 := Lib.hid (HR.out.trans hr)
    show Calls _ _ _ _ fun e w' => e = .returned (.string (y ++ (⟨#[]⟩ : ByteArray))) ∧ Kp w w'
    rw [hr]
    clear hr HR
    unfold dash at HR2
    go_enter Tryz.func16, Tryz.ntmps16
    go_wp2_with fail
    rw [← HW.out]
    obtain ⟨x0, x1, x2, x3⟩ := row4p (GB.out _ (Kp.refl _))
    go_wp2_with fail
    refine (CS.out _ (Kp.refl _)).mono ?_
    rintro e w1 ⟨rfl, kk⟩
    have K1 := Lib.hid kk
    clear kk x0 x1 x2 x3
    obtain ⟨x0, x1, x2, x3⟩ := row4p (GB.out _ K1.out)
    go_wp2
    go_ret
    exact ⟨by rw [← HR2.out]; rfl, KW.out.trans K1.out⟩
set_option maxHeartbeats 16000000 in
set_option maxRecDepth 100000 in
theorem rtext8_4 (y m d : ByteArray) (w : World) (hy : y.size ≤ 10) (hm : m.size ≤ 10) (hd : d.size ≤ 10) : Calls Tryz.prog 16 #[.agg #[.int .i64 4, .string y, .string m, .string d]] w fun e w' => e = .returned (.string (textP ⟨4, y, m, d⟩)) ∧ Kp w w' := by
  obtain ⟨W0, hW⟩ : ∃ x, x = w.alloc (.cells #[.int .i64 4, .string y, .string m, .string d] 23) := ⟨_, rfl⟩
  have kw : Kp w W0 := by rw [hW]; exact Kp.alloc _ _
  have gB : W0.heap[w.heap.size]? = some (.cells #[.int .i64 4, .string y, .string m, .string d] 23 (0, 0)) := by rw [hW]; exact heap_at _ _ _ rfl
  have GB := Lib.hid (fun w1 (q : Kp W0 w1) => heap_block q gB)
  have KW := Lib.hid kw
  have HW := Lib.hid hW
  have CS := Lib.hid (fun w1 (q : Kp W0 w1) => show Calls Tryz.prog 14 #[.agg #[.int .i64 4, .string y, .string m, .string d]] w1 fun e w' => e = .returned (.bool (saneP ⟨4, y, m, d⟩)) ∧ Kp w1 w' from rsane8_any ⟨4, y, m, d⟩ w1 hy hm hd)
  clear kw gB hW
  unfold textP
  obtain ⟨sb, hsb⟩ : ∃ b, saneP ⟨4, y, m, d⟩ = b := ⟨_, rfl⟩
  rw [hsb] at CS ⊢
  clear hsb
  cases sb with
  | false =>
    rw [if_neg (by decide)]
    go_enter Tryz.func16, Tryz.ntmps16
    go_wp2_with fail
    rw [← HW.out]
    obtain ⟨x0, x1, x2, x3⟩ := row4p (GB.out _ (Kp.refl _))
    go_wp2_with fail
    refine (CS.out _ (Kp.refl _)).mono ?_
    rintro e w1 ⟨rfl, kk⟩
    have K1 := Lib.hid kk
    clear kk x0 x1 x2 x3
    go_wp2
    go_ret
    exact ⟨rfl, KW.out.trans K1.out⟩
  | true =>
    rw [if_pos rfl]
    have HR := Lib.hid (show (y ++ (⟨#[100]⟩ : ByteArray)) = y ++ (⟨#[100]⟩ : ByteArray) by rfl)
    obtain ⟨r, hr⟩ : ∃ r, y ++ (⟨#[100]⟩ : ByteArray) = r := ⟨_, rfl⟩
    have HR2 := Lib.hid (HR.out.trans hr)
    show Calls _ _ _ _ fun e w' => e = .returned (.string (y ++ (⟨#[100]⟩ : ByteArray))) ∧ Kp w w'
    rw [hr]
    clear hr HR
    unfold dash at HR2
    go_enter Tryz.func16, Tryz.ntmps16
    go_wp2_with fail
    rw [← HW.out]
    obtain ⟨x0, x1, x2, x3⟩ := row4p (GB.out _ (Kp.refl _))
    go_wp2_with fail
    refine (CS.out _ (Kp.refl _)).mono ?_
    rintro e w1 ⟨rfl, kk⟩
    have K1 := Lib.hid kk
    clear kk x0 x1 x2 x3
    obtain ⟨x0, x1, x2, x3⟩ := row4p (GB.out _ K1.out)
    go_wp2
    go_ret
    exact ⟨by rw [← HR2.out]; rfl, KW.out.trans K1.out⟩
set_option maxHeartbeats 16000000 in
set_option maxRecDepth 100000 in
theorem rtext8_5 (y m d : ByteArray) (w : World) (hy : y.size ≤ 10) (hm : m.size ≤ 10) (hd : d.size ≤ 10) : Calls Tryz.prog 16 #[.agg #[.int .i64 5, .string y, .string m, .string d]] w fun e w' => e = .returned (.string (textP ⟨5, y, m, d⟩)) ∧ Kp w w' := by
  obtain ⟨W0, hW⟩ : ∃ x, x = w.alloc (.cells #[.int .i64 5, .string y, .string m, .string d] 23) := ⟨_, rfl⟩
  have kw : Kp w W0 := by rw [hW]; exact Kp.alloc _ _
  have gB : W0.heap[w.heap.size]? = some (.cells #[.int .i64 5, .string y, .string m, .string d] 23 (0, 0)) := by rw [hW]; exact heap_at _ _ _ rfl
  have GB := Lib.hid (fun w1 (q : Kp W0 w1) => heap_block q gB)
  have KW := Lib.hid kw
  have HW := Lib.hid hW
  have CS := Lib.hid (fun w1 (q : Kp W0 w1) => show Calls Tryz.prog 14 #[.agg #[.int .i64 5, .string y, .string m, .string d]] w1 fun e w' => e = .returned (.bool (saneP ⟨5, y, m, d⟩)) ∧ Kp w1 w' from rsane8_any ⟨5, y, m, d⟩ w1 hy hm hd)
  clear kw gB hW
  unfold textP
  obtain ⟨sb, hsb⟩ : ∃ b, saneP ⟨5, y, m, d⟩ = b := ⟨_, rfl⟩
  rw [hsb] at CS ⊢
  clear hsb
  cases sb with
  | false =>
    rw [if_neg (by decide)]
    go_enter Tryz.func16, Tryz.ntmps16
    go_wp2_with fail
    rw [← HW.out]
    obtain ⟨x0, x1, x2, x3⟩ := row4p (GB.out _ (Kp.refl _))
    go_wp2_with fail
    refine (CS.out _ (Kp.refl _)).mono ?_
    rintro e w1 ⟨rfl, kk⟩
    have K1 := Lib.hid kk
    clear kk x0 x1 x2 x3
    go_wp2
    go_ret
    exact ⟨rfl, KW.out.trans K1.out⟩
  | true =>
    rw [if_pos rfl]
    have HR := Lib.hid (show (y ++ (⟨#[99]⟩ : ByteArray)) = y ++ (⟨#[99]⟩ : ByteArray) by rfl)
    obtain ⟨r, hr⟩ : ∃ r, y ++ (⟨#[99]⟩ : ByteArray) = r := ⟨_, rfl⟩
    have HR2 := Lib.hid (HR.out.trans hr)
    show Calls _ _ _ _ fun e w' => e = .returned (.string (y ++ (⟨#[99]⟩ : ByteArray))) ∧ Kp w w'
    rw [hr]
    clear hr HR
    unfold dash at HR2
    go_enter Tryz.func16, Tryz.ntmps16
    go_wp2_with fail
    rw [← HW.out]
    obtain ⟨x0, x1, x2, x3⟩ := row4p (GB.out _ (Kp.refl _))
    go_wp2_with fail
    refine (CS.out _ (Kp.refl _)).mono ?_
    rintro e w1 ⟨rfl, kk⟩
    have K1 := Lib.hid kk
    clear kk x0 x1 x2 x3
    obtain ⟨x0, x1, x2, x3⟩ := row4p (GB.out _ K1.out)
    go_wp2
    go_ret
    exact ⟨by rw [← HR2.out]; rfl, KW.out.trans K1.out⟩
theorem rtextK_any (p : PT) (w : World) (hk : 0 ≤ p.k ∧ p.k < 6) (hy : p.y.size ≤ 10) (hm : p.m.size ≤ 10) (hd : p.d.size ≤ 10) : Calls Tryz.prog 16 #[ptV p] w fun e w' => e = .returned (.string (textP p)) ∧ Kp w w' := by
  obtain ⟨k, y, m, d⟩ := p
  simp only at hk hy hm hd
  have : k = 0 ∨ k = 1 ∨ k = 2 ∨ k = 3 ∨ k = 4 ∨ k = 5 := by omega
  unfold ptV
  simp only
  rcases this with rfl | rfl | rfl | rfl | rfl | rfl
  · exact rtext8_0 y m d w hy hm hd
  · exact rtext8_1 y m d w hy hm hd
  · exact rtext8_2 y m d w hy hm hd
  · exact rtext8_3 y m d w hy hm hd
  · exact rtext8_4 y m d w hy hm hd
  · exact rtext8_5 y m d w hy hm hd
set_option maxHeartbeats 2000000 in
set_option maxRecDepth 100000 in
/-- of a point of any kind: no text where it is none -/
theorem rtextN_any (p : PT) (w : World) (hn : saneP p = false) (hy : p.y.size ≤ 10) (hm : p.m.size ≤ 10) (hd : p.d.size ≤ 10) : Calls Tryz.prog 16 #[ptV p] w fun e w' => e = .returned (.string (textP p)) ∧ Kp w w' := by
  have C := Lib.hid (fun w1 => rsane8_any p w1 hy hm hd)
  rw [hn] at C
  have E : textP p = ⟨#[]⟩ := by unfold textP; rw [if_neg (by rw [hn]; simp)]
  rw [E]
  obtain ⟨k, y, m, d⟩ := p
  unfold ptV at *
  simp only at *
  obtain ⟨W0, hW⟩ : ∃ x, x = w.alloc (.cells #[.int .i64 k, .string y, .string m, .string d] 23) := ⟨_, rfl⟩
  have kw : Kp w W0 := by rw [hW]; exact Kp.alloc _ _
  have gB : W0.heap[w.heap.size]? = some (.cells #[.int .i64 k, .string y, .string m, .string d] 23 (0, 0)) := by rw [hW]; exact heap_at _ _ _ rfl
  obtain ⟨x0, x1, x2, x3⟩ := row4p gB
  have KW := Lib.hid kw
  have HW := Lib.hid hW
  clear kw gB hW hn hy hm hd E
  go_enter Tryz.func16, Tryz.ntmps16
  go_wp2_with fail
  rw [← HW.out]
  refine (C.out _).mono ?_
  rintro e w1 ⟨rfl, kk⟩
  have K1 := Lib.hid kk
  clear kk x0 x1 x2 x3
  go_wp2
  go_ret
  exact ⟨rfl, KW.out.trans K1.out⟩
theorem rtextA_any (p : PT) (w : World) (hy : p.y.size ≤ 10) (hm : p.m.size ≤ 10) (hd : p.d.size ≤ 10) : Calls Tryz.prog 16 #[ptV p] w fun e w' => e = .returned (.string (textP p)) ∧ Kp w w' := by
  by_cases hk : 0 ≤ p.k ∧ p.k < 6
  · exact rtextK_any p w hk hy hm hd
  · refine rtextN_any p w ?_ hy hm hd
    rcases Bool.eq_false_or_eq_true (saneP p) with q | q
    · exact absurd (sane_kind q).1 hk
    · exact q
set_option maxHeartbeats 2000000 in
set_option maxRecDepth 100000 in
theorem rpart_any (s : ByteArray) (a b : Nat) (w : World) (hs : s.size ≤ 10000) (hab : a ≤ b) (hb : b ≤ 100) :
    Calls Tryz.prog 20 #[.string s, .int .i64 (a : Int), .int .i64 (b : Int)] w fun e w' => e = .returned (.string (partS s a b)) ∧ w = w' := by
  unfold partS
  by_cases h : s.size < b
  · rw [if_pos h]
    have q1 : decide ((b : Int) > (s.size : Int)) = true := decide_eq_true (by omega)
    have q2 : decide (s.size < b) = true := decide_eq_true h
    clear h
    go_enter Tryz.func20, Tryz.ntmps20
    go_wp2
    go_ret
    exact ⟨rfl, rfl⟩
  · rw [if_neg h]
    have q1 : decide ((b : Int) > (s.size : Int)) = false := decide_eq_false (by omega)
    have q2 : decide (s.size < b) = false := decide_eq_false h
    have hcut := cut_sl s a b hab (by omega)
    generalize s.extract a b = r at *
    clear h
    go_enter Tryz.func20, Tryz.ntmps20
    go_wp2
    go_ret
    exact ⟨rfl, rfl⟩
def radR (k : Int) : Int := if k = 0 then 3 else if k = 3 then 2 else if k = 1 ∨ k = 2 ∨ k = 4 ∨ k = 5 then 1 else 0
set_option maxHeartbeats 2000000 in
set_option maxRecDepth 100000 in
theorem rradius_any (k : Int) (w : World) : Calls Tryz.prog 18 #[.int .i64 k] w fun e w' => e = .returned (.int .i64 (radR k)) ∧ w = w' := by
  by_cases h : k = 0 ∨ k = 1 ∨ k = 2 ∨ k = 3 ∨ k = 4 ∨ k = 5
  · rcases h with rfl | rfl | rfl | rfl | rfl | rfl
    all_goals
      unfold radR
      go_enter Tryz.func18, Tryz.ntmps18
      go_wp2
      go_ret
      exact ⟨by simp, rfl⟩
  · have e : radR k = 0 := by
      unfold radR
      rw [if_neg (by omega), if_neg (by omega), if_neg (by omega)]
    rw [e]
    have k0 : (k == 0) = false := beq_eq_false_iff_ne.2 (by omega)
    have k1 : (k == 1) = false := beq_eq_false_iff_ne.2 (by omega)
    have k2 : (k == 2) = false := beq_eq_false_iff_ne.2 (by omega)
    have k3 : (k == 3) = false := beq_eq_false_iff_ne.2 (by omega)
    have k4 : (k == 4) = false := beq_eq_false_iff_ne.2 (by omega)
    have k5 : (k == 5) = false := beq_eq_false_iff_ne.2 (by omega)
    clear h e
    go_enter Tryz.func18, Tryz.ntmps18
    go_wp2
    go_ret
    exact ⟨rfl, rfl⟩
end Go.Proofs.YtinpglfclbnhlaaGreatDoor
