/-
  Layer 8, the document's answer: contract of Read (PointIs).
-/
import Derived.Test.YtinpglfclbnhlaaGreatDoorPiA
namespace Go.Proofs.YtinpglfclbnhlaaGreatDoor
open Go.RowKit
set_option linter.unusedVariables false
set_option linter.unusedSimpArgs false
theorem rqF_yes {s : ByteArray} {k : Nat} (h : k < 6) (g : rqB s (k : Nat) = true) : rqF s (6 - k) k = (rcutP (k : Nat) s, true) := by
  rw [show 6 - k = (6 - (k + 1)) + 1 by omega]
  unfold rqF
  rw [if_pos g]
theorem rqF_no {s : ByteArray} {k : Nat} (h : k < 6) (g : rqB s (k : Nat) = false) : rqF s (6 - k) k = rqF s (6 - (k + 1)) (k + 1) := by
  rw [show 6 - k = (6 - (k + 1)) + 1 by omega, rqF, if_neg (by rw [g]; decide)]
theorem partS_size (s : ByteArray) (a b : Nat) : (partS s a b).size ≤ b := by
  unfold partS
  split
  · exact Nat.zero_le _
  · rw [ByteArray.size_extract]; omega
theorem rcut_size (k : Int) (s : ByteArray) : (rcutP k s).y.size ≤ 10 ∧ (rcutP k s).m.size ≤ 10 ∧ (rcutP k s).d.size ≤ 10 := by
  have e : (⟨#[]⟩ : ByteArray).size ≤ 10 := by decide
  have a1 := partS_size s 0 4
  have a2 := partS_size s 5 7
  have a3 := partS_size s 8 10
  have a4 := partS_size s 5 6
  have a5 := partS_size s 0 3
  have a6 := partS_size s 0 2
  unfold rcutP
  repeat' split
  all_goals (refine ⟨?_, ?_, ?_⟩ <;> simp only <;> first | exact e | omega)
theorem nil_list : (⟨#[]⟩ : ByteArray).toList = [] := by rw [ByteArray.toList_eq]
theorem none_list (s : ByteArray) : s.toList.isEmpty = decide (s.size = 0) := str_empty s
set_option maxHeartbeats 16000000 in
set_option maxRecDepth 100000 in
theorem rRead_any (s : ByteArray) (w : World) (hs : s.size ≤ 10000) : Calls Tryz.prog 7 #[.string s] w fun e w' => e = .returned (.tuple #[ptV (rqF s 6 0).1, .bool (rqF s 6 0).2]) ∧ Kp w w' := by
  have Cp04 := Lib.hid (fun w1 => rpart_any s 0 4 w1 hs (by decide) (by decide))
  have Cp57 := Lib.hid (fun w1 => rpart_any s 5 7 w1 hs (by decide) (by decide))
  have Cp8 := Lib.hid (fun w1 => rpart_any s 8 10 w1 hs (by decide) (by decide))
  have Cp56 := Lib.hid (fun w1 => rpart_any s 5 6 w1 hs (by decide) (by decide))
  have Cp03 := Lib.hid (fun w1 => rpart_any s 0 3 w1 hs (by decide) (by decide))
  have Cp02 := Lib.hid (fun w1 => rpart_any s 0 2 w1 hs (by decide) (by decide))
  have CT0 := Lib.hid (fun k w1 => rtextA_any (rcutP k s) w1 (rcut_size k s).1 (rcut_size k s).2.1 (rcut_size k s).2.2)
  have RC := Lib.hid (fun (k : Nat) (hk : k < 6) => show (k = 0 ∧ rcutP k s = ⟨0, partS s 0 4, partS s 5 7, partS s 8 10⟩) ∨ (k = 1 ∧ rcutP k s = ⟨1, partS s 0 4, partS s 5 7, ⟨#[]⟩⟩) ∨ (k = 2 ∧ rcutP k s = ⟨2, partS s 0 4, partS s 5 6, ⟨#[]⟩⟩) ∨ (k = 3 ∧ rcutP k s = ⟨3, partS s 0 4, ⟨#[]⟩, ⟨#[]⟩⟩) ∨ (k = 4 ∧ rcutP k s = ⟨4, partS s 0 3, ⟨#[]⟩, ⟨#[]⟩⟩) ∨ (k = 5 ∧ rcutP k s = ⟨5, partS s 0 2, ⟨#[]⟩, ⟨#[]⟩⟩) from by
    obtain rfl | rfl | rfl | rfl | rfl | rfl : k = 0 ∨ k = 1 ∨ k = 2 ∨ k = 3 ∨ k = 4 ∨ k = 5 := by omega
    · exact .inl ⟨rfl, rfl⟩
    · exact .inr (.inl ⟨rfl, rfl⟩)
    · exact .inr (.inr (.inl ⟨rfl, rfl⟩))
    · exact .inr (.inr (.inr (.inl ⟨rfl, rfl⟩)))
    · exact .inr (.inr (.inr (.inr (.inl ⟨rfl, rfl⟩))))
    · exact .inr (.inr (.inr (.inr (.inr ⟨rfl, rfl⟩)))))
  obtain ⟨W0, hW⟩ : ∃ x, x = w.alloc (.cells #[.int .i64 0, .string ⟨#[]⟩, .string ⟨#[]⟩, .string ⟨#[]⟩] 23) := ⟨_, rfl⟩
  have k0 : Kp w W0 := by rw [hW]; exact Kp.alloc _ _
  have HG := Lib.hid (show W0.heap[w.heap.size]? = some (.cells #[.int .i64 0, .string ⟨#[]⟩, .string ⟨#[]⟩, .string ⟨#[]⟩] 23 (0, 0)) by rw [hW]; exact heap_at _ _ _ rfl)
  have HW := Lib.hid hW
  have K0 := Lib.hid k0
  have NL := none_list s
  obtain ⟨res, hres⟩ : ∃ x, rqF s 6 0 = x := ⟨_, rfl⟩
  have RD0 := Lib.hid (show rqF s (6 - 0) 0 = res from hres)
  rw [hres]
  clear hres
  obtain ⟨⟨rk, ry, rm, rd⟩, rb⟩ := res
  simp only [ptV]
  clear hs hW k0
  generalize hpp04 : partS s 0 4 = p04 at *
  generalize hpp57 : partS s 5 7 = p57 at *
  generalize hpp8 : partS s 8 10 = p8 at *
  generalize hpp56 : partS s 5 6 = p56 at *
  generalize hpp03 : partS s 0 3 = p03 at *
  generalize hpp02 : partS s 0 2 = p02 at *
  clear hpp04 hpp57 hpp8 hpp56 hpp03 hpp02
  obtain ⟨W1, hW1⟩ : ∃ x, x = W0.alloc (.cells #[.int .i64 0, .string p04, .string p57, .string p8, .int .i64 1, .string p04, .string p57, .string ⟨#[]⟩, .int .i64 2, .string p04, .string p56, .string ⟨#[]⟩, .int .i64 3, .string p04, .string ⟨#[]⟩, .string ⟨#[]⟩, .int .i64 4, .string p03, .string ⟨#[]⟩, .string ⟨#[]⟩, .int .i64 5, .string p02, .string ⟨#[]⟩, .string ⟨#[]⟩] 23) := ⟨_, rfl⟩
  have HR := Lib.hid (show W1.heap[W0.heap.size]? = some (.cells #[.int .i64 0, .string p04, .string p57, .string p8, .int .i64 1, .string p04, .string p57, .string ⟨#[]⟩, .int .i64 2, .string p04, .string p56, .string ⟨#[]⟩, .int .i64 3, .string p04, .string ⟨#[]⟩, .string ⟨#[]⟩, .int .i64 4, .string p03, .string ⟨#[]⟩, .string ⟨#[]⟩, .int .i64 5, .string p02, .string ⟨#[]⟩, .string ⟨#[]⟩] 23 (0, 0)) by rw [hW1]; exact heap_at _ _ _ rfl)
  have K1 := Lib.hid (show Kp W0 W1 by rw [hW1]; exact Kp.alloc _ _)
  have HW1 := Lib.hid hW1
  clear hW1
  have HB := Lib.hid (fun (k : Nat) (hk : k < 6) w' (kq : Kp W1 w') => show w'.cell? ⟨W0.heap.size, k * 4, none⟩ = some (.int .i64 (rcutP k s).k) ∧ w'.cell? ⟨W0.heap.size, k * 4 + 1, none⟩ = some (.string (rcutP k s).y) ∧ w'.cell? ⟨W0.heap.size, k * 4 + 2, none⟩ = some (.string (rcutP k s).m) ∧ w'.cell? ⟨W0.heap.size, k * 4 + 3, none⟩ = some (.string (rcutP k s).d) from by
    have hb := heap_block kq HR.out
    rcases RC.out k hk with ⟨rfl, e⟩ | ⟨rfl, e⟩ | ⟨rfl, e⟩ | ⟨rfl, e⟩ | ⟨rfl, e⟩ | ⟨rfl, e⟩
    all_goals (rw [e]; refine ⟨?_, ?_, ?_, ?_⟩ <;> simp [World.cell?, hb]))
  have J0 := Lib.hid (Kp.refl W1)
  clear RC
  go_enter Tryz.func7, Tryz.ntmps7
  go_wp2_with fail
  rw [← HW.out]
  refine (Cp04.out _).mono ?_
  rintro e w' ⟨rfl, rfl⟩
  go_wp2_with fail
  refine (Cp57.out _).mono ?_
  rintro e w' ⟨rfl, rfl⟩
  go_wp2_with fail
  refine (Cp8.out _).mono ?_
  rintro e w' ⟨rfl, rfl⟩
  go_wp2_with fail
  refine (Cp04.out _).mono ?_
  rintro e w' ⟨rfl, rfl⟩
  go_wp2_with fail
  refine (Cp57.out _).mono ?_
  rintro e w' ⟨rfl, rfl⟩
  go_wp2_with fail
  refine (Cp04.out _).mono ?_
  rintro e w' ⟨rfl, rfl⟩
  go_wp2_with fail
  refine (Cp56.out _).mono ?_
  rintro e w' ⟨rfl, rfl⟩
  go_wp2_with fail
  refine (Cp04.out _).mono ?_
  rintro e w' ⟨rfl, rfl⟩
  go_wp2_with fail
  refine (Cp03.out _).mono ?_
  rintro e w' ⟨rfl, rfl⟩
  go_wp2_with fail
  refine (Cp02.out _).mono ?_
  rintro e w' ⟨rfl, rfl⟩
  go_wp2_with fail
  rw [← HW1.out]
  go_loopw [5] (fun iv wr => ∃ k : Nat, k ≤ 6 ∧ iv = .int .i64 k ∧ Hid (rqF s (6 - k) k = (⟨rk, ry, rm, rd⟩, rb)) ∧ Hid (Kp W1 wr)) (fun iv _ => 6 - (intOf iv).toNat)
  case atStart => exact ⟨0, by omega, rfl, RD0, J0⟩
  case round =>
    obtain ⟨k, hk, rfl, RD, J⟩ := hrel
    obtain ⟨wx, hwx⟩ : ∃ x, x = wr := ⟨_, rfl⟩
    subst hwx
    by_cases hlt : k < 6
    · have q1 : decide ((k : Int) < 6) = true := decide_eq_true (by omega)
      have CT := Lib.hid (CT0.out (k : Int))
      have YS := Lib.hid (fun g => rqF_yes (s := s) hlt g)
      have NO := Lib.hid (fun g => rqF_no (s := s) hlt g)
      unfold rqB at YS NO
      obtain ⟨c0, c1, c2, c3⟩ := HB.out k hlt wx J.out
      have HBk := Lib.hid (HB.out k hlt)
      have HLT := Lib.hid hlt
      have KR := Lib.hid (K0.out.trans (K1.out.trans J.out))
      have z1 : (k : Int) < 6 := by omega
      have z2 : (0 : Int) ≤ (k : Int) := by omega
      generalize rcutP (k : Int) s = p at *
      generalize textP p = tx at *
      obtain ⟨pk, y, m, d⟩ := p
      simp only [ptV] at CT
      simp only at c0 c1 c2 c3 HBk
      have HNL := Lib.hid NL
      obtain ⟨b0, hb0⟩ : ∃ b, decide (s.size = 0) = b := ⟨_, rfl⟩
      rw [hb0] at NL YS NO
      have n2 : (s.toList == []) = b0 := by rw [← NL]; cases s.toList <;> rfl
      have n3 : (s.toList == (⟨#[]⟩ : ByteArray).toList) = b0 := by rw [nil_list]; exact n2
      clear hb0
      cases b0 with
      | true =>
        have RD2 := Lib.hid ((NO.out rfl).symm.trans RD.out)
        go_wp2
        go_roundw
        case rel => exact ⟨k + 1, by have := HLT.out; omega, by go_num, RD2, J⟩
        case measure => have := HLT.out; simp [intOf]; omega
      | false =>
        go_wp2_with fail
        refine (CT.out _).mono ?_
        rintro e w3 ⟨rfl, kk⟩
        have JE := Lib.hid (J.out.trans kk)
        have KE3 := Lib.hid (KR.out.trans kk)
        clear kk c0 c1 c2 c3
        cases hq : (tx.toList == s.toList) with
        | false =>
          have RD2 := Lib.hid ((NO.out (by rw [hq]; rfl)).symm.trans RD.out)
          go_wp2
          go_roundw
          case rel => exact ⟨k + 1, by have := HLT.out; omega, by go_num, RD2, JE⟩
          case measure => have := HLT.out; simp [intOf]; omega
        | true =>
          have e := (YS.out (by rw [hq]; rfl)).symm.trans RD.out
          simp only [Prod.mk.injEq, PT.mk.injEq] at e
          obtain ⟨⟨rfl, rfl, rfl, rfl⟩, rfl⟩ := e
          obtain ⟨c0, c1, c2, c3⟩ := HBk.out w3 JE.out
          obtain ⟨⟨e0, e1, e2, e3⟩, ⟨g0, g1, g2, g3⟩, x0, x1, x2, x3⟩ := res4 (heap_block (K1.out.trans JE.out) HG.out) pk y m d
          have KE := Lib.hid (res4_kp KE3.out pk y m d (Nat.le_refl w.heap.size))
          go_wp2
          exact bodyPost_ret (v := .tuple #[.agg #[.int .i64 pk, .string y, .string m, .string d], .bool true]) (by simp [results, Tryz.results7, go_sem, x0, x1, x2, x3]) rfl ⟨rfl, KE.out⟩
    · have q1 : decide ((k : Int) < 6) = false := decide_eq_false (by omega)
      obtain rfl : k = 6 := by omega
      have e := (show ((⟨0, ⟨#[]⟩, ⟨#[]⟩, ⟨#[]⟩⟩ : PT), false) = (⟨rk, ry, rm, rd⟩, rb) from RD.out)
      simp only [Prod.mk.injEq, PT.mk.injEq] at e
      obtain ⟨⟨rfl, rfl, rfl, rfl⟩, rfl⟩ := e
      obtain ⟨⟨e0, e1, e2, e3⟩, ⟨g0, g1, g2, g3⟩, x0, x1, x2, x3⟩ := res4 (heap_block (K1.out.trans J.out) HG.out) 0 ⟨#[]⟩ ⟨#[]⟩ ⟨#[]⟩
      have KE := Lib.hid (res4_kp (K0.out.trans (K1.out.trans J.out)) 0 ⟨#[]⟩ ⟨#[]⟩ ⟨#[]⟩ (Nat.le_refl w.heap.size))
      go_wp2
      exact bodyPost_ret (v := .tuple #[.agg #[.int .i64 0, .string ⟨#[]⟩, .string ⟨#[]⟩, .string ⟨#[]⟩], .bool false]) (by simp [results, Tryz.results7, go_sem, x0, x1, x2, x3]) rfl ⟨rfl, KE.out⟩
end Go.Proofs.YtinpglfclbnhlaaGreatDoor
