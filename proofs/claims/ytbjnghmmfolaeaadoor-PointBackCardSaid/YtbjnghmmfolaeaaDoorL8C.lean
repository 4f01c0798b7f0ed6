/-
  Layer 8: PointBack.
-/
import Derived.Test.YtbjnghmmfolaeaaDoorL8B
import Derived.Test.YtbjnghmmfolaeaaDoorGLeafA
namespace Go.Proofs.YtbjnghmmfolaeaaDoor
open Go.RowKit
set_option linter.unusedVariables false
set_option linter.unusedSimpArgs false
theorem bytes_eq (a b : ByteArray) : (a == b) = true ↔ a = b := by
  rw [beq_toListBytes, beq_iff_eq, ByteArray.toList_eq, ByteArray.toList_eq]
  constructor
  · intro h
    obtain ⟨⟨x⟩⟩ := a
    obtain ⟨⟨y⟩⟩ := b
    simp only at h
    rw [h]
  · intro h
    rw [h]
def shortP (p : PT) : Bool := decide ((p.y.size : Int) ≤ 10) && (decide ((p.m.size : Int) ≤ 10) && decide ((p.d.size : Int) ≤ 10))
set_option maxHeartbeats 4000000 in
set_option maxRecDepth 100000 in
theorem short_any (p : PT) (w : World) : Calls Tryd.prog 17 #[ptV p] w fun e w' => e = .returned (.bool (shortP p)) ∧ Kp w w' := by
  obtain ⟨k, y, m, d, rfl⟩ := pt_dest p
  unfold ptV shortP
  simp only
  go_enter Tryd.func17, Tryd.ntmps17
  go_wp2
  all_goals go_ret
  all_goals refine ⟨?_, Kp.alloc _ _⟩
  all_goals (simp_all <;> omega)
set_option maxHeartbeats 16000000 in
set_option maxRecDepth 100000 in
theorem pback_0 (p : PT) (t : ByteArray) (w : World) (hp1 : -9223372036854775808 ≤ p.k) (hp2 : p.k ≤ 9223372036854775807) (T : Tabs8 w) (hs : shortP p = true → ¬ (t.size : Int) ≤ 40) :
    Calls Tryd.prog 3 #[ptV p, .string t] w fun e w' => e = .returned (.bool true) ∧ Kp w w' := by
  have AW := Lib.hid (fun w1 (kk : Kp w w1) => awake08 w1 (T.kp kk))
  have SH := Lib.hid (fun w1 (kk : Kp w w1) => short_any p w1)
  obtain ⟨sb, hsb⟩ : ∃ b, shortP p = b := ⟨_, rfl⟩
  rw [hsb] at SH hs
  clear hsb T
  obtain ⟨kp, yp, mp, dp⟩ := p
  unfold ptV at *
  simp only at *
  obtain ⟨W0, hW⟩ : ∃ W0, W0 = w.alloc (.cells #[.int .i64 kp, .string yp, .string mp, .string dp] 23) := ⟨_, rfl⟩
  have K00 := Lib.hid (show Kp w W0 by rw [hW]; exact Kp.alloc _ _)
  have HB := Lib.hid (fun w1 (k : Kp W0 w1) => show w1.cell? ⟨w.heap.size, 0, none⟩ = some (.int .i64 kp) ∧ w1.cell? ⟨w.heap.size, 1, none⟩ = some (.string yp) ∧ w1.cell? ⟨w.heap.size, 2, none⟩ = some (.string mp) ∧ w1.cell? ⟨w.heap.size, 3, none⟩ = some (.string dp) from ⟨cell_up k (show W0.cell? ⟨w.heap.size, 0, none⟩ = some (.int .i64 kp) by rw [hW]; simp), cell_up k (show W0.cell? ⟨w.heap.size, 1, none⟩ = some (.string yp) by rw [hW]; simp), cell_up k (show W0.cell? ⟨w.heap.size, 2, none⟩ = some (.string mp) by rw [hW]; simp), cell_up k (show W0.cell? ⟨w.heap.size, 3, none⟩ = some (.string dp) by rw [hW]; simp)⟩)
  obtain ⟨c0, c1, c2, c3⟩ := HB.out W0 (Kp.refl _)
  have K0 := Lib.hid (Kp.refl W0)
  have HW := Lib.hid hW
  clear hW
  cases sb with
  | false =>
    go_enter Tryd.func3, Tryd.ntmps3
    go_wp2_with fail
    rw [← HW.out]
    refine (AW.out _ (K00.out.trans (by first | with_reducible exact K0.out | with_reducible exact K0.out.trans (Kp.alloc _ _) | with_reducible exact (K0.out.trans (Kp.alloc _ _)).trans (Kp.alloc _ _) | with_reducible exact ((K0.out.trans (Kp.alloc _ _)).trans (Kp.alloc _ _)).trans (Kp.alloc _ _) | with_reducible exact K0.out.trans (Kp.drew _) | with_reducible exact K0.out.trans (Kp.drewN _ _)))).mono ?_
    rintro e w1 ⟨rfl, kk⟩
    have K1 := Lib.hid ((show Kp W0 _ from (by first | with_reducible exact K0.out | with_reducible exact K0.out.trans (Kp.alloc _ _) | with_reducible exact (K0.out.trans (Kp.alloc _ _)).trans (Kp.alloc _ _) | with_reducible exact ((K0.out.trans (Kp.alloc _ _)).trans (Kp.alloc _ _)).trans (Kp.alloc _ _) | with_reducible exact K0.out.trans (Kp.drew _) | with_reducible exact K0.out.trans (Kp.drewN _ _))).trans kk)
    clear kk
    clear c0 c1 c2 c3
    obtain ⟨c0, c1, c2, c3⟩ := HB.out w1 K1.out
    go_wp2_with fail
    refine (SH.out _ (K00.out.trans (by first | with_reducible exact K1.out | with_reducible exact K1.out.trans (Kp.alloc _ _) | with_reducible exact (K1.out.trans (Kp.alloc _ _)).trans (Kp.alloc _ _) | with_reducible exact ((K1.out.trans (Kp.alloc _ _)).trans (Kp.alloc _ _)).trans (Kp.alloc _ _) | with_reducible exact K1.out.trans (Kp.drew _) | with_reducible exact K1.out.trans (Kp.drewN _ _)))).mono ?_
    rintro e w2 ⟨rfl, kk⟩
    have K2 := Lib.hid ((show Kp W0 _ from (by first | with_reducible exact K1.out | with_reducible exact K1.out.trans (Kp.alloc _ _) | with_reducible exact (K1.out.trans (Kp.alloc _ _)).trans (Kp.alloc _ _) | with_reducible exact ((K1.out.trans (Kp.alloc _ _)).trans (Kp.alloc _ _)).trans (Kp.alloc _ _) | with_reducible exact K1.out.trans (Kp.drew _) | with_reducible exact K1.out.trans (Kp.drewN _ _))).trans kk)
    clear kk
    clear c0 c1 c2 c3
    obtain ⟨c0, c1, c2, c3⟩ := HB.out w2 K2.out
    go_wp2
    go_ret
    exact ⟨rfl, K00.out.trans K2.out⟩
  | true =>
    have ht : ¬ ((t.size : Int) ≤ 40) := fun h => hs rfl h
    have ht2 : (40 : Int) < (t.size : Int) := by omega
    clear hs ht
    go_enter Tryd.func3, Tryd.ntmps3
    go_wp2_with fail
    rw [← HW.out]
    refine (AW.out _ (K00.out.trans (by first | with_reducible exact K0.out | with_reducible exact K0.out.trans (Kp.alloc _ _) | with_reducible exact (K0.out.trans (Kp.alloc _ _)).trans (Kp.alloc _ _) | with_reducible exact ((K0.out.trans (Kp.alloc _ _)).trans (Kp.alloc _ _)).trans (Kp.alloc _ _) | with_reducible exact K0.out.trans (Kp.drew _) | with_reducible exact K0.out.trans (Kp.drewN _ _)))).mono ?_
    rintro e w1 ⟨rfl, kk⟩
    have K1 := Lib.hid ((show Kp W0 _ from (by first | with_reducible exact K0.out | with_reducible exact K0.out.trans (Kp.alloc _ _) | with_reducible exact (K0.out.trans (Kp.alloc _ _)).trans (Kp.alloc _ _) | with_reducible exact ((K0.out.trans (Kp.alloc _ _)).trans (Kp.alloc _ _)).trans (Kp.alloc _ _) | with_reducible exact K0.out.trans (Kp.drew _) | with_reducible exact K0.out.trans (Kp.drewN _ _))).trans kk)
    clear kk
    clear c0 c1 c2 c3
    obtain ⟨c0, c1, c2, c3⟩ := HB.out w1 K1.out
    go_wp2_with fail
    refine (SH.out _ (K00.out.trans (by first | with_reducible exact K1.out | with_reducible exact K1.out.trans (Kp.alloc _ _) | with_reducible exact (K1.out.trans (Kp.alloc _ _)).trans (Kp.alloc _ _) | with_reducible exact ((K1.out.trans (Kp.alloc _ _)).trans (Kp.alloc _ _)).trans (Kp.alloc _ _) | with_reducible exact K1.out.trans (Kp.drew _) | with_reducible exact K1.out.trans (Kp.drewN _ _)))).mono ?_
    rintro e w2 ⟨rfl, kk⟩
    have K2 := Lib.hid ((show Kp W0 _ from (by first | with_reducible exact K1.out | with_reducible exact K1.out.trans (Kp.alloc _ _) | with_reducible exact (K1.out.trans (Kp.alloc _ _)).trans (Kp.alloc _ _) | with_reducible exact ((K1.out.trans (Kp.alloc _ _)).trans (Kp.alloc _ _)).trans (Kp.alloc _ _) | with_reducible exact K1.out.trans (Kp.drew _) | with_reducible exact K1.out.trans (Kp.drewN _ _))).trans kk)
    clear kk
    clear c0 c1 c2 c3
    obtain ⟨c0, c1, c2, c3⟩ := HB.out w2 K2.out
    go_wp2
    go_ret
    exact ⟨rfl, K00.out.trans K2.out⟩
set_option maxHeartbeats 16000000 in
set_option maxRecDepth 100000 in
theorem pback_11 (p : PT) (t : ByteArray) (w : World) (hp1 : -9223372036854775808 ≤ p.k) (hp2 : p.k ≤ 9223372036854775807) (T : Tabs8 w) (hs : shortP p = true) (ht : (t.size : Int) ≤ 40) (hb : saneP p = true) (hok : (readP t).2 = true) :
    Calls Tryd.prog 3 #[ptV p, .string t] w fun e w' => e = .returned (.bool true) ∧ Kp w w' := by
  have AW := Lib.hid (fun w1 (kk : Kp w w1) => awake08 w1 (T.kp kk))
  have SH := Lib.hid (fun w1 (kk : Kp w w1) => short_any p w1)
  rw [hs] at SH
  have TX := Lib.hid (fun w1 (kk : Kp w w1) => ptText_any p w1 (T.kp kk).2.1)
  have SN := Lib.hid (fun w1 (kk : Kp w w1) => ptSane_any p w1 (T.kp kk).2.1)
  have RT := Lib.hid (fun w1 (kk : Kp w w1) => ptRead_any t w1 (by omega) (T.kp kk).2.1)
  rw [hb] at SN
  rw [hok] at RT
  have RS := fun w1 (kk : Kp w w1) => ptRead_any (textP p) w1 (by rw [text_len hb]; unfold txtLen; (repeat' split) <;> decide) (T.kp kk).2.1
  rw [read_back hb] at RS
  have RSH := Lib.hid RS
  have n0 := text_some hb
  have E1 : (textP p).toList.isEmpty = false := by rw [str_empty]; exact decide_eq_false n0
  obtain ⟨qs, qt⟩ := read_yes hok
  have SQ := Lib.hid (fun w1 (kk : Kp w w1) => ptSane_any (readP t).1 w1 (T.kp kk).2.1)
  have TQ := Lib.hid (fun w1 (kk : Kp w w1) => ptText_any (readP t).1 w1 (T.kp kk).2.1)
  rw [qs] at SQ
  rw [qt] at TQ
  clear qs qt hok
  clear RS n0
  generalize textP p = s at *
  clear hb hs T
  generalize (readP t).1 = q at *
  obtain ⟨kq, yq, mq, dq⟩ := q
  have ht1 : (t.size : Int) ≤ 40 := ht
  obtain ⟨kp, yp, mp, dp⟩ := p
  unfold ptV at *
  simp only at *
  obtain ⟨W0, hW⟩ : ∃ W0, W0 = w.alloc (.cells #[.int .i64 kp, .string yp, .string mp, .string dp] 23) := ⟨_, rfl⟩
  have K00 := Lib.hid (show Kp w W0 by rw [hW]; exact Kp.alloc _ _)
  have HB := Lib.hid (fun w1 (k : Kp W0 w1) => show w1.cell? ⟨w.heap.size, 0, none⟩ = some (.int .i64 kp) ∧ w1.cell? ⟨w.heap.size, 1, none⟩ = some (.string yp) ∧ w1.cell? ⟨w.heap.size, 2, none⟩ = some (.string mp) ∧ w1.cell? ⟨w.heap.size, 3, none⟩ = some (.string dp) from ⟨cell_up k (show W0.cell? ⟨w.heap.size, 0, none⟩ = some (.int .i64 kp) by rw [hW]; simp), cell_up k (show W0.cell? ⟨w.heap.size, 1, none⟩ = some (.string yp) by rw [hW]; simp), cell_up k (show W0.cell? ⟨w.heap.size, 2, none⟩ = some (.string mp) by rw [hW]; simp), cell_up k (show W0.cell? ⟨w.heap.size, 3, none⟩ = some (.string dp) by rw [hW]; simp)⟩)
  obtain ⟨c0, c1, c2, c3⟩ := HB.out W0 (Kp.refl _)
  have K0 := Lib.hid (Kp.refl W0)
  have HW := Lib.hid hW
  clear hW
  go_enter Tryd.func3, Tryd.ntmps3
  go_wp2_with fail
  rw [← HW.out]
  refine (AW.out _ (K00.out.trans (by first | with_reducible exact K0.out | with_reducible exact K0.out.trans (Kp.alloc _ _) | with_reducible exact (K0.out.trans (Kp.alloc _ _)).trans (Kp.alloc _ _) | with_reducible exact ((K0.out.trans (Kp.alloc _ _)).trans (Kp.alloc _ _)).trans (Kp.alloc _ _) | with_reducible exact K0.out.trans (Kp.drew _) | with_reducible exact K0.out.trans (Kp.drewN _ _)))).mono ?_
  rintro e w1 ⟨rfl, kk⟩
  have K1 := Lib.hid ((show Kp W0 _ from (by first | with_reducible exact K0.out | with_reducible exact K0.out.trans (Kp.alloc _ _) | with_reducible exact (K0.out.trans (Kp.alloc _ _)).trans (Kp.alloc _ _) | with_reducible exact ((K0.out.trans (Kp.alloc _ _)).trans (Kp.alloc _ _)).trans (Kp.alloc _ _) | with_reducible exact K0.out.trans (Kp.drew _) | with_reducible exact K0.out.trans (Kp.drewN _ _))).trans kk)
  clear kk
  clear c0 c1 c2 c3
  obtain ⟨c0, c1, c2, c3⟩ := HB.out w1 K1.out
  go_wp2_with fail
  refine (SH.out _ (K00.out.trans (by first | with_reducible exact K1.out | with_reducible exact K1.out.trans (Kp.alloc _ _) | with_reducible exact (K1.out.trans (Kp.alloc _ _)).trans (Kp.alloc _ _) | with_reducible exact ((K1.out.trans (Kp.alloc _ _)).trans (Kp.alloc _ _)).trans (Kp.alloc _ _) | with_reducible exact K1.out.trans (Kp.drew _) | with_reducible exact K1.out.trans (Kp.drewN _ _)))).mono ?_
  rintro e w2 ⟨rfl, kk⟩
  have K2 := Lib.hid ((show Kp W0 _ from (by first | with_reducible exact K1.out | with_reducible exact K1.out.trans (Kp.alloc _ _) | with_reducible exact (K1.out.trans (Kp.alloc _ _)).trans (Kp.alloc _ _) | with_reducible exact ((K1.out.trans (Kp.alloc _ _)).trans (Kp.alloc _ _)).trans (Kp.alloc _ _) | with_reducible exact K1.out.trans (Kp.drew _) | with_reducible exact K1.out.trans (Kp.drewN _ _))).trans kk)
  clear kk
  clear c0 c1 c2 c3
  obtain ⟨c0, c1, c2, c3⟩ := HB.out w2 K2.out
  go_wp2_with fail
  refine (TX.out _ (K00.out.trans (by first | with_reducible exact K2.out | with_reducible exact K2.out.trans (Kp.alloc _ _) | with_reducible exact (K2.out.trans (Kp.alloc _ _)).trans (Kp.alloc _ _) | with_reducible exact ((K2.out.trans (Kp.alloc _ _)).trans (Kp.alloc _ _)).trans (Kp.alloc _ _) | with_reducible exact K2.out.trans (Kp.drew _) | with_reducible exact K2.out.trans (Kp.drewN _ _)))).mono ?_
  rintro e w3 ⟨rfl, kk⟩
  have K3 := Lib.hid ((show Kp W0 _ from (by first | with_reducible exact K2.out | with_reducible exact K2.out.trans (Kp.alloc _ _) | with_reducible exact (K2.out.trans (Kp.alloc _ _)).trans (Kp.alloc _ _) | with_reducible exact ((K2.out.trans (Kp.alloc _ _)).trans (Kp.alloc _ _)).trans (Kp.alloc _ _) | with_reducible exact K2.out.trans (Kp.drew _) | with_reducible exact K2.out.trans (Kp.drewN _ _))).trans kk)
  clear kk
  clear c0 c1 c2 c3
  obtain ⟨c0, c1, c2, c3⟩ := HB.out w3 K3.out
  go_wp2_with fail
  refine (SN.out _ (K00.out.trans (by first | with_reducible exact K3.out | with_reducible exact K3.out.trans (Kp.alloc _ _) | with_reducible exact (K3.out.trans (Kp.alloc _ _)).trans (Kp.alloc _ _) | with_reducible exact ((K3.out.trans (Kp.alloc _ _)).trans (Kp.alloc _ _)).trans (Kp.alloc _ _) | with_reducible exact K3.out.trans (Kp.drew _) | with_reducible exact K3.out.trans (Kp.drewN _ _)))).mono ?_
  rintro e w4 ⟨rfl, kk⟩
  have K4 := Lib.hid ((show Kp W0 _ from (by first | with_reducible exact K3.out | with_reducible exact K3.out.trans (Kp.alloc _ _) | with_reducible exact (K3.out.trans (Kp.alloc _ _)).trans (Kp.alloc _ _) | with_reducible exact ((K3.out.trans (Kp.alloc _ _)).trans (Kp.alloc _ _)).trans (Kp.alloc _ _) | with_reducible exact K3.out.trans (Kp.drew _) | with_reducible exact K3.out.trans (Kp.drewN _ _))).trans kk)
  clear kk
  clear c0 c1 c2 c3
  obtain ⟨c0, c1, c2, c3⟩ := HB.out w4 K4.out
  go_wp2_with fail
  refine (RSH.out _ (K00.out.trans (by first | with_reducible exact K4.out | with_reducible exact K4.out.trans (Kp.alloc _ _) | with_reducible exact (K4.out.trans (Kp.alloc _ _)).trans (Kp.alloc _ _) | with_reducible exact ((K4.out.trans (Kp.alloc _ _)).trans (Kp.alloc _ _)).trans (Kp.alloc _ _) | with_reducible exact K4.out.trans (Kp.drew _) | with_reducible exact K4.out.trans (Kp.drewN _ _)))).mono ?_
  rintro e w5 ⟨rfl, kk⟩
  have K5 := Lib.hid ((show Kp W0 _ from (by first | with_reducible exact K4.out | with_reducible exact K4.out.trans (Kp.alloc _ _) | with_reducible exact (K4.out.trans (Kp.alloc _ _)).trans (Kp.alloc _ _) | with_reducible exact ((K4.out.trans (Kp.alloc _ _)).trans (Kp.alloc _ _)).trans (Kp.alloc _ _) | with_reducible exact K4.out.trans (Kp.drew _) | with_reducible exact K4.out.trans (Kp.drewN _ _))).trans kk)
  clear kk
  clear c0 c1 c2 c3
  obtain ⟨c0, c1, c2, c3⟩ := HB.out w5 K5.out
  obtain ⟨w6, hV⟩ : ∃ x, x = w5.alloc (.cells #[.int .i64 kp, .string yp, .string mp, .string dp] 23) := ⟨_, rfl⟩
  have ka : Kp w5 w6 := by rw [hV]; exact Kp.alloc _ _
  have hgq : w6.heap[w5.heap.size]? = some (.cells #[.int .i64 kp, .string yp, .string mp, .string dp] 23 (0, 0)) := by rw [hV]; exact heap_at _ _ _ rfl
  have q0 : w6.cell? ⟨w5.heap.size, 0, none⟩ = some (.int .i64 kp) := by simp [World.cell?, hgq]
  have q1 : w6.cell? ⟨w5.heap.size, 1, none⟩ = some (.string yp) := by simp [World.cell?, hgq]
  have q2 : w6.cell? ⟨w5.heap.size, 2, none⟩ = some (.string mp) := by simp [World.cell?, hgq]
  have q3 : w6.cell? ⟨w5.heap.size, 3, none⟩ = some (.string dp) := by simp [World.cell?, hgq]
  have HB2 := Lib.hid (fun w1 (k : Kp w6 w1) => show w1.cell? ⟨w.heap.size, 0, none⟩ = some (.int .i64 kp) ∧ w1.cell? ⟨w.heap.size, 1, none⟩ = some (.string yp) ∧ w1.cell? ⟨w.heap.size, 2, none⟩ = some (.string mp) ∧ w1.cell? ⟨w.heap.size, 3, none⟩ = some (.string dp) ∧ w1.cell? ⟨w5.heap.size, 0, none⟩ = some (.int .i64 kp) ∧ w1.cell? ⟨w5.heap.size, 1, none⟩ = some (.string yp) ∧ w1.cell? ⟨w5.heap.size, 2, none⟩ = some (.string mp) ∧ w1.cell? ⟨w5.heap.size, 3, none⟩ = some (.string dp) from ⟨(HB.out w1 (K5.out.trans (ka.trans k))).1, (HB.out w1 (K5.out.trans (ka.trans k))).2.1, (HB.out w1 (K5.out.trans (ka.trans k))).2.2.1, (HB.out w1 (K5.out.trans (ka.trans k))).2.2.2, cell_up k q0, cell_up k q1, cell_up k q2, cell_up k q3⟩)
  have K01 := Lib.hid (K00.out.trans (K5.out.trans ka))
  have lt1 := World.block_lt_of_cell? _ _ c0
  have ne1 := Nat.ne_of_lt lt1
  simp only at lt1 ne1
  clear HB K00 hgq  q0 q1 q2 q3
  have HB := HB2
  have K00 := K01
  clear HB2 K01
  have K6 := Lib.hid (Kp.refl w6)
  have Hw6 := Lib.hid hV
  clear hV ka
  go_wp2_with fail
  rw [← Hw6.out]
  clear c0 c1 c2 c3
  obtain ⟨c0, c1, c2, c3, c4, c5, c6, c7⟩ := HB.out w6 (Kp.refl _)
  refine (RT.out _ (K00.out.trans (by first | with_reducible exact K6.out | with_reducible exact K6.out.trans (Kp.alloc _ _) | with_reducible exact (K6.out.trans (Kp.alloc _ _)).trans (Kp.alloc _ _) | with_reducible exact ((K6.out.trans (Kp.alloc _ _)).trans (Kp.alloc _ _)).trans (Kp.alloc _ _) | with_reducible exact K6.out.trans (Kp.drew _) | with_reducible exact K6.out.trans (Kp.drewN _ _)))).mono ?_
  rintro e w7 ⟨rfl, kk⟩
  have K7 := Lib.hid ((show Kp w6 _ from (by first | with_reducible exact K6.out | with_reducible exact K6.out.trans (Kp.alloc _ _) | with_reducible exact (K6.out.trans (Kp.alloc _ _)).trans (Kp.alloc _ _) | with_reducible exact ((K6.out.trans (Kp.alloc _ _)).trans (Kp.alloc _ _)).trans (Kp.alloc _ _) | with_reducible exact K6.out.trans (Kp.drew _) | with_reducible exact K6.out.trans (Kp.drewN _ _))).trans kk)
  clear kk
  clear c0 c1 c2 c3 c4 c5 c6 c7
  obtain ⟨c0, c1, c2, c3, c4, c5, c6, c7⟩ := HB.out w7 K7.out
  obtain ⟨w8, hV⟩ : ∃ x, x = w7.alloc (.cells #[.int .i64 kq, .string yq, .string mq, .string dq] 23) := ⟨_, rfl⟩
  have ka : Kp w7 w8 := by rw [hV]; exact Kp.alloc _ _
  have hgq : w8.heap[w7.heap.size]? = some (.cells #[.int .i64 kq, .string yq, .string mq, .string dq] 23 (0, 0)) := by rw [hV]; exact heap_at _ _ _ rfl
  have q0 : w8.cell? ⟨w7.heap.size, 0, none⟩ = some (.int .i64 kq) := by simp [World.cell?, hgq]
  have q1 : w8.cell? ⟨w7.heap.size, 1, none⟩ = some (.string yq) := by simp [World.cell?, hgq]
  have q2 : w8.cell? ⟨w7.heap.size, 2, none⟩ = some (.string mq) := by simp [World.cell?, hgq]
  have q3 : w8.cell? ⟨w7.heap.size, 3, none⟩ = some (.string dq) := by simp [World.cell?, hgq]
  have HB2 := Lib.hid (fun w1 (k : Kp w8 w1) => show w1.cell? ⟨w.heap.size, 0, none⟩ = some (.int .i64 kp) ∧ w1.cell? ⟨w.heap.size, 1, none⟩ = some (.string yp) ∧ w1.cell? ⟨w.heap.size, 2, none⟩ = some (.string mp) ∧ w1.cell? ⟨w.heap.size, 3, none⟩ = some (.string dp) ∧ w1.cell? ⟨w5.heap.size, 0, none⟩ = some (.int .i64 kp) ∧ w1.cell? ⟨w5.heap.size, 1, none⟩ = some (.string yp) ∧ w1.cell? ⟨w5.heap.size, 2, none⟩ = some (.string mp) ∧ w1.cell? ⟨w5.heap.size, 3, none⟩ = some (.string dp) ∧ w1.cell? ⟨w7.heap.size, 0, none⟩ = some (.int .i64 kq) ∧ w1.cell? ⟨w7.heap.size, 1, none⟩ = some (.string yq) ∧ w1.cell? ⟨w7.heap.size, 2, none⟩ = some (.string mq) ∧ w1.cell? ⟨w7.heap.size, 3, none⟩ = some (.string dq) from ⟨(HB.out w1 (K7.out.trans (ka.trans k))).1, (HB.out w1 (K7.out.trans (ka.trans k))).2.1, (HB.out w1 (K7.out.trans (ka.trans k))).2.2.1, (HB.out w1 (K7.out.trans (ka.trans k))).2.2.2.1, (HB.out w1 (K7.out.trans (ka.trans k))).2.2.2.2.1, (HB.out w1 (K7.out.trans (ka.trans k))).2.2.2.2.2.1, (HB.out w1 (K7.out.trans (ka.trans k))).2.2.2.2.2.2.1, (HB.out w1 (K7.out.trans (ka.trans k))).2.2.2.2.2.2.2, cell_up k q0, cell_up k q1, cell_up k q2, cell_up k q3⟩)
  have K01 := Lib.hid (K00.out.trans (K7.out.trans ka))
  clear HB K00 hgq c0 c1 c2 c3 c4 c5 c6 c7 q0 q1 q2 q3
  have HB := HB2
  have K00 := K01
  clear HB2 K01
  have K8 := Lib.hid (Kp.refl w8)
  have Hw8 := Lib.hid hV
  clear hV ka
  go_wp2_with fail
  rw [← Hw8.out]
  obtain ⟨c0, c1, c2, c3, c4, c5, c6, c7, c8, c9, c10, c11⟩ := HB.out w8 (Kp.refl _)
  go_wp2_with fail
  refine (SQ.out _ (K00.out.trans (by first | with_reducible exact K8.out | with_reducible exact K8.out.trans (Kp.alloc _ _) | with_reducible exact (K8.out.trans (Kp.alloc _ _)).trans (Kp.alloc _ _) | with_reducible exact ((K8.out.trans (Kp.alloc _ _)).trans (Kp.alloc _ _)).trans (Kp.alloc _ _) | with_reducible exact K8.out.trans (Kp.drew _) | with_reducible exact K8.out.trans (Kp.drewN _ _)))).mono ?_
  rintro e w9 ⟨rfl, kk⟩
  have K9 := Lib.hid ((show Kp w8 _ from (by first | with_reducible exact K8.out | with_reducible exact K8.out.trans (Kp.alloc _ _) | with_reducible exact (K8.out.trans (Kp.alloc _ _)).trans (Kp.alloc _ _) | with_reducible exact ((K8.out.trans (Kp.alloc _ _)).trans (Kp.alloc _ _)).trans (Kp.alloc _ _) | with_reducible exact K8.out.trans (Kp.drew _) | with_reducible exact K8.out.trans (Kp.drewN _ _))).trans kk)
  clear kk
  clear c0 c1 c2 c3 c4 c5 c6 c7 c8 c9 c10 c11
  obtain ⟨c0, c1, c2, c3, c4, c5, c6, c7, c8, c9, c10, c11⟩ := HB.out w9 K9.out
  go_wp2_with fail
  refine (TQ.out _ (K00.out.trans (by first | with_reducible exact K9.out | with_reducible exact K9.out.trans (Kp.alloc _ _) | with_reducible exact (K9.out.trans (Kp.alloc _ _)).trans (Kp.alloc _ _) | with_reducible exact ((K9.out.trans (Kp.alloc _ _)).trans (Kp.alloc _ _)).trans (Kp.alloc _ _) | with_reducible exact K9.out.trans (Kp.drew _) | with_reducible exact K9.out.trans (Kp.drewN _ _)))).mono ?_
  rintro e w10 ⟨rfl, kk⟩
  have K10 := Lib.hid ((show Kp w8 _ from (by first | with_reducible exact K9.out | with_reducible exact K9.out.trans (Kp.alloc _ _) | with_reducible exact (K9.out.trans (Kp.alloc _ _)).trans (Kp.alloc _ _) | with_reducible exact ((K9.out.trans (Kp.alloc _ _)).trans (Kp.alloc _ _)).trans (Kp.alloc _ _) | with_reducible exact K9.out.trans (Kp.drew _) | with_reducible exact K9.out.trans (Kp.drewN _ _))).trans kk)
  clear kk
  clear c0 c1 c2 c3 c4 c5 c6 c7 c8 c9 c10 c11
  obtain ⟨c0, c1, c2, c3, c4, c5, c6, c7, c8, c9, c10, c11⟩ := HB.out w10 K10.out
  go_wp2
  go_ret
  exact ⟨rfl, K00.out.trans K10.out⟩
set_option maxHeartbeats 16000000 in
set_option maxRecDepth 100000 in
theorem pback_10 (p : PT) (t : ByteArray) (w : World) (hp1 : -9223372036854775808 ≤ p.k) (hp2 : p.k ≤ 9223372036854775807) (T : Tabs8 w) (hs : shortP p = true) (ht : (t.size : Int) ≤ 40) (hb : saneP p = true) (hok : (readP t).2 = false) :
    Calls Tryd.prog 3 #[ptV p, .string t] w fun e w' => e = .returned (.bool true) ∧ Kp w w' := by
  have AW := Lib.hid (fun w1 (kk : Kp w w1) => awake08 w1 (T.kp kk))
  have SH := Lib.hid (fun w1 (kk : Kp w w1) => short_any p w1)
  rw [hs] at SH
  have TX := Lib.hid (fun w1 (kk : Kp w w1) => ptText_any p w1 (T.kp kk).2.1)
  have SN := Lib.hid (fun w1 (kk : Kp w w1) => ptSane_any p w1 (T.kp kk).2.1)
  have RT := Lib.hid (fun w1 (kk : Kp w w1) => ptRead_any t w1 (by omega) (T.kp kk).2.1)
  rw [hb] at SN
  rw [hok] at RT
  have RS := fun w1 (kk : Kp w w1) => ptRead_any (textP p) w1 (by rw [text_len hb]; unfold txtLen; (repeat' split) <;> decide) (T.kp kk).2.1
  rw [read_back hb] at RS
  have RSH := Lib.hid RS
  have n0 := text_some hb
  have E1 : (textP p).toList.isEmpty = false := by rw [str_empty]; exact decide_eq_false n0
  rw [read_no hok] at RT
  have ne : (t.toList == (textP p).toList) = false := by
    rcases Bool.eq_false_or_eq_true (t.toList == (textP p).toList) with e | e
    · rw [← beq_toListBytes] at e
      exfalso
      have e2 : t = textP p := (bytes_eq _ _).1 e
      rw [e2, read_back hb] at hok
      cases hok
    · exact e
  clear hok
  clear RS n0
  generalize textP p = s at *
  clear hb hs T
  have ht1 : (t.size : Int) ≤ 40 := ht
  obtain ⟨kp, yp, mp, dp⟩ := p
  unfold ptV at *
  simp only at *
  obtain ⟨W0, hW⟩ : ∃ W0, W0 = w.alloc (.cells #[.int .i64 kp, .string yp, .string mp, .string dp] 23) := ⟨_, rfl⟩
  have K00 := Lib.hid (show Kp w W0 by rw [hW]; exact Kp.alloc _ _)
  have HB := Lib.hid (fun w1 (k : Kp W0 w1) => show w1.cell? ⟨w.heap.size, 0, none⟩ = some (.int .i64 kp) ∧ w1.cell? ⟨w.heap.size, 1, none⟩ = some (.string yp) ∧ w1.cell? ⟨w.heap.size, 2, none⟩ = some (.string mp) ∧ w1.cell? ⟨w.heap.size, 3, none⟩ = some (.string dp) from ⟨cell_up k (show W0.cell? ⟨w.heap.size, 0, none⟩ = some (.int .i64 kp) by rw [hW]; simp), cell_up k (show W0.cell? ⟨w.heap.size, 1, none⟩ = some (.string yp) by rw [hW]; simp), cell_up k (show W0.cell? ⟨w.heap.size, 2, none⟩ = some (.string mp) by rw [hW]; simp), cell_up k (show W0.cell? ⟨w.heap.size, 3, none⟩ = some (.string dp) by rw [hW]; simp)⟩)
  obtain ⟨c0, c1, c2, c3⟩ := HB.out W0 (Kp.refl _)
  have K0 := Lib.hid (Kp.refl W0)
  have HW := Lib.hid hW
  clear hW
  go_enter Tryd.func3, Tryd.ntmps3
  go_wp2_with fail
  rw [← HW.out]
  refine (AW.out _ (K00.out.trans (by first | with_reducible exact K0.out | with_reducible exact K0.out.trans (Kp.alloc _ _) | with_reducible exact (K0.out.trans (Kp.alloc _ _)).trans (Kp.alloc _ _) | with_reducible exact ((K0.out.trans (Kp.alloc _ _)).trans (Kp.alloc _ _)).trans (Kp.alloc _ _) | with_reducible exact K0.out.trans (Kp.drew _) | with_reducible exact K0.out.trans (Kp.drewN _ _)))).mono ?_
  rintro e w1 ⟨rfl, kk⟩
  have K1 := Lib.hid ((show Kp W0 _ from (by first | with_reducible exact K0.out | with_reducible exact K0.out.trans (Kp.alloc _ _) | with_reducible exact (K0.out.trans (Kp.alloc _ _)).trans (Kp.alloc _ _) | with_reducible exact ((K0.out.trans (Kp.alloc _ _)).trans (Kp.alloc _ _)).trans (Kp.alloc _ _) | with_reducible exact K0.out.trans (Kp.drew _) | with_reducible exact K0.out.trans (Kp.drewN _ _))).trans kk)
  clear kk
  clear c0 c1 c2 c3
  obtain ⟨c0, c1, c2, c3⟩ := HB.out w1 K1.out
  go_wp2_with fail
  refine (SH.out _ (K00.out.trans (by first | with_reducible exact K1.out | with_reducible exact K1.out.trans (Kp.alloc _ _) | with_reducible exact (K1.out.trans (Kp.alloc _ _)).trans (Kp.alloc _ _) | with_reducible exact ((K1.out.trans (Kp.alloc _ _)).trans (Kp.alloc _ _)).trans (Kp.alloc _ _) | with_reducible exact K1.out.trans (Kp.drew _) | with_reducible exact K1.out.trans (Kp.drewN _ _)))).mono ?_
  rintro e w2 ⟨rfl, kk⟩
  have K2 := Lib.hid ((show Kp W0 _ from (by first | with_reducible exact K1.out | with_reducible exact K1.out.trans (Kp.alloc _ _) | with_reducible exact (K1.out.trans (Kp.alloc _ _)).trans (Kp.alloc _ _) | with_reducible exact ((K1.out.trans (Kp.alloc _ _)).trans (Kp.alloc _ _)).trans (Kp.alloc _ _) | with_reducible exact K1.out.trans (Kp.drew _) | with_reducible exact K1.out.trans (Kp.drewN _ _))).trans kk)
  clear kk
  clear c0 c1 c2 c3
  obtain ⟨c0, c1, c2, c3⟩ := HB.out w2 K2.out
  go_wp2_with fail
  refine (TX.out _ (K00.out.trans (by first | with_reducible exact K2.out | with_reducible exact K2.out.trans (Kp.alloc _ _) | with_reducible exact (K2.out.trans (Kp.alloc _ _)).trans (Kp.alloc _ _) | with_reducible exact ((K2.out.trans (Kp.alloc _ _)).trans (Kp.alloc _ _)).trans (Kp.alloc _ _) | with_reducible exact K2.out.trans (Kp.drew _) | with_reducible exact K2.out.trans (Kp.drewN _ _)))).mono ?_
  rintro e w3 ⟨rfl, kk⟩
  have K3 := Lib.hid ((show Kp W0 _ from (by first | with_reducible exact K2.out | with_reducible exact K2.out.trans (Kp.alloc _ _) | with_reducible exact (K2.out.trans (Kp.alloc _ _)).trans (Kp.alloc _ _) | with_reducible exact ((K2.out.trans (Kp.alloc _ _)).trans (Kp.alloc _ _)).trans (Kp.alloc _ _) | with_reducible exact K2.out.trans (Kp.drew _) | with_reducible exact K2.out.trans (Kp.drewN _ _))).trans kk)
  clear kk
  clear c0 c1 c2 c3
  obtain ⟨c0, c1, c2, c3⟩ := HB.out w3 K3.out
  go_wp2_with fail
  refine (SN.out _ (K00.out.trans (by first | with_reducible exact K3.out | with_reducible exact K3.out.trans (Kp.alloc _ _) | with_reducible exact (K3.out.trans (Kp.alloc _ _)).trans (Kp.alloc _ _) | with_reducible exact ((K3.out.trans (Kp.alloc _ _)).trans (Kp.alloc _ _)).trans (Kp.alloc _ _) | with_reducible exact K3.out.trans (Kp.drew _) | with_reducible exact K3.out.trans (Kp.drewN _ _)))).mono ?_
  rintro e w4 ⟨rfl, kk⟩
  have K4 := Lib.hid ((show Kp W0 _ from (by first | with_reducible exact K3.out | with_reducible exact K3.out.trans (Kp.alloc _ _) | with_reducible exact (K3.out.trans (Kp.alloc _ _)).trans (Kp.alloc _ _) | with_reducible exact ((K3.out.trans (Kp.alloc _ _)).trans (Kp.alloc _ _)).trans (Kp.alloc _ _) | with_reducible exact K3.out.trans (Kp.drew _) | with_reducible exact K3.out.trans (Kp.drewN _ _))).trans kk)
  clear kk
  clear c0 c1 c2 c3
  obtain ⟨c0, c1, c2, c3⟩ := HB.out w4 K4.out
  go_wp2_with fail
  refine (RSH.out _ (K00.out.trans (by first | with_reducible exact K4.out | with_reducible exact K4.out.trans (Kp.alloc _ _) | with_reducible exact (K4.out.trans (Kp.alloc _ _)).trans (Kp.alloc _ _) | with_reducible exact ((K4.out.trans (Kp.alloc _ _)).trans (Kp.alloc _ _)).trans (Kp.alloc _ _) | with_reducible exact K4.out.trans (Kp.drew _) | with_reducible exact K4.out.trans (Kp.drewN _ _)))).mono ?_
  rintro e w5 ⟨rfl, kk⟩
  have K5 := Lib.hid ((show Kp W0 _ from (by first | with_reducible exact K4.out | with_reducible exact K4.out.trans (Kp.alloc _ _) | with_reducible exact (K4.out.trans (Kp.alloc _ _)).trans (Kp.alloc _ _) | with_reducible exact ((K4.out.trans (Kp.alloc _ _)).trans (Kp.alloc _ _)).trans (Kp.alloc _ _) | with_reducible exact K4.out.trans (Kp.drew _) | with_reducible exact K4.out.trans (Kp.drewN _ _))).trans kk)
  clear kk
  clear c0 c1 c2 c3
  obtain ⟨c0, c1, c2, c3⟩ := HB.out w5 K5.out
  obtain ⟨w6, hV⟩ : ∃ x, x = w5.alloc (.cells #[.int .i64 kp, .string yp, .string mp, .string dp] 23) := ⟨_, rfl⟩
  have ka : Kp w5 w6 := by rw [hV]; exact Kp.alloc _ _
  have hgq : w6.heap[w5.heap.size]? = some (.cells #[.int .i64 kp, .string yp, .string mp, .string dp] 23 (0, 0)) := by rw [hV]; exact heap_at _ _ _ rfl
  have q0 : w6.cell? ⟨w5.heap.size, 0, none⟩ = some (.int .i64 kp) := by simp [World.cell?, hgq]
  have q1 : w6.cell? ⟨w5.heap.size, 1, none⟩ = some (.string yp) := by simp [World.cell?, hgq]
  have q2 : w6.cell? ⟨w5.heap.size, 2, none⟩ = some (.string mp) := by simp [World.cell?, hgq]
  have q3 : w6.cell? ⟨w5.heap.size, 3, none⟩ = some (.string dp) := by simp [World.cell?, hgq]
  have HB2 := Lib.hid (fun w1 (k : Kp w6 w1) => show w1.cell? ⟨w.heap.size, 0, none⟩ = some (.int .i64 kp) ∧ w1.cell? ⟨w.heap.size, 1, none⟩ = some (.string yp) ∧ w1.cell? ⟨w.heap.size, 2, none⟩ = some (.string mp) ∧ w1.cell? ⟨w.heap.size, 3, none⟩ = some (.string dp) ∧ w1.cell? ⟨w5.heap.size, 0, none⟩ = some (.int .i64 kp) ∧ w1.cell? ⟨w5.heap.size, 1, none⟩ = some (.string yp) ∧ w1.cell? ⟨w5.heap.size, 2, none⟩ = some (.string mp) ∧ w1.cell? ⟨w5.heap.size, 3, none⟩ = some (.string dp) from ⟨(HB.out w1 (K5.out.trans (ka.trans k))).1, (HB.out w1 (K5.out.trans (ka.trans k))).2.1, (HB.out w1 (K5.out.trans (ka.trans k))).2.2.1, (HB.out w1 (K5.out.trans (ka.trans k))).2.2.2, cell_up k q0, cell_up k q1, cell_up k q2, cell_up k q3⟩)
  have K01 := Lib.hid (K00.out.trans (K5.out.trans ka))
  have lt1 := World.block_lt_of_cell? _ _ c0
  have ne1 := Nat.ne_of_lt lt1
  simp only at lt1 ne1
  clear HB K00 hgq  q0 q1 q2 q3
  have HB := HB2
  have K00 := K01
  clear HB2 K01
  have K6 := Lib.hid (Kp.refl w6)
  have Hw6 := Lib.hid hV
  clear hV ka
  go_wp2_with fail
  rw [← Hw6.out]
  clear c0 c1 c2 c3
  obtain ⟨c0, c1, c2, c3, c4, c5, c6, c7⟩ := HB.out w6 (Kp.refl _)
  refine (RT.out _ (K00.out.trans (by first | with_reducible exact K6.out | with_reducible exact K6.out.trans (Kp.alloc _ _) | with_reducible exact (K6.out.trans (Kp.alloc _ _)).trans (Kp.alloc _ _) | with_reducible exact ((K6.out.trans (Kp.alloc _ _)).trans (Kp.alloc _ _)).trans (Kp.alloc _ _) | with_reducible exact K6.out.trans (Kp.drew _) | with_reducible exact K6.out.trans (Kp.drewN _ _)))).mono ?_
  rintro e w7 ⟨rfl, kk⟩
  have K7 := Lib.hid ((show Kp w6 _ from (by first | with_reducible exact K6.out | with_reducible exact K6.out.trans (Kp.alloc _ _) | with_reducible exact (K6.out.trans (Kp.alloc _ _)).trans (Kp.alloc _ _) | with_reducible exact ((K6.out.trans (Kp.alloc _ _)).trans (Kp.alloc _ _)).trans (Kp.alloc _ _) | with_reducible exact K6.out.trans (Kp.drew _) | with_reducible exact K6.out.trans (Kp.drewN _ _))).trans kk)
  clear kk
  clear c0 c1 c2 c3 c4 c5 c6 c7
  obtain ⟨c0, c1, c2, c3, c4, c5, c6, c7⟩ := HB.out w7 K7.out
  go_wp2
  all_goals go_ret
  all_goals exact ⟨rfl, K00.out.trans (K7.out.trans (Kp.alloc _ _))⟩
set_option maxHeartbeats 16000000 in
set_option maxRecDepth 100000 in
theorem pback_01 (p : PT) (t : ByteArray) (w : World) (hp1 : -9223372036854775808 ≤ p.k) (hp2 : p.k ≤ 9223372036854775807) (T : Tabs8 w) (hs : shortP p = true) (ht : (t.size : Int) ≤ 40) (hb : saneP p = false) (hok : (readP t).2 = true) :
    Calls Tryd.prog 3 #[ptV p, .string t] w fun e w' => e = .returned (.bool true) ∧ Kp w w' := by
  have AW := Lib.hid (fun w1 (kk : Kp w w1) => awake08 w1 (T.kp kk))
  have SH := Lib.hid (fun w1 (kk : Kp w w1) => short_any p w1)
  rw [hs] at SH
  have TX := Lib.hid (fun w1 (kk : Kp w w1) => ptText_any p w1 (T.kp kk).2.1)
  have SN := Lib.hid (fun w1 (kk : Kp w w1) => ptSane_any p w1 (T.kp kk).2.1)
  have RT := Lib.hid (fun w1 (kk : Kp w w1) => ptRead_any t w1 (by omega) (T.kp kk).2.1)
  rw [hb] at SN
  rw [hok] at RT
  rw [text_none hb] at TX
  obtain ⟨qs, qt⟩ := read_yes hok
  have SQ := Lib.hid (fun w1 (kk : Kp w w1) => ptSane_any (readP t).1 w1 (T.kp kk).2.1)
  have TQ := Lib.hid (fun w1 (kk : Kp w w1) => ptText_any (readP t).1 w1 (T.kp kk).2.1)
  rw [qs] at SQ
  rw [qt] at TQ
  clear qs qt hok
  clear hb hs T
  generalize (readP t).1 = q at *
  obtain ⟨kq, yq, mq, dq⟩ := q
  have ht1 : (t.size : Int) ≤ 40 := ht
  obtain ⟨kp, yp, mp, dp⟩ := p
  unfold ptV at *
  simp only at *
  obtain ⟨W0, hW⟩ : ∃ W0, W0 = w.alloc (.cells #[.int .i64 kp, .string yp, .string mp, .string dp] 23) := ⟨_, rfl⟩
  have K00 := Lib.hid (show Kp w W0 by rw [hW]; exact Kp.alloc _ _)
  have HB := Lib.hid (fun w1 (k : Kp W0 w1) => show w1.cell? ⟨w.heap.size, 0, none⟩ = some (.int .i64 kp) ∧ w1.cell? ⟨w.heap.size, 1, none⟩ = some (.string yp) ∧ w1.cell? ⟨w.heap.size, 2, none⟩ = some (.string mp) ∧ w1.cell? ⟨w.heap.size, 3, none⟩ = some (.string dp) from ⟨cell_up k (show W0.cell? ⟨w.heap.size, 0, none⟩ = some (.int .i64 kp) by rw [hW]; simp), cell_up k (show W0.cell? ⟨w.heap.size, 1, none⟩ = some (.string yp) by rw [hW]; simp), cell_up k (show W0.cell? ⟨w.heap.size, 2, none⟩ = some (.string mp) by rw [hW]; simp), cell_up k (show W0.cell? ⟨w.heap.size, 3, none⟩ = some (.string dp) by rw [hW]; simp)⟩)
  obtain ⟨c0, c1, c2, c3⟩ := HB.out W0 (Kp.refl _)
  have K0 := Lib.hid (Kp.refl W0)
  have HW := Lib.hid hW
  clear hW
  go_enter Tryd.func3, Tryd.ntmps3
  go_wp2_with fail
  rw [← HW.out]
  refine (AW.out _ (K00.out.trans (by first | with_reducible exact K0.out | with_reducible exact K0.out.trans (Kp.alloc _ _) | with_reducible exact (K0.out.trans (Kp.alloc _ _)).trans (Kp.alloc _ _) | with_reducible exact ((K0.out.trans (Kp.alloc _ _)).trans (Kp.alloc _ _)).trans (Kp.alloc _ _) | with_reducible exact K0.out.trans (Kp.drew _) | with_reducible exact K0.out.trans (Kp.drewN _ _)))).mono ?_
  rintro e w1 ⟨rfl, kk⟩
  have K1 := Lib.hid ((show Kp W0 _ from (by first | with_reducible exact K0.out | with_reducible exact K0.out.trans (Kp.alloc _ _) | with_reducible exact (K0.out.trans (Kp.alloc _ _)).trans (Kp.alloc _ _) | with_reducible exact ((K0.out.trans (Kp.alloc _ _)).trans (Kp.alloc _ _)).trans (Kp.alloc _ _) | with_reducible exact K0.out.trans (Kp.drew _) | with_reducible exact K0.out.trans (Kp.drewN _ _))).trans kk)
  clear kk
  clear c0 c1 c2 c3
  obtain ⟨c0, c1, c2, c3⟩ := HB.out w1 K1.out
  go_wp2_with fail
  refine (SH.out _ (K00.out.trans (by first | with_reducible exact K1.out | with_reducible exact K1.out.trans (Kp.alloc _ _) | with_reducible exact (K1.out.trans (Kp.alloc _ _)).trans (Kp.alloc _ _) | with_reducible exact ((K1.out.trans (Kp.alloc _ _)).trans (Kp.alloc _ _)).trans (Kp.alloc _ _) | with_reducible exact K1.out.trans (Kp.drew _) | with_reducible exact K1.out.trans (Kp.drewN _ _)))).mono ?_
  rintro e w2 ⟨rfl, kk⟩
  have K2 := Lib.hid ((show Kp W0 _ from (by first | with_reducible exact K1.out | with_reducible exact K1.out.trans (Kp.alloc _ _) | with_reducible exact (K1.out.trans (Kp.alloc _ _)).trans (Kp.alloc _ _) | with_reducible exact ((K1.out.trans (Kp.alloc _ _)).trans (Kp.alloc _ _)).trans (Kp.alloc _ _) | with_reducible exact K1.out.trans (Kp.drew _) | with_reducible exact K1.out.trans (Kp.drewN _ _))).trans kk)
  clear kk
  clear c0 c1 c2 c3
  obtain ⟨c0, c1, c2, c3⟩ := HB.out w2 K2.out
  go_wp2_with fail
  refine (TX.out _ (K00.out.trans (by first | with_reducible exact K2.out | with_reducible exact K2.out.trans (Kp.alloc _ _) | with_reducible exact (K2.out.trans (Kp.alloc _ _)).trans (Kp.alloc _ _) | with_reducible exact ((K2.out.trans (Kp.alloc _ _)).trans (Kp.alloc _ _)).trans (Kp.alloc _ _) | with_reducible exact K2.out.trans (Kp.drew _) | with_reducible exact K2.out.trans (Kp.drewN _ _)))).mono ?_
  rintro e w3 ⟨rfl, kk⟩
  have K3 := Lib.hid ((show Kp W0 _ from (by first | with_reducible exact K2.out | with_reducible exact K2.out.trans (Kp.alloc _ _) | with_reducible exact (K2.out.trans (Kp.alloc _ _)).trans (Kp.alloc _ _) | with_reducible exact ((K2.out.trans (Kp.alloc _ _)).trans (Kp.alloc _ _)).trans (Kp.alloc _ _) | with_reducible exact K2.out.trans (Kp.drew _) | with_reducible exact K2.out.trans (Kp.drewN _ _))).trans kk)
  clear kk
  clear c0 c1 c2 c3
  obtain ⟨c0, c1, c2, c3⟩ := HB.out w3 K3.out
  go_wp2_with fail
  refine (SN.out _ (K00.out.trans (by first | with_reducible exact K3.out | with_reducible exact K3.out.trans (Kp.alloc _ _) | with_reducible exact (K3.out.trans (Kp.alloc _ _)).trans (Kp.alloc _ _) | with_reducible exact ((K3.out.trans (Kp.alloc _ _)).trans (Kp.alloc _ _)).trans (Kp.alloc _ _) | with_reducible exact K3.out.trans (Kp.drew _) | with_reducible exact K3.out.trans (Kp.drewN _ _)))).mono ?_
  rintro e w4 ⟨rfl, kk⟩
  have K4 := Lib.hid ((show Kp W0 _ from (by first | with_reducible exact K3.out | with_reducible exact K3.out.trans (Kp.alloc _ _) | with_reducible exact (K3.out.trans (Kp.alloc _ _)).trans (Kp.alloc _ _) | with_reducible exact ((K3.out.trans (Kp.alloc _ _)).trans (Kp.alloc _ _)).trans (Kp.alloc _ _) | with_reducible exact K3.out.trans (Kp.drew _) | with_reducible exact K3.out.trans (Kp.drewN _ _))).trans kk)
  clear kk
  clear c0 c1 c2 c3
  obtain ⟨c0, c1, c2, c3⟩ := HB.out w4 K4.out
  go_wp2_with fail
  refine (RT.out _ (K00.out.trans (by first | with_reducible exact K4.out | with_reducible exact K4.out.trans (Kp.alloc _ _) | with_reducible exact (K4.out.trans (Kp.alloc _ _)).trans (Kp.alloc _ _) | with_reducible exact ((K4.out.trans (Kp.alloc _ _)).trans (Kp.alloc _ _)).trans (Kp.alloc _ _) | with_reducible exact K4.out.trans (Kp.drew _) | with_reducible exact K4.out.trans (Kp.drewN _ _)))).mono ?_
  rintro e w5 ⟨rfl, kk⟩
  have K5 := Lib.hid ((show Kp W0 _ from (by first | with_reducible exact K4.out | with_reducible exact K4.out.trans (Kp.alloc _ _) | with_reducible exact (K4.out.trans (Kp.alloc _ _)).trans (Kp.alloc _ _) | with_reducible exact ((K4.out.trans (Kp.alloc _ _)).trans (Kp.alloc _ _)).trans (Kp.alloc _ _) | with_reducible exact K4.out.trans (Kp.drew _) | with_reducible exact K4.out.trans (Kp.drewN _ _))).trans kk)
  clear kk
  clear c0 c1 c2 c3
  obtain ⟨c0, c1, c2, c3⟩ := HB.out w5 K5.out
  obtain ⟨w6, hV⟩ : ∃ x, x = w5.alloc (.cells #[.int .i64 kq, .string yq, .string mq, .string dq] 23) := ⟨_, rfl⟩
  have ka : Kp w5 w6 := by rw [hV]; exact Kp.alloc _ _
  have hgq : w6.heap[w5.heap.size]? = some (.cells #[.int .i64 kq, .string yq, .string mq, .string dq] 23 (0, 0)) := by rw [hV]; exact heap_at _ _ _ rfl
  have q0 : w6.cell? ⟨w5.heap.size, 0, none⟩ = some (.int .i64 kq) := by simp [World.cell?, hgq]
  have q1 : w6.cell? ⟨w5.heap.size, 1, none⟩ = some (.string yq) := by simp [World.cell?, hgq]
  have q2 : w6.cell? ⟨w5.heap.size, 2, none⟩ = some (.string mq) := by simp [World.cell?, hgq]
  have q3 : w6.cell? ⟨w5.heap.size, 3, none⟩ = some (.string dq) := by simp [World.cell?, hgq]
  have HB2 := Lib.hid (fun w1 (k : Kp w6 w1) => show w1.cell? ⟨w.heap.size, 0, none⟩ = some (.int .i64 kp) ∧ w1.cell? ⟨w.heap.size, 1, none⟩ = some (.string yp) ∧ w1.cell? ⟨w.heap.size, 2, none⟩ = some (.string mp) ∧ w1.cell? ⟨w.heap.size, 3, none⟩ = some (.string dp) ∧ w1.cell? ⟨w5.heap.size, 0, none⟩ = some (.int .i64 kq) ∧ w1.cell? ⟨w5.heap.size, 1, none⟩ = some (.string yq) ∧ w1.cell? ⟨w5.heap.size, 2, none⟩ = some (.string mq) ∧ w1.cell? ⟨w5.heap.size, 3, none⟩ = some (.string dq) from ⟨(HB.out w1 (K5.out.trans (ka.trans k))).1, (HB.out w1 (K5.out.trans (ka.trans k))).2.1, (HB.out w1 (K5.out.trans (ka.trans k))).2.2.1, (HB.out w1 (K5.out.trans (ka.trans k))).2.2.2, cell_up k q0, cell_up k q1, cell_up k q2, cell_up k q3⟩)
  have K01 := Lib.hid (K00.out.trans (K5.out.trans ka))
  clear HB K00 hgq c0 c1 c2 c3 q0 q1 q2 q3
  have HB := HB2
  have K00 := K01
  clear HB2 K01
  have K6 := Lib.hid (Kp.refl w6)
  have Hw6 := Lib.hid hV
  clear hV ka
  go_wp2_with fail
  rw [← Hw6.out]
  obtain ⟨c0, c1, c2, c3, c4, c5, c6, c7⟩ := HB.out w6 (Kp.refl _)
  go_wp2_with fail
  refine (SQ.out _ (K00.out.trans (by first | with_reducible exact K6.out | with_reducible exact K6.out.trans (Kp.alloc _ _) | with_reducible exact (K6.out.trans (Kp.alloc _ _)).trans (Kp.alloc _ _) | with_reducible exact ((K6.out.trans (Kp.alloc _ _)).trans (Kp.alloc _ _)).trans (Kp.alloc _ _) | with_reducible exact K6.out.trans (Kp.drew _) | with_reducible exact K6.out.trans (Kp.drewN _ _)))).mono ?_
  rintro e w7 ⟨rfl, kk⟩
  have K7 := Lib.hid ((show Kp w6 _ from (by first | with_reducible exact K6.out | with_reducible exact K6.out.trans (Kp.alloc _ _) | with_reducible exact (K6.out.trans (Kp.alloc _ _)).trans (Kp.alloc _ _) | with_reducible exact ((K6.out.trans (Kp.alloc _ _)).trans (Kp.alloc _ _)).trans (Kp.alloc _ _) | with_reducible exact K6.out.trans (Kp.drew _) | with_reducible exact K6.out.trans (Kp.drewN _ _))).trans kk)
  clear kk
  clear c0 c1 c2 c3 c4 c5 c6 c7
  obtain ⟨c0, c1, c2, c3, c4, c5, c6, c7⟩ := HB.out w7 K7.out
  go_wp2_with fail
  refine (TQ.out _ (K00.out.trans (by first | with_reducible exact K7.out | with_reducible exact K7.out.trans (Kp.alloc _ _) | with_reducible exact (K7.out.trans (Kp.alloc _ _)).trans (Kp.alloc _ _) | with_reducible exact ((K7.out.trans (Kp.alloc _ _)).trans (Kp.alloc _ _)).trans (Kp.alloc _ _) | with_reducible exact K7.out.trans (Kp.drew _) | with_reducible exact K7.out.trans (Kp.drewN _ _)))).mono ?_
  rintro e w8 ⟨rfl, kk⟩
  have K8 := Lib.hid ((show Kp w6 _ from (by first | with_reducible exact K7.out | with_reducible exact K7.out.trans (Kp.alloc _ _) | with_reducible exact (K7.out.trans (Kp.alloc _ _)).trans (Kp.alloc _ _) | with_reducible exact ((K7.out.trans (Kp.alloc _ _)).trans (Kp.alloc _ _)).trans (Kp.alloc _ _) | with_reducible exact K7.out.trans (Kp.drew _) | with_reducible exact K7.out.trans (Kp.drewN _ _))).trans kk)
  clear kk
  clear c0 c1 c2 c3 c4 c5 c6 c7
  obtain ⟨c0, c1, c2, c3, c4, c5, c6, c7⟩ := HB.out w8 K8.out
  go_wp2
  go_ret
  exact ⟨rfl, K00.out.trans K8.out⟩
set_option maxHeartbeats 16000000 in
set_option maxRecDepth 100000 in
theorem pback_00 (p : PT) (t : ByteArray) (w : World) (hp1 : -9223372036854775808 ≤ p.k) (hp2 : p.k ≤ 9223372036854775807) (T : Tabs8 w) (hs : shortP p = true) (ht : (t.size : Int) ≤ 40) (hb : saneP p = false) (hok : (readP t).2 = false) :
    Calls Tryd.prog 3 #[ptV p, .string t] w fun e w' => e = .returned (.bool true) ∧ Kp w w' := by
  have AW := Lib.hid (fun w1 (kk : Kp w w1) => awake08 w1 (T.kp kk))
  have SH := Lib.hid (fun w1 (kk : Kp w w1) => short_any p w1)
  rw [hs] at SH
  have TX := Lib.hid (fun w1 (kk : Kp w w1) => ptText_any p w1 (T.kp kk).2.1)
  have SN := Lib.hid (fun w1 (kk : Kp w w1) => ptSane_any p w1 (T.kp kk).2.1)
  have RT := Lib.hid (fun w1 (kk : Kp w w1) => ptRead_any t w1 (by omega) (T.kp kk).2.1)
  rw [hb] at SN
  rw [hok] at RT
  rw [text_none hb] at TX
  rw [read_no hok] at RT
  clear hok
  clear hb hs T
  have ht1 : (t.size : Int) ≤ 40 := ht
  obtain ⟨kp, yp, mp, dp⟩ := p
  unfold ptV at *
  simp only at *
  obtain ⟨W0, hW⟩ : ∃ W0, W0 = w.alloc (.cells #[.int .i64 kp, .string yp, .string mp, .string dp] 23) := ⟨_, rfl⟩
  have K00 := Lib.hid (show Kp w W0 by rw [hW]; exact Kp.alloc _ _)
  have HB := Lib.hid (fun w1 (k : Kp W0 w1) => show w1.cell? ⟨w.heap.size, 0, none⟩ = some (.int .i64 kp) ∧ w1.cell? ⟨w.heap.size, 1, none⟩ = some (.string yp) ∧ w1.cell? ⟨w.heap.size, 2, none⟩ = some (.string mp) ∧ w1.cell? ⟨w.heap.size, 3, none⟩ = some (.string dp) from ⟨cell_up k (show W0.cell? ⟨w.heap.size, 0, none⟩ = some (.int .i64 kp) by rw [hW]; simp), cell_up k (show W0.cell? ⟨w.heap.size, 1, none⟩ = some (.string yp) by rw [hW]; simp), cell_up k (show W0.cell? ⟨w.heap.size, 2, none⟩ = some (.string mp) by rw [hW]; simp), cell_up k (show W0.cell? ⟨w.heap.size, 3, none⟩ = some (.string dp) by rw [hW]; simp)⟩)
  obtain ⟨c0, c1, c2, c3⟩ := HB.out W0 (Kp.refl _)
  have K0 := Lib.hid (Kp.refl W0)
  have HW := Lib.hid hW
  clear hW
  go_enter Tryd.func3, Tryd.ntmps3
  go_wp2_with fail
  rw [← HW.out]
  refine (AW.out _ (K00.out.trans (by first | with_reducible exact K0.out | with_reducible exact K0.out.trans (Kp.alloc _ _) | with_reducible exact (K0.out.trans (Kp.alloc _ _)).trans (Kp.alloc _ _) | with_reducible exact ((K0.out.trans (Kp.alloc _ _)).trans (Kp.alloc _ _)).trans (Kp.alloc _ _) | with_reducible exact K0.out.trans (Kp.drew _) | with_reducible exact K0.out.trans (Kp.drewN _ _)))).mono ?_
  rintro e w1 ⟨rfl, kk⟩
  have K1 := Lib.hid ((show Kp W0 _ from (by first | with_reducible exact K0.out | with_reducible exact K0.out.trans (Kp.alloc _ _) | with_reducible exact (K0.out.trans (Kp.alloc _ _)).trans (Kp.alloc _ _) | with_reducible exact ((K0.out.trans (Kp.alloc _ _)).trans (Kp.alloc _ _)).trans (Kp.alloc _ _) | with_reducible exact K0.out.trans (Kp.drew _) | with_reducible exact K0.out.trans (Kp.drewN _ _))).trans kk)
  clear kk
  clear c0 c1 c2 c3
  obtain ⟨c0, c1, c2, c3⟩ := HB.out w1 K1.out
  go_wp2_with fail
  refine (SH.out _ (K00.out.trans (by first | with_reducible exact K1.out | with_reducible exact K1.out.trans (Kp.alloc _ _) | with_reducible exact (K1.out.trans (Kp.alloc _ _)).trans (Kp.alloc _ _) | with_reducible exact ((K1.out.trans (Kp.alloc _ _)).trans (Kp.alloc _ _)).trans (Kp.alloc _ _) | with_reducible exact K1.out.trans (Kp.drew _) | with_reducible exact K1.out.trans (Kp.drewN _ _)))).mono ?_
  rintro e w2 ⟨rfl, kk⟩
  have K2 := Lib.hid ((show Kp W0 _ from (by first | with_reducible exact K1.out | with_reducible exact K1.out.trans (Kp.alloc _ _) | with_reducible exact (K1.out.trans (Kp.alloc _ _)).trans (Kp.alloc _ _) | with_reducible exact ((K1.out.trans (Kp.alloc _ _)).trans (Kp.alloc _ _)).trans (Kp.alloc _ _) | with_reducible exact K1.out.trans (Kp.drew _) | with_reducible exact K1.out.trans (Kp.drewN _ _))).trans kk)
  clear kk
  clear c0 c1 c2 c3
  obtain ⟨c0, c1, c2, c3⟩ := HB.out w2 K2.out
  go_wp2_with fail
  refine (TX.out _ (K00.out.trans (by first | with_reducible exact K2.out | with_reducible exact K2.out.trans (Kp.alloc _ _) | with_reducible exact (K2.out.trans (Kp.alloc _ _)).trans (Kp.alloc _ _) | with_reducible exact ((K2.out.trans (Kp.alloc _ _)).trans (Kp.alloc _ _)).trans (Kp.alloc _ _) | with_reducible exact K2.out.trans (Kp.drew _) | with_reducible exact K2.out.trans (Kp.drewN _ _)))).mono ?_
  rintro e w3 ⟨rfl, kk⟩
  have K3 := Lib.hid ((show Kp W0 _ from (by first | with_reducible exact K2.out | with_reducible exact K2.out.trans (Kp.alloc _ _) | with_reducible exact (K2.out.trans (Kp.alloc _ _)).trans (Kp.alloc _ _) | with_reducible exact ((K2.out.trans (Kp.alloc _ _)).trans (Kp.alloc _ _)).trans (Kp.alloc _ _) | with_reducible exact K2.out.trans (Kp.drew _) | with_reducible exact K2.out.trans (Kp.drewN _ _))).trans kk)
  clear kk
  clear c0 c1 c2 c3
  obtain ⟨c0, c1, c2, c3⟩ := HB.out w3 K3.out
  go_wp2_with fail
  refine (SN.out _ (K00.out.trans (by first | with_reducible exact K3.out | with_reducible exact K3.out.trans (Kp.alloc _ _) | with_reducible exact (K3.out.trans (Kp.alloc _ _)).trans (Kp.alloc _ _) | with_reducible exact ((K3.out.trans (Kp.alloc _ _)).trans (Kp.alloc _ _)).trans (Kp.alloc _ _) | with_reducible exact K3.out.trans (Kp.drew _) | with_reducible exact K3.out.trans (Kp.drewN _ _)))).mono ?_
  rintro e w4 ⟨rfl, kk⟩
  have K4 := Lib.hid ((show Kp W0 _ from (by first | with_reducible exact K3.out | with_reducible exact K3.out.trans (Kp.alloc _ _) | with_reducible exact (K3.out.trans (Kp.alloc _ _)).trans (Kp.alloc _ _) | with_reducible exact ((K3.out.trans (Kp.alloc _ _)).trans (Kp.alloc _ _)).trans (Kp.alloc _ _) | with_reducible exact K3.out.trans (Kp.drew _) | with_reducible exact K3.out.trans (Kp.drewN _ _))).trans kk)
  clear kk
  clear c0 c1 c2 c3
  obtain ⟨c0, c1, c2, c3⟩ := HB.out w4 K4.out
  go_wp2_with fail
  refine (RT.out _ (K00.out.trans (by first | with_reducible exact K4.out | with_reducible exact K4.out.trans (Kp.alloc _ _) | with_reducible exact (K4.out.trans (Kp.alloc _ _)).trans (Kp.alloc _ _) | with_reducible exact ((K4.out.trans (Kp.alloc _ _)).trans (Kp.alloc _ _)).trans (Kp.alloc _ _) | with_reducible exact K4.out.trans (Kp.drew _) | with_reducible exact K4.out.trans (Kp.drewN _ _)))).mono ?_
  rintro e w5 ⟨rfl, kk⟩
  have K5 := Lib.hid ((show Kp W0 _ from (by first | with_reducible exact K4.out | with_reducible exact K4.out.trans (Kp.alloc _ _) | with_reducible exact (K4.out.trans (Kp.alloc _ _)).trans (Kp.alloc _ _) | with_reducible exact ((K4.out.trans (Kp.alloc _ _)).trans (Kp.alloc _ _)).trans (Kp.alloc _ _) | with_reducible exact K4.out.trans (Kp.drew _) | with_reducible exact K4.out.trans (Kp.drewN _ _))).trans kk)
  clear kk
  clear c0 c1 c2 c3
  obtain ⟨c0, c1, c2, c3⟩ := HB.out w5 K5.out
  go_wp2
  all_goals go_ret
  all_goals exact ⟨rfl, K00.out.trans (K5.out.trans (Kp.alloc _ _))⟩
theorem pointBack_walk (p : PT) (t : ByteArray) (w : World) (h1 : -9223372036854775808 ≤ p.k) (h2 : p.k ≤ 9223372036854775807) (T : Tabs8 w) :
    Calls Tryd.prog 3 #[ptV p, .string t] w fun e w' => e = .returned (.bool true) ∧ Kp w w' := by
  by_cases hs : shortP p = true → ¬ (t.size : Int) ≤ 40
  · exact pback_0 p t w h1 h2 T hs
  · have a : shortP p = true := by
      rcases Bool.eq_false_or_eq_true (shortP p) with e | e
      · exact e
      · exact absurd (fun h => by rw [e] at h; cases h) hs
    have b : (t.size : Int) ≤ 40 := by
      by_cases c : (t.size : Int) ≤ 40
      · exact c
      · exact absurd (fun _ => c) hs
    rcases Bool.eq_false_or_eq_true (saneP p) with e | e
    · rcases Bool.eq_false_or_eq_true (readP t).2 with f | f
      · exact pback_11 p t w h1 h2 T a b e f
      · exact pback_10 p t w h1 h2 T a b e f
    · rcases Bool.eq_false_or_eq_true (readP t).2 with f | f
      · exact pback_01 p t w h1 h2 T a b e f
      · exact pback_00 p t w h1 h2 T a b e f
end Go.Proofs.YtbjnghmmfolaeaaDoor
