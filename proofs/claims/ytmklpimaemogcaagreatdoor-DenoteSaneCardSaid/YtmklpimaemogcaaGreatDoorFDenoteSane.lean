/-
  Joined: L15A, LDenoteSane.
-/
import Derived.Test.YtmklpimaemogcaaGreatDoorGDn
import Derived.Test.YtmklpimaemogcaaGreatDoorCards
import Derived.Test.YtmklpimaemogcaaGreatDoorTie
import Derived.WalkKit
import Derived.ProofKit
import Derived.OpenShut
import Derived.ShutString
import Derived.ChangeOld
import Derived.Below
import Derived.Test.YtmklpimaemogcaaGreatDoorGTr
import Derived.Deep.DeepHandedRow
import Derived.Lib.LaidTab
import Derived.Carry
namespace Go.Proofs.YtmklpimaemogcaaGreatDoor
open Go.RowKit
set_option linter.unusedVariables false
set_option linter.unusedSimpArgs false
theorem ptsCL_take {l : List ND} {i : Nat} (h : i < l.length) : ptsCL (l.take (i + 1)) = ptsCL (l.take i) + ptsC (nth l i) := by
  rw [nth_take h, ptsCL_append]
  simp [ptsCL]
set_option maxHeartbeats 16000000 in
set_option maxRecDepth 100000 in
theorem ptsc_step (w0 : World) (v : Value) (l : List ND) (hh : ∃ ad cp, v = .slice ad l.length cp ∧ (0 < l.length → ∃ b off, ad = some ⟨b, off, none⟩ ∧ ∀ i, i < l.length → ∃ vi, RowN w0 b (off + i * 8) (nth l i) vi ∧ NodesAt w0 vi (nth l i).l ∧ (fun v l => ∀ (k : Int) (p : PT) (a t : Bool) (w : World), Kp w0 w → cntL l ≤ 64 → Calls Tryz.prog 12 #[ndV (.mk k p a t l) v] w fun e w' => e = .returned (.int .i64 (ptsC (.mk k p a t l))) ∧ Kp w w') vi (nth l i).l)) :
    ∀ (k : Int) (p : PT) (a t : Bool) (w : World), Kp w0 w → cntL l ≤ 64 → Calls Tryz.prog 12 #[ndV (.mk k p a t l) v] w fun e w' => e = .returned (.int .i64 (ptsC (.mk k p a t l))) ∧ Kp w w' := by
  obtain ⟨ad, cp, rfl, hrow⟩ := hh
  intro k p a t w k0 hc
  obtain ⟨pk, y, m, q⟩ := p
  have ll : l.length ≤ 64 := by have := len_cntL l; omega
  have HR := Lib.hid hrow
  have K0 := Lib.hid k0
  have CA := Lib.hid (fun i (hi : i < l.length) => (show cntL (nth l i).l ≤ 64 by have := cnt_at hi; have := cntN_mk (nth l i); omega))
  have TK := Lib.hid (fun i (hi : i < l.length) => ptsCL_take hi)
  have LB := Lib.hid (fun i => show ptsCL (l.take i) ≤ 64 by
    have b := ptsCL_cnt (l.take i)
    have c := cntL_append (l.take i) (l.drop i)
    rw [List.take_append_drop] at c
    omega)
  have LN := Lib.hid (fun i (hi : i < l.length) => show ptsC (nth l i) ≤ 64 by
    have b := ptsC_cnt (nth l i)
    have c := cnt_at hi
    omega)
  have T0 := Lib.hid (show ptsCL (l.take 0) = 0 by rw [List.take_zero]; rfl)
  have TL := Lib.hid (show ptsCL (l.take l.length) = ptsCL l by rw [List.take_length])
  unfold ndV
  simp only [ND.k, ND.p, ND.a, ND.t, ND.l]
  clear hrow k0 hc
  by_cases hk : k = 2
  · subst hk
    have e : ptsC (.mk 2 ⟨pk, y, m, q⟩ a t l) = ptsCL l := by simp only [ptsC]; first | rw [if_pos trivial] | rw [if_pos rfl]
    rw [e]
    generalize ptsCL l = R at *
    clear e
    obtain ⟨W0, hW⟩ : ∃ x, x = w.alloc (.cells #[.int .i64 2, .int .i64 pk, .string y, .string m, .string q, .bool a, .bool t, .slice ad l.length cp] 26) := ⟨_, rfl⟩
    have kw : Kp w W0 := by rw [hW]; exact Kp.alloc _ _
    have gB : W0.heap[w.heap.size]? = some (.cells #[.int .i64 2, .int .i64 pk, .string y, .string m, .string q, .bool a, .bool t, .slice ad l.length cp] 26 (0, 0)) := by rw [hW]; exact heap_at _ _ _ rfl
    have GB := Lib.hid (fun w1 (q : Kp W0 w1) => heap_block q gB)
    have KW := Lib.hid kw
    have HW := Lib.hid hW
    have KR := Lib.hid (Kp.refl W0)
    clear kw gB hW
    go_enter Tryz.func12, Tryz.ntmps12
    go_wp2_with fail
    rw [← HW.out]
    obtain ⟨x0, x1, x2, x3, x4, x5, x6, x7⟩ := row8 (GB.out _ (Kp.refl _))
    go_wp2_with fail
    clear x0 x1 x2 x3 x4 x5 x6 x7
    go_loopw [3, 4] (fun s i ws => ∃ j n : Nat, j ≤ l.length ∧ n ≤ 64 ∧ i = .int .i64 j ∧ s = .int .i64 n ∧ Hid (ptsCL (l.take j) = n) ∧ Hid (Kp W0 ws)) (fun _ i _ => l.length - (intOf i).toNat)
    case atStart => exact ⟨0, 0, Nat.zero_le _, by omega, rfl, rfl, T0, KR⟩
    case round =>
      obtain ⟨j, n, hj, hn, rfl, rfl, SJ, KJ⟩ := hrel
      obtain ⟨x0, x1, x2, x3, x4, x5, x6, x7⟩ := row8 (GB.out _ KJ.out)
      by_cases hlt : j < l.length
      · obtain ⟨bk, off, rfl, hall⟩ := HR.out (by omega)
        obtain ⟨vi, hrow, hsub, ih⟩ := hall j hlt
        have kw0 : Kp w0 wr := K0.out.trans (KW.out.trans KJ.out)
        obtain ⟨e0, e1, e2, e3, e4, e5, e6, e7⟩ := hrow.kp kw0
        have cj := CA.out j hlt
        have tk := TK.out j hlt
        have lj := LN.out j hlt
        have lb := LB.out (j + 1)
        rw [tk, SJ.out] at lb
        rw [SJ.out] at tk
        obtain ⟨x, hx⟩ : ∃ x, nth l j = x := ⟨_, rfl⟩
        rw [hx] at e0 e1 e2 e3 e4 e5 e6 cj tk lj lb hsub ih
        have IX := fun w1 (k1 : Kp w0 w1) => ih x.k x.p x.a x.t w1 k1 cj
        rw [← eta_nd x] at IX
        obtain ⟨px, hpx⟩ : ∃ u, ptsC x = u := ⟨_, rfl⟩
        rw [hpx] at IX tk lj lb
        have TKH := Lib.hid tk
        clear hall hrow ih hx cj tk hpx
        obtain ⟨k1, ⟨pk1, y1, m1, q1⟩, a1, t1, l1⟩ := x
        simp only [ND.k, ND.p, ND.a, ND.t, ND.l] at e0 e1 e2 e3 e4 e5 e6 hsub
        obtain ⟨ad1, cp1, rfl⟩ := hsub.slice
        (try unfold ndV at IX)
        simp only [ND.k, ND.p, ND.a, ND.t, ND.l] at IX
        have IXH := Lib.hid (IX _ kw0)
        have z1 : (j : Int) < (l.length : Int) := by omega
        have z3 : (0 : Int) ≤ (j : Int) := by omega
        have HLT := Lib.hid hlt
        clear hsub IX kw0
        go_wp2_with fail
        refine IXH.out.mono ?_
        rintro e w6 ⟨rfl, k6⟩
        have K6 := Lib.hid (KJ.out.trans k6)
        clear k6 e0 e1 e2 e3 e4 e5 e6 e7 x0 x1 x2 x3 x4 x5 x6 x7
        go_wp2
        go_roundw
        case rel => exact ⟨j + 1, n + px, HLT.out, by omega, by go_num, by go_num, TKH, K6⟩
        case measure => have := HLT.out; simp [intOf]; omega
      · obtain rfl : j = l.length := by omega
        have e := SJ.out
        rw [TL.out] at e
        subst e
        go_wp2
        go_ret
        exact ⟨rfl, KW.out.trans KJ.out⟩
  · have e : ptsC (.mk k ⟨pk, y, m, q⟩ a t l) = 1 := by simp only [ptsC]; rw [if_neg hk]
    rw [e]
    have q1 : (k == 2) = false := beq_eq_false_iff_ne.2 hk
    have q2 : (k != 2) = true := by simp [hk]
    clear e
    go_enter Tryz.func12, Tryz.ntmps12
    go_wp2
    go_ret
    exact ⟨rfl, Kp.alloc _ _⟩
theorem ptsc_any (w0 : World) : ∀ {v : Value} {l : List ND}, NodesAt w0 v l → ∀ (k : Int) (p : PT) (a t : Bool) (w : World), Kp w0 w → cntL l ≤ 64 → Calls Tryz.prog 12 #[ndV (.mk k p a t l) v] w fun e w' => e = .returned (.int .i64 (ptsC (.mk k p a t l))) ∧ Kp w w' := by
  refine @NodesAt.ind w0 (fun v l => ∀ (k : Int) (p : PT) (a t : Bool) (w : World), Kp w0 w → cntL l ≤ 64 → Calls Tryz.prog 12 #[ndV (.mk k p a t l) v] w fun e w' => e = .returned (.int .i64 (ptsC (.mk k p a t l))) ∧ Kp w w') ?_
  intro v l hh
  exact ptsc_step w0 v l hh
set_option maxHeartbeats 16000000 in
set_option maxRecDepth 100000 in
theorem dsane_no (n : ND) (un : Value) (w : World) (hn : NodesAt w un n.l) (T : Tabs8 w) (hs : saneN saneP n = false) :
    Calls Tryz.prog 3 #[ndV n un] w fun e w' => e = .returned (.bool true) ∧ Kp w w' := by
  have AW := Lib.hid (fun w1 (kk : Kp w w1) => awake15 w1 (T.kp kk))
  have SM := Lib.hid (fun w1 (kk : Kp w w1) => small_any n un w1 (hn.kp kk))
  have OF := Lib.hid (fun w1 (kk : Kp w w1) => dnOf_any n un w1 (hn.kp kk) (T.kp kk))
  have SN := Lib.hid (fun w1 (kk : Kp w w1) => tSaneG_any n un w1 (hn.kp kk) (T.kp kk).2.1)
  have hE : ofE n = 3 := by unfold ofE; rw [hs]; rfl
  have hS : ofS n = [] := by unfold ofS; rw [hs]; rfl
  rw [hE, hS] at OF
  rw [hs] at SN
  clear hE hS hs T
  obtain ⟨adn, cpn, rfl⟩ := hn.slice
  obtain ⟨kn, pkn, yn, mn, qn, an, tn, ln, rfl⟩ := nd_dest n
  unfold ndV at *
  simp only [ND.k, ND.p, ND.a, ND.t, ND.l] at *
  obtain ⟨W0, hW⟩ : ∃ W0, W0 = w.alloc (.cells #[.int .i64 kn, .int .i64 pkn, .string yn, .string mn, .string qn, .bool an, .bool tn, .slice adn ln.length cpn] 26) := ⟨_, rfl⟩
  have K00 := Lib.hid (show Kp w W0 by rw [hW]; exact Kp.alloc _ _)
  have HB := Lib.hid (fun w1 (k : Kp W0 w1) => show w1.cell? ⟨w.heap.size, 0, none⟩ = some (.int .i64 kn) ∧ w1.cell? ⟨w.heap.size, 1, none⟩ = some (.int .i64 pkn) ∧ w1.cell? ⟨w.heap.size, 2, none⟩ = some (.string yn) ∧ w1.cell? ⟨w.heap.size, 3, none⟩ = some (.string mn) ∧ w1.cell? ⟨w.heap.size, 4, none⟩ = some (.string qn) ∧ w1.cell? ⟨w.heap.size, 5, none⟩ = some (.bool an) ∧ w1.cell? ⟨w.heap.size, 6, none⟩ = some (.bool tn) ∧ w1.cell? ⟨w.heap.size, 7, none⟩ = some (.slice adn ln.length cpn) from ⟨cell_up k (show W0.cell? ⟨w.heap.size, 0, none⟩ = some (.int .i64 kn) by rw [hW]; simp), cell_up k (show W0.cell? ⟨w.heap.size, 1, none⟩ = some (.int .i64 pkn) by rw [hW]; simp), cell_up k (show W0.cell? ⟨w.heap.size, 2, none⟩ = some (.string yn) by rw [hW]; simp), cell_up k (show W0.cell? ⟨w.heap.size, 3, none⟩ = some (.string mn) by rw [hW]; simp), cell_up k (show W0.cell? ⟨w.heap.size, 4, none⟩ = some (.string qn) by rw [hW]; simp), cell_up k (show W0.cell? ⟨w.heap.size, 5, none⟩ = some (.bool an) by rw [hW]; simp), cell_up k (show W0.cell? ⟨w.heap.size, 6, none⟩ = some (.bool tn) by rw [hW]; simp), cell_up k (show W0.cell? ⟨w.heap.size, 7, none⟩ = some (.slice adn ln.length cpn) by rw [hW]; simp)⟩)
  obtain ⟨c0, c1, c2, c3, c4, c5, c6, c7⟩ := HB.out W0 (Kp.refl _)
  have K0 := Lib.hid (Kp.refl W0)
  have HW := Lib.hid hW
  clear hW
  go_enter Tryz.func3, Tryz.ntmps3
  go_wp2_with fail
  rw [← HW.out]
  refine (AW.out _ (K00.out.trans (by first | with_reducible exact K0.out | with_reducible exact K0.out.trans (Kp.alloc _ _) | with_reducible exact (K0.out.trans (Kp.alloc _ _)).trans (Kp.alloc _ _) | with_reducible exact ((K0.out.trans (Kp.alloc _ _)).trans (Kp.alloc _ _)).trans (Kp.alloc _ _) | with_reducible exact K0.out.trans (Kp.drew _) | with_reducible exact K0.out.trans (Kp.drewN _ _)))).mono ?_
  rintro e w1 ⟨rfl, kk⟩
  have K1 := Lib.hid ((show Kp W0 _ from (by first | with_reducible exact K0.out | with_reducible exact K0.out.trans (Kp.alloc _ _) | with_reducible exact (K0.out.trans (Kp.alloc _ _)).trans (Kp.alloc _ _) | with_reducible exact ((K0.out.trans (Kp.alloc _ _)).trans (Kp.alloc _ _)).trans (Kp.alloc _ _) | with_reducible exact K0.out.trans (Kp.drew _) | with_reducible exact K0.out.trans (Kp.drewN _ _))).trans kk)
  clear kk
  clear c0 c1 c2 c3 c4 c5 c6 c7
  obtain ⟨c0, c1, c2, c3, c4, c5, c6, c7⟩ := HB.out w1 K1.out
  go_wp2_with fail
  refine (SM.out _ (K00.out.trans (by first | with_reducible exact K1.out | with_reducible exact K1.out.trans (Kp.alloc _ _) | with_reducible exact (K1.out.trans (Kp.alloc _ _)).trans (Kp.alloc _ _) | with_reducible exact ((K1.out.trans (Kp.alloc _ _)).trans (Kp.alloc _ _)).trans (Kp.alloc _ _) | with_reducible exact K1.out.trans (Kp.drew _) | with_reducible exact K1.out.trans (Kp.drewN _ _)))).mono ?_
  rintro e w2 ⟨⟨b, hb, rfl⟩, kk⟩
  have K2 := Lib.hid ((show Kp W0 _ from (by first | with_reducible exact K1.out | with_reducible exact K1.out.trans (Kp.alloc _ _) | with_reducible exact (K1.out.trans (Kp.alloc _ _)).trans (Kp.alloc _ _) | with_reducible exact ((K1.out.trans (Kp.alloc _ _)).trans (Kp.alloc _ _)).trans (Kp.alloc _ _) | with_reducible exact K1.out.trans (Kp.drew _) | with_reducible exact K1.out.trans (Kp.drewN _ _))).trans kk)
  clear kk c0 c1 c2 c3 c4 c5 c6 c7
  obtain ⟨c0, c1, c2, c3, c4, c5, c6, c7⟩ := HB.out w2 K2.out
  rcases hb with rfl | rfl
  rotate_left
  · go_wp2
    go_ret
    exact ⟨rfl, K00.out.trans K2.out⟩
  go_wp2_with fail
  refine (OF.out _ (K00.out.trans (by first | with_reducible exact K2.out | with_reducible exact K2.out.trans (Kp.alloc _ _) | with_reducible exact (K2.out.trans (Kp.alloc _ _)).trans (Kp.alloc _ _) | with_reducible exact ((K2.out.trans (Kp.alloc _ _)).trans (Kp.alloc _ _)).trans (Kp.alloc _ _) | with_reducible exact K2.out.trans (Kp.drew _) | with_reducible exact K2.out.trans (Kp.drewN _ _)))).mono ?_
  rintro e w3 ⟨v3, rfl, h3, kk⟩
  have K3 := Lib.hid ((show Kp W0 _ from (by first | with_reducible exact K2.out | with_reducible exact K2.out.trans (Kp.alloc _ _) | with_reducible exact (K2.out.trans (Kp.alloc _ _)).trans (Kp.alloc _ _) | with_reducible exact ((K2.out.trans (Kp.alloc _ _)).trans (Kp.alloc _ _)).trans (Kp.alloc _ _) | with_reducible exact K2.out.trans (Kp.drew _) | with_reducible exact K2.out.trans (Kp.drewN _ _))).trans kk)
  obtain ⟨ad3, cp3, rfl⟩ := h3.slice
  clear kk h3
  clear c0 c1 c2 c3 c4 c5 c6 c7
  obtain ⟨c0, c1, c2, c3, c4, c5, c6, c7⟩ := HB.out w3 K3.out
  go_wp2_with fail
  refine (SN.out _ (K00.out.trans (by first | with_reducible exact K3.out | with_reducible exact K3.out.trans (Kp.alloc _ _) | with_reducible exact (K3.out.trans (Kp.alloc _ _)).trans (Kp.alloc _ _) | with_reducible exact ((K3.out.trans (Kp.alloc _ _)).trans (Kp.alloc _ _)).trans (Kp.alloc _ _) | with_reducible exact K3.out.trans (Kp.drew _) | with_reducible exact K3.out.trans (Kp.drewN _ _)))).mono ?_
  rintro e w4 ⟨rfl, kk⟩
  have K4 := Lib.hid ((show Kp W0 _ from (by first | with_reducible exact K3.out | with_reducible exact K3.out.trans (Kp.alloc _ _) | with_reducible exact (K3.out.trans (Kp.alloc _ _)).trans (Kp.alloc _ _) | with_reducible exact ((K3.out.trans (Kp.alloc _ _)).trans (Kp.alloc _ _)).trans (Kp.alloc _ _) | with_reducible exact K3.out.trans (Kp.drew _) | with_reducible exact K3.out.trans (Kp.drewN _ _))).trans kk)
  clear kk
  clear c0 c1 c2 c3 c4 c5 c6 c7
  obtain ⟨c0, c1, c2, c3, c4, c5, c6, c7⟩ := HB.out w4 K4.out
  go_wp2
  go_ret
  exact ⟨rfl, K00.out.trans K4.out⟩
set_option maxHeartbeats 16000000 in
set_option maxRecDepth 100000 in
theorem dsane_wide (n : ND) (un : Value) (w : World) (hn : NodesAt w un n.l) (T : Tabs8 w) (hs : saneN saneP n = true) (hd : dnE n = 8) :
    Calls Tryz.prog 3 #[ndV n un] w fun e w' => e = .returned (.bool true) ∧ Kp w w' := by
  have AW := Lib.hid (fun w1 (kk : Kp w w1) => awake15 w1 (T.kp kk))
  have SM := Lib.hid (fun w1 (kk : Kp w w1) => small_any n un w1 (hn.kp kk))
  have OF := Lib.hid (fun w1 (kk : Kp w w1) => dnOf_any n un w1 (hn.kp kk) (T.kp kk))
  have SN := Lib.hid (fun w1 (kk : Kp w w1) => tSaneG_any n un w1 (hn.kp kk) (T.kp kk).2.1)
  have hE : ofE n = 8 := by unfold ofE; rw [if_pos hs]; exact hd
  have hS : ofS n = [] := by unfold ofS; rw [if_neg (by rw [hd]; omega)]
  rw [hE, hS] at OF
  rw [hs] at SN
  clear hE hS hs hd T
  obtain ⟨adn, cpn, rfl⟩ := hn.slice
  obtain ⟨kn, pkn, yn, mn, qn, an, tn, ln, rfl⟩ := nd_dest n
  unfold ndV at *
  simp only [ND.k, ND.p, ND.a, ND.t, ND.l] at *
  obtain ⟨W0, hW⟩ : ∃ W0, W0 = w.alloc (.cells #[.int .i64 kn, .int .i64 pkn, .string yn, .string mn, .string qn, .bool an, .bool tn, .slice adn ln.length cpn] 26) := ⟨_, rfl⟩
  have K00 := Lib.hid (show Kp w W0 by rw [hW]; exact Kp.alloc _ _)
  have HB := Lib.hid (fun w1 (k : Kp W0 w1) => show w1.cell? ⟨w.heap.size, 0, none⟩ = some (.int .i64 kn) ∧ w1.cell? ⟨w.heap.size, 1, none⟩ = some (.int .i64 pkn) ∧ w1.cell? ⟨w.heap.size, 2, none⟩ = some (.string yn) ∧ w1.cell? ⟨w.heap.size, 3, none⟩ = some (.string mn) ∧ w1.cell? ⟨w.heap.size, 4, none⟩ = some (.string qn) ∧ w1.cell? ⟨w.heap.size, 5, none⟩ = some (.bool an) ∧ w1.cell? ⟨w.heap.size, 6, none⟩ = some (.bool tn) ∧ w1.cell? ⟨w.heap.size, 7, none⟩ = some (.slice adn ln.length cpn) from ⟨cell_up k (show W0.cell? ⟨w.heap.size, 0, none⟩ = some (.int .i64 kn) by rw [hW]; simp), cell_up k (show W0.cell? ⟨w.heap.size, 1, none⟩ = some (.int .i64 pkn) by rw [hW]; simp), cell_up k (show W0.cell? ⟨w.heap.size, 2, none⟩ = some (.string yn) by rw [hW]; simp), cell_up k (show W0.cell? ⟨w.heap.size, 3, none⟩ = some (.string mn) by rw [hW]; simp), cell_up k (show W0.cell? ⟨w.heap.size, 4, none⟩ = some (.string qn) by rw [hW]; simp), cell_up k (show W0.cell? ⟨w.heap.size, 5, none⟩ = some (.bool an) by rw [hW]; simp), cell_up k (show W0.cell? ⟨w.heap.size, 6, none⟩ = some (.bool tn) by rw [hW]; simp), cell_up k (show W0.cell? ⟨w.heap.size, 7, none⟩ = some (.slice adn ln.length cpn) by rw [hW]; simp)⟩)
  obtain ⟨c0, c1, c2, c3, c4, c5, c6, c7⟩ := HB.out W0 (Kp.refl _)
  have K0 := Lib.hid (Kp.refl W0)
  have HW := Lib.hid hW
  clear hW
  go_enter Tryz.func3, Tryz.ntmps3
  go_wp2_with fail
  rw [← HW.out]
  refine (AW.out _ (K00.out.trans (by first | with_reducible exact K0.out | with_reducible exact K0.out.trans (Kp.alloc _ _) | with_reducible exact (K0.out.trans (Kp.alloc _ _)).trans (Kp.alloc _ _) | with_reducible exact ((K0.out.trans (Kp.alloc _ _)).trans (Kp.alloc _ _)).trans (Kp.alloc _ _) | with_reducible exact K0.out.trans (Kp.drew _) | with_reducible exact K0.out.trans (Kp.drewN _ _)))).mono ?_
  rintro e w1 ⟨rfl, kk⟩
  have K1 := Lib.hid ((show Kp W0 _ from (by first | with_reducible exact K0.out | with_reducible exact K0.out.trans (Kp.alloc _ _) | with_reducible exact (K0.out.trans (Kp.alloc _ _)).trans (Kp.alloc _ _) | with_reducible exact ((K0.out.trans (Kp.alloc _ _)).trans (Kp.alloc _ _)).trans (Kp.alloc _ _) | with_reducible exact K0.out.trans (Kp.drew _) | with_reducible exact K0.out.trans (Kp.drewN _ _))).trans kk)
  clear kk
  clear c0 c1 c2 c3 c4 c5 c6 c7
  obtain ⟨c0, c1, c2, c3, c4, c5, c6, c7⟩ := HB.out w1 K1.out
  go_wp2_with fail
  refine (SM.out _ (K00.out.trans (by first | with_reducible exact K1.out | with_reducible exact K1.out.trans (Kp.alloc _ _) | with_reducible exact (K1.out.trans (Kp.alloc _ _)).trans (Kp.alloc _ _) | with_reducible exact ((K1.out.trans (Kp.alloc _ _)).trans (Kp.alloc _ _)).trans (Kp.alloc _ _) | with_reducible exact K1.out.trans (Kp.drew _) | with_reducible exact K1.out.trans (Kp.drewN _ _)))).mono ?_
  rintro e w2 ⟨⟨b, hb, rfl⟩, kk⟩
  have K2 := Lib.hid ((show Kp W0 _ from (by first | with_reducible exact K1.out | with_reducible exact K1.out.trans (Kp.alloc _ _) | with_reducible exact (K1.out.trans (Kp.alloc _ _)).trans (Kp.alloc _ _) | with_reducible exact ((K1.out.trans (Kp.alloc _ _)).trans (Kp.alloc _ _)).trans (Kp.alloc _ _) | with_reducible exact K1.out.trans (Kp.drew _) | with_reducible exact K1.out.trans (Kp.drewN _ _))).trans kk)
  clear kk c0 c1 c2 c3 c4 c5 c6 c7
  obtain ⟨c0, c1, c2, c3, c4, c5, c6, c7⟩ := HB.out w2 K2.out
  rcases hb with rfl | rfl
  rotate_left
  · go_wp2
    go_ret
    exact ⟨rfl, K00.out.trans K2.out⟩
  go_wp2_with fail
  refine (OF.out _ (K00.out.trans (by first | with_reducible exact K2.out | with_reducible exact K2.out.trans (Kp.alloc _ _) | with_reducible exact (K2.out.trans (Kp.alloc _ _)).trans (Kp.alloc _ _) | with_reducible exact ((K2.out.trans (Kp.alloc _ _)).trans (Kp.alloc _ _)).trans (Kp.alloc _ _) | with_reducible exact K2.out.trans (Kp.drew _) | with_reducible exact K2.out.trans (Kp.drewN _ _)))).mono ?_
  rintro e w3 ⟨v3, rfl, h3, kk⟩
  have K3 := Lib.hid ((show Kp W0 _ from (by first | with_reducible exact K2.out | with_reducible exact K2.out.trans (Kp.alloc _ _) | with_reducible exact (K2.out.trans (Kp.alloc _ _)).trans (Kp.alloc _ _) | with_reducible exact ((K2.out.trans (Kp.alloc _ _)).trans (Kp.alloc _ _)).trans (Kp.alloc _ _) | with_reducible exact K2.out.trans (Kp.drew _) | with_reducible exact K2.out.trans (Kp.drewN _ _))).trans kk)
  obtain ⟨ad3, cp3, rfl⟩ := h3.slice
  clear kk h3
  clear c0 c1 c2 c3 c4 c5 c6 c7
  obtain ⟨c0, c1, c2, c3, c4, c5, c6, c7⟩ := HB.out w3 K3.out
  go_wp2_with fail
  refine (SN.out _ (K00.out.trans (by first | with_reducible exact K3.out | with_reducible exact K3.out.trans (Kp.alloc _ _) | with_reducible exact (K3.out.trans (Kp.alloc _ _)).trans (Kp.alloc _ _) | with_reducible exact ((K3.out.trans (Kp.alloc _ _)).trans (Kp.alloc _ _)).trans (Kp.alloc _ _) | with_reducible exact K3.out.trans (Kp.drew _) | with_reducible exact K3.out.trans (Kp.drewN _ _)))).mono ?_
  rintro e w4 ⟨rfl, kk⟩
  have K4 := Lib.hid ((show Kp W0 _ from (by first | with_reducible exact K3.out | with_reducible exact K3.out.trans (Kp.alloc _ _) | with_reducible exact (K3.out.trans (Kp.alloc _ _)).trans (Kp.alloc _ _) | with_reducible exact ((K3.out.trans (Kp.alloc _ _)).trans (Kp.alloc _ _)).trans (Kp.alloc _ _) | with_reducible exact K3.out.trans (Kp.drew _) | with_reducible exact K3.out.trans (Kp.drewN _ _))).trans kk)
  clear kk
  clear c0 c1 c2 c3 c4 c5 c6 c7
  obtain ⟨c0, c1, c2, c3, c4, c5, c6, c7⟩ := HB.out w4 K4.out
  go_wp2
  go_ret
  exact ⟨rfl, K00.out.trans K4.out⟩
set_option maxHeartbeats 16000000 in
set_option maxRecDepth 100000 in
theorem dsane_yes (n : ND) (un : Value) (w : World) (hn : NodesAt w un n.l) (T : Tabs8 w) (hs : saneN saneP n = true) (hd : dnE n = 0) :
    Calls Tryz.prog 3 #[ndV n un] w fun e w' => e = .returned (.bool true) ∧ Kp w w' := by
  have AW := Lib.hid (fun w1 (kk : Kp w w1) => awake15 w1 (T.kp kk))
  have SM := Lib.hid (fun w1 (kk : Kp w w1) => small_any n un w1 (hn.kp kk))
  have OF := Lib.hid (fun w1 (kk : Kp w w1) => dnOf_any n un w1 (hn.kp kk) (T.kp kk))
  have SN := Lib.hid (fun w1 (kk : Kp w w1) => tSaneG_any n un w1 (hn.kp kk) (T.kp kk).2.1)
  have hE : ofE n = 0 := by unfold ofE; rw [if_pos hs]; exact hd
  have hS : ofS n = dnS n := by unfold ofS; rw [if_pos ⟨hs, hd⟩]
  rw [hE, hS] at OF
  have hr := sane_rightD hs
  have cn : cntL n.l ≤ 64 := by have := sane_cntD hs; have := cntN_mk n; omega
  have CT := Lib.hid (fun w1 (kk : Kp w w1) => ptsc_any w hn n.k n.p n.a n.t w1 kk cn)
  rw [← eta_nd n, ← dnS_len n] at CT
  have LO := dnS_ok hr hd
  have l6 : (dnS n).length ≤ 64 := by rw [dnS_len]; have := ptsC_cnt n; have := sane_cntD hs; omega
  generalize dnS n = F at *
  have LS := Lib.hid (fun i (hi : i < F.length) va vb w1 (ra : RunsAt w1 va (lat F i).a) (rb : RunsAt w1 vb (lat F i).b) (kk : Kp w w1) => by
    have o1 := LO _ (lat_mem hi)
    have o2 := lsOk_of LO _ (lat_mem hi)
    have c := leafSane_any (lat F i) va vb w1 ra rb o2.1 o2.2.1 (by have := o1.na; omega) (by have := o1.nb; omega) (T.kp kk).1.2
    rw [o1.sane] at c
    exact c)
  have HL := Lib.hid LO
  rw [hs] at SN
  clear hE hS hs hd T hr cn LO
  obtain ⟨adn, cpn, rfl⟩ := hn.slice
  obtain ⟨kn, pkn, yn, mn, qn, an, tn, ln, rfl⟩ := nd_dest n
  unfold ndV at *
  simp only [ND.k, ND.p, ND.a, ND.t, ND.l] at *
  obtain ⟨W0, hW⟩ : ∃ W0, W0 = w.alloc (.cells #[.int .i64 kn, .int .i64 pkn, .string yn, .string mn, .string qn, .bool an, .bool tn, .slice adn ln.length cpn] 26) := ⟨_, rfl⟩
  have K00 := Lib.hid (show Kp w W0 by rw [hW]; exact Kp.alloc _ _)
  have HB := Lib.hid (fun w1 (k : Kp W0 w1) => show w1.cell? ⟨w.heap.size, 0, none⟩ = some (.int .i64 kn) ∧ w1.cell? ⟨w.heap.size, 1, none⟩ = some (.int .i64 pkn) ∧ w1.cell? ⟨w.heap.size, 2, none⟩ = some (.string yn) ∧ w1.cell? ⟨w.heap.size, 3, none⟩ = some (.string mn) ∧ w1.cell? ⟨w.heap.size, 4, none⟩ = some (.string qn) ∧ w1.cell? ⟨w.heap.size, 5, none⟩ = some (.bool an) ∧ w1.cell? ⟨w.heap.size, 6, none⟩ = some (.bool tn) ∧ w1.cell? ⟨w.heap.size, 7, none⟩ = some (.slice adn ln.length cpn) from ⟨cell_up k (show W0.cell? ⟨w.heap.size, 0, none⟩ = some (.int .i64 kn) by rw [hW]; simp), cell_up k (show W0.cell? ⟨w.heap.size, 1, none⟩ = some (.int .i64 pkn) by rw [hW]; simp), cell_up k (show W0.cell? ⟨w.heap.size, 2, none⟩ = some (.string yn) by rw [hW]; simp), cell_up k (show W0.cell? ⟨w.heap.size, 3, none⟩ = some (.string mn) by rw [hW]; simp), cell_up k (show W0.cell? ⟨w.heap.size, 4, none⟩ = some (.string qn) by rw [hW]; simp), cell_up k (show W0.cell? ⟨w.heap.size, 5, none⟩ = some (.bool an) by rw [hW]; simp), cell_up k (show W0.cell? ⟨w.heap.size, 6, none⟩ = some (.bool tn) by rw [hW]; simp), cell_up k (show W0.cell? ⟨w.heap.size, 7, none⟩ = some (.slice adn ln.length cpn) by rw [hW]; simp)⟩)
  obtain ⟨c0, c1, c2, c3, c4, c5, c6, c7⟩ := HB.out W0 (Kp.refl _)
  have K0 := Lib.hid (Kp.refl W0)
  have HW := Lib.hid hW
  clear hW
  go_enter Tryz.func3, Tryz.ntmps3
  go_wp2_with fail
  rw [← HW.out]
  refine (AW.out _ (K00.out.trans (by first | with_reducible exact K0.out | with_reducible exact K0.out.trans (Kp.alloc _ _) | with_reducible exact (K0.out.trans (Kp.alloc _ _)).trans (Kp.alloc _ _) | with_reducible exact ((K0.out.trans (Kp.alloc _ _)).trans (Kp.alloc _ _)).trans (Kp.alloc _ _) | with_reducible exact K0.out.trans (Kp.drew _) | with_reducible exact K0.out.trans (Kp.drewN _ _)))).mono ?_
  rintro e w1 ⟨rfl, kk⟩
  have K1 := Lib.hid ((show Kp W0 _ from (by first | with_reducible exact K0.out | with_reducible exact K0.out.trans (Kp.alloc _ _) | with_reducible exact (K0.out.trans (Kp.alloc _ _)).trans (Kp.alloc _ _) | with_reducible exact ((K0.out.trans (Kp.alloc _ _)).trans (Kp.alloc _ _)).trans (Kp.alloc _ _) | with_reducible exact K0.out.trans (Kp.drew _) | with_reducible exact K0.out.trans (Kp.drewN _ _))).trans kk)
  clear kk
  clear c0 c1 c2 c3 c4 c5 c6 c7
  obtain ⟨c0, c1, c2, c3, c4, c5, c6, c7⟩ := HB.out w1 K1.out
  go_wp2_with fail
  refine (SM.out _ (K00.out.trans (by first | with_reducible exact K1.out | with_reducible exact K1.out.trans (Kp.alloc _ _) | with_reducible exact (K1.out.trans (Kp.alloc _ _)).trans (Kp.alloc _ _) | with_reducible exact ((K1.out.trans (Kp.alloc _ _)).trans (Kp.alloc _ _)).trans (Kp.alloc _ _) | with_reducible exact K1.out.trans (Kp.drew _) | with_reducible exact K1.out.trans (Kp.drewN _ _)))).mono ?_
  rintro e w2 ⟨⟨b, hb, rfl⟩, kk⟩
  have K2 := Lib.hid ((show Kp W0 _ from (by first | with_reducible exact K1.out | with_reducible exact K1.out.trans (Kp.alloc _ _) | with_reducible exact (K1.out.trans (Kp.alloc _ _)).trans (Kp.alloc _ _) | with_reducible exact ((K1.out.trans (Kp.alloc _ _)).trans (Kp.alloc _ _)).trans (Kp.alloc _ _) | with_reducible exact K1.out.trans (Kp.drew _) | with_reducible exact K1.out.trans (Kp.drewN _ _))).trans kk)
  clear kk c0 c1 c2 c3 c4 c5 c6 c7
  obtain ⟨c0, c1, c2, c3, c4, c5, c6, c7⟩ := HB.out w2 K2.out
  rcases hb with rfl | rfl
  rotate_left
  · go_wp2
    go_ret
    exact ⟨rfl, K00.out.trans K2.out⟩
  go_wp2_with fail
  refine (OF.out _ (K00.out.trans (by first | with_reducible exact K2.out | with_reducible exact K2.out.trans (Kp.alloc _ _) | with_reducible exact (K2.out.trans (Kp.alloc _ _)).trans (Kp.alloc _ _) | with_reducible exact ((K2.out.trans (Kp.alloc _ _)).trans (Kp.alloc _ _)).trans (Kp.alloc _ _) | with_reducible exact K2.out.trans (Kp.drew _) | with_reducible exact K2.out.trans (Kp.drewN _ _)))).mono ?_
  rintro e w3 ⟨v3, rfl, h3, kk⟩
  have K3 := Lib.hid ((show Kp W0 _ from (by first | with_reducible exact K2.out | with_reducible exact K2.out.trans (Kp.alloc _ _) | with_reducible exact (K2.out.trans (Kp.alloc _ _)).trans (Kp.alloc _ _) | with_reducible exact ((K2.out.trans (Kp.alloc _ _)).trans (Kp.alloc _ _)).trans (Kp.alloc _ _) | with_reducible exact K2.out.trans (Kp.drew _) | with_reducible exact K2.out.trans (Kp.drewN _ _))).trans kk)
  have HV := Lib.hid h3
  obtain ⟨ad3, cp3, rfl⟩ := h3.slice
  clear kk h3
  clear c0 c1 c2 c3 c4 c5 c6 c7
  obtain ⟨c0, c1, c2, c3, c4, c5, c6, c7⟩ := HB.out w3 K3.out
  go_wp2_with fail
  refine (SN.out _ (K00.out.trans (by first | with_reducible exact K3.out | with_reducible exact K3.out.trans (Kp.alloc _ _) | with_reducible exact (K3.out.trans (Kp.alloc _ _)).trans (Kp.alloc _ _) | with_reducible exact ((K3.out.trans (Kp.alloc _ _)).trans (Kp.alloc _ _)).trans (Kp.alloc _ _) | with_reducible exact K3.out.trans (Kp.drew _) | with_reducible exact K3.out.trans (Kp.drewN _ _)))).mono ?_
  rintro e w4 ⟨rfl, kk⟩
  have K4 := Lib.hid ((show Kp W0 _ from (by first | with_reducible exact K3.out | with_reducible exact K3.out.trans (Kp.alloc _ _) | with_reducible exact (K3.out.trans (Kp.alloc _ _)).trans (Kp.alloc _ _) | with_reducible exact ((K3.out.trans (Kp.alloc _ _)).trans (Kp.alloc _ _)).trans (Kp.alloc _ _) | with_reducible exact K3.out.trans (Kp.drew _) | with_reducible exact K3.out.trans (Kp.drewN _ _))).trans kk)
  have HV4 := Lib.hid (HV.out.kp kk)
  clear kk HV
  clear c0 c1 c2 c3 c4 c5 c6 c7
  obtain ⟨c0, c1, c2, c3, c4, c5, c6, c7⟩ := HB.out w4 K4.out
  go_wp2
  go_loopw [6] (fun i ws => ∃ k : Nat, k ≤ F.length ∧ i = .int .i64 k ∧ Hid (Kp w4 ws)) (fun i _ => F.length - (intOf i).toNat)
  case atStart => exact ⟨0, Nat.zero_le _, rfl, Lib.hid (Kp.refl w4)⟩
  case round =>
    clear c0 c1 c2 c3 c4 c5 c6 c7
    obtain ⟨k, hk, rfl, J⟩ := hrel
    by_cases hlt : k < F.length
    · rcases HV4.out.kp J.out with ⟨_, _, _, e⟩ | ⟨b0, off, cap, ev, hc, hmx, hx⟩
      · rw [e] at hlt; simp at hlt
      cases ev
      obtain ⟨va, vb, d0, d1, d2, d3, ra, rb⟩ := hx k hlt
      have LOK := HL.out _ (lat_mem hlt)
      obtain ⟨f, hf⟩ : ∃ f, lat F k = f := ⟨_, rfl⟩
      rw [hf] at d0 d1 ra rb
      (try rw [hf] at LOK)
      obtain ⟨sp, u, a, b⟩ := f
      simp only at d0 d1 ra rb
      (try simp only at LOK)
      obtain ⟨aa, ca, rfl⟩ := ra.slice
      obtain ⟨ab, cb, rfl⟩ := rb.slice
      have HF := Lib.hid hf
      have z1 : (k : Int) < (F.length : Int) := by omega
      have z2 : (0 : Int) ≤ (k : Int) := by omega
      clear hx hc hmx hf
      have LSC := Lib.hid (LS.out k hlt)
      rw [HF.out] at LSC
      have C := Lib.hid (LSC.out _ _ wr ra rb (K00.out.trans (K4.out.trans J.out)))
      unfold leafV at C
      simp only at C
      have HLT := Lib.hid hlt
      clear ra rb LSC
      go_wp2_with fail
      refine C.out.mono ?_
      rintro e w5 ⟨rfl, kk⟩
      have J1 := Lib.hid (J.out.trans kk)
      clear kk d0 d1 d2 d3
      go_wp2
      go_roundw
      case rel => exact ⟨k + 1, HLT.out, by go_num, J1⟩
      case measure => have := HLT.out; simp [intOf]; omega
    · obtain rfl : k = F.length := by omega
      have K5 := Lib.hid (K4.out.trans J.out)
      obtain ⟨c0, c1, c2, c3, c4, c5, c6, c7⟩ := HB.out wr K5.out
      go_wp2_with fail
      refine (CT.out _ (K00.out.trans K5.out)).mono ?_
      rintro e w6 ⟨rfl, kk⟩
      have K6 := Lib.hid (K5.out.trans kk)
      clear kk c0 c1 c2 c3 c4 c5 c6 c7
      go_wp2
      go_ret
      exact ⟨rfl, K00.out.trans K6.out⟩
theorem denoteSane_walk (n : ND) (un : Value) (w : World) (hn : NodesAt w un n.l) (T : Tabs8 w) :
    Calls Tryz.prog 3 #[ndV n un] w fun e w' => e = .returned (.bool true) ∧ Kp w w' := by
  rcases Bool.eq_false_or_eq_true (saneN saneP n) with hs | hs
  · rcases dnE_cases (sane_rightD hs) with hd | hd
    · exact dsane_yes n un w hn T hs hd
    · exact dsane_wide n un w hn T hs hd
  · exact dsane_no n un w hn T hs
end Go.Proofs.YtmklpimaemogcaaGreatDoor

namespace Go.Proofs.YtmklpimaemogcaaGreatDoor.lawDenoteSane
open Go.ChangeShapes Go.WideShapes Go.ChangeAt Go.RowKit
open Go.ChangeMaps (open_string shut_string)
set_option linter.unusedVariables false

theorem own : ownKnob Tryz.prog.godebug = none := by kernel_rfl
theorem laidOut : laidOutB Tryz.prog = true := by kernel_rfl

/-- A world for the witness: the settled one, each table holding what its initialiser lays. -/
noncomputable def laidWorld (os : Os) : World :=
  { World.holding Tryz.prog os ⟨#[], #[], []⟩ with heap := (((((World.holding Tryz.prog os ⟨#[], #[], []⟩).heap.modify 3 fun
      | .cells _ t frozen => .cells #[.int .i64 0, .int .i64 31, .int .i64 28, .int .i64 31, .int .i64 30, .int .i64 31, .int .i64 30, .int .i64 31, .int .i64 31, .int .i64 30, .int .i64 31, .int .i64 30, .int .i64 31] t frozen
      | o => o).modify 0 fun
      | .cells _ t frozen => .cells #[.int .i64 3652425, .int .i64 120000, .int .i64 40000, .int .i64 10000, .int .i64 1000, .int .i64 100] t frozen
      | o => o).modify 1 fun
      | .cells _ t frozen => .cells #[.int .i64 4, .int .i64 2, .int .i64 2, .int .i64 12, .string ⟨#[]⟩, .int .i64 4, .int .i64 2, .int .i64 0, .int .i64 12, .string ⟨#[]⟩, .int .i64 4, .int .i64 1, .int .i64 0, .int .i64 4, .string ⟨#[]⟩, .int .i64 4, .int .i64 0, .int .i64 0, .int .i64 0, .string ⟨#[]⟩, .int .i64 3, .int .i64 0, .int .i64 0, .int .i64 0, .string ⟨#[100]⟩, .int .i64 2, .int .i64 0, .int .i64 0, .int .i64 0, .string ⟨#[99]⟩] t frozen
      | o => o).modify 2 fun
      | .cells _ t frozen => .cells #[.int .i64 3, .int .i64 1, .int .i64 1, .int .i64 2, .int .i64 1, .int .i64 1] t frozen
      | o => o) }
theorem laid_met (os : Os) : laidMet Tryz.prog Rows.denoteSaneRow.laid ((laidWorld os).forCall (fun _ _ => 0) ⟨#[], #[.agg #[.int .i64 0, .int .i64 0, .string ByteArray.empty, .string ByteArray.empty, .string ByteArray.empty, .bool false, .bool false, .slice none 0 0]], []⟩).memory :=
  laidMet_of_run' 8 (by kernel_rfl) (by kernel_rfl)
theorem reads (os : Os) {H : Type} (enc : TypeId × Value → H) : ∃ places, DataW.whole enc Tryz.prog ((laidWorld os).forCall (fun _ _ => 0) ⟨#[], #[.agg #[.int .i64 0, .int .i64 0, .string ByteArray.empty, .string ByteArray.empty, .string ByteArray.empty, .bool false, .bool false, .slice none 0 0]], []⟩).memory Tryz.f3.params.toList Rows.denoteSaneSpec.vars false (#[.agg #[.int .i64 0, .int .i64 0, .string ByteArray.empty, .string ByteArray.empty, .string ByteArray.empty, .bool false, .bool false, .slice none 0 0]] : Array Value).toList 8 = some ([.agg [.lit (.int .i64 0), .agg [.lit (.int .i64 0), .lit (.string []), .lit (.string []), .lit (.string [])], .lit (.bool false), .lit (.bool false), .nil]], [], places) :=
  ⟨[], by kernel_rfl⟩

set_option maxRecDepth 100000 in
theorem contract (H : Type) (enc : TypeId × Value → H) (W : World) (base : Nat) (args : Array Value) (ds gs : List (DataW H)) (before : List MemPlace)
    (hval : ∀ (j : Nat) t v, Tryz.f3.params[j]? = some t → args[j]? = some v → Value.okWide Tryz.prog W .any base t v)
    (hW : DataW.Whole enc Tryz.prog Tryz.f3.params.toList Rows.denoteSaneSpec.vars false W args.toList ds gs before) (hL : laidMetH Tryz.prog Rows.denoteSaneRow.laid W) :
    Calls Tryz.prog 3 args W fun e W' => ∃ v, e = .returned v ∧ Rows.denoteSaneSpec.post enc Tryz.prog Tryz.f3 false true false false W args v W' := by
  have hW' := hW
  have hltA : ∀ x ∈ before, x.block < W.heap.size := fun x hx => by simpa using hW'.lt x hx
  obtain ⟨p, q, hA0, hV, rfl, hfz, hnd⟩ := hW
  have hA : DataW.TrodAll enc Tryz.prog W 0 (fun _ => true) true Tryz.f3.params.toList args.toList ds p := hA0
  rw [Tryz.params3] at hA hval
  obtain ⟨v0, vs0, d0, ds0, p0, q0, hargs, rfl, rfl, h0, r0⟩ := trodAll_cons hA
  obtain ⟨rfl, rfl, rfl⟩ := trodAll_nil r0
  obtain rfl : args = #[v0] := by cases args; simp_all
  obtain ⟨rfl, rfl⟩ := trodVars_none hV
  have hk0 := h0
  obtain ⟨n0, u0, rfl, hn0, gn0, wg0⟩ := open_node (hval 0 26 v0 rfl rfl) h0
  clear hA0
  simp only [List.append_nil] at hW'
  refine (denoteSane_walk n0 u0 W hn0 (tabs_of hL)).mono fun e W' ⟨he, hg⟩ => ?_
  subst he
  have bel : Below W.heap.size W W' := hg
  exact ⟨_, rfl, _, _, _, [], _, [], hW', trodAll_mk1 (shut_bool Tryz.underlying4 _), (trodAll_cons_mk (Below.trod laidOut (by kernel_rfl) (of_decide_eq_true (by kernel_rfl)) hk0 bel (fun x hx => hltA x (by simp [hx]))) trodAll_mk0), rfl, bel.frame _, fun h => by cases h⟩

set_option maxRecDepth 100000 in
theorem lifted (os : Os) (started : os.Started) (H : Type) (enc : TypeId × Value → H) (F : Stop.Interp) :
    ReturnsInHanded {} Tryz.checked os 3 .any ((OpenSpec.ofChange Rows.denoteSaneSpec).preRow enc Tryz.prog Tryz.f3 Rows.denoteSaneRow.domain false Rows.denoteSaneRow.laid) (((OpenSpec.ofChange Rows.denoteSaneSpec).at F).post enc Tryz.prog Tryz.f3 false true false false) := by
  obtain ⟨places, hx⟩ := reads os enc
  refine returnsInHanded_of_row (C := Tryz.checked) (s := OpenSpec.ofChange Rows.denoteSaneSpec) own started (by kernel_rfl) Tryz.func3
    (witness_row_at (enc := enc) (C := Tryz.checked) false (laidWorld os) #[.agg #[.int .i64 0, .int .i64 0, .string ByteArray.empty, .string ByteArray.empty, .string ByteArray.empty, .bool false, .bool false, .slice none 0 0]] rfl (by kernel_rfl) (by kernel_rfl) (by kernel_rfl)
      (OpenSpec.preRow_of_cond 8 hx (by kernel_rfl) (fun k hk => by cases hk) (by kernel_rfl) (laid_met os))) ?_
  intro W base args ds gs before hval hW _ hcond _ hL _ _
  exact contract H enc W base args ds gs before hval hW hL

theorem said : Rows.DenoteSaneSaid :=
  OpenClaim.holds_of_cond 3 Tryz.f3 rfl rfl rfl rfl rfl rfl rfl ⟨rfl, rfl, rfl, rfl, rfl⟩ rfl rfl rfl rfl rfl (by kernel_rfl) Tryz.func3 (by kernel_rfl)
    (of_decide_eq_true (by kernel_rfl)) (by unfold Func.isWrapper; first | (rw [if_pos (by decide +kernel)]; kernel_rfl) | (rw [if_neg (by decide +kernel)]; exact ⟨rfl, rfl⟩))
    (fun os started H enc _ F => by rw [OpenClaim.pre_eq_preRow]; exact lifted os started H enc F)

theorem plain (f : FuncId) (fn : Func) (hf : Tryz.pinned.checked.prog.funcNamed "lustrum/lustrumlaw15.DenoteSane" = some f) (hfn : Tryz.pinned.checked.prog.funcs[f]? = some fn) :
    true = Tryz.pinned.checked.prog.looks [] ∧ ∀ (j : Nat) t, fn.params[j]? = some t → Tryz.pinned.checked.prog.wantsStandIn t = false := by
  obtain rfl : f = 3 := Option.some.inj ((show Tryz.prog.funcNamed "lustrum/lustrumlaw15.DenoteSane" = some 3 by kernel_rfl).symm.trans hf) |>.symm
  obtain rfl : fn = Tryz.f3 := (Option.some.inj (Tryz.func3.symm.trans hfn)).symm
  refine ⟨by kernel_rfl, fun j t ht => ?_⟩
  rw [Tryz.params3] at ht
  have hm := Array.mem_of_getElem? ht
  have ho : t = 26 := by first | simpa using hm | (simp at hm; rcases hm with h <;> simp [h])
  subst ho
  exact (show Tryz.prog.wantsStandIn 26 = false by kernel_rfl)

/-- THE CARD. -/
theorem proved : Rows.DenoteSaneCardSaid :=
  Claim7.holds_tied_plain_at .later [] _ _ _ _ said (fun _ h => by cases h) (by kernel_rfl) (fun _ h => by cases h) denoteSane_row_tie rfl ⟨rfl, rfl⟩ (by kernel_rfl) rfl plain (by kernel_rfl)
#print axioms proved
end Go.Proofs.YtmklpimaemogcaaGreatDoor.lawDenoteSane
