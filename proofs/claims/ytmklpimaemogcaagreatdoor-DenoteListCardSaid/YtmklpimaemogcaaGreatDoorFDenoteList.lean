/-
  Joined: L15B, LDenoteList.
-/
import Derived.Test.YtmklpimaemogcaaGreatDoorGDn
import Derived.Test.YtmklpimaemogcaaGreatDoorApp
import Derived.Test.YtmklpimaemogcaaGreatDoorCards
import Derived.Test.YtmklpimaemogcaaGreatDoorTie
import Derived.WalkKit
import Derived.ProofKit
import Derived.OpenShut
import Derived.ShutString
import Derived.ChangeOld
import Derived.Below
import Derived.Test.YtmklpimaemogcaaGreatDoorGTr
import Derived.Deep.DeepHandedRow
import Derived.Lib.LaidTab
import Derived.Carry
namespace Go.Proofs.YtmklpimaemogcaaGreatDoor
open Go.RowKit
set_option linter.unusedVariables false
set_option linter.unusedSimpArgs false
theorem sane_elemD {p : PT} {a t : Bool} {l : List ND} (h : saneN saneP (.mk 2 p a t l) = true) {i : Nat} (hi : i < l.length) : saneN saneP (nth l i) = true := by
  unfold saneN at *
  simp only [Bool.and_eq_true, decide_eq_true_eq] at *
  obtain ⟨h1, h2, h3⟩ := h
  have r : rightN saneP (nth l i) = true := by
    rcases dk_kind h3 with ⟨p', a', t', e', hp⟩ | ⟨x, z, e', hx, hz⟩ | ⟨l', e', hl⟩ <;> injection e' with e1 e2 e3 e4 e5
    · omega
    · omega
    · rw [e5] at hi ⊢
      exact hl _ (nth_mem hi)
  have ca := cnt_at hi
  have da : depN (nth l i) ≤ depL l := by
    have g : ∀ (l : List ND) (x : ND), x ∈ l → depN x ≤ depL l := by
      intro l
      induction l with
      | nil => intro x h; cases h
      | cons y l ih =>
        intro x h
        simp only [depL]
        rcases List.mem_cons.1 h with rfl | h
        · omega
        · have := ih x h; omega
    exact g l _ (nth_mem hi)
  simp only [cntN, depN] at h1 h2
  exact ⟨by omega, by omega, r⟩
theorem ofE_sane {n : ND} (h : saneN saneP n = true) : ofE n = dnE n := by unfold ofE; rw [if_pos h]
theorem ofS_sane {n : ND} (h : saneN saneP n = true) (g : dnE n = 0) : ofS n = dnS n := by unfold ofS; rw [if_pos ⟨h, g⟩]
theorem ofS_none {n : ND} (g : ¬ dnE n = 0) : ofS n = [] := by unfold ofS; rw [if_neg (fun h => g h.2)]
set_option maxHeartbeats 16000000 in
set_option maxRecDepth 100000 in
theorem dlist_long (vl : Value) (l : List ND) (w : World) (hl : NodesAt w vl l) (T : Tabs8 w) (h12 : 12 < l.length) :
    Calls Tryz.prog 4 #[vl] w fun e w' => e = .returned (.bool true) ∧ Kp w w' := by
  have AW := Lib.hid (fun w1 (kk : Kp w w1) => awake15 w1 (T.kp kk))
  have OO := Lib.hid (fun w1 => oneOf_any vl l w1 hl.slice)
  have SM := Lib.hid (fun w1 (kk : Kp w w1) => small_any (.mk 2 e15 false false l : ND) vl w1 (hl.kp kk))
  have SN := Lib.hid (fun w1 (kk : Kp w w1) => tSaneG_any (.mk 2 e15 false false l : ND) vl w1 (hl.kp kk) (T.kp kk).2.1)
  have lm := hl.len
  unfold maxLen at lm
  have g1 : decide ((l.length : Int) > 12) = true := decide_eq_true (by omega)
  clear T
  obtain ⟨adl, cal, rfl⟩ := hl.slice
  unfold e15 ndV at *
  simp only [ND.k, ND.p, ND.a, ND.t, ND.l] at *
  obtain ⟨W0, hW⟩ : ∃ W0, W0 = w := ⟨_, rfl⟩
  subst hW
  have K00 := Lib.hid (Kp.refl W0)
  have K0 := Lib.hid (Kp.refl W0)
  have HB := Lib.hid True.intro
  go_enter Tryz.func4, Tryz.ntmps4
  go_wp2_with fail
  refine (AW.out _ (K00.out.trans (by first | with_reducible exact K0.out | with_reducible exact K0.out.trans (Kp.alloc _ _) | with_reducible exact (K0.out.trans (Kp.alloc _ _)).trans (Kp.alloc _ _) | with_reducible exact ((K0.out.trans (Kp.alloc _ _)).trans (Kp.alloc _ _)).trans (Kp.alloc _ _) | with_reducible exact K0.out.trans (Kp.drew _) | with_reducible exact K0.out.trans (Kp.drewN _ _)))).mono ?_
  rintro e w1 ⟨rfl, kk⟩
  have K1 := Lib.hid ((show Kp W0 _ from (by first | with_reducible exact K0.out | with_reducible exact K0.out.trans (Kp.alloc _ _) | with_reducible exact (K0.out.trans (Kp.alloc _ _)).trans (Kp.alloc _ _) | with_reducible exact ((K0.out.trans (Kp.alloc _ _)).trans (Kp.alloc _ _)).trans (Kp.alloc _ _) | with_reducible exact K0.out.trans (Kp.drew _) | with_reducible exact K0.out.trans (Kp.drewN _ _))).trans kk)
  clear kk
  go_wp2_with fail
  refine (OO.out _).mono ?_
  rintro e w2 ⟨rfl, kk⟩
  have K2 := Lib.hid ((show Kp W0 _ from (by first | with_reducible exact K1.out | with_reducible exact K1.out.trans (Kp.alloc _ _) | with_reducible exact (K1.out.trans (Kp.alloc _ _)).trans (Kp.alloc _ _) | with_reducible exact ((K1.out.trans (Kp.alloc _ _)).trans (Kp.alloc _ _)).trans (Kp.alloc _ _) | with_reducible exact K1.out.trans (Kp.drew _) | with_reducible exact K1.out.trans (Kp.drewN _ _))).trans kk)
  clear kk
  obtain ⟨w3, hV⟩ : ∃ x, x = w2.alloc (.cells #[.int .i64 2, .int .i64 0, .string ⟨#[]⟩, .string ⟨#[]⟩, .string ⟨#[]⟩, .bool false, .bool false, .slice adl l.length cal] 26) := ⟨_, rfl⟩
  have ka : Kp w2 w3 := by rw [hV]; exact Kp.alloc _ _
  have hgq : w3.heap[w2.heap.size]? = some (.cells #[.int .i64 2, .int .i64 0, .string ⟨#[]⟩, .string ⟨#[]⟩, .string ⟨#[]⟩, .bool false, .bool false, .slice adl l.length cal] 26 (0, 0)) := by rw [hV]; exact heap_at _ _ _ rfl
  have q0 : w3.cell? ⟨w2.heap.size, 0, none⟩ = some (.int .i64 2) := by simp [World.cell?, hgq]
  have q1 : w3.cell? ⟨w2.heap.size, 1, none⟩ = some (.int .i64 0) := by simp [World.cell?, hgq]
  have q2 : w3.cell? ⟨w2.heap.size, 2, none⟩ = some (.string ⟨#[]⟩) := by simp [World.cell?, hgq]
  have q3 : w3.cell? ⟨w2.heap.size, 3, none⟩ = some (.string ⟨#[]⟩) := by simp [World.cell?, hgq]
  have q4 : w3.cell? ⟨w2.heap.size, 4, none⟩ = some (.string ⟨#[]⟩) := by simp [World.cell?, hgq]
  have q5 : w3.cell? ⟨w2.heap.size, 5, none⟩ = some (.bool false) := by simp [World.cell?, hgq]
  have q6 : w3.cell? ⟨w2.heap.size, 6, none⟩ = some (.bool false) := by simp [World.cell?, hgq]
  have q7 : w3.cell? ⟨w2.heap.size, 7, none⟩ = some (.slice adl l.length cal) := by simp [World.cell?, hgq]
  have HB2 := Lib.hid (fun w1 (k : Kp w3 w1) => show w1.cell? ⟨w2.heap.size, 0, none⟩ = some (.int .i64 2) ∧ w1.cell? ⟨w2.heap.size, 1, none⟩ = some (.int .i64 0) ∧ w1.cell? ⟨w2.heap.size, 2, none⟩ = some (.string ⟨#[]⟩) ∧ w1.cell? ⟨w2.heap.size, 3, none⟩ = some (.string ⟨#[]⟩) ∧ w1.cell? ⟨w2.heap.size, 4, none⟩ = some (.string ⟨#[]⟩) ∧ w1.cell? ⟨w2.heap.size, 5, none⟩ = some (.bool false) ∧ w1.cell? ⟨w2.heap.size, 6, none⟩ = some (.bool false) ∧ w1.cell? ⟨w2.heap.size, 7, none⟩ = some (.slice adl l.length cal) from ⟨cell_up k q0, cell_up k q1, cell_up k q2, cell_up k q3, cell_up k q4, cell_up k q5, cell_up k q6, cell_up k q7⟩)
  have K01 := Lib.hid (K00.out.trans (K2.out.trans ka))
  clear HB K00 hgq  q0 q1 q2 q3 q4 q5 q6 q7
  have HB := HB2
  have K00 := K01
  clear HB2 K01
  have K3 := Lib.hid (Kp.refl w3)
  have Hw3 := Lib.hid hV
  clear hV ka
  go_wp2_with fail
  rw [← Hw3.out]
  obtain ⟨c0, c1, c2, c3, c4, c5, c6, c7⟩ := HB.out w3 (Kp.refl _)
  go_wp2
  go_ret
  exact ⟨rfl, K00.out.trans (by first | with_reducible exact K3.out | with_reducible exact K3.out.trans (Kp.alloc _ _) | with_reducible exact (K3.out.trans (Kp.alloc _ _)).trans (Kp.alloc _ _) | with_reducible exact ((K3.out.trans (Kp.alloc _ _)).trans (Kp.alloc _ _)).trans (Kp.alloc _ _) | with_reducible exact K3.out.trans (Kp.drew _) | with_reducible exact K3.out.trans (Kp.drewN _ _))⟩
set_option maxHeartbeats 16000000 in
set_option maxRecDepth 100000 in
theorem dlist_no (vl : Value) (l : List ND) (w : World) (hl : NodesAt w vl l) (T : Tabs8 w) (h12 : l.length ≤ 12) (hs : saneN saneP (.mk 2 e15 false false l : ND) = false) :
    Calls Tryz.prog 4 #[vl] w fun e w' => e = .returned (.bool true) ∧ Kp w w' := by
  have AW := Lib.hid (fun w1 (kk : Kp w w1) => awake15 w1 (T.kp kk))
  have OO := Lib.hid (fun w1 => oneOf_any vl l w1 hl.slice)
  have SM := Lib.hid (fun w1 (kk : Kp w w1) => small_any (.mk 2 e15 false false l : ND) vl w1 (hl.kp kk))
  have SN := Lib.hid (fun w1 (kk : Kp w w1) => tSaneG_any (.mk 2 e15 false false l : ND) vl w1 (hl.kp kk) (T.kp kk).2.1)
  have lm := hl.len
  unfold maxLen at lm
  have g1 : decide ((l.length : Int) > 12) = false := decide_eq_false (by omega)
  rw [hs] at SN
  clear T hs
  obtain ⟨adl, cal, rfl⟩ := hl.slice
  unfold e15 ndV at *
  simp only [ND.k, ND.p, ND.a, ND.t, ND.l] at *
  obtain ⟨W0, hW⟩ : ∃ W0, W0 = w := ⟨_, rfl⟩
  subst hW
  have K00 := Lib.hid (Kp.refl W0)
  have K0 := Lib.hid (Kp.refl W0)
  have HB := Lib.hid True.intro
  go_enter Tryz.func4, Tryz.ntmps4
  go_wp2_with fail
  refine (AW.out _ (K00.out.trans (by first | with_reducible exact K0.out | with_reducible exact K0.out.trans (Kp.alloc _ _) | with_reducible exact (K0.out.trans (Kp.alloc _ _)).trans (Kp.alloc _ _) | with_reducible exact ((K0.out.trans (Kp.alloc _ _)).trans (Kp.alloc _ _)).trans (Kp.alloc _ _) | with_reducible exact K0.out.trans (Kp.drew _) | with_reducible exact K0.out.trans (Kp.drewN _ _)))).mono ?_
  rintro e w1 ⟨rfl, kk⟩
  have K1 := Lib.hid ((show Kp W0 _ from (by first | with_reducible exact K0.out | with_reducible exact K0.out.trans (Kp.alloc _ _) | with_reducible exact (K0.out.trans (Kp.alloc _ _)).trans (Kp.alloc _ _) | with_reducible exact ((K0.out.trans (Kp.alloc _ _)).trans (Kp.alloc _ _)).trans (Kp.alloc _ _) | with_reducible exact K0.out.trans (Kp.drew _) | with_reducible exact K0.out.trans (Kp.drewN _ _))).trans kk)
  clear kk
  go_wp2_with fail
  refine (OO.out _).mono ?_
  rintro e w2 ⟨rfl, kk⟩
  have K2 := Lib.hid ((show Kp W0 _ from (by first | with_reducible exact K1.out | with_reducible exact K1.out.trans (Kp.alloc _ _) | with_reducible exact (K1.out.trans (Kp.alloc _ _)).trans (Kp.alloc _ _) | with_reducible exact ((K1.out.trans (Kp.alloc _ _)).trans (Kp.alloc _ _)).trans (Kp.alloc _ _) | with_reducible exact K1.out.trans (Kp.drew _) | with_reducible exact K1.out.trans (Kp.drewN _ _))).trans kk)
  clear kk
  obtain ⟨w3, hV⟩ : ∃ x, x = w2.alloc (.cells #[.int .i64 2, .int .i64 0, .string ⟨#[]⟩, .string ⟨#[]⟩, .string ⟨#[]⟩, .bool false, .bool false, .slice adl l.length cal] 26) := ⟨_, rfl⟩
  have ka : Kp w2 w3 := by rw [hV]; exact Kp.alloc _ _
  have hgq : w3.heap[w2.heap.size]? = some (.cells #[.int .i64 2, .int .i64 0, .string ⟨#[]⟩, .string ⟨#[]⟩, .string ⟨#[]⟩, .bool false, .bool false, .slice adl l.length cal] 26 (0, 0)) := by rw [hV]; exact heap_at _ _ _ rfl
  have q0 : w3.cell? ⟨w2.heap.size, 0, none⟩ = some (.int .i64 2) := by simp [World.cell?, hgq]
  have q1 : w3.cell? ⟨w2.heap.size, 1, none⟩ = some (.int .i64 0) := by simp [World.cell?, hgq]
  have q2 : w3.cell? ⟨w2.heap.size, 2, none⟩ = some (.string ⟨#[]⟩) := by simp [World.cell?, hgq]
  have q3 : w3.cell? ⟨w2.heap.size, 3, none⟩ = some (.string ⟨#[]⟩) := by simp [World.cell?, hgq]
  have q4 : w3.cell? ⟨w2.heap.size, 4, none⟩ = some (.string ⟨#[]⟩) := by simp [World.cell?, hgq]
  have q5 : w3.cell? ⟨w2.heap.size, 5, none⟩ = some (.bool false) := by simp [World.cell?, hgq]
  have q6 : w3.cell? ⟨w2.heap.size, 6, none⟩ = some (.bool false) := by simp [World.cell?, hgq]
  have q7 : w3.cell? ⟨w2.heap.size, 7, none⟩ = some (.slice adl l.length cal) := by simp [World.cell?, hgq]
  have HB2 := Lib.hid (fun w1 (k : Kp w3 w1) => show w1.cell? ⟨w2.heap.size, 0, none⟩ = some (.int .i64 2) ∧ w1.cell? ⟨w2.heap.size, 1, none⟩ = some (.int .i64 0) ∧ w1.cell? ⟨w2.heap.size, 2, none⟩ = some (.string ⟨#[]⟩) ∧ w1.cell? ⟨w2.heap.size, 3, none⟩ = some (.string ⟨#[]⟩) ∧ w1.cell? ⟨w2.heap.size, 4, none⟩ = some (.string ⟨#[]⟩) ∧ w1.cell? ⟨w2.heap.size, 5, none⟩ = some (.bool false) ∧ w1.cell? ⟨w2.heap.size, 6, none⟩ = some (.bool false) ∧ w1.cell? ⟨w2.heap.size, 7, none⟩ = some (.slice adl l.length cal) from ⟨cell_up k q0, cell_up k q1, cell_up k q2, cell_up k q3, cell_up k q4, cell_up k q5, cell_up k q6, cell_up k q7⟩)
  have K01 := Lib.hid (K00.out.trans (K2.out.trans ka))
  clear HB K00 hgq  q0 q1 q2 q3 q4 q5 q6 q7
  have HB := HB2
  have K00 := K01
  clear HB2 K01
  have K3 := Lib.hid (Kp.refl w3)
  have Hw3 := Lib.hid hV
  clear hV ka
  go_wp2_with fail
  rw [← Hw3.out]
  obtain ⟨c0, c1, c2, c3, c4, c5, c6, c7⟩ := HB.out w3 (Kp.refl _)
  go_wp2_with fail
  refine (SM.out _ (K00.out.trans (by first | with_reducible exact K3.out | with_reducible exact K3.out.trans (Kp.alloc _ _) | with_reducible exact (K3.out.trans (Kp.alloc _ _)).trans (Kp.alloc _ _) | with_reducible exact ((K3.out.trans (Kp.alloc _ _)).trans (Kp.alloc _ _)).trans (Kp.alloc _ _) | with_reducible exact K3.out.trans (Kp.drew _) | with_reducible exact K3.out.trans (Kp.drewN _ _)))).mono ?_
  rintro e w4 ⟨⟨b, hb, rfl⟩, kk⟩
  have K4 := Lib.hid ((show Kp w3 _ from (by first | with_reducible exact K3.out | with_reducible exact K3.out.trans (Kp.alloc _ _) | with_reducible exact (K3.out.trans (Kp.alloc _ _)).trans (Kp.alloc _ _) | with_reducible exact ((K3.out.trans (Kp.alloc _ _)).trans (Kp.alloc _ _)).trans (Kp.alloc _ _) | with_reducible exact K3.out.trans (Kp.drew _) | with_reducible exact K3.out.trans (Kp.drewN _ _))).trans kk)
  clear kk c0 c1 c2 c3 c4 c5 c6 c7
  obtain ⟨c0, c1, c2, c3, c4, c5, c6, c7⟩ := HB.out w4 K4.out
  rcases hb with rfl | rfl
  rotate_left
  · go_wp2
    go_ret
    exact ⟨rfl, K00.out.trans K4.out⟩
  go_wp2_with fail
  refine (SN.out _ (K00.out.trans (by first | with_reducible exact K4.out | with_reducible exact K4.out.trans (Kp.alloc _ _) | with_reducible exact (K4.out.trans (Kp.alloc _ _)).trans (Kp.alloc _ _) | with_reducible exact ((K4.out.trans (Kp.alloc _ _)).trans (Kp.alloc _ _)).trans (Kp.alloc _ _) | with_reducible exact K4.out.trans (Kp.drew _) | with_reducible exact K4.out.trans (Kp.drewN _ _)))).mono ?_
  rintro e w5 ⟨rfl, kk⟩
  have K5 := Lib.hid ((show Kp w3 _ from (by first | with_reducible exact K4.out | with_reducible exact K4.out.trans (Kp.alloc _ _) | with_reducible exact (K4.out.trans (Kp.alloc _ _)).trans (Kp.alloc _ _) | with_reducible exact ((K4.out.trans (Kp.alloc _ _)).trans (Kp.alloc _ _)).trans (Kp.alloc _ _) | with_reducible exact K4.out.trans (Kp.drew _) | with_reducible exact K4.out.trans (Kp.drewN _ _))).trans kk)
  clear kk
  clear c0 c1 c2 c3 c4 c5 c6 c7
  obtain ⟨c0, c1, c2, c3, c4, c5, c6, c7⟩ := HB.out w5 K5.out
  go_wp2
  go_ret
  exact ⟨rfl, K00.out.trans K5.out⟩
set_option maxHeartbeats 16000000 in
set_option maxRecDepth 100000 in
theorem dlist_yes (vl : Value) (l : List ND) (w : World) (hl : NodesAt w vl l) (T : Tabs8 w) (h12 : l.length ≤ 12) (hs : saneN saneP (.mk 2 e15 false false l : ND) = true) :
    Calls Tryz.prog 4 #[vl] w fun e w' => e = .returned (.bool true) ∧ Kp w w' := by
  have AW := Lib.hid (fun w1 (kk : Kp w w1) => awake15 w1 (T.kp kk))
  have OO := Lib.hid (fun w1 => oneOf_any vl l w1 hl.slice)
  have SM := Lib.hid (fun w1 (kk : Kp w w1) => small_any (.mk 2 e15 false false l : ND) vl w1 (hl.kp kk))
  have SN := Lib.hid (fun w1 (kk : Kp w w1) => tSaneG_any (.mk 2 e15 false false l : ND) vl w1 (hl.kp kk) (T.kp kk).2.1)
  have lm := hl.len
  unfold maxLen at lm
  have g1 : decide ((l.length : Int) > 12) = false := decide_eq_false (by omega)
  have OF := Lib.hid (fun w1 (kk : Kp w w1) => dnOf_any (.mk 2 e15 false false l : ND) vl w1 (hl.kp kk) (T.kp kk))
  rw [ofE_sane hs] at OF
  rw [hs] at SN
  have EE : dnE (.mk 2 e15 false false l : ND) = dnEL l := by simp only [dnE]; rw [if_neg (by decide)]; first | rw [if_pos trivial] | rw [if_pos rfl]
  have ES : dnEL l = 0 → ofS (.mk 2 e15 false false l : ND) = dnSL l := fun h => by
    rw [ofS_sane hs (by rw [EE]; exact h)]
    simp only [dnS]
    rw [if_neg (by decide)]
    first | rw [if_pos trivial] | rw [if_pos rfl]
  have EN : ¬ dnEL l = 0 → ofS (.mk 2 e15 false false l : ND) = [] := fun h => ofS_none (by rw [EE]; exact h)
  rw [EE] at OF
  have SA := Lib.hid (fun i (hi : i < l.length) => sane_elemD hs hi)
  have c64 : cntL l ≤ 64 := by have := sane_cntD hs; simp only [cntN] at this; omega
  have LOK2 := Lib.hid (fun h => lsOk_of (dnS_ok (n := (.mk 2 e15 false false l : ND)) (sane_rightD hs) (by rw [EE]; exact h)))
  have EV := Lib.hid (fun i v w1 (hv : NodesAt w1 v (nth l i).l) (kk : Kp w w1) => dnOf_own (nth l i) v w1 hv (T.kp kk))
  have EA := Lib.hid (fun i (hi : i < l.length) => dnEL_at (l := l) (i := i) hi)
  have EZ := Lib.hid (fun h => dnEL_all (l := l) h)
  have TK := Lib.hid (fun i (hi : i < l.length) => show dnSL (l.take (i + 1)) = dnSL (l.take i) ++ dnS (nth l i) by rw [nth_take hi, dnSL_append]; simp [dnSL])
  have LB := Lib.hid (fun i => show (dnSL (l.take i)).length ≤ 64 by
    have a := dnSL_len (l.take i)
    have b := ptsCL_cnt (l.take i)
    have c := cntL_append (l.take i) (l.drop i)
    rw [List.take_append_drop] at c
    omega)
  have LN := Lib.hid (fun i (hi : i < l.length) => show (dnS (nth l i)).length ≤ 64 by
    have a := dnS_len (nth l i)
    have b := ptsC_cnt (nth l i)
    have c := cnt_at hi
    omega)
  have T0 := Lib.hid (show dnSL (l.take 0) = [] by rw [List.take_zero]; rfl)
  have TL := Lib.hid (show dnSL (l.take l.length) = dnSL l by rw [List.take_length])
  have LOK3 : dnEL l = 0 → LsOk (dnSL l) := fun h => by
    have := LOK2.out h
    simp only [dnS] at this
    rw [if_neg (by decide)] at this
    first | (rw [if_pos trivial] at this; exact this) | (rw [if_pos rfl] at this; exact this)
  have LK := Lib.hid LOK3
  have ESH := Lib.hid ES
  have ENH := Lib.hid EN
  obtain ⟨el, hel⟩ : ∃ x, dnEL l = x := ⟨_, rfl⟩
  rw [hel] at OF
  obtain ⟨fs, hfs⟩ : ∃ x, ofS (.mk 2 e15 false false l : ND) = x := ⟨_, rfl⟩
  rw [hfs] at OF
  have HEL := Lib.hid hel
  have HFS := Lib.hid hfs
  have SAM := Lib.hid (fun v v' L w1 (h : LeavesAt w1 v L) (h' : LeavesAt w1 v' L) (ok : LsOk L) => same15_yes v v' L w1 h h' ok)
  have HLW := Lib.hid hl
  clear EE ES EN LOK2 LOK3 hel hfs hs T
  obtain ⟨adl, cal, rfl⟩ := hl.slice
  unfold e15 ndV at *
  simp only [ND.k, ND.p, ND.a, ND.t, ND.l] at *
  obtain ⟨W0, hW⟩ : ∃ W0, W0 = w := ⟨_, rfl⟩
  subst hW
  have K00 := Lib.hid (Kp.refl W0)
  have K0 := Lib.hid (Kp.refl W0)
  have HB := Lib.hid True.intro
  go_enter Tryz.func4, Tryz.ntmps4
  go_wp2_with fail
  refine (AW.out _ (K00.out.trans (by first | with_reducible exact K0.out | with_reducible exact K0.out.trans (Kp.alloc _ _) | with_reducible exact (K0.out.trans (Kp.alloc _ _)).trans (Kp.alloc _ _) | with_reducible exact ((K0.out.trans (Kp.alloc _ _)).trans (Kp.alloc _ _)).trans (Kp.alloc _ _) | with_reducible exact K0.out.trans (Kp.drew _) | with_reducible exact K0.out.trans (Kp.drewN _ _)))).mono ?_
  rintro e w1 ⟨rfl, kk⟩
  have K1 := Lib.hid ((show Kp W0 _ from (by first | with_reducible exact K0.out | with_reducible exact K0.out.trans (Kp.alloc _ _) | with_reducible exact (K0.out.trans (Kp.alloc _ _)).trans (Kp.alloc _ _) | with_reducible exact ((K0.out.trans (Kp.alloc _ _)).trans (Kp.alloc _ _)).trans (Kp.alloc _ _) | with_reducible exact K0.out.trans (Kp.drew _) | with_reducible exact K0.out.trans (Kp.drewN _ _))).trans kk)
  clear kk
  go_wp2_with fail
  refine (OO.out _).mono ?_
  rintro e w2 ⟨rfl, kk⟩
  have K2 := Lib.hid ((show Kp W0 _ from (by first | with_reducible exact K1.out | with_reducible exact K1.out.trans (Kp.alloc _ _) | with_reducible exact (K1.out.trans (Kp.alloc _ _)).trans (Kp.alloc _ _) | with_reducible exact ((K1.out.trans (Kp.alloc _ _)).trans (Kp.alloc _ _)).trans (Kp.alloc _ _) | with_reducible exact K1.out.trans (Kp.drew _) | with_reducible exact K1.out.trans (Kp.drewN _ _))).trans kk)
  clear kk
  obtain ⟨w3, hV⟩ : ∃ x, x = w2.alloc (.cells #[.int .i64 2, .int .i64 0, .string ⟨#[]⟩, .string ⟨#[]⟩, .string ⟨#[]⟩, .bool false, .bool false, .slice adl l.length cal] 26) := ⟨_, rfl⟩
  have ka : Kp w2 w3 := by rw [hV]; exact Kp.alloc _ _
  have hgq : w3.heap[w2.heap.size]? = some (.cells #[.int .i64 2, .int .i64 0, .string ⟨#[]⟩, .string ⟨#[]⟩, .string ⟨#[]⟩, .bool false, .bool false, .slice adl l.length cal] 26 (0, 0)) := by rw [hV]; exact heap_at _ _ _ rfl
  have q0 : w3.cell? ⟨w2.heap.size, 0, none⟩ = some (.int .i64 2) := by simp [World.cell?, hgq]
  have q1 : w3.cell? ⟨w2.heap.size, 1, none⟩ = some (.int .i64 0) := by simp [World.cell?, hgq]
  have q2 : w3.cell? ⟨w2.heap.size, 2, none⟩ = some (.string ⟨#[]⟩) := by simp [World.cell?, hgq]
  have q3 : w3.cell? ⟨w2.heap.size, 3, none⟩ = some (.string ⟨#[]⟩) := by simp [World.cell?, hgq]
  have q4 : w3.cell? ⟨w2.heap.size, 4, none⟩ = some (.string ⟨#[]⟩) := by simp [World.cell?, hgq]
  have q5 : w3.cell? ⟨w2.heap.size, 5, none⟩ = some (.bool false) := by simp [World.cell?, hgq]
  have q6 : w3.cell? ⟨w2.heap.size, 6, none⟩ = some (.bool false) := by simp [World.cell?, hgq]
  have q7 : w3.cell? ⟨w2.heap.size, 7, none⟩ = some (.slice adl l.length cal) := by simp [World.cell?, hgq]
  have HB2 := Lib.hid (fun w1 (k : Kp w3 w1) => show w1.cell? ⟨w2.heap.size, 0, none⟩ = some (.int .i64 2) ∧ w1.cell? ⟨w2.heap.size, 1, none⟩ = some (.int .i64 0) ∧ w1.cell? ⟨w2.heap.size, 2, none⟩ = some (.string ⟨#[]⟩) ∧ w1.cell? ⟨w2.heap.size, 3, none⟩ = some (.string ⟨#[]⟩) ∧ w1.cell? ⟨w2.heap.size, 4, none⟩ = some (.string ⟨#[]⟩) ∧ w1.cell? ⟨w2.heap.size, 5, none⟩ = some (.bool false) ∧ w1.cell? ⟨w2.heap.size, 6, none⟩ = some (.bool false) ∧ w1.cell? ⟨w2.heap.size, 7, none⟩ = some (.slice adl l.length cal) from ⟨cell_up k q0, cell_up k q1, cell_up k q2, cell_up k q3, cell_up k q4, cell_up k q5, cell_up k q6, cell_up k q7⟩)
  have K01 := Lib.hid (K00.out.trans (K2.out.trans ka))
  clear HB K00 hgq  q0 q1 q2 q3 q4 q5 q6 q7
  have HB := HB2
  have K00 := K01
  clear HB2 K01
  have K3 := Lib.hid (Kp.refl w3)
  have Hw3 := Lib.hid hV
  clear hV ka
  go_wp2_with fail
  rw [← Hw3.out]
  obtain ⟨c0, c1, c2, c3, c4, c5, c6, c7⟩ := HB.out w3 (Kp.refl _)
  go_wp2_with fail
  refine (SM.out _ (K00.out.trans (by first | with_reducible exact K3.out | with_reducible exact K3.out.trans (Kp.alloc _ _) | with_reducible exact (K3.out.trans (Kp.alloc _ _)).trans (Kp.alloc _ _) | with_reducible exact ((K3.out.trans (Kp.alloc _ _)).trans (Kp.alloc _ _)).trans (Kp.alloc _ _) | with_reducible exact K3.out.trans (Kp.drew _) | with_reducible exact K3.out.trans (Kp.drewN _ _)))).mono ?_
  rintro e w4 ⟨⟨b, hb, rfl⟩, kk⟩
  have K4 := Lib.hid ((show Kp w3 _ from (by first | with_reducible exact K3.out | with_reducible exact K3.out.trans (Kp.alloc _ _) | with_reducible exact (K3.out.trans (Kp.alloc _ _)).trans (Kp.alloc _ _) | with_reducible exact ((K3.out.trans (Kp.alloc _ _)).trans (Kp.alloc _ _)).trans (Kp.alloc _ _) | with_reducible exact K3.out.trans (Kp.drew _) | with_reducible exact K3.out.trans (Kp.drewN _ _))).trans kk)
  clear kk c0 c1 c2 c3 c4 c5 c6 c7
  obtain ⟨c0, c1, c2, c3, c4, c5, c6, c7⟩ := HB.out w4 K4.out
  rcases hb with rfl | rfl
  rotate_left
  · go_wp2
    go_ret
    exact ⟨rfl, K00.out.trans K4.out⟩
  go_wp2_with fail
  refine (SN.out _ (K00.out.trans (by first | with_reducible exact K4.out | with_reducible exact K4.out.trans (Kp.alloc _ _) | with_reducible exact (K4.out.trans (Kp.alloc _ _)).trans (Kp.alloc _ _) | with_reducible exact ((K4.out.trans (Kp.alloc _ _)).trans (Kp.alloc _ _)).trans (Kp.alloc _ _) | with_reducible exact K4.out.trans (Kp.drew _) | with_reducible exact K4.out.trans (Kp.drewN _ _)))).mono ?_
  rintro e w5 ⟨rfl, kk⟩
  have K5 := Lib.hid ((show Kp w3 _ from (by first | with_reducible exact K4.out | with_reducible exact K4.out.trans (Kp.alloc _ _) | with_reducible exact (K4.out.trans (Kp.alloc _ _)).trans (Kp.alloc _ _) | with_reducible exact ((K4.out.trans (Kp.alloc _ _)).trans (Kp.alloc _ _)).trans (Kp.alloc _ _) | with_reducible exact K4.out.trans (Kp.drew _) | with_reducible exact K4.out.trans (Kp.drewN _ _))).trans kk)
  clear kk
  clear c0 c1 c2 c3 c4 c5 c6 c7
  obtain ⟨c0, c1, c2, c3, c4, c5, c6, c7⟩ := HB.out w5 K5.out
  go_wp2_with fail
  refine (OF.out _ (K00.out.trans (by first | with_reducible exact K5.out | with_reducible exact K5.out.trans (Kp.alloc _ _) | with_reducible exact (K5.out.trans (Kp.alloc _ _)).trans (Kp.alloc _ _) | with_reducible exact ((K5.out.trans (Kp.alloc _ _)).trans (Kp.alloc _ _)).trans (Kp.alloc _ _) | with_reducible exact K5.out.trans (Kp.drew _) | with_reducible exact K5.out.trans (Kp.drewN _ _)))).mono ?_
  rintro e w6 ⟨v7, rfl, h7, kk⟩
  have K6 := Lib.hid ((show Kp w3 _ from (by first | with_reducible exact K5.out | with_reducible exact K5.out.trans (Kp.alloc _ _) | with_reducible exact (K5.out.trans (Kp.alloc _ _)).trans (Kp.alloc _ _) | with_reducible exact ((K5.out.trans (Kp.alloc _ _)).trans (Kp.alloc _ _)).trans (Kp.alloc _ _) | with_reducible exact K5.out.trans (Kp.drew _) | with_reducible exact K5.out.trans (Kp.drewN _ _))).trans kk)
  have LV := Lib.hid h7
  obtain ⟨ad7, cp7, rfl⟩ := h7.slice
  clear kk h7
  clear c0 c1 c2 c3 c4 c5 c6 c7
  obtain ⟨c0, c1, c2, c3, c4, c5, c6, c7⟩ := HB.out w6 K6.out
  obtain ⟨i0, hi, hz0, hz1, hz2⟩ := info_parts infoLeaf
  clear c0 c1 c2 c3 c4 c5 c6 c7
  go_wp2
  go_loopw [7, 8] (fun s i ws => ∃ (j : Nat) (ms : List (LF × VV)), j ≤ l.length ∧ i = .int .i64 j ∧ Hid (ms.map Prod.fst = dnSL (l.take j)) ∧ Hid (OwnV ws w6.heap.size ms) ∧ Hid (ws.ownsRow w6.heap.size 36 4 s ms.length (cellsV ms)) ∧ Hid (∀ i, i < j → dnE (nth l i) = 0) ∧ Hid (Kp w6 ws)) (fun _ i _ => l.length - (intOf i).toNat)
  case atStart => exact ⟨0, [], Nat.zero_le _, rfl, Lib.hid T0.out.symm, Lib.hid (fun p hp => by cases hp), Lib.hid (World.ownsRow_nil _ _ _ _), Lib.hid (fun i hi => by omega), Lib.hid (Kp.refl w6)⟩
  case round =>
    obtain ⟨j, ms, hj, rfl, MJ, VJ, OJ, FJ, KJ⟩ := hrel
    by_cases hlt : j < l.length
    · have kww : Kp W0 wr := K00.out.trans (K6.out.trans KJ.out)
      obtain ⟨bk, off, vi, rfl, hrow, hsub⟩ := (HLW.out.kp kww).get hlt
      obtain ⟨e0, e1, e2, e3, e4, e5, e6, e7⟩ := hrow
      have IX := EV.out j vi wr hsub kww
      have sj := SA.out j hlt
      rw [ofE_sane sj] at IX
      have ej := EA.out j hlt FJ.out
      have tk := TK.out j hlt
      have lj := LN.out j hlt
      have fy := fun h => ofS_sane (n := nth l j) sj h
      have fn' := fun h => ofS_none (n := nth l j) h
      have l0 := LB.out j
      have L0 := Lib.hid (show ms.length ≤ 64 by rw [map_fst_len MJ.out]; exact l0)
      obtain ⟨x, hx⟩ : ∃ x, nth l j = x := ⟨_, rfl⟩
      rw [hx] at e0 e1 e2 e3 e4 e5 e6 IX ej tk lj fy fn' hsub
      obtain ⟨dn, hdn⟩ : ∃ u, dnE x = u := ⟨_, rfl⟩
      obtain ⟨ds, hds⟩ : ∃ u, dnS x = u := ⟨_, rfl⟩
      obtain ⟨os, hos⟩ : ∃ u, ofS x = u := ⟨_, rfl⟩
      rw [hdn] at IX ej fy fn'
      rw [hds] at tk lj fy
      rw [hos] at IX fy fn'
      have HX := Lib.hid hx
      have HDN := Lib.hid hdn
      have EJ := Lib.hid ej
      have TJ := Lib.hid tk
      have LJ := Lib.hid lj
      have FY := Lib.hid fy
      clear sj ej tk lj fy fn' l0 hx hdn hds hos kww
      obtain ⟨k1, ⟨pk1, y1, m1, q1⟩, a1, t1, l1⟩ := x
      simp only [ND.k, ND.p, ND.a, ND.t, ND.l] at e0 e1 e2 e3 e4 e5 e6 hsub
      obtain ⟨ad1, cp1, rfl⟩ := hsub.slice
      (try unfold ndV at IX)
      simp only [ND.k, ND.p, ND.a, ND.t, ND.l] at IX
      have IXH := Lib.hid IX
      have z1 : (j : Int) < (l.length : Int) := by omega
      have z3 : (0 : Int) ≤ (j : Int) := by omega
      have HLT := Lib.hid hlt
      have hbk := World.block_lt_of_cell? _ _ e0
      simp only at hbk
      clear hsub IX
      go_wp2_with fail
      refine IXH.out.mono ?_
      rintro e w7 ⟨v7, rfl, hf7, k7⟩
      obtain ⟨m7, hm7, ov7, own7⟩ := hf7
      obtain ⟨ad8, cp8, rfl⟩ := own_slice4 own7
      have B7 := Lib.hid (Below.size KJ.out)
      have VJ7 := Lib.hid (VJ.out.kp k7)
      have OJ7 := Lib.hid (own_kp OJ.out k7)
      have OV7 := Lib.hid (ov7.mono B7.out)
      have SR7 := Lib.hid (own_srcV own7)
      have H7 := Lib.hid (cellsV_length m7)
      have ONE7 := Lib.hid (cellsV_one ov7.reads)
      have M7 := Lib.hid hm7
      have KE := Lib.hid (show Kp w6 w7 from KJ.out.trans k7)
      clear k7 ov7 own7 hm7 VJ OJ e0 e1 e2 e3 e4 e5 e6 e7
      by_cases hn : dn = 0
      · subst hn
        have N7 := Lib.hid (show m7.length ≤ 64 by rw [map_fst_len M7.out, FY.out rfl]; exact LJ.out)
        go_wp2_with (first
          | (at_builtin; refine wpList_app rfl (.tmp 60) (.tmp 61) 29 rfl w6.heap.size 36 i0 (.agg #[.bool false, .int .i64 0, .slice none 0 0, .slice none 0 0]) 4 64 Tryz.underlying29 hi hz0 hz1 hz2 rfl (by decide) _ _ _ rfl OJ7.out _ _ _ rfl SR7.out H7.out ONE7.out (by have a := L0.out; have b := N7.out; unfold maxLen; omega) (by have a := L0.out; have b := N7.out; omega) (Below.size KE.out) ?_; intro v8 w8 own8 hgrow8 hat8; have K8 := Lib.hid (KE.out.grown hgrow8 (fun j hj => (OJ7.out.lt j hj).1)); have V8 := Lib.hid ((VJ7.out.append OV7.out).grown hgrow8 OJ7.out); have O8 := Lib.hid own8; clear hgrow8 hat8 own8))
        go_wp2
        go_roundw
        case rel => exact ⟨j + 1, ms ++ m7, HLT.out, by go_num, Lib.hid (by rw [List.map_append, MJ.out, M7.out, FY.out (by first | trivial | rfl), TJ.out]), V8, Lib.hid (by rw [List.length_append, cellsV_append]; exact O8.out), Lib.hid (fun i hi => by
          by_cases c : i < j
          · exact FJ.out i c
          · obtain rfl : i = j := by omega
            rw [HX.out, HDN.out]), K8⟩
        case measure => have := HLT.out; simp [intOf]; omega
      · have ej := EJ.out hn
        rw [HEL.out] at ej
        have fe : fs = [] := by rw [← HFS.out]; exact ENH.out (by rw [HEL.out, ej]; exact hn)
        subst ej
        subst fe
        have q1 : (el == 0) = false := beq_eq_false_iff_ne.2 hn
        have q2 : (el != 0) = true := by simp [hn]
        have q3 : (el == el) = true := by simp
        clear hn
        go_wp2
        go_ret
        exact ⟨rfl, K00.out.trans (K6.out.trans KE.out)⟩
    · obtain rfl : j = l.length := by omega
      have z0 := EZ.out FJ.out
      rw [HEL.out] at z0
      have fe : fs = dnSL l := by rw [← HFS.out]; exact ESH.out (by rw [HEL.out]; exact z0)
      have mj := MJ.out
      rw [TL.out, ← fe] at mj
      have ok := LK.out (by rw [HEL.out]; exact z0)
      rw [← fe] at ok
      have la := leavesAt_own OJ.out VJ.out.reads
      rw [mj] at la
      obtain ⟨ad9, cp9, rfl⟩ := own_slice4 OJ.out
      have C := Lib.hid (SAM.out _ _ fs wr (LV.out.kp (KJ.out)) la ok)
      subst z0
      clear fe mj ok la
      go_wp2_with fail
      refine C.out.mono ?_
      rintro e w9 ⟨rfl, kk⟩
      have K9 := Lib.hid (KJ.out.trans kk)
      clear kk
      go_wp2
      go_ret
      exact ⟨rfl, K00.out.trans (K6.out.trans K9.out)⟩
theorem denoteList_walk (vl : Value) (l : List ND) (w : World) (hl : NodesAt w vl l) (T : Tabs8 w) :
    Calls Tryz.prog 4 #[vl] w fun e w' => e = .returned (.bool true) ∧ Kp w w' := by
  by_cases h12 : l.length ≤ 12
  · rcases Bool.eq_false_or_eq_true (saneN saneP (.mk 2 e15 false false l : ND)) with hs | hs
    · exact dlist_yes vl l w hl T h12 hs
    · exact dlist_no vl l w hl T h12 hs
  · exact dlist_long vl l w hl T (by omega)
end Go.Proofs.YtmklpimaemogcaaGreatDoor

namespace Go.Proofs.YtmklpimaemogcaaGreatDoor.lawDenoteList
open Go.ChangeShapes Go.WideShapes Go.ChangeAt Go.RowKit
open Go.ChangeMaps (open_string shut_string)
set_option linter.unusedVariables false

theorem own : ownKnob Tryz.prog.godebug = none := by kernel_rfl
theorem laidOut : laidOutB Tryz.prog = true := by kernel_rfl

/-- A world for the witness: the settled one, each table holding what its initialiser lays. -/
noncomputable def laidWorld (os : Os) : World :=
  { World.holding Tryz.prog os ⟨#[], #[], []⟩ with heap := (((((World.holding Tryz.prog os ⟨#[], #[], []⟩).heap.modify 3 fun
      | .cells _ t frozen => .cells #[.int .i64 0, .int .i64 31, .int .i64 28, .int .i64 31, .int .i64 30, .int .i64 31, .int .i64 30, .int .i64 31, .int .i64 31, .int .i64 30, .int .i64 31, .int .i64 30, .int .i64 31] t frozen
      | o => o).modify 0 fun
      | .cells _ t frozen => .cells #[.int .i64 3652425, .int .i64 120000, .int .i64 40000, .int .i64 10000, .int .i64 1000, .int .i64 100] t frozen
      | o => o).modify 1 fun
      | .cells _ t frozen => .cells #[.int .i64 4, .int .i64 2, .int .i64 2, .int .i64 12, .string ⟨#[]⟩, .int .i64 4, .int .i64 2, .int .i64 0, .int .i64 12, .string ⟨#[]⟩, .int .i64 4, .int .i64 1, .int .i64 0, .int .i64 4, .string ⟨#[]⟩, .int .i64 4, .int .i64 0, .int .i64 0, .int .i64 0, .string ⟨#[]⟩, .int .i64 3, .int .i64 0, .int .i64 0, .int .i64 0, .string ⟨#[100]⟩, .int .i64 2, .int .i64 0, .int .i64 0, .int .i64 0, .string ⟨#[99]⟩] t frozen
      | o => o).modify 2 fun
      | .cells _ t frozen => .cells #[.int .i64 3, .int .i64 1, .int .i64 1, .int .i64 2, .int .i64 1, .int .i64 1] t frozen
      | o => o) }
theorem laid_met (os : Os) : laidMet Tryz.prog Rows.denoteListRow.laid ((laidWorld os).forCall (fun _ _ => 0) ⟨#[], #[.slice none 0 0], []⟩).memory :=
  laidMet_of_run' 8 (by kernel_rfl) (by kernel_rfl)
theorem reads (os : Os) {H : Type} (enc : TypeId × Value → H) : ∃ places, DataW.whole enc Tryz.prog ((laidWorld os).forCall (fun _ _ => 0) ⟨#[], #[.slice none 0 0], []⟩).memory Tryz.f4.params.toList Rows.denoteListSpec.vars false (#[.slice none 0 0] : Array Value).toList 8 = some ([.nil], [], places) :=
  ⟨[], by kernel_rfl⟩

set_option maxRecDepth 100000 in
theorem contract (H : Type) (enc : TypeId × Value → H) (W : World) (base : Nat) (args : Array Value) (ds gs : List (DataW H)) (before : List MemPlace)
    (hval : ∀ (j : Nat) t v, Tryz.f4.params[j]? = some t → args[j]? = some v → Value.okWide Tryz.prog W .any base t v)
    (hW : DataW.Whole enc Tryz.prog Tryz.f4.params.toList Rows.denoteListSpec.vars false W args.toList ds gs before) (hL : laidMetH Tryz.prog Rows.denoteListRow.laid W) :
    Calls Tryz.prog 4 args W fun e W' => ∃ v, e = .returned v ∧ Rows.denoteListSpec.post enc Tryz.prog Tryz.f4 false true false false W args v W' := by
  have hW' := hW
  have hltA : ∀ x ∈ before, x.block < W.heap.size := fun x hx => by simpa using hW'.lt x hx
  obtain ⟨p, q, hA0, hV, rfl, hfz, hnd⟩ := hW
  have hA : DataW.TrodAll enc Tryz.prog W 0 (fun _ => true) true Tryz.f4.params.toList args.toList ds p := hA0
  rw [Tryz.params4] at hA hval
  obtain ⟨v0, vs0, d0, ds0, p0, q0, hargs, rfl, rfl, h0, r0⟩ := trodAll_cons hA
  obtain ⟨rfl, rfl, rfl⟩ := trodAll_nil r0
  obtain rfl : args = #[v0] := by cases args; simp_all
  obtain ⟨rfl, rfl⟩ := trodVars_none hV
  have hk0 := h0
  obtain ⟨l0, hn0, gn0, wg0⟩ := open_nodes (hval 0 24 v0 rfl rfl) h0
  clear hA0
  simp only [List.append_nil] at hW'
  refine (denoteList_walk v0 l0 W hn0 (tabs_of hL)).mono fun e W' ⟨he, hg⟩ => ?_
  subst he
  have bel : Below W.heap.size W W' := hg
  exact ⟨_, rfl, _, _, _, [], _, [], hW', trodAll_mk1 (shut_bool Tryz.underlying4 _), (trodAll_cons_mk (Below.trod laidOut (by kernel_rfl) (of_decide_eq_true (by kernel_rfl)) hk0 bel (fun x hx => hltA x (by simp [hx]))) trodAll_mk0), rfl, bel.frame _, fun h => by cases h⟩

set_option maxRecDepth 100000 in
theorem lifted (os : Os) (started : os.Started) (H : Type) (enc : TypeId × Value → H) (F : Stop.Interp) :
    ReturnsInHanded {} Tryz.checked os 4 .any ((OpenSpec.ofChange Rows.denoteListSpec).preRow enc Tryz.prog Tryz.f4 Rows.denoteListRow.domain false Rows.denoteListRow.laid) (((OpenSpec.ofChange Rows.denoteListSpec).at F).post enc Tryz.prog Tryz.f4 false true false false) := by
  obtain ⟨places, hx⟩ := reads os enc
  refine returnsInHanded_of_row (C := Tryz.checked) (s := OpenSpec.ofChange Rows.denoteListSpec) own started (by kernel_rfl) Tryz.func4
    (witness_row_at (enc := enc) (C := Tryz.checked) false (laidWorld os) #[.slice none 0 0] rfl (by kernel_rfl) (by kernel_rfl) (by kernel_rfl)
      (OpenSpec.preRow_of_cond 8 hx (by kernel_rfl) (fun k hk => by cases hk) (by kernel_rfl) (laid_met os))) ?_
  intro W base args ds gs before hval hW _ hcond _ hL _ _
  exact contract H enc W base args ds gs before hval hW hL

theorem said : Rows.DenoteListSaid :=
  OpenClaim.holds_of_cond 4 Tryz.f4 rfl rfl rfl rfl rfl rfl rfl ⟨rfl, rfl, rfl, rfl, rfl⟩ rfl rfl rfl rfl rfl (by kernel_rfl) Tryz.func4 (by kernel_rfl)
    (of_decide_eq_true (by kernel_rfl)) (by unfold Func.isWrapper; first | (rw [if_pos (by decide +kernel)]; kernel_rfl) | (rw [if_neg (by decide +kernel)]; exact ⟨rfl, rfl⟩))
    (fun os started H enc _ F => by rw [OpenClaim.pre_eq_preRow]; exact lifted os started H enc F)

theorem plain (f : FuncId) (fn : Func) (hf : Tryz.pinned.checked.prog.funcNamed "lustrum/lustrumlaw15.DenoteList" = some f) (hfn : Tryz.pinned.checked.prog.funcs[f]? = some fn) :
    true = Tryz.pinned.checked.prog.looks [] ∧ ∀ (j : Nat) t, fn.params[j]? = some t → Tryz.pinned.checked.prog.wantsStandIn t = false := by
  obtain rfl : f = 4 := Option.some.inj ((show Tryz.prog.funcNamed "lustrum/lustrumlaw15.DenoteList" = some 4 by kernel_rfl).symm.trans hf) |>.symm
  obtain rfl : fn = Tryz.f4 := (Option.some.inj (Tryz.func4.symm.trans hfn)).symm
  refine ⟨by kernel_rfl, fun j t ht => ?_⟩
  rw [Tryz.params4] at ht
  have hm := Array.mem_of_getElem? ht
  have ho : t = 24 := by first | simpa using hm | (simp at hm; rcases hm with h <;> simp [h])
  subst ho
  exact (show Tryz.prog.wantsStandIn 24 = false by kernel_rfl)

/-- THE CARD. -/
theorem proved : Rows.DenoteListCardSaid :=
  Claim7.holds_tied_plain_at .later [] _ _ _ _ said (fun _ h => by cases h) (by kernel_rfl) (fun _ h => by cases h) denoteList_row_tie rfl ⟨rfl, rfl⟩ (by kernel_rfl) rfl plain (by kernel_rfl)
#print axioms proved
end Go.Proofs.YtmklpimaemogcaaGreatDoor.lawDenoteList
