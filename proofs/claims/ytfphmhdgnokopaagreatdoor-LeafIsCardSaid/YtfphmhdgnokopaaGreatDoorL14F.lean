/-
  Layer 14: the walk of LeafTidy.
-/
import Derived.Test.YtfphmhdgnokopaaGreatDoorGLeafB
import Derived.Test.YtfphmhdgnokopaaGreatDoorGLeafA
import Derived.Test.YtfphmhdgnokopaaGreatDoorGSetA
import Derived.Test.YtfphmhdgnokopaaGreatDoorGSetC
import Derived.LoopTactic
namespace Go.Proofs.YtfphmhdgnokopaaGreatDoor
open Go.RowKit
set_option linter.unusedVariables false
set_option linter.unusedSimpArgs false
theorem pairs_tidy {F : Fam} (h : FOK F) : pairsF (famR (lfOf F)) = pairsF F := by
  rw [famR_lfOf h]
  split
  · rename_i e
    have := (pairs_none h).symm.trans e
    have h0 : (pairsF F) = [] := by
      have := of_decide_eq_true this
      rw [List.length_take] at this
      exact List.length_eq_zero_iff.1 (by omega)
    rw [h0]
    rfl
  · rfl
theorem tidy_fok {F : Fam} (h : FOK F) : leafB (lfOf F) = true := leafB_lfOf h
theorem tidy_sane {F : Fam} (h : FOK F) : sane (lfOf F).a ∧ sane (lfOf F).b := by
  have hb := leafB_lfOf h
  rcases Bool.eq_false_or_eq_true (lfOf F).sp with hs | hs
  · have := leafB_span hb hs
    exact ⟨setB_sane this.2.1, setB_sane this.2.2⟩
  · have := leafB_units hb hs
    exact ⟨setB_sane this.2.1, by rw [this.2.2]; trivial⟩
theorem tidy_next {F : Fam} (h : FOK F) (hs : (lfOf F).sp = true) (i : Nat) (hi : i < (lfOf F).a.length) : (nxt (lfOf F).b (at_ (lfOf F).a i).2).2 = true := by
  cases F with
  | units k s =>
    by_cases h0 : s.length = 0
    · rw [lfOf_u0 h0] at hi; exact absurd hi (by simp [lf0])
    · rw [lfOf_u1 h0] at hs; exact absurd hs (by simp)
  | span s e =>
    by_cases h0 : s.length = 0
    · rw [lfOf_s0 h0] at hi; exact absurd hi (by simp [lf0])
    · rw [lfOf_s1 h0] at hi ⊢
      exact span_next h rfl hi
theorem tidy_prev {F : Fam} (h : FOK F) (hs : (lfOf F).sp = true) (i : Nat) (hi : i < (lfOf F).b.length) : (prv (lfOf F).a (at_ (lfOf F).b i).1).2 = true := by
  cases F with
  | units k s =>
    by_cases h0 : s.length = 0
    · rw [lfOf_u0 h0] at hi; exact absurd hi (by simp [lf0])
    · rw [lfOf_u1 h0] at hs; exact absurd hs (by simp)
  | span s e =>
    by_cases h0 : s.length = 0
    · rw [lfOf_s0 h0] at hi; exact absurd hi (by simp [lf0])
    · rw [lfOf_s1 h0] at hi ⊢
      exact span_prev h rfl hi
set_option maxHeartbeats 2000000 in
theorem samePairs_any (v u : Value) (l m : List R) (w : World) (hv : RunsAt w v l) (hu : RunsAt w u m) (hn : l.length ≤ 4000000) (hn2 : m.length ≤ 4000000) :
    Calls Tryz.prog 25 #[v, u] w fun e w' => e = .returned (.bool (decide (l = m))) ∧ Kp w w' := by
  obtain ⟨ad, c, rfl⟩ := hv.slice
  obtain ⟨ad', c', rfl⟩ := hu.slice
  have HV := Lib.hid hv
  have HU := Lib.hid hu
  clear hv hu
  by_cases hlen : l.length = m.length
  · have q : ((l.length : Int) != (m.length : Int)) = false := by simp; omega
    have q' : ((l.length : Int) == (m.length : Int)) = true := by simp; omega
    have HLEN := Lib.hid hlen
    rw [← hlen] at q q' ⊢
    clear hlen
    go_enter Tryz.func25, Tryz.ntmps25
    go_wp2
    go_loopw [5] (fun i wr => ∃ k : Nat, k ≤ l.length ∧ i = .int .i64 k ∧ Hid (∀ i, i < k → at_ l i = at_ m i) ∧ Hid (Kp w wr)) (fun i _ => l.length - (intOf i).toNat)
    case atStart => exact ⟨0, by omega, rfl, Lib.hid (fun i h => by omega), Lib.hid (Kp.refl _)⟩
    case round =>
      obtain ⟨k, hk, rfl, EQ, K1⟩ := hrel
      by_cases hlt : k < l.length
      · rcases HV.out with ⟨_, _, _, e⟩ | ⟨b, off, cap, ev, hc, hm, hx⟩
        · rw [e] at hlt; simp at hlt
        rcases HU.out with ⟨_, _, _, e⟩ | ⟨b', off', cap', ev', hc', hm', hx'⟩
        · have := HLEN.out; rw [e] at this; simp at this; rw [this] at hlt; simp at hlt
        cases ev
        have ev2 := Lib.hid ev'
        rw [← HLEN.out] at ev'
        cases ev'
        obtain ⟨d1, d2⟩ := rd_at hx K1.out k hlt
        obtain ⟨d3, d4⟩ := rd_at hx' K1.out k (by rw [← HLEN.out]; exact hlt)
        clear hx hx' ev2
        obtain ⟨x1, x2, e1⟩ : ∃ x y, at_ l k = (x, y) := ⟨_, _, rfl⟩
        obtain ⟨y1, y2, e2⟩ : ∃ x y, at_ m k = (x, y) := ⟨_, _, rfl⟩
        have NE := Lib.hid (same_ne (l := l) (m := m) (k := k))
        rw [e1, e2] at NE
        have EE := Lib.hid (And.intro e1 e2)
        rw [e1] at d1 d2
        rw [e2] at d3 d4
        simp only at d1 d2 d3 d4
        clear e1 e2
        have z1 : (0 : Int) ≤ (k : Int) := by omega
        have z2 : (k : Int) < l.length := by omega
        by_cases a1 : x1 = y1
        · by_cases a2 : x2 = y2
          · subst a1 a2
            go_wp2_with fail
            go_quiet (fail)
            go_wp2
            go_roundw
            case rel => exact ⟨k + 1, by omega, by go_num, Lib.hid (fun i hi => by
              by_cases c : i < k
              · exact EQ.out i c
              · obtain rfl : i = k := by omega
                rw [EE.out.1, EE.out.2]), Lib.hid (K1.out.trans (Kp.drewN _ _))⟩
            case measure => simp [intOf]; omega
          · have N := Lib.hid (NE.out (fun h => a2 (Prod.mk.inj h).2))
            subst a1
            have q2 : (x2 == y2) = false := by simpa using a2
            go_wp2_with fail
            go_quiet (fail)
            go_wp2
            go_ret
            exact ⟨ret_bool N.out.symm, K1.out.trans (Kp.drewN _ _)⟩
        · have N := Lib.hid (NE.out (fun h => a1 (Prod.mk.inj h).1))
          have q1 : (x1 == y1) = false := by simpa using a1
          go_wp2_with fail
          go_quiet (fail)
          go_wp2
          go_ret
          exact ⟨ret_bool N.out.symm, K1.out.trans (Kp.drewN _ _)⟩
      · have D := Lib.hid (decide_eq_true (at_ext HLEN.out (fun i hi => EQ.out i (by omega))))
        have q3 : decide ((k : Int) < l.length) = false := by simp; omega
        go_wp2
        go_ret
        exact ⟨ret_bool D.out.symm, K1.out⟩
  · have q : ((l.length : Int) != (m.length : Int)) = true := by simp; omega
    have q' : ((l.length : Int) == (m.length : Int)) = false := by simp; omega
    have q2 : ¬ (l.length : Int) = (m.length : Int) := by omega
    have D := Lib.hid (decide_eq_false (fun e : l = m => hlen (by rw [e])))
    go_enter Tryz.func25, Tryz.ntmps25
    go_wp2
    go_ret
    exact ⟨ret_bool D.out.symm, Kp.refl _⟩

theorem samePairs_yes (v u : Value) (l : List R) (w : World) (hv : RunsAt w v l) (hu : RunsAt w u l) (hn : l.length ≤ 4000000) :
    Calls Tryz.prog 25 #[v, u] w fun e w' => e = .returned (.bool true) ∧ Kp w w' := by
  have := samePairs_any v u l l w hv hu hn hn
  rw [decide_eq_true rfl] at this
  exact this
theorem rsame_yes (v u : Value) (l : List R) (w : World) (hv : RunsAt w v l) (hu : RunsAt w u l) (hn : l.length ≤ 4000000) :
    Calls Tryz.prog 16 #[v, u] w fun e w' => e = .returned (.bool true) ∧ Kp w w' := by
  have := rsame_any v u l l w hv hu hn hn
  rw [decide_eq_true rfl] at this
  exact this
set_option maxHeartbeats 4000000 in
set_option maxRecDepth 100000 in
theorem same14_yes (f : LF) (va vb ua ub : Value) (w : World) (h : LeafOk w f va vb) (g : LeafOk w f ua ub) :
    Calls Tryz.prog 28 #[leafV f va vb, leafV f ua ub] w fun e w' => e = .returned (.bool true) ∧ Kp w w' := by
  obtain ⟨ra, rb, ia, ib, na, nb⟩ := h
  obtain ⟨ra', rb', _, _, _, _⟩ := g
  obtain ⟨sp, u, a, b⟩ := f
  simp only at *
  obtain ⟨ad, ca, rfl⟩ := ra.slice
  obtain ⟨bd, cb, rfl⟩ := rb.slice
  obtain ⟨ad', ca', rfl⟩ := ra'.slice
  obtain ⟨bd', cb', rfl⟩ := rb'.slice
  obtain ⟨W0, hW⟩ : ∃ W0, W0 = (w.alloc (.cells #[.bool sp, .int .i64 u, .slice ad a.length ca, .slice bd b.length cb] 24)).alloc (.cells #[.bool sp, .int .i64 u, .slice ad' a.length ca', .slice bd' b.length cb'] 24) := ⟨_, rfl⟩
  have k0 : Kp w W0 := by rw [hW]; exact (Kp.alloc _ _).trans (Kp.alloc _ _)
  have HB := Lib.hid (fun w1 (k : Kp W0 w1) => show w1.cell? ⟨w.heap.size, 0, none⟩ = some (.bool sp) ∧ w1.cell? ⟨w.heap.size, 1, none⟩ = some (.int .i64 u) ∧ w1.cell? ⟨w.heap.size, 2, none⟩ = some (.slice ad a.length ca) ∧ w1.cell? ⟨w.heap.size, 3, none⟩ = some (.slice bd b.length cb) ∧
      w1.cell? ⟨w.heap.size + 1, 0, none⟩ = some (.bool sp) ∧ w1.cell? ⟨w.heap.size + 1, 1, none⟩ = some (.int .i64 u) ∧ w1.cell? ⟨w.heap.size + 1, 2, none⟩ = some (.slice ad' a.length ca') ∧ w1.cell? ⟨w.heap.size + 1, 3, none⟩ = some (.slice bd' b.length cb') from
    ⟨cell_up k (by rw [hW]; simp), cell_up k (by rw [hW]; simp), cell_up k (by rw [hW]; simp), cell_up k (by rw [hW]; simp), cell_up k (by rw [hW]; simp), cell_up k (by rw [hW]; simp), cell_up k (by rw [hW]; simp), cell_up k (by rw [hW]; simp)⟩)
  have A1 := Lib.hid (fun w1 (k : Kp W0 w1) => rsame_yes _ _ a w1 (ra.kp (k0.trans k)) (ra'.kp (k0.trans k)) (by omega))
  have A2 := Lib.hid (fun w1 (k : Kp W0 w1) => rsame_yes _ _ b w1 (rb.kp (k0.trans k)) (rb'.kp (k0.trans k)) (by omega))
  have K0 := Lib.hid k0
  have Z0 := Lib.hid (Kp.refl W0)
  have HW := Lib.hid hW
  unfold leafV
  simp only
  clear hW k0 ra rb ra' rb' ia ib
  have us : (u == u) = true := by simp
  have ss : (sp == sp) = true := by simp
  go_enter Tryz.func28, Tryz.ntmps28
  obtain ⟨c0, c1, c2, c3, c4, c5, c6, c7⟩ := HB.out W0 (Kp.refl _)
  go_wp2_with fail
  rw [← HW.out]
  refine (A1.out _ (by first | with_reducible exact Z0.out | with_reducible exact Z0.out.trans (Kp.alloc _ _) | with_reducible exact (Z0.out.trans (Kp.alloc _ _)).trans (Kp.alloc _ _) | with_reducible exact ((Z0.out.trans (Kp.alloc _ _)).trans (Kp.alloc _ _)).trans (Kp.alloc _ _) | with_reducible exact Z0.out.trans (Kp.drew _) | with_reducible exact Z0.out.trans (Kp.drewN _ _))).mono ?_
  rintro e w1 ⟨rfl, kk⟩
  have Z1 := Lib.hid ((show Kp W0 _ from (by first | with_reducible exact Z0.out | with_reducible exact Z0.out.trans (Kp.alloc _ _) | with_reducible exact (Z0.out.trans (Kp.alloc _ _)).trans (Kp.alloc _ _) | with_reducible exact ((Z0.out.trans (Kp.alloc _ _)).trans (Kp.alloc _ _)).trans (Kp.alloc _ _) | with_reducible exact Z0.out.trans (Kp.drew _) | with_reducible exact Z0.out.trans (Kp.drewN _ _))).trans kk)
  clear kk c0 c1 c2 c3 c4 c5 c6 c7
  obtain ⟨c0, c1, c2, c3, c4, c5, c6, c7⟩ := HB.out w1 Z1.out
  go_wp2_with fail
  refine (A2.out _ (by first | with_reducible exact Z1.out | with_reducible exact Z1.out.trans (Kp.alloc _ _) | with_reducible exact (Z1.out.trans (Kp.alloc _ _)).trans (Kp.alloc _ _) | with_reducible exact ((Z1.out.trans (Kp.alloc _ _)).trans (Kp.alloc _ _)).trans (Kp.alloc _ _) | with_reducible exact Z1.out.trans (Kp.drew _) | with_reducible exact Z1.out.trans (Kp.drewN _ _))).mono ?_
  rintro e w2 ⟨rfl, kk⟩
  have Z2 := Lib.hid ((show Kp W0 _ from (by first | with_reducible exact Z1.out | with_reducible exact Z1.out.trans (Kp.alloc _ _) | with_reducible exact (Z1.out.trans (Kp.alloc _ _)).trans (Kp.alloc _ _) | with_reducible exact ((Z1.out.trans (Kp.alloc _ _)).trans (Kp.alloc _ _)).trans (Kp.alloc _ _) | with_reducible exact Z1.out.trans (Kp.drew _) | with_reducible exact Z1.out.trans (Kp.drewN _ _))).trans kk)
  go_wp2
  go_ret
  exact ⟨rfl, K0.out.trans Z2.out⟩
end Go.Proofs.YtfphmhdgnokopaaGreatDoor
