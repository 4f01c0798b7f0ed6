/-
  Layer 22: few families; awake: the document's example.
-/
import Derived.Test.YtjdnejglapnbbaaGreatDoorNwK
import Derived.Test.YtjdnejglapnbbaaGreatDoorNwB
import Derived.Test.YtjdnejglapnbbaaGreatDoorGLeafA
namespace Go.Proofs.YtjdnejglapnbbaaGreatDoor
open Go.RowKit
set_option linter.unusedVariables false
set_option linter.unusedSimpArgs false
def yrsF (lo hi' : Int) : LF := ⟨false, 3, [(lo, hi')], []⟩
def spnF (a b : Int) : LF := ⟨true, 0, [(a, a)], [(b, b)]⟩
theorem leaf_oneN {w : World} {B : Nat} {s : Bool} {u : Int} {va vb : Value} {a b : List R} {T : TypeId} (h : w.heap[B]? = some (.cells #[.bool s, .int .i64 u, va, vb] T (0, 0))) (ha : RunsAt w va a) (hb : RunsAt w vb b) : LeavesAt w (.slice (some ⟨B, 0, none⟩) 1 1) [⟨s, u, a, b⟩] := by
  refine .inr ⟨B, 0, 1, rfl, Nat.le_refl _, by unfold maxLen; omega, fun i hi => ?_⟩
  obtain rfl : i = 0 := by simp at hi; omega
  obtain ⟨c0, c1, c2, c3⟩ := row4 h
  exact ⟨va, vb, c0, c1, c2, c3, ha, hb⟩
set_option maxHeartbeats 2000000 in
theorem years_any (lo hi' : Int) (w : World) : Calls Tryz.prog 60 #[.int .i64 lo, .int .i64 hi'] w fun e w' => ∃ b, e = .returned (.slice (some ⟨b, 0, none⟩) 1 1) ∧ LeavesAt w' (.slice (some ⟨b, 0, none⟩) 1 1) [yrsF lo hi'] ∧ Kp w w' := by
  obtain ⟨W0, hW⟩ : ∃ W0, W0 = (w.alloc (.cells #[.int .i64 lo, .int .i64 hi'] 53)).alloc (.cells #[.bool false, .int .i64 3, .slice (some ⟨w.heap.size, 0, none⟩) 1 1, .slice none 0 0] 47) := ⟨_, rfl⟩
  have k0 : Kp w W0 := by rw [hW]; exact (Kp.alloc _ _).trans (Kp.alloc _ _)
  have g : W0.heap[w.heap.size + 1]? = some (.cells #[.bool false, .int .i64 3, .slice (some ⟨w.heap.size, 0, none⟩) 1 1, .slice none 0 0] 47 (0, 0)) := by rw [hW]; exact heap_at _ _ _ (by simp)
  have r : RunsAt W0 (.slice (some ⟨w.heap.size, 0, none⟩) 1 1) [(lo, hi')] := by rw [hW]; exact (one_at w lo hi' _).kp (Kp.alloc _ _)
  have D := Lib.hid (show LeavesAt W0 (.slice (some ⟨w.heap.size + 1, 0, none⟩) 1 1) [yrsF lo hi'] ∧ Kp w W0 from ⟨leaf_oneN g r (.inl ⟨_, _, rfl, rfl⟩), k0⟩)
  have HW := Lib.hid hW
  clear hW k0 g r
  go_enter Tryz.func60, Tryz.ntmps60
  go_wp2
  rw [← HW.out]
  go_ret
  exact ⟨_, rfl, D.out.1, D.out.2⟩
theorem yr_i64 {lo hi' : Int} (h1 : -9223372036854775808 ≤ lo) (h2 : lo ≤ 9223372036854775807) (h3 : -9223372036854775808 ≤ hi') (h4 : hi' ≤ 9223372036854775807) : LsOk [yrsF lo hi'] := by
  intro f hf
  rw [List.mem_singleton.1 hf]
  exact ⟨i64_one h1 h2 h3 h4, fun r h => (by cases h), by simp [yrsF], by simp [yrsF]⟩
theorem sp_i64 {a b : Int} (h1 : -9223372036854775808 ≤ a) (h2 : a ≤ 9223372036854775807) (h3 : -9223372036854775808 ≤ b) (h4 : b ≤ 9223372036854775807) : LsOk [spnF a b] := by
  intro f hf
  rw [List.mem_singleton.1 hf]
  exact ⟨i64_one h1 h2 h1 h2, i64_one h3 h4 h3 h4, by simp [spnF], by simp [spnF]⟩
theorem sml_one {f : LF} (ha : f.a.length ≤ 40) (hb : f.b.length ≤ 40) : Sml [f] := ⟨fun g hg => by rw [List.mem_singleton.1 hg]; exact ⟨ha, hb⟩, by simp⟩
theorem nar_some {l m : List LF} {n : Int} {L : List LF} (h : NarP l m n L) (ok : (okEs l && okEs m) = true) (np : (l.flatMap fun f => pairsF (famR f)).length ≤ 400) {S T : Int} (q : leftP l m S T) : n = 0 ∧ (∀ g ∈ L, GLf g) ∧ ∀ S T, hasL L S T = true ↔ leftP l m S T := by
  rcases h with ⟨_, _, h | ⟨_, h⟩⟩ | ⟨_, _, _, h⟩ | ⟨h1, _, _, h2, h3, _⟩
  · rw [ok] at h; cases h
  · have := wide_pairs h; omega
  · exact absurd q (h S T)
  · exact ⟨h1, h2, h3⟩
theorem nar_none {l m : List LF} {n : Int} {L : List LF} (h : NarP l m n L) (ok : (okEs l && okEs m) = true) (q : ∀ S T, ¬ leftP l m S T) : n = 9 := by
  rcases h with ⟨_, _, h | ⟨_, h⟩⟩ | ⟨h, _⟩ | ⟨_, h0, _, h2, h3, _⟩
  · rw [ok] at h; cases h
  · obtain ⟨S, T, p⟩ := wideS_some h
    exact absurd p (q S T)
  · exact h
  · obtain ⟨S, T, p⟩ := good_some h2 h0
    exact absurd ((h3 S T).1 p) (q S T)
theorem yr_has {lo hi' S T : Int} (hl : leafB (yrsF lo hi') = true) : hasL [yrsF lo hi'] S T = true ↔ ∃ i, memR [(lo, hi')] i ∧ fst 3 i = S ∧ lst 3 i = T := by
  rw [hasL_iff]
  constructor
  · rintro ⟨f, hf, g⟩
    rw [List.mem_singleton.1 hf] at g
    exact (hasF_un hl rfl S T).1 g
  · intro h
    exact ⟨_, List.mem_singleton.2 rfl, (hasF_un hl rfl S T).2 h⟩
theorem yr_in {lo hi' S T : Int} (hl : leafB (yrsF lo hi') = true) : inL [yrsF lo hi'] S T ↔ S ≤ T ∧ ∃ i, memR [(lo, hi')] i ∧ fst 3 i ≤ S ∧ T ≤ lst 3 i := by
  unfold inL inF
  constructor
  · rintro ⟨h, f, hf, x, y, g, a, b⟩
    rw [List.mem_singleton.1 hf] at g
    obtain ⟨i, m, rfl, rfl⟩ := (hasF_un hl rfl x y).1 g
    exact ⟨h, i, m, a, b⟩
  · rintro ⟨h, i, m, a, b⟩
    exact ⟨h, _, List.mem_singleton.2 rfl, _, _, (hasF_un hl rfl _ _).2 ⟨i, m, rfl, rfl⟩, a, b⟩
theorem awA {n : Int} {L : List LF} (h : NarP [yrsF 1980 1989] [spnF 724276 725736] n L) : n = 0 ∧ LsOk L ∧ hasL L 724641 725006 = true ∧ hasL L 723911 724275 = false := by
  have p1 : leftP [yrsF 1980 1989] [spnF 724276 725736] 724641 725006 := ⟨(yr_has (by decide +kernel)).2 ⟨1984, (memR_one _ _ _).2 (by omega), by decide +kernel, by decide +kernel⟩, (inB_iff _ _ _).1 (by decide +kernel)⟩
  obtain ⟨h1, h2, h3⟩ := nar_some h (by decide +kernel) (by decide +kernel) p1
  refine ⟨h1, good_ok h2, (h3 _ _).2 p1, ?_⟩
  rcases Bool.eq_false_or_eq_true (hasL L 723911 724275) with q | q
  · have := (inB_iff _ _ _).2 ((h3 _ _).1 q).2
    rw [show inB [spnF 724276 725736] 723911 724275 = false by decide +kernel] at this
    cases this
  · exact q
theorem awB {n : Int} {L : List LF} (h : NarP [yrsF 1 1] [yrsF 2 2] n L) : n = 9 := by
  refine nar_none h (by decide +kernel) fun S T q => ?_
  obtain ⟨i, m1, rfl, rfl⟩ := (yr_has (by decide +kernel)).1 q.1
  obtain ⟨_, k, m2, a, b⟩ := (yr_in (by decide +kernel)).1 q.2
  rw [memR_one] at m1 m2
  obtain rfl : i = 1 := by omega
  obtain rfl : k = 2 := by omega
  have : fst 3 1 < fst 3 2 := by decide +kernel
  omega
theorem awC : inB [yrsF 1984 1984] 724641 724641 = true := (inB_iff _ _ _).2 ((yr_in (by decide +kernel)).2 ⟨Int.le_refl _, 1984, (memR_one _ _ _).2 (by omega), by decide +kernel, by decide +kernel⟩)
set_option maxHeartbeats 16000000 in
set_option maxRecDepth 100000 in
theorem nwHas_any (v : Value) (l : List LF) (S E : Int) (w : World) (hv : LeavesAt w v l) (hl : LsOk l) (T : Tabs w) (b1 : -9223372036854775808 ≤ S) (b2 : S ≤ 9223372036854775807) (b3 : -9223372036854775808 ≤ E) (b4 : E ≤ 9223372036854775807) :
    Calls Tryz.prog 32 #[v, .agg #[.int .i64 S, .int .i64 E]] w fun e w' => e = .returned (.bool (hasL l S E)) ∧ Kp w w' := by
  have hm := hv.len
  unfold maxLen at hm
  obtain ⟨ad, cp, rfl⟩ := hv.slice
  obtain ⟨W0, hW⟩ : ∃ x, x = w.alloc (.cells #[.int .i64 S, .int .i64 E] 35) := ⟨_, rfl⟩
  have k0 : Kp w W0 := by rw [hW]; exact Kp.alloc _ _
  have g0 : W0.heap[w.heap.size]? = some (.cells #[.int .i64 S, .int .i64 E] 35 (0, 0)) := by rw [hW]; exact heap_at _ _ _ rfl
  have HB := Lib.hid (fun w' (kq : Kp W0 w') => row2 (heap_block kq g0))
  have HV := Lib.hid (hv.kp k0)
  have HL := Lib.hid hl
  have TT := Lib.hid (T.kp k0)
  have NO := Lib.hid (fun h => hasL_no (l := l) (S := S) (T := E) h)
  have YES := Lib.hid (fun k (h : k < l.length) g => hasL_yes (l := l) (S := S) (T := E) h g)
  have K0 := Lib.hid k0
  have HW := Lib.hid hW
  clear hv hl T k0 g0 hW
  generalize hasL l S E = r at *
  go_enter Tryz.func32, Tryz.ntmps32
  go_wp2_with fail
  rw [← HW.out]
  go_loopw [9] (fun i wr => ∃ k : Nat, k ≤ l.length ∧ i = .int .i64 k ∧ Hid (∀ i, i < k → hasF (famR (lat l i)) S E = false) ∧ Hid (Kp W0 wr)) (fun i _ => l.length - (intOf i).toNat)
  case atStart => exact ⟨0, Nat.zero_le _, rfl, Lib.hid (fun i h => by omega), Lib.hid (Kp.refl _)⟩
  case round =>
    obtain ⟨k, hk, rfl, FA, J⟩ := hrel
    by_cases hlt : k < l.length
    · have q1 : decide ((k : Int) < (l.length : Int)) = true := decide_eq_true (by omega)
      rcases HV.out.kp J.out with ⟨_, _, _, e⟩ | ⟨b0, off, cap, ev, hc, hmx, hx⟩
      · rw [e] at hlt; simp at hlt
      cases ev
      obtain ⟨va, vb, d0, d1, d2, d3, ra, rb⟩ := hx k hlt
      have LOK := HL.out _ (lat_mem hlt)
      obtain ⟨f, hf⟩ : ∃ f, lat l k = f := ⟨_, rfl⟩
      rw [hf] at d0 d1 ra rb
      (try rw [hf] at LOK)
      obtain ⟨sp, u, a, b⟩ := f
      simp only at d0 d1 ra rb
      (try simp only at LOK)
      obtain ⟨aa, ca, rfl⟩ := ra.slice
      obtain ⟨ab, cb, rfl⟩ := rb.slice
      have HF := Lib.hid hf
      have z1 : (k : Int) < (l.length : Int) := by omega
      have z2 : (0 : Int) ≤ (k : Int) := by omega
      clear hx hc hmx hf
      have C := Lib.hid (fun w1 (kk : Kp wr w1) => leafHas_any ⟨sp, u, a, b⟩ _ _ S E w1 ⟨ra.kp kk, rb.kp kk, LOK.1, LOK.2.1, LOK.2.2.1, LOK.2.2.2⟩ (TT.out.kp (J.out.trans kk)) b1 b2 b3 b4)
      simp only [leafV] at C
      have N := Lib.hid (fun (g : hasF (famR ⟨sp, u, a, b⟩) S E = true) => YES.out k hlt (show hasF (famR (lat l k)) S E = true by rw [HF.out]; exact g))
      have Y := Lib.hid (fun (g : hasF (famR ⟨sp, u, a, b⟩) S E = false) => (by rw [HF.out]; exact g : hasF (famR (lat l k)) S E = false))
      generalize hasF (famR ⟨sp, u, a, b⟩) S E = eb at *
      obtain ⟨V, hV⟩ : ∃ x, x = wr.alloc (.cells #[.bool sp, .int .i64 u, .slice aa a.length ca, .slice ab b.length cb] 47) := ⟨_, rfl⟩
      have kv : Kp wr V := by rw [hV]; exact Kp.alloc _ _
      have gv : V.heap[wr.heap.size]? = some (.cells #[.bool sp, .int .i64 u, .slice aa a.length ca, .slice ab b.length cb] 47 (0, 0)) := by rw [hV]; exact heap_at _ _ _ rfl
      obtain ⟨e0, e1, e2, e3⟩ := row4 gv
      obtain ⟨s0, s1⟩ := HB.out V (J.out.trans kv)
      have KV := Lib.hid kv
      have HVV := Lib.hid hV
      clear ra rb YES hV kv gv
      go_upto_region 4 with fail
      rw [← HVV.out]
      clear HVV d0 d1 d2 d3
      cases eb with
      | true =>
        have hr := N.out (by first | rfl | trivial)
        subst hr
        go_wp2_with fail
        refine (C.out _ KV.out).mono ?_
        rintro e w1 ⟨rfl, kk⟩
        have J1 := Lib.hid (K0.out.trans (J.out.trans (KV.out.trans kk)))
        clear kk e0 e1 e2 e3 s0 s1
        go_wp2
        go_ret
        exact ⟨rfl, J1.out⟩
      | false =>
        go_wp2_with fail
        refine (C.out _ KV.out).mono ?_
        rintro e w1 ⟨rfl, kk⟩
        have J1 := Lib.hid (J.out.trans (KV.out.trans kk))
        clear kk e0 e1 e2 e3 s0 s1
        go_wp2
        go_roundw
        case rel => exact ⟨k + 1, by omega, by go_num, Lib.hid (fun i hi => by
          by_cases c : i < k
          · exact FA.out i c
          · obtain rfl : i = k := by omega
            exact Y.out (by first | rfl | trivial)), J1⟩
        case measure => simp [intOf]; omega
    · have q1 : decide ((k : Int) < (l.length : Int)) = false := decide_eq_false (by omega)
      obtain rfl : k = l.length := by omega
      have hr := NO.out FA.out
      subst hr
      go_wp2
      go_ret
      exact ⟨rfl, K0.out.trans J.out⟩
set_option maxHeartbeats 16000000 in
set_option maxRecDepth 100000 in
theorem few22_any (v : Value) (l : List LF) (w : World) (hv : LeavesAt w v l) (g : ∀ f ∈ l, LeafG f) :
    Calls Tryz.prog 26 #[v] w fun e w' => e = .returned (.bool (few22 l)) ∧ Kp w w' := by
  have hm := hv.len
  unfold maxLen at hm
  have C1 := Lib.hid (fewL_any v l w hv)
  have C2 := Lib.hid (fun (h : fewL l = true) w1 (k : Kp w w1) => units20_any v l w1 (hv.kp k) (fewL_ok h g).1 (by have := (fewL_ok h g).2; omega))
  have FE : few22 l = (fewL l && (decide (unitsN l ≤ 60) && decide ((l.length : Int) ≤ 6))) := by
    unfold few22
    congr 2
    exact decide_eq_decide.2 (by omega)
  obtain ⟨ad, cp, rfl⟩ := hv.slice
  rw [FE]
  clear hv g FE
  generalize fewL l = q at *
  cases q with
  | false =>
    go_enter Tryz.func26, Tryz.ntmps26
    go_wp2_with fail
    refine C1.out.mono ?_
    rintro e w1 ⟨rfl, k1⟩
    have K1 := Lib.hid k1
    clear k1
    go_wp2
    go_ret
    exact ⟨rfl, K1.out⟩
  | true =>
    generalize unitsN l = n at *
    obtain ⟨q, hq⟩ : ∃ q : Bool, decide (n ≤ 60) = q := ⟨_, rfl⟩
    obtain ⟨p, hp⟩ : ∃ q : Bool, decide ((l.length : Int) ≤ 6) = q := ⟨_, rfl⟩
    have hp2 : decide (l.length ≤ 6) = p := by rw [← hp]; exact decide_eq_decide.2 (by omega)
    rw [hq, hp]
    cases q with
    | false =>
      go_enter Tryz.func26, Tryz.ntmps26
      go_wp2_with fail
      refine C1.out.mono ?_
      rintro e w1 ⟨rfl, k1⟩
      have K1 := Lib.hid k1
      clear k1
      go_wp2_with fail
      refine (C2.out (by first | rfl | trivial) _ K1.out).mono ?_
      rintro e w2 ⟨rfl, k2⟩
      have K2 := Lib.hid (K1.out.trans k2)
      clear k2
      go_wp2
      go_ret
      exact ⟨rfl, K2.out⟩
    | true =>
      go_enter Tryz.func26, Tryz.ntmps26
      go_wp2_with fail
      refine C1.out.mono ?_
      rintro e w1 ⟨rfl, k1⟩
      have K1 := Lib.hid k1
      clear k1
      go_wp2_with fail
      refine (C2.out (by first | rfl | trivial) _ K1.out).mono ?_
      rintro e w2 ⟨rfl, k2⟩
      have K2 := Lib.hid (K1.out.trans k2)
      clear k2
      go_wp2
      go_ret
      exact ⟨rfl, K2.out⟩
end Go.Proofs.YtjdnejglapnbbaaGreatDoor
