/-
  Joined: CovA.
-/
import Derived.Test.YtjdnejglapnbbaaGreatDoorGEnv
import Derived.Test.YtjdnejglapnbbaaGreatDoorGSetC
import Derived.Laws.EntriesVeiled
import Derived.LoopTactic
namespace Go.Proofs.YtjdnejglapnbbaaGreatDoor
open Go.RowKit
set_option linter.unusedVariables false
set_option linter.unusedSimpArgs false
theorem any_no {F : LF → Bool} {l : List LF} (h : ∀ i, i < l.length → F (lat l i) = false) : l.any F = false := by
  rw [List.any_eq_false]
  intro f hf
  obtain ⟨i, hi, rfl⟩ := List.mem_iff_getElem.1 hf
  have := h i hi
  unfold lat at this
  rw [List.getD_eq_getElem?_getD, List.getElem?_eq_getElem hi] at this
  rw [show (some l[i]).getD _ = l[i] from rfl] at this
  rw [this]
  decide
theorem any_yes {F : LF → Bool} {l : List LF} {k : Nat} (h : k < l.length) (g : F (lat l k) = true) : l.any F = true := List.any_eq_true.2 ⟨_, lat_mem h, g⟩
set_option maxHeartbeats 16000000 in
set_option maxRecDepth 100000 in
theorem index_any (g : FuncId) (cb : Array Value) (F : LF → Bool) (v : Value) (l : List LF) (w : World)
    (eg : ∀ args w, (callFunc g args).run Tryz.prog w = .ok (.enter g args) w)
    (hc : ∀ f va vb w1, Kp w w1 → f ∈ l → RunsAt w1 va f.a → RunsAt w1 vb f.b → Calls Tryz.prog g (#[.agg #[.bool f.sp, .int .i64 f.u, va, vb]] ++ cb) w1 fun e w' => e = .returned (.bool (F f)) ∧ Kp w1 w')
    (hv : LeavesAt w v l) :
    Calls Tryz.prog 152 #[v, .func (.func g) #[] cb] w fun e w' => ∃ r : Int, e = .returned (.int .i64 r) ∧ decide (0 ≤ r) = l.any F ∧ Kp w w' := by
  have hm := hv.len
  unfold maxLen at hm
  obtain ⟨ad, cp, rfl⟩ := hv.slice
  have HV := Lib.hid hv
  have HC := Lib.hid hc
  have NO := Lib.hid (fun h => any_no (F := F) (l := l) h)
  have YES := Lib.hid (fun k (h : k < l.length) g => any_yes (F := F) h g)
  have HL : Hid (∀ f ∈ l, True) := Lib.hid (fun _ _ => trivial)
  have Z0 := Lib.hid (Kp.refl w)
  clear hv hc
  generalize l.any F = r at *
  go_enter Tryz.func152, Tryz.ntmps152
  go_wp2
  go_loopw [8] (fun i wr => ∃ k : Nat, k ≤ l.length ∧ i = .int .i64 k ∧ Hid (∀ i, i < k → F (lat l i) = false) ∧ Hid (Kp w wr)) (fun i _ => l.length - (intOf i).toNat)
  case atStart => exact ⟨0, Nat.zero_le _, rfl, Lib.hid (fun i h => by omega), Z0⟩
  case round =>
    obtain ⟨k, hk, rfl, FA, J⟩ := hrel
    by_cases hlt : k < l.length
    · rcases HV.out.kp J.out with ⟨_, _, _, e⟩ | ⟨b0, off, cap, ev, hc, hmx, hx⟩
      · rw [e] at hlt; simp at hlt
      cases ev
      obtain ⟨va, vb, d0, d1, d2, d3, ra, rb⟩ := hx k hlt
      have LOK := HL.out _ (lat_mem hlt)
      obtain ⟨f, hf⟩ : ∃ f, lat l k = f := ⟨_, rfl⟩
      rw [hf] at d0 d1 ra rb
      (try rw [hf] at LOK)
      obtain ⟨sp, u, a, b⟩ := f
      simp only at d0 d1 ra rb
      (try simp only at LOK)
      obtain ⟨aa, ca, rfl⟩ := ra.slice
      obtain ⟨ab, cb, rfl⟩ := rb.slice
      have HF := Lib.hid hf
      have z1 : (k : Int) < (l.length : Int) := by omega
      have z2 : (0 : Int) ≤ (k : Int) := by omega
      clear hx hc hmx hf
      have C := Lib.hid (HC.out ⟨sp, u, a, b⟩ _ _ wr J.out (by have := lat_mem hlt; rw [HF.out] at this; exact this) ra rb)
      have N := Lib.hid (fun (g : F ⟨sp, u, a, b⟩ = false) => (by rw [HF.out]; exact g : F (lat l k) = false))
      have Y := Lib.hid (fun g => YES.out k hlt (show F (lat l k) = true by rw [HF.out]; exact g))
      generalize F ⟨sp, u, a, b⟩ = fb at *
      clear ra rb
      cases fb with
      | true =>
        have hr := Y.out rfl
        subst hr
        go_wp2_with (go_at_fn g; refine (C.out).mono ?_; rintro e w1 ⟨rfl, kk⟩; have J1 := Lib.hid (J.out.trans kk); clear kk)
        go_ret
        exact ⟨_, rfl, decide_eq_true (by omega), J1.out⟩
      | false =>
        go_wp2_with (go_at_fn g; refine (C.out).mono ?_; rintro e w1 ⟨rfl, kk⟩; have J1 := Lib.hid (J.out.trans kk); clear kk)
        go_roundw
        case rel => exact ⟨k + 1, by omega, by go_num, Lib.hid (fun i hi => by
          by_cases c : i < k
          · exact FA.out i c
          · obtain rfl : i = k := by omega
            exact N.out (by first | rfl | trivial)), J1⟩
        case measure => simp [intOf]; omega
    · obtain rfl : k = l.length := by omega
      have hr := NO.out FA.out
      subst hr
      go_wp2
      go_ret
      exact ⟨_, rfl, by decide, J.out⟩
set_option maxHeartbeats 16000000 in
set_option maxRecDepth 100000 in
theorem contains_any (g : FuncId) (cb : Array Value) (F : LF → Bool) (v : Value) (l : List LF) (w : World)
    (eg : ∀ args w, (callFunc g args).run Tryz.prog w = .ok (.enter g args) w)
    (hc : ∀ f va vb w1, Kp w w1 → f ∈ l → RunsAt w1 va f.a → RunsAt w1 vb f.b → Calls Tryz.prog g (#[.agg #[.bool f.sp, .int .i64 f.u, va, vb]] ++ cb) w1 fun e w' => e = .returned (.bool (F f)) ∧ Kp w1 w')
    (hv : LeavesAt w v l) :
    Calls Tryz.prog 81 #[v, .func (.func g) #[] cb] w fun e w' => e = .returned (.bool (l.any F)) ∧ Kp w w' := by
  have C := Lib.hid (index_any g cb F v l w eg hc hv)
  generalize l.any F = r at *
  clear hc hv eg
  go_enter Tryz.func81, Tryz.ntmps81
  go_wp2_with fail
  refine (C.out).mono ?_
  rintro e w1 ⟨x, rfl, hx, kk⟩
  have K1 := Lib.hid kk
  clear kk
  go_wp2
  go_ret
  exact ⟨by first | rfl | simp [hx], K1.out⟩
noncomputable def posB (l : List LF) (d : Int) : Bool := l.any fun f => coversF (famR f) d
theorem possible_any (v : Value) (l : List LF) (d : Int) (w : World) (hv : LeavesAt w v l) (hl : LsOk l) (T : Tabs w) :
    Calls Tryz.prog 40 #[v, .int .i64 d] w fun e w' => e = .returned (.bool (posB l d)) ∧ Kp w w' := by
  obtain ⟨W0, hW⟩ : ∃ W0, W0 = w.alloc (.cells #[.int .i64 d] 3) := ⟨_, rfl⟩
  have k0 : Kp w W0 := by rw [hW]; exact Kp.alloc _ _
  have c0 : W0.cell? ⟨w.heap.size, 0, none⟩ = some (.int .i64 d) := by rw [hW]; simp
  have CP : ∀ f va vb w1, Kp W0 w1 → f ∈ l → RunsAt w1 va f.a → RunsAt w1 vb f.b → Calls Tryz.prog 82 (#[.agg #[.bool f.sp, .int .i64 f.u, va, vb]] ++ #[.pointer (some ⟨w.heap.size, 0, none⟩)]) w1 fun e w' => e = .returned (.bool (coversF (famR f) d)) ∧ Kp w1 w' := by
    intro f va vb w1 kk hf ra rb
    have lo := hl f hf
    have ok : LeafOk w1 f va vb := ⟨ra, rb, lo.1, lo.2.1, lo.2.2.1, lo.2.2.2⟩
    have C := Lib.hid (fun w2 (kk2 : Kp w1 w2) => leafCovers_any f va vb d w2 (ok.kp kk2) (T.kp (k0.trans (kk.trans kk2))))
    have d0 := cell_up kk c0
    obtain ⟨sp, u, a, b⟩ := f
    obtain ⟨aa, ca, rfl⟩ := ra.slice
    obtain ⟨ab, cb, rfl⟩ := rb.slice
    simp only [leafV] at C
    generalize coversF (famR ⟨sp, u, a, b⟩) d = q at *
    have zs := World.block_lt_of_cell? w1 _ d0
    have zs' : ¬ w.heap.size = w1.heap.size := by simp at zs; omega
    have K1 := Lib.hid (Kp.refl w1)
    clear ra rb ok lo hf kk c0 k0 hl hv T
    go_enter Tryz.func82, Tryz.ntmps82
    go_wp2_with fail
    refine (C.out _ (by first | with_reducible exact K1.out | with_reducible exact K1.out.trans (Kp.alloc _ _) | with_reducible exact (K1.out.trans (Kp.alloc _ _)).trans (Kp.alloc _ _) | with_reducible exact ((K1.out.trans (Kp.alloc _ _)).trans (Kp.alloc _ _)).trans (Kp.alloc _ _) | with_reducible exact K1.out.trans (Kp.drew _) | with_reducible exact K1.out.trans (Kp.drewN _ _))).mono ?_
    rintro e w2 ⟨rfl, kk⟩
    have K2 := Lib.hid ((show Kp w1 _ from (by first | with_reducible exact K1.out | with_reducible exact K1.out.trans (Kp.alloc _ _) | with_reducible exact (K1.out.trans (Kp.alloc _ _)).trans (Kp.alloc _ _) | with_reducible exact ((K1.out.trans (Kp.alloc _ _)).trans (Kp.alloc _ _)).trans (Kp.alloc _ _) | with_reducible exact K1.out.trans (Kp.drew _) | with_reducible exact K1.out.trans (Kp.drewN _ _))).trans kk)
    go_wp2
    go_ret
    exact ⟨rfl, K2.out⟩
  have C := Lib.hid (contains_any 82 #[.pointer (some ⟨w.heap.size, 0, none⟩)] (fun f => coversF (famR f) d) v l W0 (enters_of Tryz.func82 (by kernel_rfl) rfl) CP (hv.kp k0))
  rw [show (l.any fun f => coversF (famR f) d) = posB l d from rfl] at C
  generalize posB l d = r at *
  have K0 := Lib.hid k0
  have HW := Lib.hid hW
  clear hW k0 c0 CP hv hl T
  go_enter Tryz.func40, Tryz.ntmps40
  go_wp2_with fail
  rw [← HW.out]
  refine (C.out).mono ?_
  rintro e w1 ⟨rfl, kk⟩
  have K1 := Lib.hid kk
  go_wp2
  go_ret
  exact ⟨rfl, K0.out.trans K1.out⟩
end Go.Proofs.YtjdnejglapnbbaaGreatDoor
