/-
  Layer 10: TreeMade, walked, where the point is none.
-/
import Derived.Test.YtjiikianmjmgcaaDoorL10H
import Derived.Test.YtjiikianmjmgcaaDoorGLeafA
namespace Go.Proofs.YtjiikianmjmgcaaDoor
open Go.RowKit
set_option linter.unusedVariables false
set_option linter.unusedSimpArgs false
set_option maxHeartbeats 16000000 in
set_option maxRecDepth 100000 in
theorem treeMade_false (pk : Int) (y m q : ByteArray) (a t : Bool) (l : List ND) (ad : Option Addr) (cp : Nat) (w : World) (hu : NodesAt w (.slice ad l.length cp) l) (bn : cntL l ≤ 2000000) (T : TabSH w) (g0 : y.size ≤ 10) (g1 : m.size ≤ 10) (g2 : q.size ≤ 10) (g3 : l.length ≤ 8) (hf : fewN (.mk 0 pt0 false false l : ND) = true) (hsp : saneP ⟨pk, y, m, q⟩ = false) : Calls Tryd.prog 6 #[.agg #[.int .i64 pk, .string y, .string m, .string q], .bool a, .bool t, .slice ad l.length cp] w fun e w' => e = .returned (.bool true) ∧ Kp w w' := by
  have AW := Lib.hid (fun w1 (qq : Kp w w1) => awake10 w1 (T.kp qq))
  have FW : ∀ w1, Kp w w1 → Calls Tryd.prog 24 #[.agg #[.int .i64 0, .int .i64 0, .string ⟨#[]⟩, .string ⟨#[]⟩, .string ⟨#[]⟩, .bool false, .bool false, .slice ad l.length cp]] w1 fun e w' => e = .returned (.bool (fewN (.mk 0 pt0 false false l : ND))) ∧ Kp w1 w' := fun w1 qq => rfewN_any (.mk 0 pt0 false false l : ND) (.slice ad l.length cp) w1 (hu.kp qq) bn
  rw [hf] at FW
  have FWH := Lib.hid FW
  have CO := Lib.hid (fun w1 => show Calls Tryd.prog 35 #[.agg #[.int .i64 pk, .string y, .string m, .string q], .bool a, .bool t] w1 fun e w' => e = .returned (.agg #[.int .i64 0, .int .i64 pk, .string y, .string m, .string q, .bool a, .bool t, .slice none 0 0]) ∧ Kp w1 w' from of_node_any ⟨pk, y, m, q⟩ a t w1)
  have CP := Lib.hid (fun w1 (qq : Kp w w1) => show Calls Tryd.prog 20 #[.agg #[.int .i64 pk, .string y, .string m, .string q]] w1 fun e w' => e = .returned (.bool (saneP ⟨pk, y, m, q⟩)) ∧ Kp w1 w' from ptSane_any ⟨pk, y, m, q⟩ w1 (T.kp qq))
  have CS : ∀ w1, Kp w w1 → Calls Tryd.prog 25 #[.agg #[.int .i64 0, .int .i64 pk, .string y, .string m, .string q, .bool a, .bool t, .slice none 0 0]] w1 fun e w' => e = .returned (.bool (saneP ⟨pk, y, m, q⟩)) ∧ Kp w1 w' := fun w1 qq => by
    have this := tSane_any (.mk 0 ⟨pk, y, m, q⟩ a t [] : ND) (.slice none 0 0) w1 (.none _ _) (by simp [cntN, cntL]) (T.kp qq)
    rw [sane_X] at this
    exact this
  have CE : ∀ w1, Kp w w1 → Calls Tryd.prog 27 #[.agg #[.int .i64 0, .int .i64 pk, .string y, .string m, .string q, .bool a, .bool t, .slice none 0 0]] w1 fun e w' => e = .returned (.bool (saneP ⟨pk, y, m, q⟩)) ∧ Kp w1 w' := fun w1 qq => by
    have this := end_any (.mk 0 ⟨pk, y, m, q⟩ a t [] : ND) (.slice none 0 0) w1 ⟨_, _, rfl⟩ (T.kp qq)
    rw [end_X] at this
    exact this
  have CK : ∀ w1, Calls Tryd.prog 36 #[.slice ad l.length cp] w1 fun e w' => e = .returned (.agg #[.int .i64 2, .int .i64 0, .string ⟨#[]⟩, .string ⟨#[]⟩, .string ⟨#[]⟩, .bool false, .bool false, .slice ad l.length cp]) ∧ Kp w1 w' := fun w1 => oneOf_any (.slice ad l.length cp) l w1 ⟨_, _, rfl⟩
  have TH := Lib.hid (fun w1 (qq : Kp w w1) => T.kp qq)
  have HU := Lib.hid hu
  have cl := few_cnt hf
  have cl2 : cntL l ≤ 119 := by have e : cntN (.mk 0 pt0 false false l : ND) = cntL l + 1 := rfl; have := few_c120 hf; omega
  have CSK : ∀ w1, Kp w w1 → Calls Tryd.prog 25 #[.agg #[.int .i64 2, .int .i64 0, .string ⟨#[]⟩, .string ⟨#[]⟩, .string ⟨#[]⟩, .bool false, .bool false, .slice ad l.length cp]] w1 fun e w' => e = .returned (.bool (saneN saneP (.mk 2 pt0 false false l : ND))) ∧ Kp w1 w' := fun w1 qq => tSane_any (.mk 2 pt0 false false l : ND) (.slice ad l.length cp) w1 (hu.kp qq) cl (T.kp qq)
  have CCK : ∀ w1, Kp w w1 → Calls Tryd.prog 29 #[.agg #[.int .i64 2, .int .i64 0, .string ⟨#[]⟩, .string ⟨#[]⟩, .string ⟨#[]⟩, .bool false, .bool false, .slice ad l.length cp]] w1 fun e w' => e = .returned (.int .i64 (cntN (.mk 2 pt0 false false l : ND))) ∧ Kp w1 w' := fun w1 qq => tCount_any (.mk 2 pt0 false false l : ND) (.slice ad l.length cp) w1 (hu.kp qq) cl
  have CDK : ∀ w1, Kp w w1 → Calls Tryd.prog 31 #[.agg #[.int .i64 2, .int .i64 0, .string ⟨#[]⟩, .string ⟨#[]⟩, .string ⟨#[]⟩, .bool false, .bool false, .slice ad l.length cp]] w1 fun e w' => e = .returned (.int .i64 (depN (.mk 2 pt0 false false l : ND))) ∧ Kp w1 w' := fun w1 qq => tDeep_any (.mk 2 pt0 false false l : ND) (.slice ad l.length cp) w1 (hu.kp qq) cl
  have SK := Lib.hid (sane_K (l := l))
  have CL2 := Lib.hid cl2
  have XX := Lib.hid (fun x => sane_S ⟨pk, y, m, q⟩ a t x)
  rw [hsp] at CP CS CE XX
  have CSH := Lib.hid CS
  have CEH := Lib.hid CE
  have CKH := Lib.hid CK
  have CSKH := Lib.hid CSK
  have CCKH := Lib.hid CCK
  have CDKH := Lib.hid CDK
  have HSP := Lib.hid hsp
  have z0 : decide ((10 : Int) < ((y.size : Nat) : Int)) = false := decide_eq_false (by omega)
  have z1 : decide ((10 : Int) < ((m.size : Nat) : Int)) = false := decide_eq_false (by omega)
  have z2 : decide ((10 : Int) < ((q.size : Nat) : Int)) = false := decide_eq_false (by omega)
  have z3 : decide ((8 : Int) < ((l.length : Nat) : Int)) = false := decide_eq_false (by omega)
  have g8 : l.length ≤ 8 := g3
  clear FW hu T bn hf g0 g1 g2 g3 CS CE CK CSK CCK CDK cl cl2 hsp
  go_enter Tryd.func6, Tryd.ntmps6
  go_wp2_with fail
  refine (AW.out _ (Kp.alloc _ _)).mono ?_
  rintro e w1 ⟨rfl, kk⟩
  have K1 := Lib.hid ((Kp.alloc _ _).trans kk)
  have GP1 := Lib.hid (heap_block kk (heap_at w (.cells #[.int .i64 pk, .string y, .string m, .string q] 27) w.heap.size rfl))
  clear kk
  obtain ⟨p0, p1, p2, p3⟩ := row4 GP1.out
  go_wp2_with fail
  refine (FWH.out _ K1.out).mono ?_
  rintro e w2 ⟨rfl, kk⟩
  have K2 := Lib.hid (K1.out.trans kk)
  have GP2 := Lib.hid (heap_block kk GP1.out)
  clear kk p0 p1 p2 p3 GP1
  obtain ⟨p0, p1, p2, p3⟩ := row4 GP2.out
  go_wp2_with fail
  refine (CO.out _).mono ?_
  rintro e w3 ⟨rfl, kk⟩
  have K3 := Lib.hid (K2.out.trans kk)
  have GP3 := Lib.hid (heap_block kk GP2.out)
  have l3 : w.heap.size < w3.heap.size := (Array.getElem?_eq_some_iff.1 GP3.out).1
  have l3n : ¬ w.heap.size = w3.heap.size := by omega
  clear kk p0 p1 p2 p3 GP2
  obtain ⟨W4, hW4⟩ : ∃ x, x = w3.alloc (.cells #[.int .i64 0, .int .i64 pk, .string y, .string m, .string q, .bool a, .bool t, .slice none 0 0] 46) := ⟨_, rfl⟩
  have k4 : Kp w3 W4 := by rw [hW4]; exact Kp.alloc _ _
  have gX : W4.heap[w3.heap.size]? = some (.cells #[.int .i64 0, .int .i64 pk, .string y, .string m, .string q, .bool a, .bool t, .slice none 0 0] 46 (0, 0)) := by rw [hW4]; exact heap_at _ _ _ rfl
  have GX := Lib.hid (fun w1 (qq : Kp W4 w1) => heap_block qq gX)
  have GP := Lib.hid (fun w1 (qq : Kp W4 w1) => heap_block (k4.trans qq) GP3.out)
  have K4 := Lib.hid (K3.out.trans k4)
  have HW4 := Lib.hid hW4
  clear hW4 k4 gX
  go_wp2_with fail
  rw [← HW4.out]
  have KS := Lib.hid (fun w' (qq : Kp W4 w') => show w'.cell? ⟨w3.heap.size, 0, none⟩ = some (.int .i64 0) ∧ w'.cell? ⟨w3.heap.size, 1, none⟩ = some (.int .i64 pk) ∧ w'.cell? ⟨w3.heap.size, 2, none⟩ = some (.string y) ∧ w'.cell? ⟨w3.heap.size, 3, none⟩ = some (.string m) ∧ w'.cell? ⟨w3.heap.size, 4, none⟩ = some (.string q) ∧ w'.cell? ⟨w3.heap.size, 5, none⟩ = some (.bool a) ∧ w'.cell? ⟨w3.heap.size, 6, none⟩ = some (.bool t) ∧ w'.cell? ⟨w3.heap.size, 7, none⟩ = some (.slice none 0 0) ∧ w'.cell? ⟨w.heap.size, 0, none⟩ = some (.int .i64 pk) ∧ w'.cell? ⟨w.heap.size, 1, none⟩ = some (.string y) ∧ w'.cell? ⟨w.heap.size, 2, none⟩ = some (.string m) ∧ w'.cell? ⟨w.heap.size, 3, none⟩ = some (.string q) ∧ Kp W4 w' from ⟨(row8 (GX.out _ qq)).1, (row8 (GX.out _ qq)).2.1, (row8 (GX.out _ qq)).2.2.1, (row8 (GX.out _ qq)).2.2.2.1, (row8 (GX.out _ qq)).2.2.2.2.1, (row8 (GX.out _ qq)).2.2.2.2.2.1, (row8 (GX.out _ qq)).2.2.2.2.2.2.1, (row8 (GX.out _ qq)).2.2.2.2.2.2.2, (row4 (GP.out _ qq)).1, (row4 (GP.out _ qq)).2.1, (row4 (GP.out _ qq)).2.2.1, (row4 (GP.out _ qq)).2.2.2, qq⟩)
  refine wp_region_held_drew (S := fun w' => w'.cell? ⟨w3.heap.size, 0, none⟩ = some (.int .i64 0) ∧ w'.cell? ⟨w3.heap.size, 1, none⟩ = some (.int .i64 pk) ∧ w'.cell? ⟨w3.heap.size, 2, none⟩ = some (.string y) ∧ w'.cell? ⟨w3.heap.size, 3, none⟩ = some (.string m) ∧ w'.cell? ⟨w3.heap.size, 4, none⟩ = some (.string q) ∧ w'.cell? ⟨w3.heap.size, 5, none⟩ = some (.bool a) ∧ w'.cell? ⟨w3.heap.size, 6, none⟩ = some (.bool t) ∧ w'.cell? ⟨w3.heap.size, 7, none⟩ = some (.slice none 0 0) ∧ w'.cell? ⟨w.heap.size, 0, none⟩ = some (.int .i64 pk) ∧ w'.cell? ⟨w.heap.size, 1, none⟩ = some (.string y) ∧ w'.cell? ⟨w.heap.size, 2, none⟩ = some (.string m) ∧ w'.cell? ⟨w.heap.size, 3, none⟩ = some (.string q) ∧ Kp W4 w') (by kernel_rfl) ?_ (fun hHeld0 => ?_)
  · (try dsimp only); exact KS.out _ (by first | assumption | exact Kp.drew _ | exact Kp.refl _)
  refine tkW (v := ?_) 0 mdP0 rfl (by kernel_rfl) (by kernel_rfl) (by kernel_rfl) (fun _ _ _ h => h) (by rfl) ?_ (by assumption) ?_
  rotate_left
  · intro w hSw; (try dsimp only at hSw); go_simp; (try with_reducible rfl)
  (try simp only [Act.put, mdP0, List.setIfInBounds_toArray, List.set_cons_zero, List.set_cons_succ])
  refine tkW (v := ?_) 1 mdP1 rfl (by kernel_rfl) (by kernel_rfl) (by kernel_rfl) (fun _ _ _ h => h) (by rfl) ?_ (by assumption) ?_
  rotate_left
  · intro w hSw; (try dsimp only at hSw); go_simp; (try with_reducible rfl)
  (try simp only [Act.put, mdP1, List.setIfInBounds_toArray, List.set_cons_zero, List.set_cons_succ])
  refine tkW (v := ?_) 2 mdP2 rfl (by kernel_rfl) (by kernel_rfl) (by kernel_rfl) (fun _ _ _ h => h) (by rfl) ?_ (by assumption) ?_
  rotate_left
  · intro w hSw; (try dsimp only at hSw); go_simp; (try with_reducible rfl)
  (try simp only [Act.put, mdP2, List.setIfInBounds_toArray, List.set_cons_zero, List.set_cons_succ])
  refine tkW (v := ?_) 3 mdP3 rfl (by kernel_rfl) (by kernel_rfl) (by kernel_rfl) (fun _ _ _ h => h) (by rfl) ?_ (by assumption) ?_
  rotate_left
  · intro w hSw; (try dsimp only at hSw); go_simp; (try with_reducible rfl)
  (try simp only [Act.put, mdP3, List.setIfInBounds_toArray, List.set_cons_zero, List.set_cons_succ])
  refine tkW (v := ?_) 4 mdP4 rfl (by kernel_rfl) (by kernel_rfl) (by kernel_rfl) (fun _ _ _ h => h) (by rfl) ?_ (by assumption) ?_
  rotate_left
  · intro w hSw; (try dsimp only at hSw); go_simp; (try with_reducible rfl)
  (try simp only [Act.put, mdP4, List.setIfInBounds_toArray, List.set_cons_zero, List.set_cons_succ])
  refine tkW (v := ?_) 5 mdP5 rfl (by kernel_rfl) (by kernel_rfl) (by kernel_rfl) (fun _ _ _ h => h) (by rfl) ?_ (by assumption) ?_
  rotate_left
  · intro w hSw; (try dsimp only at hSw); go_simp; (try with_reducible rfl)
  (try simp only [Act.put, mdP5, List.setIfInBounds_toArray, List.set_cons_zero, List.set_cons_succ])
  refine tkW (v := ?_) 6 mdP6 rfl (by kernel_rfl) (by kernel_rfl) (by kernel_rfl) (fun _ _ _ h => h) (by rfl) ?_ (by assumption) ?_
  rotate_left
  · intro w hSw; (try dsimp only at hSw); go_simp; (try with_reducible rfl)
  (try simp only [Act.put, mdP6, List.setIfInBounds_toArray, List.set_cons_zero, List.set_cons_succ])
  refine tkW (v := ?_) 7 mdP7 rfl (by kernel_rfl) (by kernel_rfl) (by kernel_rfl) (fun _ _ _ h => h) (by rfl) ?_ (by assumption) ?_
  rotate_left
  · intro w hSw; (try dsimp only at hSw); go_simp; (try with_reducible rfl)
  (try simp only [Act.put, mdP7, List.setIfInBounds_toArray, List.set_cons_zero, List.set_cons_succ])
  refine tkW (v := ?_) 8 mdP8 rfl (by kernel_rfl) (by kernel_rfl) (by kernel_rfl) (fun _ _ _ h => h) (by rfl) ?_ (by assumption) ?_
  rotate_left
  · intro w hSw; (try dsimp only at hSw); go_simp; (try with_reducible rfl)
  (try simp only [Act.put, mdP8, List.setIfInBounds_toArray, List.set_cons_zero, List.set_cons_succ])
  refine tkW (v := ?_) 9 mdP9 rfl (by kernel_rfl) (by kernel_rfl) (by kernel_rfl) (fun _ _ _ h => h) (by rfl) ?_ (by assumption) ?_
  rotate_left
  · intro w hSw; (try dsimp only at hSw); go_simp; (try with_reducible rfl)
  (try simp only [Act.put, mdP9, List.setIfInBounds_toArray, List.set_cons_zero, List.set_cons_succ])
  refine tkW (v := ?_) 10 mdP10 rfl (by kernel_rfl) (by kernel_rfl) (by kernel_rfl) (fun _ _ _ h => h) (by rfl) ?_ (by assumption) ?_
  rotate_left
  · intro w hSw; (try dsimp only at hSw); go_simp; (try with_reducible rfl)
  (try simp only [Act.put, mdP10, List.setIfInBounds_toArray, List.set_cons_zero, List.set_cons_succ])
  refine tkW (v := ?_) 11 mdP11 rfl (by kernel_rfl) (by kernel_rfl) (by kernel_rfl) (fun _ _ _ h => h) (by rfl) ?_ (by assumption) ?_
  rotate_left
  · intro w hSw; (try dsimp only at hSw); go_simp; (try with_reducible rfl)
  (try simp only [Act.put, mdP11, List.setIfInBounds_toArray, List.set_cons_zero, List.set_cons_succ])
  refine tkW (v := ?_) 12 mdP12 rfl (by kernel_rfl) (by kernel_rfl) (by kernel_rfl) (fun _ _ _ h => h) (by rfl) ?_ (by assumption) ?_
  rotate_left
  · intro w hSw; (try dsimp only at hSw); go_simp; (try with_reducible rfl)
  (try simp only [Act.put, mdP12, List.setIfInBounds_toArray, List.set_cons_zero, List.set_cons_succ])
  refine tkW (v := ?_) 13 mdP13 rfl (by kernel_rfl) (by kernel_rfl) (by kernel_rfl) (fun _ _ _ h => h) (by rfl) ?_ (by assumption) ?_
  rotate_left
  · intro w hSw; (try dsimp only at hSw); go_simp; (try with_reducible rfl)
  (try simp only [Act.put, mdP13, List.setIfInBounds_toArray, List.set_cons_zero, List.set_cons_succ])
  refine tkW (v := ?_) 14 mdP14 rfl (by kernel_rfl) (by kernel_rfl) (by kernel_rfl) (fun _ _ _ h => h) (by rfl) ?_ (by assumption) ?_
  rotate_left
  · intro w hSw; (try dsimp only at hSw); go_simp; (try with_reducible rfl)
  (try simp only [Act.put, mdP14, List.setIfInBounds_toArray, List.set_cons_zero, List.set_cons_succ])
  refine tkW (v := ?_) 15 mdP15 rfl (by kernel_rfl) (by kernel_rfl) (by kernel_rfl) (fun _ _ _ h => h) (by rfl) ?_ (by assumption) ?_
  rotate_left
  · intro w hSw; (try dsimp only at hSw); go_simp; (try with_reducible rfl)
  (try simp only [Act.put, mdP15, List.setIfInBounds_toArray, List.set_cons_zero, List.set_cons_succ])
  refine tkW (v := ?_) 16 mdP16 rfl (by kernel_rfl) (by kernel_rfl) (by kernel_rfl) (fun _ _ _ h => h) (by rfl) ?_ (by assumption) ?_
  rotate_left
  · intro w hSw; (try dsimp only at hSw); go_simp; (try with_reducible rfl)
  (try simp only [Act.put, mdP16, List.setIfInBounds_toArray, List.set_cons_zero, List.set_cons_succ])
  refine tkW (v := ?_) 17 mdP17 rfl (by kernel_rfl) (by kernel_rfl) (by kernel_rfl) (fun _ _ _ h => h) (by rfl) ?_ (by assumption) ?_
  rotate_left
  · intro w hSw; (try dsimp only at hSw); go_simp; (try with_reducible rfl)
  (try simp only [Act.put, mdP17, List.setIfInBounds_toArray, List.set_cons_zero, List.set_cons_succ])
  refine tkW (v := ?_) 18 mdP18 rfl (by kernel_rfl) (by kernel_rfl) (by kernel_rfl) (fun _ _ _ h => h) (by rfl) ?_ (by assumption) ?_
  rotate_left
  · intro w hSw; (try dsimp only at hSw); go_simp; (try with_reducible rfl)
  (try simp only [Act.put, mdP18, List.setIfInBounds_toArray, List.set_cons_zero, List.set_cons_succ])
  refine tkW (v := ?_) 19 mdP19 rfl (by kernel_rfl) (by kernel_rfl) (by kernel_rfl) (fun _ _ _ h => h) (by rfl) ?_ (by assumption) ?_
  rotate_left
  · intro w hSw; (try dsimp only at hSw); go_simp; (try with_reducible rfl)
  (try simp only [Act.put, mdP19, List.setIfInBounds_toArray, List.set_cons_zero, List.set_cons_succ])
  refine tkW (v := ?_) 20 mdP20 rfl (by kernel_rfl) (by kernel_rfl) (by kernel_rfl) (fun _ _ _ h => h) (by rfl) ?_ (by assumption) ?_
  rotate_left
  · intro w hSw; (try dsimp only at hSw); go_simp; (try with_reducible rfl)
  (try simp only [Act.put, mdP20, List.setIfInBounds_toArray, List.set_cons_zero, List.set_cons_succ])
  refine tkW (v := ?_) 21 mdP21 rfl (by kernel_rfl) (by kernel_rfl) (by kernel_rfl) (fun _ _ _ h => h) (by rfl) ?_ (by assumption) ?_
  rotate_left
  · intro w hSw; (try dsimp only at hSw); go_simp; (try with_reducible rfl)
  (try simp only [Act.put, mdP21, List.setIfInBounds_toArray, List.set_cons_zero, List.set_cons_succ])
  refine tkW (v := ?_) 22 mdP22 rfl (by kernel_rfl) (by kernel_rfl) (by kernel_rfl) (fun _ _ _ h => h) (by rfl) ?_ (by assumption) ?_
  rotate_left
  · intro w hSw; (try dsimp only at hSw); go_simp; (try with_reducible rfl)
  (try simp only [Act.put, mdP22, List.setIfInBounds_toArray, List.set_cons_zero, List.set_cons_succ])
  refine tkW (v := ?_) 23 mdP23 rfl (by kernel_rfl) (by kernel_rfl) (by kernel_rfl) (fun _ _ _ h => h) (by rfl) ?_ (by assumption) ?_
  rotate_left
  · intro w hSw; (try dsimp only at hSw); go_simp; (try with_reducible rfl)
  (try simp only [Act.put, mdP23, List.setIfInBounds_toArray, List.set_cons_zero, List.set_cons_succ])
  refine tkW (v := ?_) 24 mdP24 rfl (by kernel_rfl) (by kernel_rfl) (by kernel_rfl) (fun _ _ _ h => h) (by rfl) ?_ (by assumption) ?_
  rotate_left
  · intro w hSw; (try dsimp only at hSw); go_simp; (try with_reducible rfl)
  (try simp only [Act.put, mdP24, List.setIfInBounds_toArray, List.set_cons_zero, List.set_cons_succ])
  refine tkW (v := ?_) 25 mdP25 rfl (by kernel_rfl) (by kernel_rfl) (by kernel_rfl) (fun _ _ _ h => h) (by rfl) ?_ (by assumption) ?_
  rotate_left
  · intro w hSw; (try dsimp only at hSw); go_simp; (try with_reducible rfl)
  (try simp only [Act.put, mdP25, List.setIfInBounds_toArray, List.set_cons_zero, List.set_cons_succ])
  refine tkW (v := ?_) 26 mdP26 rfl (by kernel_rfl) (by kernel_rfl) (by kernel_rfl) (fun _ _ _ h => h) (by rfl) ?_ (by assumption) ?_
  rotate_left
  · intro w hSw; (try dsimp only at hSw); go_simp; (try with_reducible rfl)
  (try simp only [Act.put, mdP26, List.setIfInBounds_toArray, List.set_cons_zero, List.set_cons_succ])
  refine tkW (v := ?_) 27 mdP27 rfl (by kernel_rfl) (by kernel_rfl) (by kernel_rfl) (fun _ _ _ h => h) (by rfl) ?_ (by assumption) ?_
  rotate_left
  · intro w hSw; (try dsimp only at hSw); go_simp; (try with_reducible rfl)
  (try simp only [Act.put, mdP27, List.setIfInBounds_toArray, List.set_cons_zero, List.set_cons_succ])
  refine tkW (v := ?_) 28 mdP28 rfl (by kernel_rfl) (by kernel_rfl) (by kernel_rfl) (fun _ _ _ h => h) (by rfl) ?_ (by assumption) ?_
  rotate_left
  · intro w hSw; (try dsimp only at hSw); go_simp; (try with_reducible rfl)
  (try simp only [Act.put, mdP28, List.setIfInBounds_toArray, List.set_cons_zero, List.set_cons_succ])
  refine tkW (v := ?_) 30 mdP30 rfl (by kernel_rfl) (by kernel_rfl) (by kernel_rfl) (fun _ _ _ h => h) (by rfl) ?_ (by assumption) ?_
  rotate_left
  · intro w hSw; (try dsimp only at hSw); go_simp; (try with_reducible rfl)
  (try simp only [Act.put, mdP30, List.setIfInBounds_toArray, List.set_cons_zero, List.set_cons_succ])
  refine tkE 29 mdP29 rfl (by kernel_rfl) (fun K hK => ?_)
  go_simp
  (refine (CSH.out _ (K4.out.trans (by first | assumption | exact Kp.drew _ | exact Kp.refl _))).mono ?_; rintro e w' ⟨rfl, kq⟩; have k2 := Kp.trans (show Kp W4 _ from (by first | assumption | exact Kp.drew _ | exact Kp.refl _)) kq; clear kq)
  (try go_wp2_with fail)
  refine hK.out _ _ ?_ (fun hHeld1 => ?_)
  · (try dsimp only); exact KS.out _ (by first | assumption | exact Kp.drew _ | exact Kp.refl _)
  clear hK K hHeld0
  (try simp only [Act.put, mdP29, List.setIfInBounds_toArray, List.set_cons_zero, List.set_cons_succ])
  refine tkE 31 mdP31 rfl (by kernel_rfl) (fun K hK => ?_)
  go_simp
  (refine (CP.out _ (K4.out.trans (by first | assumption | exact Kp.drew _ | exact Kp.refl _))).mono ?_; rintro e w' ⟨rfl, kq⟩; have k2 := Kp.trans (show Kp W4 _ from (by first | assumption | exact Kp.drew _ | exact Kp.refl _)) kq; clear kq)
  (try go_wp2_with fail)
  refine hK.out _ _ ?_ (fun hHeld2 => ?_)
  · (try dsimp only); exact KS.out _ (by first | assumption | exact Kp.drew _ | exact Kp.refl _)
  clear hK K hHeld1
  (try simp only [Act.put, mdP31, List.setIfInBounds_toArray, List.set_cons_zero, List.set_cons_succ])
  refine tkW (v := ?_) 32 mdP32 rfl (by kernel_rfl) (by kernel_rfl) (by kernel_rfl) (fun _ _ _ h => h) (by rfl) ?_ (by assumption) ?_
  rotate_left
  · intro w hSw; (try dsimp only at hSw); go_simp; (try with_reducible rfl)
  (try simp only [Act.put, mdP32, List.setIfInBounds_toArray, List.set_cons_zero, List.set_cons_succ])
  refine tkW (v := ?_) 33 mdP33 rfl (by kernel_rfl) (by kernel_rfl) (by kernel_rfl) (fun _ _ _ h => h) (by rfl) ?_ (by assumption) ?_
  rotate_left
  · intro w hSw; (try dsimp only at hSw); go_simp; (try with_reducible rfl)
  (try simp only [Act.put, mdP33, List.setIfInBounds_toArray, List.set_cons_zero, List.set_cons_succ])
  refine tkW (v := ?_) 34 mdP34 rfl (by kernel_rfl) (by kernel_rfl) (by kernel_rfl) (fun _ _ _ h => h) (by rfl) ?_ (by assumption) ?_
  rotate_left
  · intro w hSw; (try dsimp only at hSw); go_simp; (try with_reducible rfl)
  (try simp only [Act.put, mdP34, List.setIfInBounds_toArray, List.set_cons_zero, List.set_cons_succ])
  refine tkW (v := ?_) 35 mdP35 rfl (by kernel_rfl) (by kernel_rfl) (by kernel_rfl) (fun _ _ _ h => h) (by rfl) ?_ (by assumption) ?_
  rotate_left
  · intro w hSw; (try dsimp only at hSw); go_simp; (try with_reducible rfl)
  (try simp only [Act.put, mdP35, List.setIfInBounds_toArray, List.set_cons_zero, List.set_cons_succ])
  refine tkW (v := ?_) 37 mdP37 rfl (by kernel_rfl) (by kernel_rfl) (by kernel_rfl) (fun _ _ _ h => h) (by rfl) ?_ (by assumption) ?_
  rotate_left
  · intro w hSw; (try dsimp only at hSw); go_simp; (try with_reducible rfl)
  (try simp only [Act.put, mdP37, List.setIfInBounds_toArray, List.set_cons_zero, List.set_cons_succ])
  refine tkE 36 mdP36 rfl (by kernel_rfl) (fun K hK => ?_)
  go_simp
  (refine (CEH.out _ (K4.out.trans (by first | assumption | exact Kp.drew _ | exact Kp.refl _))).mono ?_; rintro e w' ⟨rfl, kq⟩; have k2 := Kp.trans (show Kp W4 _ from (by first | assumption | exact Kp.drew _ | exact Kp.refl _)) kq; clear kq)
  (try go_wp2_with fail)
  refine hK.out _ _ ?_ (fun hHeld3 => ?_)
  · (try dsimp only); exact KS.out _ (by first | assumption | exact Kp.drew _ | exact Kp.refl _)
  clear hK K hHeld2
  (try simp only [Act.put, mdP36, List.setIfInBounds_toArray, List.set_cons_zero, List.set_cons_succ])
  refine tkE 38 mdP38 rfl (by kernel_rfl) (fun K hK => ?_)
  go_simp
  (refine (CP.out _ (K4.out.trans (by first | assumption | exact Kp.drew _ | exact Kp.refl _))).mono ?_; rintro e w' ⟨rfl, kq⟩; have k2 := Kp.trans (show Kp W4 _ from (by first | assumption | exact Kp.drew _ | exact Kp.refl _)) kq; clear kq)
  (try go_wp2_with fail)
  refine hK.out _ _ ?_ (fun hHeld4 => ?_)
  · (try dsimp only); exact KS.out _ (by first | assumption | exact Kp.drew _ | exact Kp.refl _)
  clear hK K hHeld3
  (try simp only [Act.put, mdP38, List.setIfInBounds_toArray, List.set_cons_zero, List.set_cons_succ])
  refine tkW (v := ?_) 39 mdP39 rfl (by kernel_rfl) (by kernel_rfl) (by kernel_rfl) (fun _ _ _ h => h) (by rfl) ?_ (by assumption) ?_
  rotate_left
  · intro w hSw; (try dsimp only at hSw); go_simp; (try with_reducible rfl)
  (try simp only [Act.put, mdP39, List.setIfInBounds_toArray, List.set_cons_zero, List.set_cons_succ])
  refine tkW (v := ?_) 40 mdP40 rfl (by kernel_rfl) (by kernel_rfl) (by kernel_rfl) (fun _ _ _ h => h) (by rfl) ?_ (by assumption) ?_
  rotate_left
  · intro w hSw; (try dsimp only at hSw); go_simp; (try with_reducible rfl)
  (try simp only [Act.put, mdP40, List.setIfInBounds_toArray, List.set_cons_zero, List.set_cons_succ])
  refine wpAnyH_done (by kernel_rfl) ?_ _
  have k5 := k2
  clear k2 KS
  obtain ⟨w5, hw5⟩ : ∃ x : World, x = w' := ⟨_, rfl⟩
  subst hw5
  have K5 := Lib.hid (K4.out.trans k5)
  have J5 := Lib.hid k5
  clear k5
  go_wp2_with fail
  refine (CKH.out _).mono ?_
  rintro e w6 ⟨rfl, kk⟩
  have J6 := Lib.hid (J5.out.trans kk)
  clear kk
  obtain ⟨W7, hW7⟩ : ∃ x, x = w6.alloc (.cells #[.int .i64 2, .int .i64 0, .string ⟨#[]⟩, .string ⟨#[]⟩, .string ⟨#[]⟩, .bool false, .bool false, .slice ad l.length cp] 46) := ⟨_, rfl⟩
  have k7 : Kp w6 W7 := by rw [hW7]; exact Kp.alloc _ _
  have gK : W7.heap[w6.heap.size]? = some (.cells #[.int .i64 2, .int .i64 0, .string ⟨#[]⟩, .string ⟨#[]⟩, .string ⟨#[]⟩, .bool false, .bool false, .slice ad l.length cp] 46 (0, 0)) := by rw [hW7]; exact heap_at _ _ _ rfl
  have GK := Lib.hid (fun w1 (qq : Kp W7 w1) => heap_block qq gK)
  have J7 := Lib.hid (J6.out.trans k7)
  have HW7 := Lib.hid hW7
  clear hW7 k7 gK
  obtain ⟨e0, he0⟩ : ∃ b, decide (0 < l.length) = b := ⟨_, rfl⟩
  have HE0 := Lib.hid (show (!l.isEmpty) = e0 by rw [← he0]; cases l <;> simp)
  go_wp2
  rw [← HW7.out]
  go_loopw [12, 13, 14] (fun ab i s ws => ∃ (bb : Bool) (j : Nat), j ≤ l.length ∧ ab = .bool bb ∧ i = .int .i64 j ∧ Hid (Kp W7 ws) ∧ Hid (bb = (e0 && (l.take j).all (saneN saneP)))) (fun _ i _ _ => l.length - (intOf i).toNat)
  case atStart => exact ⟨e0, 0, Nat.zero_le _, by first | rfl | rw [he0], rfl, Lib.hid (Kp.refl _), Lib.hid (by simp)⟩
  case round =>
    obtain ⟨bb, j, hj, rfl, rfl, KL, HBB⟩ := hrel
    by_cases hlt : j < l.length
    · obtain ⟨bk, of, vi, rfl, hrow, hsub⟩ := HU.out.get hlt
      have kw0 : Kp w wr := K4.out.trans (J7.out.trans KL.out)
      obtain ⟨r0, r1, r2, r3, r4, r5, r6, r7⟩ := hrow.kp kw0
      have cl9 := CL2.out
      have cmj := cnt_mem (nth_mem hlt)
      have EB := Lib.hid (show (l.take (j + 1)).all (saneN saneP) = ((l.take j).all (saneN saneP) && saneN saneP (nth l j)) by rw [nth_take hlt]; simp)
      obtain ⟨x, hx⟩ : ∃ x, nth l j = x := ⟨_, rfl⟩
      rw [hx] at r0 r1 r2 r3 r4 r5 r6 hsub cmj EB
      have cx1 : cntN x ≤ 1000 := by omega
      have xx := XX.out x
      obtain ⟨sb, hsb⟩ : ∃ b, saneN saneP x = b := ⟨_, rfl⟩
      have EBS := Lib.hid (show (l.take (j + 1)).all (saneN saneP) = ((l.take j).all (saneN saneP) && sb) by rw [EB.out, hsb])
      obtain ⟨eb, heb⟩ : ∃ b, endN saneP x = b := ⟨_, rfl⟩
      obtain ⟨cx, hcx⟩ : ∃ z : Int, ((cntN x : Nat) : Int) = z := ⟨_, rfl⟩
      have cx9 : 1 ≤ cx ∧ cx ≤ 1000 := by have := cnt_pos x; omega
      have YS : ∀ w1, Kp wr w1 → Calls Tryd.prog 25 #[ndV x vi] w1 fun e w' => e = .returned (.bool sb) ∧ Kp w1 w' := fun w1 qq => by
        have this := tSane_any x vi w1 (hsub.kp (kw0.trans qq)) cx1 (TH.out _ (kw0.trans qq))
        rwa [hsb] at this
      have YE : ∀ w1, Kp wr w1 → Calls Tryd.prog 27 #[ndV x vi] w1 fun e w' => e = .returned (.bool eb) ∧ Kp w1 w' := fun w1 qq => by
        have this := end_any x vi w1 hsub.slice (TH.out _ (kw0.trans qq))
        rwa [heb] at this
      have YC : ∀ w1, Kp wr w1 → Calls Tryd.prog 29 #[ndV x vi] w1 fun e w' => e = .returned (.int .i64 cx) ∧ Kp w1 w' := fun w1 qq => by
        have this := tCount_any x vi w1 (hsub.kp (kw0.trans qq)) cx1
        rwa [hcx] at this
      have YM : ∀ w1, Kp wr w1 → Calls Tryd.prog 33 #[ndV x vi, ndV x vi] w1 fun e w' => e = .returned (.bool true) ∧ Kp w1 w' := fun w1 qq => by
        have this := tSame_any x x vi vi w1 (hsub.kp (kw0.trans qq)) (hsub.kp (kw0.trans qq)) cx1
        rwa [(same_iff x x).2 rfl] at this
      have XM : ∀ w1, Calls Tryd.prog 33 #[.agg #[.int .i64 0, .int .i64 pk, .string y, .string m, .string q, .bool a, .bool t, .slice none 0 0], .agg #[.int .i64 0, .int .i64 pk, .string y, .string m, .string q, .bool a, .bool t, .slice none 0 0]] w1 fun e w' => e = .returned (.bool true) ∧ Kp w1 w' := fun w1 => by
        have this := tSame_any (.mk 0 ⟨pk, y, m, q⟩ a t [] : ND) (.mk 0 ⟨pk, y, m, q⟩ a t [] : ND) (.slice none 0 0) (.slice none 0 0) w1 (.none _ _) (.none _ _) (by simp [cntN, cntL])
        rw [(same_iff _ _).2 rfl] at this
        exact this
      have YB : ∀ w1, Calls Tryd.prog 37 #[.agg #[.int .i64 0, .int .i64 pk, .string y, .string m, .string q, .bool a, .bool t, .slice none 0 0], ndV x vi] w1 _ := fun w1 => between2_any (.mk 0 ⟨pk, y, m, q⟩ a t [] : ND) x (.slice none 0 0) vi w1 ⟨_, _, rfl⟩ hsub.slice
      have ZS : ∀ w1 bs, Kp wr w1 → NodesAt w1 (.slice (some ⟨bs, 0, none⟩) 2 2) [(.mk 0 ⟨pk, y, m, q⟩ a t [] : ND), x] → Calls Tryd.prog 25 #[.agg #[.int .i64 1, .int .i64 0, .string ⟨#[]⟩, .string ⟨#[]⟩, .string ⟨#[]⟩, .bool false, .bool false, .slice (some ⟨bs, 0, none⟩) 2 2]] w1 fun e w' => e = .returned (.bool (false && eb)) ∧ Kp w1 w' := fun w1 bs qq h => by
        have this := tSane_any (.mk 1 pt0 false false [(.mk 0 ⟨pk, y, m, q⟩ a t [] : ND), x]) (.slice (some ⟨bs, 0, none⟩) 2 2) w1 h (by rw [cnt_S]; omega) (TH.out _ (kw0.trans qq))
        rw [xx, heb] at this
        exact this
      have ZC : ∀ w1 bs, NodesAt w1 (.slice (some ⟨bs, 0, none⟩) 2 2) [(.mk 0 ⟨pk, y, m, q⟩ a t [] : ND), x] → Calls Tryd.prog 29 #[.agg #[.int .i64 1, .int .i64 0, .string ⟨#[]⟩, .string ⟨#[]⟩, .string ⟨#[]⟩, .bool false, .bool false, .slice (some ⟨bs, 0, none⟩) 2 2]] w1 fun e w' => e = .returned (.int .i64 (cx + 2)) ∧ Kp w1 w' := fun w1 bs h => by
        have this := tCount_any (.mk 1 pt0 false false [(.mk 0 ⟨pk, y, m, q⟩ a t [] : ND), x]) (.slice (some ⟨bs, 0, none⟩) 2 2) w1 h (by rw [cnt_S]; omega)
        rw [cnt_S, Int.natCast_add, hcx] at this
        exact this
      have HSB := Lib.hid (show saneN saneP (nth l j) = sb by rw [hx]; exact hsb)
      have SUB := Lib.hid (fun w1 (qq : Kp w w1) => hsub.kp qq)
      have KW := Lib.hid kw0
      have hwrp : IntKind.i64.wrap (cx + 2) = cx + 2 := by rw [IntKind.wrap_i64]; omega
      have z1 : (j : Int) < (l.length : Int) := by omega
      have z3 : (0 : Int) ≤ (j : Int) := by omega
      have HLT := Lib.hid hlt
      clear hx hrow hsb heb hcx xx cmj cx1
      obtain ⟨k1, ⟨pk1, y1, m1, q1⟩, a1, t1, l1⟩ := x
      simp only [ND.k, ND.p, ND.a, ND.t, ND.l] at r0 r1 r2 r3 r4 r5 r6 hsub YB SUB
      obtain ⟨ad1, cp1, rfl⟩ := hsub.slice
      (try unfold ndV at YS YE YC YM YB)
      simp only [ND.k, ND.p, ND.a, ND.t, ND.l] at YS YE YC YM YB
      have YSH := Lib.hid YS
      have YEH := Lib.hid YE
      have YCH := Lib.hid YC
      have YMH := Lib.hid YM
      have XMH := Lib.hid XM
      have YBH := Lib.hid YB
      have ZSH := Lib.hid ZS
      have ZCH := Lib.hid ZC
      clear YS YE YC YM XM YB ZS ZC kw0 hsub cl9
      cases bb with
      | false =>
        have HB2 := Lib.hid (show false = (e0 && (l.take (j + 1)).all (saneN saneP)) by rw [EBS.out, ← Bool.and_assoc, ← HBB.out]; rfl)
        go_wp2_with fail
        have KS := Lib.hid (fun w' (qq : Kp wr w') => show w'.cell? ⟨w3.heap.size, 0, none⟩ = some (.int .i64 0) ∧ w'.cell? ⟨w3.heap.size, 1, none⟩ = some (.int .i64 pk) ∧ w'.cell? ⟨w3.heap.size, 2, none⟩ = some (.string y) ∧ w'.cell? ⟨w3.heap.size, 3, none⟩ = some (.string m) ∧ w'.cell? ⟨w3.heap.size, 4, none⟩ = some (.string q) ∧ w'.cell? ⟨w3.heap.size, 5, none⟩ = some (.bool a) ∧ w'.cell? ⟨w3.heap.size, 6, none⟩ = some (.bool t) ∧ w'.cell? ⟨w3.heap.size, 7, none⟩ = some (.slice none 0 0) ∧ w'.cell? ⟨bk, of + j * 8, none⟩ = some (.int .i64 k1) ∧ w'.cell? ⟨bk, of + j * 8 + 1, none⟩ = some (.int .i64 pk1) ∧ w'.cell? ⟨bk, of + j * 8 + 2, none⟩ = some (.string y1) ∧ w'.cell? ⟨bk, of + j * 8 + 3, none⟩ = some (.string m1) ∧ w'.cell? ⟨bk, of + j * 8 + 4, none⟩ = some (.string q1) ∧ w'.cell? ⟨bk, of + j * 8 + 5, none⟩ = some (.bool a1) ∧ w'.cell? ⟨bk, of + j * 8 + 6, none⟩ = some (.bool t1) ∧ w'.cell? ⟨bk, of + j * 8 + 7, none⟩ = some (.slice ad1 l1.length cp1) ∧ Kp wr w' from ⟨(row8 (GX.out _ ((J7.out.trans (KL.out.trans (Kp.refl wr))).trans qq))).1, (row8 (GX.out _ ((J7.out.trans (KL.out.trans (Kp.refl wr))).trans qq))).2.1, (row8 (GX.out _ ((J7.out.trans (KL.out.trans (Kp.refl wr))).trans qq))).2.2.1, (row8 (GX.out _ ((J7.out.trans (KL.out.trans (Kp.refl wr))).trans qq))).2.2.2.1, (row8 (GX.out _ ((J7.out.trans (KL.out.trans (Kp.refl wr))).trans qq))).2.2.2.2.1, (row8 (GX.out _ ((J7.out.trans (KL.out.trans (Kp.refl wr))).trans qq))).2.2.2.2.2.1, (row8 (GX.out _ ((J7.out.trans (KL.out.trans (Kp.refl wr))).trans qq))).2.2.2.2.2.2.1, (row8 (GX.out _ ((J7.out.trans (KL.out.trans (Kp.refl wr))).trans qq))).2.2.2.2.2.2.2, cell_up qq r0, cell_up qq r1, cell_up qq r2, cell_up qq r3, cell_up qq r4, cell_up qq r5, cell_up qq r6, cell_up qq r7, qq⟩)
        refine wp_region_held_drew (S := fun w' => w'.cell? ⟨w3.heap.size, 0, none⟩ = some (.int .i64 0) ∧ w'.cell? ⟨w3.heap.size, 1, none⟩ = some (.int .i64 pk) ∧ w'.cell? ⟨w3.heap.size, 2, none⟩ = some (.string y) ∧ w'.cell? ⟨w3.heap.size, 3, none⟩ = some (.string m) ∧ w'.cell? ⟨w3.heap.size, 4, none⟩ = some (.string q) ∧ w'.cell? ⟨w3.heap.size, 5, none⟩ = some (.bool a) ∧ w'.cell? ⟨w3.heap.size, 6, none⟩ = some (.bool t) ∧ w'.cell? ⟨w3.heap.size, 7, none⟩ = some (.slice none 0 0) ∧ w'.cell? ⟨bk, of + j * 8, none⟩ = some (.int .i64 k1) ∧ w'.cell? ⟨bk, of + j * 8 + 1, none⟩ = some (.int .i64 pk1) ∧ w'.cell? ⟨bk, of + j * 8 + 2, none⟩ = some (.string y1) ∧ w'.cell? ⟨bk, of + j * 8 + 3, none⟩ = some (.string m1) ∧ w'.cell? ⟨bk, of + j * 8 + 4, none⟩ = some (.string q1) ∧ w'.cell? ⟨bk, of + j * 8 + 5, none⟩ = some (.bool a1) ∧ w'.cell? ⟨bk, of + j * 8 + 6, none⟩ = some (.bool t1) ∧ w'.cell? ⟨bk, of + j * 8 + 7, none⟩ = some (.slice ad1 l1.length cp1) ∧ Kp wr w') (by kernel_rfl) ?_ (fun hHeld0 => ?_)
        · (try dsimp only); exact KS.out _ (by first | with_reducible exact Kp.refl _ | with_reducible exact Kp.drew _ | with_reducible assumption | with_reducible exact Kp.alloc _ _ | with_reducible exact (Kp.drew _).trans (Kp.alloc _ _) | with_reducible exact Kp.trans k2 (Kp.alloc _ _) | exact (Kp.drew _).trans (Kp.alloc _ _) | exact Kp.trans k2 (Kp.alloc _ _))
        refine tkW (v := ?_) 0 mdQ0 rfl (by kernel_rfl) (by kernel_rfl) (by kernel_rfl) (fun _ _ _ h => h) (by rfl) ?_ (by assumption) ?_
        rotate_left
        · intro w hSw; (try dsimp only at hSw); go_simp; (try with_reducible rfl)
        (try simp only [Act.put, mdQ0, List.setIfInBounds_toArray, List.set_cons_zero, List.set_cons_succ])
        refine tkW (v := ?_) 1 mdQ1 rfl (by kernel_rfl) (by kernel_rfl) (by kernel_rfl) (fun _ _ _ h => h) (by rfl) ?_ (by assumption) ?_
        rotate_left
        · intro w hSw; (try dsimp only at hSw); go_simp; (try with_reducible rfl)
        (try simp only [Act.put, mdQ1, List.setIfInBounds_toArray, List.set_cons_zero, List.set_cons_succ])
        refine tkW (v := ?_) 2 mdQ2 rfl (by kernel_rfl) (by kernel_rfl) (by kernel_rfl) (fun _ _ _ h => h) (by rfl) ?_ (by assumption) ?_
        rotate_left
        · intro w hSw; (try dsimp only at hSw); go_simp; (try with_reducible rfl)
        (try simp only [Act.put, mdQ2, List.setIfInBounds_toArray, List.set_cons_zero, List.set_cons_succ])
        refine tkW (v := ?_) 3 mdQ3 rfl (by kernel_rfl) (by kernel_rfl) (by kernel_rfl) (fun _ _ _ h => h) (by rfl) ?_ (by assumption) ?_
        rotate_left
        · intro w hSw; (try dsimp only at hSw); go_simp; (try with_reducible rfl)
        (try simp only [Act.put, mdQ3, List.setIfInBounds_toArray, List.set_cons_zero, List.set_cons_succ])
        refine tkW (v := ?_) 4 mdQ4 rfl (by kernel_rfl) (by kernel_rfl) (by kernel_rfl) (fun _ _ _ h => h) (by rfl) ?_ (by assumption) ?_
        rotate_left
        · intro w hSw; (try dsimp only at hSw); go_simp; (try with_reducible rfl)
        (try simp only [Act.put, mdQ4, List.setIfInBounds_toArray, List.set_cons_zero, List.set_cons_succ])
        refine tkE2 5 6 mdQ5 mdQ6 rfl rfl (by kernel_rfl) (fun K hK => ?_) (fun K hK => ?_)
        · go_simp
          (refine (YBH.out _).mono ?_; rintro e w' ⟨bs, rfl, hbs0, hg16, kq⟩; have k2 := Kp.trans (show Kp wr _ from (by first | exact Kp.refl _ | exact Kp.drew _ | exact Kp.alloc _ _ | exact (Kp.drew _).trans (Kp.alloc _ _))) kq)
          (try go_wp2_with fail)
          refine hK.out _ _ ?_ (fun hHeld1 => ?_)
          · (try dsimp only); exact KS.out _ (by first | with_reducible exact Kp.refl _ | with_reducible exact Kp.drew _ | with_reducible assumption | with_reducible exact Kp.alloc _ _ | with_reducible exact (Kp.drew _).trans (Kp.alloc _ _) | with_reducible exact Kp.trans k2 (Kp.alloc _ _) | exact (Kp.drew _).trans (Kp.alloc _ _) | exact Kp.trans k2 (Kp.alloc _ _))
          clear hK K hHeld0
          (try simp only [Act.put, mdQ5, List.setIfInBounds_toArray, List.set_cons_zero, List.set_cons_succ])
          refine tkE 6 mdQ6 rfl (by kernel_rfl) (fun K hK => ?_)
          go_simp
          skip
          (try go_wp2_with fail)
          refine hK.out _ _ ?_ (fun hHeld2 => ?_)
          · (try dsimp only); exact KS.out _ (by first | with_reducible exact Kp.refl _ | with_reducible exact Kp.drew _ | with_reducible assumption | with_reducible exact Kp.alloc _ _ | with_reducible exact (Kp.drew _).trans (Kp.alloc _ _) | with_reducible exact Kp.trans k2 (Kp.alloc _ _) | exact (Kp.drew _).trans (Kp.alloc _ _) | exact Kp.trans k2 (Kp.alloc _ _))
          clear hK K hHeld1
          (try simp only [Act.put, mdQ6, List.setIfInBounds_toArray, List.set_cons_zero, List.set_cons_succ])
          refine tkE 7 mdQ7 rfl (by kernel_rfl) (fun K hK => ?_)
          go_simp
          skip
          (try go_wp2_with fail)
          refine hK.out _ _ ?_ (fun hHeld3 => ?_)
          · (try dsimp only); exact KS.out _ (by first | with_reducible exact Kp.refl _ | with_reducible exact Kp.drew _ | with_reducible assumption | with_reducible exact Kp.alloc _ _ | with_reducible exact (Kp.drew _).trans (Kp.alloc _ _) | with_reducible exact Kp.trans k2 (Kp.alloc _ _) | exact (Kp.drew _).trans (Kp.alloc _ _) | exact Kp.trans k2 (Kp.alloc _ _))
          clear hK K hHeld2
          (try simp only [Act.put, mdQ7, List.setIfInBounds_toArray, List.set_cons_zero, List.set_cons_succ])
          refine wpAnyH_done (by kernel_rfl) ?_ _
          obtain ⟨wu, hwu⟩ : ∃ x : World, x = w' := ⟨_, rfl⟩
          subst hwu
          have ku := k2
          obtain ⟨V, hV⟩ : ∃ x, x = wu.alloc (.cells #[.int .i64 1, .int .i64 0, .string ⟨#[]⟩, .string ⟨#[]⟩, .string ⟨#[]⟩, .bool false, .bool false, .slice (some ⟨bs, 0, none⟩) 2 2] 46) := ⟨_, rfl⟩
          have kv : Kp wr V := by rw [hV]; exact ku.trans (Kp.alloc _ _)
          have gS : V.heap[wu.heap.size]? = some (.cells #[.int .i64 1, .int .i64 0, .string ⟨#[]⟩, .string ⟨#[]⟩, .string ⟨#[]⟩, .bool false, .bool false, .slice (some ⟨bs, 0, none⟩) 2 2] 46 (0, 0)) := by rw [hV]; exact heap_at _ _ _ rfl
          have g16 : V.heap[bs]? = some (.cells #[.int .i64 0, .int .i64 pk, .string y, .string m, .string q, .bool a, .bool t, .slice none 0 0, .int .i64 k1, .int .i64 pk1, .string y1, .string m1, .string q1, .bool a1, .bool t1, .slice ad1 l1.length cp1] 46 (0, 0)) := by rw [hV]; exact heap_block (Kp.alloc _ _) hg16
          have nS : NodesAt V (.slice (some ⟨bs, 0, none⟩) 2 2) [(.mk 0 ⟨pk, y, m, q⟩ a t [] : ND), (.mk k1 ⟨pk1, y1, m1, q1⟩ a1 t1 l1 : ND)] := pair_nodes (n := (.mk 0 ⟨pk, y, m, q⟩ a t [] : ND)) (m := (.mk k1 ⟨pk1, y1, m1, q1⟩ a1 t1 l1 : ND)) g16 (.none _ _) (SUB.out _ (KW.out.trans (Kp.trans (Kp.refl wr) kv)))
          have NS := Lib.hid nS
          have GS := Lib.hid (fun w1 (qq : Kp V w1) => heap_block qq gS)
          have G16 := Lib.hid (fun w1 (qq : Kp V w1) => row16 (heap_block qq g16))
          have KV := Lib.hid (Kp.trans (Kp.refl wr) kv)
          have RR := Lib.hid (fun w1 (qq : Kp V w1) => And.intro (cell_up (kv.trans qq) r0) (And.intro (cell_up (kv.trans qq) r1) (And.intro (cell_up (kv.trans qq) r2) (And.intro (cell_up (kv.trans qq) r3) (And.intro (cell_up (kv.trans qq) r4) (And.intro (cell_up (kv.trans qq) r5) (And.intro (cell_up (kv.trans qq) r6) (cell_up (kv.trans qq) r7))))))))
          have HV := Lib.hid hV
          clear KS k2 kq ku kv hV gS g16 hg16 nS r0 r1 r2 r3 r4 r5 r6 r7
          go_wp2_with fail
          rw [← HV.out]
          have KS := Lib.hid (fun w' (qq : Kp V w') => show w'.cell? ⟨wu.heap.size, 0, none⟩ = some (.int .i64 1) ∧ w'.cell? ⟨wu.heap.size, 1, none⟩ = some (.int .i64 0) ∧ w'.cell? ⟨wu.heap.size, 2, none⟩ = some (.string ⟨#[]⟩) ∧ w'.cell? ⟨wu.heap.size, 3, none⟩ = some (.string ⟨#[]⟩) ∧ w'.cell? ⟨wu.heap.size, 4, none⟩ = some (.string ⟨#[]⟩) ∧ w'.cell? ⟨wu.heap.size, 5, none⟩ = some (.bool false) ∧ w'.cell? ⟨wu.heap.size, 6, none⟩ = some (.bool false) ∧ w'.cell? ⟨wu.heap.size, 7, none⟩ = some (.slice (some ⟨bs, 0, none⟩) 2 2) ∧ w'.cell? ⟨bs, 0, none⟩ = some (.int .i64 0) ∧ w'.cell? ⟨bs, 1, none⟩ = some (.int .i64 pk) ∧ w'.cell? ⟨bs, 2, none⟩ = some (.string y) ∧ w'.cell? ⟨bs, 3, none⟩ = some (.string m) ∧ w'.cell? ⟨bs, 4, none⟩ = some (.string q) ∧ w'.cell? ⟨bs, 5, none⟩ = some (.bool a) ∧ w'.cell? ⟨bs, 6, none⟩ = some (.bool t) ∧ w'.cell? ⟨bs, 7, none⟩ = some (.slice none 0 0) ∧ w'.cell? ⟨bs, 8, none⟩ = some (.int .i64 k1) ∧ w'.cell? ⟨bs, 9, none⟩ = some (.int .i64 pk1) ∧ w'.cell? ⟨bs, 10, none⟩ = some (.string y1) ∧ w'.cell? ⟨bs, 11, none⟩ = some (.string m1) ∧ w'.cell? ⟨bs, 12, none⟩ = some (.string q1) ∧ w'.cell? ⟨bs, 13, none⟩ = some (.bool a1) ∧ w'.cell? ⟨bs, 14, none⟩ = some (.bool t1) ∧ w'.cell? ⟨bs, 15, none⟩ = some (.slice ad1 l1.length cp1) ∧ w'.cell? ⟨w3.heap.size, 0, none⟩ = some (.int .i64 0) ∧ w'.cell? ⟨w3.heap.size, 1, none⟩ = some (.int .i64 pk) ∧ w'.cell? ⟨w3.heap.size, 2, none⟩ = some (.string y) ∧ w'.cell? ⟨w3.heap.size, 3, none⟩ = some (.string m) ∧ w'.cell? ⟨w3.heap.size, 4, none⟩ = some (.string q) ∧ w'.cell? ⟨w3.heap.size, 5, none⟩ = some (.bool a) ∧ w'.cell? ⟨w3.heap.size, 6, none⟩ = some (.bool t) ∧ w'.cell? ⟨w3.heap.size, 7, none⟩ = some (.slice none 0 0) ∧ w'.cell? ⟨bk, of + j * 8, none⟩ = some (.int .i64 k1) ∧ w'.cell? ⟨bk, of + j * 8 + 1, none⟩ = some (.int .i64 pk1) ∧ w'.cell? ⟨bk, of + j * 8 + 2, none⟩ = some (.string y1) ∧ w'.cell? ⟨bk, of + j * 8 + 3, none⟩ = some (.string m1) ∧ w'.cell? ⟨bk, of + j * 8 + 4, none⟩ = some (.string q1) ∧ w'.cell? ⟨bk, of + j * 8 + 5, none⟩ = some (.bool a1) ∧ w'.cell? ⟨bk, of + j * 8 + 6, none⟩ = some (.bool t1) ∧ w'.cell? ⟨bk, of + j * 8 + 7, none⟩ = some (.slice ad1 l1.length cp1) ∧ Kp V w' from ⟨(row8 (GS.out _ qq)).1, (row8 (GS.out _ qq)).2.1, (row8 (GS.out _ qq)).2.2.1, (row8 (GS.out _ qq)).2.2.2.1, (row8 (GS.out _ qq)).2.2.2.2.1, (row8 (GS.out _ qq)).2.2.2.2.2.1, (row8 (GS.out _ qq)).2.2.2.2.2.2.1, (row8 (GS.out _ qq)).2.2.2.2.2.2.2, (G16.out _ qq).1, (G16.out _ qq).2.1, (G16.out _ qq).2.2.1, (G16.out _ qq).2.2.2.1, (G16.out _ qq).2.2.2.2.1, (G16.out _ qq).2.2.2.2.2.1, (G16.out _ qq).2.2.2.2.2.2.1, (G16.out _ qq).2.2.2.2.2.2.2.1, (G16.out _ qq).2.2.2.2.2.2.2.2.1, (G16.out _ qq).2.2.2.2.2.2.2.2.2.1, (G16.out _ qq).2.2.2.2.2.2.2.2.2.2.1, (G16.out _ qq).2.2.2.2.2.2.2.2.2.2.2.1, (G16.out _ qq).2.2.2.2.2.2.2.2.2.2.2.2.1, (G16.out _ qq).2.2.2.2.2.2.2.2.2.2.2.2.2.1, (G16.out _ qq).2.2.2.2.2.2.2.2.2.2.2.2.2.2.1, (G16.out _ qq).2.2.2.2.2.2.2.2.2.2.2.2.2.2.2, (row8 (GX.out _ ((J7.out.trans (KL.out.trans KV.out)).trans qq))).1, (row8 (GX.out _ ((J7.out.trans (KL.out.trans KV.out)).trans qq))).2.1, (row8 (GX.out _ ((J7.out.trans (KL.out.trans KV.out)).trans qq))).2.2.1, (row8 (GX.out _ ((J7.out.trans (KL.out.trans KV.out)).trans qq))).2.2.2.1, (row8 (GX.out _ ((J7.out.trans (KL.out.trans KV.out)).trans qq))).2.2.2.2.1, (row8 (GX.out _ ((J7.out.trans (KL.out.trans KV.out)).trans qq))).2.2.2.2.2.1, (row8 (GX.out _ ((J7.out.trans (KL.out.trans KV.out)).trans qq))).2.2.2.2.2.2.1, (row8 (GX.out _ ((J7.out.trans (KL.out.trans KV.out)).trans qq))).2.2.2.2.2.2.2, (RR.out _ qq).1, (RR.out _ qq).2.1, (RR.out _ qq).2.2.1, (RR.out _ qq).2.2.2.1, (RR.out _ qq).2.2.2.2.1, (RR.out _ qq).2.2.2.2.2.1, (RR.out _ qq).2.2.2.2.2.2.1, (RR.out _ qq).2.2.2.2.2.2.2, qq⟩)
          refine wp_region_held_drew (S := fun w' => w'.cell? ⟨wu.heap.size, 0, none⟩ = some (.int .i64 1) ∧ w'.cell? ⟨wu.heap.size, 1, none⟩ = some (.int .i64 0) ∧ w'.cell? ⟨wu.heap.size, 2, none⟩ = some (.string ⟨#[]⟩) ∧ w'.cell? ⟨wu.heap.size, 3, none⟩ = some (.string ⟨#[]⟩) ∧ w'.cell? ⟨wu.heap.size, 4, none⟩ = some (.string ⟨#[]⟩) ∧ w'.cell? ⟨wu.heap.size, 5, none⟩ = some (.bool false) ∧ w'.cell? ⟨wu.heap.size, 6, none⟩ = some (.bool false) ∧ w'.cell? ⟨wu.heap.size, 7, none⟩ = some (.slice (some ⟨bs, 0, none⟩) 2 2) ∧ w'.cell? ⟨bs, 0, none⟩ = some (.int .i64 0) ∧ w'.cell? ⟨bs, 1, none⟩ = some (.int .i64 pk) ∧ w'.cell? ⟨bs, 2, none⟩ = some (.string y) ∧ w'.cell? ⟨bs, 3, none⟩ = some (.string m) ∧ w'.cell? ⟨bs, 4, none⟩ = some (.string q) ∧ w'.cell? ⟨bs, 5, none⟩ = some (.bool a) ∧ w'.cell? ⟨bs, 6, none⟩ = some (.bool t) ∧ w'.cell? ⟨bs, 7, none⟩ = some (.slice none 0 0) ∧ w'.cell? ⟨bs, 8, none⟩ = some (.int .i64 k1) ∧ w'.cell? ⟨bs, 9, none⟩ = some (.int .i64 pk1) ∧ w'.cell? ⟨bs, 10, none⟩ = some (.string y1) ∧ w'.cell? ⟨bs, 11, none⟩ = some (.string m1) ∧ w'.cell? ⟨bs, 12, none⟩ = some (.string q1) ∧ w'.cell? ⟨bs, 13, none⟩ = some (.bool a1) ∧ w'.cell? ⟨bs, 14, none⟩ = some (.bool t1) ∧ w'.cell? ⟨bs, 15, none⟩ = some (.slice ad1 l1.length cp1) ∧ w'.cell? ⟨w3.heap.size, 0, none⟩ = some (.int .i64 0) ∧ w'.cell? ⟨w3.heap.size, 1, none⟩ = some (.int .i64 pk) ∧ w'.cell? ⟨w3.heap.size, 2, none⟩ = some (.string y) ∧ w'.cell? ⟨w3.heap.size, 3, none⟩ = some (.string m) ∧ w'.cell? ⟨w3.heap.size, 4, none⟩ = some (.string q) ∧ w'.cell? ⟨w3.heap.size, 5, none⟩ = some (.bool a) ∧ w'.cell? ⟨w3.heap.size, 6, none⟩ = some (.bool t) ∧ w'.cell? ⟨w3.heap.size, 7, none⟩ = some (.slice none 0 0) ∧ w'.cell? ⟨bk, of + j * 8, none⟩ = some (.int .i64 k1) ∧ w'.cell? ⟨bk, of + j * 8 + 1, none⟩ = some (.int .i64 pk1) ∧ w'.cell? ⟨bk, of + j * 8 + 2, none⟩ = some (.string y1) ∧ w'.cell? ⟨bk, of + j * 8 + 3, none⟩ = some (.string m1) ∧ w'.cell? ⟨bk, of + j * 8 + 4, none⟩ = some (.string q1) ∧ w'.cell? ⟨bk, of + j * 8 + 5, none⟩ = some (.bool a1) ∧ w'.cell? ⟨bk, of + j * 8 + 6, none⟩ = some (.bool t1) ∧ w'.cell? ⟨bk, of + j * 8 + 7, none⟩ = some (.slice ad1 l1.length cp1) ∧ Kp V w') (by kernel_rfl) ?_ (fun hHeld0 => ?_)
          · (try dsimp only); exact KS.out _ (by first | assumption | exact Kp.drew _ | exact Kp.refl _)
          refine tkW (v := ?_) 0 mdR0 rfl (by kernel_rfl) (by kernel_rfl) (by kernel_rfl) (fun _ _ _ h => h) (by rfl) ?_ (by assumption) ?_
          rotate_left
          · intro w hSw; (try dsimp only at hSw); go_simp; (try with_reducible rfl)
          (try simp only [Act.put, mdR0, List.setIfInBounds_toArray, List.set_cons_zero, List.set_cons_succ])
          refine tkW (v := ?_) 1 mdR1 rfl (by kernel_rfl) (by kernel_rfl) (by kernel_rfl) (fun _ _ _ h => h) (by rfl) ?_ (by assumption) ?_
          rotate_left
          · intro w hSw; (try dsimp only at hSw); go_simp; (try with_reducible rfl)
          (try simp only [Act.put, mdR1, List.setIfInBounds_toArray, List.set_cons_zero, List.set_cons_succ])
          refine tkW (v := ?_) 2 mdR2 rfl (by kernel_rfl) (by kernel_rfl) (by kernel_rfl) (fun _ _ _ h => h) (by rfl) ?_ (by assumption) ?_
          rotate_left
          · intro w hSw; (try dsimp only at hSw); go_simp; (try with_reducible rfl)
          (try simp only [Act.put, mdR2, List.setIfInBounds_toArray, List.set_cons_zero, List.set_cons_succ])
          refine tkW (v := ?_) 3 mdR3 rfl (by kernel_rfl) (by kernel_rfl) (by kernel_rfl) (fun _ _ _ h => h) (by rfl) ?_ (by assumption) ?_
          rotate_left
          · intro w hSw; (try dsimp only at hSw); go_simp; (try with_reducible rfl)
          (try simp only [Act.put, mdR3, List.setIfInBounds_toArray, List.set_cons_zero, List.set_cons_succ])
          refine tkW (v := ?_) 4 mdR4 rfl (by kernel_rfl) (by kernel_rfl) (by kernel_rfl) (fun _ _ _ h => h) (by rfl) ?_ (by assumption) ?_
          rotate_left
          · intro w hSw; (try dsimp only at hSw); go_simp; (try with_reducible rfl)
          (try simp only [Act.put, mdR4, List.setIfInBounds_toArray, List.set_cons_zero, List.set_cons_succ])
          refine tkW (v := ?_) 5 mdR5 rfl (by kernel_rfl) (by kernel_rfl) (by kernel_rfl) (fun _ _ _ h => h) (by rfl) ?_ (by assumption) ?_
          rotate_left
          · intro w hSw; (try dsimp only at hSw); go_simp; (try with_reducible rfl)
          (try simp only [Act.put, mdR5, List.setIfInBounds_toArray, List.set_cons_zero, List.set_cons_succ])
          refine tkW (v := ?_) 6 mdR6 rfl (by kernel_rfl) (by kernel_rfl) (by kernel_rfl) (fun _ _ _ h => h) (by rfl) ?_ (by assumption) ?_
          rotate_left
          · intro w hSw; (try dsimp only at hSw); go_simp; (try with_reducible rfl)
          (try simp only [Act.put, mdR6, List.setIfInBounds_toArray, List.set_cons_zero, List.set_cons_succ])
          refine tkW (v := ?_) 7 mdR7 rfl (by kernel_rfl) (by kernel_rfl) (by kernel_rfl) (fun _ _ _ h => h) (by rfl) ?_ (by assumption) ?_
          rotate_left
          · intro w hSw; (try dsimp only at hSw); go_simp; (try with_reducible rfl)
          (try simp only [Act.put, mdR7, List.setIfInBounds_toArray, List.set_cons_zero, List.set_cons_succ])
          refine tkW (v := ?_) 8 mdR8 rfl (by kernel_rfl) (by kernel_rfl) (by kernel_rfl) (fun _ _ _ h => h) (by rfl) ?_ (by assumption) ?_
          rotate_left
          · intro w hSw; (try dsimp only at hSw); go_simp; (try with_reducible rfl)
          (try simp only [Act.put, mdR8, List.setIfInBounds_toArray, List.set_cons_zero, List.set_cons_succ])
          refine tkW (v := ?_) 9 mdR9 rfl (by kernel_rfl) (by kernel_rfl) (by kernel_rfl) (fun _ _ _ h => h) (by rfl) ?_ (by assumption) ?_
          rotate_left
          · intro w hSw; (try dsimp only at hSw); go_simp; (try with_reducible rfl)
          (try simp only [Act.put, mdR9, List.setIfInBounds_toArray, List.set_cons_zero, List.set_cons_succ])
          refine tkW (v := ?_) 10 mdR10 rfl (by kernel_rfl) (by kernel_rfl) (by kernel_rfl) (fun _ _ _ h => h) (by rfl) ?_ (by assumption) ?_
          rotate_left
          · intro w hSw; (try dsimp only at hSw); go_simp; (try with_reducible rfl)
          (try simp only [Act.put, mdR10, List.setIfInBounds_toArray, List.set_cons_zero, List.set_cons_succ])
          refine tkW (v := ?_) 11 mdR11 rfl (by kernel_rfl) (by kernel_rfl) (by kernel_rfl) (fun _ _ _ h => h) (by rfl) ?_ (by assumption) ?_
          rotate_left
          · intro w hSw; (try dsimp only at hSw); go_simp; (try with_reducible rfl)
          (try simp only [Act.put, mdR11, List.setIfInBounds_toArray, List.set_cons_zero, List.set_cons_succ])
          refine tkW (v := ?_) 12 mdR12 rfl (by kernel_rfl) (by kernel_rfl) (by kernel_rfl) (fun _ _ _ h => h) (by rfl) ?_ (by assumption) ?_
          rotate_left
          · intro w hSw; (try dsimp only at hSw); go_simp; (try with_reducible rfl)
          (try simp only [Act.put, mdR12, List.setIfInBounds_toArray, List.set_cons_zero, List.set_cons_succ])
          refine tkW (v := ?_) 13 mdR13 rfl (by kernel_rfl) (by kernel_rfl) (by kernel_rfl) (fun _ _ _ h => h) (by rfl) ?_ (by assumption) ?_
          rotate_left
          · intro w hSw; (try dsimp only at hSw); go_simp; (try with_reducible rfl)
          (try simp only [Act.put, mdR13, List.setIfInBounds_toArray, List.set_cons_zero, List.set_cons_succ])
          refine tkW (v := ?_) 14 mdR14 rfl (by kernel_rfl) (by kernel_rfl) (by kernel_rfl) (fun _ _ _ h => h) (by rfl) ?_ (by assumption) ?_
          rotate_left
          · intro w hSw; (try dsimp only at hSw); go_simp; (try with_reducible rfl)
          (try simp only [Act.put, mdR14, List.setIfInBounds_toArray, List.set_cons_zero, List.set_cons_succ])
          refine tkE 15 mdR15 rfl (by kernel_rfl) (fun K hK => ?_)
          go_simp
          (refine (XMH.out _).mono ?_; rintro e w' ⟨rfl, kq⟩; have k2 := Kp.trans (show Kp V _ from (by first | assumption | exact Kp.drew _ | exact Kp.refl _)) kq; clear kq)
          (try go_wp2_with fail)
          refine hK.out _ _ ?_ (fun hHeld1 => ?_)
          · (try dsimp only); exact KS.out _ (by first | assumption | exact Kp.drew _ | exact Kp.refl _)
          clear hK K hHeld0
          (try simp only [Act.put, mdR15, List.setIfInBounds_toArray, List.set_cons_zero, List.set_cons_succ])
          refine tkW (v := ?_) 16 mdR16 rfl (by kernel_rfl) (by kernel_rfl) (by kernel_rfl) (fun _ _ _ h => h) (by rfl) ?_ (by assumption) ?_
          rotate_left
          · intro w hSw; (try dsimp only at hSw); go_simp; (try with_reducible rfl)
          (try simp only [Act.put, mdR16, List.setIfInBounds_toArray, List.set_cons_zero, List.set_cons_succ])
          refine tkW (v := ?_) 17 mdR17 rfl (by kernel_rfl) (by kernel_rfl) (by kernel_rfl) (fun _ _ _ h => h) (by rfl) ?_ (by assumption) ?_
          rotate_left
          · intro w hSw; (try dsimp only at hSw); go_simp; (try with_reducible rfl)
          (try simp only [Act.put, mdR17, List.setIfInBounds_toArray, List.set_cons_zero, List.set_cons_succ])
          refine tkW (v := ?_) 18 mdR18 rfl (by kernel_rfl) (by kernel_rfl) (by kernel_rfl) (fun _ _ _ h => h) (by rfl) ?_ (by assumption) ?_
          rotate_left
          · intro w hSw; (try dsimp only at hSw); go_simp; (try with_reducible rfl)
          (try simp only [Act.put, mdR18, List.setIfInBounds_toArray, List.set_cons_zero, List.set_cons_succ])
          refine tkW (v := ?_) 19 mdR19 rfl (by kernel_rfl) (by kernel_rfl) (by kernel_rfl) (fun _ _ _ h => h) (by rfl) ?_ (by assumption) ?_
          rotate_left
          · intro w hSw; (try dsimp only at hSw); go_simp; (try with_reducible rfl)
          (try simp only [Act.put, mdR19, List.setIfInBounds_toArray, List.set_cons_zero, List.set_cons_succ])
          refine tkW (v := ?_) 20 mdR20 rfl (by kernel_rfl) (by kernel_rfl) (by kernel_rfl) (fun _ _ _ h => h) (by rfl) ?_ (by assumption) ?_
          rotate_left
          · intro w hSw; (try dsimp only at hSw); go_simp; (try with_reducible rfl)
          (try simp only [Act.put, mdR20, List.setIfInBounds_toArray, List.set_cons_zero, List.set_cons_succ])
          refine tkW (v := ?_) 21 mdR21 rfl (by kernel_rfl) (by kernel_rfl) (by kernel_rfl) (fun _ _ _ h => h) (by rfl) ?_ (by assumption) ?_
          rotate_left
          · intro w hSw; (try dsimp only at hSw); go_simp; (try with_reducible rfl)
          (try simp only [Act.put, mdR21, List.setIfInBounds_toArray, List.set_cons_zero, List.set_cons_succ])
          refine tkW (v := ?_) 22 mdR22 rfl (by kernel_rfl) (by kernel_rfl) (by kernel_rfl) (fun _ _ _ h => h) (by rfl) ?_ (by assumption) ?_
          rotate_left
          · intro w hSw; (try dsimp only at hSw); go_simp; (try with_reducible rfl)
          (try simp only [Act.put, mdR22, List.setIfInBounds_toArray, List.set_cons_zero, List.set_cons_succ])
          refine tkW (v := ?_) 23 mdR23 rfl (by kernel_rfl) (by kernel_rfl) (by kernel_rfl) (fun _ _ _ h => h) (by rfl) ?_ (by assumption) ?_
          rotate_left
          · intro w hSw; (try dsimp only at hSw); go_simp; (try with_reducible rfl)
          (try simp only [Act.put, mdR23, List.setIfInBounds_toArray, List.set_cons_zero, List.set_cons_succ])
          refine tkW (v := ?_) 24 mdR24 rfl (by kernel_rfl) (by kernel_rfl) (by kernel_rfl) (fun _ _ _ h => h) (by rfl) ?_ (by assumption) ?_
          rotate_left
          · intro w hSw; (try dsimp only at hSw); go_simp; (try with_reducible rfl)
          (try simp only [Act.put, mdR24, List.setIfInBounds_toArray, List.set_cons_zero, List.set_cons_succ])
          refine tkW (v := ?_) 25 mdR25 rfl (by kernel_rfl) (by kernel_rfl) (by kernel_rfl) (fun _ _ _ h => h) (by rfl) ?_ (by assumption) ?_
          rotate_left
          · intro w hSw; (try dsimp only at hSw); go_simp; (try with_reducible rfl)
          (try simp only [Act.put, mdR25, List.setIfInBounds_toArray, List.set_cons_zero, List.set_cons_succ])
          refine tkW (v := ?_) 26 mdR26 rfl (by kernel_rfl) (by kernel_rfl) (by kernel_rfl) (fun _ _ _ h => h) (by rfl) ?_ (by assumption) ?_
          rotate_left
          · intro w hSw; (try dsimp only at hSw); go_simp; (try with_reducible rfl)
          (try simp only [Act.put, mdR26, List.setIfInBounds_toArray, List.set_cons_zero, List.set_cons_succ])
          refine tkE 27 mdR27 rfl (by kernel_rfl) (fun K hK => ?_)
          go_simp
          (refine (YMH.out _ (KV.out.trans (by first | assumption | exact Kp.drew _ | exact Kp.refl _))).mono ?_; rintro e w' ⟨rfl, kq⟩; have k2 := Kp.trans (show Kp V _ from (by first | assumption | exact Kp.drew _ | exact Kp.refl _)) kq; clear kq)
          (try go_wp2_with fail)
          refine hK.out _ _ ?_ (fun hHeld2 => ?_)
          · (try dsimp only); exact KS.out _ (by first | assumption | exact Kp.drew _ | exact Kp.refl _)
          clear hK K hHeld1
          (try simp only [Act.put, mdR27, List.setIfInBounds_toArray, List.set_cons_zero, List.set_cons_succ])
          refine tkW (v := ?_) 28 mdR28 rfl (by kernel_rfl) (by kernel_rfl) (by kernel_rfl) (fun _ _ _ h => h) (by rfl) ?_ (by assumption) ?_
          rotate_left
          · intro w hSw; (try dsimp only at hSw); go_simp; (try with_reducible rfl)
          (try simp only [Act.put, mdR28, List.setIfInBounds_toArray, List.set_cons_zero, List.set_cons_succ])
          refine tkW (v := ?_) 29 mdR29 rfl (by kernel_rfl) (by kernel_rfl) (by kernel_rfl) (fun _ _ _ h => h) (by rfl) ?_ (by assumption) ?_
          rotate_left
          · intro w hSw; (try dsimp only at hSw); go_simp; (try with_reducible rfl)
          (try simp only [Act.put, mdR29, List.setIfInBounds_toArray, List.set_cons_zero, List.set_cons_succ])
          refine tkW (v := ?_) 30 mdR30 rfl (by kernel_rfl) (by kernel_rfl) (by kernel_rfl) (fun _ _ _ h => h) (by rfl) ?_ (by assumption) ?_
          rotate_left
          · intro w hSw; (try dsimp only at hSw); go_simp; (try with_reducible rfl)
          (try simp only [Act.put, mdR30, List.setIfInBounds_toArray, List.set_cons_zero, List.set_cons_succ])
          refine tkW (v := ?_) 31 mdR31 rfl (by kernel_rfl) (by kernel_rfl) (by kernel_rfl) (fun _ _ _ h => h) (by rfl) ?_ (by assumption) ?_
          rotate_left
          · intro w hSw; (try dsimp only at hSw); go_simp; (try with_reducible rfl)
          (try simp only [Act.put, mdR31, List.setIfInBounds_toArray, List.set_cons_zero, List.set_cons_succ])
          refine tkW (v := ?_) 33 mdR33 rfl (by kernel_rfl) (by kernel_rfl) (by kernel_rfl) (fun _ _ _ h => h) (by rfl) ?_ (by assumption) ?_
          rotate_left
          · intro w hSw; (try dsimp only at hSw); go_simp; (try with_reducible rfl)
          (try simp only [Act.put, mdR33, List.setIfInBounds_toArray, List.set_cons_zero, List.set_cons_succ])
          refine tkE 32 mdR32 rfl (by kernel_rfl) (fun K hK => ?_)
          go_simp
          (refine (ZSH.out _ bs (KV.out.trans (by first | assumption | exact Kp.drew _ | exact Kp.refl _)) (NS.out.kp (by first | assumption | exact Kp.drew _ | exact Kp.refl _))).mono ?_; rintro e w' ⟨rfl, kq⟩; have k2 := Kp.trans (show Kp V _ from (by first | assumption | exact Kp.drew _ | exact Kp.refl _)) kq; clear kq)
          (try go_wp2_with fail)
          refine hK.out _ _ ?_ (fun hHeld3 => ?_)
          · (try dsimp only); exact KS.out _ (by first | assumption | exact Kp.drew _ | exact Kp.refl _)
          clear hK K hHeld2
          (try simp only [Act.put, mdR32, List.setIfInBounds_toArray, List.set_cons_zero, List.set_cons_succ])
          refine tkE 34 mdR34 rfl (by kernel_rfl) (fun K hK => ?_)
          go_simp
          (refine (CEH.out _ (KW.out.trans (KV.out.trans (by first | assumption | exact Kp.drew _ | exact Kp.refl _)))).mono ?_; rintro e w' ⟨rfl, kq⟩; have k2 := Kp.trans (show Kp V _ from (by first | assumption | exact Kp.drew _ | exact Kp.refl _)) kq; clear kq)
          (try go_wp2_with fail)
          refine hK.out _ _ ?_ (fun hHeld4 => ?_)
          · (try dsimp only); exact KS.out _ (by first | assumption | exact Kp.drew _ | exact Kp.refl _)
          clear hK K hHeld3
          (try simp only [Act.put, mdR34, List.setIfInBounds_toArray, List.set_cons_zero, List.set_cons_succ])
          refine tkW (v := ?_) 35 mdR35 rfl (by kernel_rfl) (by kernel_rfl) (by kernel_rfl) (fun _ _ _ h => h) (by rfl) ?_ (by assumption) ?_
          rotate_left
          · intro w hSw; (try dsimp only at hSw); go_simp; (try with_reducible rfl)
          (try simp only [Act.put, mdR35, List.setIfInBounds_toArray, List.set_cons_zero, List.set_cons_succ])
          refine tkU 36 mdR36 rfl (by kernel_rfl) (by kernel_rfl) (by kernel_rfl) (fun _ _ _ h => h) (by rfl) (by assumption) ?_
          (try simp only [Act.put, mdR36, List.setIfInBounds_toArray, List.set_cons_zero, List.set_cons_succ])
          refine tkU 37 mdR37 rfl (by kernel_rfl) (by kernel_rfl) (by kernel_rfl) (fun _ _ _ h => h) (by rfl) (by assumption) ?_
          (try simp only [Act.put, mdR37, List.setIfInBounds_toArray, List.set_cons_zero, List.set_cons_succ])
          refine tkU 38 mdR38 rfl (by kernel_rfl) (by kernel_rfl) (by kernel_rfl) (fun _ _ _ h => h) (by rfl) (by assumption) ?_
          (try simp only [Act.put, mdR38, List.setIfInBounds_toArray, List.set_cons_zero, List.set_cons_succ])
          refine tkU 39 mdR39 rfl (by kernel_rfl) (by kernel_rfl) (by kernel_rfl) (fun _ _ _ h => h) (by rfl) (by assumption) ?_
          (try simp only [Act.put, mdR39, List.setIfInBounds_toArray, List.set_cons_zero, List.set_cons_succ])
          refine tkU 40 mdR40 rfl (by kernel_rfl) (by kernel_rfl) (by kernel_rfl) (fun _ _ _ h => h) (by rfl) (by assumption) ?_
          (try simp only [Act.put, mdR40, List.setIfInBounds_toArray, List.set_cons_zero, List.set_cons_succ])
          refine tkW (v := ?_) 41 mdR41 rfl (by kernel_rfl) (by kernel_rfl) (by kernel_rfl) (fun _ _ _ h => h) (by rfl) ?_ (by assumption) ?_
          rotate_left
          · intro w hSw; (try dsimp only at hSw); go_simp; (try with_reducible rfl)
          (try simp only [Act.put, mdR41, List.setIfInBounds_toArray, List.set_cons_zero, List.set_cons_succ])
          refine tkW (v := ?_) 42 mdR42 rfl (by kernel_rfl) (by kernel_rfl) (by kernel_rfl) (fun _ _ _ h => h) (by rfl) ?_ (by assumption) ?_
          rotate_left
          · intro w hSw; (try dsimp only at hSw); go_simp; (try with_reducible rfl)
          (try simp only [Act.put, mdR42, List.setIfInBounds_toArray, List.set_cons_zero, List.set_cons_succ])
          refine tkW (v := ?_) 43 mdR43 rfl (by kernel_rfl) (by kernel_rfl) (by kernel_rfl) (fun _ _ _ h => h) (by rfl) ?_ (by assumption) ?_
          rotate_left
          · intro w hSw; (try dsimp only at hSw); go_simp; (try with_reducible rfl)
          (try simp only [Act.put, mdR43, List.setIfInBounds_toArray, List.set_cons_zero, List.set_cons_succ])
          refine tkW (v := ?_) 44 mdR44 rfl (by kernel_rfl) (by kernel_rfl) (by kernel_rfl) (fun _ _ _ h => h) (by rfl) ?_ (by assumption) ?_
          rotate_left
          · intro w hSw; (try dsimp only at hSw); go_simp; (try with_reducible rfl)
          (try simp only [Act.put, mdR44, List.setIfInBounds_toArray, List.set_cons_zero, List.set_cons_succ])
          refine tkW (v := ?_) 45 mdR45 rfl (by kernel_rfl) (by kernel_rfl) (by kernel_rfl) (fun _ _ _ h => h) (by rfl) ?_ (by assumption) ?_
          rotate_left
          · intro w hSw; (try dsimp only at hSw); go_simp; (try with_reducible rfl)
          (try simp only [Act.put, mdR45, List.setIfInBounds_toArray, List.set_cons_zero, List.set_cons_succ])
          refine tkW (v := ?_) 47 mdR47 rfl (by kernel_rfl) (by kernel_rfl) (by kernel_rfl) (fun _ _ _ h => h) (by rfl) ?_ (by assumption) ?_
          rotate_left
          · intro w hSw; (try dsimp only at hSw); go_simp; (try with_reducible rfl)
          (try simp only [Act.put, mdR47, List.setIfInBounds_toArray, List.set_cons_zero, List.set_cons_succ])
          refine tkW (v := ?_) 48 mdR48 rfl (by kernel_rfl) (by kernel_rfl) (by kernel_rfl) (fun _ _ _ h => h) (by rfl) ?_ (by assumption) ?_
          rotate_left
          · intro w hSw; (try dsimp only at hSw); go_simp; (try with_reducible rfl)
          (try simp only [Act.put, mdR48, List.setIfInBounds_toArray, List.set_cons_zero, List.set_cons_succ])
          refine tkW (v := ?_) 49 mdR49 rfl (by kernel_rfl) (by kernel_rfl) (by kernel_rfl) (fun _ _ _ h => h) (by rfl) ?_ (by assumption) ?_
          rotate_left
          · intro w hSw; (try dsimp only at hSw); go_simp; (try with_reducible rfl)
          (try simp only [Act.put, mdR49, List.setIfInBounds_toArray, List.set_cons_zero, List.set_cons_succ])
          refine tkW (v := ?_) 50 mdR50 rfl (by kernel_rfl) (by kernel_rfl) (by kernel_rfl) (fun _ _ _ h => h) (by rfl) ?_ (by assumption) ?_
          rotate_left
          · intro w hSw; (try dsimp only at hSw); go_simp; (try with_reducible rfl)
          (try simp only [Act.put, mdR50, List.setIfInBounds_toArray, List.set_cons_zero, List.set_cons_succ])
          refine tkE 46 mdR46 rfl (by kernel_rfl) (fun K hK => ?_)
          go_simp
          (refine (ZCH.out _ bs (NS.out.kp (by first | assumption | exact Kp.drew _ | exact Kp.refl _))).mono ?_; rintro e w' ⟨rfl, kq⟩; have k2 := Kp.trans (show Kp V _ from (by first | assumption | exact Kp.drew _ | exact Kp.refl _)) kq; clear kq)
          (try go_wp2_with fail)
          refine hK.out _ _ ?_ (fun hHeld5 => ?_)
          · (try dsimp only); exact KS.out _ (by first | assumption | exact Kp.drew _ | exact Kp.refl _)
          clear hK K hHeld4
          (try simp only [Act.put, mdR46, List.setIfInBounds_toArray, List.set_cons_zero, List.set_cons_succ])
          refine tkE 51 mdR51 rfl (by kernel_rfl) (fun K hK => ?_)
          go_simp
          (refine (YCH.out _ (KV.out.trans (by first | assumption | exact Kp.drew _ | exact Kp.refl _))).mono ?_; rintro e w' ⟨rfl, kq⟩; have k2 := Kp.trans (show Kp V _ from (by first | assumption | exact Kp.drew _ | exact Kp.refl _)) kq; clear kq)
          (try go_wp2_with fail)
          refine hK.out _ _ ?_ (fun hHeld6 => ?_)
          · (try dsimp only); exact KS.out _ (by first | assumption | exact Kp.drew _ | exact Kp.refl _)
          clear hK K hHeld5
          (try simp only [Act.put, mdR51, List.setIfInBounds_toArray, List.set_cons_zero, List.set_cons_succ])
          refine tkW (v := ?_) 52 mdR52 rfl (by kernel_rfl) (by kernel_rfl) (by kernel_rfl) (fun _ _ _ h => h) (by rfl) ?_ (by assumption) ?_
          rotate_left
          · intro w hSw; (try dsimp only at hSw); go_simp; (try with_reducible rfl)
          (try simp only [Act.put, mdR52, List.setIfInBounds_toArray, List.set_cons_zero, List.set_cons_succ])
          refine tkW (v := ?_) 53 mdR53 rfl (by kernel_rfl) (by kernel_rfl) (by kernel_rfl) (fun _ _ _ h => h) (by rfl) ?_ (by assumption) ?_
          rotate_left
          · intro w hSw; (try dsimp only at hSw); go_simp; (try with_reducible rfl)
          (try simp only [Act.put, mdR53, List.setIfInBounds_toArray, List.set_cons_zero, List.set_cons_succ])
          refine tkW (v := ?_) 54 mdR54 rfl (by kernel_rfl) (by kernel_rfl) (by kernel_rfl) (fun _ _ _ h => h) (by rfl) ?_ (by assumption) ?_
          rotate_left
          · intro w hSw; (try dsimp only at hSw); go_simp; (try with_reducible rfl)
          (try simp only [Act.put, mdR54, List.setIfInBounds_toArray, List.set_cons_zero, List.set_cons_succ])
          refine wpAnyH_done (by kernel_rfl) ?_ _
          have KE := Lib.hid (KL.out.trans (KV.out.trans k2))
          clear KS k2
          go_wp2
          go_roundw
          case rel => exact ⟨false, j + 1, HLT.out, rfl, by go_num, KE, HB2⟩
          case measure => have := HLT.out; simp [intOf]; omega
        · go_simp
          skip
          (try go_wp2_with fail)
          refine hK.out _ _ ?_ (fun hHeld1 => ?_)
          · (try dsimp only); exact KS.out _ (by first | with_reducible exact Kp.refl _ | with_reducible exact Kp.drew _ | with_reducible assumption | with_reducible exact Kp.alloc _ _ | with_reducible exact (Kp.drew _).trans (Kp.alloc _ _) | with_reducible exact Kp.trans k2 (Kp.alloc _ _) | exact (Kp.drew _).trans (Kp.alloc _ _) | exact Kp.trans k2 (Kp.alloc _ _))
          clear hK K hHeld0
          (try simp only [Act.put, mdQ6, List.setIfInBounds_toArray, List.set_cons_zero, List.set_cons_succ])
          refine tkE 5 mdQ5 rfl (by kernel_rfl) (fun K hK => ?_)
          go_simp
          (refine (YBH.out _).mono ?_; rintro e w' ⟨bs, rfl, hbs0, hg16, kq⟩; have k2 := Kp.trans (show Kp wr _ from (by first | exact Kp.refl _ | exact Kp.drew _ | exact Kp.alloc _ _ | exact (Kp.drew _).trans (Kp.alloc _ _))) kq; have hbk : w'.heap[wr.heap.size]? = some (.cells #[.int .i64 0, .int .i64 0, .string ⟨#[]⟩, .string ⟨#[]⟩, .string ⟨#[]⟩, .bool false, .bool false, .slice none 0 0] 46 (0, 0)) := heap_block kq (heap_at _ _ _ rfl); have hc0 : w'.cell? ⟨wr.heap.size, 0, none⟩ = some (.int .i64 0) := (by simp [World.cell?, hbk]); have hz0 : w'.frozen? ⟨wr.heap.size, 0, none⟩ = false := (by simp [World.frozen?, hbk]); have hc1 : w'.cell? ⟨wr.heap.size, 1, none⟩ = some (.int .i64 0) := (by simp [World.cell?, hbk]); have hz1 : w'.frozen? ⟨wr.heap.size, 1, none⟩ = false := (by simp [World.frozen?, hbk]); have hc2 : w'.cell? ⟨wr.heap.size, 2, none⟩ = some (.string ⟨#[]⟩) := (by simp [World.cell?, hbk]); have hz2 : w'.frozen? ⟨wr.heap.size, 2, none⟩ = false := (by simp [World.frozen?, hbk]); have hc3 : w'.cell? ⟨wr.heap.size, 3, none⟩ = some (.string ⟨#[]⟩) := (by simp [World.cell?, hbk]); have hz3 : w'.frozen? ⟨wr.heap.size, 3, none⟩ = false := (by simp [World.frozen?, hbk]); have hc4 : w'.cell? ⟨wr.heap.size, 4, none⟩ = some (.string ⟨#[]⟩) := (by simp [World.cell?, hbk]); have hz4 : w'.frozen? ⟨wr.heap.size, 4, none⟩ = false := (by simp [World.frozen?, hbk]); have hc5 : w'.cell? ⟨wr.heap.size, 5, none⟩ = some (.bool false) := (by simp [World.cell?, hbk]); have hz5 : w'.frozen? ⟨wr.heap.size, 5, none⟩ = false := (by simp [World.frozen?, hbk]); have hc6 : w'.cell? ⟨wr.heap.size, 6, none⟩ = some (.bool false) := (by simp [World.cell?, hbk]); have hz6 : w'.frozen? ⟨wr.heap.size, 6, none⟩ = false := (by simp [World.frozen?, hbk]); have hc7 : w'.cell? ⟨wr.heap.size, 7, none⟩ = some (.slice none 0 0) := (by simp [World.cell?, hbk]); have hz7 : w'.frozen? ⟨wr.heap.size, 7, none⟩ = false := (by simp [World.frozen?, hbk]); have hbs : wr.heap.size < bs := (by have : (World.alloc wr (.cells #[.int .i64 0, .int .i64 0, .string ⟨#[]⟩, .string ⟨#[]⟩, .string ⟨#[]⟩, .bool false, .bool false, .slice none 0 0] 46)).heap.size = wr.heap.size + 1 := (by simp); first | omega | (simp at hbs0; omega)))
          (try go_wp2_with fail)
          refine hK.out _ _ ?_ (fun hHeld2 => ?_)
          · (try dsimp only); exact KS.out _ (by first | with_reducible exact Kp.refl _ | with_reducible exact Kp.drew _ | with_reducible assumption | with_reducible exact Kp.alloc _ _ | with_reducible exact (Kp.drew _).trans (Kp.alloc _ _) | with_reducible exact Kp.trans k2 (Kp.alloc _ _) | exact (Kp.drew _).trans (Kp.alloc _ _) | exact Kp.trans k2 (Kp.alloc _ _))
          clear hK K hHeld1
          (try simp only [Act.put, mdQ5, List.setIfInBounds_toArray, List.set_cons_zero, List.set_cons_succ])
          refine tkE 7 mdQ7 rfl (by kernel_rfl) (fun K hK => ?_)
          go_simp
          skip
          (try go_wp2_with fail)
          refine hK.out _ _ ?_ (fun hHeld3 => ?_)
          · (try dsimp only); exact KS.out _ (set8_kp k2 _ (Nat.le_refl _) _ _ _ _ _ _ _ _)
          clear hK K hHeld2
          (try simp only [Act.put, mdQ7, List.setIfInBounds_toArray, List.set_cons_zero, List.set_cons_succ])
          refine wpAnyH_done (by kernel_rfl) ?_ _
          obtain ⟨wu, hwu⟩ : ∃ x : World, x = w' := ⟨_, rfl⟩
          subst hwu
          have ku := k2
          obtain ⟨V, hV⟩ : ∃ x, x = ((((((((wu.setCell ⟨wr.heap.size, 0, none⟩ (.int .i64 1)).setCell ⟨wr.heap.size, 1, none⟩ (.int .i64 0)).setCell ⟨wr.heap.size, 2, none⟩ (.string ⟨#[]⟩)).setCell ⟨wr.heap.size, 3, none⟩ (.string ⟨#[]⟩)).setCell ⟨wr.heap.size, 4, none⟩ (.string ⟨#[]⟩)).setCell ⟨wr.heap.size, 5, none⟩ (.bool false)).setCell ⟨wr.heap.size, 6, none⟩ (.bool false)).setCell ⟨wr.heap.size, 7, none⟩ (.slice (some ⟨bs, 0, none⟩) 2 2)) := ⟨_, rfl⟩
          have kv : Kp wr V := by rw [hV]; exact set8_kp ku _ (Nat.le_refl _) (.int .i64 1) (.int .i64 0) (.string ⟨#[]⟩) (.string ⟨#[]⟩) (.string ⟨#[]⟩) (.bool false) (.bool false) (.slice (some ⟨bs, 0, none⟩) 2 2)
          have gS : V.heap[wr.heap.size]? = some (.cells #[.int .i64 1, .int .i64 0, .string ⟨#[]⟩, .string ⟨#[]⟩, .string ⟨#[]⟩, .bool false, .bool false, .slice (some ⟨bs, 0, none⟩) 2 2] 46 (0, 0)) := by rw [hV]; exact set8_heap hbk (.int .i64 1) (.int .i64 0) (.string ⟨#[]⟩) (.string ⟨#[]⟩) (.string ⟨#[]⟩) (.bool false) (.bool false) (.slice (some ⟨bs, 0, none⟩) 2 2)
          have g16 : V.heap[bs]? = some (.cells #[.int .i64 0, .int .i64 pk, .string y, .string m, .string q, .bool a, .bool t, .slice none 0 0, .int .i64 k1, .int .i64 pk1, .string y1, .string m1, .string q1, .bool a1, .bool t1, .slice ad1 l1.length cp1] 46 (0, 0)) := by rw [hV]; exact (ps_other (show bs ≠ wr.heap.size by omega) 7 _).trans ((ps_other (show bs ≠ wr.heap.size by omega) 6 _).trans ((ps_other (show bs ≠ wr.heap.size by omega) 5 _).trans ((ps_other (show bs ≠ wr.heap.size by omega) 4 _).trans ((ps_other (show bs ≠ wr.heap.size by omega) 3 _).trans ((ps_other (show bs ≠ wr.heap.size by omega) 2 _).trans ((ps_other (show bs ≠ wr.heap.size by omega) 1 _).trans ((ps_other (show bs ≠ wr.heap.size by omega) 0 _).trans hg16)))))))
          have nS : NodesAt V (.slice (some ⟨bs, 0, none⟩) 2 2) [(.mk 0 ⟨pk, y, m, q⟩ a t [] : ND), (.mk k1 ⟨pk1, y1, m1, q1⟩ a1 t1 l1 : ND)] := pair_nodes (n := (.mk 0 ⟨pk, y, m, q⟩ a t [] : ND)) (m := (.mk k1 ⟨pk1, y1, m1, q1⟩ a1 t1 l1 : ND)) g16 (.none _ _) (SUB.out _ (KW.out.trans (Kp.trans (Kp.refl wr) kv)))
          have NS := Lib.hid nS
          have GS := Lib.hid (fun w1 (qq : Kp V w1) => heap_block qq gS)
          have G16 := Lib.hid (fun w1 (qq : Kp V w1) => row16 (heap_block qq g16))
          have KV := Lib.hid (Kp.trans (Kp.refl wr) kv)
          have RR := Lib.hid (fun w1 (qq : Kp V w1) => And.intro (cell_up (kv.trans qq) r0) (And.intro (cell_up (kv.trans qq) r1) (And.intro (cell_up (kv.trans qq) r2) (And.intro (cell_up (kv.trans qq) r3) (And.intro (cell_up (kv.trans qq) r4) (And.intro (cell_up (kv.trans qq) r5) (And.intro (cell_up (kv.trans qq) r6) (cell_up (kv.trans qq) r7))))))))
          have HV := Lib.hid hV
          clear KS k2 kq ku kv hV gS g16 hg16 nS r0 r1 r2 r3 r4 r5 r6 r7 hbk hbs hc0 hz0 hc1 hz1 hc2 hz2 hc3 hz3 hc4 hz4 hc5 hz5 hc6 hz6 hc7 hz7
          go_wp2_with fail
          rw [← HV.out]
          have KS := Lib.hid (fun w' (qq : Kp V w') => show w'.cell? ⟨wr.heap.size, 0, none⟩ = some (.int .i64 1) ∧ w'.cell? ⟨wr.heap.size, 1, none⟩ = some (.int .i64 0) ∧ w'.cell? ⟨wr.heap.size, 2, none⟩ = some (.string ⟨#[]⟩) ∧ w'.cell? ⟨wr.heap.size, 3, none⟩ = some (.string ⟨#[]⟩) ∧ w'.cell? ⟨wr.heap.size, 4, none⟩ = some (.string ⟨#[]⟩) ∧ w'.cell? ⟨wr.heap.size, 5, none⟩ = some (.bool false) ∧ w'.cell? ⟨wr.heap.size, 6, none⟩ = some (.bool false) ∧ w'.cell? ⟨wr.heap.size, 7, none⟩ = some (.slice (some ⟨bs, 0, none⟩) 2 2) ∧ w'.cell? ⟨bs, 0, none⟩ = some (.int .i64 0) ∧ w'.cell? ⟨bs, 1, none⟩ = some (.int .i64 pk) ∧ w'.cell? ⟨bs, 2, none⟩ = some (.string y) ∧ w'.cell? ⟨bs, 3, none⟩ = some (.string m) ∧ w'.cell? ⟨bs, 4, none⟩ = some (.string q) ∧ w'.cell? ⟨bs, 5, none⟩ = some (.bool a) ∧ w'.cell? ⟨bs, 6, none⟩ = some (.bool t) ∧ w'.cell? ⟨bs, 7, none⟩ = some (.slice none 0 0) ∧ w'.cell? ⟨bs, 8, none⟩ = some (.int .i64 k1) ∧ w'.cell? ⟨bs, 9, none⟩ = some (.int .i64 pk1) ∧ w'.cell? ⟨bs, 10, none⟩ = some (.string y1) ∧ w'.cell? ⟨bs, 11, none⟩ = some (.string m1) ∧ w'.cell? ⟨bs, 12, none⟩ = some (.string q1) ∧ w'.cell? ⟨bs, 13, none⟩ = some (.bool a1) ∧ w'.cell? ⟨bs, 14, none⟩ = some (.bool t1) ∧ w'.cell? ⟨bs, 15, none⟩ = some (.slice ad1 l1.length cp1) ∧ w'.cell? ⟨w3.heap.size, 0, none⟩ = some (.int .i64 0) ∧ w'.cell? ⟨w3.heap.size, 1, none⟩ = some (.int .i64 pk) ∧ w'.cell? ⟨w3.heap.size, 2, none⟩ = some (.string y) ∧ w'.cell? ⟨w3.heap.size, 3, none⟩ = some (.string m) ∧ w'.cell? ⟨w3.heap.size, 4, none⟩ = some (.string q) ∧ w'.cell? ⟨w3.heap.size, 5, none⟩ = some (.bool a) ∧ w'.cell? ⟨w3.heap.size, 6, none⟩ = some (.bool t) ∧ w'.cell? ⟨w3.heap.size, 7, none⟩ = some (.slice none 0 0) ∧ w'.cell? ⟨bk, of + j * 8, none⟩ = some (.int .i64 k1) ∧ w'.cell? ⟨bk, of + j * 8 + 1, none⟩ = some (.int .i64 pk1) ∧ w'.cell? ⟨bk, of + j * 8 + 2, none⟩ = some (.string y1) ∧ w'.cell? ⟨bk, of + j * 8 + 3, none⟩ = some (.string m1) ∧ w'.cell? ⟨bk, of + j * 8 + 4, none⟩ = some (.string q1) ∧ w'.cell? ⟨bk, of + j * 8 + 5, none⟩ = some (.bool a1) ∧ w'.cell? ⟨bk, of + j * 8 + 6, none⟩ = some (.bool t1) ∧ w'.cell? ⟨bk, of + j * 8 + 7, none⟩ = some (.slice ad1 l1.length cp1) ∧ Kp V w' from ⟨(row8 (GS.out _ qq)).1, (row8 (GS.out _ qq)).2.1, (row8 (GS.out _ qq)).2.2.1, (row8 (GS.out _ qq)).2.2.2.1, (row8 (GS.out _ qq)).2.2.2.2.1, (row8 (GS.out _ qq)).2.2.2.2.2.1, (row8 (GS.out _ qq)).2.2.2.2.2.2.1, (row8 (GS.out _ qq)).2.2.2.2.2.2.2, (G16.out _ qq).1, (G16.out _ qq).2.1, (G16.out _ qq).2.2.1, (G16.out _ qq).2.2.2.1, (G16.out _ qq).2.2.2.2.1, (G16.out _ qq).2.2.2.2.2.1, (G16.out _ qq).2.2.2.2.2.2.1, (G16.out _ qq).2.2.2.2.2.2.2.1, (G16.out _ qq).2.2.2.2.2.2.2.2.1, (G16.out _ qq).2.2.2.2.2.2.2.2.2.1, (G16.out _ qq).2.2.2.2.2.2.2.2.2.2.1, (G16.out _ qq).2.2.2.2.2.2.2.2.2.2.2.1, (G16.out _ qq).2.2.2.2.2.2.2.2.2.2.2.2.1, (G16.out _ qq).2.2.2.2.2.2.2.2.2.2.2.2.2.1, (G16.out _ qq).2.2.2.2.2.2.2.2.2.2.2.2.2.2.1, (G16.out _ qq).2.2.2.2.2.2.2.2.2.2.2.2.2.2.2, (row8 (GX.out _ ((J7.out.trans (KL.out.trans KV.out)).trans qq))).1, (row8 (GX.out _ ((J7.out.trans (KL.out.trans KV.out)).trans qq))).2.1, (row8 (GX.out _ ((J7.out.trans (KL.out.trans KV.out)).trans qq))).2.2.1, (row8 (GX.out _ ((J7.out.trans (KL.out.trans KV.out)).trans qq))).2.2.2.1, (row8 (GX.out _ ((J7.out.trans (KL.out.trans KV.out)).trans qq))).2.2.2.2.1, (row8 (GX.out _ ((J7.out.trans (KL.out.trans KV.out)).trans qq))).2.2.2.2.2.1, (row8 (GX.out _ ((J7.out.trans (KL.out.trans KV.out)).trans qq))).2.2.2.2.2.2.1, (row8 (GX.out _ ((J7.out.trans (KL.out.trans KV.out)).trans qq))).2.2.2.2.2.2.2, (RR.out _ qq).1, (RR.out _ qq).2.1, (RR.out _ qq).2.2.1, (RR.out _ qq).2.2.2.1, (RR.out _ qq).2.2.2.2.1, (RR.out _ qq).2.2.2.2.2.1, (RR.out _ qq).2.2.2.2.2.2.1, (RR.out _ qq).2.2.2.2.2.2.2, qq⟩)
          refine wp_region_held_drew (S := fun w' => w'.cell? ⟨wr.heap.size, 0, none⟩ = some (.int .i64 1) ∧ w'.cell? ⟨wr.heap.size, 1, none⟩ = some (.int .i64 0) ∧ w'.cell? ⟨wr.heap.size, 2, none⟩ = some (.string ⟨#[]⟩) ∧ w'.cell? ⟨wr.heap.size, 3, none⟩ = some (.string ⟨#[]⟩) ∧ w'.cell? ⟨wr.heap.size, 4, none⟩ = some (.string ⟨#[]⟩) ∧ w'.cell? ⟨wr.heap.size, 5, none⟩ = some (.bool false) ∧ w'.cell? ⟨wr.heap.size, 6, none⟩ = some (.bool false) ∧ w'.cell? ⟨wr.heap.size, 7, none⟩ = some (.slice (some ⟨bs, 0, none⟩) 2 2) ∧ w'.cell? ⟨bs, 0, none⟩ = some (.int .i64 0) ∧ w'.cell? ⟨bs, 1, none⟩ = some (.int .i64 pk) ∧ w'.cell? ⟨bs, 2, none⟩ = some (.string y) ∧ w'.cell? ⟨bs, 3, none⟩ = some (.string m) ∧ w'.cell? ⟨bs, 4, none⟩ = some (.string q) ∧ w'.cell? ⟨bs, 5, none⟩ = some (.bool a) ∧ w'.cell? ⟨bs, 6, none⟩ = some (.bool t) ∧ w'.cell? ⟨bs, 7, none⟩ = some (.slice none 0 0) ∧ w'.cell? ⟨bs, 8, none⟩ = some (.int .i64 k1) ∧ w'.cell? ⟨bs, 9, none⟩ = some (.int .i64 pk1) ∧ w'.cell? ⟨bs, 10, none⟩ = some (.string y1) ∧ w'.cell? ⟨bs, 11, none⟩ = some (.string m1) ∧ w'.cell? ⟨bs, 12, none⟩ = some (.string q1) ∧ w'.cell? ⟨bs, 13, none⟩ = some (.bool a1) ∧ w'.cell? ⟨bs, 14, none⟩ = some (.bool t1) ∧ w'.cell? ⟨bs, 15, none⟩ = some (.slice ad1 l1.length cp1) ∧ w'.cell? ⟨w3.heap.size, 0, none⟩ = some (.int .i64 0) ∧ w'.cell? ⟨w3.heap.size, 1, none⟩ = some (.int .i64 pk) ∧ w'.cell? ⟨w3.heap.size, 2, none⟩ = some (.string y) ∧ w'.cell? ⟨w3.heap.size, 3, none⟩ = some (.string m) ∧ w'.cell? ⟨w3.heap.size, 4, none⟩ = some (.string q) ∧ w'.cell? ⟨w3.heap.size, 5, none⟩ = some (.bool a) ∧ w'.cell? ⟨w3.heap.size, 6, none⟩ = some (.bool t) ∧ w'.cell? ⟨w3.heap.size, 7, none⟩ = some (.slice none 0 0) ∧ w'.cell? ⟨bk, of + j * 8, none⟩ = some (.int .i64 k1) ∧ w'.cell? ⟨bk, of + j * 8 + 1, none⟩ = some (.int .i64 pk1) ∧ w'.cell? ⟨bk, of + j * 8 + 2, none⟩ = some (.string y1) ∧ w'.cell? ⟨bk, of + j * 8 + 3, none⟩ = some (.string m1) ∧ w'.cell? ⟨bk, of + j * 8 + 4, none⟩ = some (.string q1) ∧ w'.cell? ⟨bk, of + j * 8 + 5, none⟩ = some (.bool a1) ∧ w'.cell? ⟨bk, of + j * 8 + 6, none⟩ = some (.bool t1) ∧ w'.cell? ⟨bk, of + j * 8 + 7, none⟩ = some (.slice ad1 l1.length cp1) ∧ Kp V w') (by kernel_rfl) ?_ (fun hHeld0 => ?_)
          · (try dsimp only); exact KS.out _ (by first | assumption | exact Kp.drew _ | exact Kp.refl _)
          refine tkW (v := ?_) 0 mdR0 rfl (by kernel_rfl) (by kernel_rfl) (by kernel_rfl) (fun _ _ _ h => h) (by rfl) ?_ (by assumption) ?_
          rotate_left
          · intro w hSw; (try dsimp only at hSw); go_simp; (try with_reducible rfl)
          (try simp only [Act.put, mdR0, List.setIfInBounds_toArray, List.set_cons_zero, List.set_cons_succ])
          refine tkW (v := ?_) 1 mdR1 rfl (by kernel_rfl) (by kernel_rfl) (by kernel_rfl) (fun _ _ _ h => h) (by rfl) ?_ (by assumption) ?_
          rotate_left
          · intro w hSw; (try dsimp only at hSw); go_simp; (try with_reducible rfl)
          (try simp only [Act.put, mdR1, List.setIfInBounds_toArray, List.set_cons_zero, List.set_cons_succ])
          refine tkW (v := ?_) 2 mdR2 rfl (by kernel_rfl) (by kernel_rfl) (by kernel_rfl) (fun _ _ _ h => h) (by rfl) ?_ (by assumption) ?_
          rotate_left
          · intro w hSw; (try dsimp only at hSw); go_simp; (try with_reducible rfl)
          (try simp only [Act.put, mdR2, List.setIfInBounds_toArray, List.set_cons_zero, List.set_cons_succ])
          refine tkW (v := ?_) 3 mdR3 rfl (by kernel_rfl) (by kernel_rfl) (by kernel_rfl) (fun _ _ _ h => h) (by rfl) ?_ (by assumption) ?_
          rotate_left
          · intro w hSw; (try dsimp only at hSw); go_simp; (try with_reducible rfl)
          (try simp only [Act.put, mdR3, List.setIfInBounds_toArray, List.set_cons_zero, List.set_cons_succ])
          refine tkW (v := ?_) 4 mdR4 rfl (by kernel_rfl) (by kernel_rfl) (by kernel_rfl) (fun _ _ _ h => h) (by rfl) ?_ (by assumption) ?_
          rotate_left
          · intro w hSw; (try dsimp only at hSw); go_simp; (try with_reducible rfl)
          (try simp only [Act.put, mdR4, List.setIfInBounds_toArray, List.set_cons_zero, List.set_cons_succ])
          refine tkW (v := ?_) 5 mdR5 rfl (by kernel_rfl) (by kernel_rfl) (by kernel_rfl) (fun _ _ _ h => h) (by rfl) ?_ (by assumption) ?_
          rotate_left
          · intro w hSw; (try dsimp only at hSw); go_simp; (try with_reducible rfl)
          (try simp only [Act.put, mdR5, List.setIfInBounds_toArray, List.set_cons_zero, List.set_cons_succ])
          refine tkW (v := ?_) 6 mdR6 rfl (by kernel_rfl) (by kernel_rfl) (by kernel_rfl) (fun _ _ _ h => h) (by rfl) ?_ (by assumption) ?_
          rotate_left
          · intro w hSw; (try dsimp only at hSw); go_simp; (try with_reducible rfl)
          (try simp only [Act.put, mdR6, List.setIfInBounds_toArray, List.set_cons_zero, List.set_cons_succ])
          refine tkW (v := ?_) 7 mdR7 rfl (by kernel_rfl) (by kernel_rfl) (by kernel_rfl) (fun _ _ _ h => h) (by rfl) ?_ (by assumption) ?_
          rotate_left
          · intro w hSw; (try dsimp only at hSw); go_simp; (try with_reducible rfl)
          (try simp only [Act.put, mdR7, List.setIfInBounds_toArray, List.set_cons_zero, List.set_cons_succ])
          refine tkW (v := ?_) 8 mdR8 rfl (by kernel_rfl) (by kernel_rfl) (by kernel_rfl) (fun _ _ _ h => h) (by rfl) ?_ (by assumption) ?_
          rotate_left
          · intro w hSw; (try dsimp only at hSw); go_simp; (try with_reducible rfl)
          (try simp only [Act.put, mdR8, List.setIfInBounds_toArray, List.set_cons_zero, List.set_cons_succ])
          refine tkW (v := ?_) 9 mdR9 rfl (by kernel_rfl) (by kernel_rfl) (by kernel_rfl) (fun _ _ _ h => h) (by rfl) ?_ (by assumption) ?_
          rotate_left
          · intro w hSw; (try dsimp only at hSw); go_simp; (try with_reducible rfl)
          (try simp only [Act.put, mdR9, List.setIfInBounds_toArray, List.set_cons_zero, List.set_cons_succ])
          refine tkW (v := ?_) 10 mdR10 rfl (by kernel_rfl) (by kernel_rfl) (by kernel_rfl) (fun _ _ _ h => h) (by rfl) ?_ (by assumption) ?_
          rotate_left
          · intro w hSw; (try dsimp only at hSw); go_simp; (try with_reducible rfl)
          (try simp only [Act.put, mdR10, List.setIfInBounds_toArray, List.set_cons_zero, List.set_cons_succ])
          refine tkW (v := ?_) 11 mdR11 rfl (by kernel_rfl) (by kernel_rfl) (by kernel_rfl) (fun _ _ _ h => h) (by rfl) ?_ (by assumption) ?_
          rotate_left
          · intro w hSw; (try dsimp only at hSw); go_simp; (try with_reducible rfl)
          (try simp only [Act.put, mdR11, List.setIfInBounds_toArray, List.set_cons_zero, List.set_cons_succ])
          refine tkW (v := ?_) 12 mdR12 rfl (by kernel_rfl) (by kernel_rfl) (by kernel_rfl) (fun _ _ _ h => h) (by rfl) ?_ (by assumption) ?_
          rotate_left
          · intro w hSw; (try dsimp only at hSw); go_simp; (try with_reducible rfl)
          (try simp only [Act.put, mdR12, List.setIfInBounds_toArray, List.set_cons_zero, List.set_cons_succ])
          refine tkW (v := ?_) 13 mdR13 rfl (by kernel_rfl) (by kernel_rfl) (by kernel_rfl) (fun _ _ _ h => h) (by rfl) ?_ (by assumption) ?_
          rotate_left
          · intro w hSw; (try dsimp only at hSw); go_simp; (try with_reducible rfl)
          (try simp only [Act.put, mdR13, List.setIfInBounds_toArray, List.set_cons_zero, List.set_cons_succ])
          refine tkW (v := ?_) 14 mdR14 rfl (by kernel_rfl) (by kernel_rfl) (by kernel_rfl) (fun _ _ _ h => h) (by rfl) ?_ (by assumption) ?_
          rotate_left
          · intro w hSw; (try dsimp only at hSw); go_simp; (try with_reducible rfl)
          (try simp only [Act.put, mdR14, List.setIfInBounds_toArray, List.set_cons_zero, List.set_cons_succ])
          refine tkE 15 mdR15 rfl (by kernel_rfl) (fun K hK => ?_)
          go_simp
          (refine (XMH.out _).mono ?_; rintro e w' ⟨rfl, kq⟩; have k2 := Kp.trans (show Kp V _ from (by first | assumption | exact Kp.drew _ | exact Kp.refl _)) kq; clear kq)
          (try go_wp2_with fail)
          refine hK.out _ _ ?_ (fun hHeld1 => ?_)
          · (try dsimp only); exact KS.out _ (by first | assumption | exact Kp.drew _ | exact Kp.refl _)
          clear hK K hHeld0
          (try simp only [Act.put, mdR15, List.setIfInBounds_toArray, List.set_cons_zero, List.set_cons_succ])
          refine tkW (v := ?_) 16 mdR16 rfl (by kernel_rfl) (by kernel_rfl) (by kernel_rfl) (fun _ _ _ h => h) (by rfl) ?_ (by assumption) ?_
          rotate_left
          · intro w hSw; (try dsimp only at hSw); go_simp; (try with_reducible rfl)
          (try simp only [Act.put, mdR16, List.setIfInBounds_toArray, List.set_cons_zero, List.set_cons_succ])
          refine tkW (v := ?_) 17 mdR17 rfl (by kernel_rfl) (by kernel_rfl) (by kernel_rfl) (fun _ _ _ h => h) (by rfl) ?_ (by assumption) ?_
          rotate_left
          · intro w hSw; (try dsimp only at hSw); go_simp; (try with_reducible rfl)
          (try simp only [Act.put, mdR17, List.setIfInBounds_toArray, List.set_cons_zero, List.set_cons_succ])
          refine tkW (v := ?_) 18 mdR18 rfl (by kernel_rfl) (by kernel_rfl) (by kernel_rfl) (fun _ _ _ h => h) (by rfl) ?_ (by assumption) ?_
          rotate_left
          · intro w hSw; (try dsimp only at hSw); go_simp; (try with_reducible rfl)
          (try simp only [Act.put, mdR18, List.setIfInBounds_toArray, List.set_cons_zero, List.set_cons_succ])
          refine tkW (v := ?_) 19 mdR19 rfl (by kernel_rfl) (by kernel_rfl) (by kernel_rfl) (fun _ _ _ h => h) (by rfl) ?_ (by assumption) ?_
          rotate_left
          · intro w hSw; (try dsimp only at hSw); go_simp; (try with_reducible rfl)
          (try simp only [Act.put, mdR19, List.setIfInBounds_toArray, List.set_cons_zero, List.set_cons_succ])
          refine tkW (v := ?_) 20 mdR20 rfl (by kernel_rfl) (by kernel_rfl) (by kernel_rfl) (fun _ _ _ h => h) (by rfl) ?_ (by assumption) ?_
          rotate_left
          · intro w hSw; (try dsimp only at hSw); go_simp; (try with_reducible rfl)
          (try simp only [Act.put, mdR20, List.setIfInBounds_toArray, List.set_cons_zero, List.set_cons_succ])
          refine tkW (v := ?_) 21 mdR21 rfl (by kernel_rfl) (by kernel_rfl) (by kernel_rfl) (fun _ _ _ h => h) (by rfl) ?_ (by assumption) ?_
          rotate_left
          · intro w hSw; (try dsimp only at hSw); go_simp; (try with_reducible rfl)
          (try simp only [Act.put, mdR21, List.setIfInBounds_toArray, List.set_cons_zero, List.set_cons_succ])
          refine tkW (v := ?_) 22 mdR22 rfl (by kernel_rfl) (by kernel_rfl) (by kernel_rfl) (fun _ _ _ h => h) (by rfl) ?_ (by assumption) ?_
          rotate_left
          · intro w hSw; (try dsimp only at hSw); go_simp; (try with_reducible rfl)
          (try simp only [Act.put, mdR22, List.setIfInBounds_toArray, List.set_cons_zero, List.set_cons_succ])
          refine tkW (v := ?_) 23 mdR23 rfl (by kernel_rfl) (by kernel_rfl) (by kernel_rfl) (fun _ _ _ h => h) (by rfl) ?_ (by assumption) ?_
          rotate_left
          · intro w hSw; (try dsimp only at hSw); go_simp; (try with_reducible rfl)
          (try simp only [Act.put, mdR23, List.setIfInBounds_toArray, List.set_cons_zero, List.set_cons_succ])
          refine tkW (v := ?_) 24 mdR24 rfl (by kernel_rfl) (by kernel_rfl) (by kernel_rfl) (fun _ _ _ h => h) (by rfl) ?_ (by assumption) ?_
          rotate_left
          · intro w hSw; (try dsimp only at hSw); go_simp; (try with_reducible rfl)
          (try simp only [Act.put, mdR24, List.setIfInBounds_toArray, List.set_cons_zero, List.set_cons_succ])
          refine tkW (v := ?_) 25 mdR25 rfl (by kernel_rfl) (by kernel_rfl) (by kernel_rfl) (fun _ _ _ h => h) (by rfl) ?_ (by assumption) ?_
          rotate_left
          · intro w hSw; (try dsimp only at hSw); go_simp; (try with_reducible rfl)
          (try simp only [Act.put, mdR25, List.setIfInBounds_toArray, List.set_cons_zero, List.set_cons_succ])
          refine tkW (v := ?_) 26 mdR26 rfl (by kernel_rfl) (by kernel_rfl) (by kernel_rfl) (fun _ _ _ h => h) (by rfl) ?_ (by assumption) ?_
          rotate_left
          · intro w hSw; (try dsimp only at hSw); go_simp; (try with_reducible rfl)
          (try simp only [Act.put, mdR26, List.setIfInBounds_toArray, List.set_cons_zero, List.set_cons_succ])
          refine tkE 27 mdR27 rfl (by kernel_rfl) (fun K hK => ?_)
          go_simp
          (refine (YMH.out _ (KV.out.trans (by first | assumption | exact Kp.drew _ | exact Kp.refl _))).mono ?_; rintro e w' ⟨rfl, kq⟩; have k2 := Kp.trans (show Kp V _ from (by first | assumption | exact Kp.drew _ | exact Kp.refl _)) kq; clear kq)
          (try go_wp2_with fail)
          refine hK.out _ _ ?_ (fun hHeld2 => ?_)
          · (try dsimp only); exact KS.out _ (by first | assumption | exact Kp.drew _ | exact Kp.refl _)
          clear hK K hHeld1
          (try simp only [Act.put, mdR27, List.setIfInBounds_toArray, List.set_cons_zero, List.set_cons_succ])
          refine tkW (v := ?_) 28 mdR28 rfl (by kernel_rfl) (by kernel_rfl) (by kernel_rfl) (fun _ _ _ h => h) (by rfl) ?_ (by assumption) ?_
          rotate_left
          · intro w hSw; (try dsimp only at hSw); go_simp; (try with_reducible rfl)
          (try simp only [Act.put, mdR28, List.setIfInBounds_toArray, List.set_cons_zero, List.set_cons_succ])
          refine tkW (v := ?_) 29 mdR29 rfl (by kernel_rfl) (by kernel_rfl) (by kernel_rfl) (fun _ _ _ h => h) (by rfl) ?_ (by assumption) ?_
          rotate_left
          · intro w hSw; (try dsimp only at hSw); go_simp; (try with_reducible rfl)
          (try simp only [Act.put, mdR29, List.setIfInBounds_toArray, List.set_cons_zero, List.set_cons_succ])
          refine tkW (v := ?_) 30 mdR30 rfl (by kernel_rfl) (by kernel_rfl) (by kernel_rfl) (fun _ _ _ h => h) (by rfl) ?_ (by assumption) ?_
          rotate_left
          · intro w hSw; (try dsimp only at hSw); go_simp; (try with_reducible rfl)
          (try simp only [Act.put, mdR30, List.setIfInBounds_toArray, List.set_cons_zero, List.set_cons_succ])
          refine tkW (v := ?_) 31 mdR31 rfl (by kernel_rfl) (by kernel_rfl) (by kernel_rfl) (fun _ _ _ h => h) (by rfl) ?_ (by assumption) ?_
          rotate_left
          · intro w hSw; (try dsimp only at hSw); go_simp; (try with_reducible rfl)
          (try simp only [Act.put, mdR31, List.setIfInBounds_toArray, List.set_cons_zero, List.set_cons_succ])
          refine tkW (v := ?_) 33 mdR33 rfl (by kernel_rfl) (by kernel_rfl) (by kernel_rfl) (fun _ _ _ h => h) (by rfl) ?_ (by assumption) ?_
          rotate_left
          · intro w hSw; (try dsimp only at hSw); go_simp; (try with_reducible rfl)
          (try simp only [Act.put, mdR33, List.setIfInBounds_toArray, List.set_cons_zero, List.set_cons_succ])
          refine tkE 32 mdR32 rfl (by kernel_rfl) (fun K hK => ?_)
          go_simp
          (refine (ZSH.out _ bs (KV.out.trans (by first | assumption | exact Kp.drew _ | exact Kp.refl _)) (NS.out.kp (by first | assumption | exact Kp.drew _ | exact Kp.refl _))).mono ?_; rintro e w' ⟨rfl, kq⟩; have k2 := Kp.trans (show Kp V _ from (by first | assumption | exact Kp.drew _ | exact Kp.refl _)) kq; clear kq)
          (try go_wp2_with fail)
          refine hK.out _ _ ?_ (fun hHeld3 => ?_)
          · (try dsimp only); exact KS.out _ (by first | assumption | exact Kp.drew _ | exact Kp.refl _)
          clear hK K hHeld2
          (try simp only [Act.put, mdR32, List.setIfInBounds_toArray, List.set_cons_zero, List.set_cons_succ])
          refine tkE 34 mdR34 rfl (by kernel_rfl) (fun K hK => ?_)
          go_simp
          (refine (CEH.out _ (KW.out.trans (KV.out.trans (by first | assumption | exact Kp.drew _ | exact Kp.refl _)))).mono ?_; rintro e w' ⟨rfl, kq⟩; have k2 := Kp.trans (show Kp V _ from (by first | assumption | exact Kp.drew _ | exact Kp.refl _)) kq; clear kq)
          (try go_wp2_with fail)
          refine hK.out _ _ ?_ (fun hHeld4 => ?_)
          · (try dsimp only); exact KS.out _ (by first | assumption | exact Kp.drew _ | exact Kp.refl _)
          clear hK K hHeld3
          (try simp only [Act.put, mdR34, List.setIfInBounds_toArray, List.set_cons_zero, List.set_cons_succ])
          refine tkW (v := ?_) 35 mdR35 rfl (by kernel_rfl) (by kernel_rfl) (by kernel_rfl) (fun _ _ _ h => h) (by rfl) ?_ (by assumption) ?_
          rotate_left
          · intro w hSw; (try dsimp only at hSw); go_simp; (try with_reducible rfl)
          (try simp only [Act.put, mdR35, List.setIfInBounds_toArray, List.set_cons_zero, List.set_cons_succ])
          refine tkU 36 mdR36 rfl (by kernel_rfl) (by kernel_rfl) (by kernel_rfl) (fun _ _ _ h => h) (by rfl) (by assumption) ?_
          (try simp only [Act.put, mdR36, List.setIfInBounds_toArray, List.set_cons_zero, List.set_cons_succ])
          refine tkU 37 mdR37 rfl (by kernel_rfl) (by kernel_rfl) (by kernel_rfl) (fun _ _ _ h => h) (by rfl) (by assumption) ?_
          (try simp only [Act.put, mdR37, List.setIfInBounds_toArray, List.set_cons_zero, List.set_cons_succ])
          refine tkU 38 mdR38 rfl (by kernel_rfl) (by kernel_rfl) (by kernel_rfl) (fun _ _ _ h => h) (by rfl) (by assumption) ?_
          (try simp only [Act.put, mdR38, List.setIfInBounds_toArray, List.set_cons_zero, List.set_cons_succ])
          refine tkU 39 mdR39 rfl (by kernel_rfl) (by kernel_rfl) (by kernel_rfl) (fun _ _ _ h => h) (by rfl) (by assumption) ?_
          (try simp only [Act.put, mdR39, List.setIfInBounds_toArray, List.set_cons_zero, List.set_cons_succ])
          refine tkU 40 mdR40 rfl (by kernel_rfl) (by kernel_rfl) (by kernel_rfl) (fun _ _ _ h => h) (by rfl) (by assumption) ?_
          (try simp only [Act.put, mdR40, List.setIfInBounds_toArray, List.set_cons_zero, List.set_cons_succ])
          refine tkW (v := ?_) 41 mdR41 rfl (by kernel_rfl) (by kernel_rfl) (by kernel_rfl) (fun _ _ _ h => h) (by rfl) ?_ (by assumption) ?_
          rotate_left
          · intro w hSw; (try dsimp only at hSw); go_simp; (try with_reducible rfl)
          (try simp only [Act.put, mdR41, List.setIfInBounds_toArray, List.set_cons_zero, List.set_cons_succ])
          refine tkW (v := ?_) 42 mdR42 rfl (by kernel_rfl) (by kernel_rfl) (by kernel_rfl) (fun _ _ _ h => h) (by rfl) ?_ (by assumption) ?_
          rotate_left
          · intro w hSw; (try dsimp only at hSw); go_simp; (try with_reducible rfl)
          (try simp only [Act.put, mdR42, List.setIfInBounds_toArray, List.set_cons_zero, List.set_cons_succ])
          refine tkW (v := ?_) 43 mdR43 rfl (by kernel_rfl) (by kernel_rfl) (by kernel_rfl) (fun _ _ _ h => h) (by rfl) ?_ (by assumption) ?_
          rotate_left
          · intro w hSw; (try dsimp only at hSw); go_simp; (try with_reducible rfl)
          (try simp only [Act.put, mdR43, List.setIfInBounds_toArray, List.set_cons_zero, List.set_cons_succ])
          refine tkW (v := ?_) 44 mdR44 rfl (by kernel_rfl) (by kernel_rfl) (by kernel_rfl) (fun _ _ _ h => h) (by rfl) ?_ (by assumption) ?_
          rotate_left
          · intro w hSw; (try dsimp only at hSw); go_simp; (try with_reducible rfl)
          (try simp only [Act.put, mdR44, List.setIfInBounds_toArray, List.set_cons_zero, List.set_cons_succ])
          refine tkW (v := ?_) 45 mdR45 rfl (by kernel_rfl) (by kernel_rfl) (by kernel_rfl) (fun _ _ _ h => h) (by rfl) ?_ (by assumption) ?_
          rotate_left
          · intro w hSw; (try dsimp only at hSw); go_simp; (try with_reducible rfl)
          (try simp only [Act.put, mdR45, List.setIfInBounds_toArray, List.set_cons_zero, List.set_cons_succ])
          refine tkW (v := ?_) 47 mdR47 rfl (by kernel_rfl) (by kernel_rfl) (by kernel_rfl) (fun _ _ _ h => h) (by rfl) ?_ (by assumption) ?_
          rotate_left
          · intro w hSw; (try dsimp only at hSw); go_simp; (try with_reducible rfl)
          (try simp only [Act.put, mdR47, List.setIfInBounds_toArray, List.set_cons_zero, List.set_cons_succ])
          refine tkW (v := ?_) 48 mdR48 rfl (by kernel_rfl) (by kernel_rfl) (by kernel_rfl) (fun _ _ _ h => h) (by rfl) ?_ (by assumption) ?_
          rotate_left
          · intro w hSw; (try dsimp only at hSw); go_simp; (try with_reducible rfl)
          (try simp only [Act.put, mdR48, List.setIfInBounds_toArray, List.set_cons_zero, List.set_cons_succ])
          refine tkW (v := ?_) 49 mdR49 rfl (by kernel_rfl) (by kernel_rfl) (by kernel_rfl) (fun _ _ _ h => h) (by rfl) ?_ (by assumption) ?_
          rotate_left
          · intro w hSw; (try dsimp only at hSw); go_simp; (try with_reducible rfl)
          (try simp only [Act.put, mdR49, List.setIfInBounds_toArray, List.set_cons_zero, List.set_cons_succ])
          refine tkW (v := ?_) 50 mdR50 rfl (by kernel_rfl) (by kernel_rfl) (by kernel_rfl) (fun _ _ _ h => h) (by rfl) ?_ (by assumption) ?_
          rotate_left
          · intro w hSw; (try dsimp only at hSw); go_simp; (try with_reducible rfl)
          (try simp only [Act.put, mdR50, List.setIfInBounds_toArray, List.set_cons_zero, List.set_cons_succ])
          refine tkE 46 mdR46 rfl (by kernel_rfl) (fun K hK => ?_)
          go_simp
          (refine (ZCH.out _ bs (NS.out.kp (by first | assumption | exact Kp.drew _ | exact Kp.refl _))).mono ?_; rintro e w' ⟨rfl, kq⟩; have k2 := Kp.trans (show Kp V _ from (by first | assumption | exact Kp.drew _ | exact Kp.refl _)) kq; clear kq)
          (try go_wp2_with fail)
          refine hK.out _ _ ?_ (fun hHeld5 => ?_)
          · (try dsimp only); exact KS.out _ (by first | assumption | exact Kp.drew _ | exact Kp.refl _)
          clear hK K hHeld4
          (try simp only [Act.put, mdR46, List.setIfInBounds_toArray, List.set_cons_zero, List.set_cons_succ])
          refine tkE 51 mdR51 rfl (by kernel_rfl) (fun K hK => ?_)
          go_simp
          (refine (YCH.out _ (KV.out.trans (by first | assumption | exact Kp.drew _ | exact Kp.refl _))).mono ?_; rintro e w' ⟨rfl, kq⟩; have k2 := Kp.trans (show Kp V _ from (by first | assumption | exact Kp.drew _ | exact Kp.refl _)) kq; clear kq)
          (try go_wp2_with fail)
          refine hK.out _ _ ?_ (fun hHeld6 => ?_)
          · (try dsimp only); exact KS.out _ (by first | assumption | exact Kp.drew _ | exact Kp.refl _)
          clear hK K hHeld5
          (try simp only [Act.put, mdR51, List.setIfInBounds_toArray, List.set_cons_zero, List.set_cons_succ])
          refine tkW (v := ?_) 52 mdR52 rfl (by kernel_rfl) (by kernel_rfl) (by kernel_rfl) (fun _ _ _ h => h) (by rfl) ?_ (by assumption) ?_
          rotate_left
          · intro w hSw; (try dsimp only at hSw); go_simp; (try with_reducible rfl)
          (try simp only [Act.put, mdR52, List.setIfInBounds_toArray, List.set_cons_zero, List.set_cons_succ])
          refine tkW (v := ?_) 53 mdR53 rfl (by kernel_rfl) (by kernel_rfl) (by kernel_rfl) (fun _ _ _ h => h) (by rfl) ?_ (by assumption) ?_
          rotate_left
          · intro w hSw; (try dsimp only at hSw); go_simp; (try with_reducible rfl)
          (try simp only [Act.put, mdR53, List.setIfInBounds_toArray, List.set_cons_zero, List.set_cons_succ])
          refine tkW (v := ?_) 54 mdR54 rfl (by kernel_rfl) (by kernel_rfl) (by kernel_rfl) (fun _ _ _ h => h) (by rfl) ?_ (by assumption) ?_
          rotate_left
          · intro w hSw; (try dsimp only at hSw); go_simp; (try with_reducible rfl)
          (try simp only [Act.put, mdR54, List.setIfInBounds_toArray, List.set_cons_zero, List.set_cons_succ])
          refine wpAnyH_done (by kernel_rfl) ?_ _
          have KE := Lib.hid (KL.out.trans (KV.out.trans k2))
          clear KS k2
          go_wp2
          go_roundw
          case rel => exact ⟨false, j + 1, HLT.out, rfl, by go_num, KE, HB2⟩
          case measure => have := HLT.out; simp [intOf]; omega
      | true =>
        have HB2 := Lib.hid (show sb = (e0 && (l.take (j + 1)).all (saneN saneP)) by rw [EBS.out, ← Bool.and_assoc, ← HBB.out]; simp)
        go_wp2_with fail
        refine (YSH.out _ (Kp.refl _)).mono ?_
        rintro e w8 ⟨rfl, kk⟩
        have RR := Lib.hid (And.intro (cell_up kk r0) (And.intro (cell_up kk r1) (And.intro (cell_up kk r2) (And.intro (cell_up kk r3) (And.intro (cell_up kk r4) (And.intro (cell_up kk r5) (And.intro (cell_up kk r6) (cell_up kk r7))))))))
        clear r0 r1 r2 r3 r4 r5 r6 r7
        obtain ⟨r0, r1, r2, r3, r4, r5, r6, r7⟩ := RR.out
        have K8 := Lib.hid kk
        clear kk
        go_wp2_with fail
        have KS := Lib.hid (fun w' (qq : Kp w8 w') => show w'.cell? ⟨w3.heap.size, 0, none⟩ = some (.int .i64 0) ∧ w'.cell? ⟨w3.heap.size, 1, none⟩ = some (.int .i64 pk) ∧ w'.cell? ⟨w3.heap.size, 2, none⟩ = some (.string y) ∧ w'.cell? ⟨w3.heap.size, 3, none⟩ = some (.string m) ∧ w'.cell? ⟨w3.heap.size, 4, none⟩ = some (.string q) ∧ w'.cell? ⟨w3.heap.size, 5, none⟩ = some (.bool a) ∧ w'.cell? ⟨w3.heap.size, 6, none⟩ = some (.bool t) ∧ w'.cell? ⟨w3.heap.size, 7, none⟩ = some (.slice none 0 0) ∧ w'.cell? ⟨bk, of + j * 8, none⟩ = some (.int .i64 k1) ∧ w'.cell? ⟨bk, of + j * 8 + 1, none⟩ = some (.int .i64 pk1) ∧ w'.cell? ⟨bk, of + j * 8 + 2, none⟩ = some (.string y1) ∧ w'.cell? ⟨bk, of + j * 8 + 3, none⟩ = some (.string m1) ∧ w'.cell? ⟨bk, of + j * 8 + 4, none⟩ = some (.string q1) ∧ w'.cell? ⟨bk, of + j * 8 + 5, none⟩ = some (.bool a1) ∧ w'.cell? ⟨bk, of + j * 8 + 6, none⟩ = some (.bool t1) ∧ w'.cell? ⟨bk, of + j * 8 + 7, none⟩ = some (.slice ad1 l1.length cp1) ∧ Kp w8 w' from ⟨(row8 (GX.out _ ((J7.out.trans (KL.out.trans K8.out)).trans qq))).1, (row8 (GX.out _ ((J7.out.trans (KL.out.trans K8.out)).trans qq))).2.1, (row8 (GX.out _ ((J7.out.trans (KL.out.trans K8.out)).trans qq))).2.2.1, (row8 (GX.out _ ((J7.out.trans (KL.out.trans K8.out)).trans qq))).2.2.2.1, (row8 (GX.out _ ((J7.out.trans (KL.out.trans K8.out)).trans qq))).2.2.2.2.1, (row8 (GX.out _ ((J7.out.trans (KL.out.trans K8.out)).trans qq))).2.2.2.2.2.1, (row8 (GX.out _ ((J7.out.trans (KL.out.trans K8.out)).trans qq))).2.2.2.2.2.2.1, (row8 (GX.out _ ((J7.out.trans (KL.out.trans K8.out)).trans qq))).2.2.2.2.2.2.2, cell_up qq r0, cell_up qq r1, cell_up qq r2, cell_up qq r3, cell_up qq r4, cell_up qq r5, cell_up qq r6, cell_up qq r7, qq⟩)
        refine wp_region_held_drew (S := fun w' => w'.cell? ⟨w3.heap.size, 0, none⟩ = some (.int .i64 0) ∧ w'.cell? ⟨w3.heap.size, 1, none⟩ = some (.int .i64 pk) ∧ w'.cell? ⟨w3.heap.size, 2, none⟩ = some (.string y) ∧ w'.cell? ⟨w3.heap.size, 3, none⟩ = some (.string m) ∧ w'.cell? ⟨w3.heap.size, 4, none⟩ = some (.string q) ∧ w'.cell? ⟨w3.heap.size, 5, none⟩ = some (.bool a) ∧ w'.cell? ⟨w3.heap.size, 6, none⟩ = some (.bool t) ∧ w'.cell? ⟨w3.heap.size, 7, none⟩ = some (.slice none 0 0) ∧ w'.cell? ⟨bk, of + j * 8, none⟩ = some (.int .i64 k1) ∧ w'.cell? ⟨bk, of + j * 8 + 1, none⟩ = some (.int .i64 pk1) ∧ w'.cell? ⟨bk, of + j * 8 + 2, none⟩ = some (.string y1) ∧ w'.cell? ⟨bk, of + j * 8 + 3, none⟩ = some (.string m1) ∧ w'.cell? ⟨bk, of + j * 8 + 4, none⟩ = some (.string q1) ∧ w'.cell? ⟨bk, of + j * 8 + 5, none⟩ = some (.bool a1) ∧ w'.cell? ⟨bk, of + j * 8 + 6, none⟩ = some (.bool t1) ∧ w'.cell? ⟨bk, of + j * 8 + 7, none⟩ = some (.slice ad1 l1.length cp1) ∧ Kp w8 w') (by kernel_rfl) ?_ (fun hHeld0 => ?_)
        · (try dsimp only); exact KS.out _ (by first | with_reducible exact Kp.refl _ | with_reducible exact Kp.drew _ | with_reducible assumption | with_reducible exact Kp.alloc _ _ | with_reducible exact (Kp.drew _).trans (Kp.alloc _ _) | with_reducible exact Kp.trans k2 (Kp.alloc _ _) | exact (Kp.drew _).trans (Kp.alloc _ _) | exact Kp.trans k2 (Kp.alloc _ _))
        refine tkW (v := ?_) 0 mdQ0 rfl (by kernel_rfl) (by kernel_rfl) (by kernel_rfl) (fun _ _ _ h => h) (by rfl) ?_ (by assumption) ?_
        rotate_left
        · intro w hSw; (try dsimp only at hSw); go_simp; (try with_reducible rfl)
        (try simp only [Act.put, mdQ0, List.setIfInBounds_toArray, List.set_cons_zero, List.set_cons_succ])
        refine tkW (v := ?_) 1 mdQ1 rfl (by kernel_rfl) (by kernel_rfl) (by kernel_rfl) (fun _ _ _ h => h) (by rfl) ?_ (by assumption) ?_
        rotate_left
        · intro w hSw; (try dsimp only at hSw); go_simp; (try with_reducible rfl)
        (try simp only [Act.put, mdQ1, List.setIfInBounds_toArray, List.set_cons_zero, List.set_cons_succ])
        refine tkW (v := ?_) 2 mdQ2 rfl (by kernel_rfl) (by kernel_rfl) (by kernel_rfl) (fun _ _ _ h => h) (by rfl) ?_ (by assumption) ?_
        rotate_left
        · intro w hSw; (try dsimp only at hSw); go_simp; (try with_reducible rfl)
        (try simp only [Act.put, mdQ2, List.setIfInBounds_toArray, List.set_cons_zero, List.set_cons_succ])
        refine tkW (v := ?_) 3 mdQ3 rfl (by kernel_rfl) (by kernel_rfl) (by kernel_rfl) (fun _ _ _ h => h) (by rfl) ?_ (by assumption) ?_
        rotate_left
        · intro w hSw; (try dsimp only at hSw); go_simp; (try with_reducible rfl)
        (try simp only [Act.put, mdQ3, List.setIfInBounds_toArray, List.set_cons_zero, List.set_cons_succ])
        refine tkW (v := ?_) 4 mdQ4 rfl (by kernel_rfl) (by kernel_rfl) (by kernel_rfl) (fun _ _ _ h => h) (by rfl) ?_ (by assumption) ?_
        rotate_left
        · intro w hSw; (try dsimp only at hSw); go_simp; (try with_reducible rfl)
        (try simp only [Act.put, mdQ4, List.setIfInBounds_toArray, List.set_cons_zero, List.set_cons_succ])
        refine tkE2 5 6 mdQ5 mdQ6 rfl rfl (by kernel_rfl) (fun K hK => ?_) (fun K hK => ?_)
        · go_simp
          (refine (YBH.out _).mono ?_; rintro e w' ⟨bs, rfl, hbs0, hg16, kq⟩; have k2 := Kp.trans (show Kp w8 _ from (by first | exact Kp.refl _ | exact Kp.drew _ | exact Kp.alloc _ _ | exact (Kp.drew _).trans (Kp.alloc _ _))) kq)
          (try go_wp2_with fail)
          refine hK.out _ _ ?_ (fun hHeld1 => ?_)
          · (try dsimp only); exact KS.out _ (by first | with_reducible exact Kp.refl _ | with_reducible exact Kp.drew _ | with_reducible assumption | with_reducible exact Kp.alloc _ _ | with_reducible exact (Kp.drew _).trans (Kp.alloc _ _) | with_reducible exact Kp.trans k2 (Kp.alloc _ _) | exact (Kp.drew _).trans (Kp.alloc _ _) | exact Kp.trans k2 (Kp.alloc _ _))
          clear hK K hHeld0
          (try simp only [Act.put, mdQ5, List.setIfInBounds_toArray, List.set_cons_zero, List.set_cons_succ])
          refine tkE 6 mdQ6 rfl (by kernel_rfl) (fun K hK => ?_)
          go_simp
          skip
          (try go_wp2_with fail)
          refine hK.out _ _ ?_ (fun hHeld2 => ?_)
          · (try dsimp only); exact KS.out _ (by first | with_reducible exact Kp.refl _ | with_reducible exact Kp.drew _ | with_reducible assumption | with_reducible exact Kp.alloc _ _ | with_reducible exact (Kp.drew _).trans (Kp.alloc _ _) | with_reducible exact Kp.trans k2 (Kp.alloc _ _) | exact (Kp.drew _).trans (Kp.alloc _ _) | exact Kp.trans k2 (Kp.alloc _ _))
          clear hK K hHeld1
          (try simp only [Act.put, mdQ6, List.setIfInBounds_toArray, List.set_cons_zero, List.set_cons_succ])
          refine tkE 7 mdQ7 rfl (by kernel_rfl) (fun K hK => ?_)
          go_simp
          skip
          (try go_wp2_with fail)
          refine hK.out _ _ ?_ (fun hHeld3 => ?_)
          · (try dsimp only); exact KS.out _ (by first | with_reducible exact Kp.refl _ | with_reducible exact Kp.drew _ | with_reducible assumption | with_reducible exact Kp.alloc _ _ | with_reducible exact (Kp.drew _).trans (Kp.alloc _ _) | with_reducible exact Kp.trans k2 (Kp.alloc _ _) | exact (Kp.drew _).trans (Kp.alloc _ _) | exact Kp.trans k2 (Kp.alloc _ _))
          clear hK K hHeld2
          (try simp only [Act.put, mdQ7, List.setIfInBounds_toArray, List.set_cons_zero, List.set_cons_succ])
          refine wpAnyH_done (by kernel_rfl) ?_ _
          obtain ⟨wu, hwu⟩ : ∃ x : World, x = w' := ⟨_, rfl⟩
          subst hwu
          have ku := k2
          obtain ⟨V, hV⟩ : ∃ x, x = wu.alloc (.cells #[.int .i64 1, .int .i64 0, .string ⟨#[]⟩, .string ⟨#[]⟩, .string ⟨#[]⟩, .bool false, .bool false, .slice (some ⟨bs, 0, none⟩) 2 2] 46) := ⟨_, rfl⟩
          have kv : Kp w8 V := by rw [hV]; exact ku.trans (Kp.alloc _ _)
          have gS : V.heap[wu.heap.size]? = some (.cells #[.int .i64 1, .int .i64 0, .string ⟨#[]⟩, .string ⟨#[]⟩, .string ⟨#[]⟩, .bool false, .bool false, .slice (some ⟨bs, 0, none⟩) 2 2] 46 (0, 0)) := by rw [hV]; exact heap_at _ _ _ rfl
          have g16 : V.heap[bs]? = some (.cells #[.int .i64 0, .int .i64 pk, .string y, .string m, .string q, .bool a, .bool t, .slice none 0 0, .int .i64 k1, .int .i64 pk1, .string y1, .string m1, .string q1, .bool a1, .bool t1, .slice ad1 l1.length cp1] 46 (0, 0)) := by rw [hV]; exact heap_block (Kp.alloc _ _) hg16
          have nS : NodesAt V (.slice (some ⟨bs, 0, none⟩) 2 2) [(.mk 0 ⟨pk, y, m, q⟩ a t [] : ND), (.mk k1 ⟨pk1, y1, m1, q1⟩ a1 t1 l1 : ND)] := pair_nodes (n := (.mk 0 ⟨pk, y, m, q⟩ a t [] : ND)) (m := (.mk k1 ⟨pk1, y1, m1, q1⟩ a1 t1 l1 : ND)) g16 (.none _ _) (SUB.out _ (KW.out.trans (Kp.trans K8.out kv)))
          have NS := Lib.hid nS
          have GS := Lib.hid (fun w1 (qq : Kp V w1) => heap_block qq gS)
          have G16 := Lib.hid (fun w1 (qq : Kp V w1) => row16 (heap_block qq g16))
          have KV := Lib.hid (Kp.trans K8.out kv)
          have RR := Lib.hid (fun w1 (qq : Kp V w1) => And.intro (cell_up (kv.trans qq) r0) (And.intro (cell_up (kv.trans qq) r1) (And.intro (cell_up (kv.trans qq) r2) (And.intro (cell_up (kv.trans qq) r3) (And.intro (cell_up (kv.trans qq) r4) (And.intro (cell_up (kv.trans qq) r5) (And.intro (cell_up (kv.trans qq) r6) (cell_up (kv.trans qq) r7))))))))
          have HV := Lib.hid hV
          clear KS k2 kq ku kv hV gS g16 hg16 nS r0 r1 r2 r3 r4 r5 r6 r7
          go_wp2_with fail
          rw [← HV.out]
          have KS := Lib.hid (fun w' (qq : Kp V w') => show w'.cell? ⟨wu.heap.size, 0, none⟩ = some (.int .i64 1) ∧ w'.cell? ⟨wu.heap.size, 1, none⟩ = some (.int .i64 0) ∧ w'.cell? ⟨wu.heap.size, 2, none⟩ = some (.string ⟨#[]⟩) ∧ w'.cell? ⟨wu.heap.size, 3, none⟩ = some (.string ⟨#[]⟩) ∧ w'.cell? ⟨wu.heap.size, 4, none⟩ = some (.string ⟨#[]⟩) ∧ w'.cell? ⟨wu.heap.size, 5, none⟩ = some (.bool false) ∧ w'.cell? ⟨wu.heap.size, 6, none⟩ = some (.bool false) ∧ w'.cell? ⟨wu.heap.size, 7, none⟩ = some (.slice (some ⟨bs, 0, none⟩) 2 2) ∧ w'.cell? ⟨bs, 0, none⟩ = some (.int .i64 0) ∧ w'.cell? ⟨bs, 1, none⟩ = some (.int .i64 pk) ∧ w'.cell? ⟨bs, 2, none⟩ = some (.string y) ∧ w'.cell? ⟨bs, 3, none⟩ = some (.string m) ∧ w'.cell? ⟨bs, 4, none⟩ = some (.string q) ∧ w'.cell? ⟨bs, 5, none⟩ = some (.bool a) ∧ w'.cell? ⟨bs, 6, none⟩ = some (.bool t) ∧ w'.cell? ⟨bs, 7, none⟩ = some (.slice none 0 0) ∧ w'.cell? ⟨bs, 8, none⟩ = some (.int .i64 k1) ∧ w'.cell? ⟨bs, 9, none⟩ = some (.int .i64 pk1) ∧ w'.cell? ⟨bs, 10, none⟩ = some (.string y1) ∧ w'.cell? ⟨bs, 11, none⟩ = some (.string m1) ∧ w'.cell? ⟨bs, 12, none⟩ = some (.string q1) ∧ w'.cell? ⟨bs, 13, none⟩ = some (.bool a1) ∧ w'.cell? ⟨bs, 14, none⟩ = some (.bool t1) ∧ w'.cell? ⟨bs, 15, none⟩ = some (.slice ad1 l1.length cp1) ∧ w'.cell? ⟨w3.heap.size, 0, none⟩ = some (.int .i64 0) ∧ w'.cell? ⟨w3.heap.size, 1, none⟩ = some (.int .i64 pk) ∧ w'.cell? ⟨w3.heap.size, 2, none⟩ = some (.string y) ∧ w'.cell? ⟨w3.heap.size, 3, none⟩ = some (.string m) ∧ w'.cell? ⟨w3.heap.size, 4, none⟩ = some (.string q) ∧ w'.cell? ⟨w3.heap.size, 5, none⟩ = some (.bool a) ∧ w'.cell? ⟨w3.heap.size, 6, none⟩ = some (.bool t) ∧ w'.cell? ⟨w3.heap.size, 7, none⟩ = some (.slice none 0 0) ∧ w'.cell? ⟨bk, of + j * 8, none⟩ = some (.int .i64 k1) ∧ w'.cell? ⟨bk, of + j * 8 + 1, none⟩ = some (.int .i64 pk1) ∧ w'.cell? ⟨bk, of + j * 8 + 2, none⟩ = some (.string y1) ∧ w'.cell? ⟨bk, of + j * 8 + 3, none⟩ = some (.string m1) ∧ w'.cell? ⟨bk, of + j * 8 + 4, none⟩ = some (.string q1) ∧ w'.cell? ⟨bk, of + j * 8 + 5, none⟩ = some (.bool a1) ∧ w'.cell? ⟨bk, of + j * 8 + 6, none⟩ = some (.bool t1) ∧ w'.cell? ⟨bk, of + j * 8 + 7, none⟩ = some (.slice ad1 l1.length cp1) ∧ Kp V w' from ⟨(row8 (GS.out _ qq)).1, (row8 (GS.out _ qq)).2.1, (row8 (GS.out _ qq)).2.2.1, (row8 (GS.out _ qq)).2.2.2.1, (row8 (GS.out _ qq)).2.2.2.2.1, (row8 (GS.out _ qq)).2.2.2.2.2.1, (row8 (GS.out _ qq)).2.2.2.2.2.2.1, (row8 (GS.out _ qq)).2.2.2.2.2.2.2, (G16.out _ qq).1, (G16.out _ qq).2.1, (G16.out _ qq).2.2.1, (G16.out _ qq).2.2.2.1, (G16.out _ qq).2.2.2.2.1, (G16.out _ qq).2.2.2.2.2.1, (G16.out _ qq).2.2.2.2.2.2.1, (G16.out _ qq).2.2.2.2.2.2.2.1, (G16.out _ qq).2.2.2.2.2.2.2.2.1, (G16.out _ qq).2.2.2.2.2.2.2.2.2.1, (G16.out _ qq).2.2.2.2.2.2.2.2.2.2.1, (G16.out _ qq).2.2.2.2.2.2.2.2.2.2.2.1, (G16.out _ qq).2.2.2.2.2.2.2.2.2.2.2.2.1, (G16.out _ qq).2.2.2.2.2.2.2.2.2.2.2.2.2.1, (G16.out _ qq).2.2.2.2.2.2.2.2.2.2.2.2.2.2.1, (G16.out _ qq).2.2.2.2.2.2.2.2.2.2.2.2.2.2.2, (row8 (GX.out _ ((J7.out.trans (KL.out.trans KV.out)).trans qq))).1, (row8 (GX.out _ ((J7.out.trans (KL.out.trans KV.out)).trans qq))).2.1, (row8 (GX.out _ ((J7.out.trans (KL.out.trans KV.out)).trans qq))).2.2.1, (row8 (GX.out _ ((J7.out.trans (KL.out.trans KV.out)).trans qq))).2.2.2.1, (row8 (GX.out _ ((J7.out.trans (KL.out.trans KV.out)).trans qq))).2.2.2.2.1, (row8 (GX.out _ ((J7.out.trans (KL.out.trans KV.out)).trans qq))).2.2.2.2.2.1, (row8 (GX.out _ ((J7.out.trans (KL.out.trans KV.out)).trans qq))).2.2.2.2.2.2.1, (row8 (GX.out _ ((J7.out.trans (KL.out.trans KV.out)).trans qq))).2.2.2.2.2.2.2, (RR.out _ qq).1, (RR.out _ qq).2.1, (RR.out _ qq).2.2.1, (RR.out _ qq).2.2.2.1, (RR.out _ qq).2.2.2.2.1, (RR.out _ qq).2.2.2.2.2.1, (RR.out _ qq).2.2.2.2.2.2.1, (RR.out _ qq).2.2.2.2.2.2.2, qq⟩)
          refine wp_region_held_drew (S := fun w' => w'.cell? ⟨wu.heap.size, 0, none⟩ = some (.int .i64 1) ∧ w'.cell? ⟨wu.heap.size, 1, none⟩ = some (.int .i64 0) ∧ w'.cell? ⟨wu.heap.size, 2, none⟩ = some (.string ⟨#[]⟩) ∧ w'.cell? ⟨wu.heap.size, 3, none⟩ = some (.string ⟨#[]⟩) ∧ w'.cell? ⟨wu.heap.size, 4, none⟩ = some (.string ⟨#[]⟩) ∧ w'.cell? ⟨wu.heap.size, 5, none⟩ = some (.bool false) ∧ w'.cell? ⟨wu.heap.size, 6, none⟩ = some (.bool false) ∧ w'.cell? ⟨wu.heap.size, 7, none⟩ = some (.slice (some ⟨bs, 0, none⟩) 2 2) ∧ w'.cell? ⟨bs, 0, none⟩ = some (.int .i64 0) ∧ w'.cell? ⟨bs, 1, none⟩ = some (.int .i64 pk) ∧ w'.cell? ⟨bs, 2, none⟩ = some (.string y) ∧ w'.cell? ⟨bs, 3, none⟩ = some (.string m) ∧ w'.cell? ⟨bs, 4, none⟩ = some (.string q) ∧ w'.cell? ⟨bs, 5, none⟩ = some (.bool a) ∧ w'.cell? ⟨bs, 6, none⟩ = some (.bool t) ∧ w'.cell? ⟨bs, 7, none⟩ = some (.slice none 0 0) ∧ w'.cell? ⟨bs, 8, none⟩ = some (.int .i64 k1) ∧ w'.cell? ⟨bs, 9, none⟩ = some (.int .i64 pk1) ∧ w'.cell? ⟨bs, 10, none⟩ = some (.string y1) ∧ w'.cell? ⟨bs, 11, none⟩ = some (.string m1) ∧ w'.cell? ⟨bs, 12, none⟩ = some (.string q1) ∧ w'.cell? ⟨bs, 13, none⟩ = some (.bool a1) ∧ w'.cell? ⟨bs, 14, none⟩ = some (.bool t1) ∧ w'.cell? ⟨bs, 15, none⟩ = some (.slice ad1 l1.length cp1) ∧ w'.cell? ⟨w3.heap.size, 0, none⟩ = some (.int .i64 0) ∧ w'.cell? ⟨w3.heap.size, 1, none⟩ = some (.int .i64 pk) ∧ w'.cell? ⟨w3.heap.size, 2, none⟩ = some (.string y) ∧ w'.cell? ⟨w3.heap.size, 3, none⟩ = some (.string m) ∧ w'.cell? ⟨w3.heap.size, 4, none⟩ = some (.string q) ∧ w'.cell? ⟨w3.heap.size, 5, none⟩ = some (.bool a) ∧ w'.cell? ⟨w3.heap.size, 6, none⟩ = some (.bool t) ∧ w'.cell? ⟨w3.heap.size, 7, none⟩ = some (.slice none 0 0) ∧ w'.cell? ⟨bk, of + j * 8, none⟩ = some (.int .i64 k1) ∧ w'.cell? ⟨bk, of + j * 8 + 1, none⟩ = some (.int .i64 pk1) ∧ w'.cell? ⟨bk, of + j * 8 + 2, none⟩ = some (.string y1) ∧ w'.cell? ⟨bk, of + j * 8 + 3, none⟩ = some (.string m1) ∧ w'.cell? ⟨bk, of + j * 8 + 4, none⟩ = some (.string q1) ∧ w'.cell? ⟨bk, of + j * 8 + 5, none⟩ = some (.bool a1) ∧ w'.cell? ⟨bk, of + j * 8 + 6, none⟩ = some (.bool t1) ∧ w'.cell? ⟨bk, of + j * 8 + 7, none⟩ = some (.slice ad1 l1.length cp1) ∧ Kp V w') (by kernel_rfl) ?_ (fun hHeld0 => ?_)
          · (try dsimp only); exact KS.out _ (by first | assumption | exact Kp.drew _ | exact Kp.refl _)
          refine tkW (v := ?_) 0 mdR0 rfl (by kernel_rfl) (by kernel_rfl) (by kernel_rfl) (fun _ _ _ h => h) (by rfl) ?_ (by assumption) ?_
          rotate_left
          · intro w hSw; (try dsimp only at hSw); go_simp; (try with_reducible rfl)
          (try simp only [Act.put, mdR0, List.setIfInBounds_toArray, List.set_cons_zero, List.set_cons_succ])
          refine tkW (v := ?_) 1 mdR1 rfl (by kernel_rfl) (by kernel_rfl) (by kernel_rfl) (fun _ _ _ h => h) (by rfl) ?_ (by assumption) ?_
          rotate_left
          · intro w hSw; (try dsimp only at hSw); go_simp; (try with_reducible rfl)
          (try simp only [Act.put, mdR1, List.setIfInBounds_toArray, List.set_cons_zero, List.set_cons_succ])
          refine tkW (v := ?_) 2 mdR2 rfl (by kernel_rfl) (by kernel_rfl) (by kernel_rfl) (fun _ _ _ h => h) (by rfl) ?_ (by assumption) ?_
          rotate_left
          · intro w hSw; (try dsimp only at hSw); go_simp; (try with_reducible rfl)
          (try simp only [Act.put, mdR2, List.setIfInBounds_toArray, List.set_cons_zero, List.set_cons_succ])
          refine tkW (v := ?_) 3 mdR3 rfl (by kernel_rfl) (by kernel_rfl) (by kernel_rfl) (fun _ _ _ h => h) (by rfl) ?_ (by assumption) ?_
          rotate_left
          · intro w hSw; (try dsimp only at hSw); go_simp; (try with_reducible rfl)
          (try simp only [Act.put, mdR3, List.setIfInBounds_toArray, List.set_cons_zero, List.set_cons_succ])
          refine tkW (v := ?_) 4 mdR4 rfl (by kernel_rfl) (by kernel_rfl) (by kernel_rfl) (fun _ _ _ h => h) (by rfl) ?_ (by assumption) ?_
          rotate_left
          · intro w hSw; (try dsimp only at hSw); go_simp; (try with_reducible rfl)
          (try simp only [Act.put, mdR4, List.setIfInBounds_toArray, List.set_cons_zero, List.set_cons_succ])
          refine tkW (v := ?_) 5 mdR5 rfl (by kernel_rfl) (by kernel_rfl) (by kernel_rfl) (fun _ _ _ h => h) (by rfl) ?_ (by assumption) ?_
          rotate_left
          · intro w hSw; (try dsimp only at hSw); go_simp; (try with_reducible rfl)
          (try simp only [Act.put, mdR5, List.setIfInBounds_toArray, List.set_cons_zero, List.set_cons_succ])
          refine tkW (v := ?_) 6 mdR6 rfl (by kernel_rfl) (by kernel_rfl) (by kernel_rfl) (fun _ _ _ h => h) (by rfl) ?_ (by assumption) ?_
          rotate_left
          · intro w hSw; (try dsimp only at hSw); go_simp; (try with_reducible rfl)
          (try simp only [Act.put, mdR6, List.setIfInBounds_toArray, List.set_cons_zero, List.set_cons_succ])
          refine tkW (v := ?_) 7 mdR7 rfl (by kernel_rfl) (by kernel_rfl) (by kernel_rfl) (fun _ _ _ h => h) (by rfl) ?_ (by assumption) ?_
          rotate_left
          · intro w hSw; (try dsimp only at hSw); go_simp; (try with_reducible rfl)
          (try simp only [Act.put, mdR7, List.setIfInBounds_toArray, List.set_cons_zero, List.set_cons_succ])
          refine tkW (v := ?_) 8 mdR8 rfl (by kernel_rfl) (by kernel_rfl) (by kernel_rfl) (fun _ _ _ h => h) (by rfl) ?_ (by assumption) ?_
          rotate_left
          · intro w hSw; (try dsimp only at hSw); go_simp; (try with_reducible rfl)
          (try simp only [Act.put, mdR8, List.setIfInBounds_toArray, List.set_cons_zero, List.set_cons_succ])
          refine tkW (v := ?_) 9 mdR9 rfl (by kernel_rfl) (by kernel_rfl) (by kernel_rfl) (fun _ _ _ h => h) (by rfl) ?_ (by assumption) ?_
          rotate_left
          · intro w hSw; (try dsimp only at hSw); go_simp; (try with_reducible rfl)
          (try simp only [Act.put, mdR9, List.setIfInBounds_toArray, List.set_cons_zero, List.set_cons_succ])
          refine tkW (v := ?_) 10 mdR10 rfl (by kernel_rfl) (by kernel_rfl) (by kernel_rfl) (fun _ _ _ h => h) (by rfl) ?_ (by assumption) ?_
          rotate_left
          · intro w hSw; (try dsimp only at hSw); go_simp; (try with_reducible rfl)
          (try simp only [Act.put, mdR10, List.setIfInBounds_toArray, List.set_cons_zero, List.set_cons_succ])
          refine tkW (v := ?_) 11 mdR11 rfl (by kernel_rfl) (by kernel_rfl) (by kernel_rfl) (fun _ _ _ h => h) (by rfl) ?_ (by assumption) ?_
          rotate_left
          · intro w hSw; (try dsimp only at hSw); go_simp; (try with_reducible rfl)
          (try simp only [Act.put, mdR11, List.setIfInBounds_toArray, List.set_cons_zero, List.set_cons_succ])
          refine tkW (v := ?_) 12 mdR12 rfl (by kernel_rfl) (by kernel_rfl) (by kernel_rfl) (fun _ _ _ h => h) (by rfl) ?_ (by assumption) ?_
          rotate_left
          · intro w hSw; (try dsimp only at hSw); go_simp; (try with_reducible rfl)
          (try simp only [Act.put, mdR12, List.setIfInBounds_toArray, List.set_cons_zero, List.set_cons_succ])
          refine tkW (v := ?_) 13 mdR13 rfl (by kernel_rfl) (by kernel_rfl) (by kernel_rfl) (fun _ _ _ h => h) (by rfl) ?_ (by assumption) ?_
          rotate_left
          · intro w hSw; (try dsimp only at hSw); go_simp; (try with_reducible rfl)
          (try simp only [Act.put, mdR13, List.setIfInBounds_toArray, List.set_cons_zero, List.set_cons_succ])
          refine tkW (v := ?_) 14 mdR14 rfl (by kernel_rfl) (by kernel_rfl) (by kernel_rfl) (fun _ _ _ h => h) (by rfl) ?_ (by assumption) ?_
          rotate_left
          · intro w hSw; (try dsimp only at hSw); go_simp; (try with_reducible rfl)
          (try simp only [Act.put, mdR14, List.setIfInBounds_toArray, List.set_cons_zero, List.set_cons_succ])
          refine tkE 15 mdR15 rfl (by kernel_rfl) (fun K hK => ?_)
          go_simp
          (refine (XMH.out _).mono ?_; rintro e w' ⟨rfl, kq⟩; have k2 := Kp.trans (show Kp V _ from (by first | assumption | exact Kp.drew _ | exact Kp.refl _)) kq; clear kq)
          (try go_wp2_with fail)
          refine hK.out _ _ ?_ (fun hHeld1 => ?_)
          · (try dsimp only); exact KS.out _ (by first | assumption | exact Kp.drew _ | exact Kp.refl _)
          clear hK K hHeld0
          (try simp only [Act.put, mdR15, List.setIfInBounds_toArray, List.set_cons_zero, List.set_cons_succ])
          refine tkW (v := ?_) 16 mdR16 rfl (by kernel_rfl) (by kernel_rfl) (by kernel_rfl) (fun _ _ _ h => h) (by rfl) ?_ (by assumption) ?_
          rotate_left
          · intro w hSw; (try dsimp only at hSw); go_simp; (try with_reducible rfl)
          (try simp only [Act.put, mdR16, List.setIfInBounds_toArray, List.set_cons_zero, List.set_cons_succ])
          refine tkW (v := ?_) 17 mdR17 rfl (by kernel_rfl) (by kernel_rfl) (by kernel_rfl) (fun _ _ _ h => h) (by rfl) ?_ (by assumption) ?_
          rotate_left
          · intro w hSw; (try dsimp only at hSw); go_simp; (try with_reducible rfl)
          (try simp only [Act.put, mdR17, List.setIfInBounds_toArray, List.set_cons_zero, List.set_cons_succ])
          refine tkW (v := ?_) 18 mdR18 rfl (by kernel_rfl) (by kernel_rfl) (by kernel_rfl) (fun _ _ _ h => h) (by rfl) ?_ (by assumption) ?_
          rotate_left
          · intro w hSw; (try dsimp only at hSw); go_simp; (try with_reducible rfl)
          (try simp only [Act.put, mdR18, List.setIfInBounds_toArray, List.set_cons_zero, List.set_cons_succ])
          refine tkW (v := ?_) 19 mdR19 rfl (by kernel_rfl) (by kernel_rfl) (by kernel_rfl) (fun _ _ _ h => h) (by rfl) ?_ (by assumption) ?_
          rotate_left
          · intro w hSw; (try dsimp only at hSw); go_simp; (try with_reducible rfl)
          (try simp only [Act.put, mdR19, List.setIfInBounds_toArray, List.set_cons_zero, List.set_cons_succ])
          refine tkW (v := ?_) 20 mdR20 rfl (by kernel_rfl) (by kernel_rfl) (by kernel_rfl) (fun _ _ _ h => h) (by rfl) ?_ (by assumption) ?_
          rotate_left
          · intro w hSw; (try dsimp only at hSw); go_simp; (try with_reducible rfl)
          (try simp only [Act.put, mdR20, List.setIfInBounds_toArray, List.set_cons_zero, List.set_cons_succ])
          refine tkW (v := ?_) 21 mdR21 rfl (by kernel_rfl) (by kernel_rfl) (by kernel_rfl) (fun _ _ _ h => h) (by rfl) ?_ (by assumption) ?_
          rotate_left
          · intro w hSw; (try dsimp only at hSw); go_simp; (try with_reducible rfl)
          (try simp only [Act.put, mdR21, List.setIfInBounds_toArray, List.set_cons_zero, List.set_cons_succ])
          refine tkW (v := ?_) 22 mdR22 rfl (by kernel_rfl) (by kernel_rfl) (by kernel_rfl) (fun _ _ _ h => h) (by rfl) ?_ (by assumption) ?_
          rotate_left
          · intro w hSw; (try dsimp only at hSw); go_simp; (try with_reducible rfl)
          (try simp only [Act.put, mdR22, List.setIfInBounds_toArray, List.set_cons_zero, List.set_cons_succ])
          refine tkW (v := ?_) 23 mdR23 rfl (by kernel_rfl) (by kernel_rfl) (by kernel_rfl) (fun _ _ _ h => h) (by rfl) ?_ (by assumption) ?_
          rotate_left
          · intro w hSw; (try dsimp only at hSw); go_simp; (try with_reducible rfl)
          (try simp only [Act.put, mdR23, List.setIfInBounds_toArray, List.set_cons_zero, List.set_cons_succ])
          refine tkW (v := ?_) 24 mdR24 rfl (by kernel_rfl) (by kernel_rfl) (by kernel_rfl) (fun _ _ _ h => h) (by rfl) ?_ (by assumption) ?_
          rotate_left
          · intro w hSw; (try dsimp only at hSw); go_simp; (try with_reducible rfl)
          (try simp only [Act.put, mdR24, List.setIfInBounds_toArray, List.set_cons_zero, List.set_cons_succ])
          refine tkW (v := ?_) 25 mdR25 rfl (by kernel_rfl) (by kernel_rfl) (by kernel_rfl) (fun _ _ _ h => h) (by rfl) ?_ (by assumption) ?_
          rotate_left
          · intro w hSw; (try dsimp only at hSw); go_simp; (try with_reducible rfl)
          (try simp only [Act.put, mdR25, List.setIfInBounds_toArray, List.set_cons_zero, List.set_cons_succ])
          refine tkW (v := ?_) 26 mdR26 rfl (by kernel_rfl) (by kernel_rfl) (by kernel_rfl) (fun _ _ _ h => h) (by rfl) ?_ (by assumption) ?_
          rotate_left
          · intro w hSw; (try dsimp only at hSw); go_simp; (try with_reducible rfl)
          (try simp only [Act.put, mdR26, List.setIfInBounds_toArray, List.set_cons_zero, List.set_cons_succ])
          refine tkE 27 mdR27 rfl (by kernel_rfl) (fun K hK => ?_)
          go_simp
          (refine (YMH.out _ (KV.out.trans (by first | assumption | exact Kp.drew _ | exact Kp.refl _))).mono ?_; rintro e w' ⟨rfl, kq⟩; have k2 := Kp.trans (show Kp V _ from (by first | assumption | exact Kp.drew _ | exact Kp.refl _)) kq; clear kq)
          (try go_wp2_with fail)
          refine hK.out _ _ ?_ (fun hHeld2 => ?_)
          · (try dsimp only); exact KS.out _ (by first | assumption | exact Kp.drew _ | exact Kp.refl _)
          clear hK K hHeld1
          (try simp only [Act.put, mdR27, List.setIfInBounds_toArray, List.set_cons_zero, List.set_cons_succ])
          refine tkW (v := ?_) 28 mdR28 rfl (by kernel_rfl) (by kernel_rfl) (by kernel_rfl) (fun _ _ _ h => h) (by rfl) ?_ (by assumption) ?_
          rotate_left
          · intro w hSw; (try dsimp only at hSw); go_simp; (try with_reducible rfl)
          (try simp only [Act.put, mdR28, List.setIfInBounds_toArray, List.set_cons_zero, List.set_cons_succ])
          refine tkW (v := ?_) 29 mdR29 rfl (by kernel_rfl) (by kernel_rfl) (by kernel_rfl) (fun _ _ _ h => h) (by rfl) ?_ (by assumption) ?_
          rotate_left
          · intro w hSw; (try dsimp only at hSw); go_simp; (try with_reducible rfl)
          (try simp only [Act.put, mdR29, List.setIfInBounds_toArray, List.set_cons_zero, List.set_cons_succ])
          refine tkW (v := ?_) 30 mdR30 rfl (by kernel_rfl) (by kernel_rfl) (by kernel_rfl) (fun _ _ _ h => h) (by rfl) ?_ (by assumption) ?_
          rotate_left
          · intro w hSw; (try dsimp only at hSw); go_simp; (try with_reducible rfl)
          (try simp only [Act.put, mdR30, List.setIfInBounds_toArray, List.set_cons_zero, List.set_cons_succ])
          refine tkW (v := ?_) 31 mdR31 rfl (by kernel_rfl) (by kernel_rfl) (by kernel_rfl) (fun _ _ _ h => h) (by rfl) ?_ (by assumption) ?_
          rotate_left
          · intro w hSw; (try dsimp only at hSw); go_simp; (try with_reducible rfl)
          (try simp only [Act.put, mdR31, List.setIfInBounds_toArray, List.set_cons_zero, List.set_cons_succ])
          refine tkW (v := ?_) 33 mdR33 rfl (by kernel_rfl) (by kernel_rfl) (by kernel_rfl) (fun _ _ _ h => h) (by rfl) ?_ (by assumption) ?_
          rotate_left
          · intro w hSw; (try dsimp only at hSw); go_simp; (try with_reducible rfl)
          (try simp only [Act.put, mdR33, List.setIfInBounds_toArray, List.set_cons_zero, List.set_cons_succ])
          refine tkE 32 mdR32 rfl (by kernel_rfl) (fun K hK => ?_)
          go_simp
          (refine (ZSH.out _ bs (KV.out.trans (by first | assumption | exact Kp.drew _ | exact Kp.refl _)) (NS.out.kp (by first | assumption | exact Kp.drew _ | exact Kp.refl _))).mono ?_; rintro e w' ⟨rfl, kq⟩; have k2 := Kp.trans (show Kp V _ from (by first | assumption | exact Kp.drew _ | exact Kp.refl _)) kq; clear kq)
          (try go_wp2_with fail)
          refine hK.out _ _ ?_ (fun hHeld3 => ?_)
          · (try dsimp only); exact KS.out _ (by first | assumption | exact Kp.drew _ | exact Kp.refl _)
          clear hK K hHeld2
          (try simp only [Act.put, mdR32, List.setIfInBounds_toArray, List.set_cons_zero, List.set_cons_succ])
          refine tkE 34 mdR34 rfl (by kernel_rfl) (fun K hK => ?_)
          go_simp
          (refine (CEH.out _ (KW.out.trans (KV.out.trans (by first | assumption | exact Kp.drew _ | exact Kp.refl _)))).mono ?_; rintro e w' ⟨rfl, kq⟩; have k2 := Kp.trans (show Kp V _ from (by first | assumption | exact Kp.drew _ | exact Kp.refl _)) kq; clear kq)
          (try go_wp2_with fail)
          refine hK.out _ _ ?_ (fun hHeld4 => ?_)
          · (try dsimp only); exact KS.out _ (by first | assumption | exact Kp.drew _ | exact Kp.refl _)
          clear hK K hHeld3
          (try simp only [Act.put, mdR34, List.setIfInBounds_toArray, List.set_cons_zero, List.set_cons_succ])
          refine tkW (v := ?_) 35 mdR35 rfl (by kernel_rfl) (by kernel_rfl) (by kernel_rfl) (fun _ _ _ h => h) (by rfl) ?_ (by assumption) ?_
          rotate_left
          · intro w hSw; (try dsimp only at hSw); go_simp; (try with_reducible rfl)
          (try simp only [Act.put, mdR35, List.setIfInBounds_toArray, List.set_cons_zero, List.set_cons_succ])
          refine tkU 36 mdR36 rfl (by kernel_rfl) (by kernel_rfl) (by kernel_rfl) (fun _ _ _ h => h) (by rfl) (by assumption) ?_
          (try simp only [Act.put, mdR36, List.setIfInBounds_toArray, List.set_cons_zero, List.set_cons_succ])
          refine tkU 37 mdR37 rfl (by kernel_rfl) (by kernel_rfl) (by kernel_rfl) (fun _ _ _ h => h) (by rfl) (by assumption) ?_
          (try simp only [Act.put, mdR37, List.setIfInBounds_toArray, List.set_cons_zero, List.set_cons_succ])
          refine tkU 38 mdR38 rfl (by kernel_rfl) (by kernel_rfl) (by kernel_rfl) (fun _ _ _ h => h) (by rfl) (by assumption) ?_
          (try simp only [Act.put, mdR38, List.setIfInBounds_toArray, List.set_cons_zero, List.set_cons_succ])
          refine tkU 39 mdR39 rfl (by kernel_rfl) (by kernel_rfl) (by kernel_rfl) (fun _ _ _ h => h) (by rfl) (by assumption) ?_
          (try simp only [Act.put, mdR39, List.setIfInBounds_toArray, List.set_cons_zero, List.set_cons_succ])
          refine tkU 40 mdR40 rfl (by kernel_rfl) (by kernel_rfl) (by kernel_rfl) (fun _ _ _ h => h) (by rfl) (by assumption) ?_
          (try simp only [Act.put, mdR40, List.setIfInBounds_toArray, List.set_cons_zero, List.set_cons_succ])
          refine tkW (v := ?_) 41 mdR41 rfl (by kernel_rfl) (by kernel_rfl) (by kernel_rfl) (fun _ _ _ h => h) (by rfl) ?_ (by assumption) ?_
          rotate_left
          · intro w hSw; (try dsimp only at hSw); go_simp; (try with_reducible rfl)
          (try simp only [Act.put, mdR41, List.setIfInBounds_toArray, List.set_cons_zero, List.set_cons_succ])
          refine tkW (v := ?_) 42 mdR42 rfl (by kernel_rfl) (by kernel_rfl) (by kernel_rfl) (fun _ _ _ h => h) (by rfl) ?_ (by assumption) ?_
          rotate_left
          · intro w hSw; (try dsimp only at hSw); go_simp; (try with_reducible rfl)
          (try simp only [Act.put, mdR42, List.setIfInBounds_toArray, List.set_cons_zero, List.set_cons_succ])
          refine tkW (v := ?_) 43 mdR43 rfl (by kernel_rfl) (by kernel_rfl) (by kernel_rfl) (fun _ _ _ h => h) (by rfl) ?_ (by assumption) ?_
          rotate_left
          · intro w hSw; (try dsimp only at hSw); go_simp; (try with_reducible rfl)
          (try simp only [Act.put, mdR43, List.setIfInBounds_toArray, List.set_cons_zero, List.set_cons_succ])
          refine tkW (v := ?_) 44 mdR44 rfl (by kernel_rfl) (by kernel_rfl) (by kernel_rfl) (fun _ _ _ h => h) (by rfl) ?_ (by assumption) ?_
          rotate_left
          · intro w hSw; (try dsimp only at hSw); go_simp; (try with_reducible rfl)
          (try simp only [Act.put, mdR44, List.setIfInBounds_toArray, List.set_cons_zero, List.set_cons_succ])
          refine tkW (v := ?_) 45 mdR45 rfl (by kernel_rfl) (by kernel_rfl) (by kernel_rfl) (fun _ _ _ h => h) (by rfl) ?_ (by assumption) ?_
          rotate_left
          · intro w hSw; (try dsimp only at hSw); go_simp; (try with_reducible rfl)
          (try simp only [Act.put, mdR45, List.setIfInBounds_toArray, List.set_cons_zero, List.set_cons_succ])
          refine tkW (v := ?_) 47 mdR47 rfl (by kernel_rfl) (by kernel_rfl) (by kernel_rfl) (fun _ _ _ h => h) (by rfl) ?_ (by assumption) ?_
          rotate_left
          · intro w hSw; (try dsimp only at hSw); go_simp; (try with_reducible rfl)
          (try simp only [Act.put, mdR47, List.setIfInBounds_toArray, List.set_cons_zero, List.set_cons_succ])
          refine tkW (v := ?_) 48 mdR48 rfl (by kernel_rfl) (by kernel_rfl) (by kernel_rfl) (fun _ _ _ h => h) (by rfl) ?_ (by assumption) ?_
          rotate_left
          · intro w hSw; (try dsimp only at hSw); go_simp; (try with_reducible rfl)
          (try simp only [Act.put, mdR48, List.setIfInBounds_toArray, List.set_cons_zero, List.set_cons_succ])
          refine tkW (v := ?_) 49 mdR49 rfl (by kernel_rfl) (by kernel_rfl) (by kernel_rfl) (fun _ _ _ h => h) (by rfl) ?_ (by assumption) ?_
          rotate_left
          · intro w hSw; (try dsimp only at hSw); go_simp; (try with_reducible rfl)
          (try simp only [Act.put, mdR49, List.setIfInBounds_toArray, List.set_cons_zero, List.set_cons_succ])
          refine tkW (v := ?_) 50 mdR50 rfl (by kernel_rfl) (by kernel_rfl) (by kernel_rfl) (fun _ _ _ h => h) (by rfl) ?_ (by assumption) ?_
          rotate_left
          · intro w hSw; (try dsimp only at hSw); go_simp; (try with_reducible rfl)
          (try simp only [Act.put, mdR50, List.setIfInBounds_toArray, List.set_cons_zero, List.set_cons_succ])
          refine tkE 46 mdR46 rfl (by kernel_rfl) (fun K hK => ?_)
          go_simp
          (refine (ZCH.out _ bs (NS.out.kp (by first | assumption | exact Kp.drew _ | exact Kp.refl _))).mono ?_; rintro e w' ⟨rfl, kq⟩; have k2 := Kp.trans (show Kp V _ from (by first | assumption | exact Kp.drew _ | exact Kp.refl _)) kq; clear kq)
          (try go_wp2_with fail)
          refine hK.out _ _ ?_ (fun hHeld5 => ?_)
          · (try dsimp only); exact KS.out _ (by first | assumption | exact Kp.drew _ | exact Kp.refl _)
          clear hK K hHeld4
          (try simp only [Act.put, mdR46, List.setIfInBounds_toArray, List.set_cons_zero, List.set_cons_succ])
          refine tkE 51 mdR51 rfl (by kernel_rfl) (fun K hK => ?_)
          go_simp
          (refine (YCH.out _ (KV.out.trans (by first | assumption | exact Kp.drew _ | exact Kp.refl _))).mono ?_; rintro e w' ⟨rfl, kq⟩; have k2 := Kp.trans (show Kp V _ from (by first | assumption | exact Kp.drew _ | exact Kp.refl _)) kq; clear kq)
          (try go_wp2_with fail)
          refine hK.out _ _ ?_ (fun hHeld6 => ?_)
          · (try dsimp only); exact KS.out _ (by first | assumption | exact Kp.drew _ | exact Kp.refl _)
          clear hK K hHeld5
          (try simp only [Act.put, mdR51, List.setIfInBounds_toArray, List.set_cons_zero, List.set_cons_succ])
          refine tkW (v := ?_) 52 mdR52 rfl (by kernel_rfl) (by kernel_rfl) (by kernel_rfl) (fun _ _ _ h => h) (by rfl) ?_ (by assumption) ?_
          rotate_left
          · intro w hSw; (try dsimp only at hSw); go_simp; (try with_reducible rfl)
          (try simp only [Act.put, mdR52, List.setIfInBounds_toArray, List.set_cons_zero, List.set_cons_succ])
          refine tkW (v := ?_) 53 mdR53 rfl (by kernel_rfl) (by kernel_rfl) (by kernel_rfl) (fun _ _ _ h => h) (by rfl) ?_ (by assumption) ?_
          rotate_left
          · intro w hSw; (try dsimp only at hSw); go_simp; (try with_reducible rfl)
          (try simp only [Act.put, mdR53, List.setIfInBounds_toArray, List.set_cons_zero, List.set_cons_succ])
          refine tkW (v := ?_) 54 mdR54 rfl (by kernel_rfl) (by kernel_rfl) (by kernel_rfl) (fun _ _ _ h => h) (by rfl) ?_ (by assumption) ?_
          rotate_left
          · intro w hSw; (try dsimp only at hSw); go_simp; (try with_reducible rfl)
          (try simp only [Act.put, mdR54, List.setIfInBounds_toArray, List.set_cons_zero, List.set_cons_succ])
          refine wpAnyH_done (by kernel_rfl) ?_ _
          have KE := Lib.hid (KL.out.trans (KV.out.trans k2))
          clear KS k2
          go_wp2
          go_roundw
          case rel => exact ⟨sb, j + 1, HLT.out, rfl, by go_num, KE, HB2⟩
          case measure => have := HLT.out; simp [intOf]; omega
        · go_simp
          skip
          (try go_wp2_with fail)
          refine hK.out _ _ ?_ (fun hHeld1 => ?_)
          · (try dsimp only); exact KS.out _ (by first | with_reducible exact Kp.refl _ | with_reducible exact Kp.drew _ | with_reducible assumption | with_reducible exact Kp.alloc _ _ | with_reducible exact (Kp.drew _).trans (Kp.alloc _ _) | with_reducible exact Kp.trans k2 (Kp.alloc _ _) | exact (Kp.drew _).trans (Kp.alloc _ _) | exact Kp.trans k2 (Kp.alloc _ _))
          clear hK K hHeld0
          (try simp only [Act.put, mdQ6, List.setIfInBounds_toArray, List.set_cons_zero, List.set_cons_succ])
          refine tkE 5 mdQ5 rfl (by kernel_rfl) (fun K hK => ?_)
          go_simp
          (refine (YBH.out _).mono ?_; rintro e w' ⟨bs, rfl, hbs0, hg16, kq⟩; have k2 := Kp.trans (show Kp w8 _ from (by first | exact Kp.refl _ | exact Kp.drew _ | exact Kp.alloc _ _ | exact (Kp.drew _).trans (Kp.alloc _ _))) kq; have hbk : w'.heap[w8.heap.size]? = some (.cells #[.int .i64 0, .int .i64 0, .string ⟨#[]⟩, .string ⟨#[]⟩, .string ⟨#[]⟩, .bool false, .bool false, .slice none 0 0] 46 (0, 0)) := heap_block kq (heap_at _ _ _ rfl); have hc0 : w'.cell? ⟨w8.heap.size, 0, none⟩ = some (.int .i64 0) := (by simp [World.cell?, hbk]); have hz0 : w'.frozen? ⟨w8.heap.size, 0, none⟩ = false := (by simp [World.frozen?, hbk]); have hc1 : w'.cell? ⟨w8.heap.size, 1, none⟩ = some (.int .i64 0) := (by simp [World.cell?, hbk]); have hz1 : w'.frozen? ⟨w8.heap.size, 1, none⟩ = false := (by simp [World.frozen?, hbk]); have hc2 : w'.cell? ⟨w8.heap.size, 2, none⟩ = some (.string ⟨#[]⟩) := (by simp [World.cell?, hbk]); have hz2 : w'.frozen? ⟨w8.heap.size, 2, none⟩ = false := (by simp [World.frozen?, hbk]); have hc3 : w'.cell? ⟨w8.heap.size, 3, none⟩ = some (.string ⟨#[]⟩) := (by simp [World.cell?, hbk]); have hz3 : w'.frozen? ⟨w8.heap.size, 3, none⟩ = false := (by simp [World.frozen?, hbk]); have hc4 : w'.cell? ⟨w8.heap.size, 4, none⟩ = some (.string ⟨#[]⟩) := (by simp [World.cell?, hbk]); have hz4 : w'.frozen? ⟨w8.heap.size, 4, none⟩ = false := (by simp [World.frozen?, hbk]); have hc5 : w'.cell? ⟨w8.heap.size, 5, none⟩ = some (.bool false) := (by simp [World.cell?, hbk]); have hz5 : w'.frozen? ⟨w8.heap.size, 5, none⟩ = false := (by simp [World.frozen?, hbk]); have hc6 : w'.cell? ⟨w8.heap.size, 6, none⟩ = some (.bool false) := (by simp [World.cell?, hbk]); have hz6 : w'.frozen? ⟨w8.heap.size, 6, none⟩ = false := (by simp [World.frozen?, hbk]); have hc7 : w'.cell? ⟨w8.heap.size, 7, none⟩ = some (.slice none 0 0) := (by simp [World.cell?, hbk]); have hz7 : w'.frozen? ⟨w8.heap.size, 7, none⟩ = false := (by simp [World.frozen?, hbk]); have hbs : w8.heap.size < bs := (by have : (World.alloc w8 (.cells #[.int .i64 0, .int .i64 0, .string ⟨#[]⟩, .string ⟨#[]⟩, .string ⟨#[]⟩, .bool false, .bool false, .slice none 0 0] 46)).heap.size = w8.heap.size + 1 := (by simp); first | omega | (simp at hbs0; omega)))
          (try go_wp2_with fail)
          refine hK.out _ _ ?_ (fun hHeld2 => ?_)
          · (try dsimp only); exact KS.out _ (by first | with_reducible exact Kp.refl _ | with_reducible exact Kp.drew _ | with_reducible assumption | with_reducible exact Kp.alloc _ _ | with_reducible exact (Kp.drew _).trans (Kp.alloc _ _) | with_reducible exact Kp.trans k2 (Kp.alloc _ _) | exact (Kp.drew _).trans (Kp.alloc _ _) | exact Kp.trans k2 (Kp.alloc _ _))
          clear hK K hHeld1
          (try simp only [Act.put, mdQ5, List.setIfInBounds_toArray, List.set_cons_zero, List.set_cons_succ])
          refine tkE 7 mdQ7 rfl (by kernel_rfl) (fun K hK => ?_)
          go_simp
          skip
          (try go_wp2_with fail)
          refine hK.out _ _ ?_ (fun hHeld3 => ?_)
          · (try dsimp only); exact KS.out _ (set8_kp k2 _ (Nat.le_refl _) _ _ _ _ _ _ _ _)
          clear hK K hHeld2
          (try simp only [Act.put, mdQ7, List.setIfInBounds_toArray, List.set_cons_zero, List.set_cons_succ])
          refine wpAnyH_done (by kernel_rfl) ?_ _
          obtain ⟨wu, hwu⟩ : ∃ x : World, x = w' := ⟨_, rfl⟩
          subst hwu
          have ku := k2
          obtain ⟨V, hV⟩ : ∃ x, x = ((((((((wu.setCell ⟨w8.heap.size, 0, none⟩ (.int .i64 1)).setCell ⟨w8.heap.size, 1, none⟩ (.int .i64 0)).setCell ⟨w8.heap.size, 2, none⟩ (.string ⟨#[]⟩)).setCell ⟨w8.heap.size, 3, none⟩ (.string ⟨#[]⟩)).setCell ⟨w8.heap.size, 4, none⟩ (.string ⟨#[]⟩)).setCell ⟨w8.heap.size, 5, none⟩ (.bool false)).setCell ⟨w8.heap.size, 6, none⟩ (.bool false)).setCell ⟨w8.heap.size, 7, none⟩ (.slice (some ⟨bs, 0, none⟩) 2 2)) := ⟨_, rfl⟩
          have kv : Kp w8 V := by rw [hV]; exact set8_kp ku _ (Nat.le_refl _) (.int .i64 1) (.int .i64 0) (.string ⟨#[]⟩) (.string ⟨#[]⟩) (.string ⟨#[]⟩) (.bool false) (.bool false) (.slice (some ⟨bs, 0, none⟩) 2 2)
          have gS : V.heap[w8.heap.size]? = some (.cells #[.int .i64 1, .int .i64 0, .string ⟨#[]⟩, .string ⟨#[]⟩, .string ⟨#[]⟩, .bool false, .bool false, .slice (some ⟨bs, 0, none⟩) 2 2] 46 (0, 0)) := by rw [hV]; exact set8_heap hbk (.int .i64 1) (.int .i64 0) (.string ⟨#[]⟩) (.string ⟨#[]⟩) (.string ⟨#[]⟩) (.bool false) (.bool false) (.slice (some ⟨bs, 0, none⟩) 2 2)
          have g16 : V.heap[bs]? = some (.cells #[.int .i64 0, .int .i64 pk, .string y, .string m, .string q, .bool a, .bool t, .slice none 0 0, .int .i64 k1, .int .i64 pk1, .string y1, .string m1, .string q1, .bool a1, .bool t1, .slice ad1 l1.length cp1] 46 (0, 0)) := by rw [hV]; exact (ps_other (show bs ≠ w8.heap.size by omega) 7 _).trans ((ps_other (show bs ≠ w8.heap.size by omega) 6 _).trans ((ps_other (show bs ≠ w8.heap.size by omega) 5 _).trans ((ps_other (show bs ≠ w8.heap.size by omega) 4 _).trans ((ps_other (show bs ≠ w8.heap.size by omega) 3 _).trans ((ps_other (show bs ≠ w8.heap.size by omega) 2 _).trans ((ps_other (show bs ≠ w8.heap.size by omega) 1 _).trans ((ps_other (show bs ≠ w8.heap.size by omega) 0 _).trans hg16)))))))
          have nS : NodesAt V (.slice (some ⟨bs, 0, none⟩) 2 2) [(.mk 0 ⟨pk, y, m, q⟩ a t [] : ND), (.mk k1 ⟨pk1, y1, m1, q1⟩ a1 t1 l1 : ND)] := pair_nodes (n := (.mk 0 ⟨pk, y, m, q⟩ a t [] : ND)) (m := (.mk k1 ⟨pk1, y1, m1, q1⟩ a1 t1 l1 : ND)) g16 (.none _ _) (SUB.out _ (KW.out.trans (Kp.trans K8.out kv)))
          have NS := Lib.hid nS
          have GS := Lib.hid (fun w1 (qq : Kp V w1) => heap_block qq gS)
          have G16 := Lib.hid (fun w1 (qq : Kp V w1) => row16 (heap_block qq g16))
          have KV := Lib.hid (Kp.trans K8.out kv)
          have RR := Lib.hid (fun w1 (qq : Kp V w1) => And.intro (cell_up (kv.trans qq) r0) (And.intro (cell_up (kv.trans qq) r1) (And.intro (cell_up (kv.trans qq) r2) (And.intro (cell_up (kv.trans qq) r3) (And.intro (cell_up (kv.trans qq) r4) (And.intro (cell_up (kv.trans qq) r5) (And.intro (cell_up (kv.trans qq) r6) (cell_up (kv.trans qq) r7))))))))
          have HV := Lib.hid hV
          clear KS k2 kq ku kv hV gS g16 hg16 nS r0 r1 r2 r3 r4 r5 r6 r7 hbk hbs hc0 hz0 hc1 hz1 hc2 hz2 hc3 hz3 hc4 hz4 hc5 hz5 hc6 hz6 hc7 hz7
          go_wp2_with fail
          rw [← HV.out]
          have KS := Lib.hid (fun w' (qq : Kp V w') => show w'.cell? ⟨w8.heap.size, 0, none⟩ = some (.int .i64 1) ∧ w'.cell? ⟨w8.heap.size, 1, none⟩ = some (.int .i64 0) ∧ w'.cell? ⟨w8.heap.size, 2, none⟩ = some (.string ⟨#[]⟩) ∧ w'.cell? ⟨w8.heap.size, 3, none⟩ = some (.string ⟨#[]⟩) ∧ w'.cell? ⟨w8.heap.size, 4, none⟩ = some (.string ⟨#[]⟩) ∧ w'.cell? ⟨w8.heap.size, 5, none⟩ = some (.bool false) ∧ w'.cell? ⟨w8.heap.size, 6, none⟩ = some (.bool false) ∧ w'.cell? ⟨w8.heap.size, 7, none⟩ = some (.slice (some ⟨bs, 0, none⟩) 2 2) ∧ w'.cell? ⟨bs, 0, none⟩ = some (.int .i64 0) ∧ w'.cell? ⟨bs, 1, none⟩ = some (.int .i64 pk) ∧ w'.cell? ⟨bs, 2, none⟩ = some (.string y) ∧ w'.cell? ⟨bs, 3, none⟩ = some (.string m) ∧ w'.cell? ⟨bs, 4, none⟩ = some (.string q) ∧ w'.cell? ⟨bs, 5, none⟩ = some (.bool a) ∧ w'.cell? ⟨bs, 6, none⟩ = some (.bool t) ∧ w'.cell? ⟨bs, 7, none⟩ = some (.slice none 0 0) ∧ w'.cell? ⟨bs, 8, none⟩ = some (.int .i64 k1) ∧ w'.cell? ⟨bs, 9, none⟩ = some (.int .i64 pk1) ∧ w'.cell? ⟨bs, 10, none⟩ = some (.string y1) ∧ w'.cell? ⟨bs, 11, none⟩ = some (.string m1) ∧ w'.cell? ⟨bs, 12, none⟩ = some (.string q1) ∧ w'.cell? ⟨bs, 13, none⟩ = some (.bool a1) ∧ w'.cell? ⟨bs, 14, none⟩ = some (.bool t1) ∧ w'.cell? ⟨bs, 15, none⟩ = some (.slice ad1 l1.length cp1) ∧ w'.cell? ⟨w3.heap.size, 0, none⟩ = some (.int .i64 0) ∧ w'.cell? ⟨w3.heap.size, 1, none⟩ = some (.int .i64 pk) ∧ w'.cell? ⟨w3.heap.size, 2, none⟩ = some (.string y) ∧ w'.cell? ⟨w3.heap.size, 3, none⟩ = some (.string m) ∧ w'.cell? ⟨w3.heap.size, 4, none⟩ = some (.string q) ∧ w'.cell? ⟨w3.heap.size, 5, none⟩ = some (.bool a) ∧ w'.cell? ⟨w3.heap.size, 6, none⟩ = some (.bool t) ∧ w'.cell? ⟨w3.heap.size, 7, none⟩ = some (.slice none 0 0) ∧ w'.cell? ⟨bk, of + j * 8, none⟩ = some (.int .i64 k1) ∧ w'.cell? ⟨bk, of + j * 8 + 1, none⟩ = some (.int .i64 pk1) ∧ w'.cell? ⟨bk, of + j * 8 + 2, none⟩ = some (.string y1) ∧ w'.cell? ⟨bk, of + j * 8 + 3, none⟩ = some (.string m1) ∧ w'.cell? ⟨bk, of + j * 8 + 4, none⟩ = some (.string q1) ∧ w'.cell? ⟨bk, of + j * 8 + 5, none⟩ = some (.bool a1) ∧ w'.cell? ⟨bk, of + j * 8 + 6, none⟩ = some (.bool t1) ∧ w'.cell? ⟨bk, of + j * 8 + 7, none⟩ = some (.slice ad1 l1.length cp1) ∧ Kp V w' from ⟨(row8 (GS.out _ qq)).1, (row8 (GS.out _ qq)).2.1, (row8 (GS.out _ qq)).2.2.1, (row8 (GS.out _ qq)).2.2.2.1, (row8 (GS.out _ qq)).2.2.2.2.1, (row8 (GS.out _ qq)).2.2.2.2.2.1, (row8 (GS.out _ qq)).2.2.2.2.2.2.1, (row8 (GS.out _ qq)).2.2.2.2.2.2.2, (G16.out _ qq).1, (G16.out _ qq).2.1, (G16.out _ qq).2.2.1, (G16.out _ qq).2.2.2.1, (G16.out _ qq).2.2.2.2.1, (G16.out _ qq).2.2.2.2.2.1, (G16.out _ qq).2.2.2.2.2.2.1, (G16.out _ qq).2.2.2.2.2.2.2.1, (G16.out _ qq).2.2.2.2.2.2.2.2.1, (G16.out _ qq).2.2.2.2.2.2.2.2.2.1, (G16.out _ qq).2.2.2.2.2.2.2.2.2.2.1, (G16.out _ qq).2.2.2.2.2.2.2.2.2.2.2.1, (G16.out _ qq).2.2.2.2.2.2.2.2.2.2.2.2.1, (G16.out _ qq).2.2.2.2.2.2.2.2.2.2.2.2.2.1, (G16.out _ qq).2.2.2.2.2.2.2.2.2.2.2.2.2.2.1, (G16.out _ qq).2.2.2.2.2.2.2.2.2.2.2.2.2.2.2, (row8 (GX.out _ ((J7.out.trans (KL.out.trans KV.out)).trans qq))).1, (row8 (GX.out _ ((J7.out.trans (KL.out.trans KV.out)).trans qq))).2.1, (row8 (GX.out _ ((J7.out.trans (KL.out.trans KV.out)).trans qq))).2.2.1, (row8 (GX.out _ ((J7.out.trans (KL.out.trans KV.out)).trans qq))).2.2.2.1, (row8 (GX.out _ ((J7.out.trans (KL.out.trans KV.out)).trans qq))).2.2.2.2.1, (row8 (GX.out _ ((J7.out.trans (KL.out.trans KV.out)).trans qq))).2.2.2.2.2.1, (row8 (GX.out _ ((J7.out.trans (KL.out.trans KV.out)).trans qq))).2.2.2.2.2.2.1, (row8 (GX.out _ ((J7.out.trans (KL.out.trans KV.out)).trans qq))).2.2.2.2.2.2.2, (RR.out _ qq).1, (RR.out _ qq).2.1, (RR.out _ qq).2.2.1, (RR.out _ qq).2.2.2.1, (RR.out _ qq).2.2.2.2.1, (RR.out _ qq).2.2.2.2.2.1, (RR.out _ qq).2.2.2.2.2.2.1, (RR.out _ qq).2.2.2.2.2.2.2, qq⟩)
          refine wp_region_held_drew (S := fun w' => w'.cell? ⟨w8.heap.size, 0, none⟩ = some (.int .i64 1) ∧ w'.cell? ⟨w8.heap.size, 1, none⟩ = some (.int .i64 0) ∧ w'.cell? ⟨w8.heap.size, 2, none⟩ = some (.string ⟨#[]⟩) ∧ w'.cell? ⟨w8.heap.size, 3, none⟩ = some (.string ⟨#[]⟩) ∧ w'.cell? ⟨w8.heap.size, 4, none⟩ = some (.string ⟨#[]⟩) ∧ w'.cell? ⟨w8.heap.size, 5, none⟩ = some (.bool false) ∧ w'.cell? ⟨w8.heap.size, 6, none⟩ = some (.bool false) ∧ w'.cell? ⟨w8.heap.size, 7, none⟩ = some (.slice (some ⟨bs, 0, none⟩) 2 2) ∧ w'.cell? ⟨bs, 0, none⟩ = some (.int .i64 0) ∧ w'.cell? ⟨bs, 1, none⟩ = some (.int .i64 pk) ∧ w'.cell? ⟨bs, 2, none⟩ = some (.string y) ∧ w'.cell? ⟨bs, 3, none⟩ = some (.string m) ∧ w'.cell? ⟨bs, 4, none⟩ = some (.string q) ∧ w'.cell? ⟨bs, 5, none⟩ = some (.bool a) ∧ w'.cell? ⟨bs, 6, none⟩ = some (.bool t) ∧ w'.cell? ⟨bs, 7, none⟩ = some (.slice none 0 0) ∧ w'.cell? ⟨bs, 8, none⟩ = some (.int .i64 k1) ∧ w'.cell? ⟨bs, 9, none⟩ = some (.int .i64 pk1) ∧ w'.cell? ⟨bs, 10, none⟩ = some (.string y1) ∧ w'.cell? ⟨bs, 11, none⟩ = some (.string m1) ∧ w'.cell? ⟨bs, 12, none⟩ = some (.string q1) ∧ w'.cell? ⟨bs, 13, none⟩ = some (.bool a1) ∧ w'.cell? ⟨bs, 14, none⟩ = some (.bool t1) ∧ w'.cell? ⟨bs, 15, none⟩ = some (.slice ad1 l1.length cp1) ∧ w'.cell? ⟨w3.heap.size, 0, none⟩ = some (.int .i64 0) ∧ w'.cell? ⟨w3.heap.size, 1, none⟩ = some (.int .i64 pk) ∧ w'.cell? ⟨w3.heap.size, 2, none⟩ = some (.string y) ∧ w'.cell? ⟨w3.heap.size, 3, none⟩ = some (.string m) ∧ w'.cell? ⟨w3.heap.size, 4, none⟩ = some (.string q) ∧ w'.cell? ⟨w3.heap.size, 5, none⟩ = some (.bool a) ∧ w'.cell? ⟨w3.heap.size, 6, none⟩ = some (.bool t) ∧ w'.cell? ⟨w3.heap.size, 7, none⟩ = some (.slice none 0 0) ∧ w'.cell? ⟨bk, of + j * 8, none⟩ = some (.int .i64 k1) ∧ w'.cell? ⟨bk, of + j * 8 + 1, none⟩ = some (.int .i64 pk1) ∧ w'.cell? ⟨bk, of + j * 8 + 2, none⟩ = some (.string y1) ∧ w'.cell? ⟨bk, of + j * 8 + 3, none⟩ = some (.string m1) ∧ w'.cell? ⟨bk, of + j * 8 + 4, none⟩ = some (.string q1) ∧ w'.cell? ⟨bk, of + j * 8 + 5, none⟩ = some (.bool a1) ∧ w'.cell? ⟨bk, of + j * 8 + 6, none⟩ = some (.bool t1) ∧ w'.cell? ⟨bk, of + j * 8 + 7, none⟩ = some (.slice ad1 l1.length cp1) ∧ Kp V w') (by kernel_rfl) ?_ (fun hHeld0 => ?_)
          · (try dsimp only); exact KS.out _ (by first | assumption | exact Kp.drew _ | exact Kp.refl _)
          refine tkW (v := ?_) 0 mdR0 rfl (by kernel_rfl) (by kernel_rfl) (by kernel_rfl) (fun _ _ _ h => h) (by rfl) ?_ (by assumption) ?_
          rotate_left
          · intro w hSw; (try dsimp only at hSw); go_simp; (try with_reducible rfl)
          (try simp only [Act.put, mdR0, List.setIfInBounds_toArray, List.set_cons_zero, List.set_cons_succ])
          refine tkW (v := ?_) 1 mdR1 rfl (by kernel_rfl) (by kernel_rfl) (by kernel_rfl) (fun _ _ _ h => h) (by rfl) ?_ (by assumption) ?_
          rotate_left
          · intro w hSw; (try dsimp only at hSw); go_simp; (try with_reducible rfl)
          (try simp only [Act.put, mdR1, List.setIfInBounds_toArray, List.set_cons_zero, List.set_cons_succ])
          refine tkW (v := ?_) 2 mdR2 rfl (by kernel_rfl) (by kernel_rfl) (by kernel_rfl) (fun _ _ _ h => h) (by rfl) ?_ (by assumption) ?_
          rotate_left
          · intro w hSw; (try dsimp only at hSw); go_simp; (try with_reducible rfl)
          (try simp only [Act.put, mdR2, List.setIfInBounds_toArray, List.set_cons_zero, List.set_cons_succ])
          refine tkW (v := ?_) 3 mdR3 rfl (by kernel_rfl) (by kernel_rfl) (by kernel_rfl) (fun _ _ _ h => h) (by rfl) ?_ (by assumption) ?_
          rotate_left
          · intro w hSw; (try dsimp only at hSw); go_simp; (try with_reducible rfl)
          (try simp only [Act.put, mdR3, List.setIfInBounds_toArray, List.set_cons_zero, List.set_cons_succ])
          refine tkW (v := ?_) 4 mdR4 rfl (by kernel_rfl) (by kernel_rfl) (by kernel_rfl) (fun _ _ _ h => h) (by rfl) ?_ (by assumption) ?_
          rotate_left
          · intro w hSw; (try dsimp only at hSw); go_simp; (try with_reducible rfl)
          (try simp only [Act.put, mdR4, List.setIfInBounds_toArray, List.set_cons_zero, List.set_cons_succ])
          refine tkW (v := ?_) 5 mdR5 rfl (by kernel_rfl) (by kernel_rfl) (by kernel_rfl) (fun _ _ _ h => h) (by rfl) ?_ (by assumption) ?_
          rotate_left
          · intro w hSw; (try dsimp only at hSw); go_simp; (try with_reducible rfl)
          (try simp only [Act.put, mdR5, List.setIfInBounds_toArray, List.set_cons_zero, List.set_cons_succ])
          refine tkW (v := ?_) 6 mdR6 rfl (by kernel_rfl) (by kernel_rfl) (by kernel_rfl) (fun _ _ _ h => h) (by rfl) ?_ (by assumption) ?_
          rotate_left
          · intro w hSw; (try dsimp only at hSw); go_simp; (try with_reducible rfl)
          (try simp only [Act.put, mdR6, List.setIfInBounds_toArray, List.set_cons_zero, List.set_cons_succ])
          refine tkW (v := ?_) 7 mdR7 rfl (by kernel_rfl) (by kernel_rfl) (by kernel_rfl) (fun _ _ _ h => h) (by rfl) ?_ (by assumption) ?_
          rotate_left
          · intro w hSw; (try dsimp only at hSw); go_simp; (try with_reducible rfl)
          (try simp only [Act.put, mdR7, List.setIfInBounds_toArray, List.set_cons_zero, List.set_cons_succ])
          refine tkW (v := ?_) 8 mdR8 rfl (by kernel_rfl) (by kernel_rfl) (by kernel_rfl) (fun _ _ _ h => h) (by rfl) ?_ (by assumption) ?_
          rotate_left
          · intro w hSw; (try dsimp only at hSw); go_simp; (try with_reducible rfl)
          (try simp only [Act.put, mdR8, List.setIfInBounds_toArray, List.set_cons_zero, List.set_cons_succ])
          refine tkW (v := ?_) 9 mdR9 rfl (by kernel_rfl) (by kernel_rfl) (by kernel_rfl) (fun _ _ _ h => h) (by rfl) ?_ (by assumption) ?_
          rotate_left
          · intro w hSw; (try dsimp only at hSw); go_simp; (try with_reducible rfl)
          (try simp only [Act.put, mdR9, List.setIfInBounds_toArray, List.set_cons_zero, List.set_cons_succ])
          refine tkW (v := ?_) 10 mdR10 rfl (by kernel_rfl) (by kernel_rfl) (by kernel_rfl) (fun _ _ _ h => h) (by rfl) ?_ (by assumption) ?_
          rotate_left
          · intro w hSw; (try dsimp only at hSw); go_simp; (try with_reducible rfl)
          (try simp only [Act.put, mdR10, List.setIfInBounds_toArray, List.set_cons_zero, List.set_cons_succ])
          refine tkW (v := ?_) 11 mdR11 rfl (by kernel_rfl) (by kernel_rfl) (by kernel_rfl) (fun _ _ _ h => h) (by rfl) ?_ (by assumption) ?_
          rotate_left
          · intro w hSw; (try dsimp only at hSw); go_simp; (try with_reducible rfl)
          (try simp only [Act.put, mdR11, List.setIfInBounds_toArray, List.set_cons_zero, List.set_cons_succ])
          refine tkW (v := ?_) 12 mdR12 rfl (by kernel_rfl) (by kernel_rfl) (by kernel_rfl) (fun _ _ _ h => h) (by rfl) ?_ (by assumption) ?_
          rotate_left
          · intro w hSw; (try dsimp only at hSw); go_simp; (try with_reducible rfl)
          (try simp only [Act.put, mdR12, List.setIfInBounds_toArray, List.set_cons_zero, List.set_cons_succ])
          refine tkW (v := ?_) 13 mdR13 rfl (by kernel_rfl) (by kernel_rfl) (by kernel_rfl) (fun _ _ _ h => h) (by rfl) ?_ (by assumption) ?_
          rotate_left
          · intro w hSw; (try dsimp only at hSw); go_simp; (try with_reducible rfl)
          (try simp only [Act.put, mdR13, List.setIfInBounds_toArray, List.set_cons_zero, List.set_cons_succ])
          refine tkW (v := ?_) 14 mdR14 rfl (by kernel_rfl) (by kernel_rfl) (by kernel_rfl) (fun _ _ _ h => h) (by rfl) ?_ (by assumption) ?_
          rotate_left
          · intro w hSw; (try dsimp only at hSw); go_simp; (try with_reducible rfl)
          (try simp only [Act.put, mdR14, List.setIfInBounds_toArray, List.set_cons_zero, List.set_cons_succ])
          refine tkE 15 mdR15 rfl (by kernel_rfl) (fun K hK => ?_)
          go_simp
          (refine (XMH.out _).mono ?_; rintro e w' ⟨rfl, kq⟩; have k2 := Kp.trans (show Kp V _ from (by first | assumption | exact Kp.drew _ | exact Kp.refl _)) kq; clear kq)
          (try go_wp2_with fail)
          refine hK.out _ _ ?_ (fun hHeld1 => ?_)
          · (try dsimp only); exact KS.out _ (by first | assumption | exact Kp.drew _ | exact Kp.refl _)
          clear hK K hHeld0
          (try simp only [Act.put, mdR15, List.setIfInBounds_toArray, List.set_cons_zero, List.set_cons_succ])
          refine tkW (v := ?_) 16 mdR16 rfl (by kernel_rfl) (by kernel_rfl) (by kernel_rfl) (fun _ _ _ h => h) (by rfl) ?_ (by assumption) ?_
          rotate_left
          · intro w hSw; (try dsimp only at hSw); go_simp; (try with_reducible rfl)
          (try simp only [Act.put, mdR16, List.setIfInBounds_toArray, List.set_cons_zero, List.set_cons_succ])
          refine tkW (v := ?_) 17 mdR17 rfl (by kernel_rfl) (by kernel_rfl) (by kernel_rfl) (fun _ _ _ h => h) (by rfl) ?_ (by assumption) ?_
          rotate_left
          · intro w hSw; (try dsimp only at hSw); go_simp; (try with_reducible rfl)
          (try simp only [Act.put, mdR17, List.setIfInBounds_toArray, List.set_cons_zero, List.set_cons_succ])
          refine tkW (v := ?_) 18 mdR18 rfl (by kernel_rfl) (by kernel_rfl) (by kernel_rfl) (fun _ _ _ h => h) (by rfl) ?_ (by assumption) ?_
          rotate_left
          · intro w hSw; (try dsimp only at hSw); go_simp; (try with_reducible rfl)
          (try simp only [Act.put, mdR18, List.setIfInBounds_toArray, List.set_cons_zero, List.set_cons_succ])
          refine tkW (v := ?_) 19 mdR19 rfl (by kernel_rfl) (by kernel_rfl) (by kernel_rfl) (fun _ _ _ h => h) (by rfl) ?_ (by assumption) ?_
          rotate_left
          · intro w hSw; (try dsimp only at hSw); go_simp; (try with_reducible rfl)
          (try simp only [Act.put, mdR19, List.setIfInBounds_toArray, List.set_cons_zero, List.set_cons_succ])
          refine tkW (v := ?_) 20 mdR20 rfl (by kernel_rfl) (by kernel_rfl) (by kernel_rfl) (fun _ _ _ h => h) (by rfl) ?_ (by assumption) ?_
          rotate_left
          · intro w hSw; (try dsimp only at hSw); go_simp; (try with_reducible rfl)
          (try simp only [Act.put, mdR20, List.setIfInBounds_toArray, List.set_cons_zero, List.set_cons_succ])
          refine tkW (v := ?_) 21 mdR21 rfl (by kernel_rfl) (by kernel_rfl) (by kernel_rfl) (fun _ _ _ h => h) (by rfl) ?_ (by assumption) ?_
          rotate_left
          · intro w hSw; (try dsimp only at hSw); go_simp; (try with_reducible rfl)
          (try simp only [Act.put, mdR21, List.setIfInBounds_toArray, List.set_cons_zero, List.set_cons_succ])
          refine tkW (v := ?_) 22 mdR22 rfl (by kernel_rfl) (by kernel_rfl) (by kernel_rfl) (fun _ _ _ h => h) (by rfl) ?_ (by assumption) ?_
          rotate_left
          · intro w hSw; (try dsimp only at hSw); go_simp; (try with_reducible rfl)
          (try simp only [Act.put, mdR22, List.setIfInBounds_toArray, List.set_cons_zero, List.set_cons_succ])
          refine tkW (v := ?_) 23 mdR23 rfl (by kernel_rfl) (by kernel_rfl) (by kernel_rfl) (fun _ _ _ h => h) (by rfl) ?_ (by assumption) ?_
          rotate_left
          · intro w hSw; (try dsimp only at hSw); go_simp; (try with_reducible rfl)
          (try simp only [Act.put, mdR23, List.setIfInBounds_toArray, List.set_cons_zero, List.set_cons_succ])
          refine tkW (v := ?_) 24 mdR24 rfl (by kernel_rfl) (by kernel_rfl) (by kernel_rfl) (fun _ _ _ h => h) (by rfl) ?_ (by assumption) ?_
          rotate_left
          · intro w hSw; (try dsimp only at hSw); go_simp; (try with_reducible rfl)
          (try simp only [Act.put, mdR24, List.setIfInBounds_toArray, List.set_cons_zero, List.set_cons_succ])
          refine tkW (v := ?_) 25 mdR25 rfl (by kernel_rfl) (by kernel_rfl) (by kernel_rfl) (fun _ _ _ h => h) (by rfl) ?_ (by assumption) ?_
          rotate_left
          · intro w hSw; (try dsimp only at hSw); go_simp; (try with_reducible rfl)
          (try simp only [Act.put, mdR25, List.setIfInBounds_toArray, List.set_cons_zero, List.set_cons_succ])
          refine tkW (v := ?_) 26 mdR26 rfl (by kernel_rfl) (by kernel_rfl) (by kernel_rfl) (fun _ _ _ h => h) (by rfl) ?_ (by assumption) ?_
          rotate_left
          · intro w hSw; (try dsimp only at hSw); go_simp; (try with_reducible rfl)
          (try simp only [Act.put, mdR26, List.setIfInBounds_toArray, List.set_cons_zero, List.set_cons_succ])
          refine tkE 27 mdR27 rfl (by kernel_rfl) (fun K hK => ?_)
          go_simp
          (refine (YMH.out _ (KV.out.trans (by first | assumption | exact Kp.drew _ | exact Kp.refl _))).mono ?_; rintro e w' ⟨rfl, kq⟩; have k2 := Kp.trans (show Kp V _ from (by first | assumption | exact Kp.drew _ | exact Kp.refl _)) kq; clear kq)
          (try go_wp2_with fail)
          refine hK.out _ _ ?_ (fun hHeld2 => ?_)
          · (try dsimp only); exact KS.out _ (by first | assumption | exact Kp.drew _ | exact Kp.refl _)
          clear hK K hHeld1
          (try simp only [Act.put, mdR27, List.setIfInBounds_toArray, List.set_cons_zero, List.set_cons_succ])
          refine tkW (v := ?_) 28 mdR28 rfl (by kernel_rfl) (by kernel_rfl) (by kernel_rfl) (fun _ _ _ h => h) (by rfl) ?_ (by assumption) ?_
          rotate_left
          · intro w hSw; (try dsimp only at hSw); go_simp; (try with_reducible rfl)
          (try simp only [Act.put, mdR28, List.setIfInBounds_toArray, List.set_cons_zero, List.set_cons_succ])
          refine tkW (v := ?_) 29 mdR29 rfl (by kernel_rfl) (by kernel_rfl) (by kernel_rfl) (fun _ _ _ h => h) (by rfl) ?_ (by assumption) ?_
          rotate_left
          · intro w hSw; (try dsimp only at hSw); go_simp; (try with_reducible rfl)
          (try simp only [Act.put, mdR29, List.setIfInBounds_toArray, List.set_cons_zero, List.set_cons_succ])
          refine tkW (v := ?_) 30 mdR30 rfl (by kernel_rfl) (by kernel_rfl) (by kernel_rfl) (fun _ _ _ h => h) (by rfl) ?_ (by assumption) ?_
          rotate_left
          · intro w hSw; (try dsimp only at hSw); go_simp; (try with_reducible rfl)
          (try simp only [Act.put, mdR30, List.setIfInBounds_toArray, List.set_cons_zero, List.set_cons_succ])
          refine tkW (v := ?_) 31 mdR31 rfl (by kernel_rfl) (by kernel_rfl) (by kernel_rfl) (fun _ _ _ h => h) (by rfl) ?_ (by assumption) ?_
          rotate_left
          · intro w hSw; (try dsimp only at hSw); go_simp; (try with_reducible rfl)
          (try simp only [Act.put, mdR31, List.setIfInBounds_toArray, List.set_cons_zero, List.set_cons_succ])
          refine tkW (v := ?_) 33 mdR33 rfl (by kernel_rfl) (by kernel_rfl) (by kernel_rfl) (fun _ _ _ h => h) (by rfl) ?_ (by assumption) ?_
          rotate_left
          · intro w hSw; (try dsimp only at hSw); go_simp; (try with_reducible rfl)
          (try simp only [Act.put, mdR33, List.setIfInBounds_toArray, List.set_cons_zero, List.set_cons_succ])
          refine tkE 32 mdR32 rfl (by kernel_rfl) (fun K hK => ?_)
          go_simp
          (refine (ZSH.out _ bs (KV.out.trans (by first | assumption | exact Kp.drew _ | exact Kp.refl _)) (NS.out.kp (by first | assumption | exact Kp.drew _ | exact Kp.refl _))).mono ?_; rintro e w' ⟨rfl, kq⟩; have k2 := Kp.trans (show Kp V _ from (by first | assumption | exact Kp.drew _ | exact Kp.refl _)) kq; clear kq)
          (try go_wp2_with fail)
          refine hK.out _ _ ?_ (fun hHeld3 => ?_)
          · (try dsimp only); exact KS.out _ (by first | assumption | exact Kp.drew _ | exact Kp.refl _)
          clear hK K hHeld2
          (try simp only [Act.put, mdR32, List.setIfInBounds_toArray, List.set_cons_zero, List.set_cons_succ])
          refine tkE 34 mdR34 rfl (by kernel_rfl) (fun K hK => ?_)
          go_simp
          (refine (CEH.out _ (KW.out.trans (KV.out.trans (by first | assumption | exact Kp.drew _ | exact Kp.refl _)))).mono ?_; rintro e w' ⟨rfl, kq⟩; have k2 := Kp.trans (show Kp V _ from (by first | assumption | exact Kp.drew _ | exact Kp.refl _)) kq; clear kq)
          (try go_wp2_with fail)
          refine hK.out _ _ ?_ (fun hHeld4 => ?_)
          · (try dsimp only); exact KS.out _ (by first | assumption | exact Kp.drew _ | exact Kp.refl _)
          clear hK K hHeld3
          (try simp only [Act.put, mdR34, List.setIfInBounds_toArray, List.set_cons_zero, List.set_cons_succ])
          refine tkW (v := ?_) 35 mdR35 rfl (by kernel_rfl) (by kernel_rfl) (by kernel_rfl) (fun _ _ _ h => h) (by rfl) ?_ (by assumption) ?_
          rotate_left
          · intro w hSw; (try dsimp only at hSw); go_simp; (try with_reducible rfl)
          (try simp only [Act.put, mdR35, List.setIfInBounds_toArray, List.set_cons_zero, List.set_cons_succ])
          refine tkU 36 mdR36 rfl (by kernel_rfl) (by kernel_rfl) (by kernel_rfl) (fun _ _ _ h => h) (by rfl) (by assumption) ?_
          (try simp only [Act.put, mdR36, List.setIfInBounds_toArray, List.set_cons_zero, List.set_cons_succ])
          refine tkU 37 mdR37 rfl (by kernel_rfl) (by kernel_rfl) (by kernel_rfl) (fun _ _ _ h => h) (by rfl) (by assumption) ?_
          (try simp only [Act.put, mdR37, List.setIfInBounds_toArray, List.set_cons_zero, List.set_cons_succ])
          refine tkU 38 mdR38 rfl (by kernel_rfl) (by kernel_rfl) (by kernel_rfl) (fun _ _ _ h => h) (by rfl) (by assumption) ?_
          (try simp only [Act.put, mdR38, List.setIfInBounds_toArray, List.set_cons_zero, List.set_cons_succ])
          refine tkU 39 mdR39 rfl (by kernel_rfl) (by kernel_rfl) (by kernel_rfl) (fun _ _ _ h => h) (by rfl) (by assumption) ?_
          (try simp only [Act.put, mdR39, List.setIfInBounds_toArray, List.set_cons_zero, List.set_cons_succ])
          refine tkU 40 mdR40 rfl (by kernel_rfl) (by kernel_rfl) (by kernel_rfl) (fun _ _ _ h => h) (by rfl) (by assumption) ?_
          (try simp only [Act.put, mdR40, List.setIfInBounds_toArray, List.set_cons_zero, List.set_cons_succ])
          refine tkW (v := ?_) 41 mdR41 rfl (by kernel_rfl) (by kernel_rfl) (by kernel_rfl) (fun _ _ _ h => h) (by rfl) ?_ (by assumption) ?_
          rotate_left
          · intro w hSw; (try dsimp only at hSw); go_simp; (try with_reducible rfl)
          (try simp only [Act.put, mdR41, List.setIfInBounds_toArray, List.set_cons_zero, List.set_cons_succ])
          refine tkW (v := ?_) 42 mdR42 rfl (by kernel_rfl) (by kernel_rfl) (by kernel_rfl) (fun _ _ _ h => h) (by rfl) ?_ (by assumption) ?_
          rotate_left
          · intro w hSw; (try dsimp only at hSw); go_simp; (try with_reducible rfl)
          (try simp only [Act.put, mdR42, List.setIfInBounds_toArray, List.set_cons_zero, List.set_cons_succ])
          refine tkW (v := ?_) 43 mdR43 rfl (by kernel_rfl) (by kernel_rfl) (by kernel_rfl) (fun _ _ _ h => h) (by rfl) ?_ (by assumption) ?_
          rotate_left
          · intro w hSw; (try dsimp only at hSw); go_simp; (try with_reducible rfl)
          (try simp only [Act.put, mdR43, List.setIfInBounds_toArray, List.set_cons_zero, List.set_cons_succ])
          refine tkW (v := ?_) 44 mdR44 rfl (by kernel_rfl) (by kernel_rfl) (by kernel_rfl) (fun _ _ _ h => h) (by rfl) ?_ (by assumption) ?_
          rotate_left
          · intro w hSw; (try dsimp only at hSw); go_simp; (try with_reducible rfl)
          (try simp only [Act.put, mdR44, List.setIfInBounds_toArray, List.set_cons_zero, List.set_cons_succ])
          refine tkW (v := ?_) 45 mdR45 rfl (by kernel_rfl) (by kernel_rfl) (by kernel_rfl) (fun _ _ _ h => h) (by rfl) ?_ (by assumption) ?_
          rotate_left
          · intro w hSw; (try dsimp only at hSw); go_simp; (try with_reducible rfl)
          (try simp only [Act.put, mdR45, List.setIfInBounds_toArray, List.set_cons_zero, List.set_cons_succ])
          refine tkW (v := ?_) 47 mdR47 rfl (by kernel_rfl) (by kernel_rfl) (by kernel_rfl) (fun _ _ _ h => h) (by rfl) ?_ (by assumption) ?_
          rotate_left
          · intro w hSw; (try dsimp only at hSw); go_simp; (try with_reducible rfl)
          (try simp only [Act.put, mdR47, List.setIfInBounds_toArray, List.set_cons_zero, List.set_cons_succ])
          refine tkW (v := ?_) 48 mdR48 rfl (by kernel_rfl) (by kernel_rfl) (by kernel_rfl) (fun _ _ _ h => h) (by rfl) ?_ (by assumption) ?_
          rotate_left
          · intro w hSw; (try dsimp only at hSw); go_simp; (try with_reducible rfl)
          (try simp only [Act.put, mdR48, List.setIfInBounds_toArray, List.set_cons_zero, List.set_cons_succ])
          refine tkW (v := ?_) 49 mdR49 rfl (by kernel_rfl) (by kernel_rfl) (by kernel_rfl) (fun _ _ _ h => h) (by rfl) ?_ (by assumption) ?_
          rotate_left
          · intro w hSw; (try dsimp only at hSw); go_simp; (try with_reducible rfl)
          (try simp only [Act.put, mdR49, List.setIfInBounds_toArray, List.set_cons_zero, List.set_cons_succ])
          refine tkW (v := ?_) 50 mdR50 rfl (by kernel_rfl) (by kernel_rfl) (by kernel_rfl) (fun _ _ _ h => h) (by rfl) ?_ (by assumption) ?_
          rotate_left
          · intro w hSw; (try dsimp only at hSw); go_simp; (try with_reducible rfl)
          (try simp only [Act.put, mdR50, List.setIfInBounds_toArray, List.set_cons_zero, List.set_cons_succ])
          refine tkE 46 mdR46 rfl (by kernel_rfl) (fun K hK => ?_)
          go_simp
          (refine (ZCH.out _ bs (NS.out.kp (by first | assumption | exact Kp.drew _ | exact Kp.refl _))).mono ?_; rintro e w' ⟨rfl, kq⟩; have k2 := Kp.trans (show Kp V _ from (by first | assumption | exact Kp.drew _ | exact Kp.refl _)) kq; clear kq)
          (try go_wp2_with fail)
          refine hK.out _ _ ?_ (fun hHeld5 => ?_)
          · (try dsimp only); exact KS.out _ (by first | assumption | exact Kp.drew _ | exact Kp.refl _)
          clear hK K hHeld4
          (try simp only [Act.put, mdR46, List.setIfInBounds_toArray, List.set_cons_zero, List.set_cons_succ])
          refine tkE 51 mdR51 rfl (by kernel_rfl) (fun K hK => ?_)
          go_simp
          (refine (YCH.out _ (KV.out.trans (by first | assumption | exact Kp.drew _ | exact Kp.refl _))).mono ?_; rintro e w' ⟨rfl, kq⟩; have k2 := Kp.trans (show Kp V _ from (by first | assumption | exact Kp.drew _ | exact Kp.refl _)) kq; clear kq)
          (try go_wp2_with fail)
          refine hK.out _ _ ?_ (fun hHeld6 => ?_)
          · (try dsimp only); exact KS.out _ (by first | assumption | exact Kp.drew _ | exact Kp.refl _)
          clear hK K hHeld5
          (try simp only [Act.put, mdR51, List.setIfInBounds_toArray, List.set_cons_zero, List.set_cons_succ])
          refine tkW (v := ?_) 52 mdR52 rfl (by kernel_rfl) (by kernel_rfl) (by kernel_rfl) (fun _ _ _ h => h) (by rfl) ?_ (by assumption) ?_
          rotate_left
          · intro w hSw; (try dsimp only at hSw); go_simp; (try with_reducible rfl)
          (try simp only [Act.put, mdR52, List.setIfInBounds_toArray, List.set_cons_zero, List.set_cons_succ])
          refine tkW (v := ?_) 53 mdR53 rfl (by kernel_rfl) (by kernel_rfl) (by kernel_rfl) (fun _ _ _ h => h) (by rfl) ?_ (by assumption) ?_
          rotate_left
          · intro w hSw; (try dsimp only at hSw); go_simp; (try with_reducible rfl)
          (try simp only [Act.put, mdR53, List.setIfInBounds_toArray, List.set_cons_zero, List.set_cons_succ])
          refine tkW (v := ?_) 54 mdR54 rfl (by kernel_rfl) (by kernel_rfl) (by kernel_rfl) (fun _ _ _ h => h) (by rfl) ?_ (by assumption) ?_
          rotate_left
          · intro w hSw; (try dsimp only at hSw); go_simp; (try with_reducible rfl)
          (try simp only [Act.put, mdR54, List.setIfInBounds_toArray, List.set_cons_zero, List.set_cons_succ])
          refine wpAnyH_done (by kernel_rfl) ?_ _
          have KE := Lib.hid (KL.out.trans (KV.out.trans k2))
          clear KS k2
          go_wp2
          go_roundw
          case rel => exact ⟨sb, j + 1, HLT.out, rfl, by go_num, KE, HB2⟩
          case measure => have := HLT.out; simp [intOf]; omega
    · obtain rfl : j = l.length := by omega
      have hbb := HBB.out
      rw [List.take_length] at hbb
      obtain ⟨ck, hck⟩ : ∃ z, cntN (.mk 2 pt0 false false l : ND) = z := ⟨_, rfl⟩
      obtain ⟨dk, hdk⟩ : ∃ z, depN (.mk 2 pt0 false false l : ND) = z := ⟨_, rfl⟩
      obtain ⟨sk, hsk⟩ : ∃ b, saneN saneP (.mk 2 pt0 false false l : ND) = b := ⟨_, rfl⟩
      have hS := SK.out
      rw [hsk, HE0.out, ← hbb, hck, hdk] at hS
      have ck9 : (ck : Int) ≤ 1000 := by have := CL2.out; rw [← hck]; simp only [cntN]; omega
      have dk9 : (dk : Int) ≤ 1001 := by have := CL2.out; rw [← hdk]; have := dep_cnt (.mk 2 pt0 false false l : ND); simp only [cntN] at this; omega
      obtain ⟨cb, hcb⟩ : ∃ b, decide ((ck : Int) ≤ 64) = b := ⟨_, rfl⟩
      obtain ⟨db, hdb⟩ : ∃ b, decide ((dk : Int) ≤ 8) = b := ⟨_, rfl⟩
      rw [show decide (ck ≤ 64) = cb by rw [← hcb]; exact decide_eq_decide.2 (by omega), show decide (dk ≤ 8) = db by rw [← hdb]; exact decide_eq_decide.2 (by omega)] at hS
      have hcb2 : decide (ck ≤ 64) = cb := by rw [← hcb]; exact decide_eq_decide.2 (by omega)
      have hdb2 : decide (dk ≤ 8) = db := by rw [← hdb]; exact decide_eq_decide.2 (by omega)
      have KW := Lib.hid (K4.out.trans (J7.out.trans KL.out))
      have Y1 : ∀ w1, Kp wr w1 → Calls Tryd.prog 25 #[.agg #[.int .i64 2, .int .i64 0, .string ⟨#[]⟩, .string ⟨#[]⟩, .string ⟨#[]⟩, .bool false, .bool false, .slice ad l.length cp]] w1 fun e w' => e = .returned (.bool sk) ∧ Kp w1 w' := fun w1 qq => by rw [← hsk]; exact CSKH.out w1 (KW.out.trans qq)
      have Y2 : ∀ w1, Kp wr w1 → Calls Tryd.prog 29 #[.agg #[.int .i64 2, .int .i64 0, .string ⟨#[]⟩, .string ⟨#[]⟩, .string ⟨#[]⟩, .bool false, .bool false, .slice ad l.length cp]] w1 fun e w' => e = .returned (.int .i64 ck) ∧ Kp w1 w' := fun w1 qq => by rw [← hck]; exact CCKH.out w1 (KW.out.trans qq)
      have Y3 : ∀ w1, Kp wr w1 → Calls Tryd.prog 31 #[.agg #[.int .i64 2, .int .i64 0, .string ⟨#[]⟩, .string ⟨#[]⟩, .string ⟨#[]⟩, .bool false, .bool false, .slice ad l.length cp]] w1 fun e w' => e = .returned (.int .i64 dk) ∧ Kp w1 w' := fun w1 qq => by rw [← hdk]; exact CDKH.out w1 (KW.out.trans qq)
      have Y1H := Lib.hid Y1
      have Y2H := Lib.hid Y2
      have Y3H := Lib.hid Y3
      have HS := Lib.hid hS
      clear Y1 Y2 Y3 hS hbb hck hdk hsk HBB
      obtain ⟨x0, x1, x2, x3, x4, x5, x6, x7⟩ := row8 (GK.out _ KL.out)
      have hw2 : ((l.length : Int) == (l.length : Int)) = true := beq_self_eq_true _
      cases bb with
      | false =>
        have hS := HS.out
        rw [Bool.false_and] at hS
        subst hS
        clear hcb hdb hcb2 hdb2
        go_wp2_with fail
        refine (Y1H.out _ (Kp.refl _)).mono ?_
        rintro e w9 ⟨rfl, kk⟩
        have KF := Lib.hid (KW.out.trans kk)
        clear kk
        go_wp2
        go_ret
        exact ⟨rfl, KF.out⟩
      | true =>
        have hS := HS.out
        rw [Bool.true_and] at hS
        subst hS
        go_wp2_with fail
        refine (Y1H.out _ (Kp.refl _)).mono ?_
        rintro e w9 ⟨rfl, kk⟩
        have K9 := Lib.hid kk
        clear kk x0 x1 x2 x3 x4 x5 x6 x7
        obtain ⟨x0, x1, x2, x3, x4, x5, x6, x7⟩ := row8 (GK.out _ (KL.out.trans K9.out))
        go_wp2_with fail
        refine (Y2H.out _ K9.out).mono ?_
        rintro e w10 ⟨rfl, kk⟩
        have K10 := Lib.hid (K9.out.trans kk)
        clear kk x0 x1 x2 x3 x4 x5 x6 x7
        obtain ⟨x0, x1, x2, x3, x4, x5, x6, x7⟩ := row8 (GK.out _ (KL.out.trans K10.out))
        cases cb with
        | false =>
          go_wp2
          go_ret
          exact ⟨by first | rfl | simp, KW.out.trans K10.out⟩
        | true =>
          go_wp2_with fail
          refine (Y3H.out _ K10.out).mono ?_
          rintro e w11 ⟨rfl, kk⟩
          have K11 := Lib.hid (KW.out.trans (K10.out.trans kk))
          clear kk x0 x1 x2 x3 x4 x5 x6 x7
          cases db with
          | false =>
            go_wp2
            go_ret
            exact ⟨by first | rfl | simp, K11.out⟩
          | true =>
            go_wp2
            go_ret
            exact ⟨by first | rfl | simp, K11.out⟩
end Go.Proofs.YtjiikianmjmgcaaDoor
