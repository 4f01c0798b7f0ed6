/-
  Walk of AllenNames.
-/
import Derived.Test.YteneoimkfddhpaaDoorAllenAw
import Derived.Test.YteneoimkfddhpaaDoorAllenNd
namespace Go.Proofs.YteneoimkfddhpaaDoor
open Go.RowKit
set_option linter.unusedVariables false
theorem ndF_hit (s : ByteArray) : ∀ n k : Nat, ndF s n k < k + n → ((nmsL.getD (ndF s n k) ByteArray.empty).toList == s.toList) = true := by
  intro n
  induction n with
  | zero => intro k h; simp [ndF] at h
  | succ n ih =>
    intro k h
    unfold ndF at h ⊢
    by_cases g : ((nmsL.getD k ByteArray.empty).toList == s.toList) = true
    · rw [if_pos g]; exact g
    · rw [if_neg g] at h ⊢; exact ih (k + 1) (by omega)
theorem nd_names : ∀ r : Nat, r < 13 → ndI (nmsL.getD r ByteArray.empty) = r := by decide +kernel
theorem nd_empty : ndI ByteArray.empty = 13 := by decide +kernel
set_option maxHeartbeats 1000000 in
set_option maxRecDepth 100000 in
theorem an_lo_hit (r m : Int) (s t q : ByteArray) (w : World) (HT : Hid (TabNM w)) (C1 : Hid (∀ w, TabNM w → Calls Tryd.prog 21 #[.int .i64 r] w fun e w' => e = .returned (.string ByteArray.empty) ∧ w = w')) (C2 : Hid (∀ w, TabNM w → Calls Tryd.prog 19 #[.string ByteArray.empty] w fun e w' => e = .returned (.tuple #[.int .i64 0, .bool false]) ∧ w = w')) (hr : r < 0) (C3 : Hid (∀ w, TabNM w → Calls Tryd.prog 19 #[.string s] w fun e w' => e = .returned (.tuple #[.int .i64 m, .bool true]) ∧ w = w')) (C4 : Hid (∀ w, TabNM w → Calls Tryd.prog 21 #[.int .i64 m] w fun e w' => e = .returned (.string q) ∧ w = w')) (g : (q.toList == s.toList) = true) (m1 : 0 ≤ m) (m2 : m ≤ 12) :
    Calls Tryd.prog 6 #[.int .i64 r, .string s] w fun e w' => e = .returned (.bool true) ∧ Below w.heap.size w w' := by
  go_enter Tryd.func6, Tryd.ntmps6
  go_wp2_with fail; refine (awake18 _ HT.out).mono ?_; rintro e w1 ⟨rfl, k1⟩; have H1 := Lib.hid (HT.out.kp k1); have K1 := Lib.hid k1; clear k1
  go_wp2_with fail; refine ((C1.out _ H1.out)).mono ?_; rintro e w' ⟨rfl, rfl⟩
  go_wp2_with fail; refine ((C2.out _ H1.out)).mono ?_; rintro e w' ⟨rfl, rfl⟩
  go_wp2_with fail; refine ((C3.out _ H1.out)).mono ?_; rintro e w' ⟨rfl, rfl⟩
  go_wp2_with fail; refine ((C4.out _ H1.out)).mono ?_; rintro e w' ⟨rfl, rfl⟩
  go_wp2
  go_ret
  exact ⟨rfl, K1.out⟩
set_option maxHeartbeats 1000000 in
set_option maxRecDepth 100000 in
theorem an_lo_miss (r m : Int) (s t q : ByteArray) (w : World) (HT : Hid (TabNM w)) (C1 : Hid (∀ w, TabNM w → Calls Tryd.prog 21 #[.int .i64 r] w fun e w' => e = .returned (.string ByteArray.empty) ∧ w = w')) (C2 : Hid (∀ w, TabNM w → Calls Tryd.prog 19 #[.string ByteArray.empty] w fun e w' => e = .returned (.tuple #[.int .i64 0, .bool false]) ∧ w = w')) (hr : r < 0) (C3 : Hid (∀ w, TabNM w → Calls Tryd.prog 19 #[.string s] w fun e w' => e = .returned (.tuple #[.int .i64 0, .bool false]) ∧ w = w')) :
    Calls Tryd.prog 6 #[.int .i64 r, .string s] w fun e w' => e = .returned (.bool true) ∧ Below w.heap.size w w' := by
  go_enter Tryd.func6, Tryd.ntmps6
  go_wp2_with fail; refine (awake18 _ HT.out).mono ?_; rintro e w1 ⟨rfl, k1⟩; have H1 := Lib.hid (HT.out.kp k1); have K1 := Lib.hid k1; clear k1
  go_wp2_with fail; refine ((C1.out _ H1.out)).mono ?_; rintro e w' ⟨rfl, rfl⟩
  go_wp2_with fail; refine ((C2.out _ H1.out)).mono ?_; rintro e w' ⟨rfl, rfl⟩
  go_wp2_with fail; refine ((C3.out _ H1.out)).mono ?_; rintro e w' ⟨rfl, rfl⟩
  go_wp2
  go_ret
  exact ⟨rfl, K1.out⟩
set_option maxHeartbeats 1000000 in
set_option maxRecDepth 100000 in
theorem an_hi_hit (r m : Int) (s t q : ByteArray) (w : World) (HT : Hid (TabNM w)) (C1 : Hid (∀ w, TabNM w → Calls Tryd.prog 21 #[.int .i64 r] w fun e w' => e = .returned (.string ByteArray.empty) ∧ w = w')) (C2 : Hid (∀ w, TabNM w → Calls Tryd.prog 19 #[.string ByteArray.empty] w fun e w' => e = .returned (.tuple #[.int .i64 0, .bool false]) ∧ w = w')) (hr : 12 < r) (C3 : Hid (∀ w, TabNM w → Calls Tryd.prog 19 #[.string s] w fun e w' => e = .returned (.tuple #[.int .i64 m, .bool true]) ∧ w = w')) (C4 : Hid (∀ w, TabNM w → Calls Tryd.prog 21 #[.int .i64 m] w fun e w' => e = .returned (.string q) ∧ w = w')) (g : (q.toList == s.toList) = true) (m1 : 0 ≤ m) (m2 : m ≤ 12) :
    Calls Tryd.prog 6 #[.int .i64 r, .string s] w fun e w' => e = .returned (.bool true) ∧ Below w.heap.size w w' := by
  go_enter Tryd.func6, Tryd.ntmps6
  go_wp2_with fail; refine (awake18 _ HT.out).mono ?_; rintro e w1 ⟨rfl, k1⟩; have H1 := Lib.hid (HT.out.kp k1); have K1 := Lib.hid k1; clear k1
  go_wp2_with fail; refine ((C1.out _ H1.out)).mono ?_; rintro e w' ⟨rfl, rfl⟩
  go_wp2_with fail; refine ((C2.out _ H1.out)).mono ?_; rintro e w' ⟨rfl, rfl⟩
  go_wp2_with fail; refine ((C3.out _ H1.out)).mono ?_; rintro e w' ⟨rfl, rfl⟩
  go_wp2_with fail; refine ((C4.out _ H1.out)).mono ?_; rintro e w' ⟨rfl, rfl⟩
  go_wp2
  go_ret
  exact ⟨rfl, K1.out⟩
set_option maxHeartbeats 1000000 in
set_option maxRecDepth 100000 in
theorem an_hi_miss (r m : Int) (s t q : ByteArray) (w : World) (HT : Hid (TabNM w)) (C1 : Hid (∀ w, TabNM w → Calls Tryd.prog 21 #[.int .i64 r] w fun e w' => e = .returned (.string ByteArray.empty) ∧ w = w')) (C2 : Hid (∀ w, TabNM w → Calls Tryd.prog 19 #[.string ByteArray.empty] w fun e w' => e = .returned (.tuple #[.int .i64 0, .bool false]) ∧ w = w')) (hr : 12 < r) (C3 : Hid (∀ w, TabNM w → Calls Tryd.prog 19 #[.string s] w fun e w' => e = .returned (.tuple #[.int .i64 0, .bool false]) ∧ w = w')) :
    Calls Tryd.prog 6 #[.int .i64 r, .string s] w fun e w' => e = .returned (.bool true) ∧ Below w.heap.size w w' := by
  go_enter Tryd.func6, Tryd.ntmps6
  go_wp2_with fail; refine (awake18 _ HT.out).mono ?_; rintro e w1 ⟨rfl, k1⟩; have H1 := Lib.hid (HT.out.kp k1); have K1 := Lib.hid k1; clear k1
  go_wp2_with fail; refine ((C1.out _ H1.out)).mono ?_; rintro e w' ⟨rfl, rfl⟩
  go_wp2_with fail; refine ((C2.out _ H1.out)).mono ?_; rintro e w' ⟨rfl, rfl⟩
  go_wp2_with fail; refine ((C3.out _ H1.out)).mono ?_; rintro e w' ⟨rfl, rfl⟩
  go_wp2
  go_ret
  exact ⟨rfl, K1.out⟩
set_option maxHeartbeats 1000000 in
set_option maxRecDepth 100000 in
theorem an_in_hit (r m : Int) (s t q : ByteArray) (w : World) (HT : Hid (TabNM w)) (C1 : Hid (∀ w, TabNM w → Calls Tryd.prog 21 #[.int .i64 r] w fun e w' => e = .returned (.string t) ∧ w = w')) (C2 : Hid (∀ w, TabNM w → Calls Tryd.prog 19 #[.string t] w fun e w' => e = .returned (.tuple #[.int .i64 r, .bool true]) ∧ w = w')) (h1 : 0 ≤ r) (h2 : r ≤ 12) (C3 : Hid (∀ w, TabNM w → Calls Tryd.prog 19 #[.string s] w fun e w' => e = .returned (.tuple #[.int .i64 m, .bool true]) ∧ w = w')) (C4 : Hid (∀ w, TabNM w → Calls Tryd.prog 21 #[.int .i64 m] w fun e w' => e = .returned (.string q) ∧ w = w')) (g : (q.toList == s.toList) = true) (m1 : 0 ≤ m) (m2 : m ≤ 12) :
    Calls Tryd.prog 6 #[.int .i64 r, .string s] w fun e w' => e = .returned (.bool true) ∧ Below w.heap.size w w' := by
  go_enter Tryd.func6, Tryd.ntmps6
  go_wp2_with fail; refine (awake18 _ HT.out).mono ?_; rintro e w1 ⟨rfl, k1⟩; have H1 := Lib.hid (HT.out.kp k1); have K1 := Lib.hid k1; clear k1
  go_wp2_with fail; refine ((C1.out _ H1.out)).mono ?_; rintro e w' ⟨rfl, rfl⟩
  go_wp2_with fail; refine ((C2.out _ H1.out)).mono ?_; rintro e w' ⟨rfl, rfl⟩
  go_wp2_with fail; refine ((C3.out _ H1.out)).mono ?_; rintro e w' ⟨rfl, rfl⟩
  go_wp2_with fail; refine ((C4.out _ H1.out)).mono ?_; rintro e w' ⟨rfl, rfl⟩
  go_wp2
  go_ret
  exact ⟨rfl, K1.out⟩
set_option maxHeartbeats 1000000 in
set_option maxRecDepth 100000 in
theorem an_in_miss (r m : Int) (s t q : ByteArray) (w : World) (HT : Hid (TabNM w)) (C1 : Hid (∀ w, TabNM w → Calls Tryd.prog 21 #[.int .i64 r] w fun e w' => e = .returned (.string t) ∧ w = w')) (C2 : Hid (∀ w, TabNM w → Calls Tryd.prog 19 #[.string t] w fun e w' => e = .returned (.tuple #[.int .i64 r, .bool true]) ∧ w = w')) (h1 : 0 ≤ r) (h2 : r ≤ 12) (C3 : Hid (∀ w, TabNM w → Calls Tryd.prog 19 #[.string s] w fun e w' => e = .returned (.tuple #[.int .i64 0, .bool false]) ∧ w = w')) :
    Calls Tryd.prog 6 #[.int .i64 r, .string s] w fun e w' => e = .returned (.bool true) ∧ Below w.heap.size w w' := by
  go_enter Tryd.func6, Tryd.ntmps6
  go_wp2_with fail; refine (awake18 _ HT.out).mono ?_; rintro e w1 ⟨rfl, k1⟩; have H1 := Lib.hid (HT.out.kp k1); have K1 := Lib.hid k1; clear k1
  go_wp2_with fail; refine ((C1.out _ H1.out)).mono ?_; rintro e w' ⟨rfl, rfl⟩
  go_wp2_with fail; refine ((C2.out _ H1.out)).mono ?_; rintro e w' ⟨rfl, rfl⟩
  go_wp2_with fail; refine ((C3.out _ H1.out)).mono ?_; rintro e w' ⟨rfl, rfl⟩
  go_wp2
  go_ret
  exact ⟨rfl, K1.out⟩
set_option maxHeartbeats 1000000 in
set_option maxRecDepth 100000 in
theorem allenNames_walk (r : Int) (s : ByteArray) (w : World) (hT : TabNM w) :
    Calls Tryd.prog 6 #[.int .i64 r, .string s] w fun e w' => e = .returned (.bool true) ∧ Below w.heap.size w w' := by
  have HT := Lib.hid hT
  have N := fun x w h => name_any x w h
  have D := fun x w h => named_any x w h
  have E1 : ndB ByteArray.empty = false := by unfold ndB; rw [nd_empty]; rfl
  have E2 : ndV ByteArray.empty = 0 := by unfold ndV; rw [E1]; rfl
  have D2 := fun w h => named_any ByteArray.empty w h
  rw [E1, E2] at D2
  have D3 := Lib.hid (fun w h => named_any s w h)
  have C1 := Lib.hid (fun w h => name_any r w h)
  rcases Bool.eq_false_or_eq_true (ndB s) with hs | hs
  · have lt : ndI s < 13 := by unfold ndB at hs; simpa using hs
    have vv : ndV s = (ndI s : Int) := by unfold ndV; rw [hs, if_pos rfl]
    have g := ndF_hit s 13 0 (show ndI s < 0 + 13 by omega)
    have C4 := Lib.hid (fun w h => name_any (ndI s : Int) w h)
    rw [show nm (ndI s : Int) = nmsL.getD (ndI s) ByteArray.empty by unfold nm; rw [show invB (ndI s : Int) = true by unfold invB; simp; omega]; simp] at C4
    rw [vv, hs] at D3
    have g' : ((nmsL.getD (ndI s) ByteArray.empty).toList == s.toList) = true := g
    by_cases h1 : r < 0
    · rw [show nm r = ByteArray.empty by unfold nm; rw [show invB r = false by unfold invB; simp; omega]; rfl] at C1
      exact an_lo_hit r _ s ByteArray.empty _ w HT C1 (Lib.hid D2) h1 D3 C4 g' (by omega) (by omega)
    by_cases h2 : 12 < r
    · rw [show nm r = ByteArray.empty by unfold nm; rw [show invB r = false by unfold invB; simp; omega]; rfl] at C1
      exact an_hi_hit r _ s ByteArray.empty _ w HT C1 (Lib.hid D2) h2 D3 C4 g' (by omega) (by omega)
    obtain ⟨k, rfl⟩ := Int.eq_ofNat_of_zero_le (show 0 ≤ r by omega)
    rw [show nm (k : Int) = nmsL.getD k ByteArray.empty by unfold nm; rw [show invB (k : Int) = true by unfold invB; simp; omega]; simp] at C1
    have C2 := Lib.hid (fun w h => named_any (nmsL.getD k ByteArray.empty) w h)
    have e1 := nd_names k (by omega)
    rw [show ndV (nmsL.getD k ByteArray.empty) = k by unfold ndV ndB; rw [e1]; simp; omega, show ndB (nmsL.getD k ByteArray.empty) = true by unfold ndB; rw [e1]; simp; omega] at C2
    exact an_in_hit k _ s _ _ w HT C1 C2 (by omega) (by omega) D3 C4 g' (by omega) (by omega)
  · have vv : ndV s = 0 := by unfold ndV; rw [hs]; rfl
    rw [vv, hs] at D3
    by_cases h1 : r < 0
    · rw [show nm r = ByteArray.empty by unfold nm; rw [show invB r = false by unfold invB; simp; omega]; rfl] at C1
      exact an_lo_miss r 0 s ByteArray.empty ByteArray.empty w HT C1 (Lib.hid D2) h1 D3
    by_cases h2 : 12 < r
    · rw [show nm r = ByteArray.empty by unfold nm; rw [show invB r = false by unfold invB; simp; omega]; rfl] at C1
      exact an_hi_miss r 0 s ByteArray.empty ByteArray.empty w HT C1 (Lib.hid D2) h2 D3
    obtain ⟨k, rfl⟩ := Int.eq_ofNat_of_zero_le (show 0 ≤ r by omega)
    rw [show nm (k : Int) = nmsL.getD k ByteArray.empty by unfold nm; rw [show invB (k : Int) = true by unfold invB; simp; omega]; simp] at C1
    have C2 := Lib.hid (fun w h => named_any (nmsL.getD k ByteArray.empty) w h)
    have e1 := nd_names k (by omega)
    rw [show ndV (nmsL.getD k ByteArray.empty) = k by unfold ndV ndB; rw [e1]; simp; omega, show ndB (nmsL.getD k ByteArray.empty) = true by unfold ndB; rw [e1]; simp; omega] at C2
    exact an_in_miss k 0 s _ ByteArray.empty w HT C1 C2 (by omega) (by omega) D3
end Go.Proofs.YteneoimkfddhpaaDoor
