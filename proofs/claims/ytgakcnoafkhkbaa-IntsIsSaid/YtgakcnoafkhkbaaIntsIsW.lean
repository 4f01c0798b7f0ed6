/-
  IntsIs: the walk.
-/
import Derived.Test.YtgakcnoafkhkbaaAwake1
namespace Go.Proofs.Ytgakcnoafkhkbaa
open Go.RowKit
theorem clamp_rclamp (n lo hi : Int) : clamp n lo hi = rclamp n lo hi := by
  unfold clamp rclamp
  (repeat' split) <;> omega
set_option maxHeartbeats 400000 in
theorem intsIs_walk (a b c : Int) (w : World) (ha : -9223372036854775808 ≤ a) (ha' : a ≤ 9223372036854775807) (hb : -9223372036854775808 ≤ b) (hb' : b ≤ 9223372036854775807) (hc : -9223372036854775808 ≤ c) (hc' : c ≤ 9223372036854775807) :
    Calls Try.prog 3 #[.int .i64 a, .int .i64 b, .int .i64 c] w fun e w' => e = .returned (.bool true) ∧ w = w' := by
  have C1 := Lib.hid (fun w => add_any a b w ha ha' hb hb')
  have C2 := Lib.hid (fun w => radd_any a b w ha ha' hb hb')
  have C3 := Lib.hid (fun w => mul_any a b w ha ha' hb hb')
  have C4 := Lib.hid (fun w => rmul_any a b w ha ha' hb hb')
  have C5 := Lib.hid (fun w => floor_any a b w ha ha' hb hb')
  have C6 := Lib.hid (fun w => rfloor_any a b w ha ha' hb hb')
  have C7 := Lib.hid (fun w => mod_any a b w ha ha' hb hb')
  have C8 := Lib.hid (fun w => rmod_any a b w ha ha' hb hb')
  have C9 := Lib.hid (fun w => clamp_any a b c w ha ha' hb hb' hc hc')
  have c10 := fun w => rclamp_any a b c w ha ha' hb hb' hc hc'
  rw [← clamp_rclamp] at c10
  have C10 := Lib.hid c10
  clear c10
  generalize only (a + b) = p1, fitsB (a + b) = p2, only (a * b) = p3, fitsB (a * b) = p4, flr a b = p5, mdl a b = p6, clamp a b c = p7 at *
  clear ha ha' hb hb' hc hc'
  go_enter Try.func3, Try.ntmps3
  go_wp2_with (first | (go_at_call 9; refine (awake1 _).mono ?_; rintro e w' ⟨rfl, rfl⟩) | (go_at_call 10; refine (C1.out _).mono ?_; rintro e w' ⟨rfl, rfl⟩) | (go_at_call 11; refine (C2.out _).mono ?_; rintro e w' ⟨rfl, rfl⟩) | (go_at_call 12; refine (C3.out _).mono ?_; rintro e w' ⟨rfl, rfl⟩) | (go_at_call 13; refine (C4.out _).mono ?_; rintro e w' ⟨rfl, rfl⟩) | (go_at_call 14; refine (C5.out _).mono ?_; rintro e w' ⟨rfl, rfl⟩) | (go_at_call 15; refine (C6.out _).mono ?_; rintro e w' ⟨rfl, rfl⟩) | (go_at_call 16; refine (C7.out _).mono ?_; rintro e w' ⟨rfl, rfl⟩) | (go_at_call 17; refine (C8.out _).mono ?_; rintro e w' ⟨rfl, rfl⟩) | (go_at_call 18; refine (C9.out _).mono ?_; rintro e w' ⟨rfl, rfl⟩) | (go_at_call 19; refine (C10.out _).mono ?_; rintro e w' ⟨rfl, rfl⟩))
  go_ret
  exact ⟨rfl, rfl⟩
end Go.Proofs.Ytgakcnoafkhkbaa
