/-
  CivilIs: the walk.
-/
import Derived.Test.YtgakcnoafkhkbaaDoorCivilAw
namespace Go.Proofs.YtgakcnoafkhkbaaDoor
open Go.RowKit
set_option linter.unusedVariables false
set_option maxHeartbeats 1000000 in
theorem civilIs_walk (y m d n : Int) (w : World) (hT : Tabs w) (y1 : -9223372036854775808 ≤ y) (y2 : y ≤ 9223372036854775807) (m1 : -9223372036854775808 ≤ m) (m2 : m ≤ 9223372036854775807)
    (d1 : -9223372036854775808 ≤ d) (d2 : d ≤ 9223372036854775807) (n1 : -9223372036854775808 ≤ n) (n2 : n ≤ 9223372036854775807) :
    Calls Tryd.prog 3 #[.int .i64 y, .int .i64 m, .int .i64 d, .int .i64 n] w fun e w' => e = .returned (.bool true) ∧ w = w' := by
  have C1 := Lib.hid (fun w h => number_v y m d w h)
  have C2 := Lib.hid (fun w => rnumber_v y m d w)
  have C3 := Lib.hid (fun w h => date_any n w n1 n2 h)
  have C4 := Lib.hid (fun w => rdate_any n w n1 n2)
  have C5 := Lib.hid (fun w => leap_any y w)
  have C6 := Lib.hid (fun w => rleap_any y w)
  have C7 := Lib.hid (fun w h => days_any y m w h)
  have C8 := Lib.hid (fun w => rdays_any y m w)
  have C9 := Lib.hid (fun w h => valid_any y m d w h)
  have C10 := Lib.hid (fun w => rvalid_any y m d w)
  have C11 := Lib.hid (fun w h => weekday_any n w n1 n2 h)
  have C12 := Lib.hid (fun w => rweekday_any n w n1 n2)
  have HT := Lib.hid hT
  clear hT y1 y2 m1 m2 d1 d2 n1 n2
  generalize numv y m d = p1, vldB y m d = p2, (dte n).1 = p3, (dte n).2.1 = p4, (dte n).2.2 = p5, lpB y = p6, dim y m = p7, wkd n = p8 at *
  go_enter Tryd.func3, Tryd.ntmps3
  go_wp2_with fail; refine ((awake2 _ HT.out)).mono ?_; rintro e w' ⟨rfl, rfl⟩
  go_wp2_with (first | (go_at_call 9; refine (C1.out _ HT.out.1).mono ?_; rintro e w' ⟨rfl, rfl⟩) | (go_at_call 10; refine (C2.out _).mono ?_; rintro e w' ⟨rfl, rfl⟩) | (go_at_call 11; refine (C3.out _ HT.out.1).mono ?_; rintro e w' ⟨rfl, rfl⟩) | (go_at_call 12; refine (C4.out _).mono ?_; rintro e w' ⟨rfl, rfl⟩) | (go_at_call 13; refine (C5.out _).mono ?_; rintro e w' ⟨rfl, rfl⟩) | (go_at_call 14; refine (C6.out _).mono ?_; rintro e w' ⟨rfl, rfl⟩) | (go_at_call 15; refine (C7.out _ HT.out.1).mono ?_; rintro e w' ⟨rfl, rfl⟩) | (go_at_call 16; refine (C8.out _).mono ?_; rintro e w' ⟨rfl, rfl⟩) | (go_at_call 17; refine (C9.out _ HT.out.1).mono ?_; rintro e w' ⟨rfl, rfl⟩) | (go_at_call 18; refine (C10.out _).mono ?_; rintro e w' ⟨rfl, rfl⟩) | (go_at_call 19; refine (C11.out _ HT.out.2).mono ?_; rintro e w' ⟨rfl, rfl⟩) | (go_at_call 20; refine (C12.out _).mono ?_; rintro e w' ⟨rfl, rfl⟩))
  go_ret
  exact ⟨rfl, rfl⟩
end Go.Proofs.YtgakcnoafkhkbaaDoor
