/-
  Walk of AllenIs.
-/
import Derived.Test.YteneoimkfddhpaaDoorAllenRD
namespace Go.Proofs.YteneoimkfddhpaaDoor
open Go.RowKit
set_option linter.unusedVariables false
set_option maxHeartbeats 4000000 in
set_option maxRecDepth 100000 in
theorem allenIs_walk (a b c d r m : Int) (s : ByteArray) (w : World) (hT : TabNM w) (al : -9223372036854775808 ≤ a) (ah : a ≤ 9223372036854775807) (bl : -9223372036854775808 ≤ b) (bh : b ≤ 9223372036854775807) (cl : -9223372036854775808 ≤ c) (ch : c ≤ 9223372036854775807) (dl : -9223372036854775808 ≤ d) (dh : d ≤ 9223372036854775807) :
    Calls Tryd.prog 3 #[.agg #[.int .i64 a, .int .i64 b], .agg #[.int .i64 c, .int .i64 d], .int .i64 r, .string s, .int .i64 m] w fun e w' => e = .returned (.bool true) ∧ Below w.heap.size w w' := by
  have HT := Lib.hid hT
  have C1 := Lib.hid (fun w => of_any a b c d w al ah bl bh cl ch dl dh)
  have C2 := Lib.hid (fun w => refOf_any a b c d w al ah bl bh cl ch dl dh)
  have C3 := Lib.hid (fun w => inverse_any r w)
  have C4 := Lib.hid (fun w => refInverse_any r w)
  have C5 := Lib.hid (fun w h => named_any s w h)
  have C6 := Lib.hid (fun w => refNamed_any s w)
  have C7 := Lib.hid (fun w h => name_any r w h)
  have C8 := Lib.hid (fun w => refName_any r w)
  have C9 := Lib.hid (fun w => flip_any m w)
  have C10 := Lib.hid (fun w => refFlip_any m w)
  have C11 := Lib.hid (fun w => list_any m w)
  have C12 := Lib.hid (fun w => refList_any m w)
  have C13 := Lib.hid (fun v u w h1 h2 => refInts_same (li m 13) v u w h1 h2 (li_len m 13))
  clear hT al ah bl bh cl ch dl dh
  generalize relV a b c d = z1 at *
  generalize ivB a b c d = z2 at *
  generalize invV r = z3 at *
  generalize invB r = z4 at *
  generalize ndV s = z5 at *
  generalize ndB s = z6 at *
  generalize nm r = z7 at *
  generalize flip m = z8 at *
  generalize li m 13 = l at *
  go_enter Tryd.func3, Tryd.ntmps3
  go_wp2_with fail; refine (awake18 _ (HT.out.kp (kp2 _ _ _))).mono ?_; rintro e w1 ⟨rfl, k1⟩; have K1 := Lib.hid k1; obtain ⟨⟨x1, x2⟩, x3, x4⟩ := box2 k1; clear k1
  go_wp2_with fail; refine (C1.out _).mono ?_; rintro e w2 ⟨rfl, k2⟩; have K2 := Lib.hid (K1.out.trans k2); clear k2 x1 x2 x3 x4; obtain ⟨⟨x1, x2⟩, x3, x4⟩ := box2 K2.out
  go_wp2_with fail; refine (C2.out _).mono ?_; rintro e w3 ⟨rfl, k3⟩; have K3 := Lib.hid (K2.out.trans k3); clear k3 x1 x2 x3 x4
  go_wp2_with fail; refine ((C3.out _)).mono ?_; rintro e w' ⟨rfl, rfl⟩
  go_wp2_with fail; refine ((C4.out _)).mono ?_; rintro e w' ⟨rfl, rfl⟩
  go_wp2_with fail; refine ((C5.out _ (HT.out.kp ((kp2 _ _ _).trans K3.out)))).mono ?_; rintro e w' ⟨rfl, rfl⟩
  go_wp2_with fail; refine (C6.out _).mono ?_; rintro e w4 ⟨rfl, k4⟩; have K4 := Lib.hid (K3.out.trans k4); clear k4
  go_wp2_with fail; refine ((C7.out _ (HT.out.kp ((kp2 _ _ _).trans K4.out)))).mono ?_; rintro e w' ⟨rfl, rfl⟩
  go_wp2_with fail; refine (C8.out _).mono ?_; rintro e w5 ⟨rfl, k5⟩; have K5 := Lib.hid (K4.out.trans k5); clear k5
  go_wp2_with fail; refine ((C9.out _)).mono ?_; rintro e w' ⟨rfl, rfl⟩
  go_wp2_with fail; refine ((C10.out _)).mono ?_; rintro e w' ⟨rfl, rfl⟩
  go_wp2_with fail; refine (C11.out _).mono ?_; rintro e w6 ⟨v1, rfl, hown1, k6⟩; have K6 := Lib.hid (K5.out.trans k6); have I1 := Lib.hid (intsAt_own hown1); clear k6 hown1
  go_wp2_with fail; refine (C12.out _).mono ?_; rintro e w7 ⟨v2, rfl, hown2, k7⟩; have K7 := Lib.hid (K6.out.trans k7); have I2 := Lib.hid (intsAt_own hown2); have I3 := Lib.hid (I1.out.kp k7); clear k7 hown2
  go_wp2_with fail; refine (C13.out _ _ _ I3.out I2.out).mono ?_; rintro e w8 ⟨rfl, k8⟩; have K8 := Lib.hid (K7.out.trans k8); clear k8
  go_wp2
  go_ret
  exact ⟨rfl, (kp2 _ _ _).trans K8.out⟩
end Go.Proofs.YteneoimkfddhpaaDoor
