/-
  UnitIs: the walk.
-/
import Derived.Test.YtfopcacoacedcaaDoorUnitAw
import Derived.Test.YtfopcacoacedcaaDoorUnitR
namespace Go.Proofs.YtfopcacoacedcaaDoor
open Go.RowKit
set_option linter.unusedVariables false
theorem rcC {f : FuncId} {a : Array Value} {w : World} {v : Value} (h : Calls Tryd.prog f a w fun e w' => e = .returned v ∧ w = w') : Calls Tryd.prog f a w fun e w' => e = .returned v ∧ Kp w w' := h.mono fun e w' ⟨a, b⟩ => ⟨a, by subst b; exact Kp.refl _⟩
set_option maxHeartbeats 1000000 in
set_option maxRecDepth 100000 in
theorem unitIs_walk (kind i day : Int) (w : World) (hT : Tabs w) (kind1 : -9223372036854775808 ≤ kind) (kind2 : kind ≤ 9223372036854775807) (i1 : -9223372036854775808 ≤ i) (i2 : i ≤ 9223372036854775807) (day1 : -9223372036854775808 ≤ day) (day2 : day ≤ 9223372036854775807) :
    Calls Tryd.prog 3 #[.int .i64 kind, .int .i64 i, .int .i64 day] w fun e w' => e = .returned (.bool true) ∧ Below w.heap.size w w' := by
  have HT := Lib.hid hT
  clear hT
  have c1 := firstC kind i
  have c2 := fun w (_ : Tabs w) => rcC (rfirst_any kind i w)
  have c3 := lastC kind i
  have c4 := fun w (_ : Tabs w) => rcC (rlast_any kind i w)
  have c5 := ofC kind day
  have c6 := fun w (_ : Tabs w) => rcC (rof_any kind day w day1 day2)
  have c7 := countC kind
  have c8 := fun w (_ : Tabs w) => rcC (rcount_any kind w)
  generalize firV kind i = p1, okU kind i = p2, lasV kind i = p3, ofV kind day = p4, okO kind day = p5, cnt kind = p6 at *
  have C1 := Lib.hid c1
  have C2 := Lib.hid c2
  have C3 := Lib.hid c3
  have C4 := Lib.hid c4
  have C5 := Lib.hid c5
  have C6 := Lib.hid c6
  have C7 := Lib.hid c7
  have C8 := Lib.hid c8
  clear c1 c2 c3 c4 c5 c6 c7 c8
  go_enter Tryd.func3, Tryd.ntmps3
  go_wp2_with fail; refine (awake3 _ HT.out).mono ?_; rintro e w0 ⟨rfl, k0⟩; have H0 := Lib.hid (HT.out.kp k0)
  go_wp2_with fail; refine (C1.out _ H0.out).mono ?_; rintro e w1 ⟨rfl, k1⟩; have H1 := Lib.hid (H0.out.kp k1)
  go_wp2_with fail; refine (C2.out _ H1.out).mono ?_; rintro e w2 ⟨rfl, k2⟩; have H2 := Lib.hid (H1.out.kp k2)
  go_wp2_with fail; refine (C3.out _ H2.out).mono ?_; rintro e w3 ⟨rfl, k3⟩; have H3 := Lib.hid (H2.out.kp k3)
  go_wp2_with fail; refine (C4.out _ H3.out).mono ?_; rintro e w4 ⟨rfl, k4⟩; have H4 := Lib.hid (H3.out.kp k4)
  go_wp2_with fail; refine (C5.out _ H4.out).mono ?_; rintro e w5 ⟨rfl, k5⟩; have H5 := Lib.hid (H4.out.kp k5)
  go_wp2_with fail; refine (C6.out _ H5.out).mono ?_; rintro e w6 ⟨rfl, k6⟩; have H6 := Lib.hid (H5.out.kp k6)
  go_wp2_with fail; refine (C7.out _ H6.out).mono ?_; rintro e w7 ⟨rfl, k7⟩; have H7 := Lib.hid (H6.out.kp k7)
  go_wp2_with fail; refine (C8.out _ H7.out).mono ?_; rintro e w8 ⟨rfl, k8⟩; have H8 := Lib.hid (H7.out.kp k8)
  go_wp2
  go_ret
  exact ⟨rfl, k0.trans (k1.trans (k2.trans (k3.trans (k4.trans (k5.trans (k6.trans (k7.trans (k8))))))))⟩
end Go.Proofs.YtfopcacoacedcaaDoor
