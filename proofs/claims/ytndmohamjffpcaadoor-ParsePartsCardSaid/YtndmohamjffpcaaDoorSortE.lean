/-
  The sort of runs: the pivot.
-/
import Derived.Test.YtndmohamjffpcaaDoorSortA
namespace Go.Proofs.YtndmohamjffpcaaDoor
open Go.RowKit Go.Sort Go.Shelf
set_option linter.unusedVariables false
/-- the row, and the counter -/
def CW (w0 : World) (b off : Nat) (d : Array R) (sb : Nat) (s : Nat) (W : World) : Prop :=
  SW w0 b off d W ∧ W.cell? ⟨sb, 0, none⟩ = some (.int .i64 s) ∧ W.frozen? ⟨sb, 0, none⟩ = false ∧ w0.heap.size ≤ sb ∧ sb < W.heap.size
theorem CW.grown {w0 W : World} {b off sb s : Nat} {d : Array R} (h : CW w0 b off d sb s W) (n : Nat) (os : Array Obj) : CW w0 b off d sb s (grow (W.drewN n) os) := CntK.grown h n os
theorem CW.drew {w0 W : World} {b off sb s : Nat} {d : Array R} (h : CW w0 b off d sb s W) : CW w0 b off d sb s W.drew := ⟨h.1.drew, h.2⟩
theorem CW.bump {w0 W : World} {b off sb s : Nat} {d : Array R} (h : CW w0 b off d sb s W) (t : Nat) : CW w0 b off d sb t (W.setCell ⟨sb, 0, none⟩ (.int .i64 t)) := CntK.bump h t
set_option maxHeartbeats 1000000 in
theorem order2_any {w0 : World} {b off n : Nat} (R0 : RowR w0 b off n) (cap : Nat) (d : Array R) (sb s x y : Nat) (w : World) (hW : CW w0 b off d sb s w) (hs : d.size = n) (hx : x < n) (hy : y < n) (hsm : s ≤ 1000) :
    Calls Tryd.prog 98 #[.slice (some ⟨b, off, none⟩) n cap, .int .i64 x, .int .i64 y, .pointer (some ⟨sb, 0, none⟩), fvR] w fun e w' =>
      e = .returned (.tuple #[.int .i64 (order2 ltR d x y s).1, .int .i64 (order2 ltR d x y s).2.1]) ∧ CW w0 b off d sb (order2 ltR d x y s).2.2 w' := by
  have mx := mixed
  have hn := R0.hn
  obtain ⟨x1, x2, y1, y2, cf, hcf, cj1, cj2, cp1, cp2, CX⟩ := R0.two hW.1 hs y x hy hx
  have HW := Lib.hid hW
  clear hW
  have zx : (x : Int) < (n : Int) := by omega
  have zy : (y : Int) < (n : Int) := by omega
  unfold fvR
  rcases hl : decide (cf < 0) with _ | _
  · have hcn : ¬ cf < 0 := of_decide_eq_false hl
    have e : order2 ltR d x y s = (x, y, s) := by unfold order2; rw [if_neg (by rw [← hcf, hl]; simp)]
    rw [e]
    clear e hcf
    go_enter Tryd.func98, Tryd.ntmps98
    go_wp2_with fail
    go_quiet_grown (first | (go_at_call 77; exact CX.out _ _))
    go_wp2
    (try simp only [Exit.inBlock, Exit.then]); refine bodyPost_ret (results_tmp2 rfl _ _ _) rfl ?_
    exact ⟨rfl, HW.out.grown _ _⟩
  · have hcn : cf < 0 := of_decide_eq_true hl
    have e : order2 ltR d x y s = (y, x, s + 1) := by unfold order2; rw [if_pos (by rw [← hcf, hl])]
    rw [e]
    clear e hcf
    go_enter Tryd.func98, Tryd.ntmps98
    go_wp2_with fail
    go_quiet_grown (first | (go_at_call 77; exact CX.out _ _))
    clear cj1 cj2 cp1 cp2
    have HG := Lib.hid (HW.out.grown nq osq)
    generalize grow (w.drewN nq) osq = W2 at HG ⊢
    obtain ⟨_, f1, f2, f3, f4⟩ := HG.out
    have ws : IntKind.i64.wrap ((s : Int) + 1) = (s : Int) + 1 := by rw [IntKind.wrap_i64]; omega
    go_wp2
    (try simp only [Exit.inBlock, Exit.then]); refine bodyPost_ret (results_tmp2 rfl _ _ _) rfl ?_
    exact ⟨rfl, HG.out.bump (s + 1)⟩
set_option maxHeartbeats 1000000 in
theorem median_any {w0 : World} {b off n : Nat} (R0 : RowR w0 b off n) (cap : Nat) (d : Array R) (sb s x y z : Nat) (w : World) (hW : CW w0 b off d sb s w) (hs : d.size = n) (hx : x < n) (hy : y < n) (hz : z < n) (hsm : s ≤ 500) :
    Calls Tryd.prog 97 #[.slice (some ⟨b, off, none⟩) n cap, .int .i64 x, .int .i64 y, .int .i64 z, .pointer (some ⟨sb, 0, none⟩), fvR] w fun e w' =>
      e = .returned (.int .i64 (Sort.median ltR d x y z s).1) ∧ CW w0 b off d sb (Sort.median ltR d x y z s).2 w' := by
  have O : ∀ (x y s : Nat), x < n → y < n → s ≤ 1000 → ∀ w, CW w0 b off d sb s w → Calls Tryd.prog 98 #[.slice (some ⟨b, off, none⟩) n cap, .int .i64 x, .int .i64 y, .pointer (some ⟨sb, 0, none⟩), fvR] w fun e w' =>
      e = .returned (.tuple #[.int .i64 (order2 ltR d x y s).1, .int .i64 (order2 ltR d x y s).2.1]) ∧ CW w0 b off d sb (order2 ltR d x y s).2.2 w' := fun x y s hx hy hsm w hW => order2_any R0 cap d sb s x y w hW hs hx hy hsm
  have B : ∀ (x y s : Nat), x < n → y < n → (order2 ltR d x y s).1 < n ∧ (order2 ltR d x y s).2.1 < n ∧ (order2 ltR d x y s).2.2 ≤ s + 1 := by
    intro x y s hx hy
    unfold order2
    split
    · exact ⟨hy, hx, by simp⟩
    · exact ⟨hx, hy, by simp⟩
  have HO := Lib.hid O
  clear O
  have B1 := B x y s hx hy
  unfold Sort.median
  generalize e1 : order2 ltR d x y s = r1 at B1 ⊢
  obtain ⟨a1, b1, s1⟩ := r1
  have B2 := B b1 z s1 B1.2.1 hz
  dsimp only at B1 B2 ⊢
  generalize e2 : order2 ltR d b1 z s1 = r2 at B2 ⊢
  obtain ⟨a2, b2, s2⟩ := r2
  dsimp only at B2 ⊢
  have B3 := B a1 a2 s2 B1.1 B2.1
  generalize e3 : order2 ltR d a1 a2 s2 = r3 at B3 ⊢
  obtain ⟨a3, b3, s3⟩ := r3
  dsimp only at B3 ⊢
  have C1 := HO.out x y s hx hy (by omega) w hW
  have C2 := HO.out b1 z s1 B1.2.1 hz (by omega)
  have C3 := HO.out a1 a2 s2 B1.1 B2.1 (by omega)
  rw [e1] at C1
  rw [e2] at C2
  rw [e3] at C3
  clear e1 e2 e3 B B1 B2 B3 HO hW
  dsimp only at C1 C2 C3
  have C1 := Lib.hid C1
  have C2 := Lib.hid C2
  have C3 := Lib.hid C3
  unfold fvR at C1 C2 C3 ⊢
  go_enter Tryd.func97, Tryd.ntmps97
  go_wp2_with fail
  refine (C1.out).mono ?_
  rintro e w1 ⟨rfl, h1⟩
  have H1 := Lib.hid h1
  clear h1
  go_wp2_with fail
  refine (C2.out _ H1.out).mono ?_
  rintro e w2 ⟨rfl, h2⟩
  have H2 := Lib.hid h2
  clear h2
  go_wp2_with fail
  refine (C3.out _ H2.out).mono ?_
  rintro e w3 ⟨rfl, h3⟩
  go_wp2
  go_ret
  exact ⟨rfl, h3⟩
end Go.Proofs.YtndmohamjffpcaaDoor
