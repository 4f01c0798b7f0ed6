import Derived.Test.YtamdjbpgkiekcaaGreatDoorAllenA
import Derived.Lib.LaidTab
namespace Go.Proofs.YtamdjbpgkiekcaaGreatDoor
open Go.RowKit
set_option linter.unusedVariables false
def nmsL : List ByteArray := [⟨#[98, 101, 102, 111, 114, 101]⟩, ⟨#[109, 101, 101, 116, 115]⟩, ⟨#[111, 118, 101, 114, 108, 97, 112, 115]⟩, ⟨#[115, 116, 97, 114, 116, 115]⟩, ⟨#[100, 117, 114, 105, 110, 103]⟩, ⟨#[102, 105, 110, 105, 115, 104, 101, 115]⟩, ⟨#[101, 113, 117, 97, 108, 115]⟩, ⟨#[102, 105, 110, 105, 115, 104, 101, 100, 45, 98, 121]⟩, ⟨#[99, 111, 110, 116, 97, 105, 110, 115]⟩, ⟨#[115, 116, 97, 114, 116, 101, 100, 45, 98, 121]⟩, ⟨#[111, 118, 101, 114, 108, 97, 112, 112, 101, 100, 45, 98, 121]⟩, ⟨#[109, 101, 116, 45, 98, 121]⟩, ⟨#[97, 102, 116, 101, 114]⟩]
def TabNM (w : World) : Prop := w.var? Tryz.prog "lustrum/allen.names" = some (nmsL.map Value.string).toArray
theorem gNM : Tryz.prog.globalNamed "lustrum/allen.names" = some 0 := by kernel_rfl
theorem nth_arr (L : List ByteArray) (i : Nat) (h : i < L.length) : (L.map Value.string).toArray[i]? = some (.string (L.getD i ByteArray.empty)) := by simp [List.getD, h]
theorem TabNM.cell {w : World} (h : TabNM w) (i : Nat) (hi : i < 13) : w.cell? ⟨0, i, none⟩ = some (.string (nmsL.getD i ByteArray.empty)) := by
 have q := World.var?_cell gNM h i
 have l : nmsL.length = 13 := rfl
 have e := nth_arr nmsL i (by omega)
 rw [q, e]
theorem TabNM.kp {w w' : World} (h : TabNM w) (k : Kp w w') : TabNM w' := var?_below k gNM (var_lt gNM h) h
def nm (r : Int) : ByteArray := if invB r then nmsL.getD r.toNat ByteArray.empty else ByteArray.empty
set_option maxHeartbeats 1000000 in
theorem name_any (r : Int) (w : World) (hT : TabNM w) :
  Calls Tryz.prog 37 #[.int .i64 r] w fun e w' => e = .returned (.string (nm r)) ∧ w = w' := by
 have C := Lib.hid (isrel_any r w)
 rcases Bool.eq_false_or_eq_true (invB r) with h | h
 ·have bd : 0 ≤ r ∧ r ≤ 12 := by unfold invB at h; simpa using h
  obtain ⟨k, rfl⟩ := Int.eq_ofNat_of_zero_le bd.1
  have hk : k < 13 := by omega
  have c := hT.cell k hk
  rw [show nm k = nmsL.getD k ByteArray.empty by unfold nm; rw [h]; simp]
  rw [h] at C
  generalize nmsL.getD k ByteArray.empty = s at *
  clear h bd hT
  go_enter Tryz.func37, Tryz.ntmps37
  go_wp2_with fail; refine (C.out).mono ?_; rintro e w' ⟨rfl, rfl⟩
  go_wp2
  go_ret
  exact ⟨rfl, rfl⟩
 ·rw [show nm r = ByteArray.empty by unfold nm; rw [h]; rfl]
  rw [h] at C
  clear h hT
  go_enter Tryz.func37, Tryz.ntmps37
  go_wp2_with fail; refine (C.out).mono ?_; rintro e w' ⟨rfl, rfl⟩
  go_wp2
  go_ret
  exact ⟨rfl, rfl⟩
end Go.Proofs.YtamdjbpgkiekcaaGreatDoor
