/-
  Layer 22: what the laws need of Narrow.
-/
import Derived.Test.YtjdnejglapnbbaaGreatDoorNwM
namespace Go.Proofs.YtjdnejglapnbbaaGreatDoor
open Go.RowKit
set_option linter.unusedVariables false
set_option linter.unusedSimpArgs false
theorem nar_ok {l m : List LF} {n : Int} {L : List LF} (h : NarP l m n L) : LsOk L ∧ (n ≠ 0 → L = []) ∧ (∀ g ∈ L, GLf g) := by
  rcases h with ⟨rfl, rfl, _⟩ | ⟨rfl, rfl, _⟩ | ⟨rfl, _, _, h, _⟩
  · exact ⟨fun f hf => (by cases hf), fun _ => rfl, fun f hf => (by cases hf)⟩
  · exact ⟨fun f hf => (by cases hf), fun _ => rfl, fun f hf => (by cases hf)⟩
  · exact ⟨good_ok h, fun q => absurd rfl q, h⟩
theorem nar_has {l m : List LF} {n : Int} {L : List LF} (h : NarP l m n L) (h8 : n ≠ 8) : (n = 0 ∨ n = 9) ∧ (okEs l && okEs m) = true ∧ (∀ S T, hasL L S T = true ↔ leftP l m S T) ∧ (n = 9 ↔ ∀ S T, ¬ leftP l m S T) := by
  rcases h with ⟨h, _⟩ | ⟨h1, rfl, ok, h2⟩ | ⟨h1, h0, ok, h2, h3, _⟩
  · exact absurd h h8
  · exact ⟨.inr h1, ok, fun S T => iff_of_false (by simp [hasL]) (h2 S T), iff_of_true h1 h2⟩
  · refine ⟨.inl h1, ok, h3, iff_of_false (by omega) fun q => ?_⟩
    obtain ⟨S, T, p⟩ := good_some h2 h0
    exact q S T ((h3 S T).1 p)
theorem boolN_iff {a : Bool} {P : Prop} (h : a = true ↔ P) {b : Bool} (g : b = true ↔ P) : a = b := by
  cases a <;> cases b <;> simp_all
theorem inL_append (m k : List LF) (S T : Int) : inL (m ++ k) S T ↔ inL m S T ∨ inL k S T := by
  unfold inL
  constructor
  · rintro ⟨h, f, hf, q⟩
    rcases List.mem_append.1 hf with hf | hf
    · exact .inl ⟨h, f, hf, q⟩
    · exact .inr ⟨h, f, hf, q⟩
  · rintro (⟨h, f, hf, q⟩ | ⟨h, f, hf, q⟩)
    · exact ⟨h, f, List.mem_append_left _ hf, q⟩
    · exact ⟨h, f, List.mem_append_right _ hf, q⟩
set_option maxHeartbeats 1000000 in
theorem nwN_any (vl vm : Value) (l m : List LF) (w : World) (hv : LeavesAt w vl l) (hu : LeavesAt w vm m) (hl : LsOk l) (hm : LsOk m) (T : Tabs w) (sl : Sml l) (nI : (rawI m).length ≤ 120) (nD : (rawD m).length ≤ 480) :
    Calls Tryz.prog 27 #[vl, vm] w fun e w' => ∃ ad L c n, e = .returned (.tuple #[.slice ad L.length c, .int .i64 n]) ∧ (LeavesAt w' (.slice ad L.length c) L ∧ NarP l m n L) ∧ Kp w w' :=
  (nwNarrow_any vl vm l m w hv hu hl hm T (by omega) (by omega) (nW_of sl nI nD)).mono (by
    rintro e w' ⟨⟨v, L, n, rfl, lv, np⟩, k⟩
    obtain ⟨ad, c, rfl⟩ := lv.slice
    exact ⟨ad, L, c, n, rfl, ⟨lv, np⟩, k⟩)
end Go.Proofs.YtjdnejglapnbbaaGreatDoor
