/-
  Contracts of the document's answer for layer 4: Make, As, Of.
-/
import Derived.Test.YtjjpnglilalnmaaGreatDoor4B
import Derived.Deep.RegionHeld3
namespace Go.Proofs.YtjjpnglilalnmaaGreatDoor
open Go.RowKit
set_option linter.unusedVariables false
set_option linter.unusedSimpArgs false
theorem put1_len : ∀ (s : List R) (x : R), (put1 x s).length ≤ s.length + 1 := by
  intro s
  induction s with
  | nil => intro x; simp [put1]
  | cons y t ih =>
    intro x
    rw [put1]
    split
    · have := ih x; simp; omega
    · split
      · simp
      · have := ih (min x.1 y.1, max x.2 y.2); simp; omega
theorem putR_len (s : List R) (r : R) : (putR s r).length ≤ s.length + 1 := by
  unfold putR; split
  · omega
  · exact put1_len _ _
theorem nf_snoc (l : List R) (r : R) : nf (l ++ [r]) = putR (nf l) r := by unfold nf; simp
theorem nf_len (l : List R) : (nf l).length ≤ l.length := by
  have : ∀ (t s : List R), (t.foldl putR s).length ≤ s.length + t.length := by
    intro t
    induction t with
    | nil => intro s; simp
    | cons r t ih => intro s; have := ih (putR s r); have := putR_len s r; simp at *; omega
  simpa [nf] using this l []
theorem nf_next (l : List R) (k : Nat) (h : k < l.length) : nf (l.take (k + 1)) = putR (nf (l.take k)) (at_ l k) := by rw [take_at l k h, nf_snoc]
theorem nf_take_len (l : List R) (k : Nat) : (nf (l.take k)).length ≤ k := Nat.le_trans (nf_len _) (List.length_take_le _ _)
set_option maxHeartbeats 1000000 in
theorem rmake_any (v : Value) (l : List R) (w : World) (hv : RunsAt w v l) (hl : I64R l) (hn : l.length ≤ 1000000) :
    Calls Tryz.prog 123 #[v] w fun e w' => ∃ v' : Value, e = .returned v' ∧ RunsAt w' v' (nf l) ∧ Kp w w' := by
  obtain ⟨ad, c, rfl⟩ := hv.slice
  have HV := Lib.hid hv
  have HL := Lib.hid hl
  clear hv hl
  have hsl : (l.length : Int) ≤ 1000000 := by omega
  go_enter Tryz.func123, Tryz.ntmps123
  go_wp2
  go_loopw [3, 4] (fun u3 u4 wr => ∃ (k : Nat), k ≤ l.length ∧ u4 = .int .i64 k ∧ Hid (RunsAt wr u3 (nf (l.take k))) ∧ Hid (Kp w wr)) (fun _ u4 _ => l.length - (intOf u4).toNat)
  case atStart => exact ⟨0, Nat.zero_le _, rfl, Lib.hid (.inl ⟨_, _, rfl, rfl⟩), Lib.hid (Kp.refl _)⟩
  case round =>
    obtain ⟨k, hk, rfl, RA, K1⟩ := hrel
    by_cases hlt : k < l.length
    · rcases HV.out with ⟨_, _, _, e⟩ | ⟨b, off, cap, ev, hc, hm, hx⟩
      · rw [e] at hlt; simp at hlt
      cases ev
      obtain ⟨d1, d2⟩ := rd_at hx K1.out k hlt
      clear hx
      have bd := I64R.at_ HL.out hlt
      have tl := nf_take_len l k
      have C := Lib.hid (rput_any u3 (nf (l.take k)) (at_ l k) wr RA.out (nf_sane _) (by omega) bd.1 bd.2.2.2)
      rw [← nf_next l k hlt] at C
      obtain ⟨lo1, hi1, ee⟩ : ∃ x y, at_ l k = (x, y) := ⟨_, _, rfl⟩
      rw [ee] at d1 d2 C
      simp only at d1 d2 C
      clear ee tl bd
      have z0 : (0 : Int) ≤ (k : Int) := by omega
      have z1 : (k : Int) < (l.length : Int) := by omega
      go_wp2_with fail
      refine (C.out).mono ?_
      rintro e w1 ⟨v1, rfl, hv1, k1⟩
      have KK := Lib.hid (K1.out.trans k1)
      clear k1
      go_wp2
      go_roundw
      case rel => exact ⟨k + 1, by omega, by go_num, Lib.hid hv1, KK⟩
      case measure => simp [intOf]; omega
    · have A : l.take k = l := by rw [show k = l.length by omega, List.take_length]
      rw [A] at RA
      clear A
      have q : decide ((k : Int) < l.length) = false := by simp; omega
      go_wp2
      go_ret
      exact ⟨_, rfl, RA.out, K1.out⟩
def AsR (v : Value) (l' : List R) (w : World) : Prop := ∀ w1, Kp w w1 → Calls Tryz.prog 116 #[v] w1 fun e w' => ∃ v' : Value, e = .returned v' ∧ RunsAt w' v' l' ∧ Kp w1 w'
theorem asR_any (v : Value) (l : List R) (w : World) (hv : RunsAt w v l) (hl : I64R l) (hn : l.length ≤ 1000000) : AsR v (nf l) w := by
  intro w1 kk
  have hv1 := hv.kp kk
  clear hv kk w
  have C := Lib.hid (fun w => fun (h : RunsAt w v l) => rsane_any v l w h hl)
  have D := Lib.hid (fun w => fun (h : RunsAt w v l) => rmake_any v l w h hl hn)
  have HV := Lib.hid hv1
  rcases Bool.eq_false_or_eq_true (saneB l) with h | h
  · have E : nf l = l := nf_of_sane (by unfold saneB at h; exact of_decide_eq_true h)
    rw [h] at C
    rw [E]
    have C1 := Lib.hid (C.out _ hv1)
    clear hv1 E h C D
    go_enter Tryz.func116, Tryz.ntmps116
    go_wp2_with fail
    refine (C1.out).mono ?_
    rintro e w2 ⟨rfl, k1⟩
    have K1 := Lib.hid k1
    clear k1
    go_wp2
    go_ret
    exact ⟨_, rfl, HV.out.kp K1.out, K1.out⟩
  · rw [h] at C
    have C1 := Lib.hid (C.out _ hv1)
    clear hv1 h C
    go_enter Tryz.func116, Tryz.ntmps116
    go_wp2_with fail
    refine (C1.out).mono ?_
    rintro e w2 ⟨rfl, k1⟩
    have K1 := Lib.hid k1
    have D1 := Lib.hid (D.out _ (HV.out.kp k1))
    clear k1
    go_wp2_with fail
    refine (D1.out).mono ?_
    rintro e w3 ⟨v3, rfl, hv3, k3⟩
    have K3 := Lib.hid k3
    have H3 := Lib.hid hv3
    clear k3 hv3
    go_wp2
    go_ret
    exact ⟨_, rfl, H3.out, K1.out.trans K3.out⟩
/-- a slice of ints reads as this list -/
def IntsAt (w : World) (v : Value) (l : List Int) : Prop :=
  (∃ ad cp, v = .slice ad 0 cp ∧ l = []) ∨ ∃ b off cap, v = .slice (some ⟨b, off, none⟩) l.length cap ∧ l.length ≤ cap ∧ cap ≤ maxLen ∧
    ∀ i, i < l.length → w.cell? ⟨b, off + i, none⟩ = some (.int .i64 (l.getD i 0))
def I64 (l : List Int) : Prop := ∀ n ∈ l, -9223372036854775808 ≤ n ∧ n ≤ 9223372036854775807
theorem IntsAt.slice {w : World} {v : Value} {l : List Int} (h : IntsAt w v l) : ∃ ad c, v = .slice ad l.length c := by
  rcases h with ⟨ad, cp, rfl, rfl⟩ | ⟨b, off, cap, rfl, _⟩
  · exact ⟨_, _, rfl⟩
  · exact ⟨_, _, rfl⟩
theorem IntsAt.kp {w w' : World} {v : Value} {l : List Int} (h : IntsAt w v l) (k : Kp w w') : IntsAt w' v l := by
  rcases h with h | ⟨b, off, cap, e, h1, h2, h3⟩
  · exact .inl h
  · refine .inr ⟨b, off, cap, e, h1, h2, fun i hi => ?_⟩
    have c := h3 i hi
    exact (Below.cell (p := ⟨b, off + i, none⟩) k (World.block_lt_of_cell? _ _ c)).trans c
theorem rd_int {w wr : World} {b off : Nat} {l : List Int} (hx : ∀ i, i < l.length → w.cell? ⟨b, off + i, none⟩ = some (.int .i64 (l.getD i 0))) (k : Kp w wr) (i : Nat) (hi : i < l.length) :
    wr.cell? ⟨b, off + i, none⟩ = some (.int .i64 (l.getD i 0)) := by
  have c := hx i hi
  exact (Below.cell (p := ⟨b, off + i, none⟩) k (World.block_lt_of_cell? _ _ c)).trans c
def sing (l : List Int) : List R := l.map fun n => (n, n)
theorem sing_at (l : List Int) (k : Nat) (h : k < l.length) : at_ (sing l) k = (l.getD k 0, l.getD k 0) := by
  unfold at_ sing; simp [List.getD, h]
theorem sing_take (l : List Int) (k : Nat) : sing (l.take k) = (sing l).take k := by unfold sing; simp
theorem sing_len (l : List Int) : (sing l).length = l.length := by unfold sing; simp
theorem getD_mem {l : List Int} {k : Nat} (h : k < l.length) : l.getD k 0 ∈ l := by
  have : l.getD k 0 = l[k] := by simp [List.getD, h]
  rw [this]; exact List.getElem_mem h
end Go.Proofs.YtjjpnglilalnmaaGreatDoor
