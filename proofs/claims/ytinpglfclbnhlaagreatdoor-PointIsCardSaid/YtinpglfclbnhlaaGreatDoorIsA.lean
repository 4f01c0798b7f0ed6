/-
  Layer 8: of PointIs, plain mathematics: the reference's Read is the program's.
-/
import Derived.Test.YtinpglfclbnhlaaGreatDoorGL8
namespace Go.Proofs.YtinpglfclbnhlaaGreatDoor
open Go.RowKit
set_option linter.unusedVariables false
set_option linter.unusedSimpArgs false
/-- bytes of a text, none if it has not as many -/
def partS (s : ByteArray) (a b : Nat) : ByteArray := if s.size < b then ⟨#[]⟩ else s.extract a b
def rcutP (k : Int) (s : ByteArray) : PT :=
  if k = 0 then ⟨0, partS s 0 4, partS s 5 7, partS s 8 10⟩
  else if k = 1 then ⟨1, partS s 0 4, partS s 5 7, ⟨#[]⟩⟩
  else if k = 2 then ⟨2, partS s 0 4, partS s 5 6, ⟨#[]⟩⟩
  else if k = 3 then ⟨3, partS s 0 4, ⟨#[]⟩, ⟨#[]⟩⟩
  else if k = 4 then ⟨4, partS s 0 3, ⟨#[]⟩, ⟨#[]⟩⟩
  else ⟨5, partS s 0 2, ⟨#[]⟩, ⟨#[]⟩⟩
theorem is_ext {s t : ByteArray} (h : s.data.toList = t.data.toList) : s = t := by
  obtain ⟨⟨x⟩⟩ := s
  obtain ⟨⟨y⟩⟩ := t
  simp only at h
  rw [h]
theorem is_list (s : ByteArray) (a b : Nat) : (s.extract a b).data.toList = (s.data.toList.drop a).take (b - a) := by
  simp [ByteArray.data_extract, Array.toList_extract, List.extract]
theorem is_hd (s : ByteArray) (n : Nat) : (hdS s n).data.toList = s.data.toList.take n := by
  have hl : s.data.toList.length = s.size := by rw [Array.length_toList]; rfl
  unfold hdS
  rw [is_list, List.drop_zero, Nat.sub_zero]
  by_cases h : n ≤ s.size
  · rw [Nat.min_eq_left h]
  · rw [Nat.min_eq_right (by omega), List.take_of_length_le (by omega), List.take_of_length_le (by omega)]
theorem is_tl (s : ByteArray) (n : Nat) : (tlS s n).data.toList = s.data.toList.drop n := by
  have hl : s.data.toList.length = s.size := by rw [Array.length_toList]; rfl
  unfold tlS
  rw [is_list]
  by_cases h : n ≤ s.size
  · rw [Nat.min_eq_left h, List.take_of_length_le (by rw [List.length_drop]; omega)]
  · rw [Nat.min_eq_right (by omega), Nat.sub_self, List.take_zero, List.drop_eq_nil_of_le (by omega)]
theorem is_part {s : ByteArray} {a b : Nat} (h : b ≤ s.size) : (partS s a b).data.toList = (s.data.toList.drop a).take (b - a) := by
  unfold partS
  rw [if_neg (by omega), is_list]
theorem is_cut {k : Int} {s : ByteArray} (hk : 0 ≤ k ∧ k < 6) (h : s.size = txtLen k) : rcutP k s = cutP k s := by
  have e1 : (n : Nat) → n ≤ s.size → partS s 0 n = hdS s n := fun n hn => is_ext (by rw [is_part hn, is_hd, List.drop_zero, Nat.sub_zero])
  have e2 : (n : Nat) → 5 + n ≤ s.size → partS s 5 (5 + n) = hdS (tlS (tlS s 4) 1) n := fun n hn => is_ext (by rw [is_part hn, is_hd, is_tl, is_tl, List.drop_drop, Nat.add_sub_cancel_left])
  have e3 : 10 ≤ s.size → partS s 8 10 = hdS (tlS (tlS (tlS (tlS s 4) 1) 2) 1) 2 := fun hn => is_ext (by rw [is_part hn, is_hd, is_tl, is_tl, is_tl, is_tl, List.drop_drop, List.drop_drop, List.drop_drop])
  rcases kinds6 hk with rfl | rfl | rfl | rfl | rfl | rfl
  · have hs : s.size = 10 := h
    simp only [rcutP, cutP, if_true]
    rw [e1 4 (by omega), e2 2 (by omega), e3 (by omega)]
  · have hs : s.size = 7 := h
    simp only [rcutP, cutP, if_true, if_neg (show ¬ (1 : Int) = 0 by decide)]
    rw [e1 4 (by omega), e2 2 (by omega)]
  · have hs : s.size = 6 := h
    simp only [rcutP, cutP, if_true, if_neg (show ¬ (2 : Int) = 0 by decide), if_neg (show ¬ (2 : Int) = 1 by decide)]
    rw [e1 4 (by omega), e2 1 (by omega)]
  · have hs : s.size = 4 := h
    simp only [rcutP, cutP, if_true, if_neg (show ¬ (3 : Int) = 0 by decide), if_neg (show ¬ (3 : Int) = 1 by decide), if_neg (show ¬ (3 : Int) = 2 by decide)]
    rw [e1 4 (by omega)]
  · have hs : s.size = 4 := h
    simp only [rcutP, cutP, if_true, if_neg (show ¬ (4 : Int) = 0 by decide), if_neg (show ¬ (4 : Int) = 1 by decide), if_neg (show ¬ (4 : Int) = 2 by decide), if_neg (show ¬ (4 : Int) = 3 by decide)]
    rw [e1 3 (by omega)]
  · have hs : s.size = 3 := h
    simp only [rcutP, cutP, if_neg (show ¬ (5 : Int) = 0 by decide), if_neg (show ¬ (5 : Int) = 1 by decide), if_neg (show ¬ (5 : Int) = 2 by decide), if_neg (show ¬ (5 : Int) = 3 by decide), if_neg (show ¬ (5 : Int) = 4 by decide)]
    rw [e1 2 (by omega)]
theorem is_k {k : Int} (hk : 0 ≤ k ∧ k < 6) (s : ByteArray) : (rcutP k s).k = k ∧ (cutP k s).k = k := by
  rcases kinds6 hk with rfl | rfl | rfl | rfl | rfl | rfl <;> exact ⟨rfl, rfl⟩
/-- what the reference asks of a kind -/
def rqB (s : ByteArray) (k : Int) : Bool := !(decide (s.size = 0)) && ((textP (rcutP k s)).toList == s.toList)
theorem is_bytes (a b : ByteArray) : (a.toList == b.toList) = true ↔ a = b := by
  rw [beq_iff_eq, ByteArray.toList_eq, ByteArray.toList_eq]
  exact ⟨is_ext, fun h => by rw [h]⟩
theorem is_kind {k : Int} (hk : 0 ≤ k ∧ k < 6) (s : ByteArray) : rqB s k = rdB s k ∧ (rdB s k = true → rcutP k s = cutP k s) := by
  have back : rdB s k = true → rcutP k s = cutP k s := fun h => by
    obtain ⟨a, b⟩ := rdB_iff.1 h
    have l := text_len a
    rw [b, (is_k hk s).2] at l
    exact is_cut hk l
  refine ⟨?_, back⟩
  rw [Bool.eq_iff_iff]
  unfold rqB
  rw [Bool.and_eq_true, is_bytes]
  constructor
  · rintro ⟨a, b⟩
    have hs : saneP (rcutP k s) = true := by
      rcases Bool.eq_false_or_eq_true (saneP (rcutP k s)) with e | e
      · exact e
      · rw [text_none e] at b
        rw [← b] at a
        exact absurd a (by decide)
    have c := cut_text hs
    rw [b, (is_k hk s).1] at c
    rw [rdB_iff, c]
    exact ⟨hs, b⟩
  · intro h
    obtain ⟨a, b⟩ := rdB_iff.1 h
    have z := text_some a
    rw [b] at z
    rw [back h]
    exact ⟨by simp [z], b⟩
def rqF (s : ByteArray) : Nat → Nat → PT × Bool
  | 0, _ => (⟨0, ⟨#[]⟩, ⟨#[]⟩, ⟨#[]⟩⟩, false)
  | n + 1, k => if rqB s (k : Nat) = true then (rcutP (k : Nat) s, true) else rqF s n (k + 1)
theorem is_readF (s : ByteArray) : ∀ n k, n + k = 6 → rqF s n k = rdF s n k
  | 0, k, _ => rfl
  | n + 1, k, h => by
    obtain ⟨a, b⟩ := is_kind (k := (k : Int)) (by omega) s
    rw [rqF, rdF, a, is_readF s n (k + 1) (by omega)]
    split
    · rename_i g; rw [b g]
    · rfl
/-- the reference's point of a text is the program's -/
theorem is_read (s : ByteArray) : rqF s 6 0 = readP s := is_readF s 6 0 rfl
end Go.Proofs.YtinpglfclbnhlaaGreatDoor
