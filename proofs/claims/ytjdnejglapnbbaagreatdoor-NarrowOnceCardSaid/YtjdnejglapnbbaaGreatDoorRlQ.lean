/-
  Plain lists: the numbers that two sets share make no more runs than both have.
-/
import Derived.Test.YtjdnejglapnbbaaGreatDoorGSetC
namespace Go.Proofs.YtjdnejglapnbbaaGreatDoor
set_option linter.unusedVariables false
set_option linter.unusedSimpArgs false
theorem nodup_le : ∀ {l m : List Int}, l.Nodup → (∀ x ∈ l, x ∈ m) → l.length ≤ m.length
  | [], _, _, _ => Nat.zero_le _
  | x :: l, m, hd, hs => by
    have hx := hs x (by simp)
    have hn := List.nodup_cons.1 hd
    have := nodup_le (m := m.erase x) hn.2 (fun y hy => by
      have ne : y ≠ x := fun e => hn.1 (e ▸ hy)
      exact (List.mem_erase_of_ne ne).2 (hs y (by simp [hy])))
    rw [List.length_erase_of_mem hx] at this
    have := List.length_pos_of_mem hx
    rw [List.length_cons]
    omega
theorem ends_nodup : ∀ {s : List R}, sane s → (s.map (·.2)).Nodup
  | [], _ => List.nodup_nil
  | r :: t, h => by
    rw [List.map_cons, List.nodup_cons]
    refine ⟨fun hm => ?_, ends_nodup (sane_tail h)⟩
    obtain ⟨q, hq, e⟩ := List.mem_map.1 hm
    have o := sane_ok (sane_tail h) q hq
    unfold okR at o
    have := sane_beyond h q.2 ⟨q, hq, by omega, by omega, by omega, by omega⟩
    omega
theorem end_out : ∀ {s : List R}, sane s → ∀ r ∈ s, ¬ memR s (r.2 + 1)
  | [], _, _, hr => by cases hr
  | q :: t, h, r, hr => by
    intro hm
    rcases (memR_cons _ _ _).1 hm with g | g
    · rcases List.mem_cons.1 hr with rfl | hr
      · omega
      · have o := sane_ok (sane_tail h) r hr
        unfold okR at o
        have := sane_beyond h r.2 ⟨r, hr, by omega, by omega, by omega, by omega⟩
        omega
    · rcases List.mem_cons.1 hr with rfl | hr
      · have := sane_beyond h _ g; omega
      · exact end_out (sane_tail h) r hr g
theorem end_of {s : List R} (h : sane s) {e : Int} (hm : memR s e) (hn : ¬ memR s (e + 1)) : e ∈ s.map (·.2) := by
  obtain ⟨r, hr, a, b, c, d⟩ := hm
  have o := sane_ok h r hr
  unfold okR at o
  by_cases q : e = r.2
  · exact List.mem_map.2 ⟨r, hr, q.symm⟩
  · exact absurd ⟨r, hr, by omega, by omega, by omega, by omega⟩ hn
theorem interR_len {a b : List R} (ha : sane a) (hb : sane b) : (interR a b).length ≤ a.length + b.length := by
  have hs := interR_sane a b
  have := nodup_le (ends_nodup hs) (m := a.map (·.2) ++ b.map (·.2)) (fun e he => by
    obtain ⟨r, hr, rfl⟩ := List.mem_map.1 he
    have o := sane_ok hs r hr
    unfold okR at o
    have m := (interR_mem a b r.2).1 ⟨r, hr, by omega, by omega, by omega, by omega⟩
    have n := fun x => end_out hs r hr ((interR_mem a b _).2 x)
    by_cases q : memR a (r.2 + 1)
    · exact List.mem_append.2 (.inr (end_of hb m.2 fun x => n ⟨q, x⟩))
    · exact List.mem_append.2 (.inl (end_of ha m.1 q)))
  simpa using this
end Go.Proofs.YtjdnejglapnbbaaGreatDoor
