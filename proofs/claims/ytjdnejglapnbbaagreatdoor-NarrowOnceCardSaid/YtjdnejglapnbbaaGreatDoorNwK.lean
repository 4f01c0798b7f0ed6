/-
  Layer 22, pure: how many leaves are left of few families, and how many starts and ends they have; few families.
-/
import Derived.Test.YtjdnejglapnbbaaGreatDoorNwJ
import Derived.Test.YtjdnejglapnbbaaGreatDoorUn20
namespace Go.Proofs.YtjdnejglapnbbaaGreatDoor
open Go.RowKit
set_option linter.unusedVariables false
set_option linter.unusedSimpArgs false
theorem flat_bd {α β : Type} (l : List α) (f : α → List β) (W : Nat) (h : ∀ x ∈ l, (f x).length ≤ W) : (l.flatMap f).length ≤ l.length * W := by
  induction l with
  | nil => simp
  | cons a t ih =>
    have h1 := h a List.mem_cons_self
    have h2 := ih (fun x hx => h x (List.mem_cons_of_mem _ hx))
    rw [List.flatMap_cons, List.length_append, List.length_cons, Nat.add_mul]
    omega
theorem tidy_len (f : LF) : (lfOf (famR f)).a.length ≤ f.a.length ∧ (lfOf (famR f)).b.length ≤ f.b.length := by
  have z : lf0.a.length ≤ f.a.length ∧ lf0.b.length ≤ f.b.length := ⟨Nat.zero_le _, Nat.zero_le _⟩
  rcases Bool.eq_false_or_eq_true (leafB f) with hf | hf
  · rcases Bool.eq_false_or_eq_true f.sp with hs | hs
    · by_cases h0 : f.a.length = 0 ∨ f.b.length = 0
      · rw [famR_none hf hs h0, lfOf_s0 rfl]; exact z
      · rw [famR_span hf hs h0]
        by_cases h1 : (interR f.a [(0, greatR f.b)]).length = 0
        · rw [lfOf_s0 h1]; exact z
        · rw [lfOf_s1 h1]; exact ⟨interR_le _ _, interR_le _ _⟩
    · rw [famR_units hf hs]
      by_cases h1 : f.a.length = 0
      · rw [lfOf_u0 h1]; exact z
      · rw [lfOf_u1 h1]; exact ⟨Nat.le_refl _, Nat.zero_le _⟩
  · rw [famR_no hf, lfOf_u0 rfl]; exact z
theorem chunks_len (k : Int) (s : List R) : (chunksR k s).length = (s.length + 399) / 400 := by simp [chunksR, chunksN]
theorem chunks_sts (k : Int) (s : List R) : (stsL (chunksR k s)).length ≤ s.length + 399 ∧ (ensL (chunksR k s)).length ≤ s.length + 399 ∧ (chunksR k s).length ≤ s.length := by
  have h1 := flat_bd (chunksR k s) (fun f => startsR (famR f)) 400 (fun x _ => starts_len _)
  have h2 := flat_bd (chunksR k s) (fun f => endsR (famR f)) 400 (fun x _ => ends_len _)
  have := chunks_len k s
  unfold stsL ensL
  omega
theorem part_sts {s e : List R} (hs : setB 0 s = true) (he : setB 0 e = true) (r : R) : (stsL (partF s e r)).length ≤ s.length ∧ (ensL (partF s e r)).length ≤ e.length ∧ (partF s e r).length ≤ 1 := by
  unfold partF
  by_cases h0 : emptyF (famR (cutLF s e r)) = true
  · rw [if_pos h0]; simp [stsL, ensL]
  · rw [if_neg h0]
    obtain ⟨a, b, e1, n1, n2⟩ := famR_cut_span hs he r
    have e2 : famR (partG s e r) = .span a b := by
      rw [partG, famR_lfOf (famR_ok _), if_neg h0, e1]
    simp only [stsL, ensL, List.flatMap_cons, List.flatMap_nil, List.append_nil, e2, startsR, endsR]
    refine ⟨?_, ?_, by simp⟩
    · split
      · exact n1
      · simp
    · split
      · exact n2
      · simp
theorem sts_append (l m : List LF) : stsL (l ++ m) = stsL l ++ stsL m := by simp [stsL]
theorem ens_append (l m : List LF) : ensL (l ++ m) = ensL l ++ ensL m := by simp [ensL]
theorem sts_flat {α : Type} (l : List α) (f : α → List LF) : stsL (l.flatMap f) = l.flatMap fun x => stsL (f x) := by simp [stsL, List.flatMap_assoc]
theorem ens_flat {α : Type} (l : List α) (f : α → List LF) : ensL (l.flatMap f) = l.flatMap fun x => ensL (f x) := by simp [ensL, List.flatMap_assoc]
theorem out_bd {K D : List R} {f : LF} {A : Nat} (ha : f.a.length ≤ A) (hb : f.b.length ≤ A) (sd : sane D) :
    (stsL (outF K D f)).length ≤ 2 * A + K.length + D.length + 399 + K.length * A ∧ (ensL (outF K D f)).length ≤ 2 * A + K.length + D.length + 399 + K.length * A ∧ (outF K D f).length ≤ 2 * A + 2 * K.length + D.length := by
  obtain ⟨t1, t2⟩ := tidy_len f
  unfold outF
  rcases tidy_cases f with ⟨k, s, hg, sb⟩ | ⟨s, e, hg, s1, s2, _, _⟩
  · rw [hg] at t1 t2 ⊢
    rw [outT_un]
    have h1 := chunks_sts k (unsR K D ⟨false, k, s, []⟩)
    have h2 := unsR_len (K := K) (D := D) (k := k) (setB_sane sb)
    simp only at t1
    omega
  · rw [hg] at t1 t2 ⊢
    rw [outT_sp, sts_append, ens_append, List.length_append, List.length_append, List.length_append, sts_flat, ens_flat]
    have h1 := chunks_sts 0 (interR (interR s e) D)
    have h2 := interR_len (setB_sane s1) (setB_sane s2)
    have h3 := interR_len (interR_sane s e) sd
    simp only at t1 t2
    have h4 := flat_bd K (fun r => stsL (partF s e r)) A (fun r _ => Nat.le_trans (part_sts s1 s2 r).1 (by omega))
    have h5 := flat_bd K (fun r => ensL (partF s e r)) A (fun r _ => Nat.le_trans (part_sts s1 s2 r).2.1 (by omega))
    have h6 := flat_bd K (partF s e) 1 (fun r _ => (part_sts s1 s2 r).2.2)
    omega
theorem left_bd {K D : List R} {l : List LF} {A W : Nat} (h : ∀ f ∈ l, f.a.length ≤ A ∧ f.b.length ≤ A) (sd : sane D) (hW : 2 * A + 2 * K.length + D.length + 399 + K.length * A ≤ W) :
    (stsL (leftL K D l)).length ≤ l.length * W ∧ (ensL (leftL K D l)).length ≤ l.length * W ∧ (leftL K D l).length ≤ l.length * W := by
  unfold leftL
  rw [sts_flat, ens_flat]
  refine ⟨flat_bd _ _ _ fun f hf => ?_, flat_bd _ _ _ fun f hf => ?_, flat_bd _ _ _ fun f hf => ?_⟩
  · have := (out_bd (K := K) (h f hf).1 (h f hf).2 sd).1; omega
  · have := (out_bd (K := K) (h f hf).1 (h f hf).2 sd).2.1; omega
  · have := (out_bd (K := K) (h f hf).1 (h f hf).2 sd).2.2; omega
/-- few small leaves -/
def Sml (l : List LF) : Prop := (∀ f ∈ l, f.a.length ≤ 40 ∧ f.b.length ≤ 40) ∧ l.length ≤ 12
theorem nW_of {l m : List LF} (hl : Sml l) (kI : (rawI m).length ≤ 120) (dD : (rawD m).length ≤ 480) : ∀ K, KeptOk (rawI m) K → (stsL (leftL K (diffR (rawD m) (nf K)) l)).length ≤ 1000000 ∧ (ensL (leftL K (diffR (rawD m) (nf K)) l)).length ≤ 1000000 ∧ (leftL K (diffR (rawD m) (nf K)) l).length ≤ 1000000 := by
  intro K hK
  have h1 := hK.len
  have h2 := nf_len K
  have h3 := diffR_len (a := rawD m) (b := nf K)
  have h4 := left_bd (K := K) (D := diffR (rawD m) (nf K)) (l := l) (A := 40) (W := 7000) hl.1 (diffR_sane _ _) (by omega)
  have h5 := hl.2
  have h6 : l.length * 7000 ≤ 12 * 7000 := Nat.mul_le_mul_right _ h5
  omega
theorem itv_len (f : LF) : ((itvF (famR f)).length : Int) ≤ uniF f := by
  have up : 0 ≤ (if f.sp = false ∧ f.u ≠ 0 then sumR (nf f.a) else 0) := by
    split
    · obtain ⟨b1, b2⟩ := sumR_bd (nf f.a) (-1099511627776) (nf_sane f.a) (fun r t e => by have h := nf_sane f.a; rw [e] at h; exact (sane_head h).2.1) (by omega)
      omega
    · omega
  have u1 : 1 ≤ uniF f := by unfold uniF; omega
  rcases Bool.eq_false_or_eq_true (leafB f) with hf | hf
  · rcases Bool.eq_false_or_eq_true f.sp with hs | hs
    · have : (itvF (famR f)).length ≤ 1 := by
        by_cases h0 : f.a.length = 0 ∨ f.b.length = 0
        · rw [famR_none hf hs h0]; simp [itvF]
        · rw [famR_span hf hs h0]; simp only [itvF]; split <;> simp
      omega
    · rw [famR_units hf hs]
      by_cases hu : f.u = 0
      · rw [hu]
        simp only [itvF, if_true, List.length_nil]
        omega
      · simp only [itvF, if_neg hu]
        have sa := (leafB_units hf hs).2.1
        unfold uniF
        rw [if_pos ⟨hs, hu⟩, nf_of_sane (setB_sane sa), sum_nums f.a (fun r hr => (sane_ok (setB_sane sa) r hr).1)]
        simp only [pairsF, List.length_map]
        omega
  · rw [famR_no hf]
    simp only [itvF, if_true, List.length_nil]
    omega
theorem rawI_len : ∀ m : List LF, ((rawI m).length : Int) ≤ unitsN m
  | [] => by simp [rawI, unitsN]
  | f :: m => by
    have h1 := itv_len f
    have h2 := rawI_len m
    unfold rawI at h2 ⊢
    rw [List.flatMap_cons, List.length_append]
    unfold unitsN
    push_cast
    omega
theorem day_len (f : LF) : (dayF (famR f)).length ≤ f.a.length := by
  rcases Bool.eq_false_or_eq_true (leafB f) with hf | hf
  · rcases Bool.eq_false_or_eq_true f.sp with hs | hs
    · by_cases h0 : f.a.length = 0 ∨ f.b.length = 0
      · rw [famR_none hf hs h0]; simp [dayF]
      · rw [famR_span hf hs h0]; simp [dayF]
    · rw [famR_units hf hs]
      simp only [dayF]
      split <;> simp
  · rw [famR_no hf]; simp [dayF]
theorem rawD_len {m : List LF} {A : Nat} (h : ∀ f ∈ m, f.a.length ≤ A) : (rawD m).length ≤ m.length * A := flat_bd m _ A fun f hf => Nat.le_trans (day_len f) (h f hf)
/-- few families of layer 22 -/
def few22 (l : List LF) : Bool := fewL l && (decide (unitsN l ≤ 60) && decide (l.length ≤ 6))
theorem few22_told {l : List LF} (h : few22 l = true) (g : ∀ f ∈ l, LeafG f) : LsOk l ∧ Sml l ∧ l.length ≤ 6 ∧ (rawI l).length ≤ 60 ∧ (rawD l).length ≤ 240 := by
  unfold few22 at h
  rw [Bool.and_eq_true, Bool.and_eq_true, decide_eq_true_eq, decide_eq_true_eq] at h
  obtain ⟨h1, h2, h3⟩ := h
  have ok := (fewL_ok h1 g).1
  have sm : ∀ f ∈ l, f.a.length ≤ 40 ∧ f.b.length ≤ 40 := fun f hf => by
    unfold fewL at h1
    rw [Bool.and_eq_true, List.all_eq_true] at h1
    exact fewB_yes (h1.1 f hf)
  have r1 := rawI_len l
  have r2 := rawD_len (A := 40) fun f hf => (sm f hf).1
  exact ⟨ok, ⟨sm, by omega⟩, h3, by omega, by omega⟩
/-- too wide is only what has many pairs -/
theorem wide_pairs {l m : List LF} (h : wideS (leftP l m)) : 400 < (l.flatMap fun f => pairsF (famR f)).length := by
  obtain ⟨s, hs, n, g⟩ := h
  have mem : ∀ S T, hasL l S T = true → (S, T) ∈ l.flatMap fun f => pairsF (famR f) := fun S T q => by
    obtain ⟨f, hf, q⟩ := (hasL_iff _ _ _).1 q
    exact List.mem_flatMap.2 ⟨f, hf, (mem_pairs (famR_ok f) S T).2 q⟩
  have nd := ends_nodup hs
  have me : ∀ x ∈ s.map (·.2), memR s x := fun x hx => by
    obtain ⟨r, hr, rfl⟩ := List.mem_map.1 hx
    exact span_sane hs hr (sane_ok hs r hr).1 (Int.le_refl _)
  rcases g with g | g
  · have := nodup_le nd (m := (l.flatMap fun f => pairsF (famR f)).map (·.1)) fun x hx => by
      obtain ⟨T, q⟩ := (g x).1 (me x hx)
      exact List.mem_map.2 ⟨_, mem x T q.1, rfl⟩
    rw [List.length_map, List.length_map] at this
    omega
  · have := nodup_le nd (m := (l.flatMap fun f => pairsF (famR f)).map (·.2)) fun x hx => by
      obtain ⟨S, q⟩ := (g x).1 (me x hx)
      exact List.mem_map.2 ⟨_, mem S x q.1, rfl⟩
    rw [List.length_map, List.length_map] at this
    omega
end Go.Proofs.YtjdnejglapnbbaaGreatDoor
