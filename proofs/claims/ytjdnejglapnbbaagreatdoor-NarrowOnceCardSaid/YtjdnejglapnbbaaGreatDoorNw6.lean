/-
  What further laws use beyond these texts.
-/
import Derived.Test.YtjdnejglapnbbaaGreatDoorNwN
import Derived.WalkKit
import Derived.WalkMore
import Derived.ScopeJumps
import Derived.ProofKit
import Derived.WalkLawsBesides
import Derived.Lib.Hide
import Derived.Deep.QuietTactic
import Derived.BigQuiet
import Derived.Outline
import Derived.Below
import Derived.WalkSmall
import Derived.LoopTactic
import Derived.Laws.AppendOwn
import Derived.Laws.OwnMore
import Derived.OwnWalk
import Derived.Deep.AppendLies
import Derived.RegionTactic
import Derived.ChangeAlike
import Derived.Shelf.Abstract
import Derived.Deep.RegionHeld3
import Derived.Shelf.SlSortCmp.KitK
import Derived.Sort.AssemblyPlain
import Derived.Deep.Cut
import Derived.Deep.CutRange
import Derived.Lib.BitFns
import Derived.Sort.LotD5
import Derived.Laws.Bits64
import Derived.Laws.Bits64b
import Derived.Sort.Walk13a
import Derived.StillTailTactics
import Derived.Lib.LaidTab
import Derived.Laws.Bits128
import Derived.RangeFuncNested
import Derived.RangeFuncBound
import Derived.RangeFuncCalls
import Derived.RangeFuncLeaves
import Derived.Shelf.AbstractIn
import Derived.Shelf.RegionOpen
import Derived.OwnWalkIn
import Derived.TacticsInMore
import Derived.LoopNIn
import Derived.LoopIn
import Derived.Maps.AppendAt
import Derived.Deep.MidRow
import Derived.Laws.EntriesVeiled
import Derived.Deep.SlicePairs
import Derived.Deep.Slices
import Derived.WideShapes
import Derived.ChangeArms
import Derived.Carry
import Derived.Lib.SmallJoins
import Derived.Shelf.SlSortCmp.WholeK
import Derived.Shelf.SlSortCmp.NoneTotal
import Derived.Shelf.SlicesG.Cmp
import Derived.Shelf.Lay
import Derived.Ground.SlsfProg
import Derived.Ground.SlgcProg
namespace Go.Proofs.YtjdnejglapnbbaaGreatDoor
open Go.RowKit
set_option linter.unusedVariables false
set_option linter.unusedSimpArgs false
theorem wideS_congr {P Q : Int → Int → Prop} (e : ∀ S T, P S T ↔ Q S T) (h : wideS P) : wideS Q := by
  obtain ⟨s, hs, q, g | g⟩ := h
  · exact ⟨s, hs, q, .inl fun d => by rw [g]; exact exists_congr fun T => e d T⟩
  · exact ⟨s, hs, q, .inr fun d => by rw [g]; exact exists_congr fun S => e S d⟩
end Go.Proofs.YtjdnejglapnbbaaGreatDoor
namespace Go.Proofs.YtjdnejglapnbbaaGreatDoor
open Go.RowKit
set_option linter.unusedVariables false
set_option linter.unusedSimpArgs false
theorem nil_of {l : List R} (hs : sane l) (h : ∀ n, ¬ memR l n) : l = [] := by
  cases l with
  | nil => rfl
  | cons r t => exact absurd (span_sane hs List.mem_cons_self (sane_ok hs r List.mem_cons_self).1 (Int.le_refl _)) (h _)
theorem inter_nil (s : List R) : interR s [] = [] := nil_of (interR_sane _ _) fun n h => memR_nil n ((interR_mem _ _ _).1 h).2
theorem diff_nil (b : List R) : diffR [] b = [] := nil_of (diffR_sane _ _) fun n h => memR_nil n ((diffR_mem _ _ _).1 h).1
noncomputable def zd (D : List R) : Nat := if D = [] then 0 else 400
theorem chunk_one {k : Int} {s : List R} (h : s.length ≤ 400) : (stsL (chunksR k s)).length ≤ 400 ∧ (ensL (chunksR k s)).length ≤ 400 ∧ (chunksR k s).length ≤ 1 := by
  have h1 := flat_bd (chunksR k s) (fun f => startsR (famR f)) 400 (fun x _ => starts_len _)
  have h2 := flat_bd (chunksR k s) (fun f => endsR (famR f)) 400 (fun x _ => ends_len _)
  have := chunks_len k s
  unfold stsL ensL
  omega
theorem days_bd {s e D : List R} (hs : sane s) (he : sane e) (sd : sane D) (n : s.length + e.length + D.length ≤ 400) :
    (stsL (chunksR 0 (interR (interR s e) D))).length ≤ zd D ∧ (ensL (chunksR 0 (interR (interR s e) D))).length ≤ zd D ∧ (chunksR 0 (interR (interR s e) D)).length ≤ 1 := by
  unfold zd
  by_cases h : D = []
  · rw [if_pos h, h, inter_nil]
    exact ⟨Nat.le_refl _, Nat.le_refl _, Nat.zero_le _⟩
  · rw [if_neg h]
    have h2 := interR_len hs he
    have h3 := interR_len (interR_sane s e) sd
    exact chunk_one (by omega)
theorem spanO_bd {K D : List R} {g : LF} {s e : List R} {A : Nat} (hg : famR g = .span s e) (h0 : emptyF (famR g) = false) (sd : sane D) (n : 2 * A + D.length ≤ 400) (na : s.length ≤ A) (nb : e.length ≤ A) :
    (stsL (outF K D g)).length ≤ zd D + K.length * A ∧ (ensL (outF K D g)).length ≤ zd D + K.length * A ∧ (outF K D g).length ≤ 1 + K.length := by
  have ok := famR_ok g
  unfold outF
  rw [hg] at ok h0 ⊢
  rw [lfOf_s1 (by rw [emptyF_s] at h0; simpa using h0), outT_sp, sts_append, ens_append, List.length_append, List.length_append, List.length_append, sts_flat, ens_flat]
  have h1 := days_bd (setB_sane ok.1) (setB_sane ok.2.1) sd (by omega)
  have h4 := flat_bd K (fun r => stsL (partF s e r)) A (fun r _ => Nat.le_trans (part_sts ok.1 ok.2.1 r).1 (by omega))
  have h5 := flat_bd K (fun r => ensL (partF s e r)) A (fun r _ => Nat.le_trans (part_sts ok.1 ok.2.1 r).2.1 (by omega))
  have h6 := flat_bd K (partF s e) 1 (fun r _ => (part_sts ok.1 ok.2.1 r).2.2)
  omega
theorem unit_bd {K D : List R} {g : LF} {k : Int} {s : List R} (hg : famR g = .units k s) (n : s.length ≤ 400) :
    (stsL (outF K D g)).length ≤ 799 + K.length + D.length ∧ (ensL (outF K D g)).length ≤ 799 + K.length + D.length ∧ (outF K D g).length ≤ 799 + K.length + D.length := by
  have ok := famR_ok g
  have main : ∀ k' s', sane s' → s'.length ≤ 400 → (stsL (outT K D ⟨false, k', s', []⟩)).length ≤ 799 + K.length + D.length ∧ (ensL (outT K D ⟨false, k', s', []⟩)).length ≤ 799 + K.length + D.length ∧ (outT K D ⟨false, k', s', []⟩).length ≤ 799 + K.length + D.length := by
    intro k' s' hs n'
    rw [outT_un]
    have h1 := chunks_sts k' (unsR K D ⟨false, k', s', []⟩)
    have h2 := unsR_len (K := K) (D := D) (k := k') hs
    omega
  unfold outF
  rw [hg] at ok ⊢
  by_cases h1 : s.length = 0
  · rw [lfOf_u0 h1]
    exact main 0 [] (setB_sane (setB_nil 0)) (Nat.zero_le _)
  · rw [lfOf_u1 h1]
    exact main k s (setB_sane ok) n
/-- the families that a narrowing leaves of one -/
theorem out_kinds {K D : List R} {f : LF} (ha : f.a.length ≤ 40) (hb : f.b.length ≤ 40) (sd : sane D) (nK : 40 + K.length + D.length ≤ 400) (nD : 80 + D.length ≤ 400) :
    ∃ X Y, outF K D f = X ++ Y ∧ X.length ≤ 1 ∧ Y.length ≤ K.length ∧ (∀ g ∈ X, ∃ k s, famR g = .units k s ∧ s.length ≤ 400) ∧ (∀ g ∈ Y, ∃ s e, famR g = .span s e ∧ s.length ≤ 40 ∧ e.length ≤ 40 ∧ emptyF (famR g) = false) := by
  obtain ⟨t1, t2⟩ := tidy_len f
  unfold outF
  have ch : ∀ k s, setB k s = true → ∀ g ∈ chunksR k s, ∃ k s, famR g = .units k s ∧ s.length ≤ 400 := fun k s h g hg => by
    obtain ⟨_, _, h1, _, _, _, h2, _⟩ := chunk_fam h hg
    exact ⟨_, _, h1, h2⟩
  rcases tidy_cases f with ⟨k, s, hg, sb⟩ | ⟨s, e, hg, s1, s2, _, _⟩
  · rw [hg] at t1 t2 ⊢
    rw [outT_un]
    simp only at t1
    have h2 := unsR_len (K := K) (D := D) (k := k) (setB_sane sb)
    have sb2 : setB k (unsR K D ⟨false, k, s, []⟩) = true := by
      unfold unsR
      split <;> exact setB_inter sb _
    exact ⟨_, [], (List.append_nil _).symm, (chunk_one (k := k) (by omega)).2.2, Nat.zero_le _, ch _ _ sb2, fun g hg => (by cases hg)⟩
  · rw [hg] at t1 t2 ⊢
    rw [outT_sp]
    simp only at t1 t2
    refine ⟨_, _, rfl, (days_bd (setB_sane s1) (setB_sane s2) sd (by omega)).2.2, ?_, ch _ _ (setB_inter (setB_inter s1 _) _), fun g hg => ?_⟩
    · have h6 := flat_bd K (partF s e) 1 (fun r _ => (part_sts s1 s2 r).2.2)
      omega
    · obtain ⟨r, _, hr⟩ := List.mem_flatMap.1 hg
      obtain ⟨g1, g2, g3, g4⟩ := part_good s1 s2 (by omega) (by omega) r hr
      exact ⟨_, _, g4, by omega, by omega, g1.full⟩
theorem out2_bd {K D K' D' : List R} {f : LF} {n Z W : Nat} (ha : f.a.length ≤ 40) (hb : f.b.length ≤ 40) (sd : sane D) (sd' : sane D') (nK : 40 + K.length + D.length ≤ 400) (nD : 80 + D.length ≤ 400) (nK' : 40 + K'.length + D'.length ≤ 400) (nD' : 80 + D'.length ≤ 400)
    (hZ : zd D' + K'.length * 40 ≤ Z) (h61 : 61 ≤ Z) (h60 : K'.length ≤ 60) (hn : K.length ≤ n) (hW : 1200 + n * Z ≤ W) :
    (stsL ((outF K D f).flatMap (outF K' D'))).length ≤ W ∧ (ensL ((outF K D f).flatMap (outF K' D'))).length ≤ W ∧ ((outF K D f).flatMap (outF K' D')).length ≤ W := by
  obtain ⟨X, Y, e, nX, nY, hX, hY⟩ := out_kinds (K := K) ha hb sd nK nD
  rw [e, List.flatMap_append, sts_append, ens_append, List.length_append, List.length_append, List.length_append, sts_flat, sts_flat, ens_flat, ens_flat]
  have ux := fun g (hg : g ∈ X) => (hX g hg).elim fun k h => h.elim fun s h => unit_bd (K := K') (D := D') h.1 h.2
  have uy := fun g (hg : g ∈ Y) => (hY g hg).elim fun s h => h.elim fun e h => spanO_bd (K := K') (D := D') (A := 40) h.1 h.2.2.2 sd' (by omega) h.2.1 h.2.2.1
  have a1 := flat_bd X (fun g => stsL (outF K' D' g)) 1200 fun g hg => by have := (ux g hg).1; omega
  have a2 := flat_bd X (fun g => ensL (outF K' D' g)) 1200 fun g hg => by have := (ux g hg).2.1; omega
  have a3 := flat_bd X (outF K' D') 1200 fun g hg => by have := (ux g hg).2.2; omega
  have b1 := flat_bd Y (fun g => stsL (outF K' D' g)) Z fun g hg => by have := (uy g hg).1; omega
  have b2 := flat_bd Y (fun g => ensL (outF K' D' g)) Z fun g hg => by have := (uy g hg).2.1; omega
  have b3 := flat_bd Y (outF K' D') Z fun g hg => by have := (uy g hg).2.2; omega
  have c1 : X.length * 1200 ≤ 1 * 1200 := Nat.mul_le_mul_right _ nX
  have c2 : Y.length * Z ≤ n * Z := Nat.mul_le_mul_right _ (Nat.le_trans nY hn)
  omega
theorem day_itv (f : LF) : ((itvF (famR f)).length : Int) + (if dayF (famR f) = [] then 0 else 1) ≤ uniF f := by
  by_cases h : dayF (famR f) = []
  · rw [if_pos h]; have := itv_len f; omega
  · rw [if_neg h]
    have e : itvF (famR f) = [] := by
      revert h
      cases famR f with
      | units k s =>
        intro h
        by_cases k0 : k = 0
        · simp [itvF, k0]
        · exact absurd (by simp [dayF, k0]) h
      | span s e => intro h; exact absurd rfl h
    have := itv_len f
    have up : 1 ≤ uniF f := by
      have z : 0 ≤ (if f.sp = false ∧ f.u ≠ 0 then sumR (nf f.a) else 0) := by
        split
        · obtain ⟨b1, b2⟩ := sumR_bd (nf f.a) (-1099511627776) (nf_sane f.a) (fun r t e => by have h := nf_sane f.a; rw [e] at h; exact (sane_head h).2.1) (by omega)
          omega
        · omega
      unfold uniF
      omega
    rw [e]
    simpa using up
theorem raw_small : ∀ m : List LF, ((rawI m).length : Int) + (if rawD m = [] then 0 else 1) ≤ unitsN m
  | [] => by simp [rawI, rawD, unitsN]
  | f :: m => by
    have h1 := day_itv f
    have h2 := raw_small m
    have eI : rawI (f :: m) = itvF (famR f) ++ rawI m := by unfold rawI; rw [List.flatMap_cons]
    have eD : rawD (f :: m) = dayF (famR f) ++ rawD m := by unfold rawD; rw [List.flatMap_cons]
    rw [eI, eD, List.length_append]
    unfold unitsN
    push_cast
    by_cases a : dayF (famR f) = []
    · by_cases b : rawD m = []
      · rw [if_pos a] at h1; rw [if_pos b] at h2; rw [a, b, List.append_nil, if_pos rfl]; omega
      · rw [if_pos a] at h1; rw [if_neg b] at h2; rw [a, List.nil_append, if_neg b]; omega
    · rw [if_neg a] at h1
      rw [if_neg (fun h => a (List.append_eq_nil_iff.1 h).1)]
      have : 0 ≤ (if rawD m = [] then (0 : Int) else 1) := by split <;> omega
      omega
theorem few22_raw {m : List LF} (h : few22 m = true) : (rawI m).length ≤ 60 ∧ (rawD m = [] ∨ (rawI m).length ≤ 59) := by
  unfold few22 at h
  rw [Bool.and_eq_true, Bool.and_eq_true, decide_eq_true_eq, decide_eq_true_eq] at h
  have h1 := raw_small m
  by_cases b : rawD m = []
  · rw [if_pos b] at h1; exact ⟨by omega, .inl b⟩
  · rw [if_neg b] at h1; exact ⟨by omega, .inr (by omega)⟩
theorem nW_two {l m L1 : List LF} {n1 : Int} (hl : Sml l) (l6 : l.length ≤ 6) (hm : few22 m = true) (dD : (rawD m).length ≤ 240) (h : NarP l m n1 L1) : ∀ K, KeptOk (rawI m) K → (stsL (leftL K (diffR (rawD m) (nf K)) L1)).length ≤ 1000000 ∧ (ensL (leftL K (diffR (rawD m) (nf K)) L1)).length ≤ 1000000 ∧ (leftL K (diffR (rawD m) (nf K)) L1).length ≤ 1000000 := by
  intro K' hK'
  have nil : L1 = [] → (stsL (leftL K' (diffR (rawD m) (nf K')) L1)).length ≤ 1000000 ∧ (ensL (leftL K' (diffR (rawD m) (nf K')) L1)).length ≤ 1000000 ∧ (leftL K' (diffR (rawD m) (nf K')) L1).length ≤ 1000000 := by
    rintro rfl
    exact ⟨Nat.zero_le _, Nat.zero_le _, Nat.zero_le _⟩
  rcases h with ⟨_, h, _⟩ | ⟨_, h, _⟩ | ⟨_, _, _, _, _, _, K, hK, e⟩
  · exact nil h
  · exact nil h
  · obtain ⟨r1, r2⟩ := few22_raw hm
    have k1 := hK.len
    have k2 := hK'.len
    have n1 := nf_len K
    have n2 := nf_len K'
    have d1 := diffR_len (a := rawD m) (b := nf K)
    have d2 := diffR_len (a := rawD m) (b := nf K')
    have fin : ∀ Z n, zd (diffR (rawD m) (nf K')) + K'.length * 40 ≤ Z → 61 ≤ Z → K.length ≤ n → 1200 + n * Z ≤ 165000 → 40 + K.length + (diffR (rawD m) (nf K)).length ≤ 400 → 80 + (diffR (rawD m) (nf K)).length ≤ 400 → 40 + K'.length + (diffR (rawD m) (nf K')).length ≤ 400 → 80 + (diffR (rawD m) (nf K')).length ≤ 400 →
        (stsL (leftL K' (diffR (rawD m) (nf K')) L1)).length ≤ 1000000 ∧ (ensL (leftL K' (diffR (rawD m) (nf K')) L1)).length ≤ 1000000 ∧ (leftL K' (diffR (rawD m) (nf K')) L1).length ≤ 1000000 := by
      intro Z n hZ h61 hn hW a1 a2 a3 a4
      have u := fun f (hf : f ∈ l) => out2_bd (K := K) (K' := K') (hl.1 f hf).1 (hl.1 f hf).2 (diffR_sane _ _) (diffR_sane _ _) a1 a2 a3 a4 hZ h61 (by omega) hn hW
      have e2 : leftL K' (diffR (rawD m) (nf K')) L1 = l.flatMap fun f => (outF K (diffR (rawD m) (nf K)) f).flatMap (outF K' (diffR (rawD m) (nf K'))) := by
        rw [e]
        unfold leftL
        rw [List.flatMap_assoc]
      rw [e2, sts_flat, ens_flat]
      have b1 := flat_bd l _ 165000 fun f hf => (u f hf).1
      have b2 := flat_bd l _ 165000 fun f hf => (u f hf).2.1
      have b3 := flat_bd l _ 165000 fun f hf => (u f hf).2.2
      have c : l.length * 165000 ≤ 6 * 165000 := Nat.mul_le_mul_right _ l6
      omega
    rcases r2 with r2 | r2
    · have z1 : diffR (rawD m) (nf K) = [] := by rw [r2, diff_nil]
      have z2 : diffR (rawD m) (nf K') = [] := by rw [r2, diff_nil]
      refine fin 2400 60 ?_ (by omega) (by omega) (by omega) ?_ ?_ ?_ ?_
      · rw [z2]; unfold zd; rw [if_pos rfl]; omega
      · rw [z1]; simp; omega
      · rw [z1]; simp
      · rw [z2]; simp; omega
      · rw [z2]; simp
    · refine fin 2760 59 ?_ (by omega) (by omega) (by omega) (by omega) (by omega) (by omega) (by omega)
      have : zd (diffR (rawD m) (nf K')) ≤ 400 := by unfold zd; split <;> omega
      omega
theorem once_told {l m L1 L2 : List LF} {n2 : Int} (h1 : NarP l m 0 L1) (h2 : NarP L1 m n2 L2) : n2 = 0 ∧ ∀ S T, hasL L2 S T = hasL L1 S T := by
  rcases h1 with ⟨h, _⟩ | ⟨h, _⟩ | ⟨_, a0, ok, g, h, nw, _⟩
  · cases h
  · cases h
  · have e : ∀ S T, leftP L1 m S T ↔ leftP l m S T := fun S T => by
      constructor
      · intro q; exact (h S T).1 q.1
      · intro q; exact ⟨(h S T).2 q, q.2⟩
    have ok1 : okEs L1 = true := by
      unfold okEs
      rw [List.all_eq_true]
      intro f hf
      unfold okE
      rw [(g f hf).st, (g f hf).en]
      rfl
    rw [Bool.and_eq_true] at ok
    rcases h2 with ⟨_, _, h2 | ⟨_, h2⟩⟩ | ⟨_, _, _, h2⟩ | ⟨h0, _, _, _, h3, _⟩
    · rw [ok1, ok.2] at h2; cases h2
    · exact absurd (wideS_congr e h2) nw
    · obtain ⟨S, T, p⟩ := good_some g a0
      exact absurd ((e S T).2 ((h S T).1 p)) (h2 S T)
    · exact ⟨h0, fun S T => boolN_iff ((h3 S T).trans (e S T)) (h S T)⟩
theorem self_in {l : List LF} {S T : Int} (h : hasL l S T = true) : leftP l l S T := by
  obtain ⟨f, hf, q⟩ := (hasL_iff _ _ _).1 h
  exact ⟨h, (hasL_st h).1, f, hf, S, T, q, Int.le_refl _, Int.le_refl _⟩
theorem self_told {l L3 : List LF} {n3 : Int} (h : NarP l l n3 L3) : (n3 = 8 ∨ (n3 = 9 ∧ ∀ S T, ¬ hasL l S T = true) ∨ n3 = 0) ∧ (n3 = 0 → ∀ S T, hasL L3 S T = hasL l S T) := by
  rcases h with ⟨h, _⟩ | ⟨h, _, _, g⟩ | ⟨h, _, _, _, g, _⟩
  · exact ⟨.inl h, fun q => by omega⟩
  · exact ⟨.inr (.inl ⟨h, fun S T q => g S T (self_in q)⟩), fun q => by omega⟩
  · exact ⟨.inr (.inr h), fun _ S T => boolN_iff (P := hasL l S T = true) ((g S T).trans ⟨fun q => q.1, self_in⟩) Iff.rfl⟩
set_option maxHeartbeats 1000000 in
theorem nwO_any (vl vm : Value) (l L1 m : List LF) (n1 : Int) (w : World) (hv : LeavesAt w vl L1) (hu : LeavesAt w vm m) (h1 : NarP l m n1 L1) (hm : LsOk m) (T : Tabs w) (sl : Sml l) (l6 : l.length ≤ 6) (hf : few22 m = true) (nI : (rawI m).length ≤ 120) (nD : (rawD m).length ≤ 240) :
    Calls Tryz.prog 27 #[vl, vm] w fun e w' => ∃ ad L c n, e = .returned (.tuple #[.slice ad L.length c, .int .i64 n]) ∧ (LeavesAt w' (.slice ad L.length c) L ∧ NarP L1 m n L) ∧ Kp w w' :=
  (nwNarrow_any vl vm L1 m w hv hu (nar_ok h1).1 hm T (by omega) (by omega) (nW_two sl l6 hf nD h1)).mono (by
    rintro e w' ⟨⟨v, L, n, rfl, lv, np⟩, k⟩
    obtain ⟨ad, c, rfl⟩ := lv.slice
    exact ⟨ad, L, c, n, rfl, ⟨lv, np⟩, k⟩)
end Go.Proofs.YtjdnejglapnbbaaGreatDoor
namespace Go.Proofs.YtjdnejglapnbbaaGreatDoor
open Go.RowKit
set_option linter.unusedVariables false
set_option linter.unusedSimpArgs false
theorem nine_not {l m L1 : List LF} (h : NarP l m 0 L1) : ¬ ∀ S T, ¬ hasL l S T = true := by
  rcases h with ⟨h, _⟩ | ⟨h, _⟩ | ⟨_, a0, _, g, h, _⟩
  · cases h
  · cases h
  · obtain ⟨S, T, p⟩ := good_some g a0
    exact fun q => q S T ((h S T).1 p).1
set_option maxHeartbeats 16000000 in
set_option maxRecDepth 100000 in
theorem nonc_f1 (vl : Value) (l : List LF) (vm : Value) (m : List LF) (pS pE : Int) (w : World) (rl : LeavesAt w vl l) (gl : ∀ f ∈ l, LeafG f) (rm : LeavesAt w vm m) (gm : ∀ f ∈ m, LeafG f) (hp1 : -9223372036854775808 ≤ pS) (hp2 : pS ≤ 9223372036854775807) (hp3 : -9223372036854775808 ≤ pE) (hp4 : pE ≤ 9223372036854775807) (T : Tabs w) (hf : few22 l = false) :
    Calls Tryz.prog 9 #[vl, vm, .agg #[.int .i64 pS, .int .i64 pE]] w fun e w' => e = .returned (.bool true) ∧ Kp w w' := by
  have RFl := Lib.hid (fun w1 (kk : Kp w w1) => few22_any vl l w1 (rl.kp kk) gl)
  have RFm := Lib.hid (fun w1 (kk : Kp w w1) => few22_any vm m w1 (rm.kp kk) gm)
  rw [hf] at RFl
  obtain ⟨adl, cal, rfl⟩ := rl.slice
  obtain ⟨adm, cam, rfl⟩ := rm.slice
  obtain ⟨W0, hW⟩ : ∃ W0, W0 = w.alloc (.cells #[.int .i64 pS, .int .i64 pE] 35) := ⟨_, rfl⟩
  have K00 := Lib.hid (show Kp w W0 by rw [hW]; exact Kp.alloc _ _)
  have HB := Lib.hid (fun w1 (k : Kp W0 w1) => show w1.cell? ⟨w.heap.size, 0, none⟩ = some (.int .i64 pS) ∧ w1.cell? ⟨w.heap.size, 1, none⟩ = some (.int .i64 pE) from ⟨cell_up k (show W0.cell? ⟨w.heap.size, 0, none⟩ = some (.int .i64 pS) by rw [hW]; simp), cell_up k (show W0.cell? ⟨w.heap.size, 1, none⟩ = some (.int .i64 pE) by rw [hW]; simp)⟩)
  obtain ⟨c0, c1⟩ := HB.out W0 (Kp.refl _)
  have K0 := Lib.hid (Kp.refl W0)
  have HW := Lib.hid hW
  clear hW
  have AW := Lib.hid (fun w1 (kk : Kp W0 w1) => awake22 w1 (T.kp (K00.out.trans kk)))
  have F1 := Lib.hid (fun w1 (kk : Kp W0 w1) => RFl.out w1 (K00.out.trans kk))
  have F2 := Lib.hid (fun w1 (kk : Kp W0 w1) => RFm.out w1 (K00.out.trans kk))
  clear rl rm gl gm T
  go_enter Tryz.func9, Tryz.ntmps9
  go_wp2_with fail
  rw [← HW.out]
  refine (AW.out _ (by first | with_reducible exact K0.out | with_reducible exact K0.out.trans (Kp.alloc _ _) | with_reducible exact (K0.out.trans (Kp.alloc _ _)).trans (Kp.alloc _ _) | with_reducible exact ((K0.out.trans (Kp.alloc _ _)).trans (Kp.alloc _ _)).trans (Kp.alloc _ _) | with_reducible exact K0.out.trans (Kp.drew _) | with_reducible exact K0.out.trans (Kp.drewN _ _))).mono ?_
  rintro e w1 ⟨rfl, kk⟩
  have K1 := Lib.hid ((show Kp W0 _ from (by first | with_reducible exact K0.out | with_reducible exact K0.out.trans (Kp.alloc _ _) | with_reducible exact (K0.out.trans (Kp.alloc _ _)).trans (Kp.alloc _ _) | with_reducible exact ((K0.out.trans (Kp.alloc _ _)).trans (Kp.alloc _ _)).trans (Kp.alloc _ _) | with_reducible exact K0.out.trans (Kp.drew _) | with_reducible exact K0.out.trans (Kp.drewN _ _))).trans kk)
  clear kk
  clear c0 c1
  obtain ⟨c0, c1⟩ := HB.out w1 K1.out
  go_wp2_with fail
  refine (F1.out _ (by first | with_reducible exact K1.out | with_reducible exact K1.out.trans (Kp.alloc _ _) | with_reducible exact (K1.out.trans (Kp.alloc _ _)).trans (Kp.alloc _ _) | with_reducible exact ((K1.out.trans (Kp.alloc _ _)).trans (Kp.alloc _ _)).trans (Kp.alloc _ _) | with_reducible exact K1.out.trans (Kp.drew _) | with_reducible exact K1.out.trans (Kp.drewN _ _))).mono ?_
  rintro e w2 ⟨rfl, kk⟩
  have K2 := Lib.hid ((show Kp W0 _ from (by first | with_reducible exact K1.out | with_reducible exact K1.out.trans (Kp.alloc _ _) | with_reducible exact (K1.out.trans (Kp.alloc _ _)).trans (Kp.alloc _ _) | with_reducible exact ((K1.out.trans (Kp.alloc _ _)).trans (Kp.alloc _ _)).trans (Kp.alloc _ _) | with_reducible exact K1.out.trans (Kp.drew _) | with_reducible exact K1.out.trans (Kp.drewN _ _))).trans kk)
  clear kk
  clear c0 c1
  obtain ⟨c0, c1⟩ := HB.out w2 K2.out
  go_wp2
  go_ret
  exact ⟨rfl, K00.out.trans K2.out⟩
set_option maxHeartbeats 16000000 in
set_option maxRecDepth 100000 in
theorem nonc_f2 (vl : Value) (l : List LF) (vm : Value) (m : List LF) (pS pE : Int) (w : World) (rl : LeavesAt w vl l) (gl : ∀ f ∈ l, LeafG f) (rm : LeavesAt w vm m) (gm : ∀ f ∈ m, LeafG f) (hp1 : -9223372036854775808 ≤ pS) (hp2 : pS ≤ 9223372036854775807) (hp3 : -9223372036854775808 ≤ pE) (hp4 : pE ≤ 9223372036854775807) (T : Tabs w) (hf : few22 l = true) (hg : few22 m = false) :
    Calls Tryz.prog 9 #[vl, vm, .agg #[.int .i64 pS, .int .i64 pE]] w fun e w' => e = .returned (.bool true) ∧ Kp w w' := by
  have RFl := Lib.hid (fun w1 (kk : Kp w w1) => few22_any vl l w1 (rl.kp kk) gl)
  have RFm := Lib.hid (fun w1 (kk : Kp w w1) => few22_any vm m w1 (rm.kp kk) gm)
  rw [hf] at RFl
  rw [hg] at RFm
  obtain ⟨adl, cal, rfl⟩ := rl.slice
  obtain ⟨adm, cam, rfl⟩ := rm.slice
  obtain ⟨W0, hW⟩ : ∃ W0, W0 = w.alloc (.cells #[.int .i64 pS, .int .i64 pE] 35) := ⟨_, rfl⟩
  have K00 := Lib.hid (show Kp w W0 by rw [hW]; exact Kp.alloc _ _)
  have HB := Lib.hid (fun w1 (k : Kp W0 w1) => show w1.cell? ⟨w.heap.size, 0, none⟩ = some (.int .i64 pS) ∧ w1.cell? ⟨w.heap.size, 1, none⟩ = some (.int .i64 pE) from ⟨cell_up k (show W0.cell? ⟨w.heap.size, 0, none⟩ = some (.int .i64 pS) by rw [hW]; simp), cell_up k (show W0.cell? ⟨w.heap.size, 1, none⟩ = some (.int .i64 pE) by rw [hW]; simp)⟩)
  obtain ⟨c0, c1⟩ := HB.out W0 (Kp.refl _)
  have K0 := Lib.hid (Kp.refl W0)
  have HW := Lib.hid hW
  clear hW
  have AW := Lib.hid (fun w1 (kk : Kp W0 w1) => awake22 w1 (T.kp (K00.out.trans kk)))
  have F1 := Lib.hid (fun w1 (kk : Kp W0 w1) => RFl.out w1 (K00.out.trans kk))
  have F2 := Lib.hid (fun w1 (kk : Kp W0 w1) => RFm.out w1 (K00.out.trans kk))
  clear rl rm gl gm T
  go_enter Tryz.func9, Tryz.ntmps9
  go_wp2_with fail
  rw [← HW.out]
  refine (AW.out _ (by first | with_reducible exact K0.out | with_reducible exact K0.out.trans (Kp.alloc _ _) | with_reducible exact (K0.out.trans (Kp.alloc _ _)).trans (Kp.alloc _ _) | with_reducible exact ((K0.out.trans (Kp.alloc _ _)).trans (Kp.alloc _ _)).trans (Kp.alloc _ _) | with_reducible exact K0.out.trans (Kp.drew _) | with_reducible exact K0.out.trans (Kp.drewN _ _))).mono ?_
  rintro e w1 ⟨rfl, kk⟩
  have K1 := Lib.hid ((show Kp W0 _ from (by first | with_reducible exact K0.out | with_reducible exact K0.out.trans (Kp.alloc _ _) | with_reducible exact (K0.out.trans (Kp.alloc _ _)).trans (Kp.alloc _ _) | with_reducible exact ((K0.out.trans (Kp.alloc _ _)).trans (Kp.alloc _ _)).trans (Kp.alloc _ _) | with_reducible exact K0.out.trans (Kp.drew _) | with_reducible exact K0.out.trans (Kp.drewN _ _))).trans kk)
  clear kk
  clear c0 c1
  obtain ⟨c0, c1⟩ := HB.out w1 K1.out
  go_wp2_with fail
  refine (F1.out _ (by first | with_reducible exact K1.out | with_reducible exact K1.out.trans (Kp.alloc _ _) | with_reducible exact (K1.out.trans (Kp.alloc _ _)).trans (Kp.alloc _ _) | with_reducible exact ((K1.out.trans (Kp.alloc _ _)).trans (Kp.alloc _ _)).trans (Kp.alloc _ _) | with_reducible exact K1.out.trans (Kp.drew _) | with_reducible exact K1.out.trans (Kp.drewN _ _))).mono ?_
  rintro e w2 ⟨rfl, kk⟩
  have K2 := Lib.hid ((show Kp W0 _ from (by first | with_reducible exact K1.out | with_reducible exact K1.out.trans (Kp.alloc _ _) | with_reducible exact (K1.out.trans (Kp.alloc _ _)).trans (Kp.alloc _ _) | with_reducible exact ((K1.out.trans (Kp.alloc _ _)).trans (Kp.alloc _ _)).trans (Kp.alloc _ _) | with_reducible exact K1.out.trans (Kp.drew _) | with_reducible exact K1.out.trans (Kp.drewN _ _))).trans kk)
  clear kk
  clear c0 c1
  obtain ⟨c0, c1⟩ := HB.out w2 K2.out
  go_wp2_with fail
  refine (F2.out _ (by first | with_reducible exact K2.out | with_reducible exact K2.out.trans (Kp.alloc _ _) | with_reducible exact (K2.out.trans (Kp.alloc _ _)).trans (Kp.alloc _ _) | with_reducible exact ((K2.out.trans (Kp.alloc _ _)).trans (Kp.alloc _ _)).trans (Kp.alloc _ _) | with_reducible exact K2.out.trans (Kp.drew _) | with_reducible exact K2.out.trans (Kp.drewN _ _))).mono ?_
  rintro e w3 ⟨rfl, kk⟩
  have K3 := Lib.hid ((show Kp W0 _ from (by first | with_reducible exact K2.out | with_reducible exact K2.out.trans (Kp.alloc _ _) | with_reducible exact (K2.out.trans (Kp.alloc _ _)).trans (Kp.alloc _ _) | with_reducible exact ((K2.out.trans (Kp.alloc _ _)).trans (Kp.alloc _ _)).trans (Kp.alloc _ _) | with_reducible exact K2.out.trans (Kp.drew _) | with_reducible exact K2.out.trans (Kp.drewN _ _))).trans kk)
  clear kk
  clear c0 c1
  obtain ⟨c0, c1⟩ := HB.out w3 K3.out
  go_wp2
  go_ret
  exact ⟨rfl, K00.out.trans K3.out⟩
abbrev nwOa0 : Oper := { dst := some 44, op := Go.Op.move (Go.Operand.tmp 7), type := 4, pos := "law.go:149", after := #[], guard := none }
abbrev nwOa1 : Oper := { dst := some 45, op := Go.Op.move (Go.Operand.tmp 44), type := 4, pos := "law.go:149", after := #[{ on := 0, ground := Go.Ground.data }], guard := none }
abbrev nwOa2 : Oper := { dst := some 46, op := Go.Op.move (Go.Operand.tmp 13), type := 25, pos := "law.go:149", after := #[{ on := 1, ground := Go.Ground.guard }], guard := some (1, true) }
abbrev nwOa3 : Oper := { dst := some 47, op := Go.Op.binOp Go.BinOp.neq 25 (Go.Operand.tmp 46) (Go.Operand.const (Go.Value.int Go.IntKind.i64 0)) 25, type := 4, pos := "law.go:149", after := #[{ on := 2, ground := Go.Ground.data }, { on := 1, ground := Go.Ground.guard }], guard := some (1, true) }
abbrev nwOa4 : Oper := { dst := some 48, op := Go.Op.move (Go.Operand.tmp 47), type := 4, pos := "law.go:149", after := #[{ on := 3, ground := Go.Ground.data }, { on := 1, ground := Go.Ground.chain }, { on := 1, ground := Go.Ground.guard }], guard := some (1, true) }
abbrev nwOa5 : Oper := { dst := some 49, op := Go.Op.move (Go.Operand.tmp 12), type := 22, pos := "law.go:149", after := #[{ on := 4, ground := Go.Ground.guard }], guard := some (4, false) }
abbrev nwOa6 : Oper := { dst := some 50, op := Go.Op.load 35 (Go.Operand.tmp 5), type := 35, pos := "law.go:149", after := #[{ on := 4, ground := Go.Ground.guard }], guard := some (4, false) }
abbrev nwOa7 : Oper := { dst := some 51, op := Go.Op.call { callee := Go.Callee.value (Go.Operand.func 32), args := #[Go.Operand.tmp 49, Go.Operand.tmp 50], argTypes := #[22, 35] }, type := 4, pos := "law.go:149", after := #[{ on := 5, ground := Go.Ground.data }, { on := 6, ground := Go.Ground.data }, { on := 4, ground := Go.Ground.chain }, { on := 4, ground := Go.Ground.guard }], guard := some (4, false) }
abbrev nwOa8 : Oper := { dst := some 52, op := Go.Op.move (Go.Operand.tmp 0), type := 22, pos := "law.go:149", after := #[{ on := 4, ground := Go.Ground.guard }], guard := some (4, false) }
abbrev nwOa9 : Oper := { dst := some 53, op := Go.Op.load 35 (Go.Operand.tmp 5), type := 35, pos := "law.go:149", after := #[{ on := 4, ground := Go.Ground.guard }], guard := some (4, false) }
abbrev nwOa10 : Oper := { dst := some 54, op := Go.Op.call { callee := Go.Callee.value (Go.Operand.func 32), args := #[Go.Operand.tmp 52, Go.Operand.tmp 53], argTypes := #[22, 35] }, type := 4, pos := "law.go:149", after := #[{ on := 8, ground := Go.Ground.data }, { on := 9, ground := Go.Ground.data }, { on := 7, ground := Go.Ground.chain }, { on := 4, ground := Go.Ground.guard }], guard := some (4, false) }
abbrev nwOa11 : Oper := { dst := some 55, op := Go.Op.binOp Go.BinOp.eql 4 (Go.Operand.tmp 51) (Go.Operand.tmp 54) 4, type := 4, pos := "law.go:149", after := #[{ on := 7, ground := Go.Ground.data }, { on := 10, ground := Go.Ground.data }, { on := 4, ground := Go.Ground.guard }], guard := some (4, false) }
abbrev nwOa12 : Oper := { dst := some 56, op := Go.Op.pick (Go.Operand.tmp 48) (Go.Operand.const (Go.Value.bool true)) (Go.Operand.tmp 55), type := 4, pos := "law.go:149", after := #[{ on := 4, ground := Go.Ground.data }, { on := 11, ground := Go.Ground.data }, { on := 1, ground := Go.Ground.guard }], guard := some (1, true) }
abbrev nwOa13 : Oper := { dst := some 57, op := Go.Op.pick (Go.Operand.tmp 45) (Go.Operand.tmp 56) (Go.Operand.const (Go.Value.bool false)), type := 4, pos := "law.go:149", after := #[{ on := 1, ground := Go.Ground.data }, { on := 12, ground := Go.Ground.data }], guard := none }
abbrev nwOa14 : Oper := { dst := some 6, op := Go.Op.assign (Go.Operand.tmp 57), type := 4, pos := "law.go:149", after := #[{ on := 13, ground := Go.Ground.data }, { on := 10, ground := Go.Ground.chain }, { on := 0, ground := Go.Ground.phase }, { on := 1, ground := Go.Ground.phase }, { on := 2, ground := Go.Ground.phase }, { on := 3, ground := Go.Ground.phase }, { on := 4, ground := Go.Ground.phase }, { on := 5, ground := Go.Ground.phase }, { on := 6, ground := Go.Ground.phase }, { on := 7, ground := Go.Ground.phase }, { on := 8, ground := Go.Ground.phase }, { on := 9, ground := Go.Ground.phase }, { on := 10, ground := Go.Ground.phase }, { on := 11, ground := Go.Ground.phase }, { on := 12, ground := Go.Ground.phase }, { on := 13, ground := Go.Ground.phase }], guard := none }
abbrev nwOb0 : Oper := { dst := some 58, op := Go.Op.move (Go.Operand.tmp 7), type := 4, pos := "law.go:151", after := #[], guard := none }
abbrev nwOb1 : Oper := { dst := some 59, op := Go.Op.move (Go.Operand.tmp 58), type := 4, pos := "law.go:151", after := #[{ on := 0, ground := Go.Ground.data }], guard := none }
abbrev nwOb2 : Oper := { dst := some 60, op := Go.Op.move (Go.Operand.tmp 11), type := 25, pos := "law.go:151", after := #[{ on := 1, ground := Go.Ground.guard }], guard := some (1, true) }
abbrev nwOb3 : Oper := { dst := some 61, op := Go.Op.binOp Go.BinOp.eql 25 (Go.Operand.tmp 60) (Go.Operand.const (Go.Value.int Go.IntKind.i64 0)) 25, type := 4, pos := "law.go:151", after := #[{ on := 2, ground := Go.Ground.data }, { on := 1, ground := Go.Ground.guard }], guard := some (1, true) }
abbrev nwOb4 : Oper := { dst := some 62, op := Go.Op.pick (Go.Operand.tmp 59) (Go.Operand.tmp 61) (Go.Operand.const (Go.Value.bool false)), type := 4, pos := "law.go:151", after := #[{ on := 1, ground := Go.Ground.data }, { on := 3, ground := Go.Ground.data }], guard := none }
abbrev nwOb5 : Oper := { dst := some 63, op := Go.Op.move (Go.Operand.tmp 62), type := 4, pos := "law.go:151", after := #[{ on := 4, ground := Go.Ground.data }, { on := 1, ground := Go.Ground.chain }], guard := none }
abbrev nwOb6 : Oper := { dst := some 64, op := Go.Op.move (Go.Operand.tmp 10), type := 22, pos := "law.go:151", after := #[{ on := 5, ground := Go.Ground.guard }], guard := some (5, true) }
abbrev nwOb7 : Oper := { dst := some 65, op := Go.Op.load 35 (Go.Operand.tmp 5), type := 35, pos := "law.go:151", after := #[{ on := 5, ground := Go.Ground.guard }], guard := some (5, true) }
abbrev nwOb8 : Oper := { dst := some 66, op := Go.Op.call { callee := Go.Callee.value (Go.Operand.func 32), args := #[Go.Operand.tmp 64, Go.Operand.tmp 65], argTypes := #[22, 35] }, type := 4, pos := "law.go:151", after := #[{ on := 6, ground := Go.Ground.data }, { on := 7, ground := Go.Ground.data }, { on := 5, ground := Go.Ground.chain }, { on := 5, ground := Go.Ground.guard }], guard := some (5, true) }
abbrev nwOb9 : Oper := { dst := some 67, op := Go.Op.move (Go.Operand.tmp 8), type := 22, pos := "law.go:151", after := #[{ on := 5, ground := Go.Ground.guard }], guard := some (5, true) }
abbrev nwOb10 : Oper := { dst := some 68, op := Go.Op.load 35 (Go.Operand.tmp 5), type := 35, pos := "law.go:151", after := #[{ on := 5, ground := Go.Ground.guard }], guard := some (5, true) }
abbrev nwOb11 : Oper := { dst := some 69, op := Go.Op.call { callee := Go.Callee.value (Go.Operand.func 32), args := #[Go.Operand.tmp 67, Go.Operand.tmp 68], argTypes := #[22, 35] }, type := 4, pos := "law.go:151", after := #[{ on := 9, ground := Go.Ground.data }, { on := 10, ground := Go.Ground.data }, { on := 8, ground := Go.Ground.chain }, { on := 5, ground := Go.Ground.guard }], guard := some (5, true) }
abbrev nwOb12 : Oper := { dst := some 70, op := Go.Op.binOp Go.BinOp.eql 4 (Go.Operand.tmp 66) (Go.Operand.tmp 69) 4, type := 4, pos := "law.go:151", after := #[{ on := 8, ground := Go.Ground.data }, { on := 11, ground := Go.Ground.data }, { on := 5, ground := Go.Ground.guard }], guard := some (5, true) }
abbrev nwOb13 : Oper := { dst := some 71, op := Go.Op.pick (Go.Operand.tmp 63) (Go.Operand.tmp 70) (Go.Operand.const (Go.Value.bool false)), type := 4, pos := "law.go:151", after := #[{ on := 5, ground := Go.Ground.data }, { on := 12, ground := Go.Ground.data }], guard := none }
abbrev nwOb14 : Oper := { dst := some 72, op := Go.Op.move (Go.Operand.tmp 71), type := 4, pos := "law.go:151", after := #[{ on := 13, ground := Go.Ground.data }, { on := 11, ground := Go.Ground.chain }], guard := none }
abbrev nwOb15 : Oper := { dst := some 73, op := Go.Op.move (Go.Operand.tmp 13), type := 25, pos := "law.go:151", after := #[{ on := 14, ground := Go.Ground.guard }], guard := some (14, true) }
abbrev nwOb16 : Oper := { dst := some 74, op := Go.Op.binOp Go.BinOp.eql 25 (Go.Operand.tmp 73) (Go.Operand.const (Go.Value.int Go.IntKind.i64 8)) 25, type := 4, pos := "law.go:151", after := #[{ on := 15, ground := Go.Ground.data }, { on := 14, ground := Go.Ground.guard }], guard := some (14, true) }
abbrev nwOb17 : Oper := { dst := some 75, op := Go.Op.move (Go.Operand.tmp 74), type := 4, pos := "law.go:151", after := #[{ on := 16, ground := Go.Ground.data }, { on := 14, ground := Go.Ground.chain }, { on := 14, ground := Go.Ground.guard }], guard := some (14, true) }
abbrev nwOb18 : Oper := { dst := some 76, op := Go.Op.move (Go.Operand.tmp 13), type := 25, pos := "law.go:151", after := #[{ on := 17, ground := Go.Ground.guard }], guard := some (17, false) }
abbrev nwOb19 : Oper := { dst := some 77, op := Go.Op.binOp Go.BinOp.eql 25 (Go.Operand.tmp 76) (Go.Operand.const (Go.Value.int Go.IntKind.i64 0)) 25, type := 4, pos := "law.go:151", after := #[{ on := 18, ground := Go.Ground.data }, { on := 17, ground := Go.Ground.guard }], guard := some (17, false) }
abbrev nwOb20 : Oper := { dst := some 78, op := Go.Op.move (Go.Operand.tmp 77), type := 4, pos := "law.go:151", after := #[{ on := 19, ground := Go.Ground.data }, { on := 17, ground := Go.Ground.chain }, { on := 17, ground := Go.Ground.guard }], guard := some (17, false) }
abbrev nwOb21 : Oper := { dst := some 79, op := Go.Op.move (Go.Operand.tmp 12), type := 22, pos := "law.go:151", after := #[{ on := 20, ground := Go.Ground.guard }], guard := some (20, true) }
abbrev nwOb22 : Oper := { dst := some 80, op := Go.Op.load 35 (Go.Operand.tmp 5), type := 35, pos := "law.go:151", after := #[{ on := 20, ground := Go.Ground.guard }], guard := some (20, true) }
abbrev nwOb23 : Oper := { dst := some 81, op := Go.Op.call { callee := Go.Callee.value (Go.Operand.func 32), args := #[Go.Operand.tmp 79, Go.Operand.tmp 80], argTypes := #[22, 35] }, type := 4, pos := "law.go:151", after := #[{ on := 21, ground := Go.Ground.data }, { on := 22, ground := Go.Ground.data }, { on := 20, ground := Go.Ground.chain }, { on := 20, ground := Go.Ground.guard }], guard := some (20, true) }
abbrev nwOb24 : Oper := { dst := some 82, op := Go.Op.move (Go.Operand.tmp 0), type := 22, pos := "law.go:151", after := #[{ on := 20, ground := Go.Ground.guard }], guard := some (20, true) }
abbrev nwOb25 : Oper := { dst := some 83, op := Go.Op.load 35 (Go.Operand.tmp 5), type := 35, pos := "law.go:151", after := #[{ on := 20, ground := Go.Ground.guard }], guard := some (20, true) }
abbrev nwOb26 : Oper := { dst := some 84, op := Go.Op.call { callee := Go.Callee.value (Go.Operand.func 32), args := #[Go.Operand.tmp 82, Go.Operand.tmp 83], argTypes := #[22, 35] }, type := 4, pos := "law.go:151", after := #[{ on := 24, ground := Go.Ground.data }, { on := 25, ground := Go.Ground.data }, { on := 23, ground := Go.Ground.chain }, { on := 20, ground := Go.Ground.guard }], guard := some (20, true) }
abbrev nwOb27 : Oper := { dst := some 85, op := Go.Op.binOp Go.BinOp.eql 4 (Go.Operand.tmp 81) (Go.Operand.tmp 84) 4, type := 4, pos := "law.go:151", after := #[{ on := 23, ground := Go.Ground.data }, { on := 26, ground := Go.Ground.data }, { on := 20, ground := Go.Ground.guard }], guard := some (20, true) }
abbrev nwOb28 : Oper := { dst := some 86, op := Go.Op.pick (Go.Operand.tmp 78) (Go.Operand.tmp 85) (Go.Operand.const (Go.Value.bool false)), type := 4, pos := "law.go:151", after := #[{ on := 20, ground := Go.Ground.data }, { on := 27, ground := Go.Ground.data }, { on := 17, ground := Go.Ground.guard }], guard := some (17, false) }
abbrev nwOb29 : Oper := { dst := some 87, op := Go.Op.pick (Go.Operand.tmp 75) (Go.Operand.const (Go.Value.bool true)) (Go.Operand.tmp 86), type := 4, pos := "law.go:151", after := #[{ on := 17, ground := Go.Ground.data }, { on := 28, ground := Go.Ground.data }, { on := 14, ground := Go.Ground.guard }], guard := some (14, true) }
abbrev nwOb30 : Oper := { dst := some 88, op := Go.Op.pick (Go.Operand.tmp 72) (Go.Operand.tmp 87) (Go.Operand.const (Go.Value.bool false)), type := 4, pos := "law.go:151", after := #[{ on := 14, ground := Go.Ground.data }, { on := 29, ground := Go.Ground.data }], guard := none }
abbrev nwOb31 : Oper := { dst := some 6, op := Go.Op.assign (Go.Operand.tmp 88), type := 4, pos := "law.go:151", after := #[{ on := 30, ground := Go.Ground.data }, { on := 26, ground := Go.Ground.chain }, { on := 0, ground := Go.Ground.phase }, { on := 1, ground := Go.Ground.phase }, { on := 2, ground := Go.Ground.phase }, { on := 3, ground := Go.Ground.phase }, { on := 4, ground := Go.Ground.phase }, { on := 5, ground := Go.Ground.phase }, { on := 6, ground := Go.Ground.phase }, { on := 7, ground := Go.Ground.phase }, { on := 8, ground := Go.Ground.phase }, { on := 9, ground := Go.Ground.phase }, { on := 10, ground := Go.Ground.phase }, { on := 11, ground := Go.Ground.phase }, { on := 12, ground := Go.Ground.phase }, { on := 13, ground := Go.Ground.phase }, { on := 14, ground := Go.Ground.phase }, { on := 15, ground := Go.Ground.phase }, { on := 16, ground := Go.Ground.phase }, { on := 17, ground := Go.Ground.phase }, { on := 18, ground := Go.Ground.phase }, { on := 19, ground := Go.Ground.phase }, { on := 20, ground := Go.Ground.phase }, { on := 21, ground := Go.Ground.phase }, { on := 22, ground := Go.Ground.phase }, { on := 23, ground := Go.Ground.phase }, { on := 24, ground := Go.Ground.phase }, { on := 25, ground := Go.Ground.phase }, { on := 26, ground := Go.Ground.phase }, { on := 27, ground := Go.Ground.phase }, { on := 28, ground := Go.Ground.phase }, { on := 29, ground := Go.Ground.phase }, { on := 30, ground := Go.Ground.phase }], guard := none }
set_option maxHeartbeats 16000000 in
set_option maxRecDepth 100000 in
theorem nonc_main (vl : Value) (l : List LF) (vm : Value) (m : List LF) (pS pE : Int) (w : World) (rl : LeavesAt w vl l) (gl : ∀ f ∈ l, LeafG f) (rm : LeavesAt w vm m) (gm : ∀ f ∈ m, LeafG f) (hp1 : -9223372036854775808 ≤ pS) (hp2 : pS ≤ 9223372036854775807) (hp3 : -9223372036854775808 ≤ pE) (hp4 : pE ≤ 9223372036854775807) (T : Tabs w) (hf : few22 l = true) (hg : few22 m = true) :
    Calls Tryz.prog 9 #[vl, vm, .agg #[.int .i64 pS, .int .i64 pE]] w fun e w' => e = .returned (.bool true) ∧ Kp w w' := by
  have RFl := Lib.hid (fun w1 (kk : Kp w w1) => few22_any vl l w1 (rl.kp kk) gl)
  have RFm := Lib.hid (fun w1 (kk : Kp w w1) => few22_any vm m w1 (rm.kp kk) gm)
  rw [hf] at RFl
  rw [hg] at RFm
  obtain ⟨ok, sm, ll, lI, lD⟩ := few22_told hf gl
  obtain ⟨okm, smm, lm, kI, dD⟩ := few22_told hg gm
  have RN1 := Lib.hid (fun w1 (kk : Kp w w1) => nwN_any vl vm l m w1 (rl.kp kk) (rm.kp kk) ok okm (T.kp kk) sm (by omega) (by omega))
  have RN2 := Lib.hid (fun v L1 n1 w1 (kk : Kp w w1) (h : LeavesAt w1 v L1) (np : NarP l m n1 L1) => nwO_any v vm l L1 m n1 w1 h (rm.kp kk) np okm (T.kp kk) sm ll hg (by omega) dD)
  have RN3 := Lib.hid (fun w1 (kk : Kp w w1) => nwN_any vl vl l l w1 (rl.kp kk) (rl.kp kk) ok ok (T.kp kk) sm (by omega) (by omega))
  have RHX := Lib.hid (fun v L w1 (h : LeavesAt w1 v L) (ho : LsOk L) (kk : Kp w w1) => denHas_any v L pS pE w1 h ho (T.kp kk) hp1 hp2 hp3 hp4)
  have RHL := Lib.hid (fun w1 (kk : Kp w w1) => denHas_any vl l pS pE w1 (rl.kp kk) ok (T.kp kk) hp1 hp2 hp3 hp4)
  obtain ⟨adl, cal, rfl⟩ := rl.slice
  obtain ⟨adm, cam, rfl⟩ := rm.slice
  obtain ⟨W0, hW⟩ : ∃ W0, W0 = w.alloc (.cells #[.int .i64 pS, .int .i64 pE] 35) := ⟨_, rfl⟩
  have K00 := Lib.hid (show Kp w W0 by rw [hW]; exact Kp.alloc _ _)
  have HB := Lib.hid (fun w1 (k : Kp W0 w1) => show w1.cell? ⟨w.heap.size, 0, none⟩ = some (.int .i64 pS) ∧ w1.cell? ⟨w.heap.size, 1, none⟩ = some (.int .i64 pE) from ⟨cell_up k (show W0.cell? ⟨w.heap.size, 0, none⟩ = some (.int .i64 pS) by rw [hW]; simp), cell_up k (show W0.cell? ⟨w.heap.size, 1, none⟩ = some (.int .i64 pE) by rw [hW]; simp)⟩)
  obtain ⟨c0, c1⟩ := HB.out W0 (Kp.refl _)
  have K0 := Lib.hid (Kp.refl W0)
  have HW := Lib.hid hW
  clear hW
  have AW := Lib.hid (fun w1 (kk : Kp W0 w1) => awake22 w1 (T.kp (K00.out.trans kk)))
  have F1 := Lib.hid (fun w1 (kk : Kp W0 w1) => RFl.out w1 (K00.out.trans kk))
  have F2 := Lib.hid (fun w1 (kk : Kp W0 w1) => RFm.out w1 (K00.out.trans kk))
  have N1 := Lib.hid (fun w1 (kk : Kp W0 w1) => RN1.out w1 (K00.out.trans kk))
  have N2 := Lib.hid (fun v L1 n1 w1 (kk : Kp W0 w1) h np => RN2.out v L1 n1 w1 (K00.out.trans kk) h np)
  have N3 := Lib.hid (fun w1 (kk : Kp W0 w1) => RN3.out w1 (K00.out.trans kk))
  have HX1 := Lib.hid (fun v L w1 h ho (kk : Kp W0 w1) => RHX.out v L w1 h ho (K00.out.trans kk))
  have HL1 := Lib.hid (fun w1 (kk : Kp W0 w1) => RHL.out w1 (K00.out.trans kk))
  clear rl rm gl gm T RN1 RN2 RN3 RHX RHL RFl RFm ok sm okm smm kI dD hf hg ll lI lD lm
  go_enter Tryz.func9, Tryz.ntmps9
  go_wp2_with fail
  rw [← HW.out]
  refine (AW.out _ (by first | with_reducible exact K0.out | with_reducible exact K0.out.trans (Kp.alloc _ _) | with_reducible exact (K0.out.trans (Kp.alloc _ _)).trans (Kp.alloc _ _) | with_reducible exact ((K0.out.trans (Kp.alloc _ _)).trans (Kp.alloc _ _)).trans (Kp.alloc _ _) | with_reducible exact K0.out.trans (Kp.drew _) | with_reducible exact K0.out.trans (Kp.drewN _ _))).mono ?_
  rintro e w1 ⟨rfl, kk⟩
  have K1 := Lib.hid ((show Kp W0 _ from (by first | with_reducible exact K0.out | with_reducible exact K0.out.trans (Kp.alloc _ _) | with_reducible exact (K0.out.trans (Kp.alloc _ _)).trans (Kp.alloc _ _) | with_reducible exact ((K0.out.trans (Kp.alloc _ _)).trans (Kp.alloc _ _)).trans (Kp.alloc _ _) | with_reducible exact K0.out.trans (Kp.drew _) | with_reducible exact K0.out.trans (Kp.drewN _ _))).trans kk)
  clear kk
  clear c0 c1
  obtain ⟨c0, c1⟩ := HB.out w1 K1.out
  go_wp2_with fail
  refine (F1.out _ (by first | with_reducible exact K1.out | with_reducible exact K1.out.trans (Kp.alloc _ _) | with_reducible exact (K1.out.trans (Kp.alloc _ _)).trans (Kp.alloc _ _) | with_reducible exact ((K1.out.trans (Kp.alloc _ _)).trans (Kp.alloc _ _)).trans (Kp.alloc _ _) | with_reducible exact K1.out.trans (Kp.drew _) | with_reducible exact K1.out.trans (Kp.drewN _ _))).mono ?_
  rintro e w2 ⟨rfl, kk⟩
  have K2 := Lib.hid ((show Kp W0 _ from (by first | with_reducible exact K1.out | with_reducible exact K1.out.trans (Kp.alloc _ _) | with_reducible exact (K1.out.trans (Kp.alloc _ _)).trans (Kp.alloc _ _) | with_reducible exact ((K1.out.trans (Kp.alloc _ _)).trans (Kp.alloc _ _)).trans (Kp.alloc _ _) | with_reducible exact K1.out.trans (Kp.drew _) | with_reducible exact K1.out.trans (Kp.drewN _ _))).trans kk)
  clear kk
  clear c0 c1
  obtain ⟨c0, c1⟩ := HB.out w2 K2.out
  go_wp2_with fail
  refine (F2.out _ (by first | with_reducible exact K2.out | with_reducible exact K2.out.trans (Kp.alloc _ _) | with_reducible exact (K2.out.trans (Kp.alloc _ _)).trans (Kp.alloc _ _) | with_reducible exact ((K2.out.trans (Kp.alloc _ _)).trans (Kp.alloc _ _)).trans (Kp.alloc _ _) | with_reducible exact K2.out.trans (Kp.drew _) | with_reducible exact K2.out.trans (Kp.drewN _ _))).mono ?_
  rintro e w3 ⟨rfl, kk⟩
  have K3 := Lib.hid ((show Kp W0 _ from (by first | with_reducible exact K2.out | with_reducible exact K2.out.trans (Kp.alloc _ _) | with_reducible exact (K2.out.trans (Kp.alloc _ _)).trans (Kp.alloc _ _) | with_reducible exact ((K2.out.trans (Kp.alloc _ _)).trans (Kp.alloc _ _)).trans (Kp.alloc _ _) | with_reducible exact K2.out.trans (Kp.drew _) | with_reducible exact K2.out.trans (Kp.drewN _ _))).trans kk)
  clear kk
  clear c0 c1
  obtain ⟨c0, c1⟩ := HB.out w3 K3.out
  go_wp2_with fail
  refine (N1.out _ (by first | with_reducible exact K3.out | with_reducible exact K3.out.trans (Kp.alloc _ _) | with_reducible exact (K3.out.trans (Kp.alloc _ _)).trans (Kp.alloc _ _) | with_reducible exact ((K3.out.trans (Kp.alloc _ _)).trans (Kp.alloc _ _)).trans (Kp.alloc _ _) | with_reducible exact K3.out.trans (Kp.drew _) | with_reducible exact K3.out.trans (Kp.drewN _ _))).mono ?_
  rintro e w4 ⟨da, La, ca, na, rfl, ⟨la, pa⟩, kk⟩
  have K4 := Lib.hid ((show Kp W0 _ from (by first | with_reducible exact K3.out | with_reducible exact K3.out.trans (Kp.alloc _ _) | with_reducible exact (K3.out.trans (Kp.alloc _ _)).trans (Kp.alloc _ _) | with_reducible exact ((K3.out.trans (Kp.alloc _ _)).trans (Kp.alloc _ _)).trans (Kp.alloc _ _) | with_reducible exact K3.out.trans (Kp.drew _) | with_reducible exact K3.out.trans (Kp.drewN _ _))).trans kk)
  have LA := Lib.hid la
  have PA := Lib.hid pa
  clear kk la pa
  clear c0 c1
  obtain ⟨c0, c1⟩ := HB.out w4 K4.out
  have G4_4 := Lib.hid (Kp.refl w4)
  go_wp2_with fail
  refine (N2.out _ _ _ _ (by first | with_reducible exact K4.out | with_reducible exact K4.out.trans (Kp.alloc _ _) | with_reducible exact (K4.out.trans (Kp.alloc _ _)).trans (Kp.alloc _ _) | with_reducible exact ((K4.out.trans (Kp.alloc _ _)).trans (Kp.alloc _ _)).trans (Kp.alloc _ _) | with_reducible exact K4.out.trans (Kp.drew _) | with_reducible exact K4.out.trans (Kp.drewN _ _)) (LA.out.kp (G4_4.out.trans (by first | with_reducible exact Kp.refl _ | with_reducible exact Kp.alloc _ _ | with_reducible exact (Kp.alloc _ _).trans (Kp.alloc _ _) | with_reducible exact ((Kp.alloc _ _).trans (Kp.alloc _ _)).trans (Kp.alloc _ _) | with_reducible exact Kp.drew _ | with_reducible exact Kp.drewN _ _))) PA.out).mono ?_
  rintro e w5 ⟨db, Lb, cb, nb, rfl, ⟨lb, pb⟩, kk⟩
  have K5 := Lib.hid ((show Kp W0 _ from (by first | with_reducible exact K4.out | with_reducible exact K4.out.trans (Kp.alloc _ _) | with_reducible exact (K4.out.trans (Kp.alloc _ _)).trans (Kp.alloc _ _) | with_reducible exact ((K4.out.trans (Kp.alloc _ _)).trans (Kp.alloc _ _)).trans (Kp.alloc _ _) | with_reducible exact K4.out.trans (Kp.drew _) | with_reducible exact K4.out.trans (Kp.drewN _ _))).trans kk)
  have G4_5 := Lib.hid (G4_4.out.trans ((show Kp w4 _ from (by first | with_reducible exact Kp.refl _ | with_reducible exact Kp.alloc _ _ | with_reducible exact (Kp.alloc _ _).trans (Kp.alloc _ _) | with_reducible exact ((Kp.alloc _ _).trans (Kp.alloc _ _)).trans (Kp.alloc _ _) | with_reducible exact Kp.drew _ | with_reducible exact Kp.drewN _ _)).trans kk))
  have LB := Lib.hid lb
  have PB := Lib.hid pb
  clear kk lb pb
  clear c0 c1
  obtain ⟨c0, c1⟩ := HB.out w5 K5.out
  have G5_5 := Lib.hid (Kp.refl w5)
  go_wp2_with fail
  refine (N3.out _ (by first | with_reducible exact K5.out | with_reducible exact K5.out.trans (Kp.alloc _ _) | with_reducible exact (K5.out.trans (Kp.alloc _ _)).trans (Kp.alloc _ _) | with_reducible exact ((K5.out.trans (Kp.alloc _ _)).trans (Kp.alloc _ _)).trans (Kp.alloc _ _) | with_reducible exact K5.out.trans (Kp.drew _) | with_reducible exact K5.out.trans (Kp.drewN _ _))).mono ?_
  rintro e w6 ⟨dc, Lc, cc, nc, rfl, ⟨lc, pc⟩, kk⟩
  have K6 := Lib.hid ((show Kp W0 _ from (by first | with_reducible exact K5.out | with_reducible exact K5.out.trans (Kp.alloc _ _) | with_reducible exact (K5.out.trans (Kp.alloc _ _)).trans (Kp.alloc _ _) | with_reducible exact ((K5.out.trans (Kp.alloc _ _)).trans (Kp.alloc _ _)).trans (Kp.alloc _ _) | with_reducible exact K5.out.trans (Kp.drew _) | with_reducible exact K5.out.trans (Kp.drewN _ _))).trans kk)
  have G4_6 := Lib.hid (G4_5.out.trans ((show Kp w5 _ from (by first | with_reducible exact Kp.refl _ | with_reducible exact Kp.alloc _ _ | with_reducible exact (Kp.alloc _ _).trans (Kp.alloc _ _) | with_reducible exact ((Kp.alloc _ _).trans (Kp.alloc _ _)).trans (Kp.alloc _ _) | with_reducible exact Kp.drew _ | with_reducible exact Kp.drewN _ _)).trans kk))
  have G5_6 := Lib.hid (G5_5.out.trans ((show Kp w5 _ from (by first | with_reducible exact Kp.refl _ | with_reducible exact Kp.alloc _ _ | with_reducible exact (Kp.alloc _ _).trans (Kp.alloc _ _) | with_reducible exact ((Kp.alloc _ _).trans (Kp.alloc _ _)).trans (Kp.alloc _ _) | with_reducible exact Kp.drew _ | with_reducible exact Kp.drewN _ _)).trans kk))
  have LC := Lib.hid lc
  have PC := Lib.hid pc
  clear kk lc pc
  clear c0 c1
  obtain ⟨c0, c1⟩ := HB.out w6 K6.out
  have XA := Lib.hid (fun w' (kk : Kp w6 w') => HX1.out _ La w' (LA.out.kp (G4_6.out.trans kk)) (nar_ok PA.out).1 (K6.out.trans kk))
  have XB := Lib.hid (fun w' (kk : Kp w6 w') => HX1.out _ Lb w' (LB.out.kp (G5_6.out.trans kk)) (nar_ok PB.out).1 (K6.out.trans kk))
  have XC := Lib.hid (fun w' (kk : Kp w6 w') => HX1.out _ Lc w' (LC.out.kp kk) (nar_ok PC.out).1 (K6.out.trans kk))
  have XL := Lib.hid (fun w' (kk : Kp w6 w') => HL1.out w' (K6.out.trans kk))
  obtain ⟨hc, hs⟩ := self_told PC.out
  have HS := Lib.hid hs
  have LLA := LA.out.len
  have LLB := LB.out.len
  have LLC := LC.out.len
  unfold maxLen at LLA LLB LLC
  clear hs LA LB LC HX1 HL1 N1 N2 N3 PC
  generalize La.length = ya at *
  generalize Lb.length = yb at *
  generalize Lc.length = yc at *
  by_cases a0 : na = 0
  rotate_left
  · have q1 : (na != 0) = true := by simp [a0]
    clear PA PB a0
    rcases hc with rfl | ⟨rfl, _⟩ | rfl
    ·
      have KS := Lib.hid (fun w' (kq : Kp w6 w') => show w'.cell? ⟨w.heap.size, 0, none⟩ = some (.int .i64 pS) ∧ w'.cell? ⟨w.heap.size, 1, none⟩ = some (.int .i64 pE) ∧ Kp w6 w' from ⟨(HB.out w' (K6.out.trans kq)).1, (HB.out w' (K6.out.trans kq)).2, kq⟩)
      go_wp2_with fail
      refine wp_region_held_drew (S := fun w' => w'.cell? ⟨w.heap.size, 0, none⟩ = some (.int .i64 pS) ∧ w'.cell? ⟨w.heap.size, 1, none⟩ = some (.int .i64 pE) ∧ Kp w6 w') (by kernel_rfl) ?_ (fun hHeld0 => ?_)
      · (try dsimp only); exact KS.out _ (by first | assumption | exact Kp.drew _)
      refine tkW (v := ?_) 0 nwOa0 rfl (by kernel_rfl) (by kernel_rfl) (by kernel_rfl) (fun _ _ _ h => h) (by rfl) ?_ (by assumption) ?_
      rotate_left
      · intro w hSw; (try dsimp only at hSw); go_simp; (try with_reducible rfl)
      (try simp only [Act.put, nwOa0, List.setIfInBounds_toArray, List.set_cons_zero, List.set_cons_succ])
      refine tkW (v := ?_) 1 nwOa1 rfl (by kernel_rfl) (by kernel_rfl) (by kernel_rfl) (fun _ _ _ h => h) (by rfl) ?_ (by assumption) ?_
      rotate_left
      · intro w hSw; (try dsimp only at hSw); go_simp; (try with_reducible rfl)
      (try simp only [Act.put, nwOa1, List.setIfInBounds_toArray, List.set_cons_zero, List.set_cons_succ])
      refine tkW (v := ?_) 2 nwOa2 rfl (by kernel_rfl) (by kernel_rfl) (by kernel_rfl) (fun _ _ _ h => h) (by rfl) ?_ (by assumption) ?_
      rotate_left
      · intro w hSw; (try dsimp only at hSw); go_simp; (try with_reducible rfl)
      (try simp only [Act.put, nwOa2, List.setIfInBounds_toArray, List.set_cons_zero, List.set_cons_succ])
      refine tkW (v := ?_) 3 nwOa3 rfl (by kernel_rfl) (by kernel_rfl) (by kernel_rfl) (fun _ _ _ h => h) (by rfl) ?_ (by assumption) ?_
      rotate_left
      · intro w hSw; (try dsimp only at hSw); go_simp; (try with_reducible rfl)
      (try simp only [Act.put, nwOa3, List.setIfInBounds_toArray, List.set_cons_zero, List.set_cons_succ])
      refine tkW (v := ?_) 4 nwOa4 rfl (by kernel_rfl) (by kernel_rfl) (by kernel_rfl) (fun _ _ _ h => h) (by rfl) ?_ (by assumption) ?_
      rotate_left
      · intro w hSw; (try dsimp only at hSw); go_simp; (try with_reducible rfl)
      (try simp only [Act.put, nwOa4, List.setIfInBounds_toArray, List.set_cons_zero, List.set_cons_succ])
      refine tkU 5 nwOa5 rfl (by kernel_rfl) (by kernel_rfl) (by kernel_rfl) (fun _ _ _ h => h) (by rfl) (by assumption) ?_
      (try simp only [Act.put, nwOa5, List.setIfInBounds_toArray, List.set_cons_zero, List.set_cons_succ])
      refine tkU 6 nwOa6 rfl (by kernel_rfl) (by kernel_rfl) (by kernel_rfl) (fun _ _ _ h => h) (by rfl) (by assumption) ?_
      (try simp only [Act.put, nwOa6, List.setIfInBounds_toArray, List.set_cons_zero, List.set_cons_succ])
      refine tkU 7 nwOa7 rfl (by kernel_rfl) (by kernel_rfl) (by kernel_rfl) (fun _ _ _ h => h) (by rfl) (by assumption) ?_
      (try simp only [Act.put, nwOa7, List.setIfInBounds_toArray, List.set_cons_zero, List.set_cons_succ])
      refine tkU 8 nwOa8 rfl (by kernel_rfl) (by kernel_rfl) (by kernel_rfl) (fun _ _ _ h => h) (by rfl) (by assumption) ?_
      (try simp only [Act.put, nwOa8, List.setIfInBounds_toArray, List.set_cons_zero, List.set_cons_succ])
      refine tkU 9 nwOa9 rfl (by kernel_rfl) (by kernel_rfl) (by kernel_rfl) (fun _ _ _ h => h) (by rfl) (by assumption) ?_
      (try simp only [Act.put, nwOa9, List.setIfInBounds_toArray, List.set_cons_zero, List.set_cons_succ])
      refine tkU 10 nwOa10 rfl (by kernel_rfl) (by kernel_rfl) (by kernel_rfl) (fun _ _ _ h => h) (by rfl) (by assumption) ?_
      (try simp only [Act.put, nwOa10, List.setIfInBounds_toArray, List.set_cons_zero, List.set_cons_succ])
      refine tkU 11 nwOa11 rfl (by kernel_rfl) (by kernel_rfl) (by kernel_rfl) (fun _ _ _ h => h) (by rfl) (by assumption) ?_
      (try simp only [Act.put, nwOa11, List.setIfInBounds_toArray, List.set_cons_zero, List.set_cons_succ])
      refine tkW (v := ?_) 12 nwOa12 rfl (by kernel_rfl) (by kernel_rfl) (by kernel_rfl) (fun _ _ _ h => h) (by rfl) ?_ (by assumption) ?_
      rotate_left
      · intro w hSw; (try dsimp only at hSw); go_simp; (try with_reducible rfl)
      (try simp only [Act.put, nwOa12, List.setIfInBounds_toArray, List.set_cons_zero, List.set_cons_succ])
      refine tkW (v := ?_) 13 nwOa13 rfl (by kernel_rfl) (by kernel_rfl) (by kernel_rfl) (fun _ _ _ h => h) (by rfl) ?_ (by assumption) ?_
      rotate_left
      · intro w hSw; (try dsimp only at hSw); go_simp; (try with_reducible rfl)
      (try simp only [Act.put, nwOa13, List.setIfInBounds_toArray, List.set_cons_zero, List.set_cons_succ])
      refine tkW (v := ?_) 14 nwOa14 rfl (by kernel_rfl) (by kernel_rfl) (by kernel_rfl) (fun _ _ _ h => h) (by rfl) ?_ (by assumption) ?_
      rotate_left
      · intro w hSw; (try dsimp only at hSw); go_simp; (try with_reducible rfl)
      (try simp only [Act.put, nwOa14, List.setIfInBounds_toArray, List.set_cons_zero, List.set_cons_succ])
      refine wpAnyH_done (by kernel_rfl) ?_ _
      go_wp2
      go_ret
      exact ⟨rfl, K00.out.trans (K6.out.trans (by first | assumption | exact Kp.drew _))⟩
    ·
      have KS := Lib.hid (fun w' (kq : Kp w6 w') => show w'.cell? ⟨w.heap.size, 0, none⟩ = some (.int .i64 pS) ∧ w'.cell? ⟨w.heap.size, 1, none⟩ = some (.int .i64 pE) ∧ Kp w6 w' from ⟨(HB.out w' (K6.out.trans kq)).1, (HB.out w' (K6.out.trans kq)).2, kq⟩)
      go_wp2_with fail
      refine wp_region_held_drew (S := fun w' => w'.cell? ⟨w.heap.size, 0, none⟩ = some (.int .i64 pS) ∧ w'.cell? ⟨w.heap.size, 1, none⟩ = some (.int .i64 pE) ∧ Kp w6 w') (by kernel_rfl) ?_ (fun hHeld0 => ?_)
      · (try dsimp only); exact KS.out _ (by first | assumption | exact Kp.drew _)
      refine tkW (v := ?_) 0 nwOa0 rfl (by kernel_rfl) (by kernel_rfl) (by kernel_rfl) (fun _ _ _ h => h) (by rfl) ?_ (by assumption) ?_
      rotate_left
      · intro w hSw; (try dsimp only at hSw); go_simp; (try with_reducible rfl)
      (try simp only [Act.put, nwOa0, List.setIfInBounds_toArray, List.set_cons_zero, List.set_cons_succ])
      refine tkW (v := ?_) 1 nwOa1 rfl (by kernel_rfl) (by kernel_rfl) (by kernel_rfl) (fun _ _ _ h => h) (by rfl) ?_ (by assumption) ?_
      rotate_left
      · intro w hSw; (try dsimp only at hSw); go_simp; (try with_reducible rfl)
      (try simp only [Act.put, nwOa1, List.setIfInBounds_toArray, List.set_cons_zero, List.set_cons_succ])
      refine tkW (v := ?_) 2 nwOa2 rfl (by kernel_rfl) (by kernel_rfl) (by kernel_rfl) (fun _ _ _ h => h) (by rfl) ?_ (by assumption) ?_
      rotate_left
      · intro w hSw; (try dsimp only at hSw); go_simp; (try with_reducible rfl)
      (try simp only [Act.put, nwOa2, List.setIfInBounds_toArray, List.set_cons_zero, List.set_cons_succ])
      refine tkW (v := ?_) 3 nwOa3 rfl (by kernel_rfl) (by kernel_rfl) (by kernel_rfl) (fun _ _ _ h => h) (by rfl) ?_ (by assumption) ?_
      rotate_left
      · intro w hSw; (try dsimp only at hSw); go_simp; (try with_reducible rfl)
      (try simp only [Act.put, nwOa3, List.setIfInBounds_toArray, List.set_cons_zero, List.set_cons_succ])
      refine tkW (v := ?_) 4 nwOa4 rfl (by kernel_rfl) (by kernel_rfl) (by kernel_rfl) (fun _ _ _ h => h) (by rfl) ?_ (by assumption) ?_
      rotate_left
      · intro w hSw; (try dsimp only at hSw); go_simp; (try with_reducible rfl)
      (try simp only [Act.put, nwOa4, List.setIfInBounds_toArray, List.set_cons_zero, List.set_cons_succ])
      refine tkU 5 nwOa5 rfl (by kernel_rfl) (by kernel_rfl) (by kernel_rfl) (fun _ _ _ h => h) (by rfl) (by assumption) ?_
      (try simp only [Act.put, nwOa5, List.setIfInBounds_toArray, List.set_cons_zero, List.set_cons_succ])
      refine tkU 6 nwOa6 rfl (by kernel_rfl) (by kernel_rfl) (by kernel_rfl) (fun _ _ _ h => h) (by rfl) (by assumption) ?_
      (try simp only [Act.put, nwOa6, List.setIfInBounds_toArray, List.set_cons_zero, List.set_cons_succ])
      refine tkU 7 nwOa7 rfl (by kernel_rfl) (by kernel_rfl) (by kernel_rfl) (fun _ _ _ h => h) (by rfl) (by assumption) ?_
      (try simp only [Act.put, nwOa7, List.setIfInBounds_toArray, List.set_cons_zero, List.set_cons_succ])
      refine tkU 8 nwOa8 rfl (by kernel_rfl) (by kernel_rfl) (by kernel_rfl) (fun _ _ _ h => h) (by rfl) (by assumption) ?_
      (try simp only [Act.put, nwOa8, List.setIfInBounds_toArray, List.set_cons_zero, List.set_cons_succ])
      refine tkU 9 nwOa9 rfl (by kernel_rfl) (by kernel_rfl) (by kernel_rfl) (fun _ _ _ h => h) (by rfl) (by assumption) ?_
      (try simp only [Act.put, nwOa9, List.setIfInBounds_toArray, List.set_cons_zero, List.set_cons_succ])
      refine tkU 10 nwOa10 rfl (by kernel_rfl) (by kernel_rfl) (by kernel_rfl) (fun _ _ _ h => h) (by rfl) (by assumption) ?_
      (try simp only [Act.put, nwOa10, List.setIfInBounds_toArray, List.set_cons_zero, List.set_cons_succ])
      refine tkU 11 nwOa11 rfl (by kernel_rfl) (by kernel_rfl) (by kernel_rfl) (fun _ _ _ h => h) (by rfl) (by assumption) ?_
      (try simp only [Act.put, nwOa11, List.setIfInBounds_toArray, List.set_cons_zero, List.set_cons_succ])
      refine tkW (v := ?_) 12 nwOa12 rfl (by kernel_rfl) (by kernel_rfl) (by kernel_rfl) (fun _ _ _ h => h) (by rfl) ?_ (by assumption) ?_
      rotate_left
      · intro w hSw; (try dsimp only at hSw); go_simp; (try with_reducible rfl)
      (try simp only [Act.put, nwOa12, List.setIfInBounds_toArray, List.set_cons_zero, List.set_cons_succ])
      refine tkW (v := ?_) 13 nwOa13 rfl (by kernel_rfl) (by kernel_rfl) (by kernel_rfl) (fun _ _ _ h => h) (by rfl) ?_ (by assumption) ?_
      rotate_left
      · intro w hSw; (try dsimp only at hSw); go_simp; (try with_reducible rfl)
      (try simp only [Act.put, nwOa13, List.setIfInBounds_toArray, List.set_cons_zero, List.set_cons_succ])
      refine tkW (v := ?_) 14 nwOa14 rfl (by kernel_rfl) (by kernel_rfl) (by kernel_rfl) (fun _ _ _ h => h) (by rfl) ?_ (by assumption) ?_
      rotate_left
      · intro w hSw; (try dsimp only at hSw); go_simp; (try with_reducible rfl)
      (try simp only [Act.put, nwOa14, List.setIfInBounds_toArray, List.set_cons_zero, List.set_cons_succ])
      refine wpAnyH_done (by kernel_rfl) ?_ _
      go_wp2
      go_ret
      exact ⟨rfl, K00.out.trans (K6.out.trans (by first | assumption | exact Kp.drew _))⟩
    ·
      rw [HS.out rfl pS pE] at XC
      clear HS XA XB
      generalize hasL l pS pE = bl at *
      have eb : (bl == bl) = true := by simp
      have KS := Lib.hid (fun w' (kq : Kp w6 w') => show w'.cell? ⟨w.heap.size, 0, none⟩ = some (.int .i64 pS) ∧ w'.cell? ⟨w.heap.size, 1, none⟩ = some (.int .i64 pE) ∧ Kp w6 w' from ⟨(HB.out w' (K6.out.trans kq)).1, (HB.out w' (K6.out.trans kq)).2, kq⟩)
      go_wp2_with fail
      refine wp_region_held_drew (S := fun w' => w'.cell? ⟨w.heap.size, 0, none⟩ = some (.int .i64 pS) ∧ w'.cell? ⟨w.heap.size, 1, none⟩ = some (.int .i64 pE) ∧ Kp w6 w') (by kernel_rfl) ?_ (fun hHeld0 => ?_)
      · (try dsimp only); exact KS.out _ (by first | assumption | exact Kp.drew _)
      refine tkW (v := ?_) 0 nwOa0 rfl (by kernel_rfl) (by kernel_rfl) (by kernel_rfl) (fun _ _ _ h => h) (by rfl) ?_ (by assumption) ?_
      rotate_left
      · intro w hSw; (try dsimp only at hSw); go_simp; (try with_reducible rfl)
      (try simp only [Act.put, nwOa0, List.setIfInBounds_toArray, List.set_cons_zero, List.set_cons_succ])
      refine tkW (v := ?_) 1 nwOa1 rfl (by kernel_rfl) (by kernel_rfl) (by kernel_rfl) (fun _ _ _ h => h) (by rfl) ?_ (by assumption) ?_
      rotate_left
      · intro w hSw; (try dsimp only at hSw); go_simp; (try with_reducible rfl)
      (try simp only [Act.put, nwOa1, List.setIfInBounds_toArray, List.set_cons_zero, List.set_cons_succ])
      refine tkW (v := ?_) 2 nwOa2 rfl (by kernel_rfl) (by kernel_rfl) (by kernel_rfl) (fun _ _ _ h => h) (by rfl) ?_ (by assumption) ?_
      rotate_left
      · intro w hSw; (try dsimp only at hSw); go_simp; (try with_reducible rfl)
      (try simp only [Act.put, nwOa2, List.setIfInBounds_toArray, List.set_cons_zero, List.set_cons_succ])
      refine tkW (v := ?_) 3 nwOa3 rfl (by kernel_rfl) (by kernel_rfl) (by kernel_rfl) (fun _ _ _ h => h) (by rfl) ?_ (by assumption) ?_
      rotate_left
      · intro w hSw; (try dsimp only at hSw); go_simp; (try with_reducible rfl)
      (try simp only [Act.put, nwOa3, List.setIfInBounds_toArray, List.set_cons_zero, List.set_cons_succ])
      refine tkW (v := ?_) 4 nwOa4 rfl (by kernel_rfl) (by kernel_rfl) (by kernel_rfl) (fun _ _ _ h => h) (by rfl) ?_ (by assumption) ?_
      rotate_left
      · intro w hSw; (try dsimp only at hSw); go_simp; (try with_reducible rfl)
      (try simp only [Act.put, nwOa4, List.setIfInBounds_toArray, List.set_cons_zero, List.set_cons_succ])
      refine tkW (v := ?_) 5 nwOa5 rfl (by kernel_rfl) (by kernel_rfl) (by kernel_rfl) (fun _ _ _ h => h) (by rfl) ?_ (by assumption) ?_
      rotate_left
      · intro w hSw; (try dsimp only at hSw); go_simp; (try with_reducible rfl)
      (try simp only [Act.put, nwOa5, List.setIfInBounds_toArray, List.set_cons_zero, List.set_cons_succ])
      refine tkW (v := ?_) 6 nwOa6 rfl (by kernel_rfl) (by kernel_rfl) (by kernel_rfl) (fun _ _ _ h => h) (by rfl) ?_ (by assumption) ?_
      rotate_left
      · intro w hSw; (try dsimp only at hSw); go_simp; (try with_reducible rfl)
      (try simp only [Act.put, nwOa6, List.setIfInBounds_toArray, List.set_cons_zero, List.set_cons_succ])
      refine tkW (v := ?_) 8 nwOa8 rfl (by kernel_rfl) (by kernel_rfl) (by kernel_rfl) (fun _ _ _ h => h) (by rfl) ?_ (by assumption) ?_
      rotate_left
      · intro w hSw; (try dsimp only at hSw); go_simp; (try with_reducible rfl)
      (try simp only [Act.put, nwOa8, List.setIfInBounds_toArray, List.set_cons_zero, List.set_cons_succ])
      refine tkW (v := ?_) 9 nwOa9 rfl (by kernel_rfl) (by kernel_rfl) (by kernel_rfl) (fun _ _ _ h => h) (by rfl) ?_ (by assumption) ?_
      rotate_left
      · intro w hSw; (try dsimp only at hSw); go_simp; (try with_reducible rfl)
      (try simp only [Act.put, nwOa9, List.setIfInBounds_toArray, List.set_cons_zero, List.set_cons_succ])
      refine tkE 7 nwOa7 rfl (by kernel_rfl) (fun K hK => ?_)
      go_simp
      (refine (XC.out _ (by first | assumption | exact Kp.drew _)).mono ?_; rintro e w' ⟨rfl, k1⟩; have k2 := Kp.trans (show Kp w6 _ from (by first | assumption | exact Kp.drew _)) k1; clear k1)
      (try go_wp2_with fail)
      refine hK.out _ _ ?_ (fun hHeld1 => ?_)
      · (try dsimp only); exact KS.out _ (by first | assumption | exact Kp.drew _)
      clear hK K hHeld0
      (try simp only [Act.put, nwOa7, List.setIfInBounds_toArray, List.set_cons_zero, List.set_cons_succ])
      refine tkE 10 nwOa10 rfl (by kernel_rfl) (fun K hK => ?_)
      go_simp
      (refine (XL.out _ (by first | assumption | exact Kp.drew _)).mono ?_; rintro e w' ⟨rfl, k1⟩; have k2 := Kp.trans (show Kp w6 _ from (by first | assumption | exact Kp.drew _)) k1; clear k1)
      (try go_wp2_with fail)
      refine hK.out _ _ ?_ (fun hHeld2 => ?_)
      · (try dsimp only); exact KS.out _ (by first | assumption | exact Kp.drew _)
      clear hK K hHeld1
      (try simp only [Act.put, nwOa10, List.setIfInBounds_toArray, List.set_cons_zero, List.set_cons_succ])
      refine tkW (v := ?_) 11 nwOa11 rfl (by kernel_rfl) (by kernel_rfl) (by kernel_rfl) (fun _ _ _ h => h) (by rfl) ?_ (by assumption) ?_
      rotate_left
      · intro w hSw; (try dsimp only at hSw); go_simp; (try with_reducible rfl)
      (try simp only [Act.put, nwOa11, List.setIfInBounds_toArray, List.set_cons_zero, List.set_cons_succ])
      refine tkW (v := ?_) 12 nwOa12 rfl (by kernel_rfl) (by kernel_rfl) (by kernel_rfl) (fun _ _ _ h => h) (by rfl) ?_ (by assumption) ?_
      rotate_left
      · intro w hSw; (try dsimp only at hSw); go_simp; (try with_reducible rfl)
      (try simp only [Act.put, nwOa12, List.setIfInBounds_toArray, List.set_cons_zero, List.set_cons_succ])
      refine tkW (v := ?_) 13 nwOa13 rfl (by kernel_rfl) (by kernel_rfl) (by kernel_rfl) (fun _ _ _ h => h) (by rfl) ?_ (by assumption) ?_
      rotate_left
      · intro w hSw; (try dsimp only at hSw); go_simp; (try with_reducible rfl)
      (try simp only [Act.put, nwOa13, List.setIfInBounds_toArray, List.set_cons_zero, List.set_cons_succ])
      refine tkW (v := ?_) 14 nwOa14 rfl (by kernel_rfl) (by kernel_rfl) (by kernel_rfl) (fun _ _ _ h => h) (by rfl) ?_ (by assumption) ?_
      rotate_left
      · intro w hSw; (try dsimp only at hSw); go_simp; (try with_reducible rfl)
      (try simp only [Act.put, nwOa14, List.setIfInBounds_toArray, List.set_cons_zero, List.set_cons_succ])
      refine wpAnyH_done (by kernel_rfl) ?_ _
      go_wp2
      go_ret
      exact ⟨rfl, K00.out.trans (K6.out.trans (by first | assumption | exact Kp.drew _))⟩
  subst a0
  have NN := nine_not PA.out
  obtain ⟨rfl, hh⟩ := once_told PA.out PB.out
  rw [hh pS pE] at XB
  clear hh PA PB
  generalize hasL La pS pE = ba at *
  have ea : (ba == ba) = true := by simp
  rcases hc with rfl | ⟨rfl, h9⟩ | rfl
  ·
    clear NN
    clear HS XC XL
    have KS := Lib.hid (fun w' (kq : Kp w6 w') => show w'.cell? ⟨w.heap.size, 0, none⟩ = some (.int .i64 pS) ∧ w'.cell? ⟨w.heap.size, 1, none⟩ = some (.int .i64 pE) ∧ Kp w6 w' from ⟨(HB.out w' (K6.out.trans kq)).1, (HB.out w' (K6.out.trans kq)).2, kq⟩)
    go_wp2_with fail
    refine wp_region_held_drew (S := fun w' => w'.cell? ⟨w.heap.size, 0, none⟩ = some (.int .i64 pS) ∧ w'.cell? ⟨w.heap.size, 1, none⟩ = some (.int .i64 pE) ∧ Kp w6 w') (by kernel_rfl) ?_ (fun hHeld0 => ?_)
    · (try dsimp only); exact KS.out _ (by first | assumption | exact Kp.drew _)
    refine tkW (v := ?_) 0 nwOb0 rfl (by kernel_rfl) (by kernel_rfl) (by kernel_rfl) (fun _ _ _ h => h) (by rfl) ?_ (by assumption) ?_
    rotate_left
    · intro w hSw; (try dsimp only at hSw); go_simp; (try with_reducible rfl)
    (try simp only [Act.put, nwOb0, List.setIfInBounds_toArray, List.set_cons_zero, List.set_cons_succ])
    refine tkW (v := ?_) 1 nwOb1 rfl (by kernel_rfl) (by kernel_rfl) (by kernel_rfl) (fun _ _ _ h => h) (by rfl) ?_ (by assumption) ?_
    rotate_left
    · intro w hSw; (try dsimp only at hSw); go_simp; (try with_reducible rfl)
    (try simp only [Act.put, nwOb1, List.setIfInBounds_toArray, List.set_cons_zero, List.set_cons_succ])
    refine tkW (v := ?_) 2 nwOb2 rfl (by kernel_rfl) (by kernel_rfl) (by kernel_rfl) (fun _ _ _ h => h) (by rfl) ?_ (by assumption) ?_
    rotate_left
    · intro w hSw; (try dsimp only at hSw); go_simp; (try with_reducible rfl)
    (try simp only [Act.put, nwOb2, List.setIfInBounds_toArray, List.set_cons_zero, List.set_cons_succ])
    refine tkW (v := ?_) 3 nwOb3 rfl (by kernel_rfl) (by kernel_rfl) (by kernel_rfl) (fun _ _ _ h => h) (by rfl) ?_ (by assumption) ?_
    rotate_left
    · intro w hSw; (try dsimp only at hSw); go_simp; (try with_reducible rfl)
    (try simp only [Act.put, nwOb3, List.setIfInBounds_toArray, List.set_cons_zero, List.set_cons_succ])
    refine tkW (v := ?_) 4 nwOb4 rfl (by kernel_rfl) (by kernel_rfl) (by kernel_rfl) (fun _ _ _ h => h) (by rfl) ?_ (by assumption) ?_
    rotate_left
    · intro w hSw; (try dsimp only at hSw); go_simp; (try with_reducible rfl)
    (try simp only [Act.put, nwOb4, List.setIfInBounds_toArray, List.set_cons_zero, List.set_cons_succ])
    refine tkW (v := ?_) 5 nwOb5 rfl (by kernel_rfl) (by kernel_rfl) (by kernel_rfl) (fun _ _ _ h => h) (by rfl) ?_ (by assumption) ?_
    rotate_left
    · intro w hSw; (try dsimp only at hSw); go_simp; (try with_reducible rfl)
    (try simp only [Act.put, nwOb5, List.setIfInBounds_toArray, List.set_cons_zero, List.set_cons_succ])
    refine tkW (v := ?_) 6 nwOb6 rfl (by kernel_rfl) (by kernel_rfl) (by kernel_rfl) (fun _ _ _ h => h) (by rfl) ?_ (by assumption) ?_
    rotate_left
    · intro w hSw; (try dsimp only at hSw); go_simp; (try with_reducible rfl)
    (try simp only [Act.put, nwOb6, List.setIfInBounds_toArray, List.set_cons_zero, List.set_cons_succ])
    refine tkW (v := ?_) 7 nwOb7 rfl (by kernel_rfl) (by kernel_rfl) (by kernel_rfl) (fun _ _ _ h => h) (by rfl) ?_ (by assumption) ?_
    rotate_left
    · intro w hSw; (try dsimp only at hSw); go_simp; (try with_reducible rfl)
    (try simp only [Act.put, nwOb7, List.setIfInBounds_toArray, List.set_cons_zero, List.set_cons_succ])
    refine tkW (v := ?_) 9 nwOb9 rfl (by kernel_rfl) (by kernel_rfl) (by kernel_rfl) (fun _ _ _ h => h) (by rfl) ?_ (by assumption) ?_
    rotate_left
    · intro w hSw; (try dsimp only at hSw); go_simp; (try with_reducible rfl)
    (try simp only [Act.put, nwOb9, List.setIfInBounds_toArray, List.set_cons_zero, List.set_cons_succ])
    refine tkW (v := ?_) 10 nwOb10 rfl (by kernel_rfl) (by kernel_rfl) (by kernel_rfl) (fun _ _ _ h => h) (by rfl) ?_ (by assumption) ?_
    rotate_left
    · intro w hSw; (try dsimp only at hSw); go_simp; (try with_reducible rfl)
    (try simp only [Act.put, nwOb10, List.setIfInBounds_toArray, List.set_cons_zero, List.set_cons_succ])
    refine tkE 8 nwOb8 rfl (by kernel_rfl) (fun K hK => ?_)
    go_simp
    (refine (XB.out _ (by first | assumption | exact Kp.drew _)).mono ?_; rintro e w' ⟨rfl, k1⟩; have k2 := Kp.trans (show Kp w6 _ from (by first | assumption | exact Kp.drew _)) k1; clear k1)
    (try go_wp2_with fail)
    refine hK.out _ _ ?_ (fun hHeld1 => ?_)
    · (try dsimp only); exact KS.out _ (by first | assumption | exact Kp.drew _)
    clear hK K hHeld0
    (try simp only [Act.put, nwOb8, List.setIfInBounds_toArray, List.set_cons_zero, List.set_cons_succ])
    refine tkE 11 nwOb11 rfl (by kernel_rfl) (fun K hK => ?_)
    go_simp
    (refine (XA.out _ (by first | assumption | exact Kp.drew _)).mono ?_; rintro e w' ⟨rfl, k1⟩; have k2 := Kp.trans (show Kp w6 _ from (by first | assumption | exact Kp.drew _)) k1; clear k1)
    (try go_wp2_with fail)
    refine hK.out _ _ ?_ (fun hHeld2 => ?_)
    · (try dsimp only); exact KS.out _ (by first | assumption | exact Kp.drew _)
    clear hK K hHeld1
    (try simp only [Act.put, nwOb11, List.setIfInBounds_toArray, List.set_cons_zero, List.set_cons_succ])
    refine tkW (v := ?_) 12 nwOb12 rfl (by kernel_rfl) (by kernel_rfl) (by kernel_rfl) (fun _ _ _ h => h) (by rfl) ?_ (by assumption) ?_
    rotate_left
    · intro w hSw; (try dsimp only at hSw); go_simp; (try with_reducible rfl)
    (try simp only [Act.put, nwOb12, List.setIfInBounds_toArray, List.set_cons_zero, List.set_cons_succ])
    refine tkW (v := ?_) 13 nwOb13 rfl (by kernel_rfl) (by kernel_rfl) (by kernel_rfl) (fun _ _ _ h => h) (by rfl) ?_ (by assumption) ?_
    rotate_left
    · intro w hSw; (try dsimp only at hSw); go_simp; (try with_reducible rfl)
    (try simp only [Act.put, nwOb13, List.setIfInBounds_toArray, List.set_cons_zero, List.set_cons_succ])
    refine tkW (v := ?_) 14 nwOb14 rfl (by kernel_rfl) (by kernel_rfl) (by kernel_rfl) (fun _ _ _ h => h) (by rfl) ?_ (by assumption) ?_
    rotate_left
    · intro w hSw; (try dsimp only at hSw); go_simp; (try with_reducible rfl)
    (try simp only [Act.put, nwOb14, List.setIfInBounds_toArray, List.set_cons_zero, List.set_cons_succ])
    refine tkW (v := ?_) 15 nwOb15 rfl (by kernel_rfl) (by kernel_rfl) (by kernel_rfl) (fun _ _ _ h => h) (by rfl) ?_ (by assumption) ?_
    rotate_left
    · intro w hSw; (try dsimp only at hSw); go_simp; (try with_reducible rfl)
    (try simp only [Act.put, nwOb15, List.setIfInBounds_toArray, List.set_cons_zero, List.set_cons_succ])
    refine tkW (v := ?_) 16 nwOb16 rfl (by kernel_rfl) (by kernel_rfl) (by kernel_rfl) (fun _ _ _ h => h) (by rfl) ?_ (by assumption) ?_
    rotate_left
    · intro w hSw; (try dsimp only at hSw); go_simp; (try with_reducible rfl)
    (try simp only [Act.put, nwOb16, List.setIfInBounds_toArray, List.set_cons_zero, List.set_cons_succ])
    refine tkW (v := ?_) 17 nwOb17 rfl (by kernel_rfl) (by kernel_rfl) (by kernel_rfl) (fun _ _ _ h => h) (by rfl) ?_ (by assumption) ?_
    rotate_left
    · intro w hSw; (try dsimp only at hSw); go_simp; (try with_reducible rfl)
    (try simp only [Act.put, nwOb17, List.setIfInBounds_toArray, List.set_cons_zero, List.set_cons_succ])
    refine tkU 18 nwOb18 rfl (by kernel_rfl) (by kernel_rfl) (by kernel_rfl) (fun _ _ _ h => h) (by rfl) (by assumption) ?_
    (try simp only [Act.put, nwOb18, List.setIfInBounds_toArray, List.set_cons_zero, List.set_cons_succ])
    refine tkU 19 nwOb19 rfl (by kernel_rfl) (by kernel_rfl) (by kernel_rfl) (fun _ _ _ h => h) (by rfl) (by assumption) ?_
    (try simp only [Act.put, nwOb19, List.setIfInBounds_toArray, List.set_cons_zero, List.set_cons_succ])
    refine tkU 20 nwOb20 rfl (by kernel_rfl) (by kernel_rfl) (by kernel_rfl) (fun _ _ _ h => h) (by rfl) (by assumption) ?_
    (try simp only [Act.put, nwOb20, List.setIfInBounds_toArray, List.set_cons_zero, List.set_cons_succ])
    refine tkU 21 nwOb21 rfl (by kernel_rfl) (by kernel_rfl) (by kernel_rfl) (fun _ _ _ h => h) (by rfl) (by assumption) ?_
    (try simp only [Act.put, nwOb21, List.setIfInBounds_toArray, List.set_cons_zero, List.set_cons_succ])
    refine tkU 22 nwOb22 rfl (by kernel_rfl) (by kernel_rfl) (by kernel_rfl) (fun _ _ _ h => h) (by rfl) (by assumption) ?_
    (try simp only [Act.put, nwOb22, List.setIfInBounds_toArray, List.set_cons_zero, List.set_cons_succ])
    refine tkU 23 nwOb23 rfl (by kernel_rfl) (by kernel_rfl) (by kernel_rfl) (fun _ _ _ h => h) (by rfl) (by assumption) ?_
    (try simp only [Act.put, nwOb23, List.setIfInBounds_toArray, List.set_cons_zero, List.set_cons_succ])
    refine tkU 24 nwOb24 rfl (by kernel_rfl) (by kernel_rfl) (by kernel_rfl) (fun _ _ _ h => h) (by rfl) (by assumption) ?_
    (try simp only [Act.put, nwOb24, List.setIfInBounds_toArray, List.set_cons_zero, List.set_cons_succ])
    refine tkU 25 nwOb25 rfl (by kernel_rfl) (by kernel_rfl) (by kernel_rfl) (fun _ _ _ h => h) (by rfl) (by assumption) ?_
    (try simp only [Act.put, nwOb25, List.setIfInBounds_toArray, List.set_cons_zero, List.set_cons_succ])
    refine tkU 26 nwOb26 rfl (by kernel_rfl) (by kernel_rfl) (by kernel_rfl) (fun _ _ _ h => h) (by rfl) (by assumption) ?_
    (try simp only [Act.put, nwOb26, List.setIfInBounds_toArray, List.set_cons_zero, List.set_cons_succ])
    refine tkU 27 nwOb27 rfl (by kernel_rfl) (by kernel_rfl) (by kernel_rfl) (fun _ _ _ h => h) (by rfl) (by assumption) ?_
    (try simp only [Act.put, nwOb27, List.setIfInBounds_toArray, List.set_cons_zero, List.set_cons_succ])
    refine tkU 28 nwOb28 rfl (by kernel_rfl) (by kernel_rfl) (by kernel_rfl) (fun _ _ _ h => h) (by rfl) (by assumption) ?_
    (try simp only [Act.put, nwOb28, List.setIfInBounds_toArray, List.set_cons_zero, List.set_cons_succ])
    refine tkW (v := ?_) 29 nwOb29 rfl (by kernel_rfl) (by kernel_rfl) (by kernel_rfl) (fun _ _ _ h => h) (by rfl) ?_ (by assumption) ?_
    rotate_left
    · intro w hSw; (try dsimp only at hSw); go_simp; (try with_reducible rfl)
    (try simp only [Act.put, nwOb29, List.setIfInBounds_toArray, List.set_cons_zero, List.set_cons_succ])
    refine tkW (v := ?_) 30 nwOb30 rfl (by kernel_rfl) (by kernel_rfl) (by kernel_rfl) (fun _ _ _ h => h) (by rfl) ?_ (by assumption) ?_
    rotate_left
    · intro w hSw; (try dsimp only at hSw); go_simp; (try with_reducible rfl)
    (try simp only [Act.put, nwOb30, List.setIfInBounds_toArray, List.set_cons_zero, List.set_cons_succ])
    refine tkW (v := ?_) 31 nwOb31 rfl (by kernel_rfl) (by kernel_rfl) (by kernel_rfl) (fun _ _ _ h => h) (by rfl) ?_ (by assumption) ?_
    rotate_left
    · intro w hSw; (try dsimp only at hSw); go_simp; (try with_reducible rfl)
    (try simp only [Act.put, nwOb31, List.setIfInBounds_toArray, List.set_cons_zero, List.set_cons_succ])
    refine wpAnyH_done (by kernel_rfl) ?_ _
    go_wp2
    go_ret
    exact ⟨rfl, K00.out.trans (K6.out.trans (by first | assumption | exact Kp.drew _))⟩
  · exact absurd h9 NN
  ·
    clear NN
    rw [HS.out rfl pS pE] at XC
    clear HS
    generalize hasL l pS pE = bl at *
    have eb : (bl == bl) = true := by simp
    have KS := Lib.hid (fun w' (kq : Kp w6 w') => show w'.cell? ⟨w.heap.size, 0, none⟩ = some (.int .i64 pS) ∧ w'.cell? ⟨w.heap.size, 1, none⟩ = some (.int .i64 pE) ∧ Kp w6 w' from ⟨(HB.out w' (K6.out.trans kq)).1, (HB.out w' (K6.out.trans kq)).2, kq⟩)
    go_wp2_with fail
    refine wp_region_held_drew (S := fun w' => w'.cell? ⟨w.heap.size, 0, none⟩ = some (.int .i64 pS) ∧ w'.cell? ⟨w.heap.size, 1, none⟩ = some (.int .i64 pE) ∧ Kp w6 w') (by kernel_rfl) ?_ (fun hHeld0 => ?_)
    · (try dsimp only); exact KS.out _ (by first | assumption | exact Kp.drew _)
    refine tkW (v := ?_) 0 nwOb0 rfl (by kernel_rfl) (by kernel_rfl) (by kernel_rfl) (fun _ _ _ h => h) (by rfl) ?_ (by assumption) ?_
    rotate_left
    · intro w hSw; (try dsimp only at hSw); go_simp; (try with_reducible rfl)
    (try simp only [Act.put, nwOb0, List.setIfInBounds_toArray, List.set_cons_zero, List.set_cons_succ])
    refine tkW (v := ?_) 1 nwOb1 rfl (by kernel_rfl) (by kernel_rfl) (by kernel_rfl) (fun _ _ _ h => h) (by rfl) ?_ (by assumption) ?_
    rotate_left
    · intro w hSw; (try dsimp only at hSw); go_simp; (try with_reducible rfl)
    (try simp only [Act.put, nwOb1, List.setIfInBounds_toArray, List.set_cons_zero, List.set_cons_succ])
    refine tkW (v := ?_) 2 nwOb2 rfl (by kernel_rfl) (by kernel_rfl) (by kernel_rfl) (fun _ _ _ h => h) (by rfl) ?_ (by assumption) ?_
    rotate_left
    · intro w hSw; (try dsimp only at hSw); go_simp; (try with_reducible rfl)
    (try simp only [Act.put, nwOb2, List.setIfInBounds_toArray, List.set_cons_zero, List.set_cons_succ])
    refine tkW (v := ?_) 3 nwOb3 rfl (by kernel_rfl) (by kernel_rfl) (by kernel_rfl) (fun _ _ _ h => h) (by rfl) ?_ (by assumption) ?_
    rotate_left
    · intro w hSw; (try dsimp only at hSw); go_simp; (try with_reducible rfl)
    (try simp only [Act.put, nwOb3, List.setIfInBounds_toArray, List.set_cons_zero, List.set_cons_succ])
    refine tkW (v := ?_) 4 nwOb4 rfl (by kernel_rfl) (by kernel_rfl) (by kernel_rfl) (fun _ _ _ h => h) (by rfl) ?_ (by assumption) ?_
    rotate_left
    · intro w hSw; (try dsimp only at hSw); go_simp; (try with_reducible rfl)
    (try simp only [Act.put, nwOb4, List.setIfInBounds_toArray, List.set_cons_zero, List.set_cons_succ])
    refine tkW (v := ?_) 5 nwOb5 rfl (by kernel_rfl) (by kernel_rfl) (by kernel_rfl) (fun _ _ _ h => h) (by rfl) ?_ (by assumption) ?_
    rotate_left
    · intro w hSw; (try dsimp only at hSw); go_simp; (try with_reducible rfl)
    (try simp only [Act.put, nwOb5, List.setIfInBounds_toArray, List.set_cons_zero, List.set_cons_succ])
    refine tkW (v := ?_) 6 nwOb6 rfl (by kernel_rfl) (by kernel_rfl) (by kernel_rfl) (fun _ _ _ h => h) (by rfl) ?_ (by assumption) ?_
    rotate_left
    · intro w hSw; (try dsimp only at hSw); go_simp; (try with_reducible rfl)
    (try simp only [Act.put, nwOb6, List.setIfInBounds_toArray, List.set_cons_zero, List.set_cons_succ])
    refine tkW (v := ?_) 7 nwOb7 rfl (by kernel_rfl) (by kernel_rfl) (by kernel_rfl) (fun _ _ _ h => h) (by rfl) ?_ (by assumption) ?_
    rotate_left
    · intro w hSw; (try dsimp only at hSw); go_simp; (try with_reducible rfl)
    (try simp only [Act.put, nwOb7, List.setIfInBounds_toArray, List.set_cons_zero, List.set_cons_succ])
    refine tkW (v := ?_) 9 nwOb9 rfl (by kernel_rfl) (by kernel_rfl) (by kernel_rfl) (fun _ _ _ h => h) (by rfl) ?_ (by assumption) ?_
    rotate_left
    · intro w hSw; (try dsimp only at hSw); go_simp; (try with_reducible rfl)
    (try simp only [Act.put, nwOb9, List.setIfInBounds_toArray, List.set_cons_zero, List.set_cons_succ])
    refine tkW (v := ?_) 10 nwOb10 rfl (by kernel_rfl) (by kernel_rfl) (by kernel_rfl) (fun _ _ _ h => h) (by rfl) ?_ (by assumption) ?_
    rotate_left
    · intro w hSw; (try dsimp only at hSw); go_simp; (try with_reducible rfl)
    (try simp only [Act.put, nwOb10, List.setIfInBounds_toArray, List.set_cons_zero, List.set_cons_succ])
    refine tkE 8 nwOb8 rfl (by kernel_rfl) (fun K hK => ?_)
    go_simp
    (refine (XB.out _ (by first | assumption | exact Kp.drew _)).mono ?_; rintro e w' ⟨rfl, k1⟩; have k2 := Kp.trans (show Kp w6 _ from (by first | assumption | exact Kp.drew _)) k1; clear k1)
    (try go_wp2_with fail)
    refine hK.out _ _ ?_ (fun hHeld1 => ?_)
    · (try dsimp only); exact KS.out _ (by first | assumption | exact Kp.drew _)
    clear hK K hHeld0
    (try simp only [Act.put, nwOb8, List.setIfInBounds_toArray, List.set_cons_zero, List.set_cons_succ])
    refine tkE 11 nwOb11 rfl (by kernel_rfl) (fun K hK => ?_)
    go_simp
    (refine (XA.out _ (by first | assumption | exact Kp.drew _)).mono ?_; rintro e w' ⟨rfl, k1⟩; have k2 := Kp.trans (show Kp w6 _ from (by first | assumption | exact Kp.drew _)) k1; clear k1)
    (try go_wp2_with fail)
    refine hK.out _ _ ?_ (fun hHeld2 => ?_)
    · (try dsimp only); exact KS.out _ (by first | assumption | exact Kp.drew _)
    clear hK K hHeld1
    (try simp only [Act.put, nwOb11, List.setIfInBounds_toArray, List.set_cons_zero, List.set_cons_succ])
    refine tkW (v := ?_) 12 nwOb12 rfl (by kernel_rfl) (by kernel_rfl) (by kernel_rfl) (fun _ _ _ h => h) (by rfl) ?_ (by assumption) ?_
    rotate_left
    · intro w hSw; (try dsimp only at hSw); go_simp; (try with_reducible rfl)
    (try simp only [Act.put, nwOb12, List.setIfInBounds_toArray, List.set_cons_zero, List.set_cons_succ])
    refine tkW (v := ?_) 13 nwOb13 rfl (by kernel_rfl) (by kernel_rfl) (by kernel_rfl) (fun _ _ _ h => h) (by rfl) ?_ (by assumption) ?_
    rotate_left
    · intro w hSw; (try dsimp only at hSw); go_simp; (try with_reducible rfl)
    (try simp only [Act.put, nwOb13, List.setIfInBounds_toArray, List.set_cons_zero, List.set_cons_succ])
    refine tkW (v := ?_) 14 nwOb14 rfl (by kernel_rfl) (by kernel_rfl) (by kernel_rfl) (fun _ _ _ h => h) (by rfl) ?_ (by assumption) ?_
    rotate_left
    · intro w hSw; (try dsimp only at hSw); go_simp; (try with_reducible rfl)
    (try simp only [Act.put, nwOb14, List.setIfInBounds_toArray, List.set_cons_zero, List.set_cons_succ])
    refine tkW (v := ?_) 15 nwOb15 rfl (by kernel_rfl) (by kernel_rfl) (by kernel_rfl) (fun _ _ _ h => h) (by rfl) ?_ (by assumption) ?_
    rotate_left
    · intro w hSw; (try dsimp only at hSw); go_simp; (try with_reducible rfl)
    (try simp only [Act.put, nwOb15, List.setIfInBounds_toArray, List.set_cons_zero, List.set_cons_succ])
    refine tkW (v := ?_) 16 nwOb16 rfl (by kernel_rfl) (by kernel_rfl) (by kernel_rfl) (fun _ _ _ h => h) (by rfl) ?_ (by assumption) ?_
    rotate_left
    · intro w hSw; (try dsimp only at hSw); go_simp; (try with_reducible rfl)
    (try simp only [Act.put, nwOb16, List.setIfInBounds_toArray, List.set_cons_zero, List.set_cons_succ])
    refine tkW (v := ?_) 17 nwOb17 rfl (by kernel_rfl) (by kernel_rfl) (by kernel_rfl) (fun _ _ _ h => h) (by rfl) ?_ (by assumption) ?_
    rotate_left
    · intro w hSw; (try dsimp only at hSw); go_simp; (try with_reducible rfl)
    (try simp only [Act.put, nwOb17, List.setIfInBounds_toArray, List.set_cons_zero, List.set_cons_succ])
    refine tkW (v := ?_) 18 nwOb18 rfl (by kernel_rfl) (by kernel_rfl) (by kernel_rfl) (fun _ _ _ h => h) (by rfl) ?_ (by assumption) ?_
    rotate_left
    · intro w hSw; (try dsimp only at hSw); go_simp; (try with_reducible rfl)
    (try simp only [Act.put, nwOb18, List.setIfInBounds_toArray, List.set_cons_zero, List.set_cons_succ])
    refine tkW (v := ?_) 19 nwOb19 rfl (by kernel_rfl) (by kernel_rfl) (by kernel_rfl) (fun _ _ _ h => h) (by rfl) ?_ (by assumption) ?_
    rotate_left
    · intro w hSw; (try dsimp only at hSw); go_simp; (try with_reducible rfl)
    (try simp only [Act.put, nwOb19, List.setIfInBounds_toArray, List.set_cons_zero, List.set_cons_succ])
    refine tkW (v := ?_) 20 nwOb20 rfl (by kernel_rfl) (by kernel_rfl) (by kernel_rfl) (fun _ _ _ h => h) (by rfl) ?_ (by assumption) ?_
    rotate_left
    · intro w hSw; (try dsimp only at hSw); go_simp; (try with_reducible rfl)
    (try simp only [Act.put, nwOb20, List.setIfInBounds_toArray, List.set_cons_zero, List.set_cons_succ])
    refine tkW (v := ?_) 21 nwOb21 rfl (by kernel_rfl) (by kernel_rfl) (by kernel_rfl) (fun _ _ _ h => h) (by rfl) ?_ (by assumption) ?_
    rotate_left
    · intro w hSw; (try dsimp only at hSw); go_simp; (try with_reducible rfl)
    (try simp only [Act.put, nwOb21, List.setIfInBounds_toArray, List.set_cons_zero, List.set_cons_succ])
    refine tkW (v := ?_) 22 nwOb22 rfl (by kernel_rfl) (by kernel_rfl) (by kernel_rfl) (fun _ _ _ h => h) (by rfl) ?_ (by assumption) ?_
    rotate_left
    · intro w hSw; (try dsimp only at hSw); go_simp; (try with_reducible rfl)
    (try simp only [Act.put, nwOb22, List.setIfInBounds_toArray, List.set_cons_zero, List.set_cons_succ])
    refine tkW (v := ?_) 24 nwOb24 rfl (by kernel_rfl) (by kernel_rfl) (by kernel_rfl) (fun _ _ _ h => h) (by rfl) ?_ (by assumption) ?_
    rotate_left
    · intro w hSw; (try dsimp only at hSw); go_simp; (try with_reducible rfl)
    (try simp only [Act.put, nwOb24, List.setIfInBounds_toArray, List.set_cons_zero, List.set_cons_succ])
    refine tkW (v := ?_) 25 nwOb25 rfl (by kernel_rfl) (by kernel_rfl) (by kernel_rfl) (fun _ _ _ h => h) (by rfl) ?_ (by assumption) ?_
    rotate_left
    · intro w hSw; (try dsimp only at hSw); go_simp; (try with_reducible rfl)
    (try simp only [Act.put, nwOb25, List.setIfInBounds_toArray, List.set_cons_zero, List.set_cons_succ])
    refine tkE 23 nwOb23 rfl (by kernel_rfl) (fun K hK => ?_)
    go_simp
    (refine (XC.out _ (by first | assumption | exact Kp.drew _)).mono ?_; rintro e w' ⟨rfl, k1⟩; have k2 := Kp.trans (show Kp w6 _ from (by first | assumption | exact Kp.drew _)) k1; clear k1)
    (try go_wp2_with fail)
    refine hK.out _ _ ?_ (fun hHeld3 => ?_)
    · (try dsimp only); exact KS.out _ (by first | assumption | exact Kp.drew _)
    clear hK K hHeld2
    (try simp only [Act.put, nwOb23, List.setIfInBounds_toArray, List.set_cons_zero, List.set_cons_succ])
    refine tkE 26 nwOb26 rfl (by kernel_rfl) (fun K hK => ?_)
    go_simp
    (refine (XL.out _ (by first | assumption | exact Kp.drew _)).mono ?_; rintro e w' ⟨rfl, k1⟩; have k2 := Kp.trans (show Kp w6 _ from (by first | assumption | exact Kp.drew _)) k1; clear k1)
    (try go_wp2_with fail)
    refine hK.out _ _ ?_ (fun hHeld4 => ?_)
    · (try dsimp only); exact KS.out _ (by first | assumption | exact Kp.drew _)
    clear hK K hHeld3
    (try simp only [Act.put, nwOb26, List.setIfInBounds_toArray, List.set_cons_zero, List.set_cons_succ])
    refine tkW (v := ?_) 27 nwOb27 rfl (by kernel_rfl) (by kernel_rfl) (by kernel_rfl) (fun _ _ _ h => h) (by rfl) ?_ (by assumption) ?_
    rotate_left
    · intro w hSw; (try dsimp only at hSw); go_simp; (try with_reducible rfl)
    (try simp only [Act.put, nwOb27, List.setIfInBounds_toArray, List.set_cons_zero, List.set_cons_succ])
    refine tkW (v := ?_) 28 nwOb28 rfl (by kernel_rfl) (by kernel_rfl) (by kernel_rfl) (fun _ _ _ h => h) (by rfl) ?_ (by assumption) ?_
    rotate_left
    · intro w hSw; (try dsimp only at hSw); go_simp; (try with_reducible rfl)
    (try simp only [Act.put, nwOb28, List.setIfInBounds_toArray, List.set_cons_zero, List.set_cons_succ])
    refine tkW (v := ?_) 29 nwOb29 rfl (by kernel_rfl) (by kernel_rfl) (by kernel_rfl) (fun _ _ _ h => h) (by rfl) ?_ (by assumption) ?_
    rotate_left
    · intro w hSw; (try dsimp only at hSw); go_simp; (try with_reducible rfl)
    (try simp only [Act.put, nwOb29, List.setIfInBounds_toArray, List.set_cons_zero, List.set_cons_succ])
    refine tkW (v := ?_) 30 nwOb30 rfl (by kernel_rfl) (by kernel_rfl) (by kernel_rfl) (fun _ _ _ h => h) (by rfl) ?_ (by assumption) ?_
    rotate_left
    · intro w hSw; (try dsimp only at hSw); go_simp; (try with_reducible rfl)
    (try simp only [Act.put, nwOb30, List.setIfInBounds_toArray, List.set_cons_zero, List.set_cons_succ])
    refine tkW (v := ?_) 31 nwOb31 rfl (by kernel_rfl) (by kernel_rfl) (by kernel_rfl) (fun _ _ _ h => h) (by rfl) ?_ (by assumption) ?_
    rotate_left
    · intro w hSw; (try dsimp only at hSw); go_simp; (try with_reducible rfl)
    (try simp only [Act.put, nwOb31, List.setIfInBounds_toArray, List.set_cons_zero, List.set_cons_succ])
    refine wpAnyH_done (by kernel_rfl) ?_ _
    go_wp2
    go_ret
    exact ⟨rfl, K00.out.trans (K6.out.trans (by first | assumption | exact Kp.drew _))⟩
set_option maxHeartbeats 16000000 in
set_option maxRecDepth 100000 in
theorem narrowOnce_walk (vl : Value) (l : List LF) (vm : Value) (m : List LF) (pS pE : Int) (w : World) (rl : LeavesAt w vl l) (gl : ∀ f ∈ l, LeafG f) (rm : LeavesAt w vm m) (gm : ∀ f ∈ m, LeafG f) (hp1 : -9223372036854775808 ≤ pS) (hp2 : pS ≤ 9223372036854775807) (hp3 : -9223372036854775808 ≤ pE) (hp4 : pE ≤ 9223372036854775807) (T : Tabs w) :
    Calls Tryz.prog 9 #[vl, vm, .agg #[.int .i64 pS, .int .i64 pE]] w fun e w' => e = .returned (.bool true) ∧ Kp w w' := by
  rcases Bool.eq_false_or_eq_true (few22 l) with hf | hf
  · rcases Bool.eq_false_or_eq_true (few22 m) with hg | hg
    · exact nonc_main vl l vm m pS pE w rl gl rm gm hp1 hp2 hp3 hp4 T hf hg
    · exact nonc_f2 vl l vm m pS pE w rl gl rm gm hp1 hp2 hp3 hp4 T hf hg
  · exact nonc_f1 vl l vm m pS pE w rl gl rm gm hp1 hp2 hp3 hp4 T hf
end Go.Proofs.YtjdnejglapnbbaaGreatDoor
