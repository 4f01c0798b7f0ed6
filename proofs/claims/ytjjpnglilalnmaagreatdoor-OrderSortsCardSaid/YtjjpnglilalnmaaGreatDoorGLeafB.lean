/-
  Joined: LeafH, L14P, Iw, LeafI, LeafJ, LeafK, L14A.
-/
import Derived.Test.YtjjpnglilalnmaaGreatDoorGLeafA
import Derived.Test.YtjjpnglilalnmaaGreatDoorImgE
import Derived.Shelf.Abstract
import Derived.LoopTactic
import Derived.Deep.RegionHeld3
import Derived.Laws.EntriesVeiled
namespace Go.Proofs.YtjjpnglilalnmaaGreatDoor
set_option linter.unusedVariables false
set_option linter.unusedSimpArgs false
/-- runs, from a number on -/
def fromR (lo : Int) (s : List R) : List R := s.map fun r => (max r.1 lo, r.2)
theorem fromR_len (lo : Int) (s : List R) : (fromR lo s).length = s.length := by unfold fromR; simp
theorem fromR_at (lo : Int) (s : List R) (i : Nat) (h : i < s.length) : at_ (fromR lo s) i = (max (at_ s i).1 lo, (at_ s i).2) := by
  unfold fromR at_
  simp [List.getD, h]
theorem upF_mem {lo : Int} {m : Nat} {n : Int} : n ∈ upF lo m ↔ lo ≤ n ∧ n < lo + (m : Int) := by
  unfold upF
  simp only [List.mem_map, List.mem_range]
  constructor
  · rintro ⟨i, hi, rfl⟩
    omega
  · rintro ⟨h1, h2⟩
    exact ⟨(n - lo).toNat, by omega, by omega⟩
theorem upF_filter (lo x : Int) (m : Nat) : (upF lo m).filter (fun n => decide (x ≤ n)) = upF (max lo x) ((lo + (m : Int)) - max lo x).toNat := by
  induction m with
  | zero => 
    have : ((lo + ((0 : Nat) : Int)) - max lo x).toNat = 0 := by omega
    rw [this]
    rfl
  | succ m ih =>
    rw [upF_succ, List.filter_append, ih]
    by_cases h : x ≤ lo + (m : Int)
    · have e : ((lo + ((m + 1 : Nat) : Int)) - max lo x).toNat = ((lo + (m : Int)) - max lo x).toNat + 1 := by omega
      rw [e, upF_succ]
      have e2 : max lo x + (((lo + (m : Int)) - max lo x).toNat : Int) = lo + (m : Int) := by omega
      rw [e2]
      simp [h]
    · have e : ((lo + ((m + 1 : Nat) : Int)) - max lo x).toNat = ((lo + (m : Int)) - max lo x).toNat := by omega
      rw [e]
      simp [h]
theorem runF_from (lo : Int) (r : R) : (runF r).filter (fun n => decide (lo ≤ n)) = runF (max r.1 lo, r.2) := by
  unfold runF
  rw [upF_filter]
  simp only
  congr 1
  omega
theorem nums_from (lo : Int) (s : List R) : nums (fromR lo s) = (nums s).filter fun n => decide (lo ≤ n) := by
  unfold nums fromR
  induction s with
  | nil => rfl
  | cons r t ih =>
    simp only [List.map_cons, List.flatMap_cons, List.filter_append]
    rw [ih, runF_from]
theorem nums_from0 {k : Int} {s : List R} (h : setB k s = true) : nums (fromR 0 s) = nums s := by
  rw [nums_from, List.filter_eq_self]
  intro n hn
  rw [nums_mem (sane_ok (setB_sane h))] at hn
  have := setB_mem h hn
  exact decide_eq_true this.1
/-- the first of a list -/
theorem prefix_take {α : Type} {P L : List α} {n : Nat} (h : P <+: L) (hn : P.length = n) : L.take n = P := by
  obtain ⟨t, rfl⟩ := h
  rw [← hn]
  simp
theorem take_all {α : Type} {L : List α} {n : Nat} (hn : L.length ≤ n) : L.take n = L := List.take_of_length_le hn
theorem flatMap_prefix {α β : Type} {f : α → List β} {P L : List α} (h : P <+: L) : P.flatMap f <+: L.flatMap f := by
  obtain ⟨t, rfl⟩ := h
  rw [List.flatMap_append]
  exact List.prefix_append _ _
theorem flatMap_part {α β : Type} {f : α → List β} {P L : List α} {x : α} {Q : List β} (h : P ++ [x] <+: L) (hq : Q <+: f x) : P.flatMap f ++ Q <+: L.flatMap f := by
  refine List.IsPrefix.trans ?_ (flatMap_prefix h)
  rw [List.flatMap_append]
  simp only [List.flatMap_cons, List.flatMap_nil, List.append_nil]
  exact (List.prefix_append_right_inj _).2 hq
theorem map_prefix {α β : Type} {f : α → β} {P L : List α} (h : P <+: L) : P.map f <+: L.map f := h.map f
end Go.Proofs.YtjjpnglilalnmaaGreatDoor

namespace Go.Proofs.YtjjpnglilalnmaaGreatDoor
set_option linter.unusedVariables false
set_option linter.unusedSimpArgs false
theorem hasF_le {F : Fam} (h : FOK F) {S T : Int} (g : hasF F S T = true) : S ≤ T ∧ 0 ≤ S ∧ T ≤ 3652424 := by
  cases F with
  | units k s =>
    obtain ⟨i, m, rfl, rfl⟩ := (hasF_units h S T).1 g
    obtain ⟨a, b⟩ := setB_mem h m
    have := span_bd a b
    omega
  | span s e =>
    obtain ⟨a, b, c⟩ := (hasF_span (setB_sane h.1) (setB_sane h.2.1) S T).1 g
    have := setB_mem h.1 b
    have := setB_mem h.2.1 c
    rw [cnt_zero] at *
    omega
theorem hasF_sp {f : LF} (h : leafB f = true) (hs : f.sp = true) (S T : Int) : hasF (famR f) S T = true ↔ S ≤ T ∧ memR f.a S ∧ memR f.b T := by
  obtain ⟨_, ha, hb⟩ := leafB_span h hs
  by_cases h0 : f.a.length = 0 ∨ f.b.length = 0
  · rw [famR_none h hs h0, hasF_span (s := []) (e := []) trivial trivial]
    constructor
    · rintro ⟨_, m, _⟩; exact absurd m (memR_nil _)
    · rintro ⟨_, m, n⟩
      have := mem_pos m
      have := mem_pos n
      omega
  · rw [famR_span h hs h0, hasF_span (interR_sane _ _) (interR_sane _ _)]
    have sm := span_mem h hs h0
    rw [(sm S).1, (sm T).2]
    constructor
    · rintro ⟨a, b, c⟩; exact ⟨a, b.1, c.1⟩
    · rintro ⟨a, b, c⟩
      have := great_max (setB_sane hb) c
      have := least_min (setB_sane ha) b
      exact ⟨a, ⟨b, by omega⟩, c, by omega⟩
theorem hasF_un {f : LF} (h : leafB f = true) (hs : f.sp = false) (S T : Int) : hasF (famR f) S T = true ↔ ∃ i, memR f.a i ∧ fst f.u i = S ∧ lst f.u i = T := by
  rw [famR_units h hs]
  exact hasF_units (leafB_units h hs).2.1 S T
/-- a list of pairs, the n-th -/
def pat (l : List (Int × Int)) (i : Nat) : Int × Int := l.getD i (0, 0)
theorem at_pat (l : List (Int × Int)) (i : Nat) : at_ l i = pat l i := rfl
theorem at_take {l : List R} {n i : Nat} (h : i < (l.take n).length) : at_ (l.take n) i = at_ l i := by
  rw [List.length_take] at h
  unfold at_
  simp [List.getD, List.getElem?_take, show i < n by omega]
theorem pairs_at {F : Fam} (h : FOK F) {n i : Nat} (hi : i < ((pairsF F).take n).length) : hasF F (at_ ((pairsF F).take n) i).1 (at_ ((pairsF F).take n) i).2 = true := by
  rw [← mem_pairs h]
  exact List.mem_of_mem_take (at_mem hi)
theorem pairs_up {F : Fam} (h : FOK F) {n i : Nat} (hi : i + 1 < ((pairsF F).take n).length) : ltP (at_ ((pairsF F).take n) i) (at_ ((pairsF F).take n) (i + 1)) := by
  have p := (pairs_lt h).take (i := n)
  rw [List.pairwise_iff_getElem] at p
  have := p i (i + 1) (by omega) hi (by omega)
  unfold at_
  simp only [List.getD_eq_getElem?_getD, List.getElem?_eq_getElem hi, List.getElem?_eq_getElem (show i < ((pairsF F).take n).length by omega), Option.getD_some]
  exact this
/-- what is listed up to a place -/
theorem mem_next {l : List R} {p : R} {k : Nat} (h : k < l.length) : p ∈ l.take (k + 1) ↔ p ∈ l.take k ∨ at_ l k = p := by
  rw [take_at l k h, List.mem_append, List.mem_singleton]
  exact or_congr Iff.rfl ⟨Eq.symm, Eq.symm⟩
theorem pairs_behind {F : Fam} (h : FOK F) {p : R} (hp : hasF F p.1 p.2 = true) (hn : ¬ p ∈ (pairsF F).take 1000) : ((pairsF F).take 1000).length = 1000 ∧ ltP (at_ ((pairsF F).take 1000) 999) p := by
  have hm : p ∈ pairsF F := (mem_pairs h p.1 p.2).2 hp
  rw [← List.take_append_drop 1000 (pairsF F), List.mem_append] at hm
  have hd : p ∈ (pairsF F).drop 1000 := hm.resolve_left hn
  have hl : 1000 < (pairsF F).length := by
    rcases Nat.lt_or_ge 1000 (pairsF F).length with h | h
    · exact h
    · rw [List.drop_eq_nil_of_le h] at hd; cases hd
  have hlen : ((pairsF F).take 1000).length = 1000 := by rw [List.length_take]; omega
  refine ⟨hlen, ?_⟩
  have pw := pairs_lt h
  rw [← List.take_append_drop 1000 (pairsF F), List.pairwise_append] at pw
  exact pw.2.2 _ (at_mem (by omega)) _ hd
theorem pairs_none {F : Fam} (h : FOK F) : emptyF F = decide (((pairsF F).take 1000).length = 0) := by
  refine bool_iff ?_
  rw [empty_iff h, decide_eq_true_iff, List.length_take]
  constructor
  · intro g
    have : pairsF F = [] := by
      cases e : pairsF F with
      | nil => rfl
      | cons p t =>
        have := (mem_pairs h p.1 p.2).1 (by rw [e]; exact List.mem_cons_self)
        rw [g] at this
        cases this
    rw [this]
    rfl
  · intro g S T
    have e : pairsF F = [] := List.length_eq_zero_iff.1 (by omega)
    rw [Bool.eq_false_iff]
    intro q
    have := (mem_pairs h S T).2 q
    rw [e] at this
    cases this
theorem nxt_some {s : List R} (h : sane s) (n : Int) : (nxt s n).2 = true ↔ ∃ m, memR s m ∧ n ≤ m := by
  induction s with
  | nil => simp [nxt, memR_nil]
  | cons r t ih =>
    have o := sane_head h
    unfold okR at o
    unfold nxt
    by_cases c : n ≤ r.2
    · rw [if_pos c]
      refine ⟨fun _ => ⟨r.2, (memR_cons _ _ _).2 (.inl (by omega)), c⟩, fun _ => rfl⟩
    · rw [if_neg c, ih (sane_tail h)]
      constructor
      · rintro ⟨m, hm, hl⟩
        exact ⟨m, (memR_cons _ _ _).2 (.inr hm), hl⟩
      · rintro ⟨m, hm, hl⟩
        rcases (memR_cons _ _ _).1 hm with g | g
        · omega
        · exact ⟨m, g, hl⟩
theorem prv_some {s : List R} (h : sane s) (n : Int) : (prv s n).2 = true ↔ ∃ m, memR s m ∧ m ≤ n := by
  induction s with
  | nil => simp [prv, memR_nil]
  | cons r t ih =>
    have o := sane_head h
    unfold okR at o
    have ih := ih (sane_tail h)
    unfold prv
    by_cases c : (prv t n).2 = true
    · rw [if_pos c]
      obtain ⟨m, hm, hl⟩ := ih.1 c
      exact ⟨fun _ => ⟨m, (memR_cons _ _ _).2 (.inr hm), hl⟩, fun _ => c⟩
    · rw [if_neg c]
      by_cases d : r.1 ≤ n
      · rw [if_pos d]
        exact ⟨fun _ => ⟨r.1, (memR_cons _ _ _).2 (.inl (by omega)), d⟩, fun _ => rfl⟩
      · rw [if_neg d]
        refine ⟨fun h => (by cases h), ?_⟩
        rintro ⟨m, hm, hl⟩
        rcases (memR_cons _ _ _).1 hm with g | g
        · omega
        · exact absurd (ih.2 ⟨m, g, hl⟩) c
theorem span_next {F : Fam} {s e : List R} (h : FOK F) (hF : F = .span s e) {i : Nat} (hi : i < s.length) : (nxt e (at_ s i).2).2 = true := by
  subst hF
  rw [nxt_some (setB_sane h.2.1)]
  obtain ⟨m, a, b⟩ := h.2.2.1 _ (memR_at (setB_sane h.1) hi).2
  exact ⟨m, a, b⟩
theorem span_prev {F : Fam} {s e : List R} (h : FOK F) (hF : F = .span s e) {i : Nat} (hi : i < e.length) : (prv s (at_ e i).1).2 = true := by
  subst hF
  rw [prv_some (setB_sane h.1)]
  obtain ⟨m, a, b⟩ := h.2.2.2 _ (memR_at (setB_sane h.2.1) hi).1
  exact ⟨m, a, b⟩
/-- two leaves of one kind, taken together -/
def moreL (f g : LF) : LF := ⟨f.sp, f.u, nf (f.a ++ g.a), f.b⟩
def sideL (f g : LF) : LF := ⟨g.sp, g.u, g.a, f.b⟩
theorem setB_union {k : Int} {a b : List R} (ha : setB k a = true) (hb : setB k b = true) : setB k (nf (a ++ b)) = true := by
  refine setB_of (nf_sane _) fun n hn => ?_
  rw [nf_mem, memR_append] at hn
  rcases hn with h | h
  · exact setB_mem ha h
  · exact setB_mem hb h
theorem more_ok {f g : LF} (hf : leafB f = true) (hg : leafB g = true) (hs : f.sp = g.sp) (hu : f.sp = false → f.u = g.u) : leafB (moreL f g) = true ∧ leafB (sideL f g) = true := by
  obtain ⟨sp, u, a, b⟩ := f
  obtain ⟨sp', u', a', b'⟩ := g
  simp only at hs hu
  subst hs
  cases sp with
  | true =>
    obtain ⟨h1, h2, h3⟩ := leafB_span hf rfl
    obtain ⟨g1, g2, g3⟩ := leafB_span hg rfl
    simp only at h1 h2 h3 g1 g2 g3
    have hU := setB_union h2 g2
    unfold leafB moreL sideL
    simp only [if_true, Bool.and_eq_true, beq_iff_eq]
    exact ⟨⟨h1, hU, h3⟩, g1, g2, h3⟩
  | false =>
    obtain ⟨h1, h2, h3⟩ := leafB_units hf rfl
    obtain ⟨g1, g2, g3⟩ := leafB_units hg rfl
    simp only at h1 h2 h3 g1 g2 g3
    have e := hu rfl
    subst e
    have hU := setB_union h2 g2
    unfold leafB moreL sideL
    simp only [Bool.false_eq_true, if_false, Bool.and_eq_true, decide_eq_true_eq, h3, List.length_nil, and_true]
    exact ⟨⟨h1, hU⟩, g1, g2⟩
theorem more_has {f g : LF} (hf : leafB f = true) (hg : leafB g = true) (hs : f.sp = g.sp) (hu : f.sp = false → f.u = g.u) (S T : Int) :
    hasF (famR (moreL f g)) S T = (hasF (famR f) S T || hasF (famR (sideL f g)) S T) := by
  obtain ⟨hm, hx⟩ := more_ok hf hg hs hu
  refine bool_iff ?_
  rw [Bool.or_eq_true]
  rcases Bool.eq_false_or_eq_true f.sp with h | h
  · rw [hasF_sp hm h, hasF_sp hf h, hasF_sp hx (hs ▸ h)]
    show _ ∧ memR (nf (f.a ++ g.a)) S ∧ memR f.b T ↔ (_ ∧ memR f.a S ∧ memR f.b T) ∨ (_ ∧ memR g.a S ∧ memR f.b T)
    rw [nf_mem, memR_append]
    constructor
    · rintro ⟨a, b | b, c⟩
      · exact .inl ⟨a, b, c⟩
      · exact .inr ⟨a, b, c⟩
    · rintro (⟨a, b, c⟩ | ⟨a, b, c⟩)
      · exact ⟨a, .inl b, c⟩
      · exact ⟨a, .inr b, c⟩
  · rw [hasF_un hm h, hasF_un hf h, hasF_un hx (hs ▸ h)]
    have e := hu h
    show (∃ i, memR (nf (f.a ++ g.a)) i ∧ fst f.u i = S ∧ lst f.u i = T) ↔ (∃ i, memR f.a i ∧ fst f.u i = S ∧ lst f.u i = T) ∨ (∃ i, memR g.a i ∧ fst g.u i = S ∧ lst g.u i = T)
    rw [← e]
    constructor
    · rintro ⟨i, m, q⟩
      rw [nf_mem, memR_append] at m
      rcases m with m | m
      · exact .inl ⟨i, m, q⟩
      · exact .inr ⟨i, m, q⟩
    · rintro (⟨i, m, q⟩ | ⟨i, m, q⟩)
      · exact ⟨i, (nf_mem _ _).2 ((memR_append _ _ _).2 (.inl m)), q⟩
      · exact ⟨i, (nf_mem _ _).2 ((memR_append _ _ _).2 (.inr m)), q⟩
theorem more_empty {f g : LF} (hf : leafB f = true) (hg : leafB g = true) (hs : f.sp = g.sp) (hu : f.sp = false → f.u = g.u) :
    emptyF (famR (moreL f g)) = (emptyF (famR f) && emptyF (famR (sideL f g))) := by
  refine bool_iff ?_
  rw [Bool.and_eq_true, empty_iff (famR_ok _), empty_iff (famR_ok _), empty_iff (famR_ok _)]
  simp only [more_has hf hg hs hu, Bool.or_eq_false_iff]
  exact ⟨fun h => ⟨fun S T => (h S T).1, fun S T => (h S T).2⟩, fun h S T => ⟨h.1 S T, h.2 S T⟩⟩
theorem more_covers {f g : LF} (hf : leafB f = true) (hg : leafB g = true) (hs : f.sp = g.sp) (hu : f.sp = false → f.u = g.u) (d : Int) (h : coversF (famR f) d = true) :
    coversF (famR (moreL f g)) d = true := by
  rw [covers_iff (famR_ok _)] at h ⊢
  obtain ⟨S, T, a, b⟩ := h
  exact ⟨S, T, by rw [more_has hf hg hs hu, a]; rfl, b⟩
end Go.Proofs.YtjjpnglilalnmaaGreatDoor

namespace Go.Proofs.YtjjpnglilalnmaaGreatDoor
open Go.RowKit
set_option linter.unusedVariables false
set_option linter.unusedSimpArgs false
/-- all blocks below n stay but the box B; all other blocks of cells stay but rows of type t and the box B -/
structure IW (n B : Nat) (t : TypeId) (w w' : World) : Prop where
  os : w'.os = w.os
  tape : w'.tape = w.tape
  output : w'.output = w.output
  size : w.heap.size ≤ w'.heap.size
  block : ∀ k, k < n → k ≠ B → w'.heap[k]? = w.heap[k]?
  same : ∀ (k : Nat) (o : Obj), w.heap[k]? = some o → o.isCells = true → isRowOf t o = false → k ≠ B → w'.heap[k]? = some o
theorem IW.refl (n B : Nat) (t : TypeId) (w : World) : IW n B t w w := ⟨rfl, rfl, rfl, Nat.le_refl _, fun _ _ _ => rfl, fun _ _ h _ _ _ => h⟩
theorem IW.trans {n B : Nat} {t : TypeId} {a b c : World} (h : IW n B t a b) (k : IW n B t b c) : IW n B t a c :=
  ⟨k.os.trans h.os, k.tape.trans h.tape, k.output.trans h.output, Nat.le_trans h.size k.size, fun i hi hb => (k.block i hi hb).trans (h.block i hi hb), fun i o hi hc hr hb => k.same i o (h.same i o hi hc hr hb) hc hr hb⟩
theorem IW.kp {n B : Nat} {t : TypeId} {w w' : World} (k : Kp w w') (hn : n ≤ w.heap.size) : IW n B t w w' :=
  ⟨k.os, k.tape, k.output, k.size, fun i hi _ => k.block i (by omega), fun i o hi _ _ _ => (k.block i (Array.getElem?_eq_some_iff.1 hi).1).trans hi⟩
theorem IW.set (n B : Nat) (t : TypeId) (w : World) (v : Value) : IW n B t w (w.setCell ⟨B, 0, none⟩ v) := by
  have g := grownBy_setCell' w B v
  exact ⟨g.os, g.tape, g.output, g.size, fun k _ hb => Below.heap_setCell _ _ _ k (fun e => hb e), fun k o hk _ _ hb => (Below.heap_setCell _ _ _ k (fun e => hb e)).trans hk⟩
theorem IW.grown {n B : Nat} {t : TypeId} {w w' : World} {size m : Nat} {v : Value} {xs : List Value} (h : w.ownsRow n t size v m xs) (hn : n ≤ w.heap.size) (g : w.grownBy w' v.ownBlock) : IW n B t w w' := by
  refine ⟨g.os, g.tape, g.output, g.size, fun k hk hb => g.block k (by omega) (fun e => ?_), fun k o hk _ hr _ => (g.block k (Array.getElem?_eq_some_iff.1 hk).1 (fun e => ?_)).trans hk⟩
  · rcases h.2 with ⟨rfl, _⟩ | ⟨q, cap, cur, rfl, hq, _⟩
    · cases e
    · have e2 : k = q := Option.some.inj e
      omega
  · rcases h.2 with ⟨rfl, _⟩ | ⟨q, cap, cur, rfl, _, hgb, _⟩
    · cases e
    · cases e
      rw [hgb] at hk
      cases hk
      simp [isRowOf] at hr
theorem IW.below {n B m : Nat} {t : TypeId} {w w' : World} (h : IW n B t w w') (hB : m ≤ B) (hm : m ≤ n) : Below m w w' :=
  ⟨h.os, h.tape, h.output, h.size, fun k hk => h.block k (by omega) (by omega)⟩
theorem IW.keeps {n B : Nat} {t : TypeId} {w w1 w' : World} (h : IW n B t w1 w') (k : Kp w w1) (hB : w.heap.size ≤ B) (hn : w.heap.size ≤ n) : Kp w w' :=
  Below.trans k (h.below hB hn)
theorem IW.boxed {n B C : Nat} {t e : TypeId} {w w' : World} {v : Value} (h : IW n B t w w') (b : Boxed w C e v) (hC : C ≠ B) (ht : (e == t) = false) : Boxed w' C e v :=
  h.same C _ b rfl (by simpa [isRowOf] using ht) hC
theorem IW.two {n B b : Nat} {t e : TypeId} {w w' : World} {x y : Value} (h : IW n B t w w') (c : w.heap[b]? = some (.cells #[x, y] e)) (hb : b ≠ B) (ht : (e == t) = false) : w'.heap[b]? = some (.cells #[x, y] e) :=
  h.same b _ c rfl (by simpa [isRowOf] using ht) hb
theorem IW.cell {n B k o : Nat} {t : TypeId} {w w' : World} {x : Value} (h : IW n B t w w') (c : w.cell? ⟨k, o, none⟩ = some x) (hk : k < n) (hB : k ≠ B) : w'.cell? ⟨k, o, none⟩ = some x :=
  (World.cell?_of_block (w := w) (h.block k hk hB)).trans c
theorem two_cell0 {w : World} {b : Nat} {x y : Value} {e : TypeId} (h : w.heap[b]? = some (.cells #[x, y] e)) : w.cell? ⟨b, 0, none⟩ = some x := by
  simp [World.cell?, h]
theorem IW.runs {n B : Nat} {t : TypeId} {w w' : World} {v : Value} {l : List R} (h : IW n B t w w') (r : RunsAt w v l) (hn : ∀ b off c, v = .slice (some ⟨b, off, none⟩) l.length c → b < n ∧ b ≠ B) : RunsAt w' v l := by
  rcases r with r | ⟨b, off, cap, e, h1, h2, h3⟩
  · exact .inl r
  · refine .inr ⟨b, off, cap, e, h1, h2, fun i hi => ?_⟩
    obtain ⟨c1, c2⟩ := h3 i hi
    obtain ⟨q1, q2⟩ := hn b off cap e
    exact ⟨h.cell c1 q1 q2, h.cell c2 q1 q2⟩
/-- a captured slice grows by what is appended -/
theorem iw_appended {W w1 : World} {n B : Nat} {t e : TypeId} {size : Nat} {v v' : Value} {k m : Nat} {xs ys : List Value} {tmp : Obj}
    (hv : Boxed W B t v) (hte : t ≠ e) (hrow : W.ownsRow n e size v k xs) (hn : n ≤ W.heap.size)
    (hown' : w1.ownsRow n e size v' m ys) (hgrow : (W.alloc tmp).grownBy w1 v.ownBlock) :
    Boxed w1 B t v ∧ Boxed (w1.setCell ⟨B, 0, none⟩ v') B t v' ∧ (w1.setCell ⟨B, 0, none⟩ v').ownsRow n e size v' m ys ∧ IW n B e W (w1.setCell ⟨B, 0, none⟩ v') := by
  have hv1 : Boxed w1 B t v := (hv.alloc tmp).kept hgrow (hv.not_row hte hrow)
  refine ⟨hv1, hv1.set v', hown'.kept (grownBy_setCell' w1 B v') (.inr (hv1.not_row hte hown').symm), ?_⟩
  exact ((IW.kp (Kp.alloc W tmp) hn).trans (IW.grown (hrow.alloc tmp) (by simp; omega) hgrow)).trans (IW.set n B e w1 v')
end Go.Proofs.YtjjpnglilalnmaaGreatDoor

namespace Go.Proofs.YtjjpnglilalnmaaGreatDoor
open Go.RowKit
set_option linter.unusedVariables false
set_option linter.unusedSimpArgs false
theorem IW.runs1 {B : Nat} {t tl : TypeId} {w0 w' : World} {u v : Value} {l : List R} (h : IW w0.heap.size B t w0 w') (bx : Boxed w0 B tl u) (r : RunsAt w0 v l) : RunsAt w' v l := by
  rcases r with r | ⟨b, off, cap, e, h1, h2, h3⟩
  · exact .inl r
  · refine .inr ⟨b, off, cap, e, h1, h2, fun i hi => ?_⟩
    obtain ⟨c1, c2⟩ := h3 i hi
    have hb : b ≠ B := by
      intro e
      subst e
      have : w0.cell? ⟨b, off + i * 2 + 1, none⟩ = none := by
        simp [World.cell?, show w0.heap[b]? = _ from bx]
      rw [this] at c2
      cases c2
    exact ⟨h.cell c1 (World.block_lt_of_cell? _ _ c1) hb, h.cell c2 (World.block_lt_of_cell? _ _ c2) hb⟩
/-- how a walk over numbers ends -/
def EachEnd (L : List Int) (J Q : List Int → World → Prop) (e : Ending) (w' : World) : Prop :=
  (e = .returned (.bool true) ∧ J L w') ∨ (e = .returned (.bool false) ∧ ∃ pre, pre <+: L ∧ Q pre w')
end Go.Proofs.YtjjpnglilalnmaaGreatDoor

namespace Go.Proofs.YtjjpnglilalnmaaGreatDoor
open Go.RowKit
set_option linter.unusedVariables false
set_option linter.unusedSimpArgs false
theorem infoPair : (Tryz.prog.info? 44).map (fun i => (i.zero, i.size, i.bytes)) = some (some (.agg #[.int .i64 0, .int .i64 0]), 2, 16) := by kernel_rfl
theorem boxed_kp {w w' : World} {B : Nat} {t : TypeId} {v : Value} (h : Boxed w B t v) (k : Kp w w') : Boxed w' B t v := (k.block B h.lt).trans h
theorem heap_kp {w w' : World} {b : Nat} {o : Obj} (h : w.heap[b]? = some o) (k : Kp w w') : w'.heap[b]? = some o := (k.block b (Array.getElem?_eq_some_iff.1 h).1).trans h
end Go.Proofs.YtjjpnglilalnmaaGreatDoor

namespace Go.Proofs.YtjjpnglilalnmaaGreatDoor
open Go.RowKit
set_option linter.unusedVariables false
set_option linter.unusedSimpArgs false
/-- the pairs of one start -/
def rowP (e : List R) (x : Int) : List (Int × Int) := (nums (fromR x e)).map fun t => (x, t)
theorem pairsF_span (s e : List R) : pairsF (.span s e) = (nums s).flatMap (rowP e) := by
  unfold pairsF rowP
  simp only [nums_from]
/-- how collecting ends -/
theorem coll_end {α : Type} {L : List α} {N : Nat} {P : List α} (h : P <+: L) (g : (P.length < N ∧ P = L) ∨ P.length = N) : P = L.take N := by
  rcases g with ⟨a, rfl⟩ | a
  · rw [List.take_of_length_le (by omega)]
  · exact (prefix_take h a).symm
theorem setB_zero {k : Int} {s : List R} (h : setB k s = true) : setB 0 s = true := setB_of (setB_sane h) fun n m => by
  have := setB_mem h m
  have := cnt_bd k
  rw [cnt_zero]
  omega
end Go.Proofs.YtjjpnglilalnmaaGreatDoor

namespace Go.Proofs.YtjjpnglilalnmaaGreatDoor
open Go.RowKit
set_option linter.unusedVariables false
set_option linter.unusedSimpArgs false
def fewB (f : LF) : Bool := decide (f.a.length ≤ 40) && decide (f.b.length ≤ 40)
set_option maxHeartbeats 1000000 in
theorem few_any (f : LF) (va vb : Value) (w : World) (ra : RunsAt w va f.a) (rb : RunsAt w vb f.b) :
    Calls Tryz.prog 22 #[leafV f va vb] w fun e w' => e = .returned (.bool (fewB f)) ∧ Kp w w' := by
  obtain ⟨sp, u, a, b⟩ := f
  obtain ⟨ad, ca, rfl⟩ := ra.slice
  obtain ⟨bd, cb, rfl⟩ := rb.slice
  rw [show fewB ⟨sp, u, a, b⟩ = (decide (a.length ≤ 40) && decide (b.length ≤ 40)) from rfl]
  unfold leafV
  simp only
  clear ra rb
  have E : ∀ n : Nat, decide ((n : Int) ≤ 40) = decide (n ≤ 40) := fun n => by
    by_cases h : n ≤ 40
    · rw [decide_eq_true h, decide_eq_true (by omega)]
    · rw [decide_eq_false h, decide_eq_false (by omega)]
  have e1 := E a.length
  have e2 := E b.length
  generalize decide (a.length ≤ 40) = x at *
  generalize decide (b.length ≤ 40) = y at *
  clear E
  cases x
  all_goals
    go_enter Tryz.func22, Tryz.ntmps22
    go_wp2
    go_ret
    exact ⟨by simp [e2], Kp.alloc _ _⟩
theorem fewB_yes {f : LF} (h : fewB f = true) : f.a.length ≤ 40 ∧ f.b.length ≤ 40 := by
  unfold fewB at h
  simpa using h
def exL : LF := ⟨true, 0, [(1, 3)], [(2, 2)]⟩
theorem exL_leaf : leafB exL = true := by decide +kernel
theorem exL_fam : famR exL = .span [(1, 2)] [(2, 2)] := by
  rw [famR_span exL_leaf rfl (by decide), show interR exL.a [(0, greatR exL.b)] = [(1, 2)] by decide +kernel, show interR exL.b [(leastR exL.a, 3652424)] = [(2, 2)] by decide +kernel]
end Go.Proofs.YtjjpnglilalnmaaGreatDoor
