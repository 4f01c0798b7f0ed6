/-
  Joined: Cnt, L4F, L4D, SetsD, 5P.
-/
import Derived.Test.YtinpglfclbnhlaaGreatDoorGSetB
namespace Go.Proofs.YtinpglfclbnhlaaGreatDoor
set_option linter.unusedVariables false
set_option linter.unusedSimpArgs false
def cntP (P : Int → Bool) (a : Int) : Nat → Int
  | 0 => 0
  | k + 1 => cntP P a k + (if P (a + k) = true then 1 else 0)
theorem cnt_split (P : Int → Bool) (a : Int) (j : Nat) : ∀ k, cntP P a (j + k) = cntP P a j + cntP P (a + j) k := by
  intro k
  induction k with
  | zero => simp [cntP]
  | succ k ih => rw [← Nat.add_assoc, cntP, ih, cntP, show a + ((j + k : Nat) : Int) = a + (j : Int) + (k : Int) by omega]; omega
theorem cnt_congr {P Q : Int → Bool} {a : Int} : ∀ {k : Nat}, (∀ n, a ≤ n → n < a + k → P n = Q n) → cntP P a k = cntP Q a k := by
  intro k
  induction k with
  | zero => intro _; rfl
  | succ k ih => intro h; rw [cntP, cntP, ih (fun n h1 h2 => h n h1 (by omega)), h (a + k) (by omega) (by omega)]
theorem cntP_no {P : Int → Bool} {a : Int} : ∀ {k : Nat}, (∀ n, a ≤ n → n < a + k → P n = false) → cntP P a k = 0 := by
  intro k
  induction k with
  | zero => intro _; rfl
  | succ k ih => intro h; rw [cntP, ih (fun n h1 h2 => h n h1 (by omega)), h (a + k) (by omega) (by omega)]; rfl
theorem cnt_yes {P : Int → Bool} {a : Int} : ∀ {k : Nat}, (∀ n, a ≤ n → n < a + k → P n = true) → cntP P a k = k := by
  intro k
  induction k with
  | zero => intro _; rfl
  | succ k ih => intro h; rw [cntP, ih (fun n h1 h2 => h n h1 (by omega)), h (a + k) (by omega) (by omega)]; simp
theorem cnt_add (P Q U M : Int → Bool) (a : Int) : ∀ (k : Nat), (∀ n, a ≤ n → n < a + k → U n = (P n || Q n) ∧ M n = (P n && Q n)) → cntP U a k + cntP M a k = cntP P a k + cntP Q a k := by
  intro k
  induction k with
  | zero => intro _; rfl
  | succ k ih =>
    intro h
    have g := ih (fun n h1 h2 => h n h1 (by omega))
    obtain ⟨h1, h2⟩ := h (a + k) (by omega) (by omega)
    rw [cntP, cntP, cntP, cntP, h1, h2]
    cases P (a + k) <;> cases Q (a + k) <;> simp <;> omega
theorem sumR_cnt_from : ∀ (s : List R) (lo : Int) (k : Nat), sane s → (∀ r t, s = r :: t → lo ≤ r.1) → lo + (k : Int) = 1099511627777 → sumR s = cntP (hasB s) lo k := by
  intro s
  induction s with
  | nil =>
    intro lo k _ _ _
    rw [cntP_no (P := hasB []) (fun n _ _ => rfl)]; rfl
  | cons r t ih =>
    intro lo k hs hlo hk
    have h0 := hlo r t rfl
    obtain ⟨o1, o2, o3⟩ := sane_head hs
    have B := sane_beyond hs
    have st := sane_tail hs
    have hb : ∀ n, hasB (r :: t) n = true ↔ (r.1 ≤ n ∧ n ≤ r.2) ∨ memR t n := fun n => by
      have := hasB_nf (r :: t) n
      rw [nf_of_sane hs] at this
      rw [this, sane_mem_head hs]
    have ht : ∀ n, hasB t n = true ↔ memR t n := fun n => by
      have := hasB_nf t n
      rwa [nf_of_sane st] at this
    obtain ⟨j1, e1⟩ : ∃ j1 : Nat, (j1 : Int) = r.1 - lo := ⟨(r.1 - lo).toNat, by omega⟩
    obtain ⟨j2, e2⟩ : ∃ j2 : Nat, (j2 : Int) = r.2 - r.1 + 1 := ⟨(r.2 - r.1 + 1).toNat, by omega⟩
    obtain ⟨j3, e3⟩ : ∃ j3 : Nat, (j3 : Int) = 1099511627777 - (r.2 + 1) := ⟨(1099511627777 - (r.2 + 1)).toNat, by omega⟩
    have ek : k = j1 + (j2 + j3) := by omega
    rw [ek, cnt_split, cnt_split]
    have c1 : cntP (hasB (r :: t)) lo j1 = 0 := cntP_no (fun n h1 h2 => by
      cases e : hasB (r :: t) n with
      | false => rfl
      | true =>
        rcases (hb n).1 e with g | g
        · omega
        · have := B n g; omega)
    have c2 : cntP (hasB (r :: t)) (lo + j1) j2 = j2 := cnt_yes (fun n h1 h2 => (hb n).2 (.inl ⟨by omega, by omega⟩))
    have c3 : cntP (hasB (r :: t)) (lo + j1 + j2) j3 = sumR t := by
      rw [ih (r.2 + 1) j3 st (fun q u e => by subst e; have : r.2 + 1 < q.1 := hs.2.1; omega) (by omega), show lo + (j1 : Int) + (j2 : Int) = r.2 + 1 by omega]
      refine cnt_congr fun n h1 h2 => bool_iff ?_
      rw [hb, ht]
      exact ⟨fun g => g.elim (fun g => by omega) id, .inr⟩
    rw [c1, c2, c3, sumR]
    omega
theorem sumR_cnt {s : List R} (h : sane s) : sumR s = cntP (hasB s) (-1099511627776) 2199023255553 :=
  sumR_cnt_from s _ _ h (fun r t e => by subst e; exact (sane_head h).2.1) (by decide)
/-- two sets, their union and what both have -/
theorem sumR_add {a b u m : List R} (ha : sane a) (hb : sane b) (hu : sane u) (hm : sane m) (h1 : ∀ n, memR u n ↔ memR a n ∨ memR b n) (h2 : ∀ n, memR m n ↔ memR a n ∧ memR b n) : sumR u + sumR m = sumR a + sumR b := by
  rw [sumR_cnt ha, sumR_cnt hb, sumR_cnt hu, sumR_cnt hm]
  have H : ∀ {l : List R}, sane l → ∀ n, hasB l n = true ↔ memR l n := fun {l} h n => by
    have := hasB_nf l n
    rwa [nf_of_sane h] at this
  refine cnt_add _ _ _ _ _ _ fun n _ _ => ⟨bool_iff ?_, bool_iff ?_⟩
  · rw [H hu, h1, Bool.or_eq_true, H ha, H hb]
  · rw [H hm, h2, Bool.and_eq_true, H ha, H hb]
/-- one number more -/
theorem sumR_one {s t : List R} {x : Int} (hs : sane s) (ht : sane t) (hx : -1099511627776 ≤ x ∧ x ≤ 1099511627776) (h : ∀ n, memR t n ↔ memR s n ∨ n = x) : sumR t = sumR s + (if hasB s x = true then 0 else 1) := by
  have H : ∀ n, hasB s n = true ↔ memR s n := fun n => by
    have := hasB_nf s n
    rwa [nf_of_sane hs] at this
  have s1 : sane [((x, x) : R)] := ⟨⟨Int.le_refl _, hx.1, hx.2⟩, trivial, trivial⟩
  have m1 : ∀ n, memR [((x, x) : R)] n ↔ n = x := fun n => by
    rw [sane_mem_head s1]
    exact ⟨fun g => g.elim (fun g => by simp only at g; omega) (fun g => absurd g (memR_nil n)), fun g => .inl (by simp only; omega)⟩
  by_cases c : hasB s x = true
  · have := sumR_add hs s1 ht s1 (fun n => by rw [h, m1]) (fun n => by rw [m1]; exact ⟨fun g => ⟨by subst g; exact (H n).1 c, g⟩, fun g => g.2⟩)
    rw [if_pos c]; omega
  · have := sumR_add hs s1 ht (m := []) trivial (fun n => by rw [h, m1]) (fun n => ⟨fun g => absurd g (memR_nil n), fun g => by rw [m1] at g; obtain ⟨g1, rfl⟩ := g; exact absurd ((H n).2 g1) c⟩)
    rw [if_neg c]
    simp only [sumR] at this
    omega
theorem sing_mem (l : List Int) (n : Int) : memR (sing l) n ↔ n ∈ l ∧ -1099511627776 ≤ n ∧ n ≤ 1099511627776 := by
  unfold memR sing
  constructor
  · rintro ⟨r, hr, g1, g2, g3⟩
    simp only [List.mem_map] at hr
    obtain ⟨q, hq, rfl⟩ := hr
    simp only at g1 g2
    obtain rfl : q = n := by omega
    exact ⟨hq, g3⟩
  · rintro ⟨h1, h2⟩
    exact ⟨(n, n), by simp only [List.mem_map]; exact ⟨n, h1, rfl⟩, Int.le_refl _, Int.le_refl _, h2⟩
theorem take_getD {l : List Int} {k : Nat} (h : k < l.length) : l.take (k + 1) = l.take k ++ [l.getD k 0] := by
  rw [List.take_succ_eq_append_getElem h]; simp [List.getD, h]
theorem sum_take {l : List Int} {k : Nat} (h : k < l.length) : sumR (nf (sing (l.take (k + 1)))) = sumR (nf (sing (l.take k))) +
    (if (-1099511627776 ≤ l.getD k 0 ∧ l.getD k 0 ≤ 1099511627776) ∧ l.getD k 0 ∉ l.take k then 1 else 0) := by
  rw [take_getD h]
  generalize l.getD k 0 = x
  generalize l.take k = t
  by_cases c : -1099511627776 ≤ x ∧ x ≤ 1099511627776
  · have M : ∀ n, memR (nf (sing (t ++ [x]))) n ↔ memR (nf (sing t)) n ∨ n = x := by
      intro n
      rw [nf_mem, nf_mem, sing_mem, sing_mem]
      simp only [List.mem_append, List.mem_singleton]
      constructor
      · rintro ⟨g | g, h⟩
        · exact .inl ⟨g, h⟩
        · exact .inr g
      · rintro (⟨g, h⟩ | g)
        · exact ⟨.inl g, h⟩
        · exact ⟨.inr g, by omega⟩
    rw [sumR_one (nf_sane (sing t)) (nf_sane _) c M]
    have H := hasB_nf (sing t) x
    rw [sing_mem] at H
    by_cases d : x ∈ t
    · rw [if_pos (H.2 ⟨d, c⟩), if_neg (fun g => g.2 d)]
    · rw [if_neg (fun g => d (H.1 g).1), if_pos ⟨c, d⟩]
  · have e : nf (sing (t ++ [x])) = nf (sing t) := nf_congr fun n => by
      rw [sing_mem, sing_mem]
      simp only [List.mem_append, List.mem_singleton]
      constructor
      · rintro ⟨g | g, h⟩
        · exact ⟨g, h⟩
        · subst g; exact absurd h c
      · rintro ⟨g, h⟩; exact ⟨.inl g, h⟩
    rw [e, if_neg (fun g => c g.1)]
    omega
end Go.Proofs.YtinpglfclbnhlaaGreatDoor

namespace Go.Proofs.YtinpglfclbnhlaaGreatDoor
open Go.RowKit
set_option linter.unusedVariables false
set_option linter.unusedSimpArgs false
theorem infoI : (Tryz.prog.info? 3).map (fun i => (i.zero, i.size, i.bytes)) = some (some (.int .i64 0), 1, 8) := by kernel_rfl
def cellsI (l : List Int) : List Value := l.map (Value.int .i64)
theorem ints_own {w : World} {base : Nat} {e : TypeId} {v : Value} {l : List Int} (h : w.ownsRow base e 1 v l.length (cellsI l)) : IntsAt w v l := by
  rcases h.2 with ⟨e1, h0⟩ | ⟨g, cp, cur, rfl, h2, h3, h4, h5, h6, h7⟩
  · exact .inl ⟨_, _, e1, List.length_eq_zero_iff.1 h0⟩
  · refine .inr ⟨g, 0, cp, rfl, h4, h5, fun i hi => ?_⟩
    rw [Nat.zero_add, h.cellAt _ (by omega)]
    unfold cellsI
    simp [List.getD, hi]
theorem int_src (w : World) (x : Int) (t : TypeId) : SrcAt (w.alloc (.cells #[.int .i64 x] t)) (.slice (some ⟨w.heap.size, 0, none⟩) 1 1) 1 [.int .i64 x] := by
  refine .inr ⟨_, _, rfl, fun j u hu => ?_⟩
  rcases j with _ | j
  · simp at hu; subst hu; simp [Addr.add]
  · simp at hu
theorem iown_snoc {w : World} {base : Nat} {e : TypeId} {v : Value} {l : List Int} {x : Int} (h : w.ownsRow base e 1 v (l.length + 1) (cellsI l ++ [.int .i64 x])) : w.ownsRow base e 1 v (l ++ [x]).length (cellsI (l ++ [x])) := by
  have : cellsI (l ++ [x]) = cellsI l ++ [.int .i64 x] := by unfold cellsI; simp
  rw [this, List.length_append]; exact h
/-- the last ones, the last one first -/
def backF (l : List Int) : Nat → List Int
  | 0 => []
  | j + 1 => backF l j ++ [l.getD (l.length - 1 - j) 0]
theorem backF_len (l : List Int) : ∀ j, (backF l j).length = j := by
  intro j
  induction j with
  | zero => rfl
  | succ j ih => rw [backF, List.length_append, ih]; rfl
theorem backF_mem (l : List Int) (n : Int) : ∀ j, j ≤ l.length → (n ∈ backF l j ↔ ∃ i, l.length - j ≤ i ∧ i < l.length ∧ l.getD i 0 = n) := by
  intro j
  induction j with
  | zero => intro _; rw [backF]; exact ⟨fun g => absurd g (List.not_mem_nil), fun ⟨i, h1, h2, _⟩ => by omega⟩
  | succ j ih =>
    intro hj
    rw [backF, List.mem_append, ih (by omega), List.mem_singleton]
    constructor
    · rintro (⟨i, h1, h2, g⟩ | g)
      · exact ⟨i, by omega, h2, g⟩
      · exact ⟨l.length - 1 - j, by omega, by omega, g.symm⟩
    · rintro ⟨i, h1, h2, g⟩
      by_cases c : l.length - j ≤ i
      · exact .inl ⟨i, c, h2, g⟩
      · obtain rfl : i = l.length - 1 - j := by omega
        exact .inr g.symm
theorem mem_getD {l : List Int} {n : Int} : n ∈ l ↔ ∃ i, i < l.length ∧ l.getD i 0 = n := by
  constructor
  · intro h
    obtain ⟨i, hi, e⟩ := List.getElem_of_mem h
    exact ⟨i, hi, by simp [List.getD, hi, e]⟩
  · rintro ⟨i, hi, rfl⟩; exact getD_mem hi
theorem backF_nf (l : List Int) : nf (sing (backF l l.length)) = nf (sing l) := by
  refine nf_congr fun n => ?_
  rw [sing_mem, sing_mem, backF_mem l n l.length (Nat.le_refl _), mem_getD]
  constructor
  · rintro ⟨⟨i, _, h2, g⟩, h⟩; exact ⟨⟨i, h2, g⟩, h⟩
  · rintro ⟨⟨i, h2, g⟩, h⟩; exact ⟨⟨i, by omega, h2, g⟩, h⟩
theorem backF_i64 (l : List Int) (hl : I64 l) : ∀ j, j ≤ l.length → I64 (backF l j) := by
  intro j hj n hn
  obtain ⟨i, _, h2, g⟩ := (backF_mem l n j hj).1 hn
  rw [← g]; exact hl _ (getD_mem h2)
theorem not_mem_take {l : List Int} {k : Nat} {x : Int} (hk : k ≤ l.length) : x ∉ l.take k ↔ ∀ i, i < k → l.getD i 0 ≠ x := by
  constructor
  · intro h i hi e
    refine h (mem_getD.2 ⟨i, by rw [List.length_take]; omega, ?_⟩)
    rw [← e]
    have h1 : i < l.length := by omega
    simp [List.getD, hi, h1]
  · intro h hm
    obtain ⟨i, hi, e⟩ := mem_getD.1 hm
    rw [List.length_take] at hi
    refine h i (by omega) ?_
    rw [← e]
    have h1 : i < l.length := by omega
    have h2 : i < k := by omega
    simp [List.getD, h2, h1]
/-- a bool that tells whether something holds -/
def Tells (q : Bool) (P : Prop) : Prop := q = true ↔ P
theorem Tells.mk {q : Bool} {P : Prop} (h : q = true ↔ P) : Tells q P := h
theorem Tells.out {q : Bool} {P : Prop} (h : Tells q P) : q = true ↔ P := h
/-- is one of the last ones within bounds, and n -/
def lastIn (l : List Int) (n : Int) (j : Nat) : Prop := ∃ i, l.length - j ≤ i ∧ i < l.length ∧ l.getD i 0 = n ∧ -1099511627776 ≤ n ∧ n ≤ 1099511627776
theorem lastIn_next (l : List Int) (n : Int) (j : Nat) (hj : j < l.length) : lastIn l n (j + 1) ↔ lastIn l n j ∨ (l.getD (l.length - 1 - j) 0 = n ∧ -1099511627776 ≤ n ∧ n ≤ 1099511627776) := by
  constructor
  · rintro ⟨i, h1, h2, g⟩
    by_cases c : l.length - j ≤ i
    · exact .inl ⟨i, c, h2, g⟩
    · obtain rfl : i = l.length - 1 - j := by omega
      exact .inr g
  · rintro (⟨i, h1, h2, g⟩ | g)
    · exact ⟨i, by omega, h2, g⟩
    · exact ⟨l.length - 1 - j, by omega, by omega, g⟩
theorem lastIn_all (l : List Int) (n : Int) : lastIn l n l.length ↔ hasB (nf (sing l)) n = true := by
  rw [hasB_nf, sing_mem, mem_getD]
  constructor
  · rintro ⟨i, _, h2, g, h⟩; exact ⟨⟨i, h2, g⟩, h⟩
  · rintro ⟨⟨i, h2, g⟩, h⟩; exact ⟨i, by omega, h2, g, h⟩
end Go.Proofs.YtinpglfclbnhlaaGreatDoor

namespace Go.Proofs.YtinpglfclbnhlaaGreatDoor
open Go.RowKit
set_option linter.unusedVariables false
set_option linter.unusedSimpArgs false
theorem mem_cons_sane {r : R} {t : List R} (h : sane (r :: t)) (n : Int) : memR (r :: t) n ↔ (r.1 ≤ n ∧ n ≤ r.2) ∨ memR t n := sane_mem_head h n
theorem nxt_spec : ∀ (l : List R) (n : Int), sane l → (nxt l n = (0, false) ∧ ∀ m, memR l m → m < n) ∨ ∃ a, nxt l n = (a, true) ∧ n ≤ a ∧ memR l a ∧ ∀ m, memR l m → n ≤ m → a ≤ m := by
  intro l
  induction l with
  | nil => intro n _; exact .inl ⟨rfl, fun m h => absurd h (memR_nil m)⟩
  | cons r t ih =>
    intro n hs
    rw [nxt]
    have hr := (sane_head hs).1
    have B := sane_beyond hs
    by_cases c : n ≤ r.2
    · rw [if_pos c]
      refine .inr ⟨max n r.1, rfl, by omega, (mem_cons_sane hs _).2 (.inl ⟨by omega, by omega⟩), fun m hm hn => ?_⟩
      rcases (mem_cons_sane hs m).1 hm with g | g
      · omega
      · have := B m g; omega
    · rw [if_neg c]
      rcases ih n (sane_tail hs) with ⟨e, h⟩ | ⟨a, e, h1, h2, h3⟩
      · refine .inl ⟨e, fun m hm => ?_⟩
        rcases (mem_cons_sane hs m).1 hm with g | g
        · omega
        · exact h m g
      · refine .inr ⟨a, e, h1, (mem_cons_sane hs _).2 (.inr h2), fun m hm hn => ?_⟩
        rcases (mem_cons_sane hs m).1 hm with g | g
        · omega
        · exact h3 m g hn
theorem prv_spec : ∀ (l : List R) (n : Int), sane l → (prv l n = (0, false) ∧ ∀ m, memR l m → n < m) ∨ ∃ a, prv l n = (a, true) ∧ a ≤ n ∧ memR l a ∧ ∀ m, memR l m → m ≤ n → m ≤ a := by
  intro l
  induction l with
  | nil => intro n _; exact .inl ⟨rfl, fun m h => absurd h (memR_nil m)⟩
  | cons r t ih =>
    intro n hs
    rw [prv]
    have hr := (sane_head hs).1
    have B := sane_beyond hs
    rcases ih n (sane_tail hs) with ⟨e, h⟩ | ⟨a, e, h1, h2, h3⟩
    · rw [e, if_neg (by simp)]
      by_cases c : r.1 ≤ n
      · rw [if_pos c]
        refine .inr ⟨min n r.2, rfl, by omega, (mem_cons_sane hs _).2 (.inl ⟨by omega, by omega⟩), fun m hm hn => ?_⟩
        rcases (mem_cons_sane hs m).1 hm with g | g
        · omega
        · have := h m g; omega
      · rw [if_neg c]
        refine .inl ⟨rfl, fun m hm => ?_⟩
        rcases (mem_cons_sane hs m).1 hm with g | g
        · omega
        · exact h m g
    · rw [e, if_pos rfl]
      refine .inr ⟨a, rfl, h1, (mem_cons_sane hs _).2 (.inr h2), fun m hm hn => ?_⟩
      rcases (mem_cons_sane hs m).1 hm with g | g
      · have := B a h2; omega
      · exact h3 m g hn
theorem mem_at {l : List R} (h : sane l) {k : Nat} (hk : k < l.length) : memR l (at_ l k).1 ∧ memR l (at_ l k).2 := by
  obtain ⟨o1, o2, o3⟩ := sane_ok h _ (at_mem hk)
  exact ⟨⟨_, at_mem hk, Int.le_refl _, o1, by omega, by omega⟩, ⟨_, at_mem hk, o1, Int.le_refl _, by omega, by omega⟩⟩
theorem hasB_sane {l : List R} (h : sane l) (n : Int) : hasB l n = true ↔ memR l n := by
  have := hasB_nf l n
  rwa [nf_of_sane h] at this
theorem hasB_no {l : List R} (h : sane l) {n : Int} (g : ¬ memR l n) : hasB l n = false := by
  rcases Bool.eq_false_or_eq_true (hasB l n) with e | e
  · exact absurd ((hasB_sane h n).1 e) g
  · exact e
theorem mem_bd {l : List R} {n : Int} (h : memR l n) : -1099511627776 ≤ n ∧ n ≤ 1099511627776 := by
  obtain ⟨r, _, _, _, h3, h4⟩ := h; exact ⟨h3, h4⟩
theorem no_mem {l : List R} (h : sane l) (g : ∀ m, ¬ memR l m) : l = [] := by
  cases l with
  | nil => rfl
  | cons r t => exact absurd ((mem_cons_sane h r.1).2 (.inl ⟨Int.le_refl _, (sane_head h).1⟩)) (g _)
/-- what the walk is told of the set, and of the two answers -/
structure NX (L : List R) (n a b : Int) (ok is : Bool) : Prop where
  hok : ok = true → n ≤ a ∧ memR L a ∧ ∀ m, memR L m → n ≤ m → a ≤ m
  hno : ok = false → a = 0 ∧ ∀ m, memR L m → m < n
  his : is = true → b ≤ n ∧ memR L b ∧ ∀ m, memR L m → m ≤ n → m ≤ b
  hio : is = false → b = 0 ∧ ∀ m, memR L m → n < m
end Go.Proofs.YtinpglfclbnhlaaGreatDoor

namespace Go.Proofs.YtinpglfclbnhlaaGreatDoor
open Go.RowKit
set_option linter.unusedVariables false
set_option linter.unusedSimpArgs false
theorem flat_len (a b : List R) (f : R → R → R) : (a.flatMap fun r => b.map (f r)).length = a.length * b.length := by
  induction a with
  | nil => simp
  | cons r t ih => rw [List.flatMap_cons, List.length_append, ih, List.length_map, List.length_cons, Nat.succ_mul]; omega
theorem interR_bd {a b : List R} {p q : Nat} (ha : a.length ≤ p) (hb : b.length ≤ q) : (interR a b).length ≤ p * q := by
  have h := nf_len (a.flatMap fun r => b.map fun s => (max r.1 s.1, min r.2 s.2))
  rw [flat_len a b (fun r s => (max r.1 s.1, min r.2 s.2))] at h
  exact Nat.le_trans h (Nat.mul_le_mul ha hb)
theorem gaps_len : ∀ (s : List R) (f : Int), (gaps f s).length ≤ s.length + 1 := by
  intro s
  induction s with
  | nil => intro f; rw [gaps]; split <;> simp
  | cons r t ih => intro f; rw [gaps]; have := ih (r.2 + 1); split <;> simp <;> omega
theorem diffR_bd {a b : List R} {p q : Nat} (ha : a.length ≤ p) (hb : b.length ≤ q) : (diffR a b).length ≤ p * (q + 1) :=
  interR_bd ha (by have h1 := gaps_len (nf b) (-1099511627776); have h2 := nf_len b; unfold restR; omega)
theorem nf_bd {a : List R} {p : Nat} (ha : a.length ≤ p) : (nf a).length ≤ p := Nat.le_trans (nf_len a) ha
theorem sane_i64 {l : List R} (h : sane l) : I64R l := ok_i64 (sane_ok h)
theorem i64_one {lo hi' : Int} (a1 : -9223372036854775808 ≤ lo) (a2 : lo ≤ 9223372036854775807) (b1 : -9223372036854775808 ≤ hi') (b2 : hi' ≤ 9223372036854775807) : I64R [(lo, hi')] := by
  intro r hr
  rw [List.mem_singleton] at hr
  subst hr
  exact ⟨a1, a2, b1, b2⟩
theorem same_any (v u : Value) (l : List R) (w : World) (hv : RunsAt w v l) (hu : RunsAt w u l) (hn : l.length ≤ 1000000) :
    Calls Tryz.prog 12 #[v, u] w fun e w' => e = .returned (.bool true) ∧ Kp w w' := by
  have h := rsame_any v u l l w hv hu (by omega) (by omega)
  rwa [show decide (l = l) = true from decide_eq_true rfl] at h
theorem sane_yes (v : Value) (l : List R) (w : World) (hv : RunsAt w v l) (h : sane l) :
    Calls Tryz.prog 77 #[v] w fun e w' => e = .returned (.bool true) ∧ Kp w w' := by
  have g := sane_any v l w hv (sane_i64 h)
  rwa [saneB_yes h] at g
set_option maxHeartbeats 1000000 in
theorem clip_any (v : Value) (l : List R) (lo hi' : Int) (w : World) (hv : RunsAt w v l) (hl : I64R l) (hn : l.length ≤ 1000000) (hi64 : I64R [(lo, hi')]) :
    Calls Tryz.prog 26 #[v, .int .i64 lo, .int .i64 hi'] w fun e w' => ∃ v' : Value, e = .returned v' ∧ w'.ownsRow w.heap.size 37 2 v' (interR l [(lo, hi')]).length (cellsR (interR l [(lo, hi')])) ∧ Kp w w' := by
  have C := Lib.hid (fun t => meet_any v (.slice (some ⟨w.heap.size, 0, none⟩) 1 1) l [(lo, hi')] (w.alloc (.cells #[.int .i64 lo, .int .i64 hi'] t)) (hv.kp (Kp.alloc _ _)) (lit_at w [(lo, hi')] _ _ rfl (by simp [maxLen])) hl hi64 hn (by simp))
  clear hv hl
  go_enter Tryz.func26, Tryz.ntmps26
  go_wp2_with fail
  refine (C.out _).mono ?_
  rintro e w1 ⟨v1, rfl, own1, kk⟩
  have O := Lib.hid own1
  have K := Lib.hid kk
  clear own1 kk C
  go_wp2
  go_ret
  exact ⟨_, rfl, own_mono O.out (by simp), (Kp.alloc _ _).trans K.out⟩
end Go.Proofs.YtinpglfclbnhlaaGreatDoor

namespace Go.Proofs.YtinpglfclbnhlaaGreatDoor
set_option linter.unusedVariables false
set_option linter.unusedSimpArgs false
theorem sane_pw {l : List R} : sane l ↔ (∀ r ∈ l, okR r) ∧ l.Pairwise (fun a b => a.2 + 1 < b.1) := by
  induction l with
  | nil => simp [sane]
  | cons r t ih =>
    constructor
    · intro h
      have g := ih.1 (sane_tail h)
      refine ⟨fun q hq => ?_, List.pairwise_cons.2 ⟨fun b hb => ?_, g.2⟩⟩
      · rcases List.mem_cons.1 hq with e | e
        · subst e; exact sane_head h
        · exact g.1 q e
      · obtain ⟨o1, o2, o3⟩ := g.1 b hb
        exact sane_beyond h b.1 ⟨b, hb, Int.le_refl _, o1, o2, by omega⟩
    · rintro ⟨h1, h2⟩
      have h3 := List.pairwise_cons.1 h2
      exact sane_cons (h1 r (by simp)) (fun s t' e => h3.1 s (by rw [e]; simp)) (ih.2 ⟨fun q hq => h1 q (by simp [hq]), h3.2⟩)
def ov (x y : R) : List R := if max x.1 y.1 ≤ min x.2 y.2 then [(max x.1 y.1, min x.2 y.2)] else []
theorem ov_mem {x y q : R} (h : q ∈ ov x y) : q = (max x.1 y.1, min x.2 y.2) ∧ max x.1 y.1 ≤ min x.2 y.2 := by
  unfold ov at h
  split at h
  · exact ⟨by simpa using h, ‹_›⟩
  · cases h
def mtR (x : R) (B : List R) : List R := B.flatMap (ov x)
def mtL (A B : List R) : List R := A.flatMap fun x => mtR x B
theorem mtL_sane {A B : List R} (hA : sane A) (hB : sane B) : sane (mtL A B) := by
  have a := sane_pw.1 hA
  have b := sane_pw.1 hB
  refine sane_pw.2 ⟨fun q hq => ?_, ?_⟩
  · unfold mtL mtR at hq
    simp only [List.mem_flatMap] at hq
    obtain ⟨x, hx, y, hy, h⟩ := hq
    obtain ⟨rfl, h2⟩ := ov_mem h
    obtain ⟨p1, p2, p3⟩ := a.1 x hx
    obtain ⟨q1, q2, q3⟩ := b.1 y hy
    exact ⟨h2, by simp only; omega, by simp only; omega⟩
  · unfold mtL mtR
    rw [List.pairwise_flatMap]
    refine ⟨fun x hx => ?_, a.2.imp fun {x x'} h q hq q' hq' => ?_⟩
    · rw [List.pairwise_flatMap]
      refine ⟨fun y hy => ?_, b.2.imp fun {y y'} h q hq q' hq' => ?_⟩
      · unfold ov; split <;> simp
      · obtain ⟨rfl, h2⟩ := ov_mem hq
        obtain ⟨rfl, h3⟩ := ov_mem hq'
        simp only
        omega
    · simp only [List.mem_flatMap] at hq hq'
      obtain ⟨y, hy, g⟩ := hq
      obtain ⟨y', hy', g'⟩ := hq'
      obtain ⟨rfl, h2⟩ := ov_mem g
      obtain ⟨rfl, h3⟩ := ov_mem g'
      simp only
      omega
theorem mtL_mem (A B : List R) (n : Int) : memR (mtL A B) n ↔ memR A n ∧ memR B n := by
  unfold mtL mtR memR
  constructor
  · rintro ⟨q, hq, g1, g2, g3⟩
    simp only [List.mem_flatMap] at hq
    obtain ⟨x, hx, y, hy, h⟩ := hq
    obtain ⟨rfl, h2⟩ := ov_mem h
    simp only at g1 g2
    exact ⟨⟨x, hx, by omega, by omega, g3⟩, ⟨y, hy, by omega, by omega, g3⟩⟩
  · rintro ⟨⟨x, hx, g1, g2, g3⟩, ⟨y, hy, g4, g5, _⟩⟩
    refine ⟨(max x.1 y.1, min x.2 y.2), ?_, by simp only; omega, by simp only; omega, g3⟩
    simp only [List.mem_flatMap]
    refine ⟨x, hx, y, hy, ?_⟩
    unfold ov
    rw [if_pos (by omega)]
    simp
theorem mtL_inter (a b : List R) : mtL (nf a) (nf b) = interR a b :=
  sane_ext (mtL_sane (nf_sane a) (nf_sane b)) (interR_sane a b) fun n => by rw [mtL_mem, interR_mem, nf_mem, nf_mem]
/-- what is out at run i of A and run k of B -/
def mtO (A B : List R) (i k : Nat) : List R := mtL (A.take i) B ++ mtR (at_ A i) (B.take k)
theorem mtR_take (x : R) (B : List R) (k : Nat) (h : k < B.length) : mtR x (B.take (k + 1)) = mtR x (B.take k) ++ ov x (at_ B k) := by
  rw [take_at B k h]; unfold mtR; simp
theorem mtO_next (A B : List R) (i k : Nat) (h : k < B.length) : mtO A B i (k + 1) = mtO A B i k ++ ov (at_ A i) (at_ B k) := by
  unfold mtO; rw [mtR_take _ _ _ h, List.append_assoc]
theorem mtO_row (A B : List R) (i : Nat) (h : i < A.length) : mtO A B i B.length = mtO A B (i + 1) 0 := by
  unfold mtO mtL
  rw [List.take_length, take_at A i h]
  simp [mtR]
theorem mtO_start (A B : List R) : mtO A B 0 0 = [] := by unfold mtO mtL mtR; simp
theorem mtO_end (A B : List R) : mtO A B A.length 0 = mtL A B := by unfold mtO mtR; simp
theorem ov_len (x y : R) : (ov x y).length ≤ 1 := by unfold ov; split <;> simp
theorem mtR_len (x : R) : ∀ B : List R, (mtR x B).length ≤ B.length := by
  intro B
  induction B with
  | nil => simp [mtR]
  | cons y t ih =>
    have h : mtR x (y :: t) = ov x y ++ mtR x t := by simp [mtR]
    have := ov_len x y
    rw [h, List.length_append, List.length_cons]
    omega
theorem mtL_len (B : List R) : ∀ A : List R, (mtL A B).length ≤ A.length * B.length := by
  intro A
  induction A with
  | nil => simp [mtL]
  | cons y t ih =>
    have h : mtL (y :: t) B = mtR y B ++ mtL t B := by simp [mtL]
    have := mtR_len y B
    rw [h, List.length_append, List.length_cons, Nat.succ_mul]
    omega
theorem mtO_len {A B : List R} {i k p q : Nat} (hi : i < A.length) (hk : k ≤ B.length) (ha : A.length ≤ p) (hb : B.length ≤ q) : (mtO A B i k).length ≤ p * q := by
  unfold mtO
  have h1 := mtL_len B (A.take i)
  have h2 := mtR_len (at_ A i) (B.take k)
  have h3 : (A.take i).length = i := by simp; omega
  have h4 : (B.take k).length = k := by simp; omega
  have h5 : (i + 1) * B.length ≤ p * q := Nat.mul_le_mul (by omega) hb
  rw [h3] at h1
  rw [Nat.succ_mul] at h5
  rw [List.length_append]
  omega
theorem gaps_next (L : List R) (k : Nat) (h : k < L.length) (f : Int) : gaps f (L.drop k) = (if f < (at_ L k).1 then [(f, (at_ L k).1 - 1)] else []) ++ gaps ((at_ L k).2 + 1) (L.drop (k + 1)) := by
  have e : L.drop k = at_ L k :: L.drop (k + 1) := by
    rw [List.drop_eq_getElem_cons h]; unfold at_; simp [List.getD, h]
  rw [e, gaps]
/-- numbers, each so far from the next -/
def spd (d : Int) (k : Nat) : List R := (List.range k).map fun i : Nat => ((i : Int) * d, (i : Int) * d)
theorem spd_len (d : Int) (k : Nat) : (spd d k).length = k := by simp [spd]
theorem spd_next (d : Int) (k : Nat) : spd d (k + 1) = spd d k ++ [((k : Int) * d, (k : Int) * d)] := by simp [spd, List.range_succ]
theorem spd_bd {d : Int} {k : Nat} (h1 : 1 ≤ d) (h2 : d ≤ 8) (hk : k ≤ 512) : ∀ r ∈ spd d k, okR r := by
  intro r hr
  simp only [spd, List.mem_map, List.mem_range] at hr
  obtain ⟨i, hi, rfl⟩ := hr
  have a1 : (0 : Int) ≤ (i : Int) * d := Int.mul_nonneg (by omega) (by omega)
  have a2 : (i : Int) * d ≤ 512 * 8 := Int.mul_le_mul (by omega) h2 (by omega) (by omega)
  exact ⟨Int.le_refl _, by simp only; omega, by simp only; omega⟩
theorem spd_sane {d : Int} {k : Nat} (h1 : 2 ≤ d) (h2 : d ≤ 8) (hk : k ≤ 512) : sane (spd d k) := by
  refine sane_pw.2 ⟨spd_bd (by omega) h2 hk, ?_⟩
  unfold spd
  rw [List.pairwise_map]
  refine List.pairwise_lt_range.imp fun {i j} h => ?_
  simp only
  have a1 : ((i : Int) + 1) * d ≤ (j : Int) * d := Int.mul_le_mul_of_nonneg_right (by omega) (by omega)
  rw [Int.add_mul] at a1
  omega
theorem spd_one (k : Nat) (hk : k ≤ 512) : (nf (spd 1 k)).length ≤ 1 := by
  have e : nf (spd 1 k) = if k = 0 then [] else [((0 : Int), (k : Int) - 1)] := by
    refine nf_eq ?_ fun n => ?_
    · split
      · trivial
      · exact ⟨⟨by simp only; omega, by simp only; omega, by simp only; omega⟩, trivial, trivial⟩
    · split
      · subst_vars; simp [spd]
      · rw [memR_cons]
        constructor
        · rintro (g | g)
          · simp only at g
            refine ⟨(n, n), ?_, Int.le_refl _, Int.le_refl _, g.2.2.1, g.2.2.2⟩
            simp only [spd, List.mem_map, List.mem_range]
            exact ⟨n.toNat, by omega, by rw [Int.mul_one]; congr 1 <;> omega⟩
          · exact absurd g (memR_nil n)
        · rintro ⟨r, hr, g1, g2, g3⟩
          simp only [spd, List.mem_map, List.mem_range] at hr
          obtain ⟨i, hi, rfl⟩ := hr
          simp only at g1 g2
          exact .inl ⟨by simp only; omega, by simp only; omega, g3⟩
  rw [e]
  split <;> simp
theorem spd_wide {d : Int} {k : Nat} (h1 : 1 ≤ d) (h2 : d ≤ 8) (hk : k ≤ 512) : decide (400 < (nf (spd d k)).length) = decide (400 < k ∧ 1 < d) := by
  by_cases e : d = 1
  · subst e
    have := spd_one k hk
    rw [decide_eq_false (by omega), decide_eq_false (by omega)]
  · rw [nf_of_sane (spd_sane (by omega) h2 hk), spd_len]
    congr 1
    apply propext
    omega
end Go.Proofs.YtinpglfclbnhlaaGreatDoor
