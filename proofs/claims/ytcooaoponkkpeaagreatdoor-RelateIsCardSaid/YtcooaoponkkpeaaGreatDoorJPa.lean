import Derived.Test.YtcooaoponkkpeaaGreatDoorJQa
import Derived.Test.YtcooaoponkkpeaaGreatDoorJY
import Derived.Test.YtcooaoponkkpeaaGreatDoorJF
import Derived.Test.YtcooaoponkkpeaaGreatDoorJO
import Derived.Test.YtcooaoponkkpeaaGreatDoorGRefC
namespace Go.Proofs.YtcooaoponkkpeaaGreatDoor
open Go.RowKit Go.Shelf
set_option linter.unusedVariables false
set_option linter.unusedSimpArgs false
structure PD where
 d : Bool
 A : List R
 B : List R
def lsQ (p : PD) : Int → Int → Prop := lsP p.d p.A p.B
structure PdOk (p : PD) : Prop where
 ok : LsOkP p.d p.A p.B
 na : p.A.length ≤ 1000
 nb : p.B.length ≤ 1000
def unP (u n : Int) : PD := ⟨false, [(firV u n, firV u n)], [(lasV u n, lasV u n)]⟩
def prT (g : LF) : List PD := if g.a.length = 0 then [] else if g.sp = true then [⟨false, g.a, g.b⟩] else if g.u = 0 then [⟨true, g.a, g.a⟩] else (nums g.a).map (unP g.u)
noncomputable def ptL (f : LF) : List PD := prT (lfOf (famR f))
noncomputable def alL (l : List LF) : List PD := l.flatMap ptL
theorem firlas {u n : Int} (h : 0 ≤ n) (h' : n < cnt u) : firV u n = fst u n ∧ lasV u n = lst u n := by
 have o := okU_of h h'
 unfold firV lasV
 rw [if_pos o, if_pos o]
 exact ⟨rfl, rfl⟩
theorem dayun {n : Int} (h : 0 ≤ n ∧ n < cnt 0) : fst 0 n = n ∧ lst 0 n = n := by
 have h1 := fir_day h
 have h2 := las_day h
 rw [firV_in h.1 h.2] at h1
 rw [lasV_in h.1 h.2] at h2
 exact ⟨h1, h2⟩
theorem memR_pt {x n : Int} (h : 0 ≤ x ∧ x ≤ 3652424) : memR [(x, x)] n ↔ n = x := by
 rw [memR_one]
 omega
theorem sane_pt {x : Int} (h : 0 ≤ x ∧ x ≤ 3652424) : sane [(x, x)] := by
 refine ⟨?_, trivial, trivial⟩
 unfold okR
 simp only
 omega
theorem unP_ok {u n : Int} {s : List R} (h : setB u s = true) (m : memR s n) : PdOk (unP u n) ∧ ∀ S T, lsQ (unP u n) S T ↔ fst u n = S ∧ lst u n = T := by
 have bd := setB_mem h m
 have e := firlas bd.1 bd.2
 have q := hasF_le (F := .units u s) h ((hasF_units h _ _).2 ⟨n, m, rfl, rfl⟩)
 have b1 : 0 ≤ firV u n ∧ firV u n ≤ 3652424 := by rw [e.1]; omega
 have b2 : 0 ≤ lasV u n ∧ lasV u n ≤ 3652424 := by rw [e.2]; omega
 refine ⟨⟨⟨sane_pt b1, sane_pt b2, by simp [unP], by simp [unP], fun q => (by cases q), fun k hk => ?_, fun k hk => ?_, fun k hk => ?_, fun k hk => ?_⟩, by simp [unP], by simp [unP]⟩, fun S T => ?_⟩
 ·have := (memR_pt b1).1 hk
  exact ⟨lasV u n, (memR_pt b2).2 rfl, by rw [this, e.1, e.2]; omega⟩
 ·have := (memR_pt b2).1 hk
  exact ⟨firV u n, (memR_pt b1).2 rfl, by rw [this, e.1, e.2]; omega⟩
 ·have := (memR_pt b1).1 hk
  omega
 ·have := (memR_pt b2).1 hk
  omega
 ·unfold lsQ lsP unP
  simp only
  rw [if_neg (by decide), memR_pt b1, memR_pt b2, e.1, e.2]
  constructor
  ·rintro ⟨_, a, b⟩; exact ⟨a.symm, b.symm⟩
  ·rintro ⟨a, b⟩; exact ⟨by omega, a.symm, b.symm⟩
theorem pr_told (f : LF) (na : f.a.length ≤ 1000) (nb : f.b.length ≤ 1000) : (∀ p ∈ ptL f, PdOk p) ∧ ∀ S T, hasF (famR f) S T = true ↔ ∃ p ∈ ptL f, lsQ p S T := by
 have ok := famR_ok f
 have tl := famR_len na nb
 unfold ptL
 revert ok tl
 generalize famR f = F
 intro ok tl
 by_cases h0 : emptyF F = true
 ·rw [lfOf_none h0]
  unfold prT
  rw [if_pos (by first | rfl | trivial)]
  exact ⟨fun p hp => (by cases hp), fun S T => iff_of_false (by rw [(empty_iff ok).1 h0]; simp) (by simp)⟩
 ·cases F with
  | units k s =>
   have hz : ¬ s.length = 0 := by rw [emptyF_u] at h0; simpa using h0
   have ns : s.length ≤ 1000 := tl
   rw [lfOf_u1 hz]
   unfold prT
   simp only
   rw [if_neg hz, if_neg (by simp)]
   by_cases k0 : k = 0
   ·subst k0
    rw [if_pos (by first | rfl | trivial)]
    refine ⟨fun p hp => ?_, fun S T => ?_⟩
    ·rw [List.mem_singleton.1 hp]
     refine ⟨⟨setB_sane ok, setB_sane ok, by simp only; omega, by simp only; omega, fun _ => rfl, fun n h => ⟨n, h, Int.le_refl _⟩, fun n h => ⟨n, h, Int.le_refl _⟩, fun n h => ?_, fun n h => ?_⟩, ns, ns⟩
     ·have := setB_mem ok h; rw [cnt_zero] at this; omega
     ·have := setB_mem ok h; rw [cnt_zero] at this; omega
    ·rw [hasF_units ok]
     constructor
     ·rintro ⟨i, hi, rfl, rfl⟩
      have := dayun (setB_mem ok hi)
      refine ⟨_, List.mem_singleton.2 rfl, ?_⟩
      unfold lsQ lsP
      rw [if_pos (by first | rfl | trivial), this.1, this.2]
      exact ⟨rfl, hi⟩
     ·rintro ⟨p, hp, q⟩
      rw [List.mem_singleton.1 hp] at q
      unfold lsQ lsP at q
      rw [if_pos (by first | rfl | trivial)] at q
      have := dayun (setB_mem ok q.2)
      exact ⟨S, q.2, this.1, by rw [this.2]; exact q.1⟩
   ·rw [if_neg k0]
    have mem : ∀ {n : Int}, n ∈ nums s ↔ memR s n := fun {n} => nums_mem (sane_ok (setB_sane ok))
    refine ⟨fun p hp => ?_, fun S T => ?_⟩
    ·obtain ⟨n, hn, rfl⟩ := List.mem_map.1 hp
     exact (unP_ok ok (mem.1 hn)).1
    ·rw [hasF_units ok]
     constructor
     ·rintro ⟨i, hi, e⟩
      exact ⟨unP k i, List.mem_map.2 ⟨i, mem.2 hi, rfl⟩, ((unP_ok ok hi).2 S T).2 e⟩
     ·rintro ⟨p, hp, q⟩
      obtain ⟨n, hn, rfl⟩ := List.mem_map.1 hp
      exact ⟨n, mem.1 hn, ((unP_ok ok (mem.1 hn)).2 S T).1 q⟩
  | span s e =>
   have hz : ¬ s.length = 0 := by rw [emptyF_s] at h0; simpa using h0
   have ns : s.length ≤ 1000 := tl.1
   have ne : e.length ≤ 1000 := tl.2
   rw [lfOf_s1 hz]
   unfold prT
   simp only
   rw [if_neg hz, if_pos (by first | rfl | trivial)]
   obtain ⟨a1, a2, a3, a4⟩ := ok
   have he : 0 < e.length := by
    obtain ⟨m, hm, _⟩ := a3 _ (least_mem (setB_sane a1) (by omega))
    exact mem_pos hm
   refine ⟨fun p hp => ?_, fun S T => ?_⟩
   ·rw [List.mem_singleton.1 hp]
    refine ⟨⟨setB_sane a1, setB_sane a2, by simp only; omega, he, fun q => (by cases q), a3, a4, fun n h => ?_, fun n h => ?_⟩, ns, ne⟩
    ·have := setB_mem a1 h; rw [cnt_zero] at this; omega
    ·have := setB_mem a2 h; rw [cnt_zero] at this; omega
   ·rw [hasF_span (setB_sane a1) (setB_sane a2)]
    constructor
    ·intro q
     refine ⟨_, List.mem_singleton.2 rfl, ?_⟩
     unfold lsQ lsP
     rw [if_neg (by simp)]
     exact q
    ·rintro ⟨p, hp, q⟩
     rw [List.mem_singleton.1 hp] at q
     unfold lsQ lsP at q
     rw [if_neg (by simp)] at q
     exact q
theorem al_ok {l : List LF} (h : LsOk l) : ∀ p ∈ alL l, PdOk p := fun p hp => by
 obtain ⟨f, hf, hp⟩ := List.mem_flatMap.1 hp
 exact (pr_told f (h f hf).2.2.1 (h f hf).2.2.2).1 p hp
theorem al_has {l : List LF} (h : LsOk l) (S T : Int) : hasP l S T ↔ ∃ p ∈ alL l, lsQ p S T := by
 unfold hasP alL hasL
 rw [List.any_eq_true]
 constructor
 ·rintro ⟨f, hf, q⟩
  obtain ⟨p, hp, r⟩ := ((pr_told f (h f hf).2.2.1 (h f hf).2.2.2).2 S T).1 q
  exact ⟨p, List.mem_flatMap.2 ⟨f, hf, hp⟩, r⟩
 ·rintro ⟨p, hp, r⟩
  obtain ⟨f, hf, hp⟩ := List.mem_flatMap.1 hp
  exact ⟨f, hf, ((pr_told f (h f hf).2.2.1 (h f hf).2.2.2).2 S T).2 ⟨p, hp, r⟩⟩
def aheadP (x y : List PD) (i k : Nat) (r : Nat) : Prop := (∃ p ∈ x.take i, ∃ q ∈ y, relP (lsQ p) (lsQ q) r) ∨ ∃ (h : i < x.length), ∃ q ∈ y.take k, relP (lsQ x[i]) (lsQ q) r
theorem ahead_zero (x y : List PD) (r : Nat) : ¬ aheadP x y 0 0 r := by
 rintro (⟨p, hp, _⟩ | ⟨_, q, hq, _⟩)
 ·simp at hp
 ·simp at hq
theorem ahead_next {x y : List PD} {i k : Nat} (hi : i < x.length) (hk : k < y.length) (r : Nat) : aheadP x y i (k + 1) r ↔ aheadP x y i k r ∨ relP (lsQ x[i]) (lsQ y[k]) r := by
 unfold aheadP
 rw [List.take_succ_eq_append_getElem hk]
 constructor
 ·rintro (a | ⟨h, q, hq, e⟩)
  ·exact .inl (.inl a)
  ·rcases List.mem_append.1 hq with hq | hq
   ·exact .inl (.inr ⟨h, q, hq, e⟩)
   ·rw [List.mem_singleton.1 hq] at e; exact .inr e
 ·rintro ((a | ⟨h, q, hq, e⟩) | e)
  ·exact .inl a
  ·exact .inr ⟨h, q, List.mem_append_left _ hq, e⟩
  ·exact .inr ⟨hi, _, List.mem_append_right _ (List.mem_singleton.2 rfl), e⟩
theorem ahead_row {x y : List PD} {i : Nat} (hi : i < x.length) (r : Nat) : aheadP x y i y.length r ↔ aheadP x y (i + 1) 0 r := by
 unfold aheadP
 rw [List.take_length, List.take_succ_eq_append_getElem hi]
 constructor
 ·rintro (⟨p, hp, a⟩ | ⟨_, q, hq, e⟩)
  ·exact .inl ⟨p, List.mem_append_left _ hp, a⟩
  ·exact .inl ⟨_, List.mem_append_right _ (List.mem_singleton.2 rfl), q, hq, e⟩
 ·rintro (⟨p, hp, a⟩ | ⟨_, q, hq, _⟩)
  ·rcases List.mem_append.1 hp with hp | hp
   ·exact .inl ⟨p, hp, a⟩
   ·rw [List.mem_singleton.1 hp] at a; obtain ⟨q, hq, e⟩ := a; exact .inr ⟨hi, q, hq, e⟩
  ·simp at hq
theorem ahead_all (x y : List PD) (r : Nat) : aheadP x y x.length 0 r ↔ ∃ p ∈ x, ∃ q ∈ y, relP (lsQ p) (lsQ q) r := by
 unfold aheadP
 rw [List.take_length]
 constructor
 ·rintro (a | ⟨h, _⟩)
  ·exact a
  ·omega
 ·exact .inl
theorem bits_done {l m : List LF} (hl : LsOk l) (hm : LsOk m) {n : Nat} (lt : n < 8192) (h : bitsP n 0 (aheadP (alL l) (alL m) (alL l).length 0)) : n = bitsN (relP (hasP l) (hasP m)) := by
 refine bitsN_eq lt fun r hr => ?_
 rw [h r hr, ahead_all]
 refine or_congr Iff.rfl ?_
 constructor
 ·rintro ⟨p, hp, q, hq, S, T, S', T', a, b, e⟩
  exact ⟨S, T, S', T', (al_has hl S T).2 ⟨p, hp, a⟩, (al_has hm S' T').2 ⟨q, hq, b⟩, e⟩
 ·rintro ⟨S, T, S', T', a, b, e⟩
  obtain ⟨p, hp, a⟩ := (al_has hl S T).1 a
  obtain ⟨q, hq, b⟩ := (al_has hm S' T').1 b
  exact ⟨p, hp, q, hq, S, T, S', T', a, b, e⟩
def cellsP : List (PD × VV) → List Value
 | [] => []
 | (p, x) :: t => .bool p.d :: x.1 :: x.2 :: cellsP t
theorem cellsP_length : ∀ l : List (PD × VV), (cellsP l).length = l.length * 3 := by
 intro l
 induction l with
 | nil => rfl
 | cons f t ih => obtain ⟨f, x⟩ := f; unfold cellsP; simp [ih]; omega
theorem cellsP_append (l m : List (PD × VV)) : cellsP (l ++ m) = cellsP l ++ cellsP m := by
 induction l with
 | nil => rfl
 | cons f t ih => obtain ⟨f, x⟩ := f; simp only [List.cons_append, cellsP, ih]
theorem cellsP_at : ∀ (l : List (PD × VV)) (i : Nat) (h : i < l.length), (cellsP l)[i * 3]? = some (.bool (l[i]'h).1.d) ∧ (cellsP l)[i * 3 + 1]? = some (l[i]'h).2.1 ∧ (cellsP l)[i * 3 + 2]? = some (l[i]'h).2.2 := by
 intro l
 induction l with
 | nil => intro i h; simp at h
 | cons f t ih =>
  intro i h
  obtain ⟨f, x⟩ := f
  unfold cellsP
  cases i with
  | zero => exact ⟨rfl, rfl, rfl⟩
  | succ i =>
   have g := ih i (by simpa using h)
   rw [show (i + 1) * 3 = i * 3 + 1 + 1 + 1 by omega]
   simp only [List.getElem?_cons_succ, List.getElem_cons_succ]
   exact g
def RdO (w0 w : World) (v : Value) (l : List R) : Prop := RunsAt w0 v l ∨ OwnR w w0.heap.size v l
theorem RdO.runs {w0 w : World} {v : Value} {l : List R} (h : RdO w0 w v l) (k : Kp w0 w) : RunsAt w v l := h.elim (fun h => h.kp k) (fun h => OwnR.runs h)
theorem RdO.kp {w0 w w' : World} {v : Value} {l : List R} (h : RdO w0 w v l) (k : Kp w w') : RdO w0 w' v l := h.imp id (fun h => own_kp h k)
theorem RdO.old {w0 w1 w : World} {v : Value} {l : List R} (h : OwnR w w1.heap.size v l) (k : Kp w0 w1) : RdO w0 w v l := .inr (own_mono h k.size)
theorem RdO.grown {w0 w w1 : World} {b s n : Nat} {u v : Value} {xs : List Value} {l : List R} (h : RdO w0 w v l) (g : w.grownBy w1 u.ownBlock) (hu : w.ownsRow b 57 s u n xs) : RdO w0 w1 v l :=
 h.imp id (fun h => own_apart h g (own_types hu h (by decide)))
def ReadsP (w0 w : World) (l : List (PD × VV)) : Prop := ∀ p ∈ l, RdO w0 w p.2.1 p.1.A ∧ RdO w0 w p.2.2 p.1.B
theorem ReadsP.kp {w0 w w' : World} {l : List (PD × VV)} (h : ReadsP w0 w l) (k : Kp w w') : ReadsP w0 w' l := fun p hp => ⟨(h p hp).1.kp k, (h p hp).2.kp k⟩
theorem ReadsP.append {w0 w : World} {l m : List (PD × VV)} (h : ReadsP w0 w l) (g : ReadsP w0 w m) : ReadsP w0 w (l ++ m) := fun p hp => (List.mem_append.1 hp).elim (h p) (g p)
theorem ReadsP.grown {w0 w w1 : World} {b s n : Nat} {u : Value} {xs : List Value} {l : List (PD × VV)} (h : ReadsP w0 w l) (g : w.grownBy w1 u.ownBlock) (hu : w.ownsRow b 57 s u n xs) : ReadsP w0 w1 l :=
 fun p hp => ⟨(h p hp).1.grown g hu, (h p hp).2.grown g hu⟩
theorem RdO.one {w0 w : World} {v : Value} {l : List R} (h : RdO w0 w v l) : v.oneCell' = true := by
 rcases h with h | h
 ·obtain ⟨ad, c, rfl⟩ := h.slice; rfl
 ·obtain ⟨ad, c, rfl⟩ := (OwnR.runs h).slice; rfl
theorem cellsP_one {w0 w : World} : ∀ {l : List (PD × VV)}, ReadsP w0 w l → ∀ u ∈ cellsP l, u.oneCell' = true := by
 intro l
 induction l with
 | nil => intro _ u hu; cases hu
 | cons f t ih =>
  intro h u hu
  obtain ⟨f, x⟩ := f
  have h0 := h (f, x) List.mem_cons_self
  unfold cellsP at hu
  simp only [List.mem_cons] at hu
  rcases hu with rfl | rfl | rfl | hu
  ·rfl
  ·exact h0.1.one
  ·exact h0.2.one
  ·exact ih (fun p hp => h p (List.mem_cons_of_mem _ hp)) u hu
theorem own_srcP {w : World} {base : Nat} {e : TypeId} {v : Value} {m : List (PD × VV)} (h : w.ownsRow base e 3 v m.length (cellsP m)) : SrcAt w v m.length (cellsP m) := by
 rcases h.2 with ⟨e1, h0⟩ | ⟨g, cp, cur, rfl, _⟩
 ·have : m = [] := List.length_eq_zero_iff.1 h0
  subst this
  exact .inl ⟨_, _, e1, rfl, rfl⟩
 ·refine .inr ⟨_, _, rfl, fun j u hu => ?_⟩
  have hj : j < m.length * 3 := by
   have := (List.getElem?_eq_some_iff.1 hu).1
   rwa [cellsP_length] at this
  rw [Addr.add_lit, Nat.zero_add, h.cellAt _ hj]
  exact hu
theorem own_slice3 {w : World} {base : Nat} {e : TypeId} {v : Value} {n : Nat} {xs : List Value} (h : w.ownsRow base e 3 v n xs) : ∃ ad c, v = .slice ad n c := by
 rcases h.2 with ⟨e1, h0⟩ | ⟨g, cp, cur, rfl, _⟩
 ·exact ⟨none, 0, by rw [e1, h0]⟩
 ·exact ⟨_, _, rfl⟩
theorem own_part {w : World} {base n : Nat} {e : TypeId} {v : Value} {m : List (PD × VV)} (h : w.ownsRow base e 3 v n (cellsP m)) (hn : n = m.length) (h0 : 0 < n) :
  ∃ B c, v = .slice (some ⟨B, 0, none⟩) n c ∧ ∀ k (hk : k < m.length), w.cell? ⟨B, k * 3, none⟩ = some (.bool (m[k]'hk).1.d) ∧ w.cell? ⟨B, k * 3 + 1, none⟩ = some (m[k]'hk).2.1 ∧ w.cell? ⟨B, k * 3 + 2, none⟩ = some (m[k]'hk).2.2 := by
 subst hn
 rcases h.2 with ⟨e1, h1⟩ | ⟨g, cp, cur, rfl, _⟩
 ·omega
 ·refine ⟨g, cp, rfl, fun k hk => ?_⟩
  have c := cellsP_at m k hk
  exact ⟨(h.cellAt _ (by omega)).trans c.1, (h.cellAt _ (by omega)).trans c.2.1, (h.cellAt _ (by omega)).trans c.2.2⟩
theorem own_part1 (w : World) (p : PD) (va vb : Value) : (w.alloc (.cells #[.bool p.d, va, vb] 57)).ownsRow w.heap.size 57 3 (.slice (some ⟨w.heap.size, 0, none⟩) 1 1) [(p, (va, vb))].length (cellsP [(p, (va, vb))]) :=
 ⟨rfl, .inr ⟨w.heap.size, 1, #[.bool p.d, va, vb], rfl, Nat.le_refl _, heap_at _ _ _ rfl, Nat.le_refl _, by decide, rfl, rfl⟩⟩
theorem own_run1 (w : World) (x y : Int) : OwnR (w.alloc (.cells #[.int .i64 x, .int .i64 y] 42)) w.heap.size (.slice (some ⟨w.heap.size, 0, none⟩) 1 1) [(x, y)] :=
 ⟨rfl, .inr ⟨w.heap.size, 1, #[.int .i64 x, .int .i64 y], rfl, Nat.le_refl _, heap_at _ _ _ rfl, Nat.le_refl _, by decide, rfl, rfl⟩⟩
theorem refTidyP_any (f : LF) (va vb : Value) (w0 w : World) (h0 : LeafOk w0 f va vb) (k0 : Kp w0 w) :
  Calls Tryz.prog 81 #[leafV f va vb] w fun e w' => ∃ va' vb', e = .returned (leafV (lfOf (famR f)) va' vb') ∧ (LeafOk w' (lfOf (famR f)) va' vb' ∧ RdO w0 w' va' (lfOf (famR f)).a ∧ RdO w0 w' vb' (lfOf (famR f)).b) ∧ Kp w w' :=
 (refTidyV_any f va vb w0 w h0 k0).mono (by
  rintro e w' ⟨va', vb', rfl, ok, kk, h1, h2⟩
  refine ⟨va', vb', rfl, ⟨ok, ?_⟩, kk⟩
  rcases Bool.eq_false_or_eq_true (lfOf (famR f)).sp with hs | hs
  ·exact ⟨RdO.old (h1 hs).1 k0, RdO.old (h1 hs).2 k0⟩
  ·exact ⟨.inl (h2 hs).a, .inl (h2 hs).b⟩)
end Go.Proofs.YtcooaoponkkpeaaGreatDoor
