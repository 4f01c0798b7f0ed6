import Derived.Test.YtcooaoponkkpeaaGreatDoorJB
import Derived.Test.YtcooaoponkkpeaaGreatDoorGLeafA
import Derived.Test.YtcooaoponkkpeaaGreatDoorGSetC
import Derived.Test.YtcooaoponkkpeaaGreatDoorJA
set_option maxHeartbeats 4000000
namespace Go.Proofs.YtcooaoponkkpeaaGreatDoor
set_option linter.unusedVariables false
set_option linter.unusedSimpArgs false
def wayB (r : Nat) (S T : Int) : Int × Int × Int × Int :=
 match r with
 | 0 => (T + 2, 3652424, 0, 3652424) | 1 => (T + 1, T + 1, 0, 3652424) | 2 => (S + 1, T, T + 1, 3652424) | 3 => (S, S, T + 1, 3652424) | 4 => (0, S - 1, T + 1, 3652424)
 | 5 => (0, S - 1, T, T) | 6 => (S, S, T, T) | 7 => (S + 1, 3652424, T, T) | 8 => (S + 1, 3652424, 0, T - 1) | 9 => (S, S, 0, T - 1) | 10 => (0, S - 1, S, T - 1)
 | 11 => (0, 3652424, S - 1, S - 1) | _ => (0, 3652424, 0, S - 2)
theorem way_rel {r : Nat} (hr : r ≤ 12) {S T S' T' : Int} (h1 : S ≤ T) (h2 : S' ≤ T') (b1 : 0 ≤ S) (b2 : T ≤ 3652424) (b3 : 0 ≤ S') (b4 : T' ≤ 3652424) : inBx (wayB r S T) S' T' ↔ rel S T S' T' = r := by
 unfold inBx
 obtain rfl | rfl | rfl | rfl | rfl | rfl | rfl | rfl | rfl | rfl | rfl | rfl | rfl : r = 0 ∨ r = 1 ∨ r = 2 ∨ r = 3 ∨ r = 4 ∨ r = 5 ∨ r = 6 ∨ r = 7 ∨ r = 8 ∨ r = 9 ∨ r = 10 ∨ r = 11 ∨ r = 12 := by omega
 all_goals
  simp only [wayB]
  unfold rel
  (repeat' split) <;> omega
structure LsOkP (d : Bool) (A B : List R) : Prop where
 sa : sane A
 sb : sane B
 na : 0 < A.length
 nb : 0 < B.length
 eq : d = true → B = A
 up : ∀ n, memR A n → ∃ m, memR B m ∧ n ≤ m
 dn : ∀ m, memR B m → ∃ n, memR A n ∧ n ≤ m
 ba : ∀ n, memR A n → 0 ≤ n ∧ n ≤ 3652424
 bb : ∀ n, memR B n → 0 ≤ n ∧ n ≤ 3652424
theorem LsOkP.lo {d : Bool} {A B : List R} (h : LsOkP d A B) : memR A (leastR A) ∧ (∀ n, memR A n → leastR A ≤ n) ∧ (∀ n, memR B n → leastR A ≤ n) ∧ memR B (leastR B) ∧ ∀ n, memR B n → leastR B ≤ n := by
 refine ⟨least_mem h.sa h.na, fun n m => least_min h.sa m, fun n m => ?_, least_mem h.sb h.nb, fun n m => least_min h.sb m⟩
 obtain ⟨k, hk, hle⟩ := h.dn n m
 have := least_min h.sa hk
 omega
theorem LsOkP.hi {d : Bool} {A B : List R} (h : LsOkP d A B) : memR B (greatR B) ∧ (∀ n, memR B n → n ≤ greatR B) ∧ (∀ n, memR A n → n ≤ greatR B) ∧ memR A (greatR A) ∧ ∀ n, memR A n → n ≤ greatR A := by
 refine ⟨great_mem h.sb h.nb, fun n m => great_max h.sb m, fun n m => ?_, great_mem h.sa h.na, fun n m => great_max h.sa m⟩
 obtain ⟨k, hk, hle⟩ := h.up n m
 have := great_max h.sb hk
 omega
def edgL (l : List (List R)) : List Int := l.flatMap fun s => if s.length = 0 then [] else [leastR s, greatR s]
theorem edgL_mem {l : List (List R)} {s : List R} (hs : s ∈ l) (h0 : 0 < s.length) : leastR s ∈ edgL l ∧ greatR s ∈ edgL l := by
 unfold edgL
 rw [List.mem_flatMap, List.mem_flatMap]
 have e : (if s.length = 0 then ([] : List Int) else [leastR s, greatR s]) = [leastR s, greatR s] := if_neg (by omega)
 exact ⟨⟨s, hs, by rw [e]; simp⟩, ⟨s, hs, by rw [e]; simp⟩⟩
theorem edgL_of {l : List (List R)} (hl : ∀ s ∈ l, sane s) {x : Int} (h : x ∈ edgL l) : ∃ s ∈ l, memR s x := by
 unfold edgL at h
 rw [List.mem_flatMap] at h
 obtain ⟨s, hs, hx⟩ := h
 by_cases h0 : s.length = 0
 ·rw [if_pos h0] at hx; cases hx
 ·rw [if_neg h0] at hx
  refine ⟨s, hs, ?_⟩
  simp only [List.mem_cons, List.not_mem_nil, or_false] at hx
  rcases hx with rfl | rfl
  ·exact least_mem (hl s hs) (by omega)
  ·exact great_mem (hl s hs) (by omega)
def exS1 (A B C D : List R) : List Int := edgL [interR (interR A C) (interR B D)]
def exSt (A B C D : List R) : List Int := exS1 A B C D ++ edgL [A, interR A C, interR A [(leastR C + 1, 3652424)], interR A (nf (shR 1 1 D))]
def exEn (A B C D : List R) : List Int := exS1 A B C D ++ edgL [B, interR B D, interR B [(0, greatR D - 1)], interR B (nf (shR (-1) (-1) C))]
def exPs (d : Bool) (A B C D : List R) : List (Int × Int) :=
 if d = true then (exSt A B C D ++ exEn A B C D).map fun x => (x, x) else (exSt A B C D).flatMap fun s => ((exEn A B C D).filter fun t => decide (s ≤ t)).map fun t => (s, t)
theorem shR_mem {k : Int} (hk : -1 ≤ k ∧ k ≤ 1) {s : List R} (hb : ∀ r ∈ s, 0 ≤ r.1 ∧ r.2 ≤ 3652424) (n : Int) : memR (nf (shR k k s)) n ↔ memR s (n - k) := by
 rw [nf_mem]
 unfold shR memR
 constructor
 ·rintro ⟨r, hr, h1, h2, h3, h4⟩
  obtain ⟨q, hq, rfl⟩ := List.mem_map.1 hr
  have := hb q hq
  simp only at h1 h2
  exact ⟨q, hq, by omega, by omega, by omega, by omega⟩
 ·rintro ⟨q, hq, h1, h2, h3, h4⟩
  have := hb q hq
  exact ⟨_, List.mem_map.2 ⟨q, hq, rfl⟩, by simp only; omega, by simp only; omega, by omega, by omega⟩
theorem runs_bd {s : List R} (hs : sane s) (h : ∀ n, memR s n → 0 ≤ n ∧ n ≤ 3652424) : ∀ r ∈ s, 0 ≤ r.1 ∧ r.2 ≤ 3652424 := by
 intro r hr
 have o := sane_ok hs r hr
 unfold okR at o
 have a := h r.1 ⟨r, hr, by omega, by omega, by omega, by omega⟩
 have b := h r.2 ⟨r, hr, by omega, by omega, by omega, by omega⟩
 omega
theorem exSt_in {d : Bool} {A B C D : List R} (h : LsOkP d A B) {x : Int} (hx : x ∈ exSt A B C D) : memR A x := by
 unfold exSt exS1 at hx
 rcases List.mem_append.1 hx with hx | hx
 ·obtain ⟨s, hs, m⟩ := edgL_of (fun s hs => by rw [List.mem_singleton.1 hs]; exact interR_sane _ _) hx
  rw [List.mem_singleton.1 hs, interR_mem, interR_mem] at m
  exact m.1.1
 ·obtain ⟨s, hs, m⟩ := edgL_of (fun s hs => by
   simp only [List.mem_cons, List.not_mem_nil, or_false] at hs
   rcases hs with rfl | rfl | rfl | rfl
   ·exact h.sa
   all_goals exact interR_sane _ _) hx
  simp only [List.mem_cons, List.not_mem_nil, or_false] at hs
  rcases hs with rfl | rfl | rfl | rfl
  ·exact m
  all_goals exact ((interR_mem _ _ _).1 m).1
theorem exEn_in {d : Bool} {A B C D : List R} (h : LsOkP d A B) {x : Int} (hx : x ∈ exEn A B C D) : memR B x := by
 unfold exEn exS1 at hx
 rcases List.mem_append.1 hx with hx | hx
 ·obtain ⟨s, hs, m⟩ := edgL_of (fun s hs => by rw [List.mem_singleton.1 hs]; exact interR_sane _ _) hx
  rw [List.mem_singleton.1 hs, interR_mem, interR_mem, interR_mem] at m
  exact m.2.1
 ·obtain ⟨s, hs, m⟩ := edgL_of (fun s hs => by
   simp only [List.mem_cons, List.not_mem_nil, or_false] at hs
   rcases hs with rfl | rfl | rfl | rfl
   ·exact h.sb
   all_goals exact interR_sane _ _) hx
  simp only [List.mem_cons, List.not_mem_nil, or_false] at hs
  rcases hs with rfl | rfl | rfl | rfl
  ·exact m
  all_goals exact ((interR_mem _ _ _).1 m).1
theorem exPs_in {d : Bool} {A B C D : List R} (h : LsOkP d A B) {p : Int × Int} (hp : p ∈ exPs d A B C D) : lsP d A B p.1 p.2 := by
 unfold exPs at hp
 unfold lsP
 cases d with
 | true =>
  simp only [if_true] at hp ⊢
  obtain ⟨x, hx, rfl⟩ := List.mem_map.1 hp
  refine ⟨rfl, ?_⟩
  rcases List.mem_append.1 hx with hx | hx
  ·exact exSt_in h hx
  ·have := exEn_in h hx
   rwa [h.eq rfl] at this
 | false =>
  simp only [Bool.false_eq_true, if_false] at hp ⊢
  obtain ⟨s, hs, hp⟩ := List.mem_flatMap.1 hp
  obtain ⟨t, ht, rfl⟩ := List.mem_map.1 hp
  have := List.mem_filter.1 ht
  exact ⟨of_decide_eq_true this.2, exSt_in h hs, exEn_in h this.1⟩
theorem exPs_f {A B C D : List R} {s t : Int} (hs : s ∈ exSt A B C D) (ht : t ∈ exEn A B C D) (h : s ≤ t) : (s, t) ∈ exPs false A B C D := by
 unfold exPs
 rw [if_neg (by simp)]
 exact List.mem_flatMap.2 ⟨s, hs, List.mem_map.2 ⟨t, List.mem_filter.2 ⟨ht, decide_eq_true h⟩, rfl⟩⟩
theorem exPs_t {A B C D : List R} {x : Int} (hs : x ∈ exSt A B C D ∨ x ∈ exEn A B C D) : (x, x) ∈ exPs true A B C D := by
 unfold exPs
 rw [if_pos rfl]
 exact List.mem_map.2 ⟨x, List.mem_append.2 hs, rfl⟩
theorem set_ends {s : List R} (hs : sane s) {n : Int} (h : memR s n) : 0 < s.length ∧ memR s (leastR s) ∧ leastR s ≤ n ∧ memR s (greatR s) ∧ n ≤ greatR s :=
 ⟨mem_pos h, least_mem hs (mem_pos h), least_min hs h, great_mem hs (mem_pos h), great_max hs h⟩
theorem st_mem {A B C D s : List R} (hs : s ∈ [A, interR A C, interR A [(leastR C + 1, 3652424)], interR A (nf (shR 1 1 D))]) (h0 : 0 < s.length) : leastR s ∈ exSt A B C D ∧ greatR s ∈ exSt A B C D :=
 ⟨List.mem_append.2 (.inr (edgL_mem hs h0).1), List.mem_append.2 (.inr (edgL_mem hs h0).2)⟩
theorem en_mem {A B C D s : List R} (hs : s ∈ [B, interR B D, interR B [(0, greatR D - 1)], interR B (nf (shR (-1) (-1) C))]) (h0 : 0 < s.length) : leastR s ∈ exEn A B C D ∧ greatR s ∈ exEn A B C D :=
 ⟨List.mem_append.2 (.inr (edgL_mem hs h0).1), List.mem_append.2 (.inr (edgL_mem hs h0).2)⟩
theorem s1_mem {A B C D : List R} (h0 : 0 < (interR (interR A C) (interR B D)).length) : leastR (interR (interR A C) (interR B D)) ∈ exSt A B C D ∧ leastR (interR (interR A C) (interR B D)) ∈ exEn A B C D :=
 ⟨List.mem_append.2 (.inl (edgL_mem (by simp) h0).1), List.mem_append.2 (.inl (edgL_mem (by simp) h0).1)⟩
theorem ls_f {A B : List R} {S T : Int} (h : lsP false A B S T) : S ≤ T ∧ memR A S ∧ memR B T := by unfold lsP at h; rwa [if_neg (by simp)] at h
theorem ls_t {A B : List R} {S T : Int} (h : lsP true A B S T) : S = T ∧ memR A S := by unfold lsP at h; rwa [if_pos rfl] at h
theorem ls_mk {A B : List R} {S T : Int} (h1 : S ≤ T) (h2 : memR A S) (h3 : memR B T) : lsP false A B S T := by unfold lsP; rw [if_neg (by simp)]; exact ⟨h1, h2, h3⟩
theorem ls_mkt {A B : List R} {S : Int} (h2 : memR A S) : lsP true A B S S := by unfold lsP; rw [if_pos rfl]; exact ⟨rfl, h2⟩
theorem ls_le {d : Bool} {A B : List R} (h : LsOkP d A B) {S T : Int} (p : lsP d A B S T) : S ≤ T ∧ memR A S ∧ memR B T := by
 cases d with
 | true => obtain ⟨rfl, q⟩ := ls_t p; exact ⟨Int.le_refl _, q, by rw [h.eq rfl]; exact q⟩
 | false => exact ls_f p
theorem ex_ff {A B C D : List R} (h : LsOkP false A B) (g : LsOkP false C D) {r : Nat} (hr : r ≤ 12) {S T S' T' : Int} (hp : lsP false A B S T) (hq : lsP false C D S' T') (hb : inBx (wayB r S T) S' T') :
  ∃ p ∈ exPs false A B C D, ∃ s' t', lsP false C D s' t' ∧ inBx (wayB r p.1 p.2) s' t' := by
 obtain ⟨p1, pA, pB⟩ := ls_le h hp
 obtain ⟨q1, qC, qD⟩ := ls_le g hq
 obtain ⟨la1, la2, la3, lb1, lb2⟩ := h.lo
 obtain ⟨hb1, hb2, hb3, ha1, ha2⟩ := h.hi
 obtain ⟨lc1, lc2, lc3, ld1, ld2⟩ := g.lo
 obtain ⟨hd1, hd2, hd3, hc1, hc2⟩ := g.hi
 have bS := h.ba _ pA
 have bT := h.bb _ pB
 have bS' := g.ba _ qC
 have bT' := g.bb _ qD
 have bl1 := h.ba _ la1
 have bl2 := h.bb _ lb1
 have bg1 := h.bb _ hb1
 have bg2 := h.ba _ ha1
 have bl3 := g.ba _ lc1
 have bg3 := g.bb _ hd1
 have eAS := la2 _ pA
 have eBT := hb2 _ pB
 have eCS := lc2 _ qC
 have eDT := hd2 _ qD
 have eAB := la3 _ lb1
 have eAgB := hb3 _ ha1
 have eBl := lb2 _ pB
 have eAg := ha2 _ pA
 have eCD := lc3 _ hd1
 have rC := runs_bd g.sa g.ba
 have rD := runs_bd g.sb g.bb
 -- the sets of edges
 have X2 : ∀ n, memR (interR A C) n ↔ memR A n ∧ memR C n := fun n => interR_mem _ _ n
 have X3 : ∀ n, memR (interR A [(leastR C + 1, 3652424)]) n ↔ memR A n ∧ leastR C < n := fun n => by
  rw [interR_mem, memR_one]
  exact ⟨fun q => ⟨q.1, by omega⟩, fun q => ⟨q.1, by have := h.ba n q.1; omega⟩⟩
 have X4 : ∀ n, memR (interR A (nf (shR 1 1 D))) n ↔ memR A n ∧ memR D (n - 1) := fun n => by rw [interR_mem, shR_mem (by omega) rD]
 have Y2 : ∀ n, memR (interR B D) n ↔ memR B n ∧ memR D n := fun n => interR_mem _ _ n
 have Y3 : ∀ n, memR (interR B [(0, greatR D - 1)]) n ↔ memR B n ∧ n < greatR D := fun n => by
  rw [interR_mem, memR_one]
  exact ⟨fun q => ⟨q.1, by omega⟩, fun q => ⟨q.1, by have := h.bb n q.1; omega⟩⟩
 have Y4 : ∀ n, memR (interR B (nf (shR (-1) (-1) C))) n ↔ memR B n ∧ memR C (n + 1) := fun n => by rw [interR_mem, shR_mem (by omega) rC, show n - -1 = n + 1 by omega]
 have Z1 : ∀ n, memR (interR (interR A C) (interR B D)) n ↔ (memR A n ∧ memR C n) ∧ (memR B n ∧ memR D n) := fun n => by simp only [interR_mem]
 have S1 := interR_sane (interR A C) (interR B D)
 have S2 := interR_sane A C
 have S3 := interR_sane A [(leastR C + 1, 3652424)]
 have S4 := interR_sane A (nf (shR 1 1 D))
 have E2 := interR_sane B D
 have E3 := interR_sane B [(0, greatR D - 1)]
 have E4 := interR_sane B (nf (shR (-1) (-1) C))
 have mA := st_mem (A := A) (B := B) (C := C) (D := D) (s := A) (by simp) h.na
 have mB := en_mem (A := A) (B := B) (C := C) (D := D) (s := B) (by simp) h.nb
 have m2 := fun h0 => st_mem (A := A) (B := B) (C := C) (D := D) (s := interR A C) (by simp) h0
 have m3 := fun h0 => st_mem (A := A) (B := B) (C := C) (D := D) (s := interR A [(leastR C + 1, 3652424)]) (by simp) h0
 have m4 := fun h0 => st_mem (A := A) (B := B) (C := C) (D := D) (s := interR A (nf (shR 1 1 D))) (by simp) h0
 have n2 := fun h0 => en_mem (A := A) (B := B) (C := C) (D := D) (s := interR B D) (by simp) h0
 have n3 := fun h0 => en_mem (A := A) (B := B) (C := C) (D := D) (s := interR B [(0, greatR D - 1)]) (by simp) h0
 have n4 := fun h0 => en_mem (A := A) (B := B) (C := C) (D := D) (s := interR B (nf (shR (-1) (-1) C))) (by simp) h0
 have m1 := fun h0 => s1_mem (A := A) (B := B) (C := C) (D := D) h0
 -- the least (greatest) number of a set that has n
 have z1 := fun n q => set_ends S1 ((Z1 n).2 q)
 have z2 := fun n q => set_ends S2 ((X2 n).2 q)
 have z3 := fun n q => set_ends S3 ((X3 n).2 q)
 have z4 := fun n q => set_ends S4 ((X4 n).2 q)
 have y2 := fun n q => set_ends E2 ((Y2 n).2 q)
 have y3 := fun n q => set_ends E3 ((Y3 n).2 q)
 have y4 := fun n q => set_ends E4 ((Y4 n).2 q)
 obtain rfl | rfl | rfl | rfl | rfl | rfl | rfl | rfl | rfl | rfl | rfl | rfl | rfl : r = 0 ∨ r = 1 ∨ r = 2 ∨ r = 3 ∨ r = 4 ∨ r = 5 ∨ r = 6 ∨ r = 7 ∨ r = 8 ∨ r = 9 ∨ r = 10 ∨ r = 11 ∨ r = 12 := by omega
 ·simp only [inBx, wayB] at hb
  exact ⟨(leastR A, leastR B), exPs_f mA.1 mB.1 (by omega), S', T', hq, by simp only [inBx, wayB]; omega⟩
 ·simp only [inBx, wayB] at hb
  obtain ⟨k0, k1, k2, k3, k4⟩ := y4 T ⟨pB, (by rw [show T + 1 = S' by omega]; exact qC)⟩
  obtain ⟨k5, k6⟩ := (Y4 _).1 k1
  have k7 := la3 _ k5
  obtain ⟨m, u8, u9⟩ := g.up _ k6
  have u10 := g.bb _ u8
  exact ⟨(leastR A, leastR (interR B (nf (shR (-1) (-1) C)))), exPs_f mA.1 (n4 k0).1 (by omega), leastR (interR B (nf (shR (-1) (-1) C))) + 1, m, ls_mk u9 k6 u8, by simp only [inBx, wayB]; omega⟩
 ·simp only [inBx, wayB] at hb
  obtain ⟨j0, j1, j2, j3, j4⟩ := y3 T ⟨pB, by omega⟩
  obtain ⟨j5, j6⟩ := (Y3 _).1 j3
  exact ⟨(leastR A, greatR (interR B [(0, greatR D - 1)])), exPs_f mA.1 (n3 j0).2 (by omega), S', greatR D, ls_mk (by omega) qC hd1, by simp only [inBx, wayB]; omega⟩
 ·simp only [inBx, wayB] at hb
  obtain ⟨k0, k1, k2, k3, k4⟩ := z2 S ⟨pA, (by rw [show S = S' by omega]; exact qC)⟩
  obtain ⟨k5, k6⟩ := (X2 _).1 k1
  have k77 := h.ba _ k5
  obtain ⟨j0, j1, j2, j3, j4⟩ := y3 T ⟨pB, by omega⟩
  obtain ⟨j5, j6⟩ := (Y3 _).1 j3
  exact ⟨(leastR (interR A C), greatR (interR B [(0, greatR D - 1)])), exPs_f (m2 k0).1 (n3 j0).2 (by omega), leastR (interR A C), greatR D, ls_mk (by omega) k6 hd1, by simp only [inBx, wayB]; omega⟩
 ·simp only [inBx, wayB] at hb
  obtain ⟨k0, k1, k2, k3, k4⟩ := z3 S ⟨pA, by omega⟩
  obtain ⟨k5, k6⟩ := (X3 _).1 k1
  obtain ⟨j0, j1, j2, j3, j4⟩ := y3 T ⟨pB, by omega⟩
  obtain ⟨j5, j6⟩ := (Y3 _).1 j3
  exact ⟨(leastR (interR A [(leastR C + 1, 3652424)]), greatR (interR B [(0, greatR D - 1)])), exPs_f (m3 k0).1 (n3 j0).2 (by omega), leastR C, greatR D, ls_mk (by omega) lc1 hd1, by simp only [inBx, wayB]; omega⟩
 ·simp only [inBx, wayB] at hb
  obtain ⟨k0, k1, k2, k3, k4⟩ := z3 S ⟨pA, by omega⟩
  obtain ⟨k5, k6⟩ := (X3 _).1 k1
  obtain ⟨j0, j1, j2, j3, j4⟩ := y2 T ⟨pB, (by rw [show T = T' by omega]; exact qD)⟩
  obtain ⟨j5, j6⟩ := (Y2 _).1 j3
  have j7 := lc3 _ j6
  have j8 := g.bb _ j6
  exact ⟨(leastR (interR A [(leastR C + 1, 3652424)]), greatR (interR B D)), exPs_f (m3 k0).1 (n2 j0).2 (by omega), leastR C, greatR (interR B D), ls_mk j7 lc1 j6, by simp only [inBx, wayB]; omega⟩
 ·simp only [inBx, wayB] at hb
  obtain ⟨k0, k1, k2, k3, k4⟩ := z2 S ⟨pA, (by rw [show S = S' by omega]; exact qC)⟩
  obtain ⟨k5, k6⟩ := (X2 _).1 k1
  have k77 := h.ba _ k5
  obtain ⟨j0, j1, j2, j3, j4⟩ := y2 T ⟨pB, (by rw [show T = T' by omega]; exact qD)⟩
  obtain ⟨j5, j6⟩ := (Y2 _).1 j3
  have j7 := lc3 _ j6
  have j8 := g.bb _ j6
  exact ⟨(leastR (interR A C), greatR (interR B D)), exPs_f (m2 k0).1 (n2 j0).2 (by omega), leastR (interR A C), greatR (interR B D), ls_mk (by omega) k6 j6, by simp only [inBx, wayB]; omega⟩
 ·simp only [inBx, wayB] at hb
  obtain ⟨j0, j1, j2, j3, j4⟩ := y2 T ⟨pB, (by rw [show T = T' by omega]; exact qD)⟩
  obtain ⟨j5, j6⟩ := (Y2 _).1 j3
  have j7 := lc3 _ j6
  have j8 := g.bb _ j6
  exact ⟨(leastR A, greatR (interR B D)), exPs_f mA.1 (n2 j0).2 (by omega), S', greatR (interR B D), ls_mk (by omega) qC j6, by simp only [inBx, wayB]; omega⟩
 ·simp only [inBx, wayB] at hb
  exact ⟨(leastR A, greatR B), exPs_f mA.1 mB.2 (by omega), S', T', hq, by simp only [inBx, wayB]; omega⟩
 ·simp only [inBx, wayB] at hb
  obtain ⟨k0, k1, k2, k3, k4⟩ := z2 S ⟨pA, (by rw [show S = S' by omega]; exact qC)⟩
  obtain ⟨k5, k6⟩ := (X2 _).1 k1
  have k77 := h.ba _ k5
  exact ⟨(leastR (interR A C), greatR B), exPs_f (m2 k0).1 mB.2 (by omega), leastR (interR A C), T', ls_mk (by omega) k6 qD, by simp only [inBx, wayB]; omega⟩
 ·simp only [inBx, wayB] at hb
  obtain ⟨k0, k1, k2, k3, k4⟩ := z3 S ⟨pA, by omega⟩
  obtain ⟨k5, k6⟩ := (X3 _).1 k1
  exact ⟨(leastR (interR A [(leastR C + 1, 3652424)]), greatR B), exPs_f (m3 k0).1 mB.2 (by omega), leastR C, T', ls_mk (lc3 _ qD) lc1 qD, by simp only [inBx, wayB]; omega⟩
 ·simp only [inBx, wayB] at hb
  obtain ⟨k0, k1, k2, k3, k4⟩ := z4 S ⟨pA, (by rw [show S - 1 = T' by omega]; exact qD)⟩
  obtain ⟨k5, k6⟩ := (X4 _).1 k3
  have k7 := hb3 _ k5
  have k8 := h.ba _ k5
  have k88 := g.bb _ k6
  obtain ⟨m, u8, u9⟩ := g.dn _ k6
  have u10 := g.ba _ u8
  exact ⟨(greatR (interR A (nf (shR 1 1 D))), greatR B), exPs_f (m4 k0).2 mB.2 (by omega), m, greatR (interR A (nf (shR 1 1 D))) - 1, ls_mk u9 u8 k6, by simp only [inBx, wayB]; omega⟩
 ·simp only [inBx, wayB] at hb
  exact ⟨(greatR A, greatR B), exPs_f mA.2 mB.2 (by omega), S', T', hq, by simp only [inBx, wayB]; omega⟩
theorem ex_ft {A B C D : List R} (h : LsOkP false A B) (g : LsOkP true C D) {r : Nat} (hr : r ≤ 12) {S T S' T' : Int} (hp : lsP false A B S T) (hq : lsP true C D S' T') (hb : inBx (wayB r S T) S' T') :
  ∃ p ∈ exPs false A B C D, ∃ s' t', lsP true C D s' t' ∧ inBx (wayB r p.1 p.2) s' t' := by
 have eDC := (g.eq rfl).symm
 subst eDC
 have eST' := (ls_t hq).1
 obtain ⟨p1, pA, pB⟩ := ls_le h hp
 obtain ⟨q1, qC, qD⟩ := ls_le g hq
 obtain ⟨la1, la2, la3, lb1, lb2⟩ := h.lo
 obtain ⟨hb1, hb2, hb3, ha1, ha2⟩ := h.hi
 obtain ⟨lc1, lc2, lc3, ld1, ld2⟩ := g.lo
 obtain ⟨hd1, hd2, hd3, hc1, hc2⟩ := g.hi
 have bS := h.ba _ pA
 have bT := h.bb _ pB
 have bS' := g.ba _ qC
 have bT' := g.bb _ qD
 have bl1 := h.ba _ la1
 have bl2 := h.bb _ lb1
 have bg1 := h.bb _ hb1
 have bg2 := h.ba _ ha1
 have bl3 := g.ba _ lc1
 have bg3 := g.bb _ hd1
 have eAS := la2 _ pA
 have eBT := hb2 _ pB
 have eCS := lc2 _ qC
 have eDT := hd2 _ qD
 have eAB := la3 _ lb1
 have eAgB := hb3 _ ha1
 have eBl := lb2 _ pB
 have eAg := ha2 _ pA
 have eCD := lc3 _ hd1
 have rC := runs_bd g.sa g.ba
 have rD := runs_bd g.sb g.bb
 -- the sets of edges
 have X2 : ∀ n, memR (interR A C) n ↔ memR A n ∧ memR C n := fun n => interR_mem _ _ n
 have X3 : ∀ n, memR (interR A [(leastR C + 1, 3652424)]) n ↔ memR A n ∧ leastR C < n := fun n => by
  rw [interR_mem, memR_one]
  exact ⟨fun q => ⟨q.1, by omega⟩, fun q => ⟨q.1, by have := h.ba n q.1; omega⟩⟩
 have X4 : ∀ n, memR (interR A (nf (shR 1 1 C))) n ↔ memR A n ∧ memR C (n - 1) := fun n => by rw [interR_mem, shR_mem (by omega) rD]
 have Y2 : ∀ n, memR (interR B C) n ↔ memR B n ∧ memR C n := fun n => interR_mem _ _ n
 have Y3 : ∀ n, memR (interR B [(0, greatR C - 1)]) n ↔ memR B n ∧ n < greatR C := fun n => by
  rw [interR_mem, memR_one]
  exact ⟨fun q => ⟨q.1, by omega⟩, fun q => ⟨q.1, by have := h.bb n q.1; omega⟩⟩
 have Y4 : ∀ n, memR (interR B (nf (shR (-1) (-1) C))) n ↔ memR B n ∧ memR C (n + 1) := fun n => by rw [interR_mem, shR_mem (by omega) rC, show n - -1 = n + 1 by omega]
 have Z1 : ∀ n, memR (interR (interR A C) (interR B C)) n ↔ (memR A n ∧ memR C n) ∧ (memR B n ∧ memR C n) := fun n => by simp only [interR_mem]
 have S1 := interR_sane (interR A C) (interR B C)
 have S2 := interR_sane A C
 have S3 := interR_sane A [(leastR C + 1, 3652424)]
 have S4 := interR_sane A (nf (shR 1 1 C))
 have E2 := interR_sane B C
 have E3 := interR_sane B [(0, greatR C - 1)]
 have E4 := interR_sane B (nf (shR (-1) (-1) C))
 have mA := st_mem (A := A) (B := B) (C := C) (D := C) (s := A) (by simp) h.na
 have mB := en_mem (A := A) (B := B) (C := C) (D := C) (s := B) (by simp) h.nb
 have m2 := fun h0 => st_mem (A := A) (B := B) (C := C) (D := C) (s := interR A C) (by simp) h0
 have m3 := fun h0 => st_mem (A := A) (B := B) (C := C) (D := C) (s := interR A [(leastR C + 1, 3652424)]) (by simp) h0
 have m4 := fun h0 => st_mem (A := A) (B := B) (C := C) (D := C) (s := interR A (nf (shR 1 1 C))) (by simp) h0
 have n2 := fun h0 => en_mem (A := A) (B := B) (C := C) (D := C) (s := interR B C) (by simp) h0
 have n3 := fun h0 => en_mem (A := A) (B := B) (C := C) (D := C) (s := interR B [(0, greatR C - 1)]) (by simp) h0
 have n4 := fun h0 => en_mem (A := A) (B := B) (C := C) (D := C) (s := interR B (nf (shR (-1) (-1) C))) (by simp) h0
 have m1 := fun h0 => s1_mem (A := A) (B := B) (C := C) (D := C) h0
 -- the least (greatest) number of a set that has n
 have z1 := fun n q => set_ends S1 ((Z1 n).2 q)
 have z2 := fun n q => set_ends S2 ((X2 n).2 q)
 have z3 := fun n q => set_ends S3 ((X3 n).2 q)
 have z4 := fun n q => set_ends S4 ((X4 n).2 q)
 have y2 := fun n q => set_ends E2 ((Y2 n).2 q)
 have y3 := fun n q => set_ends E3 ((Y3 n).2 q)
 have y4 := fun n q => set_ends E4 ((Y4 n).2 q)
 obtain rfl | rfl | rfl | rfl | rfl | rfl | rfl | rfl | rfl | rfl | rfl | rfl | rfl : r = 0 ∨ r = 1 ∨ r = 2 ∨ r = 3 ∨ r = 4 ∨ r = 5 ∨ r = 6 ∨ r = 7 ∨ r = 8 ∨ r = 9 ∨ r = 10 ∨ r = 11 ∨ r = 12 := by omega
 ·simp only [inBx, wayB] at hb
  exact ⟨(leastR A, leastR B), exPs_f mA.1 mB.1 (by omega), S', T', hq, by simp only [inBx, wayB]; omega⟩
 ·simp only [inBx, wayB] at hb
  obtain ⟨k0, k1, k2, k3, k4⟩ := y4 T ⟨pB, (by rw [show T + 1 = S' by omega]; exact qC)⟩
  obtain ⟨k5, k6⟩ := (Y4 _).1 k1
  have k7 := la3 _ k5
  exact ⟨(leastR A, leastR (interR B (nf (shR (-1) (-1) C)))), exPs_f mA.1 (n4 k0).1 (by omega), leastR (interR B (nf (shR (-1) (-1) C))) + 1, leastR (interR B (nf (shR (-1) (-1) C))) + 1, ls_mkt k6, by simp only [inBx, wayB]; omega⟩
 ·simp only [inBx, wayB] at hb
  exfalso
  omega
 ·simp only [inBx, wayB] at hb
  exfalso
  omega
 ·simp only [inBx, wayB] at hb
  exfalso
  omega
 ·simp only [inBx, wayB] at hb
  exfalso
  omega
 ·simp only [inBx, wayB] at hb
  obtain ⟨k0, k1, k2, k3, k4⟩ := z1 S ⟨⟨pA, (by rw [show S = S' by omega]; exact qC)⟩, (by rw [show S = T by omega]; exact pB), (by rw [show S = T' by omega]; exact qD)⟩
  obtain ⟨⟨k5, k6⟩, k7, k8⟩ := (Z1 _).1 k1
  exact ⟨(leastR (interR (interR A C) (interR B C)), leastR (interR (interR A C) (interR B C))), exPs_f (m1 k0).1 (m1 k0).2 (by omega), leastR (interR (interR A C) (interR B C)), leastR (interR (interR A C) (interR B C)), ls_mkt k6, by simp only [inBx, wayB]; omega⟩
 ·simp only [inBx, wayB] at hb
  obtain ⟨j0, j1, j2, j3, j4⟩ := y2 T ⟨pB, (by rw [show T = T' by omega]; exact qD)⟩
  obtain ⟨j5, j6⟩ := (Y2 _).1 j3
  have j7 := lc3 _ j6
  have j8 := g.bb _ j6
  exact ⟨(leastR A, greatR (interR B C)), exPs_f mA.1 (n2 j0).2 (by omega), greatR (interR B C), greatR (interR B C), ls_mkt j6, by simp only [inBx, wayB]; omega⟩
 ·simp only [inBx, wayB] at hb
  exact ⟨(leastR A, greatR B), exPs_f mA.1 mB.2 (by omega), S', T', hq, by simp only [inBx, wayB]; omega⟩
 ·simp only [inBx, wayB] at hb
  obtain ⟨k0, k1, k2, k3, k4⟩ := z2 S ⟨pA, (by rw [show S = S' by omega]; exact qC)⟩
  obtain ⟨k5, k6⟩ := (X2 _).1 k1
  have k77 := h.ba _ k5
  exact ⟨(leastR (interR A C), greatR B), exPs_f (m2 k0).1 mB.2 (by omega), leastR (interR A C), leastR (interR A C), ls_mkt k6, by simp only [inBx, wayB]; omega⟩
 ·simp only [inBx, wayB] at hb
  exfalso
  omega
 ·simp only [inBx, wayB] at hb
  obtain ⟨k0, k1, k2, k3, k4⟩ := z4 S ⟨pA, (by rw [show S - 1 = T' by omega]; exact qD)⟩
  obtain ⟨k5, k6⟩ := (X4 _).1 k3
  have k7 := hb3 _ k5
  have k8 := h.ba _ k5
  have k88 := g.bb _ k6
  exact ⟨(greatR (interR A (nf (shR 1 1 C))), greatR B), exPs_f (m4 k0).2 mB.2 (by omega), greatR (interR A (nf (shR 1 1 C))) - 1, greatR (interR A (nf (shR 1 1 C))) - 1, ls_mkt k6, by simp only [inBx, wayB]; omega⟩
 ·simp only [inBx, wayB] at hb
  exact ⟨(greatR A, greatR B), exPs_f mA.2 mB.2 (by omega), S', T', hq, by simp only [inBx, wayB]; omega⟩
theorem ex_tf {A B C D : List R} (h : LsOkP true A B) (g : LsOkP false C D) {r : Nat} (hr : r ≤ 12) {S T S' T' : Int} (hp : lsP true A B S T) (hq : lsP false C D S' T') (hb : inBx (wayB r S T) S' T') :
  ∃ p ∈ exPs true A B C D, ∃ s' t', lsP false C D s' t' ∧ inBx (wayB r p.1 p.2) s' t' := by
 have eBA := (h.eq rfl).symm
 subst eBA
 have eST := (ls_t hp).1
 obtain ⟨p1, pA, pB⟩ := ls_le h hp
 obtain ⟨q1, qC, qD⟩ := ls_le g hq
 obtain ⟨la1, la2, la3, lb1, lb2⟩ := h.lo
 obtain ⟨hb1, hb2, hb3, ha1, ha2⟩ := h.hi
 obtain ⟨lc1, lc2, lc3, ld1, ld2⟩ := g.lo
 obtain ⟨hd1, hd2, hd3, hc1, hc2⟩ := g.hi
 have bS := h.ba _ pA
 have bT := h.bb _ pB
 have bS' := g.ba _ qC
 have bT' := g.bb _ qD
 have bl1 := h.ba _ la1
 have bl2 := h.bb _ lb1
 have bg1 := h.bb _ hb1
 have bg2 := h.ba _ ha1
 have bl3 := g.ba _ lc1
 have bg3 := g.bb _ hd1
 have eAS := la2 _ pA
 have eBT := hb2 _ pB
 have eCS := lc2 _ qC
 have eDT := hd2 _ qD
 have eAB := la3 _ lb1
 have eAgB := hb3 _ ha1
 have eBl := lb2 _ pB
 have eAg := ha2 _ pA
 have eCD := lc3 _ hd1
 have rC := runs_bd g.sa g.ba
 have rD := runs_bd g.sb g.bb
 -- the sets of edges
 have X2 : ∀ n, memR (interR A C) n ↔ memR A n ∧ memR C n := fun n => interR_mem _ _ n
 have X3 : ∀ n, memR (interR A [(leastR C + 1, 3652424)]) n ↔ memR A n ∧ leastR C < n := fun n => by
  rw [interR_mem, memR_one]
  exact ⟨fun q => ⟨q.1, by omega⟩, fun q => ⟨q.1, by have := h.ba n q.1; omega⟩⟩
 have X4 : ∀ n, memR (interR A (nf (shR 1 1 D))) n ↔ memR A n ∧ memR D (n - 1) := fun n => by rw [interR_mem, shR_mem (by omega) rD]
 have Y2 : ∀ n, memR (interR A D) n ↔ memR A n ∧ memR D n := fun n => interR_mem _ _ n
 have Y3 : ∀ n, memR (interR A [(0, greatR D - 1)]) n ↔ memR A n ∧ n < greatR D := fun n => by
  rw [interR_mem, memR_one]
  exact ⟨fun q => ⟨q.1, by omega⟩, fun q => ⟨q.1, by have := h.bb n q.1; omega⟩⟩
 have Y4 : ∀ n, memR (interR A (nf (shR (-1) (-1) C))) n ↔ memR A n ∧ memR C (n + 1) := fun n => by rw [interR_mem, shR_mem (by omega) rC, show n - -1 = n + 1 by omega]
 have Z1 : ∀ n, memR (interR (interR A C) (interR A D)) n ↔ (memR A n ∧ memR C n) ∧ (memR A n ∧ memR D n) := fun n => by simp only [interR_mem]
 have S1 := interR_sane (interR A C) (interR A D)
 have S2 := interR_sane A C
 have S3 := interR_sane A [(leastR C + 1, 3652424)]
 have S4 := interR_sane A (nf (shR 1 1 D))
 have E2 := interR_sane A D
 have E3 := interR_sane A [(0, greatR D - 1)]
 have E4 := interR_sane A (nf (shR (-1) (-1) C))
 have mA := st_mem (A := A) (B := A) (C := C) (D := D) (s := A) (by simp) h.na
 have mB := en_mem (A := A) (B := A) (C := C) (D := D) (s := A) (by simp) h.nb
 have m2 := fun h0 => st_mem (A := A) (B := A) (C := C) (D := D) (s := interR A C) (by simp) h0
 have m3 := fun h0 => st_mem (A := A) (B := A) (C := C) (D := D) (s := interR A [(leastR C + 1, 3652424)]) (by simp) h0
 have m4 := fun h0 => st_mem (A := A) (B := A) (C := C) (D := D) (s := interR A (nf (shR 1 1 D))) (by simp) h0
 have n2 := fun h0 => en_mem (A := A) (B := A) (C := C) (D := D) (s := interR A D) (by simp) h0
 have n3 := fun h0 => en_mem (A := A) (B := A) (C := C) (D := D) (s := interR A [(0, greatR D - 1)]) (by simp) h0
 have n4 := fun h0 => en_mem (A := A) (B := A) (C := C) (D := D) (s := interR A (nf (shR (-1) (-1) C))) (by simp) h0
 have m1 := fun h0 => s1_mem (A := A) (B := A) (C := C) (D := D) h0
 -- the least (greatest) number of a set that has n
 have z1 := fun n q => set_ends S1 ((Z1 n).2 q)
 have z2 := fun n q => set_ends S2 ((X2 n).2 q)
 have z3 := fun n q => set_ends S3 ((X3 n).2 q)
 have z4 := fun n q => set_ends S4 ((X4 n).2 q)
 have y2 := fun n q => set_ends E2 ((Y2 n).2 q)
 have y3 := fun n q => set_ends E3 ((Y3 n).2 q)
 have y4 := fun n q => set_ends E4 ((Y4 n).2 q)
 obtain rfl | rfl | rfl | rfl | rfl | rfl | rfl | rfl | rfl | rfl | rfl | rfl | rfl : r = 0 ∨ r = 1 ∨ r = 2 ∨ r = 3 ∨ r = 4 ∨ r = 5 ∨ r = 6 ∨ r = 7 ∨ r = 8 ∨ r = 9 ∨ r = 10 ∨ r = 11 ∨ r = 12 := by omega
 ·simp only [inBx, wayB] at hb
  exact ⟨(leastR A, leastR A), exPs_t (.inl mA.1), S', T', hq, by simp only [inBx, wayB]; omega⟩
 ·simp only [inBx, wayB] at hb
  obtain ⟨k0, k1, k2, k3, k4⟩ := y4 T ⟨pB, (by rw [show T + 1 = S' by omega]; exact qC)⟩
  obtain ⟨k5, k6⟩ := (Y4 _).1 k1
  have k7 := la3 _ k5
  obtain ⟨m, u8, u9⟩ := g.up _ k6
  have u10 := g.bb _ u8
  exact ⟨(leastR (interR A (nf (shR (-1) (-1) C))), leastR (interR A (nf (shR (-1) (-1) C)))), exPs_t (.inr (n4 k0).1), leastR (interR A (nf (shR (-1) (-1) C))) + 1, m, ls_mk u9 k6 u8, by simp only [inBx, wayB]; omega⟩
 ·simp only [inBx, wayB] at hb
  exfalso
  omega
 ·simp only [inBx, wayB] at hb
  obtain ⟨k0, k1, k2, k3, k4⟩ := z2 S ⟨pA, (by rw [show S = S' by omega]; exact qC)⟩
  obtain ⟨k5, k6⟩ := (X2 _).1 k1
  have k77 := h.ba _ k5
  exact ⟨(leastR (interR A C), leastR (interR A C)), exPs_t (.inl (m2 k0).1), leastR (interR A C), greatR D, ls_mk (by omega) k6 hd1, by simp only [inBx, wayB]; omega⟩
 ·simp only [inBx, wayB] at hb
  obtain ⟨k0, k1, k2, k3, k4⟩ := z3 S ⟨pA, by omega⟩
  obtain ⟨k5, k6⟩ := (X3 _).1 k1
  exact ⟨(leastR (interR A [(leastR C + 1, 3652424)]), leastR (interR A [(leastR C + 1, 3652424)])), exPs_t (.inl (m3 k0).1), leastR C, greatR D, ls_mk (by omega) lc1 hd1, by simp only [inBx, wayB]; omega⟩
 ·simp only [inBx, wayB] at hb
  obtain ⟨j0, j1, j2, j3, j4⟩ := y2 T ⟨pB, (by rw [show T = T' by omega]; exact qD)⟩
  obtain ⟨j5, j6⟩ := (Y2 _).1 j3
  have j7 := lc3 _ j6
  have j8 := g.bb _ j6
  exact ⟨(greatR (interR A D), greatR (interR A D)), exPs_t (.inr (n2 j0).2), leastR C, greatR (interR A D), ls_mk j7 lc1 j6, by simp only [inBx, wayB]; omega⟩
 ·simp only [inBx, wayB] at hb
  obtain ⟨k0, k1, k2, k3, k4⟩ := z1 S ⟨⟨pA, (by rw [show S = S' by omega]; exact qC)⟩, (by rw [show S = T by omega]; exact pB), (by rw [show S = T' by omega]; exact qD)⟩
  obtain ⟨⟨k5, k6⟩, k7, k8⟩ := (Z1 _).1 k1
  exact ⟨(leastR (interR (interR A C) (interR A D)), leastR (interR (interR A C) (interR A D))), exPs_t (.inl (m1 k0).1), leastR (interR (interR A C) (interR A D)), leastR (interR (interR A C) (interR A D)), ls_mk (Int.le_refl _) k6 k8, by simp only [inBx, wayB]; omega⟩
 ·simp only [inBx, wayB] at hb
  exfalso
  omega
 ·simp only [inBx, wayB] at hb
  exfalso
  omega
 ·simp only [inBx, wayB] at hb
  exfalso
  omega
 ·simp only [inBx, wayB] at hb
  exfalso
  omega
 ·simp only [inBx, wayB] at hb
  obtain ⟨k0, k1, k2, k3, k4⟩ := z4 S ⟨pA, (by rw [show S - 1 = T' by omega]; exact qD)⟩
  obtain ⟨k5, k6⟩ := (X4 _).1 k3
  have k7 := hb3 _ k5
  have k8 := h.ba _ k5
  have k88 := g.bb _ k6
  obtain ⟨m, u8, u9⟩ := g.dn _ k6
  have u10 := g.ba _ u8
  exact ⟨(greatR (interR A (nf (shR 1 1 D))), greatR (interR A (nf (shR 1 1 D)))), exPs_t (.inl (m4 k0).2), m, greatR (interR A (nf (shR 1 1 D))) - 1, ls_mk u9 u8 k6, by simp only [inBx, wayB]; omega⟩
 ·simp only [inBx, wayB] at hb
  exact ⟨(greatR A, greatR A), exPs_t (.inl mA.2), S', T', hq, by simp only [inBx, wayB]; omega⟩
theorem ex_tt {A B C D : List R} (h : LsOkP true A B) (g : LsOkP true C D) {r : Nat} (hr : r ≤ 12) {S T S' T' : Int} (hp : lsP true A B S T) (hq : lsP true C D S' T') (hb : inBx (wayB r S T) S' T') :
  ∃ p ∈ exPs true A B C D, ∃ s' t', lsP true C D s' t' ∧ inBx (wayB r p.1 p.2) s' t' := by
 have eBA := (h.eq rfl).symm
 subst eBA
 have eST := (ls_t hp).1
 have eDC := (g.eq rfl).symm
 subst eDC
 have eST' := (ls_t hq).1
 obtain ⟨p1, pA, pB⟩ := ls_le h hp
 obtain ⟨q1, qC, qD⟩ := ls_le g hq
 obtain ⟨la1, la2, la3, lb1, lb2⟩ := h.lo
 obtain ⟨hb1, hb2, hb3, ha1, ha2⟩ := h.hi
 obtain ⟨lc1, lc2, lc3, ld1, ld2⟩ := g.lo
 obtain ⟨hd1, hd2, hd3, hc1, hc2⟩ := g.hi
 have bS := h.ba _ pA
 have bT := h.bb _ pB
 have bS' := g.ba _ qC
 have bT' := g.bb _ qD
 have bl1 := h.ba _ la1
 have bl2 := h.bb _ lb1
 have bg1 := h.bb _ hb1
 have bg2 := h.ba _ ha1
 have bl3 := g.ba _ lc1
 have bg3 := g.bb _ hd1
 have eAS := la2 _ pA
 have eBT := hb2 _ pB
 have eCS := lc2 _ qC
 have eDT := hd2 _ qD
 have eAB := la3 _ lb1
 have eAgB := hb3 _ ha1
 have eBl := lb2 _ pB
 have eAg := ha2 _ pA
 have eCD := lc3 _ hd1
 have rC := runs_bd g.sa g.ba
 have rD := runs_bd g.sb g.bb
 -- the sets of edges
 have X2 : ∀ n, memR (interR A C) n ↔ memR A n ∧ memR C n := fun n => interR_mem _ _ n
 have X3 : ∀ n, memR (interR A [(leastR C + 1, 3652424)]) n ↔ memR A n ∧ leastR C < n := fun n => by
  rw [interR_mem, memR_one]
  exact ⟨fun q => ⟨q.1, by omega⟩, fun q => ⟨q.1, by have := h.ba n q.1; omega⟩⟩
 have X4 : ∀ n, memR (interR A (nf (shR 1 1 C))) n ↔ memR A n ∧ memR C (n - 1) := fun n => by rw [interR_mem, shR_mem (by omega) rD]
 have Y2 : ∀ n, memR (interR A C) n ↔ memR A n ∧ memR C n := fun n => interR_mem _ _ n
 have Y3 : ∀ n, memR (interR A [(0, greatR C - 1)]) n ↔ memR A n ∧ n < greatR C := fun n => by
  rw [interR_mem, memR_one]
  exact ⟨fun q => ⟨q.1, by omega⟩, fun q => ⟨q.1, by have := h.bb n q.1; omega⟩⟩
 have Y4 : ∀ n, memR (interR A (nf (shR (-1) (-1) C))) n ↔ memR A n ∧ memR C (n + 1) := fun n => by rw [interR_mem, shR_mem (by omega) rC, show n - -1 = n + 1 by omega]
 have Z1 : ∀ n, memR (interR (interR A C) (interR A C)) n ↔ (memR A n ∧ memR C n) ∧ (memR A n ∧ memR C n) := fun n => by simp only [interR_mem]
 have S1 := interR_sane (interR A C) (interR A C)
 have S2 := interR_sane A C
 have S3 := interR_sane A [(leastR C + 1, 3652424)]
 have S4 := interR_sane A (nf (shR 1 1 C))
 have E2 := interR_sane A C
 have E3 := interR_sane A [(0, greatR C - 1)]
 have E4 := interR_sane A (nf (shR (-1) (-1) C))
 have mA := st_mem (A := A) (B := A) (C := C) (D := C) (s := A) (by simp) h.na
 have mB := en_mem (A := A) (B := A) (C := C) (D := C) (s := A) (by simp) h.nb
 have m2 := fun h0 => st_mem (A := A) (B := A) (C := C) (D := C) (s := interR A C) (by simp) h0
 have m3 := fun h0 => st_mem (A := A) (B := A) (C := C) (D := C) (s := interR A [(leastR C + 1, 3652424)]) (by simp) h0
 have m4 := fun h0 => st_mem (A := A) (B := A) (C := C) (D := C) (s := interR A (nf (shR 1 1 C))) (by simp) h0
 have n2 := fun h0 => en_mem (A := A) (B := A) (C := C) (D := C) (s := interR A C) (by simp) h0
 have n3 := fun h0 => en_mem (A := A) (B := A) (C := C) (D := C) (s := interR A [(0, greatR C - 1)]) (by simp) h0
 have n4 := fun h0 => en_mem (A := A) (B := A) (C := C) (D := C) (s := interR A (nf (shR (-1) (-1) C))) (by simp) h0
 have m1 := fun h0 => s1_mem (A := A) (B := A) (C := C) (D := C) h0
 -- the least (greatest) number of a set that has n
 have z1 := fun n q => set_ends S1 ((Z1 n).2 q)
 have z2 := fun n q => set_ends S2 ((X2 n).2 q)
 have z3 := fun n q => set_ends S3 ((X3 n).2 q)
 have z4 := fun n q => set_ends S4 ((X4 n).2 q)
 have y2 := fun n q => set_ends E2 ((Y2 n).2 q)
 have y3 := fun n q => set_ends E3 ((Y3 n).2 q)
 have y4 := fun n q => set_ends E4 ((Y4 n).2 q)
 obtain rfl | rfl | rfl | rfl | rfl | rfl | rfl | rfl | rfl | rfl | rfl | rfl | rfl : r = 0 ∨ r = 1 ∨ r = 2 ∨ r = 3 ∨ r = 4 ∨ r = 5 ∨ r = 6 ∨ r = 7 ∨ r = 8 ∨ r = 9 ∨ r = 10 ∨ r = 11 ∨ r = 12 := by omega
 ·simp only [inBx, wayB] at hb
  exact ⟨(leastR A, leastR A), exPs_t (.inl mA.1), S', T', hq, by simp only [inBx, wayB]; omega⟩
 ·simp only [inBx, wayB] at hb
  obtain ⟨k0, k1, k2, k3, k4⟩ := y4 T ⟨pB, (by rw [show T + 1 = S' by omega]; exact qC)⟩
  obtain ⟨k5, k6⟩ := (Y4 _).1 k1
  have k7 := la3 _ k5
  exact ⟨(leastR (interR A (nf (shR (-1) (-1) C))), leastR (interR A (nf (shR (-1) (-1) C)))), exPs_t (.inr (n4 k0).1), leastR (interR A (nf (shR (-1) (-1) C))) + 1, leastR (interR A (nf (shR (-1) (-1) C))) + 1, ls_mkt k6, by simp only [inBx, wayB]; omega⟩
 ·simp only [inBx, wayB] at hb
  exfalso
  omega
 ·simp only [inBx, wayB] at hb
  exfalso
  omega
 ·simp only [inBx, wayB] at hb
  exfalso
  omega
 ·simp only [inBx, wayB] at hb
  exfalso
  omega
 ·simp only [inBx, wayB] at hb
  obtain ⟨k0, k1, k2, k3, k4⟩ := z1 S ⟨⟨pA, (by rw [show S = S' by omega]; exact qC)⟩, (by rw [show S = T by omega]; exact pB), (by rw [show S = T' by omega]; exact qD)⟩
  obtain ⟨⟨k5, k6⟩, k7, k8⟩ := (Z1 _).1 k1
  exact ⟨(leastR (interR (interR A C) (interR A C)), leastR (interR (interR A C) (interR A C))), exPs_t (.inl (m1 k0).1), leastR (interR (interR A C) (interR A C)), leastR (interR (interR A C) (interR A C)), ls_mkt k6, by simp only [inBx, wayB]; omega⟩
 ·simp only [inBx, wayB] at hb
  exfalso
  omega
 ·simp only [inBx, wayB] at hb
  exfalso
  omega
 ·simp only [inBx, wayB] at hb
  exfalso
  omega
 ·simp only [inBx, wayB] at hb
  exfalso
  omega
 ·simp only [inBx, wayB] at hb
  obtain ⟨k0, k1, k2, k3, k4⟩ := z4 S ⟨pA, (by rw [show S - 1 = T' by omega]; exact qD)⟩
  obtain ⟨k5, k6⟩ := (X4 _).1 k3
  have k7 := hb3 _ k5
  have k8 := h.ba _ k5
  have k88 := g.bb _ k6
  exact ⟨(greatR (interR A (nf (shR 1 1 C))), greatR (interR A (nf (shR 1 1 C)))), exPs_t (.inl (m4 k0).2), greatR (interR A (nf (shR 1 1 C))) - 1, greatR (interR A (nf (shR 1 1 C))) - 1, ls_mkt k6, by simp only [inBx, wayB]; omega⟩
 ·simp only [inBx, wayB] at hb
  exact ⟨(greatR A, greatR A), exPs_t (.inl mA.2), S', T', hq, by simp only [inBx, wayB]; omega⟩
theorem ex_suff {d d' : Bool} {A B C D : List R} (h : LsOkP d A B) (g : LsOkP d' C D) {r : Nat} (hr : r ≤ 12) {S T S' T' : Int} (hp : lsP d A B S T) (hq : lsP d' C D S' T') (hb : inBx (wayB r S T) S' T') :
  ∃ p ∈ exPs d A B C D, ∃ s' t', lsP d' C D s' t' ∧ inBx (wayB r p.1 p.2) s' t' := by
 cases d <;> cases d'
 ·exact ex_ff h g hr hp hq hb
 ·exact ex_ft h g hr hp hq hb
 ·exact ex_tf h g hr hp hq hb
 ·exact ex_tt h g hr hp hq hb
end Go.Proofs.YtcooaoponkkpeaaGreatDoor
