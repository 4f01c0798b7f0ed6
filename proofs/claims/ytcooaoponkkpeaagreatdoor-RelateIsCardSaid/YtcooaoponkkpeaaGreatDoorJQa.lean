import Derived.Test.YtcooaoponkkpeaaGreatDoorRlR
import Derived.Test.YtcooaoponkkpeaaGreatDoorGImgC
import Derived.Test.YtcooaoponkkpeaaGreatDoorRlH
namespace Go.Proofs.YtcooaoponkkpeaaGreatDoor
open Go.RowKit
set_option linter.unusedVariables false
set_option linter.unusedSimpArgs false
theorem rel_is {S T S' T' : Int} (h : S ≤ T) (g : S' ≤ T') :
  (rel S T S' T' = 0 ↔ T + 1 < S') ∧ (rel S T S' T' = 1 ↔ T + 1 = S') ∧ (rel S T S' T' = 2 ↔ S < S' ∧ S' ≤ T ∧ T < T') ∧ (rel S T S' T' = 3 ↔ S = S' ∧ T < T') ∧
  (rel S T S' T' = 4 ↔ S' < S ∧ T < T') ∧ (rel S T S' T' = 5 ↔ S' < S ∧ S ≤ T' ∧ T = T') ∧ (rel S T S' T' = 6 ↔ S = S' ∧ T = T') := by
 unfold rel
 refine ⟨?_, ?_, ?_, ?_, ?_, ?_, ?_⟩ <;> ((repeat' split) <;> omega)
theorem mem_len {s : List R} (h : sane s) : 0 < s.length ↔ ∃ n, memR s n :=
 ⟨fun k => ⟨_, least_mem h k⟩, fun ⟨n, m⟩ => (set_ends h m).1⟩
theorem start_pair {d : Bool} {A B : List R} (h : LsOkP d A B) {S : Int} (m : memR A S) : ∃ T, lsP d A B S T := by
 cases d with
 | true => exact ⟨S, ls_mkt m⟩
 | false => exact ⟨greatR B, ls_mk (h.hi.2.2.1 S m) m h.hi.1⟩
theorem end_pair {d : Bool} {A B : List R} (h : LsOkP d A B) {T : Int} (m : memR B T) : ∃ S, lsP d A B S T := by
 cases d with
 | true => exact ⟨T, ls_mkt (by rw [← h.eq rfl]; exact m)⟩
 | false => exact ⟨leastR A, ls_mk (h.lo.2.2.1 T m) h.lo.1 m⟩
theorem rp0 {d e : Bool} {A B C D : List R} (h : LsOkP d A B) (g : LsOkP e C D) : relP (lsP d A B) (lsP e C D) 0 ↔ leastR B + 1 < greatR C := by
 constructor
 ·rintro ⟨S, T, S', T', p, q, r⟩
  have p1 := ls_le h p; have q1 := ls_le g q
  have r1 := (rel_is p1.1 q1.1).1.1 r
  have := h.lo.2.2.2.2 T p1.2.2; have := g.hi.2.2.2.2 S' q1.2.1
  omega
 ·intro k
  obtain ⟨S, p⟩ := end_pair h h.lo.2.2.2.1
  obtain ⟨T', q⟩ := start_pair g g.hi.2.2.2.1
  exact ⟨S, _, _, T', p, q, (rel_is (ls_le h p).1 (ls_le g q).1).1.2 k⟩
theorem rp1 {d e : Bool} {A B C D : List R} (h : LsOkP d A B) (g : LsOkP e C D) : relP (lsP d A B) (lsP e C D) 1 ↔ 0 < (interR (nf (shR 1 1 B)) C).length := by
 have rB := runs_bd h.sb h.bb
 rw [mem_len (interR_sane _ _)]
 constructor
 ·rintro ⟨S, T, S', T', p, q, r⟩
  have p1 := ls_le h p; have q1 := ls_le g q
  have r1 := (rel_is p1.1 q1.1).2.1.1 r
  exact ⟨S', (interR_mem _ _ _).2 ⟨(shR_mem (by omega) rB S').2 (by rw [← r1, Int.add_sub_cancel]; exact p1.2.2), q1.2.1⟩⟩
 ·rintro ⟨n, m⟩
  obtain ⟨m1, m2⟩ := (interR_mem _ _ n).1 m
  obtain ⟨S, p⟩ := end_pair h ((shR_mem (by omega) rB n).1 m1)
  obtain ⟨T', q⟩ := start_pair g m2
  exact ⟨S, _, _, T', p, q, (rel_is (ls_le h p).1 (ls_le g q).1).2.1.2 (by omega)⟩
def ovB (A B C D : List R) : Bool := (nxt C (leastR A + 1)).2 && ((prv B (greatR D - 1)).2 && decide ((nxt C (leastR A + 1)).1 ≤ (prv B (greatR D - 1)).1))
def stB (A B C D : List R) : Bool := decide (0 < (interR A C).length) && ((nxt B (leastR (interR A C))).2 && decide ((nxt B (leastR (interR A C))).1 < greatR D))
def duB (A B C D : List R) : Bool := (nxt A (leastR C + 1)).2 && ((nxt B (nxt A (leastR C + 1)).1).2 && decide ((nxt B (nxt A (leastR C + 1)).1).1 < greatR D))
def fiB (A B C D : List R) : Bool := decide (0 < (interR B D).length) && ((prv A (greatR (interR B D))).2 && decide ((prv A (greatR (interR B D))).1 > leastR C))
def eqB (A B C D : List R) : Bool := decide (0 < (interR A C).length) && (decide (0 < (interR B D).length) && decide (leastR (interR A C) ≤ greatR (interR B D)))
theorem rp2 {A B C D : List R} (h : LsOkP false A B) (g : LsOkP false C D) : relP (lsP false A B) (lsP false C D) 2 ↔ ovB A B C D = true := by
 unfold ovB
 simp only [Bool.and_eq_true, decide_eq_true_eq]
 constructor
 ·rintro ⟨S, T, S', T', p, q, r⟩
  have p1 := ls_f p; have q1 := ls_f q
  obtain ⟨r1, r2, r3⟩ := (rel_is p1.1 q1.1).2.2.1.1 r
  have a1 := h.lo.2.1 S p1.2.1; have a2 := g.hi.2.1 T' q1.2.2
  rcases nxt_spec C (leastR A + 1) g.sa with ⟨e1, u1⟩ | ⟨x, e1, u1, u2, u3⟩
  ·have := u1 S' q1.2.1; omega
  rcases prv_spec B (greatR D - 1) h.sb with ⟨e2, v1⟩ | ⟨y, e2, v1, v2, v3⟩
  ·have := v1 T p1.2.2; omega
  rw [e1, e2]
  have b1 := u3 S' q1.2.1 (by omega); have b2 := v3 T p1.2.2 (by omega)
  exact ⟨rfl, rfl, by show x ≤ y; omega⟩
 ·rintro ⟨k1, k2, k3⟩
  rcases nxt_spec C (leastR A + 1) g.sa with ⟨e1, u1⟩ | ⟨x, e1, u1, u2, u3⟩
  ·rw [e1] at k1; cases k1
  rcases prv_spec B (greatR D - 1) h.sb with ⟨e2, v1⟩ | ⟨y, e2, v1, v2, v3⟩
  ·rw [e2] at k2; cases k2
  rw [e1, e2] at k3
  have k4 : x ≤ y := k3
  exact ⟨leastR A, y, x, greatR D, ls_mk (by omega) h.lo.1 v2, ls_mk (by omega) u2 g.hi.1, (rel_is (by omega) (by omega)).2.2.1.2 ⟨by omega, by omega, by omega⟩⟩
theorem rp3 {A B C D : List R} (h : LsOkP false A B) (g : LsOkP false C D) : relP (lsP false A B) (lsP false C D) 3 ↔ stB A B C D = true := by
 unfold stB
 simp only [Bool.and_eq_true, decide_eq_true_eq]
 have sI := interR_sane A C
 constructor
 ·rintro ⟨S, T, S', T', p, q, r⟩
  have p1 := ls_f p; have q1 := ls_f q
  obtain ⟨r1, r2⟩ := (rel_is p1.1 q1.1).2.2.2.1.1 r
  have m : memR (interR A C) S := (interR_mem _ _ _).2 ⟨p1.2.1, by rw [r1]; exact q1.2.1⟩
  have a1 := set_ends sI m; have a2 := g.hi.2.1 T' q1.2.2
  rcases nxt_spec B (leastR (interR A C)) h.sb with ⟨e1, u1⟩ | ⟨x, e1, u1, u2, u3⟩
  ·have := u1 T p1.2.2; omega
  rw [e1]
  have b1 := u3 T p1.2.2 (by omega)
  exact ⟨a1.1, rfl, by show x < _; omega⟩
 ·rintro ⟨k1, k2, k3⟩
  rcases nxt_spec B (leastR (interR A C)) h.sb with ⟨e1, u1⟩ | ⟨x, e1, u1, u2, u3⟩
  ·rw [e1] at k2; cases k2
  rw [e1] at k3
  have k4 : x < greatR D := k3
  have m := (interR_mem _ _ _).1 (least_mem sI k1)
  exact ⟨_, x, _, greatR D, ls_mk u1 m.1 u2, ls_mk (by omega) m.2 g.hi.1, (rel_is u1 (by omega)).2.2.2.1.2 ⟨rfl, k4⟩⟩
theorem rp4 {A B C D : List R} (h : LsOkP false A B) (g : LsOkP false C D) : relP (lsP false A B) (lsP false C D) 4 ↔ duB A B C D = true := by
 unfold duB
 simp only [Bool.and_eq_true, decide_eq_true_eq]
 constructor
 ·rintro ⟨S, T, S', T', p, q, r⟩
  have p1 := ls_f p; have q1 := ls_f q
  obtain ⟨r1, r2⟩ := (rel_is p1.1 q1.1).2.2.2.2.1.1 r
  have a1 := g.lo.2.1 S' q1.2.1; have a2 := g.hi.2.1 T' q1.2.2
  rcases nxt_spec A (leastR C + 1) h.sa with ⟨e1, u1⟩ | ⟨x, e1, u1, u2, u3⟩
  ·have := u1 S p1.2.1; omega
  rw [e1]
  have b1 := u3 S p1.2.1 (by omega)
  simp only
  rcases nxt_spec B x h.sb with ⟨e2, v1⟩ | ⟨y, e2, v1, v2, v3⟩
  ·have := v1 T p1.2.2; omega
  rw [e2]
  have b2 := v3 T p1.2.2 (by omega)
  exact ⟨trivial, rfl, by show y < _; omega⟩
 ·rintro ⟨k1, k2, k3⟩
  rcases nxt_spec A (leastR C + 1) h.sa with ⟨e1, u1⟩ | ⟨x, e1, u1, u2, u3⟩
  ·rw [e1] at k1; cases k1
  rw [e1] at k2 k3
  simp only at k2 k3
  rcases nxt_spec B x h.sb with ⟨e2, v1⟩ | ⟨y, e2, v1, v2, v3⟩
  ·rw [e2] at k2; cases k2
  rw [e2] at k3
  have k4 : y < greatR D := k3
  exact ⟨x, y, leastR C, greatR D, ls_mk v1 u2 v2, ls_mk (by omega) g.lo.1 g.hi.1, (rel_is v1 (by omega)).2.2.2.2.1.2 ⟨by omega, k4⟩⟩
theorem rp5 {A B C D : List R} (h : LsOkP false A B) (g : LsOkP false C D) : relP (lsP false A B) (lsP false C D) 5 ↔ fiB A B C D = true := by
 unfold fiB
 simp only [Bool.and_eq_true, decide_eq_true_eq]
 have sI := interR_sane B D
 constructor
 ·rintro ⟨S, T, S', T', p, q, r⟩
  have p1 := ls_f p; have q1 := ls_f q
  obtain ⟨r1, r0, r2⟩ := (rel_is p1.1 q1.1).2.2.2.2.2.1.1 r
  have m : memR (interR B D) T := (interR_mem _ _ _).2 ⟨p1.2.2, by rw [r2]; exact q1.2.2⟩
  have a1 := set_ends sI m; have a2 := g.lo.2.1 S' q1.2.1
  rcases prv_spec A (greatR (interR B D)) h.sa with ⟨e1, u1⟩ | ⟨x, e1, u1, u2, u3⟩
  ·have := u1 S p1.2.1; omega
  rw [e1]
  have b1 := u3 S p1.2.1 (by omega)
  exact ⟨a1.1, rfl, by show x > _; omega⟩
 ·rintro ⟨k1, k2, k3⟩
  rcases prv_spec A (greatR (interR B D)) h.sa with ⟨e1, u1⟩ | ⟨x, e1, u1, u2, u3⟩
  ·rw [e1] at k2; cases k2
  rw [e1] at k3
  have k4 : x > leastR C := k3
  have m := (interR_mem _ _ _).1 (great_mem sI k1)
  exact ⟨x, _, leastR C, _, ls_mk u1 u2 m.1, ls_mk (by omega) g.lo.1 m.2, (rel_is u1 (by omega)).2.2.2.2.2.1.2 ⟨by omega, by omega, rfl⟩⟩
theorem rp6 {A B C D : List R} (h : LsOkP false A B) (g : LsOkP false C D) : relP (lsP false A B) (lsP false C D) 6 ↔ eqB A B C D = true := by
 unfold eqB
 simp only [Bool.and_eq_true, decide_eq_true_eq]
 have sI := interR_sane A C
 have sJ := interR_sane B D
 constructor
 ·rintro ⟨S, T, S', T', p, q, r⟩
  have p1 := ls_f p; have q1 := ls_f q
  obtain ⟨r1, r2⟩ := (rel_is p1.1 q1.1).2.2.2.2.2.2.1 r
  have m : memR (interR A C) S := (interR_mem _ _ _).2 ⟨p1.2.1, by rw [r1]; exact q1.2.1⟩
  have m2 : memR (interR B D) T := (interR_mem _ _ _).2 ⟨p1.2.2, by rw [r2]; exact q1.2.2⟩
  have a1 := set_ends sI m; have a2 := set_ends sJ m2
  exact ⟨a1.1, a2.1, by omega⟩
 ·rintro ⟨k1, k2, k3⟩
  have m := (interR_mem _ _ _).1 (least_mem sI k1)
  have m2 := (interR_mem _ _ _).1 (great_mem sJ k2)
  exact ⟨_, _, _, _, ls_mk k3 m.1 m2.1, ls_mk k3 m.2 m2.2, (rel_is k3 k3).2.2.2.2.2.2.2 ⟨rfl, rfl⟩⟩
def s3B (A C D : List R) : Bool := decide (0 < (interR A C).length) && decide (leastR (interR A C) < greatR D)
def s4B (A C D : List R) : Bool := (nxt A (leastR C + 1)).2 && decide ((nxt A (leastR C + 1)).1 < greatR D)
def s5B (A C D : List R) : Bool := decide (0 < (interR A D).length) && decide (greatR (interR A D) > leastR C)
def s6B (A C D : List R) : Bool := decide (0 < (interR (interR A C) (interR A D)).length)
theorem rs3 {A B C D : List R} (h : LsOkP true A B) (g : LsOkP false C D) : relP (lsP true A B) (lsP false C D) 3 ↔ s3B A C D = true := by
 unfold s3B
 simp only [Bool.and_eq_true, decide_eq_true_eq]
 have sI := interR_sane A C
 constructor
 ·rintro ⟨S, T, S', T', p, q, r⟩
  obtain ⟨rfl, p1⟩ := ls_t p; have q1 := ls_f q
  obtain ⟨r1, r2⟩ := (rel_is (Int.le_refl S) q1.1).2.2.2.1.1 r
  have m : memR (interR A C) S := (interR_mem _ _ _).2 ⟨p1, by rw [r1]; exact q1.2.1⟩
  have a1 := set_ends sI m; have a2 := g.hi.2.1 T' q1.2.2
  exact ⟨a1.1, by omega⟩
 ·rintro ⟨k1, k3⟩
  have m := (interR_mem _ _ _).1 (least_mem sI k1)
  exact ⟨_, _, _, greatR D, ls_mkt m.1, ls_mk (by omega) m.2 g.hi.1, (rel_is (Int.le_refl _) (by omega)).2.2.2.1.2 ⟨rfl, k3⟩⟩
theorem rs4 {A B C D : List R} (h : LsOkP true A B) (g : LsOkP false C D) : relP (lsP true A B) (lsP false C D) 4 ↔ s4B A C D = true := by
 unfold s4B
 simp only [Bool.and_eq_true, decide_eq_true_eq]
 constructor
 ·rintro ⟨S, T, S', T', p, q, r⟩
  obtain ⟨rfl, p1⟩ := ls_t p; have q1 := ls_f q
  obtain ⟨r1, r2⟩ := (rel_is (Int.le_refl S) q1.1).2.2.2.2.1.1 r
  have a1 := g.lo.2.1 S' q1.2.1; have a2 := g.hi.2.1 T' q1.2.2
  rcases nxt_spec A (leastR C + 1) h.sa with ⟨e1, u1⟩ | ⟨x, e1, u1, u2, u3⟩
  ·have := u1 S p1; omega
  rw [e1]
  have b1 := u3 S p1 (by omega)
  exact ⟨rfl, by show x < _; omega⟩
 ·rintro ⟨k1, k3⟩
  rcases nxt_spec A (leastR C + 1) h.sa with ⟨e1, u1⟩ | ⟨x, e1, u1, u2, u3⟩
  ·rw [e1] at k1; cases k1
  rw [e1] at k3
  have k4 : x < greatR D := k3
  exact ⟨x, x, leastR C, greatR D, ls_mkt u2, ls_mk (by omega) g.lo.1 g.hi.1, (rel_is (Int.le_refl _) (by omega)).2.2.2.2.1.2 ⟨by omega, k4⟩⟩
theorem rs5 {A B C D : List R} (h : LsOkP true A B) (g : LsOkP false C D) : relP (lsP true A B) (lsP false C D) 5 ↔ s5B A C D = true := by
 unfold s5B
 simp only [Bool.and_eq_true, decide_eq_true_eq]
 have sI := interR_sane A D
 constructor
 ·rintro ⟨S, T, S', T', p, q, r⟩
  obtain ⟨rfl, p1⟩ := ls_t p; have q1 := ls_f q
  obtain ⟨r1, r0, r2⟩ := (rel_is (Int.le_refl S) q1.1).2.2.2.2.2.1.1 r
  have m : memR (interR A D) S := (interR_mem _ _ _).2 ⟨p1, by rw [r2]; exact q1.2.2⟩
  have a1 := set_ends sI m; have a2 := g.lo.2.1 S' q1.2.1
  exact ⟨a1.1, by omega⟩
 ·rintro ⟨k1, k3⟩
  have m := (interR_mem _ _ _).1 (great_mem sI k1)
  exact ⟨_, _, leastR C, _, ls_mkt m.1, ls_mk (by omega) g.lo.1 m.2, (rel_is (Int.le_refl _) (by omega)).2.2.2.2.2.1.2 ⟨by omega, by omega, rfl⟩⟩
theorem rs6 {A B C D : List R} (h : LsOkP true A B) (g : LsOkP false C D) : relP (lsP true A B) (lsP false C D) 6 ↔ s6B A C D = true := by
 unfold s6B
 simp only [decide_eq_true_eq]
 rw [mem_len (interR_sane _ _)]
 constructor
 ·rintro ⟨S, T, S', T', p, q, r⟩
  obtain ⟨rfl, p1⟩ := ls_t p; have q1 := ls_f q
  obtain ⟨r1, r2⟩ := (rel_is (Int.le_refl S) q1.1).2.2.2.2.2.2.1 r
  exact ⟨S, (interR_mem _ _ _).2 ⟨(interR_mem _ _ _).2 ⟨p1, by rw [r1]; exact q1.2.1⟩, (interR_mem _ _ _).2 ⟨p1, by rw [r2]; exact q1.2.2⟩⟩⟩
 ·rintro ⟨n, m⟩
  obtain ⟨m1, m2⟩ := (interR_mem _ _ n).1 m
  exact ⟨n, n, n, n, ls_mkt ((interR_mem _ _ n).1 m1).1, ls_mk (Int.le_refl _) ((interR_mem _ _ n).1 m1).2 ((interR_mem _ _ n).1 m2).2, (rel_is (Int.le_refl _) (Int.le_refl _)).2.2.2.2.2.2.2 ⟨rfl, rfl⟩⟩
theorem rd6 {A B C D : List R} (h : LsOkP true A B) (g : LsOkP true C D) : relP (lsP true A B) (lsP true C D) 6 ↔ 0 < (interR A C).length := by
 rw [mem_len (interR_sane _ _)]
 constructor
 ·rintro ⟨S, T, S', T', p, q, r⟩
  obtain ⟨rfl, p1⟩ := ls_t p; obtain ⟨rfl, q1⟩ := ls_t q
  obtain ⟨r1, r2⟩ := (rel_is (Int.le_refl S) (Int.le_refl S')).2.2.2.2.2.2.1 r
  exact ⟨S, (interR_mem _ _ _).2 ⟨p1, by rw [r1]; exact q1⟩⟩
 ·rintro ⟨n, m⟩
  obtain ⟨m1, m2⟩ := (interR_mem _ _ n).1 m
  exact ⟨n, n, n, n, ls_mkt m1, ls_mkt m2, (rel_is (Int.le_refl _) (Int.le_refl _)).2.2.2.2.2.2.2 ⟨rfl, rfl⟩⟩
theorem rd_no {A B C D : List R} {r : Nat} (hr : r = 2 ∨ r = 3 ∨ r = 4 ∨ r = 5) : ¬ relP (lsP true A B) (lsP true C D) r := by
 rintro ⟨S, T, S', T', p, q, e⟩
 obtain ⟨rfl, p1⟩ := ls_t p; obtain ⟨rfl, q1⟩ := ls_t q
 have := rel_is (Int.le_refl S) (Int.le_refl S')
 rcases hr with rfl | rfl | rfl | rfl
 ·have := this.2.2.1.1 e; omega
 ·have := this.2.2.2.1.1 e; omega
 ·have := this.2.2.2.2.1.1 e; omega
 ·have := this.2.2.2.2.2.1.1 e; omega
def btQ (k : Nat) (b : Bool) : Nat := if b then 2 ^ k else 0
theorem bt_bit (k r : Nat) (b : Bool) : (btQ k b).testBit r = true ↔ b = true ∧ k = r := by
 unfold btQ
 cases b
 ·simp
 ·rw [if_pos rfl, Nat.testBit_two_pow, decide_eq_true_eq]; simp
theorem bt_lt {k : Nat} (h : k ≤ 12) (b : Bool) : btQ k b < 8192 := by
 unfold btQ
 cases b
 ·simp
 ·rw [if_pos rfl]
  exact Nat.lt_of_le_of_lt (Nat.pow_le_pow_right (by decide) h) (by decide)
theorem bt_or (a b r : Nat) : (a ||| b).testBit r = true ↔ a.testBit r = true ∨ b.testBit r = true := by rw [Nat.testBit_or, Bool.or_eq_true]
theorem bt_orlt {a b : Nat} (h : a < 8192) (g : b < 8192) : a ||| b < 8192 := Nat.or_lt_two_pow (n := 13) h g
def apM (B C : List R) : Nat := btQ 0 (decide (leastR B + 1 < greatR C)) ||| btQ 1 (decide (0 < (interR (nf (shR 1 1 B)) C).length))
def daM (A B C D : List R) : Nat := apM B C ||| flN (apM D A) ||| btQ 6 (decide (0 < (interR A C).length))
def siM (A B C D : List R) : Nat := apM B C ||| flN (apM D A) ||| btQ 3 (s3B A C D) ||| btQ 4 (s4B A C D) ||| btQ 5 (s5B A C D) ||| btQ 6 (s6B A C D)
def haM (A B C D : List R) : Nat := apM B C ||| btQ 2 (ovB A B C D) ||| btQ 3 (stB A B C D) ||| btQ 4 (duB A B C D) ||| btQ 5 (fiB A B C D) ||| btQ 6 (eqB A B C D)
def boM (d e : Bool) (A B C D : List R) : Nat :=
 if d && e then daM A B C D else if d then siM A B C D else if e then flN (siM C D A B) else haM A B C D ||| flN (haM C D A B)
theorem apM_lt (B C : List R) : apM B C < 8192 := bt_orlt (bt_lt (by decide) _) (bt_lt (by decide) _)
theorem daM_lt (A B C D : List R) : daM A B C D < 8192 := bt_orlt (bt_orlt (apM_lt _ _) (flN_lt _)) (bt_lt (by decide) _)
theorem siM_lt (A B C D : List R) : siM A B C D < 8192 := bt_orlt (bt_orlt (bt_orlt (bt_orlt (bt_orlt (apM_lt _ _) (flN_lt _)) (bt_lt (by decide) _)) (bt_lt (by decide) _)) (bt_lt (by decide) _)) (bt_lt (by decide) _)
theorem haM_lt (A B C D : List R) : haM A B C D < 8192 := bt_orlt (bt_orlt (bt_orlt (bt_orlt (bt_orlt (apM_lt _ _) (bt_lt (by decide) _)) (bt_lt (by decide) _)) (bt_lt (by decide) _)) (bt_lt (by decide) _)) (bt_lt (by decide) _)
theorem boM_lt (d e : Bool) (A B C D : List R) : boM d e A B C D < 8192 := by
 unfold boM
 split
 ·exact daM_lt _ _ _ _
 split
 ·exact siM_lt _ _ _ _
 split
 ·exact flN_lt _
 ·exact bt_orlt (haM_lt _ _ _ _) (flN_lt _)
theorem apM_bit (B C : List R) (r : Nat) : (apM B C).testBit r = true ↔ (leastR B + 1 < greatR C ∧ 0 = r) ∨ (0 < (interR (nf (shR 1 1 B)) C).length ∧ 1 = r) := by
 unfold apM
 rw [bt_or, bt_bit, bt_bit, decide_eq_true_eq, decide_eq_true_eq]
theorem half_bit (A B C D : List R) (r : Nat) : (haM A B C D).testBit r = true ↔ (leastR B + 1 < greatR C ∧ 0 = r) ∨ (0 < (interR (nf (shR 1 1 B)) C).length ∧ 1 = r) ∨ (ovB A B C D = true ∧ 2 = r) ∨ (stB A B C D = true ∧ 3 = r) ∨ (duB A B C D = true ∧ 4 = r) ∨ (fiB A B C D = true ∧ 5 = r) ∨ (eqB A B C D = true ∧ 6 = r) := by
 unfold haM
 simp only [bt_or, bt_bit, apM_bit, or_assoc]
theorem sing_bit (A B C D : List R) {r : Nat} (hr : r ≤ 12) : (siM A B C D).testBit r = true ↔ (leastR B + 1 < greatR C ∧ 0 = r) ∨ (0 < (interR (nf (shR 1 1 B)) C).length ∧ 1 = r) ∨ (leastR D + 1 < greatR A ∧ 0 = 12 - r) ∨ (0 < (interR (nf (shR 1 1 D)) A).length ∧ 1 = 12 - r) ∨ (s3B A C D = true ∧ 3 = r) ∨ (s4B A C D = true ∧ 4 = r) ∨ (s5B A C D = true ∧ 5 = r) ∨ (s6B A C D = true ∧ 6 = r) := by
 unfold siM
 simp only [bt_or, bt_bit, flN_bit _ hr, apM_bit, or_assoc]
theorem days_bit (A B C D : List R) {r : Nat} (hr : r ≤ 12) : (daM A B C D).testBit r = true ↔ (leastR B + 1 < greatR C ∧ 0 = r) ∨ (0 < (interR (nf (shR 1 1 B)) C).length ∧ 1 = r) ∨ (leastR D + 1 < greatR A ∧ 0 = 12 - r) ∨ (0 < (interR (nf (shR 1 1 D)) A).length ∧ 1 = 12 - r) ∨ (0 < (interR A C).length ∧ 6 = r) := by
 unfold daM
 simp only [bt_or, bt_bit, flN_bit _ hr, apM_bit, or_assoc, decide_eq_true_eq]
theorem le13 {r : Nat} (hr : r ≤ 12) : r = 0 ∨ r = 1 ∨ r = 2 ∨ r = 3 ∨ r = 4 ∨ r = 5 ∨ r = 6 ∨ r = 7 ∨ r = 8 ∨ r = 9 ∨ r = 10 ∨ r = 11 ∨ r = 12 := by omega
theorem half_rel {A B C D : List R} (h : LsOkP false A B) (g : LsOkP false C D) {r : Nat} (hr : r ≤ 6) : (haM A B C D).testBit r = true ↔ relP (lsP false A B) (lsP false C D) r := by
 rw [half_bit]
 obtain rfl | rfl | rfl | rfl | rfl | rfl | rfl : r = 0 ∨ r = 1 ∨ r = 2 ∨ r = 3 ∨ r = 4 ∨ r = 5 ∨ r = 6 := by omega
 ·rw [rp0 h g]; simp
 ·rw [rp1 h g]; simp
 ·rw [rp2 h g]; simp
 ·rw [rp3 h g]; simp
 ·rw [rp4 h g]; simp
 ·rw [rp5 h g]; simp
 ·rw [rp6 h g]; simp
theorem half_none {A B C D : List R} {r : Nat} (hr : 6 < r) : ¬ (haM A B C D).testBit r = true := by
 rw [half_bit]
 rintro (⟨_, k⟩ | ⟨_, k⟩ | ⟨_, k⟩ | ⟨_, k⟩ | ⟨_, k⟩ | ⟨_, k⟩ | ⟨_, k⟩) <;> omega
theorem loose_rel {A B C D : List R} (h : LsOkP false A B) (g : LsOkP false C D) {r : Nat} (hr : r ≤ 12) : (haM A B C D ||| flN (haM C D A B)).testBit r = true ↔ relP (lsP false A B) (lsP false C D) r := by
 rw [bt_or, flN_bit _ hr]
 by_cases k : r ≤ 5
 ·rw [half_rel h g (by omega)]
  exact ⟨fun t => t.elim id fun t => absurd t (half_none (by omega)), .inl⟩
 by_cases k6 : r = 6
 ·subst k6
  rw [half_rel h g (by omega), half_rel g h (by omega), ← relP_turn (ls_ok h) (ls_ok g) (r := 6) (by omega)]
  exact ⟨fun t => t.elim id id, .inl⟩
 ·rw [half_rel g h (by omega), relP_turn (ls_ok h) (ls_ok g) hr]
  exact ⟨fun t => t.elim (fun t => absurd t (half_none (by omega))) id, .inr⟩
theorem not_days {d : Bool} {A B C D : List R} (h : LsOkP true A B) (g : LsOkP d C D) {r : Nat} (hr : r = 2 ∨ r = 7 ∨ r = 8 ∨ r = 9 ∨ r = 10) : ¬ relP (lsP true A B) (lsP d C D) r := by
 rintro ⟨S, T, S', T', p, q, e⟩
 obtain ⟨rfl, p1⟩ := ls_t p
 have q1 := (ls_le g q).1
 have e2 : rel S S S' T' = (r : Int) := e
 unfold rel at e2
 rcases hr with rfl | rfl | rfl | rfl | rfl <;> (revert e2; (repeat' split) <;> omega)
theorem sing_rel {A B C D : List R} (h : LsOkP true A B) (g : LsOkP false C D) {r : Nat} (hr : r ≤ 12) : (siM A B C D).testBit r = true ↔ relP (lsP true A B) (lsP false C D) r := by
 rw [sing_bit _ _ _ _ hr]
 have t11 := relP_turn (ls_ok g) (ls_ok h) (r := 1) (by omega)
 have t12 := relP_turn (ls_ok g) (ls_ok h) (r := 0) (by omega)
 obtain rfl | rfl | rfl | rfl | rfl | rfl | rfl | rfl | rfl | rfl | rfl | rfl | rfl := le13 hr
 ·rw [rp0 h g]; simp
 ·rw [rp1 h g]; simp
 ·exact iff_of_false (by simp) (not_days h g (by omega))
 ·rw [rs3 h g]; simp
 ·rw [rs4 h g]; simp
 ·rw [rs5 h g]; simp
 ·rw [rs6 h g]; simp
 ·exact iff_of_false (by simp) (not_days h g (by omega))
 ·exact iff_of_false (by simp) (not_days h g (by omega))
 ·exact iff_of_false (by simp) (not_days h g (by omega))
 ·exact iff_of_false (by simp) (not_days h g (by omega))
 ·rw [show (11 : Nat) = 12 - 1 from rfl, t11, rp1 g h]; simp
 ·rw [show relP (lsP true A B) (lsP false C D) 12 ↔ relP (lsP false C D) (lsP true A B) 0 from t12, rp0 g h]; simp
theorem days_rel {A B C D : List R} (h : LsOkP true A B) (g : LsOkP true C D) {r : Nat} (hr : r ≤ 12) : (daM A B C D).testBit r = true ↔ relP (lsP true A B) (lsP true C D) r := by
 rw [days_bit _ _ _ _ hr]
 have t11 := relP_turn (ls_ok g) (ls_ok h) (r := 1) (by omega)
 have t12 := relP_turn (ls_ok g) (ls_ok h) (r := 0) (by omega)
 obtain rfl | rfl | rfl | rfl | rfl | rfl | rfl | rfl | rfl | rfl | rfl | rfl | rfl := le13 hr
 ·rw [rp0 h g]; simp
 ·rw [rp1 h g]; simp
 ·exact iff_of_false (by simp) (not_days h g (by omega))
 ·exact iff_of_false (by simp) (rd_no (by omega))
 ·exact iff_of_false (by simp) (rd_no (by omega))
 ·exact iff_of_false (by simp) (rd_no (by omega))
 ·rw [rd6 h g]; simp
 ·exact iff_of_false (by simp) (not_days h g (by omega))
 ·exact iff_of_false (by simp) (not_days h g (by omega))
 ·exact iff_of_false (by simp) (not_days h g (by omega))
 ·exact iff_of_false (by simp) (not_days h g (by omega))
 ·rw [show (11 : Nat) = 12 - 1 from rfl, t11, rp1 g h]; simp
 ·rw [show relP (lsP true A B) (lsP true C D) 12 ↔ relP (lsP true C D) (lsP true A B) 0 from t12, rp0 g h]; simp
theorem both_rel {d e : Bool} {A B C D : List R} (h : LsOkP d A B) (g : LsOkP e C D) {r : Nat} (hr : r ≤ 12) : (boM d e A B C D).testBit r = true ↔ relP (lsP d A B) (lsP e C D) r := by
 cases d <;> cases e
 ·exact loose_rel h g hr
 ·show (flN (siM C D A B)).testBit r = true ↔ _
  rw [flN_bit _ hr, sing_rel g h (by omega), relP_turn (ls_ok h) (ls_ok g) hr]
 ·exact sing_rel h g hr
 ·exact days_rel h g hr
theorem both_bits {d e : Bool} {A B C D : List R} (h : LsOkP d A B) (g : LsOkP e C D) (m : Nat) : bitsP (m ||| boM d e A B C D) m (relP (lsP d A B) (lsP e C D)) := fun r hr => by rw [bt_or, both_rel h g hr]
theorem qlow_any (v : Value) (s : List R) (w : World) (hv : RunsAt w v s) (h0 : 0 < s.length) :
  Calls Tryz.prog 122 #[v] w fun e w' => e = .returned (.int .i64 (leastR s)) ∧ w = w' := by
 rcases hv with ⟨_, _, _, e⟩ | ⟨b, off, cap, rfl, hc, hm, hx⟩
 ·rw [e] at h0; simp at h0
 obtain ⟨d1, d2⟩ := hx 0 h0
 have z : (0 : Int) < (s.length : Int) := by omega
 rw [show off + 0 * 2 = off by omega] at d1
 unfold leastR
 obtain ⟨lo, hlo⟩ : ∃ x, (at_ s 0).1 = x := ⟨_, rfl⟩
 rw [hlo] at d1 ⊢
 clear hx d2
 go_enter Tryz.func122, Tryz.ntmps122
 go_wp2
 go_ret
 exact ⟨rfl, rfl⟩
theorem qhigh_any (v : Value) (s : List R) (w : World) (hv : RunsAt w v s) (h0 : 0 < s.length) (hl : s.length ≤ 4611686018427387904) :
  Calls Tryz.prog 123 #[v] w fun e w' => e = .returned (.int .i64 (greatR s)) ∧ w = w' := by
 rcases hv with ⟨_, _, _, e⟩ | ⟨b, off, cap, rfl, hc, hm, hx⟩
 ·rw [e] at h0; simp at h0
 obtain ⟨d1, d2⟩ := hx (s.length - 1) (by omega)
 have wi : IntKind.i64.wrap ((s.length : Int) - 1) = ((s.length - 1 : Nat) : Int) := by rw [IntKind.wrap_i64]; omega
 have z1 : (0 : Int) ≤ ((s.length - 1 : Nat) : Int) := by omega
 have z2 : ((s.length - 1 : Nat) : Int) < s.length := by omega
 unfold greatR
 obtain ⟨hi, hhi⟩ : ∃ x, (at_ s (s.length - 1)).2 = x := ⟨_, rfl⟩
 rw [hhi] at d2 ⊢
 clear hx d1
 go_enter Tryz.func123, Tryz.ntmps123
 go_wp2
 go_ret
 exact ⟨rfl, rfl⟩
theorem qbit_any (k : Nat) (hk : k ≤ 12) (b : Bool) (w : World) :
  Calls Tryz.prog 66 #[.int .i64 (k : Int), .bool b] w fun e w' => e = .returned (.int .i64 (btQ k b : Nat)) ∧ w = w' := by
 obtain rfl | rfl | rfl | rfl | rfl | rfl | rfl | rfl | rfl | rfl | rfl | rfl | rfl := le13 hk
 all_goals
  cases b
  all_goals
   go_enter Tryz.func66, Tryz.ntmps66
   go_wp2
   go_ret
   exact ⟨rfl, rfl⟩
open Go.RowKit Go.Shelf
abbrev qaA0 : Oper := ⟨some 5, .fieldAddr 57 (.tmp 2) 2, 0, "ref.go:57", #[], none⟩
abbrev qaA1 : Oper := ⟨some 6, .load 34 (.tmp 5), 34, "ref.go:57", #[⟨0, .data⟩], none⟩
abbrev qaA2 : Oper := ⟨some 7, .call ⟨.value (.func 122), #[.tmp 6], #[34]⟩, 3, "ref.go:57", #[⟨1, .data⟩], none⟩
abbrev qaA3 : Oper := ⟨some 8, .binOp .add 3 (.tmp 7) (.const (.int .i64 1)) 3, 3, "ref.go:57", #[⟨2, .data⟩], none⟩
abbrev qaA4 : Oper := ⟨some 9, .fieldAddr 57 (.tmp 3) 1, 0, "ref.go:57", #[], none⟩
abbrev qaA5 : Oper := ⟨some 10, .load 34 (.tmp 9), 34, "ref.go:57", #[⟨4, .data⟩], none⟩
abbrev qaA6 : Oper := ⟨some 11, .call ⟨.value (.func 123), #[.tmp 10], #[34]⟩, 3, "ref.go:57", #[⟨5, .data⟩, ⟨2, .chain⟩], none⟩
abbrev qaA7 : Oper := ⟨some 12, .binOp .lss 3 (.tmp 8) (.tmp 11) 3, 4, "ref.go:57", #[⟨3, .data⟩, ⟨6, .data⟩], none⟩
abbrev qaA8 : Oper := ⟨some 13, .call ⟨.value (.func 66), #[.const (.int .i64 0), .tmp 12], #[3, 4]⟩, 3, "ref.go:57", #[⟨7, .data⟩, ⟨6, .chain⟩], none⟩
abbrev qaA9 : Oper := ⟨some 14, .fieldAddr 57 (.tmp 2) 2, 0, "ref.go:57", #[], none⟩
abbrev qaA10 : Oper := ⟨some 15, .load 34 (.tmp 14), 34, "ref.go:57", #[⟨9, .data⟩], none⟩
abbrev qaA11 : Oper := ⟨some 16, .call ⟨.value (.func 124), #[.tmp 15, .const (.int .i64 1)], #[34, 3]⟩, 34, "ref.go:57", #[⟨10, .data⟩, ⟨8, .chain⟩], none⟩
abbrev qaA12 : Oper := ⟨some 17, .fieldAddr 57 (.tmp 3) 1, 0, "ref.go:57", #[], none⟩
abbrev qaA13 : Oper := ⟨some 18, .load 34 (.tmp 17), 34, "ref.go:57", #[⟨12, .data⟩], none⟩
abbrev qaA14 : Oper := ⟨some 19, .call ⟨.value (.func 67), #[.tmp 16, .tmp 18], #[34, 34]⟩, 34, "ref.go:57", #[⟨11, .data⟩, ⟨13, .data⟩, ⟨11, .chain⟩], none⟩
abbrev qaA15 : Oper := ⟨some 20, .call ⟨.builtin .len, #[.tmp 19], #[34]⟩, 3, "ref.go:57", #[⟨14, .data⟩], none⟩
abbrev qaA16 : Oper := ⟨some 21, .binOp .gtr 3 (.tmp 20) (.const (.int .i64 0)) 3, 4, "ref.go:57", #[⟨15, .data⟩], none⟩
abbrev qaA17 : Oper := ⟨some 22, .call ⟨.value (.func 66), #[.const (.int .i64 1), .tmp 21], #[3, 4]⟩, 3, "ref.go:57", #[⟨16, .data⟩, ⟨14, .chain⟩], none⟩
abbrev qaA18 : Oper := ⟨some 23, .binOp .or 3 (.tmp 13) (.tmp 22) 3, 3, "ref.go:57", #[⟨8, .data⟩, ⟨17, .data⟩], none⟩
abbrev qaA19 : Oper := ⟨some 4, .assign (.tmp 23), 3, "ref.go:57", #[⟨18, .data⟩, ⟨17, .chain⟩, ⟨0, .phase⟩, ⟨1, .phase⟩, ⟨2, .phase⟩, ⟨3, .phase⟩, ⟨4, .phase⟩, ⟨5, .phase⟩, ⟨6, .phase⟩, ⟨7, .phase⟩, ⟨8, .phase⟩, ⟨9, .phase⟩, ⟨10, .phase⟩, ⟨11, .phase⟩, ⟨12, .phase⟩, ⟨13, .phase⟩, ⟨14, .phase⟩, ⟨15, .phase⟩, ⟨16, .phase⟩, ⟨17, .phase⟩, ⟨18, .phase⟩], none⟩
theorem qapart_any {d d' : Bool} {A B C D : List R} (va vb vc vd : Value) (w : World) (hb : RunsAt w vb B) (hc : RunsAt w vc C) (H : LsOkP d A B) (H' : LsOkP d' C D) (nB : B.length ≤ 1000) (nC : C.length ≤ 1000) :
  Calls Tryz.prog 64 #[.agg #[.bool d, va, vb], .agg #[.bool d', vc, vd]] w fun e w' => e = .returned (.int .i64 (apM B C : Nat)) ∧ Kp w w' := by
 obtain ⟨ab, cb, rfl⟩ := hb.slice
 obtain ⟨ac, cc, rfl⟩ := hc.slice
 obtain ⟨v0, hV⟩ : ∃ x, x = (w.alloc (.cells #[.bool d, va, .slice ab B.length cb] 57)).alloc (.cells #[.bool d', .slice ac C.length cc, vd] 57) := ⟨_, rfl⟩
 have ka : Kp w v0 := by rw [hV]; exact (Kp.alloc _ _).trans (Kp.alloc _ _)
 have gf : v0.heap[w.heap.size]? = some (.cells #[.bool d, va, .slice ab B.length cb] 57 (0, 0)) := by rw [hV]; exact heap_block (Kp.alloc _ _) (heap_at _ _ _ rfl)
 have gg : v0.heap[w.heap.size + 1]? = some (.cells #[.bool d', .slice ac C.length cc, vd] 57 (0, 0)) := by rw [hV]; exact heap_at _ _ _ (by simp)
 have KS := Hd (fun w' (kq : Kp v0 w') => show w'.cell? ⟨w.heap.size, 2, none⟩ = some (.slice ab B.length cb) ∧ w'.cell? ⟨w.heap.size + 1, 1, none⟩ = some (.slice ac C.length cc) ∧ Kp v0 w' from ⟨(row3 (heap_block kq gf)).2.2, (row3 (heap_block kq gg)).2.1, kq⟩)
 have HV := Hd hV
 have KA := Hd ka
 have hb := hb.kp ka
 have hc := hc.kp ka
 have bB := H.bb _ H.lo.2.2.2.1
 have bC := H'.ba _ H'.hi.2.2.2.1
 have sh1 : nf (shR 1 1 (nf B)) = nf (shR 1 1 B) := by rw [nf_of_sane H.sb]
 have n5 : (nf (shR 1 1 B)).length ≤ B.length := Nat.le_trans (nf_len _) (by rw [shR_len]; exact Nat.le_refl _)
 have LB := Hd (fun w1 (k : Kp v0 w1) => qlow_any _ B w1 (hb.kp k) H.nb)
 have HC := Hd (fun w1 (k : Kp v0 w1) => qhigh_any _ C w1 (hc.kp k) H'.na (by omega))
 have Q0 := Hd (fun (b : Bool) (w1 : World) => (show Calls Tryz.prog 66 #[.int .i64 0, .bool b] w1 fun e w' => e = .returned (.int .i64 (btQ 0 b : Nat)) ∧ w1 = w' from qbit_any 0 (by decide) b w1))
 have Q1 := Hd (fun (b : Bool) (w1 : World) => (show Calls Tryz.prog 66 #[.int .i64 1, .bool b] w1 fun e w' => e = .returned (.int .i64 (btQ 1 b : Nat)) ∧ w1 = w' from qbit_any 1 (by decide) b w1))
 have SB := Hd (fun w1 (k : Kp v0 w1) => rshift_any _ B 1 w1 (hb.kp k) (sane_i64 H.sb) (by omega))
 rw [sh1] at SB
 have MB := Hd (fun u w1 (h : RunsAt w1 u (nf (shR 1 1 B))) (k : Kp v0 w1) => rmeet_any u _ _ C w1 h (hc.kp k) (sane_i64 (nf_sane _)) (sane_i64 H'.sa) (by omega) (by omega))
 have AO : bits .or .i64 ((btQ 0 (decide (leastR B + 1 < greatR C)) : Nat) : Int) ((btQ 1 (decide (0 < (interR (nf (shR 1 1 B)) C).length)) : Nat) : Int) = ((apM B C : Nat) : Int) := ak_or (bt_lt (by decide) _) (bt_lt (by decide) _)
 have wl : IntKind.i64.wrap (leastR B + 1) = leastR B + 1 := by rw [IntKind.wrap_i64]; omega
 have gl : decide (((interR (nf (shR 1 1 B)) C).length : Int) > 0) = decide (0 < (interR (nf (shR 1 1 B)) C).length) := decide_eq_decide.2 (by omega)
 have gl' : decide ((0 : Int) < ((interR (nf (shR 1 1 B)) C).length : Int)) = decide (0 < (interR (nf (shR 1 1 B)) C).length) := decide_eq_decide.2 (by omega)
 generalize apM B C = z at *
 generalize interR (nf (shR 1 1 B)) C = E at *
 generalize nf (shR 1 1 B) = E1 at *
 generalize leastR B = lo at *
 generalize greatR C = hi at *
 have GL := Hd gl'
 clear hb hc H H' bB bC nB nC hV gf gg ka sh1 n5
 have kkv0 : Kp v0 v0 := Kp.refl _
 go_enter Tryz.func64, Tryz.ntmps64
 go_upto_region 1 with fail
 rw [← HV.out]
 clear HV
 refine wp_region_held_drew (S := fun w' => w'.cell? ⟨w.heap.size, 2, none⟩ = some (.slice ab B.length cb) ∧ w'.cell? ⟨w.heap.size + 1, 1, none⟩ = some (.slice ac C.length cc) ∧ Kp v0 w') (by kernel_rfl) ?_ (fun hHeld0 => ?_)
 ·(try dsimp only); exact KS.out _ (ky kkv0)
 refine tkv 0 qaA0 ?_
 (try simp only [Act.put, qaA0, xA, xB, xC])
 refine tkv 1 qaA1 ?_
 (try simp only [Act.put, qaA1, xA, xB, xC])
 refine tkv 4 qaA4 ?_
 (try simp only [Act.put, qaA4, xA, xB, xC])
 refine tkv 5 qaA5 ?_
 (try simp only [Act.put, qaA5, xA, xB, xC])
 refine tkv 9 qaA9 ?_
 (try simp only [Act.put, qaA9, xA, xB, xC])
 refine tkv 10 qaA10 ?_
 (try simp only [Act.put, qaA10, xA, xB, xC])
 refine tkv 12 qaA12 ?_
 (try simp only [Act.put, qaA12, xA, xB, xC])
 refine tkv 13 qaA13 ?_
 (try simp only [Act.put, qaA13, xA, xB, xC])
 refine tkE 2 qaA2 rfl (by kernel_rfl) (fun K hK => ?_)
 go_simp
 (refine (LB.out _ (ky kkv0)).mono ?_; rintro e w' ⟨rfl, rfl⟩)
 (try go_wp2_with fail)
 refine hK.out _ _ ?_ (fun hHeld1 => ?_)
 ·(try dsimp only); exact KS.out _ (ky kkv0)
 clear hK K hHeld0
 (try simp only [Act.put, qaA2, xA, xB, xC])
 refine tkv 3 qaA3 ?_
 (try simp only [Act.put, qaA3, xA, xB, xC])
 refine tkE 6 qaA6 rfl (by kernel_rfl) (fun K hK => ?_)
 go_simp
 (refine (HC.out _ (ky kkv0)).mono ?_; rintro e w' ⟨rfl, rfl⟩)
 (try go_wp2_with fail)
 refine hK.out _ _ ?_ (fun hHeld2 => ?_)
 ·(try dsimp only); exact KS.out _ (ky kkv0)
 clear hK K hHeld1
 (try simp only [Act.put, qaA6, xA, xB, xC])
 refine tkv 7 qaA7 ?_
 (try simp only [Act.put, qaA7, xA, xB, xC])
 refine tkE 8 qaA8 rfl (by kernel_rfl) (fun K hK => ?_)
 go_simp
 (refine (Q0.out _ _).mono ?_; rintro e w' ⟨rfl, rfl⟩)
 (try go_wp2_with fail)
 refine hK.out _ _ ?_ (fun hHeld3 => ?_)
 ·(try dsimp only); exact KS.out _ (ky kkv0)
 clear hK K hHeld2
 (try simp only [Act.put, qaA8, xA, xB, xC])
 refine tkE 11 qaA11 rfl (by kernel_rfl) (fun K hK => ?_)
 go_simp
 (refine (SB.out _ (ky kkv0)).mono ?_; rintro e wa ⟨v1, rfl, o1, kq1⟩; have kkwa : Kp v0 wa := Kp.trans (show Kp v0 _ from (ky kkv0)) kq1; have O1 := Hd o1; obtain ⟨a1, c1, rfl⟩ := o1.slice; clear o1; clear kq1)
 (try go_wp2_with fail)
 refine hK.out _ _ ?_ (fun hHeld4 => ?_)
 ·(try dsimp only); exact KS.out _ (ky kkwa)
 clear hK K hHeld3
 (try simp only [Act.put, qaA11, xA, xB, xC])
 refine tkE 14 qaA14 rfl (by kernel_rfl) (fun K hK => ?_)
 go_simp
 (refine (MB.out _ _ (O1.out.kp (ky (Kp.refl wa))) (ky kkwa)).mono ?_; rintro e wb ⟨v2, rfl, o2, kq1⟩; have kkwb : Kp v0 wb := Kp.trans (show Kp v0 _ from (ky kkwa)) kq1; obtain ⟨a2, c2, rfl⟩ := o2.slice; clear o2; clear kq1)
 (try go_wp2_with fail)
 refine hK.out _ _ ?_ (fun hHeld5 => ?_)
 ·(try dsimp only); exact KS.out _ (ky kkwb)
 clear hK K hHeld4
 (try simp only [Act.put, qaA14, xA, xB, xC])
 refine tkv 15 qaA15 ?_
 (try simp only [Act.put, qaA15, xA, xB, xC])
 refine tkv 16 qaA16 ?_
 (try simp only [Act.put, qaA16, xA, xB, xC])
 refine tkE 17 qaA17 rfl (by kernel_rfl) (fun K hK => ?_)
 go_simp
 (refine (Q1.out _ _).mono ?_; rintro e w' ⟨rfl, rfl⟩)
 (try go_wp2_with fail)
 refine hK.out _ _ ?_ (fun hHeld6 => ?_)
 ·(try dsimp only); exact KS.out _ (ky kkwb)
 clear hK K hHeld5
 (try simp only [Act.put, qaA17, xA, xB, xC])
 refine tkv 18 qaA18 ?_
 (try simp only [Act.put, qaA18, xA, xB, xC])
 refine tkv 19 qaA19 ?_
 (try simp only [Act.put, qaA19, xA, xB, xC])
 refine wpAnyH_done (by kernel_rfl) ?_ _
 go_wp2
 go_ret
 exact ⟨rfl, KA.out.trans (ky kkwb)⟩
end Go.Proofs.YtcooaoponkkpeaaGreatDoor
