import Derived.Test.YtcooaoponkkpeaaGreatDoorGSetB
set_option maxHeartbeats 1000000
namespace Go.Proofs.YtcooaoponkkpeaaGreatDoor
set_option linter.unusedVariables false
set_option linter.unusedSimpArgs false
open Go.RowKit
theorem mem_cons_sane {r : R} {t : List R} (h : sane (r :: t)) (n : Int) : memR (r :: t) n ↔ (r.1 ≤ n ∧ n ≤ r.2) ∨ memR t n := sane_mem_head h n
theorem nxt_spec : ∀ (l : List R) (n : Int), sane l → (nxt l n = (0, false) ∧ ∀ m, memR l m → m < n) ∨ ∃ a, nxt l n = (a, true) ∧ n ≤ a ∧ memR l a ∧ ∀ m, memR l m → n ≤ m → a ≤ m := by
 intro l
 induction l with
 | nil => intro n _; exact .inl ⟨rfl, fun m h => absurd h (memR_nil m)⟩
 | cons r t ih =>
  intro n hs
  rw [nxt]
  have hr := (sane_head hs).1
  have B := sane_beyond hs
  by_cases c : n ≤ r.2
  ·rw [if_pos c]
   refine .inr ⟨max n r.1, rfl, by omega, (mem_cons_sane hs _).2 (.inl ⟨by omega, by omega⟩), fun m hm hn => ?_⟩
   rcases (mem_cons_sane hs m).1 hm with g | g
   ·omega
   ·have := B m g; omega
  ·rw [if_neg c]
   rcases ih n (sane_tail hs) with ⟨e, h⟩ | ⟨a, e, h1, h2, h3⟩
   ·refine .inl ⟨e, fun m hm => ?_⟩
    rcases (mem_cons_sane hs m).1 hm with g | g
    ·omega
    ·exact h m g
   ·refine .inr ⟨a, e, h1, (mem_cons_sane hs _).2 (.inr h2), fun m hm hn => ?_⟩
    rcases (mem_cons_sane hs m).1 hm with g | g
    ·omega
    ·exact h3 m g hn
theorem prv_spec : ∀ (l : List R) (n : Int), sane l → (prv l n = (0, false) ∧ ∀ m, memR l m → n < m) ∨ ∃ a, prv l n = (a, true) ∧ a ≤ n ∧ memR l a ∧ ∀ m, memR l m → m ≤ n → m ≤ a := by
 intro l
 induction l with
 | nil => intro n _; exact .inl ⟨rfl, fun m h => absurd h (memR_nil m)⟩
 | cons r t ih =>
  intro n hs
  rw [prv]
  have hr := (sane_head hs).1
  have B := sane_beyond hs
  rcases ih n (sane_tail hs) with ⟨e, h⟩ | ⟨a, e, h1, h2, h3⟩
  ·rw [e, if_neg (by simp)]
   by_cases c : r.1 ≤ n
   ·rw [if_pos c]
    refine .inr ⟨min n r.2, rfl, by omega, (mem_cons_sane hs _).2 (.inl ⟨by omega, by omega⟩), fun m hm hn => ?_⟩
    rcases (mem_cons_sane hs m).1 hm with g | g
    ·omega
    ·have := h m g; omega
   ·rw [if_neg c]
    refine .inl ⟨rfl, fun m hm => ?_⟩
    rcases (mem_cons_sane hs m).1 hm with g | g
    ·omega
    ·exact h m g
  ·rw [e, if_pos rfl]
   refine .inr ⟨a, rfl, h1, (mem_cons_sane hs _).2 (.inr h2), fun m hm hn => ?_⟩
   rcases (mem_cons_sane hs m).1 hm with g | g
   ·have := B a h2; omega
   ·exact h3 m g hn
theorem no_mem {l : List R} (h : sane l) (g : ∀ m, ¬ memR l m) : l = [] := by
 cases l with
 | nil => rfl
 | cons r t => exact absurd ((mem_cons_sane h r.1).2 (.inl ⟨Int.le_refl _, (sane_head h).1⟩)) (g _)
theorem flat_len (a b : List R) (f : R → R → R) : (a.flatMap fun r => b.map (f r)).length = a.length * b.length := by
 induction a with
 | nil => simp
 | cons r t ih => rw [List.flatMap_cons, List.length_append, ih, List.length_map, List.length_cons, Nat.succ_mul]; omega
theorem interR_bd {a b : List R} {p q : Nat} (ha : a.length ≤ p) (hb : b.length ≤ q) : (interR a b).length ≤ p * q := by
 have h := nf_len (a.flatMap fun r => b.map fun s => (max r.1 s.1, min r.2 s.2))
 rw [flat_len a b (fun r s => (max r.1 s.1, min r.2 s.2))] at h
 exact Nat.le_trans h (Nat.mul_le_mul ha hb)
theorem sane_i64 {l : List R} (h : sane l) : I64R l := ok_i64 (sane_ok h)
theorem i64_one {lo hi' : Int} (a1 : -9223372036854775808 ≤ lo) (a2 : lo ≤ 9223372036854775807) (b1 : -9223372036854775808 ≤ hi') (b2 : hi' ≤ 9223372036854775807) : I64R [(lo, hi')] := by
 intro r hr
 rw [List.mem_singleton] at hr
 subst hr
 exact ⟨a1, a2, b1, b2⟩
theorem clip_any (v : Value) (l : List R) (lo hi' : Int) (w : World) (hv : RunsAt w v l) (hl : I64R l) (hn : l.length ≤ 1000000) (hi64 : I64R [(lo, hi')]) :
  Calls Tryz.prog 79 #[v, .int .i64 lo, .int .i64 hi'] w fun e w' => ∃ v' : Value, e = .returned v' ∧ w'.ownsRow w.heap.size 42 2 v' (interR l [(lo, hi')]).length (cellsR (interR l [(lo, hi')])) ∧ Kp w w' := by
 have C := Hd (fun t => meet_any v (.slice (some ⟨w.heap.size, 0, none⟩) 1 1) l [(lo, hi')] (w.alloc (.cells #[.int .i64 lo, .int .i64 hi'] t)) (hv.kp (Kp.alloc _ _)) (lit_at w [(lo, hi')] _ _ rfl (by simp [maxLen])) hl hi64 hn (by simp))
 clear hv hl
 go_enter Tryz.func79, Tryz.ntmps79
 go_wp2_with fail
 refine (C.out _).mono ?_
 rintro e w1 ⟨v1, rfl, own1, kk⟩
 have O := Hd own1
 have K := Hd kk
 clear own1 kk C
 go_wp2
 go_ret
 exact ⟨_, rfl, own_mono O.out (by simp), (Kp.alloc _ _).trans K.out⟩
theorem sane_pw {l : List R} : sane l ↔ (∀ r ∈ l, okR r) ∧ l.Pairwise (fun a b => a.2 + 1 < b.1) := by
 induction l with
 | nil => simp [sane]
 | cons r t ih =>
  constructor
  ·intro h
   have g := ih.1 (sane_tail h)
   refine ⟨fun q hq => ?_, List.pairwise_cons.2 ⟨fun b hb => ?_, g.2⟩⟩
   ·rcases List.mem_cons.1 hq with e | e
    ·subst e; exact sane_head h
    ·exact g.1 q e
   ·obtain ⟨o1, o2, o3⟩ := g.1 b hb
    exact sane_beyond h b.1 ⟨b, hb, Int.le_refl _, o1, o2, by omega⟩
  ·rintro ⟨h1, h2⟩
   have h3 := List.pairwise_cons.1 h2
   exact sane_cons (h1 r (by simp)) (fun s t' e => h3.1 s (by rw [e]; simp)) (ih.2 ⟨fun q hq => h1 q (by simp [hq]), h3.2⟩)
def ov (x y : R) : List R := if max x.1 y.1 ≤ min x.2 y.2 then [(max x.1 y.1, min x.2 y.2)] else []
theorem ov_mem {x y q : R} (h : q ∈ ov x y) : q = (max x.1 y.1, min x.2 y.2) ∧ max x.1 y.1 ≤ min x.2 y.2 := by
 unfold ov at h
 split at h
 ·exact ⟨by simpa using h, ‹_›⟩
 ·cases h
def mtR (x : R) (B : List R) : List R := B.flatMap (ov x)
def mtL (A B : List R) : List R := A.flatMap fun x => mtR x B
theorem mtL_sane {A B : List R} (hA : sane A) (hB : sane B) : sane (mtL A B) := by
 have a := sane_pw.1 hA
 have b := sane_pw.1 hB
 refine sane_pw.2 ⟨fun q hq => ?_, ?_⟩
 ·unfold mtL mtR at hq
  simp only [List.mem_flatMap] at hq
  obtain ⟨x, hx, y, hy, h⟩ := hq
  obtain ⟨rfl, h2⟩ := ov_mem h
  obtain ⟨p1, p2, p3⟩ := a.1 x hx
  obtain ⟨q1, q2, q3⟩ := b.1 y hy
  exact ⟨h2, by simp only; omega, by simp only; omega⟩
 ·unfold mtL mtR
  rw [List.pairwise_flatMap]
  refine ⟨fun x hx => ?_, a.2.imp fun {x x'} h q hq q' hq' => ?_⟩
  ·rw [List.pairwise_flatMap]
   refine ⟨fun y hy => ?_, b.2.imp fun {y y'} h q hq q' hq' => ?_⟩
   ·unfold ov; split <;> simp
   ·obtain ⟨rfl, h2⟩ := ov_mem hq
    obtain ⟨rfl, h3⟩ := ov_mem hq'
    simp only
    omega
  ·simp only [List.mem_flatMap] at hq hq'
   obtain ⟨y, hy, g⟩ := hq
   obtain ⟨y', hy', g'⟩ := hq'
   obtain ⟨rfl, h2⟩ := ov_mem g
   obtain ⟨rfl, h3⟩ := ov_mem g'
   simp only
   omega
theorem mtL_mem (A B : List R) (n : Int) : memR (mtL A B) n ↔ memR A n ∧ memR B n := by
 unfold mtL mtR memR
 constructor
 ·rintro ⟨q, hq, g1, g2, g3⟩
  simp only [List.mem_flatMap] at hq
  obtain ⟨x, hx, y, hy, h⟩ := hq
  obtain ⟨rfl, h2⟩ := ov_mem h
  simp only at g1 g2
  exact ⟨⟨x, hx, by omega, by omega, g3⟩, ⟨y, hy, by omega, by omega, g3⟩⟩
 ·rintro ⟨⟨x, hx, g1, g2, g3⟩, ⟨y, hy, g4, g5, _⟩⟩
  refine ⟨(max x.1 y.1, min x.2 y.2), ?_, by simp only; omega, by simp only; omega, g3⟩
  simp only [List.mem_flatMap]
  refine ⟨x, hx, y, hy, ?_⟩
  unfold ov
  rw [if_pos (by omega)]
  simp
theorem mtL_inter (a b : List R) : mtL (nf a) (nf b) = interR a b :=
 sane_ext (mtL_sane (nf_sane a) (nf_sane b)) (interR_sane a b) fun n => by rw [mtL_mem, interR_mem, nf_mem, nf_mem]
def mtO (A B : List R) (i k : Nat) : List R := mtL (A.take i) B ++ mtR (at_ A i) (B.take k)
theorem mtR_take (x : R) (B : List R) (k : Nat) (h : k < B.length) : mtR x (B.take (k + 1)) = mtR x (B.take k) ++ ov x (at_ B k) := by
 rw [take_at B k h]; unfold mtR; simp
theorem mtO_next (A B : List R) (i k : Nat) (h : k < B.length) : mtO A B i (k + 1) = mtO A B i k ++ ov (at_ A i) (at_ B k) := by
 unfold mtO; rw [mtR_take _ _ _ h, List.append_assoc]
theorem mtO_row (A B : List R) (i : Nat) (h : i < A.length) : mtO A B i B.length = mtO A B (i + 1) 0 := by
 unfold mtO mtL
 rw [List.take_length, take_at A i h]
 simp [mtR]
theorem mtO_start (A B : List R) : mtO A B 0 0 = [] := by unfold mtO mtL mtR; simp
theorem mtO_end (A B : List R) : mtO A B A.length 0 = mtL A B := by unfold mtO mtR; simp
theorem ov_len (x y : R) : (ov x y).length ≤ 1 := by unfold ov; split <;> simp
theorem mtR_len (x : R) : ∀ B : List R, (mtR x B).length ≤ B.length := by
 intro B
 induction B with
 | nil => simp [mtR]
 | cons y t ih =>
  have h : mtR x (y :: t) = ov x y ++ mtR x t := by simp [mtR]
  have := ov_len x y
  rw [h, List.length_append, List.length_cons]
  omega
theorem mtL_len (B : List R) : ∀ A : List R, (mtL A B).length ≤ A.length * B.length := by
 intro A
 induction A with
 | nil => simp [mtL]
 | cons y t ih =>
  have h : mtL (y :: t) B = mtR y B ++ mtL t B := by simp [mtL]
  have := mtR_len y B
  rw [h, List.length_append, List.length_cons, Nat.succ_mul]
  omega
theorem mtO_len {A B : List R} {i k p q : Nat} (hi : i < A.length) (hk : k ≤ B.length) (ha : A.length ≤ p) (hb : B.length ≤ q) : (mtO A B i k).length ≤ p * q := by
 unfold mtO
 have h1 := mtL_len B (A.take i)
 have h2 := mtR_len (at_ A i) (B.take k)
 have h3 : (A.take i).length = i := by simp; omega
 have h4 : (B.take k).length = k := by simp; omega
 have h5 : (i + 1) * B.length ≤ p * q := Nat.mul_le_mul (by omega) hb
 rw [h3] at h1
 rw [Nat.succ_mul] at h5
 rw [List.length_append]
 omega
end Go.Proofs.YtcooaoponkkpeaaGreatDoor
