/-
  Joined: Cnt, L4F, L4D, SetsD, 5P.
-/
import Derived.Test.YtjdnejglapnbbaaGreatDoorGSetB
namespace Go.Proofs.YtjdnejglapnbbaaGreatDoor
set_option linter.unusedVariables false
set_option linter.unusedSimpArgs false
end Go.Proofs.YtjdnejglapnbbaaGreatDoor

namespace Go.Proofs.YtjdnejglapnbbaaGreatDoor
open Go.RowKit
set_option linter.unusedVariables false
set_option linter.unusedSimpArgs false
end Go.Proofs.YtjdnejglapnbbaaGreatDoor

namespace Go.Proofs.YtjdnejglapnbbaaGreatDoor
open Go.RowKit
set_option linter.unusedVariables false
set_option linter.unusedSimpArgs false
end Go.Proofs.YtjdnejglapnbbaaGreatDoor

namespace Go.Proofs.YtjdnejglapnbbaaGreatDoor
open Go.RowKit
set_option linter.unusedVariables false
set_option linter.unusedSimpArgs false
theorem flat_len (a b : List R) (f : R → R → R) : (a.flatMap fun r => b.map (f r)).length = a.length * b.length := by
  induction a with
  | nil => simp
  | cons r t ih => rw [List.flatMap_cons, List.length_append, ih, List.length_map, List.length_cons, Nat.succ_mul]; omega
theorem interR_bd {a b : List R} {p q : Nat} (ha : a.length ≤ p) (hb : b.length ≤ q) : (interR a b).length ≤ p * q := by
  have h := nf_len (a.flatMap fun r => b.map fun s => (max r.1 s.1, min r.2 s.2))
  rw [flat_len a b (fun r s => (max r.1 s.1, min r.2 s.2))] at h
  exact Nat.le_trans h (Nat.mul_le_mul ha hb)
theorem gaps_len : ∀ (s : List R) (f : Int), (gaps f s).length ≤ s.length + 1 := by
  intro s
  induction s with
  | nil => intro f; rw [gaps]; split <;> simp
  | cons r t ih => intro f; rw [gaps]; have := ih (r.2 + 1); split <;> simp <;> omega
theorem sane_i64 {l : List R} (h : sane l) : I64R l := ok_i64 (sane_ok h)
theorem i64_one {lo hi' : Int} (a1 : -9223372036854775808 ≤ lo) (a2 : lo ≤ 9223372036854775807) (b1 : -9223372036854775808 ≤ hi') (b2 : hi' ≤ 9223372036854775807) : I64R [(lo, hi')] := by
  intro r hr
  rw [List.mem_singleton] at hr
  subst hr
  exact ⟨a1, a2, b1, b2⟩
theorem has_any (ad : Option Addr) (c : Nat) (l : List R) (n : Int) (w : World) (hv : RunsAt w (.slice ad l.length c) l) (hl : I64R l) (hn : l.length ≤ 1000000) (nl : -9223372036854775808 ≤ n) (nh : n ≤ 9223372036854775807) :
    Calls Tryz.prog 136 #[.slice ad l.length c, .int .i64 n] w fun e w' => e = .returned (.bool (hasB (nf l) n)) ∧ Kp w w' :=
  has_of ad l.length c (nf l) n w (asS_any _ l w hv hl hn) (nf_sane l) (by have := nf_len l; omega) nl nh
set_option maxHeartbeats 1000000 in
theorem clip_any (v : Value) (l : List R) (lo hi' : Int) (w : World) (hv : RunsAt w v l) (hl : I64R l) (hn : l.length ≤ 1000000) (hi64 : I64R [(lo, hi')]) :
    Calls Tryz.prog 124 #[v, .int .i64 lo, .int .i64 hi'] w fun e w' => ∃ v' : Value, e = .returned v' ∧ w'.ownsRow w.heap.size 53 2 v' (interR l [(lo, hi')]).length (cellsR (interR l [(lo, hi')])) ∧ Kp w w' := by
  have C := Lib.hid (fun t => meet_any v (.slice (some ⟨w.heap.size, 0, none⟩) 1 1) l [(lo, hi')] (w.alloc (.cells #[.int .i64 lo, .int .i64 hi'] t)) (hv.kp (Kp.alloc _ _)) (lit_at w [(lo, hi')] _ _ rfl (by simp [maxLen])) hl hi64 hn (by simp))
  clear hv hl
  go_enter Tryz.func124, Tryz.ntmps124
  go_wp2_with fail
  refine (C.out _).mono ?_
  rintro e w1 ⟨v1, rfl, own1, kk⟩
  have O := Lib.hid own1
  have K := Lib.hid kk
  clear own1 kk C
  go_wp2
  go_ret
  exact ⟨_, rfl, own_mono O.out (by simp), (Kp.alloc _ _).trans K.out⟩
end Go.Proofs.YtjdnejglapnbbaaGreatDoor

namespace Go.Proofs.YtjdnejglapnbbaaGreatDoor
set_option linter.unusedVariables false
set_option linter.unusedSimpArgs false
theorem sane_pw {l : List R} : sane l ↔ (∀ r ∈ l, okR r) ∧ l.Pairwise (fun a b => a.2 + 1 < b.1) := by
  induction l with
  | nil => simp [sane]
  | cons r t ih =>
    constructor
    · intro h
      have g := ih.1 (sane_tail h)
      refine ⟨fun q hq => ?_, List.pairwise_cons.2 ⟨fun b hb => ?_, g.2⟩⟩
      · rcases List.mem_cons.1 hq with e | e
        · subst e; exact sane_head h
        · exact g.1 q e
      · obtain ⟨o1, o2, o3⟩ := g.1 b hb
        exact sane_beyond h b.1 ⟨b, hb, Int.le_refl _, o1, o2, by omega⟩
    · rintro ⟨h1, h2⟩
      have h3 := List.pairwise_cons.1 h2
      exact sane_cons (h1 r (by simp)) (fun s t' e => h3.1 s (by rw [e]; simp)) (ih.2 ⟨fun q hq => h1 q (by simp [hq]), h3.2⟩)
end Go.Proofs.YtjdnejglapnbbaaGreatDoor
