import Derived.Test.YtjdnejglapnbbaaGreatDoorRlS
import Derived.Test.YtjdnejglapnbbaaGreatDoorRlL
import Derived.Test.YtjdnejglapnbbaaGreatDoorRlH
namespace Go.Proofs.YtjdnejglapnbbaaGreatDoor
open Go.RowKit
set_option linter.unusedVariables false
set_option linter.unusedSimpArgs false
theorem pr_bd {L : List R} (h : prOk (memP L)) : ∀ r ∈ L, 0 ≤ r.1 ∧ r.1 ≤ 4000000 ∧ 0 ≤ r.2 ∧ r.2 ≤ 4000000 := by
 rintro ⟨S, T⟩ hr
 have := h S T hr
 simp only
 omega
theorem askQ_any (v u : Value) (L M : List R) (m : Nat) (w : World) (hv : RunsAt w v L) (hu : RunsAt w u M) (hm : m < 8192) (hL : prOk (memP L)) (hM : prOk (memP M)) (nL : L.length ≤ 1000000) (nM : M.length ≤ 1000000) (rM : riseP M) :
  Calls Tryz.prog 90 #[v, .iface 118 u, .int .i64 m] w fun e w' => ∃ m' : Nat, e = .returned (.int .i64 m') ∧ m' < 8192 ∧ bitsP m' m (relP (memP L) (memP M)) ∧ Kp w w' := by
 refine (ask_listed (memP M) u v L m w hv hm nL (pr_bd hL) fun b w1 k hb => ?_).mono ?_
 ·obtain ⟨b0, b1, b2, b3⟩ := b
  exact dwithin_any u M b0 b1 b2 b3 w1 (hu.kp k) rM nM hb
 ·rintro e w' ⟨m', rfl, h1, h2, h3⟩
  exact ⟨m', rfl, h1, fun r hr => by rw [h2 r hr, ask_rel hL hM hr]; rfl, h3⟩
theorem askO_any (v va vb : Value) (L : List R) (x : LO) (m : Nat) (w : World) (hv : RunsAt w v L) (ha : RunsAt w va x.2.1) (hb : RunsAt w vb x.2.2) (hm : m < 8192) (hL : prOk (memP L)) (nL : L.length ≤ 1000000) (hx : LsOkP x.1 x.2.1 x.2.2) (na : x.2.1.length ≤ 100000) (nb : x.2.2.length ≤ 100000) :
  Calls Tryz.prog 90 #[v, .iface 111 (.agg #[.bool x.1, va, vb]), .int .i64 m] w fun e w' => ∃ m' : Nat, e = .returned (.int .i64 m') ∧ m' < 8192 ∧ (∀ r, r ≤ 12 → (m'.testBit r = true ↔ m.testBit r = true ∨ ∃ p ∈ L, askP (looP x) r p)) ∧ Kp w w' := by
 refine (ask_loose (looP x) _ v L m w hv hm nL (pr_bd hL) fun b w1 k hbx => ?_)
 obtain ⟨b0, b1, b2, b3⟩ := b
 refine (lwithin_any x.1 va vb x.2.1 x.2.2 b0 b1 b2 b3 w1 (ha.kp k) (hb.kp k) hx.sa hx.sb (by omega) (by omega) hbx).mono ?_
 rintro e w' ⟨rfl, k1⟩
 exact ⟨_, rfl, wiL_iff hx.sa hx.sb _, k1⟩
theorem askO_rel {L : List R} {x : LO} {m m' : Nat} (hL : prOk (memP L)) (hx : LsOkP x.1 x.2.1 x.2.2) (h : ∀ r, r ≤ 12 → (m'.testBit r = true ↔ m.testBit r = true ∨ ∃ p ∈ L, askP (looP x) r p)) : bitsP m' m (relP (memP L) (looP x)) :=
 fun r hr => by rw [h r hr]; exact or_congr Iff.rfl (ask_rel hL (ls_ok hx) hr)
theorem askE_rel {x y : LO} {m m' : Nat} (hx : LsOkP x.1 x.2.1 x.2.2) (hy : LsOkP y.1 y.2.1 y.2.2) (h : ∀ r, r ≤ 12 → (m'.testBit r = true ↔ m.testBit r = true ∨ ∃ p ∈ exPs x.1 x.2.1 x.2.2 y.2.1 y.2.2, askP (looP y) r p)) : bitsP m' m (relP (looP x) (looP y)) :=
 fun r hr => by rw [h r hr]; exact or_congr Iff.rfl (ask_ex hx hy hr)
theorem bits_next {m m' m0 : Nat} {X : Nat → Nat → Prop} {k : Nat} (h : bitsP m m0 fun r => ∃ i, i < k ∧ X i r) (g : bitsP m' m (X k)) : bitsP m' m0 fun r => ∃ i, i < k + 1 ∧ X i r := by
 intro r hr
 rw [g r hr, h r hr, or_assoc]
 refine or_congr Iff.rfl ⟨?_, ?_⟩
 ·rintro (⟨i, hi, x⟩ | x)
  ·exact ⟨i, by omega, x⟩
  ·exact ⟨k, by omega, x⟩
 ·rintro ⟨i, hi, x⟩
  by_cases e : i = k
  ·subst e; exact .inr x
  ·exact .inl ⟨i, by omega, x⟩
theorem bits_none (m : Nat) (X : Nat → Nat → Prop) : bitsP m m fun r => ∃ i, i < 0 ∧ X i r := fun r _ => ⟨.inl, fun h => h.elim id fun ⟨i, hi, _⟩ => absurd hi (by omega)⟩
theorem bits_trans {m m1 m2 : Nat} {X Y : Nat → Prop} (h : bitsP m1 m X) (g : bitsP m2 m1 Y) : bitsP m2 m fun r => X r ∨ Y r := fun r hr => by rw [g r hr, h r hr, or_assoc]
theorem bits_congr {m m' : Nat} {X Y : Nat → Prop} (h : bitsP m' m X) (e : ∀ r, r ≤ 12 → (X r ↔ Y r)) : bitsP m' m Y := fun r hr => by rw [h r hr, e r hr]
def lsN (F : FdD) (i : Nat) : List R := F.ls.getD i []
def loN (F : FdD) (i : Nat) : LO := F.lo.getD i (false, [], [])
theorem relP_split (P : Int → Int → Prop) (F : FdD) (r : Nat) : relP P (fdP F) r ↔ (∃ i, i < F.ls.length ∧ relP P (memP (lsN F i)) r) ∨ ∃ i, i < F.lo.length ∧ relP P (looP (loN F i)) r := by
 constructor
 ·rintro ⟨S, T, S', T', hp, hq, h⟩
  rcases (fdP_iff F S' T').1 hq with ⟨i, hi, g⟩ | ⟨i, hi, g⟩
  ·exact .inl ⟨i, hi, S, T, S', T', hp, g, h⟩
  ·exact .inr ⟨i, hi, S, T, S', T', hp, g, h⟩
 ·rintro (⟨i, hi, S, T, S', T', hp, g, h⟩ | ⟨i, hi, S, T, S', T', hp, g, h⟩)
  ·exact ⟨S, T, S', T', hp, (fdP_iff F S' T').2 (.inl ⟨i, hi, g⟩), h⟩
  ·exact ⟨S, T, S', T', hp, (fdP_iff F S' T').2 (.inr ⟨i, hi, g⟩), h⟩
theorem relP_first (F : FdD) (Q : Int → Int → Prop) (r : Nat) : relP (fdP F) Q r ↔ (∃ i, i < F.ls.length ∧ relP (memP (lsN F i)) Q r) ∨ ∃ i, i < F.lo.length ∧ relP (looP (loN F i)) Q r := by
 constructor
 ·rintro ⟨S, T, S', T', hp, hq, h⟩
  rcases (fdP_iff F S T).1 hp with ⟨i, hi, g⟩ | ⟨i, hi, g⟩
  ·exact .inl ⟨i, hi, S, T, S', T', g, hq, h⟩
  ·exact .inr ⟨i, hi, S, T, S', T', g, hq, h⟩
 ·rintro (⟨i, hi, S, T, S', T', g, hq, h⟩ | ⟨i, hi, S, T, S', T', g, hq, h⟩)
  ·exact ⟨S, T, S', T', (fdP_iff F S T).2 (.inl ⟨i, hi, g⟩), hq, h⟩
  ·exact ⟨S, T, S', T', (fdP_iff F S T).2 (.inr ⟨i, hi, g⟩), hq, h⟩
end Go.Proofs.YtjdnejglapnbbaaGreatDoor
