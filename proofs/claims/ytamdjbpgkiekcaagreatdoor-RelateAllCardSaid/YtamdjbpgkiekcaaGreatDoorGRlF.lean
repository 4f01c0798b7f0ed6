import Derived.Test.YtamdjbpgkiekcaaGreatDoorGRlE
import Derived.Test.YtamdjbpgkiekcaaGreatDoorGRlC
import Derived.Test.YtamdjbpgkiekcaaGreatDoorGLeafA
import Derived.LoopTactic
import Derived.Test.YtamdjbpgkiekcaaGreatDoorGEnv
import Derived.Test.YtamdjbpgkiekcaaGreatDoorAllenN
import Derived.Test.YtamdjbpgkiekcaaGreatDoorRows
import Derived.Stop.LaidErr
import Derived.Lib.LaidTab
namespace Go.Proofs.YtamdjbpgkiekcaaGreatDoor
open Go.RowKit
set_option linter.unusedVariables false
set_option linter.unusedSimpArgs false
theorem pr_bd {L : List R} (h : prOk (memP L)) : ∀ r ∈ L, 0 ≤ r.1 ∧ r.1 ≤ 4000000 ∧ 0 ≤ r.2 ∧ r.2 ≤ 4000000 := by
 rintro ⟨S, T⟩ hr
 have := h S T hr
 simp only
 omega
theorem askQ_any (v u : Value) (L M : List R) (m : Nat) (w : World) (hv : RunsAt w v L) (hu : RunsAt w u M) (hm : m < 8192) (hL : prOk (memP L)) (hM : prOk (memP M)) (nL : L.length ≤ 1000000) (nM : M.length ≤ 1000000) (rM : riseP M) :
  Calls Tryz.prog 66 #[v, .iface 99 u, .int .i64 m] w fun e w' => ∃ m' : Nat, e = .returned (.int .i64 m') ∧ m' < 8192 ∧ bitsP m' m (relP (memP L) (memP M)) ∧ Kp w w' := by
 refine (ask_listed (memP M) u v L m w hv hm nL (pr_bd hL) fun b w1 k hb => ?_).mono ?_
 ·obtain ⟨b0, b1, b2, b3⟩ := b
  exact dwithin_any u M b0 b1 b2 b3 w1 (hu.kp k) rM nM hb
 ·rintro e w' ⟨m', rfl, h1, h2, h3⟩
  exact ⟨m', rfl, h1, fun r hr => by rw [h2 r hr, ask_rel hL hM hr]; rfl, h3⟩
theorem askO_any (v va vb : Value) (L : List R) (x : LO) (m : Nat) (w : World) (hv : RunsAt w v L) (ha : RunsAt w va x.2.1) (hb : RunsAt w vb x.2.2) (hm : m < 8192) (hL : prOk (memP L)) (nL : L.length ≤ 1000000) (hx : LsOkP x.1 x.2.1 x.2.2) (na : x.2.1.length ≤ 100000) (nb : x.2.2.length ≤ 100000) :
  Calls Tryz.prog 66 #[v, .iface 93 (.agg #[.bool x.1, va, vb]), .int .i64 m] w fun e w' => ∃ m' : Nat, e = .returned (.int .i64 m') ∧ m' < 8192 ∧ (∀ r, r ≤ 12 → (m'.testBit r = true ↔ m.testBit r = true ∨ ∃ p ∈ L, askP (looP x) r p)) ∧ Kp w w' := by
 refine (ask_loose (looP x) _ v L m w hv hm nL (pr_bd hL) fun b w1 k hbx => ?_)
 obtain ⟨b0, b1, b2, b3⟩ := b
 refine (lwithin_any x.1 va vb x.2.1 x.2.2 b0 b1 b2 b3 w1 (ha.kp k) (hb.kp k) hx.sa hx.sb (by omega) (by omega) hbx).mono ?_
 rintro e w' ⟨rfl, k1⟩
 exact ⟨_, rfl, wiL_iff hx.sa hx.sb _, k1⟩
theorem askO_rel {L : List R} {x : LO} {m m' : Nat} (hL : prOk (memP L)) (hx : LsOkP x.1 x.2.1 x.2.2) (h : ∀ r, r ≤ 12 → (m'.testBit r = true ↔ m.testBit r = true ∨ ∃ p ∈ L, askP (looP x) r p)) : bitsP m' m (relP (memP L) (looP x)) :=
 fun r hr => by rw [h r hr]; exact or_congr Iff.rfl (ask_rel hL (ls_ok hx) hr)
theorem askE_rel {x y : LO} {m m' : Nat} (hx : LsOkP x.1 x.2.1 x.2.2) (hy : LsOkP y.1 y.2.1 y.2.2) (h : ∀ r, r ≤ 12 → (m'.testBit r = true ↔ m.testBit r = true ∨ ∃ p ∈ exPs x.1 x.2.1 x.2.2 y.2.1 y.2.2, askP (looP y) r p)) : bitsP m' m (relP (looP x) (looP y)) :=
 fun r hr => by rw [h r hr]; exact or_congr Iff.rfl (ask_ex hx hy hr)
theorem bits_next {m m' m0 : Nat} {X : Nat → Nat → Prop} {k : Nat} (h : bitsP m m0 fun r => ∃ i, i < k ∧ X i r) (g : bitsP m' m (X k)) : bitsP m' m0 fun r => ∃ i, i < k + 1 ∧ X i r := by
 intro r hr
 rw [g r hr, h r hr, or_assoc]
 refine or_congr Iff.rfl ⟨?_, ?_⟩
 ·rintro (⟨i, hi, x⟩ | x)
  ·exact ⟨i, by omega, x⟩
  ·exact ⟨k, by omega, x⟩
 ·rintro ⟨i, hi, x⟩
  by_cases e : i = k
  ·subst e; exact .inr x
  ·exact .inl ⟨i, by omega, x⟩
theorem bits_none (m : Nat) (X : Nat → Nat → Prop) : bitsP m m fun r => ∃ i, i < 0 ∧ X i r := fun r _ => ⟨.inl, fun h => h.elim id fun ⟨i, hi, _⟩ => absurd hi (by omega)⟩
theorem bits_trans {m m1 m2 : Nat} {X Y : Nat → Prop} (h : bitsP m1 m X) (g : bitsP m2 m1 Y) : bitsP m2 m fun r => X r ∨ Y r := fun r hr => by rw [g r hr, h r hr, or_assoc]
theorem bits_congr {m m' : Nat} {X Y : Nat → Prop} (h : bitsP m' m X) (e : ∀ r, r ≤ 12 → (X r ↔ Y r)) : bitsP m' m Y := fun r hr => by rw [h r hr, e r hr]
def lsN (F : FdD) (i : Nat) : List R := F.ls.getD i []
def loN (F : FdD) (i : Nat) : LO := F.lo.getD i (false, [], [])
theorem relP_split (P : Int → Int → Prop) (F : FdD) (r : Nat) : relP P (fdP F) r ↔ (∃ i, i < F.ls.length ∧ relP P (memP (lsN F i)) r) ∨ ∃ i, i < F.lo.length ∧ relP P (looP (loN F i)) r := by
 constructor
 ·rintro ⟨S, T, S', T', hp, hq, h⟩
  rcases (fdP_iff F S' T').1 hq with ⟨i, hi, g⟩ | ⟨i, hi, g⟩
  ·exact .inl ⟨i, hi, S, T, S', T', hp, g, h⟩
  ·exact .inr ⟨i, hi, S, T, S', T', hp, g, h⟩
 ·rintro (⟨i, hi, S, T, S', T', hp, g, h⟩ | ⟨i, hi, S, T, S', T', hp, g, h⟩)
  ·exact ⟨S, T, S', T', hp, (fdP_iff F S' T').2 (.inl ⟨i, hi, g⟩), h⟩
  ·exact ⟨S, T, S', T', hp, (fdP_iff F S' T').2 (.inr ⟨i, hi, g⟩), h⟩
theorem relP_first (F : FdD) (Q : Int → Int → Prop) (r : Nat) : relP (fdP F) Q r ↔ (∃ i, i < F.ls.length ∧ relP (memP (lsN F i)) Q r) ∨ ∃ i, i < F.lo.length ∧ relP (looP (loN F i)) Q r := by
 constructor
 ·rintro ⟨S, T, S', T', hp, hq, h⟩
  rcases (fdP_iff F S T).1 hp with ⟨i, hi, g⟩ | ⟨i, hi, g⟩
  ·exact .inl ⟨i, hi, S, T, S', T', g, hq, h⟩
  ·exact .inr ⟨i, hi, S, T, S', T', g, hq, h⟩
 ·rintro (⟨i, hi, S, T, S', T', g, hq, h⟩ | ⟨i, hi, S, T, S', T', g, hq, h⟩)
  ·exact ⟨S, T, S', T', (fdP_iff F S T).2 (.inl ⟨i, hi, g⟩), hq, h⟩
  ·exact ⟨S, T, S', T', (fdP_iff F S T).2 (.inr ⟨i, hi, g⟩), hq, h⟩
open Go.RowKit Go.Shelf
theorem flipN_any (m : Nat) (w : World) : Calls Tryz.prog 22 #[.int .i64 m] w fun e w' => e = .returned (.int .i64 ((flN m : Nat) : Int)) ∧ w = w' := by
 rw [← flN_int]
 exact flip_any _ _
theorem SsAt.open' {w : World} {v : Value} {l : List (List R)} (h : SsAt w v l) : ∃ b c, v = .slice (some ⟨b, 0, none⟩) l.length c := by obtain ⟨b, c, e, _⟩ := h; exact ⟨b, c, e⟩
theorem SsAt.at' {w : World} {b c : Nat} {l : List (List R)} (h : SsAt w (.slice (some ⟨b, 0, none⟩) l.length c) l) {i : Nat} (hi : i < l.length) : ∃ ad cp, w.cell? ⟨b, i, none⟩ = some (.slice ad (l.getD i []).length cp) ∧ RunsAt w (.slice ad (l.getD i []).length cp) (l.getD i []) := by
 obtain ⟨b', c', e, g⟩ := h
 cases e
 obtain ⟨u, h1, h2⟩ := g i hi
 obtain ⟨ad, cp, rfl⟩ := h2.slice
 exact ⟨ad, cp, h1, h2⟩
theorem LooAt.slice {w : World} {v : Value} {l : List LO} (h : LooAt w v l) : ∃ ad c, v = .slice ad l.length c := by
 rcases h with ⟨c, rfl, rfl⟩ | ⟨b, c, e, _⟩
 ·exact ⟨_, _, rfl⟩
 ·exact ⟨_, _, e⟩
theorem LooAt.at' {w : World} {ad : Option Addr} {c : Nat} {l : List LO} (h : LooAt w (.slice ad l.length c) l) {i : Nat} (hi : i < l.length) : ∃ b, ad = some ⟨b, 0, none⟩ ∧ ∃ aa ca ab cb, w.cell? ⟨b, i * 3, none⟩ = some (.bool (l.getD i (false, [], [])).1) ∧ w.cell? ⟨b, i * 3 + 1, none⟩ = some (.slice aa (l.getD i (false, [], [])).2.1.length ca) ∧ w.cell? ⟨b, i * 3 + 2, none⟩ = some (.slice ab (l.getD i (false, [], [])).2.2.length cb) ∧ RunsAt w (.slice aa (l.getD i (false, [], [])).2.1.length ca) (l.getD i (false, [], [])).2.1 ∧ RunsAt w (.slice ab (l.getD i (false, [], [])).2.2.length cb) (l.getD i (false, [], [])).2.2 := by
 rcases h with ⟨c, e, rfl⟩ | ⟨b, c', e, g⟩
 ·simp at hi
 ·cases e
  obtain ⟨ua, ub, h1, h2, h3, h4, h5⟩ := g i hi
  obtain ⟨aa, ca, rfl⟩ := h4.slice
  obtain ⟨ab, cb, rfl⟩ := h5.slice
  exact ⟨b, rfl, aa, ca, ab, cb, h1, h2, h3, h4, h5⟩
theorem exPs_len (d : Bool) (A B C D : List R) : (exPs d A B C D).length ≤ 1000000 := by
 have h1 := edg_len [interR (interR A C) (interR B D)]
 have h2 := edg_len [A, interR A C, interR A [(leastR C + 1, 3652424)], interR A (nf (shR 1 1 D))]
 have h3 := edg_len [B, interR B D, interR B [(0, greatR D - 1)], interR B (nf (shR (-1) (-1) C))]
 simp only [List.length_cons, List.length_nil] at h1 h2 h3
 have a : (exSt A B C D).length ≤ 10 := by unfold exSt exS1; rw [List.length_append]; omega
 have b : (exEn A B C D).length ≤ 10 := by unfold exEn exS1; rw [List.length_append]; omega
 unfold exPs
 split
 ·rw [List.length_map, List.length_append]; omega
 ·have h4 := pairs_len (exSt A B C D) (exEn A B C D)
  have h5 := Nat.mul_le_mul a b
  exact Nat.le_trans h4 (Nat.le_trans h5 (by omega))
theorem SsAt.atN {w : World} {b c : Nat} {F : FdD} (h : SsAt w (.slice (some ⟨b, 0, none⟩) F.ls.length c) F.ls) {i : Nat} (hi : i < F.ls.length) : ∃ ad cp, w.cell? ⟨b, i, none⟩ = some (.slice ad (lsN F i).length cp) ∧ RunsAt w (.slice ad (lsN F i).length cp) (lsN F i) := h.at' hi
theorem LooAt.atN {w : World} {ad : Option Addr} {c : Nat} {F : FdD} (h : LooAt w (.slice ad F.lo.length c) F.lo) {i : Nat} (hi : i < F.lo.length) : ∃ b, ad = some ⟨b, 0, none⟩ ∧ ∃ aa ca ab cb, w.cell? ⟨b, i * 3, none⟩ = some (.bool (loN F i).1) ∧ w.cell? ⟨b, i * 3 + 1, none⟩ = some (.slice aa (loN F i).2.1.length ca) ∧ w.cell? ⟨b, i * 3 + 2, none⟩ = some (.slice ab (loN F i).2.2.length cb) ∧ RunsAt w (.slice aa (loN F i).2.1.length ca) (loN F i).2.1 ∧ RunsAt w (.slice ab (loN F i).2.2.length cb) (loN F i).2.2 := h.at' hi
theorem examplesR (d d' : Bool) (A B C D : List R) (va vb vc vd : Value) (w : World) (ha : RunsAt w va A) (hb : RunsAt w vb B) (hc : RunsAt w vc C) (hd : RunsAt w vd D) (H : LsOkP d A B) (H' : LsOkP d' C D)
  (nA : A.length ≤ 100000) (nB : B.length ≤ 100000) (nC : C.length ≤ 100000) (nD : D.length ≤ 100000) :
  Calls Tryz.prog 67 #[.agg #[.bool d, va, vb], .agg #[.bool d', vc, vd]] w fun e w' => ∃ v', e = .returned v' ∧ RunsAt w' v' (exPs d A B C D) ∧ Kp w w' :=
 (examples_any d d' A B C D va vb vc vd w ha hb hc hd H H' nA nB nC nD).mono fun e w' ⟨v', he, ho, hk⟩ => ⟨v', he, ho.runs, hk⟩
abbrev btA0 : Oper := { dst := some 66, op := Go.Op.move (Go.Operand.tmp 15), type := 99, pos := "relate.go:50", after := #[], guard := none }
abbrev btA1 : Oper := { dst := some 67, op := Go.Op.load 93 (Go.Operand.tmp 13), type := 93, pos := "relate.go:50", after := #[], guard := none }
abbrev btA2 : Oper := { dst := some 68, op := Go.Op.makeInterface 93 (Go.Operand.tmp 67), type := 139, pos := "relate.go:50", after := #[{ on := 1, ground := Go.Ground.data }], guard := none }
abbrev btA3 : Oper := { dst := some 69, op := Go.Op.move (Go.Operand.tmp 5), type := 3, pos := "relate.go:50", after := #[], guard := none }
abbrev btA4 : Oper := { dst := some 70, op := Go.Op.call { callee := Go.Callee.value (Go.Operand.func 22), args := #[Go.Operand.tmp 69], argTypes := #[3] }, type := 3, pos := "relate.go:50", after := #[{ on := 3, ground := Go.Ground.data }], guard := none }
abbrev btA5 : Oper := { dst := some 71, op := Go.Op.call { callee := Go.Callee.value (Go.Operand.func 66), args := #[Go.Operand.tmp 66, Go.Operand.tmp 68, Go.Operand.tmp 70], argTypes := #[30, 139, 3] }, type := 3, pos := "relate.go:50", after := #[{ on := 0, ground := Go.Ground.data }, { on := 2, ground := Go.Ground.data }, { on := 4, ground := Go.Ground.data }, { on := 4, ground := Go.Ground.chain }], guard := none }
abbrev btA6 : Oper := { dst := some 72, op := Go.Op.call { callee := Go.Callee.value (Go.Operand.func 22), args := #[Go.Operand.tmp 71], argTypes := #[3] }, type := 3, pos := "relate.go:50", after := #[{ on := 5, ground := Go.Ground.data }, { on := 5, ground := Go.Ground.chain }], guard := none }
abbrev btA7 : Oper := { dst := some 5, op := Go.Op.assign (Go.Operand.tmp 72), type := 3, pos := "relate.go:50", after := #[{ on := 6, ground := Go.Ground.data }, { on := 6, ground := Go.Ground.chain }, { on := 0, ground := Go.Ground.phase }, { on := 1, ground := Go.Ground.phase }, { on := 2, ground := Go.Ground.phase }, { on := 3, ground := Go.Ground.phase }, { on := 4, ground := Go.Ground.phase }, { on := 5, ground := Go.Ground.phase }, { on := 6, ground := Go.Ground.phase }], guard := none }
abbrev btB0 : Oper := { dst := some 81, op := Go.Op.load 93 (Go.Operand.tmp 13), type := 93, pos := "relate.go:53", after := #[], guard := none }
abbrev btB1 : Oper := { dst := some 82, op := Go.Op.load 93 (Go.Operand.tmp 17), type := 93, pos := "relate.go:53", after := #[], guard := none }
abbrev btB2 : Oper := { dst := some 83, op := Go.Op.call { callee := Go.Callee.value (Go.Operand.func 67), args := #[Go.Operand.tmp 81, Go.Operand.tmp 82], argTypes := #[93, 93] }, type := 30, pos := "relate.go:53", after := #[{ on := 0, ground := Go.Ground.data }, { on := 1, ground := Go.Ground.data }], guard := none }
abbrev btB3 : Oper := { dst := some 84, op := Go.Op.load 93 (Go.Operand.tmp 17), type := 93, pos := "relate.go:53", after := #[], guard := none }
abbrev btB4 : Oper := { dst := some 85, op := Go.Op.makeInterface 93 (Go.Operand.tmp 84), type := 139, pos := "relate.go:53", after := #[{ on := 3, ground := Go.Ground.data }], guard := none }
abbrev btB5 : Oper := { dst := some 86, op := Go.Op.move (Go.Operand.tmp 5), type := 3, pos := "relate.go:53", after := #[], guard := none }
abbrev btB6 : Oper := { dst := some 87, op := Go.Op.call { callee := Go.Callee.value (Go.Operand.func 66), args := #[Go.Operand.tmp 83, Go.Operand.tmp 85, Go.Operand.tmp 86], argTypes := #[30, 139, 3] }, type := 3, pos := "relate.go:53", after := #[{ on := 2, ground := Go.Ground.data }, { on := 4, ground := Go.Ground.data }, { on := 5, ground := Go.Ground.data }, { on := 2, ground := Go.Ground.chain }], guard := none }
abbrev btB7 : Oper := { dst := some 5, op := Go.Op.assign (Go.Operand.tmp 87), type := 3, pos := "relate.go:53", after := #[{ on := 6, ground := Go.Ground.data }, { on := 6, ground := Go.Ground.chain }, { on := 0, ground := Go.Ground.phase }, { on := 1, ground := Go.Ground.phase }, { on := 2, ground := Go.Ground.phase }, { on := 3, ground := Go.Ground.phase }, { on := 4, ground := Go.Ground.phase }, { on := 5, ground := Go.Ground.phase }, { on := 6, ground := Go.Ground.phase }], guard := none }
set_option maxHeartbeats 16000000 in
set_option maxRecDepth 100000 in
theorem between_any (fa fb : Value) (F G : FdD) (w : World) (ha : FdAt w fa F) (hb : FdAt w fb G) (oF : FdOk F) (oG : FdOk G) :
  Calls Tryz.prog 33 #[fa, fb] w fun e w' => ∃ m : Nat, e = .returned (.int .i64 m) ∧ m < 8192 ∧ bitsP m 0 (relP (fdP F) (fdP G)) ∧ Kp w w' := by
 obtain ⟨va, vo, rfl, sa, la⟩ := ha
 obtain ⟨vb, vp, rfl, sb, lb⟩ := hb
 obtain ⟨b1, c1, rfl⟩ := sa.open'
 obtain ⟨b2, c2, rfl⟩ := sb.open'
 obtain ⟨a1, d1, rfl⟩ := la.slice
 obtain ⟨a2, d2, rfl⟩ := lb.slice
 obtain ⟨W0, hW⟩ : ∃ x, x = (w.alloc (.cells #[.slice (some ⟨b1, 0, none⟩) F.ls.length c1, .slice a1 F.lo.length d1] 57)).alloc (.cells #[.slice (some ⟨b2, 0, none⟩) G.ls.length c2, .slice a2 G.lo.length d2] 57) := ⟨_, rfl⟩
 have ka : Kp w W0 := by rw [hW]; exact (Kp.alloc _ _).trans (Kp.alloc _ _)
 have gf : W0.heap[w.heap.size]? = some (.cells #[.slice (some ⟨b1, 0, none⟩) F.ls.length c1, .slice a1 F.lo.length d1] 57 (0, 0)) := by rw [hW]; exact heap_block (Kp.alloc _ _) (heap_at _ _ _ rfl)
 have gg : W0.heap[w.heap.size + 1]? = some (.cells #[.slice (some ⟨b2, 0, none⟩) G.ls.length c2, .slice a2 G.lo.length d2] 57 (0, 0)) := by rw [hW]; exact heap_at _ _ _ (by simp)
 have HB := Lib.hid (fun w' (kq : Kp W0 w') => And.intro (row2 (heap_block kq gf)) (row2 (heap_block kq gg)))
 have SA := Lib.hid (sa.kp ka)
 have SB := Lib.hid (sb.kp ka)
 have LA := Lib.hid (la.kp ka)
 have LB := Lib.hid (lb.kp ka)
 have OF := Lib.hid oF
 have OG := Lib.hid oG
 have KA := Lib.hid ka
 have HW := Lib.hid hW
 have f1 := oF.n1
 have f2 := oF.n2
 have g1 := oG.n1
 have g2 := oG.n2
 have PG := Lib.hid (fdOk_pr oG)
 clear sa sb la lb oF oG ka hW gf gg
 go_enter Tryz.func33, Tryz.ntmps33
 go_wp2_with fail
 rw [← HW.out]
 obtain ⟨⟨e1, e2⟩, e3, e4⟩ := HB.out W0 (Kp.refl _)
 go_loopw [5, 21] (fun f i wr => ∃ qk qm : Nat, qk ≤ F.ls.length ∧ f = .int .i64 qm ∧ i = .int .i64 qk ∧ Hid (qm < 8192) ∧ Hid (bitsP qm 0 fun r => ∃ i, i < qk ∧ relP (memP (lsN F i)) (fdP G) r) ∧ Hid (Kp W0 wr)) (fun _ i _ => F.ls.length - (intOf i).toNat)
 case atStart => exact ⟨0, 0, Nat.zero_le _, rfl, rfl, Lib.hid (by decide), bits_none _ _, Lib.hid (Kp.refl _)⟩
 case round =>
  obtain ⟨k, m, hk, rfl, rfl, M, B0, K1⟩ := hrel
  obtain ⟨wo, hwq⟩ : ∃ x, x = wr := ⟨_, rfl⟩
  subst hwq
  by_cases ltL : k < F.ls.length
  ·have q1 : decide ((k : Int) < ((F.ls.length : Nat) : Int)) = true := decide_eq_true (by omega)
   obtain ⟨adL, cpL, cL, rL⟩ := (SA.out.kp K1.out).atN ltL
   have pL := Lib.hid (show prOk (memP (lsN F k)) from OF.out.ok _ (getD_in (d := []) ltL))
   have nL := (show (lsN F k).length ≤ 1000000 from OF.out.len _ (getD_in (d := []) ltL))
   have iL := Lib.hid (show riseP (lsN F k) from OF.out.rise _ (getD_in (d := []) ltL))
   have z1 : (0 : Int) ≤ (k : Int) := by omega
   have LtL := Lib.hid ltL
   clear e1 e2 e3 e4
   obtain ⟨⟨e1, e2⟩, e3, e4⟩ := HB.out wo K1.out
   go_wp2
   go_loopw [5, 28] (fun f i wr => ∃ qk qm : Nat, qk ≤ G.ls.length ∧ f = .int .i64 qm ∧ i = .int .i64 qk ∧ Hid (qm < 8192) ∧ Hid (bitsP qm m fun r => ∃ i, i < qk ∧ relP (memP (lsN F k)) (memP (lsN G i)) r) ∧ Hid (Kp wo wr)) (fun _ i _ => G.ls.length - (intOf i).toNat)
   case atStart => exact ⟨0, m, Nat.zero_le _, rfl, rfl, M, bits_none _ _, Lib.hid (Kp.refl _)⟩
   case round =>
    obtain ⟨j, mj, hj, rfl, rfl, MJ, BJ, KJ⟩ := hrel
    obtain ⟨wi, hwq⟩ : ∃ x, x = wr := ⟨_, rfl⟩
    subst hwq
    by_cases ltM : j < G.ls.length
    ·have q2 : decide ((j : Int) < ((G.ls.length : Nat) : Int)) = true := decide_eq_true (by omega)
     obtain ⟨adM, cpM, cM, rM⟩ := (SB.out.kp (K1.out.trans KJ.out)).atN ltM
     have pM := Lib.hid (show prOk (memP (lsN G j)) from OG.out.ok _ (getD_in (d := []) ltM))
     have nM := (show (lsN G j).length ≤ 1000000 from OG.out.len _ (getD_in (d := []) ltM))
     have iM := Lib.hid (show riseP (lsN G j) from OG.out.rise _ (getD_in (d := []) ltM))
     have rL2 := rL.kp KJ.out
     have CQ := Lib.hid (askQ_any _ _ _ _ mj wi rL2 rM MJ.out pL.out pM.out nL nM iM.out)
     have z3 : (0 : Int) ≤ (j : Int) := by omega
     have LtM := Lib.hid ltM
     clear rL2 rM
     go_wp2_with fail
     refine CQ.out.mono ?_
     rintro e w2 ⟨m2, rfl, h1, h2, h3⟩
     have M2 := Lib.hid h1
     have B2 := Lib.hid (bits_next BJ.out h2)
     have K2 := Lib.hid (KJ.out.trans h3)
     clear h1 h2 h3 CQ cM
     go_wp2
     go_roundw
     case rel => exact ⟨j + 1, m2, by have := LtM.out; omega, by go_num, by go_num, M2, B2, K2⟩
     case measure => have := LtM.out; simp [intOf]; omega
    ·have q2 : decide ((j : Int) < ((G.ls.length : Nat) : Int)) = false := decide_eq_false (by omega)
     have eej : j = G.ls.length := by omega
     subst eej
     have B1 := BJ
     have KK := Lib.hid (K1.out.trans KJ.out)
     clear e1 e2 e3 e4
     obtain ⟨⟨e1, e2⟩, e3, e4⟩ := HB.out wi KK.out
     have rL2 := Lib.hid (rL.kp KJ.out)
     clear q2
     go_wp2
     go_loopw [5, 41] (fun f i wr => ∃ qk qm : Nat, qk ≤ G.lo.length ∧ f = .int .i64 qm ∧ i = .int .i64 qk ∧ Hid (qm < 8192) ∧ Hid (bitsP qm mj fun r => ∃ i, i < qk ∧ relP (memP (lsN F k)) (looP (loN G i)) r) ∧ Hid (Kp wi wr)) (fun _ i _ => G.lo.length - (intOf i).toNat)
     case atStart => exact ⟨0, mj, Nat.zero_le _, rfl, rfl, MJ, bits_none _ _, Lib.hid (Kp.refl _)⟩
     case round =>
      obtain ⟨x, mx, hx, rfl, rfl, MX, BX, KX⟩ := hrel
      obtain ⟨wx, hwq⟩ : ∃ x, x = wr := ⟨_, rfl⟩
      subst hwq
      by_cases ltX : x < G.lo.length
      ·have q3 : decide ((x : Int) < ((G.lo.length : Nat) : Int)) = true := decide_eq_true (by omega)
       have HX := Lib.hid (show LsOkP (loN G x).1 (loN G x).2.1 (loN G x).2.2 ∧ (loN G x).2.1.length ≤ 100000 ∧ (loN G x).2.2.length ≤ 100000 from OG.out.lo _ (getD_in (d := (false, [], [])) ltX))
       obtain ⟨bx, hax, a1x, l1x, a2x, l2x, xc0, xc1, xc2, rxa, rxb⟩ := (LB.out.kp (KK.out.trans KX.out)).atN ltX
       subst hax
       have yx : (0 : Int) ≤ (x : Int) := by omega
       generalize hgx : loN G x = qx at HX xc0 xc1 xc2 rxa rxb
       have Gx := Lib.hid hgx
       clear hgx
       have CQ := Lib.hid (fun W1 (kq : Kp wx W1) => askO_any _ _ _ _ qx mx W1 (rL2.out.kp (KX.out.trans kq)) (rxa.kp kq) (rxb.kp kq) MX.out pL.out nL HX.out.1 HX.out.2.1 HX.out.2.2)
       obtain ⟨V, hV⟩ : ∃ q, q = wx.alloc (.cells #[.bool qx.1, .slice a1x qx.2.1.length l1x, .slice a2x qx.2.2.length l2x] 93) := ⟨_, rfl⟩
       have kv : Kp wx V := by rw [hV]; exact Kp.alloc _ _
       have gv : V.heap[wx.heap.size]? = some (.cells #[.bool qx.1, .slice a1x qx.2.1.length l1x, .slice a2x qx.2.2.length l2x] 93 (0, 0)) := by rw [hV]; exact heap_at _ _ _ rfl
       have BV := Lib.hid (fun w' (kq : Kp V w') => row3 (heap_block kq gv))
       have KV := Lib.hid kv
       have HV := Lib.hid hV
       clear hV kv gv
       have LtX := Lib.hid ltX
       clear rxa rxb
       go_upto_region 13 with fail
       rw [← HV.out]
       clear HV xc0 xc1 xc2
       obtain ⟨v0, v1, v2⟩ := BV.out V (Kp.refl _)
       go_wp2_with fail
       refine (CQ.out _ KV.out).mono ?_
       rintro e w2 ⟨m2, rfl, h1, h2, h3⟩
       have M2 := Lib.hid h1
       have B2 := Lib.hid (bits_next BX.out (by rw [Gx.out]; exact askO_rel pL.out HX.out.1 h2))
       have K2 := Lib.hid (KX.out.trans (KV.out.trans h3))
       clear h1 h2 h3 CQ v0 v1 v2
       go_wp2
       go_roundw
       case rel => exact ⟨x + 1, m2, by have := LtX.out; omega, by go_num, by go_num, M2, B2, K2⟩
       case measure => have := LtX.out; simp [intOf]; omega
      ·have q3 : decide ((x : Int) < ((G.lo.length : Nat) : Int)) = false := decide_eq_false (by omega)
       have eex : x = G.lo.length := by omega
       subst eex
       have BE := Lib.hid (bits_next B0.out (bits_congr (bits_trans B1.out BX.out) fun r _ => (relP_split _ G r).symm))
       have KE := Lib.hid (K1.out.trans (KJ.out.trans KX.out))
       go_wp2
       go_roundw
       case rel => exact ⟨k + 1, mx, by have := LtL.out; omega, by go_num, by go_num, MX, BE, KE⟩
       case measure => have := LtL.out; simp [intOf]; omega
  ·have q1 : decide ((k : Int) < ((F.ls.length : Nat) : Int)) = false := decide_eq_false (by omega)
   have eek : k = F.ls.length := by omega
   subst eek
   clear e1 e2 e3 e4
   obtain ⟨⟨e1, e2⟩, e3, e4⟩ := HB.out wo K1.out
   clear q1
   go_wp2
   go_loopw [5, 55] (fun f i wr => ∃ qk qm : Nat, qk ≤ F.lo.length ∧ f = .int .i64 qm ∧ i = .int .i64 qk ∧ Hid (qm < 8192) ∧ Hid (bitsP qm m fun r => ∃ i, i < qk ∧ relP (looP (loN F i)) (fdP G) r) ∧ Hid (Kp wo wr)) (fun _ i _ => F.lo.length - (intOf i).toNat)
   case atStart => exact ⟨0, m, Nat.zero_le _, rfl, rfl, M, bits_none _ _, Lib.hid (Kp.refl _)⟩
   case round =>
    obtain ⟨p, mp, hp, rfl, rfl, MP, BP, KP⟩ := hrel
    obtain ⟨wp, hwq⟩ : ∃ x, x = wr := ⟨_, rfl⟩
    subst hwq
    by_cases ltP : p < F.lo.length
    ·have q4 : decide ((p : Int) < ((F.lo.length : Nat) : Int)) = true := decide_eq_true (by omega)
     have HP := Lib.hid (show LsOkP (loN F p).1 (loN F p).2.1 (loN F p).2.2 ∧ (loN F p).2.1.length ≤ 100000 ∧ (loN F p).2.2.length ≤ 100000 from OF.out.lo _ (getD_in (d := (false, [], [])) ltP))
     obtain ⟨bp, hap, a1p, l1p, a2p, l2p, pc0, pc1, pc2, rpa, rpb⟩ := (LA.out.kp (K1.out.trans KP.out)).atN ltP
     subst hap
     have yp : (0 : Int) ≤ (p : Int) := by omega
     generalize hgp : loN F p = qp at HP pc0 pc1 pc2 rpa rpb
     have Gp := Lib.hid hgp
     clear hgp
     have RA := Lib.hid (fun W1 (kq : Kp wp W1) => And.intro (rpa.kp kq) (rpb.kp kq))
     obtain ⟨V, hV⟩ : ∃ q, q = wp.alloc (.cells #[.bool qp.1, .slice a1p qp.2.1.length l1p, .slice a2p qp.2.2.length l2p] 93) := ⟨_, rfl⟩
     have kv : Kp wp V := by rw [hV]; exact Kp.alloc _ _
     have gv : V.heap[wp.heap.size]? = some (.cells #[.bool qp.1, .slice a1p qp.2.1.length l1p, .slice a2p qp.2.2.length l2p] 93 (0, 0)) := by rw [hV]; exact heap_at _ _ _ rfl
     have BV := Lib.hid (fun w' (kq : Kp V w') => row3 (heap_block kq gv))
     have KV := Lib.hid kv
     have HV := Lib.hid hV
     clear hV kv gv
     have LtP := Lib.hid ltP
     have KPP := Lib.hid (K1.out.trans (KP.out.trans KV.out))
     clear rpa rpb e1 e2 e3 e4
     obtain ⟨⟨e1, e2⟩, e3, e4⟩ := HB.out wp (K1.out.trans KP.out)
     go_upto_region 19 with fail
     rw [← HV.out]
     clear HV pc0 pc1 pc2 e1 e2 e3 e4
     obtain ⟨⟨e1, e2⟩, e3, e4⟩ := HB.out V KPP.out
     go_wp2
     go_loopw [5, 62] (fun f i wr => ∃ qk qm : Nat, qk ≤ G.ls.length ∧ f = .int .i64 qm ∧ i = .int .i64 qk ∧ Hid (qm < 8192) ∧ Hid (bitsP qm mp fun r => ∃ i, i < qk ∧ relP (looP (loN F p)) (memP (lsN G i)) r) ∧ Hid (Kp V wr)) (fun _ i _ => G.ls.length - (intOf i).toNat)
     case atStart => exact ⟨0, mp, Nat.zero_le _, rfl, rfl, MP, bits_none _ _, Lib.hid (Kp.refl _)⟩
     case round =>
      obtain ⟨j, mj, hj, rfl, rfl, MJ, BJ, KJ⟩ := hrel
      obtain ⟨wi, hwq⟩ : ∃ x, x = wr := ⟨_, rfl⟩
      subst hwq
      by_cases ltM : j < G.ls.length
      ·have q5 : decide ((j : Int) < ((G.ls.length : Nat) : Int)) = true := decide_eq_true (by omega)
       obtain ⟨adM, cpM, cM, rM⟩ := (SB.out.kp (KPP.out.trans KJ.out)).atN ltM
       have pM := Lib.hid (show prOk (memP (lsN G j)) from OG.out.ok _ (getD_in (d := []) ltM))
       have nM := (show (lsN G j).length ≤ 1000000 from OG.out.len _ (getD_in (d := []) ltM))
       have iM := Lib.hid (show riseP (lsN G j) from OG.out.rise _ (getD_in (d := []) ltM))
       have z3 : (0 : Int) ≤ (j : Int) := by omega
       have CQ := Lib.hid (fun W1 (kq : Kp wi W1) => askO_any _ _ _ _ qp (flN mj) W1 (rM.kp kq) (RA.out W1 (KV.out.trans (KJ.out.trans kq))).1 (RA.out W1 (KV.out.trans (KJ.out.trans kq))).2 (flN_lt mj) pM.out nM HP.out.1 HP.out.2.1 HP.out.2.2)
       have LtM := Lib.hid ltM
       have KS := Lib.hid (fun w' (kq : Kp wi w') => show w'.cell? ⟨wp.heap.size, 0, none⟩ = some (.bool qp.1) ∧ w'.cell? ⟨wp.heap.size, 1, none⟩ = some (.slice a1p qp.2.1.length l1p) ∧ w'.cell? ⟨wp.heap.size, 2, none⟩ = some (.slice a2p qp.2.2.length l2p) ∧ Kp wi w' from ⟨(BV.out w' (KJ.out.trans kq)).1, (BV.out w' (KJ.out.trans kq)).2.1, (BV.out w' (KJ.out.trans kq)).2.2, kq⟩)
       have k00 : Kp wi wi := Kp.refl _
       clear rM
       go_upto_region 22 with fail
       clear cM
       refine wp_region_held_drew (S := fun w' => w'.cell? ⟨wp.heap.size, 0, none⟩ = some (.bool qp.1) ∧ w'.cell? ⟨wp.heap.size, 1, none⟩ = some (.slice a1p qp.2.1.length l1p) ∧ w'.cell? ⟨wp.heap.size, 2, none⟩ = some (.slice a2p qp.2.2.length l2p) ∧ Kp wi w') (by kernel_rfl) ?_ (fun hHeld0 => ?_)
       ·(try dsimp only); exact KS.out _ (by first | with_reducible exact k00 | ((repeat (first | with_reducible refine Kp.trans ?_ (Kp.drew _) | with_reducible refine Kp.trans ?_ (Kp.alloc _ _))); with_reducible exact k00))
       refine tkv 0 btA0 ?_
       (try simp only [Act.put, btA0, List.setIfInBounds_toArray, List.set_cons_zero, List.set_cons_succ])
       refine tkv 1 btA1 ?_
       (try simp only [Act.put, btA1, List.setIfInBounds_toArray, List.set_cons_zero, List.set_cons_succ])
       refine tkv 2 btA2 ?_
       (try simp only [Act.put, btA2, List.setIfInBounds_toArray, List.set_cons_zero, List.set_cons_succ])
       refine tkv 3 btA3 ?_
       (try simp only [Act.put, btA3, List.setIfInBounds_toArray, List.set_cons_zero, List.set_cons_succ])
       refine tkE 4 btA4 rfl (by kernel_rfl) (fun K hK => ?_)
       go_simp
       (refine (flipN_any mj _).mono ?_; rintro e w' ⟨rfl, rfl⟩)
       (try go_wp2_with fail)
       refine hK.out _ _ ?_ (fun hHeld1 => ?_)
       ·(try dsimp only); exact KS.out _ (by first | with_reducible exact k00 | ((repeat (first | with_reducible refine Kp.trans ?_ (Kp.drew _) | with_reducible refine Kp.trans ?_ (Kp.alloc _ _))); with_reducible exact k00))
       clear hK K hHeld0
       (try simp only [Act.put, btA4, List.setIfInBounds_toArray, List.set_cons_zero, List.set_cons_succ])
       refine tkE 5 btA5 rfl (by kernel_rfl) (fun K hK => ?_)
       go_simp
       (refine (CQ.out _ (by first | with_reducible exact k00 | ((repeat (first | with_reducible refine Kp.trans ?_ (Kp.drew _) | with_reducible refine Kp.trans ?_ (Kp.alloc _ _))); with_reducible exact k00))).mono ?_; rintro e wy ⟨m2, rfl, h1, h2, kq1⟩; have kky : Kp wi wy := Kp.trans (show Kp wi _ from (by first | with_reducible exact k00 | ((repeat (first | with_reducible refine Kp.trans ?_ (Kp.drew _) | with_reducible refine Kp.trans ?_ (Kp.alloc _ _))); with_reducible exact k00))) kq1; have M2 := Lib.hid h1; have B2 := Lib.hid h2; clear h1 h2; clear kq1)
       (try go_wp2_with fail)
       refine hK.out _ _ ?_ (fun hHeld2 => ?_)
       ·(try dsimp only); exact KS.out _ (by first | with_reducible exact kky | ((repeat (first | with_reducible refine Kp.trans ?_ (Kp.drew _) | with_reducible refine Kp.trans ?_ (Kp.alloc _ _))); with_reducible exact kky))
       clear hK K hHeld1
       (try simp only [Act.put, btA5, List.setIfInBounds_toArray, List.set_cons_zero, List.set_cons_succ])
       refine tkE 6 btA6 rfl (by kernel_rfl) (fun K hK => ?_)
       go_simp
       (refine (flipN_any m2 _).mono ?_; rintro e w' ⟨rfl, rfl⟩)
       (try go_wp2_with fail)
       refine hK.out _ _ ?_ (fun hHeld3 => ?_)
       ·(try dsimp only); exact KS.out _ (by first | with_reducible exact kky | ((repeat (first | with_reducible refine Kp.trans ?_ (Kp.drew _) | with_reducible refine Kp.trans ?_ (Kp.alloc _ _))); with_reducible exact kky))
       clear hK K hHeld2
       (try simp only [Act.put, btA6, List.setIfInBounds_toArray, List.set_cons_zero, List.set_cons_succ])
       refine tkv 7 btA7 ?_
       (try simp only [Act.put, btA7, List.setIfInBounds_toArray, List.set_cons_zero, List.set_cons_succ])
       refine wpAnyH_done (by kernel_rfl) ?_ _
       have B3 := Lib.hid (bits_next BJ.out (by rw [Gp.out]; exact bitsP_turn (ls_ok HP.out.1) pM.out (askO_rel pM.out HP.out.1 B2.out)))
       have K3 := Lib.hid (KJ.out.trans kky)
       have M3 := Lib.hid (flN_lt m2)
       go_wp2
       go_roundw
       case rel => exact ⟨j + 1, flN m2, by have := LtM.out; omega, by go_num, by go_num, M3, B3, Lib.hid (K3.out.trans (by first | with_reducible exact Kp.refl _ | with_reducible exact Kp.alloc _ _ | with_reducible exact (Kp.alloc _ _).trans (Kp.alloc _ _) | with_reducible exact ((Kp.alloc _ _).trans (Kp.alloc _ _)).trans (Kp.alloc _ _) | with_reducible exact Kp.drew _ | with_reducible exact Kp.drewN _ _))⟩
       case measure => have := LtM.out; simp [intOf]; omega
      ·have q5 : decide ((j : Int) < ((G.ls.length : Nat) : Int)) = false := decide_eq_false (by omega)
       have eej : j = G.ls.length := by omega
       subst eej
       have KK := Lib.hid (KPP.out.trans KJ.out)
       clear q5 e1 e2 e3 e4
       obtain ⟨⟨e1, e2⟩, e3, e4⟩ := HB.out wi KK.out
       go_wp2
       go_loopw [5, 77] (fun f i wr => ∃ qk qm : Nat, qk ≤ G.lo.length ∧ f = .int .i64 qm ∧ i = .int .i64 qk ∧ Hid (qm < 8192) ∧ Hid (bitsP qm mj fun r => ∃ i, i < qk ∧ relP (looP (loN F p)) (looP (loN G i)) r) ∧ Hid (Kp wi wr)) (fun _ i _ => G.lo.length - (intOf i).toNat)
       case atStart => exact ⟨0, mj, Nat.zero_le _, rfl, rfl, MJ, bits_none _ _, Lib.hid (Kp.refl _)⟩
       case round =>
        obtain ⟨x, mx, hx, rfl, rfl, MX, BX, KX⟩ := hrel
        obtain ⟨wx, hwq⟩ : ∃ x, x = wr := ⟨_, rfl⟩
        subst hwq
        by_cases ltX : x < G.lo.length
        ·have q6 : decide ((x : Int) < ((G.lo.length : Nat) : Int)) = true := decide_eq_true (by omega)
         have HX := Lib.hid (show LsOkP (loN G x).1 (loN G x).2.1 (loN G x).2.2 ∧ (loN G x).2.1.length ≤ 100000 ∧ (loN G x).2.2.length ≤ 100000 from OG.out.lo _ (getD_in (d := (false, [], [])) ltX))
         obtain ⟨bx, hax, a1x, l1x, a2x, l2x, xc0, xc1, xc2, rxa, rxb⟩ := (LB.out.kp (KK.out.trans KX.out)).atN ltX
         subst hax
         have yx : (0 : Int) ≤ (x : Int) := by omega
         generalize hgx : loN G x = qx at HX xc0 xc1 xc2 rxa rxb
         have Gx := Lib.hid hgx
         clear hgx
         have RB := Lib.hid (fun W1 (kq : Kp wx W1) => And.intro (rxa.kp kq) (rxb.kp kq))
         obtain ⟨V2, hV⟩ : ∃ q, q = wx.alloc (.cells #[.bool qx.1, .slice a1x qx.2.1.length l1x, .slice a2x qx.2.2.length l2x] 93) := ⟨_, rfl⟩
         have kv : Kp wx V2 := by rw [hV]; exact Kp.alloc _ _
         have gv : V2.heap[wx.heap.size]? = some (.cells #[.bool qx.1, .slice a1x qx.2.1.length l1x, .slice a2x qx.2.2.length l2x] 93 (0, 0)) := by rw [hV]; exact heap_at _ _ _ rfl
         have BV2 := Lib.hid (fun w' (kq : Kp V2 w') => row3 (heap_block kq gv))
         have KV2 := Lib.hid kv
         have HV := Lib.hid hV
         clear hV kv gv
         have LtX := Lib.hid ltX
         have CE := Lib.hid (fun W1 (kq : Kp V2 W1) => examplesR qp.1 qx.1 qp.2.1 qp.2.2 qx.2.1 qx.2.2 _ _ _ _ W1 (RA.out W1 (KV.out.trans (KJ.out.trans (KX.out.trans (KV2.out.trans kq))))).1 (RA.out W1 (KV.out.trans (KJ.out.trans (KX.out.trans (KV2.out.trans kq))))).2 (RB.out W1 (KV2.out.trans kq)).1 (RB.out W1 (KV2.out.trans kq)).2 HP.out.1 HX.out.1 HP.out.2.1 HP.out.2.2 HX.out.2.1 HX.out.2.2)
         have CQ := Lib.hid (fun v W1 (hv : RunsAt W1 v (exPs qp.1 qp.2.1 qp.2.2 qx.2.1 qx.2.2)) (kq : Kp V2 W1) => askO_any v _ _ _ qx mx W1 hv (RB.out W1 (KV2.out.trans kq)).1 (RB.out W1 (KV2.out.trans kq)).2 MX.out (ex_ok (d' := qx.1) HP.out.1) (exPs_len _ _ _ _ _) HX.out.1 HX.out.2.1 HX.out.2.2)
         have EX := Lib.hid (fun m' h => askE_rel (m := mx) (m' := m') HP.out.1 HX.out.1 h)
         have KS := Lib.hid (fun w' (kq : Kp V2 w') => show w'.cell? ⟨wp.heap.size, 0, none⟩ = some (.bool qp.1) ∧ w'.cell? ⟨wp.heap.size, 1, none⟩ = some (.slice a1p qp.2.1.length l1p) ∧ w'.cell? ⟨wp.heap.size, 2, none⟩ = some (.slice a2p qp.2.2.length l2p) ∧ w'.cell? ⟨wx.heap.size, 0, none⟩ = some (.bool qx.1) ∧ w'.cell? ⟨wx.heap.size, 1, none⟩ = some (.slice a1x qx.2.1.length l1x) ∧ w'.cell? ⟨wx.heap.size, 2, none⟩ = some (.slice a2x qx.2.2.length l2x) ∧ Kp V2 w' from ⟨(BV.out w' (KJ.out.trans (KX.out.trans (KV2.out.trans kq)))).1, (BV.out w' (KJ.out.trans (KX.out.trans (KV2.out.trans kq)))).2.1, (BV.out w' (KJ.out.trans (KX.out.trans (KV2.out.trans kq)))).2.2, (BV2.out w' kq).1, (BV2.out w' kq).2.1, (BV2.out w' kq).2.2, kq⟩)
         have k00 : Kp V2 V2 := Kp.refl _
         generalize exPs qp.1 qp.2.1 qp.2.2 qx.2.1 qx.2.2 = XP at *
         clear rxa rxb
         go_upto_region 27 with fail
         rw [← HV.out]
         clear HV xc0 xc1 xc2
         refine wp_region_held_drew (S := fun w' => w'.cell? ⟨wp.heap.size, 0, none⟩ = some (.bool qp.1) ∧ w'.cell? ⟨wp.heap.size, 1, none⟩ = some (.slice a1p qp.2.1.length l1p) ∧ w'.cell? ⟨wp.heap.size, 2, none⟩ = some (.slice a2p qp.2.2.length l2p) ∧ w'.cell? ⟨wx.heap.size, 0, none⟩ = some (.bool qx.1) ∧ w'.cell? ⟨wx.heap.size, 1, none⟩ = some (.slice a1x qx.2.1.length l1x) ∧ w'.cell? ⟨wx.heap.size, 2, none⟩ = some (.slice a2x qx.2.2.length l2x) ∧ Kp V2 w') (by kernel_rfl) ?_ (fun hHeld0 => ?_)
         ·(try dsimp only); exact KS.out _ (by first | with_reducible exact k00 | ((repeat (first | with_reducible refine Kp.trans ?_ (Kp.drew _) | with_reducible refine Kp.trans ?_ (Kp.alloc _ _))); with_reducible exact k00))
         refine tkv 0 btB0 ?_
         (try simp only [Act.put, btB0, List.setIfInBounds_toArray, List.set_cons_zero, List.set_cons_succ])
         refine tkv 1 btB1 ?_
         (try simp only [Act.put, btB1, List.setIfInBounds_toArray, List.set_cons_zero, List.set_cons_succ])
         refine tkv 3 btB3 ?_
         (try simp only [Act.put, btB3, List.setIfInBounds_toArray, List.set_cons_zero, List.set_cons_succ])
         refine tkv 4 btB4 ?_
         (try simp only [Act.put, btB4, List.setIfInBounds_toArray, List.set_cons_zero, List.set_cons_succ])
         refine tkv 5 btB5 ?_
         (try simp only [Act.put, btB5, List.setIfInBounds_toArray, List.set_cons_zero, List.set_cons_succ])
         refine tkE 2 btB2 rfl (by kernel_rfl) (fun K hK => ?_)
         go_simp
         (refine (CE.out _ (by first | with_reducible exact k00 | ((repeat (first | with_reducible refine Kp.trans ?_ (Kp.drew _) | with_reducible refine Kp.trans ?_ (Kp.alloc _ _))); with_reducible exact k00))).mono ?_; rintro e wy ⟨ve, rfl, oe, kq1⟩; have kky : Kp V2 wy := Kp.trans (show Kp V2 _ from (by first | with_reducible exact k00 | ((repeat (first | with_reducible refine Kp.trans ?_ (Kp.drew _) | with_reducible refine Kp.trans ?_ (Kp.alloc _ _))); with_reducible exact k00))) kq1; have RE := Lib.hid oe; clear oe; clear kq1)
         (try go_wp2_with fail)
         refine hK.out _ _ ?_ (fun hHeld1 => ?_)
         ·(try dsimp only); exact KS.out _ (by first | with_reducible exact kky | ((repeat (first | with_reducible refine Kp.trans ?_ (Kp.drew _) | with_reducible refine Kp.trans ?_ (Kp.alloc _ _))); with_reducible exact kky))
         clear hK K hHeld0
         (try simp only [Act.put, btB2, List.setIfInBounds_toArray, List.set_cons_zero, List.set_cons_succ])
         refine tkE 6 btB6 rfl (by kernel_rfl) (fun K hK => ?_)
         go_simp
         (refine (CQ.out _ _ (RE.out.kp (by first | with_reducible exact (Kp.refl wy) | ((repeat (first | with_reducible refine Kp.trans ?_ (Kp.drew _) | with_reducible refine Kp.trans ?_ (Kp.alloc _ _))); with_reducible exact (Kp.refl wy)))) (by first | with_reducible exact kky | ((repeat (first | with_reducible refine Kp.trans ?_ (Kp.drew _) | with_reducible refine Kp.trans ?_ (Kp.alloc _ _))); with_reducible exact kky))).mono ?_; rintro e wz ⟨m2, rfl, h1, h2, kq1⟩; have kkz : Kp V2 wz := Kp.trans (show Kp V2 _ from (by first | with_reducible exact kky | ((repeat (first | with_reducible refine Kp.trans ?_ (Kp.drew _) | with_reducible refine Kp.trans ?_ (Kp.alloc _ _))); with_reducible exact kky))) kq1; have M2 := Lib.hid h1; have B2 := Lib.hid h2; clear h1 h2; clear kq1)
         (try go_wp2_with fail)
         refine hK.out _ _ ?_ (fun hHeld2 => ?_)
         ·(try dsimp only); exact KS.out _ (by first | with_reducible exact kkz | ((repeat (first | with_reducible refine Kp.trans ?_ (Kp.drew _) | with_reducible refine Kp.trans ?_ (Kp.alloc _ _))); with_reducible exact kkz))
         clear hK K hHeld1
         (try simp only [Act.put, btB6, List.setIfInBounds_toArray, List.set_cons_zero, List.set_cons_succ])
         refine tkv 7 btB7 ?_
         (try simp only [Act.put, btB7, List.setIfInBounds_toArray, List.set_cons_zero, List.set_cons_succ])
         refine wpAnyH_done (by kernel_rfl) ?_ _
         have B3 := Lib.hid (bits_next BX.out (by rw [Gp.out, Gx.out]; exact EX.out _ B2.out))
         have K3 := Lib.hid (KX.out.trans (KV2.out.trans kkz))
         go_wp2
         go_roundw
         case rel => exact ⟨x + 1, m2, by have := LtX.out; omega, by go_num, by go_num, M2, B3, Lib.hid (K3.out.trans (by first | with_reducible exact Kp.refl _ | with_reducible exact Kp.alloc _ _ | with_reducible exact (Kp.alloc _ _).trans (Kp.alloc _ _) | with_reducible exact ((Kp.alloc _ _).trans (Kp.alloc _ _)).trans (Kp.alloc _ _) | with_reducible exact Kp.drew _ | with_reducible exact Kp.drewN _ _))⟩
         case measure => have := LtX.out; simp [intOf]; omega
        ·have q6 : decide ((x : Int) < ((G.lo.length : Nat) : Int)) = false := decide_eq_false (by omega)
         have eex : x = G.lo.length := by omega
         subst eex
         have BE := Lib.hid (bits_next BP.out (bits_congr (bits_trans BJ.out BX.out) fun r _ => (relP_split _ G r).symm))
         have KE := Lib.hid (KP.out.trans (KV.out.trans (KJ.out.trans KX.out)))
         go_wp2
         go_roundw
         case rel => exact ⟨p + 1, mx, by have := LtP.out; omega, by go_num, by go_num, MX, BE, KE⟩
         case measure => have := LtP.out; simp [intOf]; omega
    ·have q4 : decide ((p : Int) < ((F.lo.length : Nat) : Int)) = false := decide_eq_false (by omega)
     have eep : p = F.lo.length := by omega
     subst eep
     have BE := Lib.hid (bits_congr (bits_trans B0.out BP.out) fun r _ => (relP_first F _ r).symm)
     have KE := Lib.hid (KA.out.trans (K1.out.trans KP.out))
     go_wp2
     go_ret
     exact ⟨mp, rfl, MP.out, BE.out, KE.out⟩
theorem Kp.size2 {w w' : World} (k : Kp w w') : w.heap.size ≤ w'.heap.size := k.size
theorem at_row {rs : Nat → RowD} {i : Nat} {v : Value} {r : RowD} {w : World} (h : (rs i).v = v) (g : r.v.ownBlock = v.ownBlock ∨ r.v.ownBlock = some w.heap.size) : r.v.ownBlock = (rs i).v.ownBlock ∨ r.v.ownBlock = none ∨ ∃ b, r.v.ownBlock = some b ∧ w.heap.size ≤ b := by
 rw [h]
 exact g.imp id fun h => .inr ⟨_, h, Nat.le_refl _⟩
def SPost (l : List LF) (e : Ending) (w' : World) : Prop :=
 (okAll l = true → ∃ fv F, e = .returned (.tuple #[fv, .bool true]) ∧ FdAt w' fv F ∧ FdOk F ∧ ∀ S T, fdP F S T ↔ hasL l S T = true) ∧ (okAll l = false → e = .returned (.tuple #[.agg #[.slice none 0 0, .slice none 0 0], .bool false]))
abbrev srA0 : Oper := { dst := some 31, op := Go.Op.fieldAddr 47 (Go.Operand.tmp 8) 1, type := 0, pos := "family.go:54", after := #[], guard := none }
abbrev srA1 : Oper := { dst := some 32, op := Go.Op.load 3 (Go.Operand.tmp 31), type := 3, pos := "family.go:54", after := #[{ on := 0, ground := Go.Ground.data }], guard := none }
abbrev srA2 : Oper := { dst := some 33, op := Go.Op.fieldAddr 47 (Go.Operand.tmp 8) 1, type := 0, pos := "family.go:54", after := #[], guard := none }
abbrev srA3 : Oper := { dst := some 34, op := Go.Op.load 3 (Go.Operand.tmp 33), type := 3, pos := "family.go:54", after := #[{ on := 2, ground := Go.Ground.data }], guard := none }
abbrev srA4 : Oper := { dst := some 35, op := Go.Op.indexAddr 91 (Go.Operand.tmp 5) (Go.Operand.tmp 34), type := 0, pos := "family.go:54", after := #[{ on := 3, ground := Go.Ground.data }], guard := none }
abbrev srA5 : Oper := { dst := some 36, op := Go.Op.load 30 (Go.Operand.tmp 35), type := 30, pos := "family.go:54", after := #[{ on := 4, ground := Go.Ground.data }], guard := none }
abbrev srA6 : Oper := { dst := some 37, op := Go.Op.move (Go.Operand.tmp 9), type := 43, pos := "family.go:54", after := #[], guard := none }
abbrev srA7 : Oper := { dst := some 38, op := Go.Op.move (Go.Operand.tmp 11), type := 43, pos := "family.go:54", after := #[], guard := none }
abbrev srA8 : Oper := { dst := some 39, op := Go.Op.call { callee := Go.Callee.value (Go.Operand.func 60), args := #[Go.Operand.tmp 37, Go.Operand.tmp 38], argTypes := #[43, 43] }, type := 30, pos := "family.go:54", after := #[{ on := 6, ground := Go.Ground.data }, { on := 7, ground := Go.Ground.data }], guard := none }
abbrev srA9 : Oper := { dst := some 40, op := Go.Op.call { callee := Go.Callee.builtin Go.Builtin.append, args := #[Go.Operand.tmp 36, Go.Operand.tmp 39], argTypes := #[30, 30] }, type := 30, pos := "family.go:54", after := #[{ on := 5, ground := Go.Ground.data }, { on := 8, ground := Go.Ground.data }, { on := 8, ground := Go.Ground.chain }], guard := none }
abbrev srA10 : Oper := { dst := some 41, op := Go.Op.indexAddr 91 (Go.Operand.tmp 5) (Go.Operand.tmp 32), type := 0, pos := "family.go:54", after := #[{ on := 1, ground := Go.Ground.data }, { on := 0, ground := Go.Ground.phase }, { on := 1, ground := Go.Ground.phase }, { on := 2, ground := Go.Ground.phase }, { on := 3, ground := Go.Ground.phase }, { on := 4, ground := Go.Ground.phase }, { on := 5, ground := Go.Ground.phase }, { on := 6, ground := Go.Ground.phase }, { on := 7, ground := Go.Ground.phase }, { on := 8, ground := Go.Ground.phase }, { on := 9, ground := Go.Ground.phase }], guard := none }
abbrev srA11 : Oper := { dst := none, op := Go.Op.store 30 (Go.Operand.tmp 41) (Go.Operand.tmp 40), type := 0, pos := "family.go:54", after := #[{ on := 10, ground := Go.Ground.data }, { on := 9, ground := Go.Ground.data }, { on := 9, ground := Go.Ground.chain }, { on := 0, ground := Go.Ground.phase }, { on := 1, ground := Go.Ground.phase }, { on := 2, ground := Go.Ground.phase }, { on := 3, ground := Go.Ground.phase }, { on := 4, ground := Go.Ground.phase }, { on := 5, ground := Go.Ground.phase }, { on := 6, ground := Go.Ground.phase }, { on := 7, ground := Go.Ground.phase }, { on := 8, ground := Go.Ground.phase }, { on := 9, ground := Go.Ground.phase }], guard := none }
abbrev srB0 : Oper := { dst := some 91, op := Go.Op.fieldAddr 57 (Go.Operand.tmp 6) 0, type := 0, pos := "family.go:63", after := #[], guard := none }
abbrev srB1 : Oper := { dst := some 92, op := Go.Op.load 54 (Go.Operand.tmp 91), type := 54, pos := "family.go:63", after := #[{ on := 0, ground := Go.Ground.data }], guard := none }
abbrev srB2 : Oper := { dst := some 93, op := Go.Op.move (Go.Operand.tmp 14), type := 30, pos := "family.go:63", after := #[], guard := none }
abbrev srB3 : Oper := { dst := some 94, op := Go.Op.call { callee := Go.Callee.value (Go.Operand.func 65), args := #[Go.Operand.tmp 93], argTypes := #[30] }, type := 30, pos := "family.go:63", after := #[{ on := 2, ground := Go.Ground.data }], guard := none }
abbrev srB4 : Oper := { dst := some 95, op := Go.Op.buildSlice 54 1 #[(0, Go.Operand.tmp 94)], type := 54, pos := "family.go:63", after := #[{ on := 3, ground := Go.Ground.data }], guard := none }
abbrev srB5 : Oper := { dst := some 96, op := Go.Op.call { callee := Go.Callee.builtin Go.Builtin.append, args := #[Go.Operand.tmp 92, Go.Operand.tmp 95], argTypes := #[54, 54] }, type := 54, pos := "family.go:63", after := #[{ on := 1, ground := Go.Ground.data }, { on := 4, ground := Go.Ground.data }, { on := 3, ground := Go.Ground.chain }], guard := none }
abbrev srB6 : Oper := { dst := some 97, op := Go.Op.fieldAddr 57 (Go.Operand.tmp 6) 0, type := 0, pos := "family.go:63", after := #[{ on := 0, ground := Go.Ground.phase }, { on := 1, ground := Go.Ground.phase }, { on := 2, ground := Go.Ground.phase }, { on := 3, ground := Go.Ground.phase }, { on := 4, ground := Go.Ground.phase }, { on := 5, ground := Go.Ground.phase }], guard := none }
abbrev srB7 : Oper := { dst := none, op := Go.Op.store 54 (Go.Operand.tmp 97) (Go.Operand.tmp 96), type := 0, pos := "family.go:63", after := #[{ on := 6, ground := Go.Ground.data }, { on := 5, ground := Go.Ground.data }, { on := 5, ground := Go.Ground.chain }, { on := 0, ground := Go.Ground.phase }, { on := 1, ground := Go.Ground.phase }, { on := 2, ground := Go.Ground.phase }, { on := 3, ground := Go.Ground.phase }, { on := 4, ground := Go.Ground.phase }, { on := 5, ground := Go.Ground.phase }], guard := none }
set_option maxHeartbeats 16000000 in
set_option maxRecDepth 100000 in
theorem sorted_any (v : Value) (l : List LF) (w : World) (hv : LeavesAt w v l) (hl : LsOk l) (hn : l.length ≤ 100) (T : Tabs w) :
  Calls Tryz.prog 32 #[v] w fun e w' => SPost l e w' ∧ Kp w w' := by
 obtain ⟨ad, cp, rfl⟩ := hv.slice
 have HV := Lib.hid hv
 have TT := Lib.hid T
 have HL := Lib.hid hl
 have B0 := Lib.hid (SBx.start w)
 have HW : Hid (sW0 w = ((w.alloc (.cells #[.slice none 0 0, .slice none 0 0] 57)).alloc (.cells #[.slice none 0 0, .slice none 0 0, .slice none 0 0, .slice none 0 0, .slice none 0 0, .slice none 0 0] 91)).alloc (.cells #[.slice none 0 0, .slice none 0 0] 57)) := rfl
 generalize sW0 w = W0 at *
 clear hv hl T
 go_enter Tryz.func32, Tryz.ntmps32
 go_wp2_with fail
 rw [← HW.out]
 go_loopw [4, 17] (fun s i wr => ∃ (k : Nat) (rs : Nat → RowD) (m : List OV), k ≤ l.length ∧ s = (rs 6).v ∧ i = .int .i64 k ∧ Hid (SBx w rs wr) ∧ Hid (SRd (l.take k) rs m) ∧ Hid (ReadsO wr (w.heap.size + 3) 9 rs m) ∧ Hid (okAll (l.take k) = true)) (fun _ i _ => l.length - (intOf i).toNat)
 case atStart => exact ⟨0, rs0, [], Nat.zero_le _, rfl, rfl, B0, SRd.start, ReadsO.start _ _ _ _, rfl⟩
 case round =>
  obtain ⟨k, rs, m, hk, rfl, rfl, BX, RD, RO, OA⟩ := hrel
  obtain ⟨wo, hwo⟩ : ∃ x, x = wr := ⟨_, rfl⟩
  subst hwo
  obtain ⟨sd, hsd⟩ : ∃ x, (rs 6).v = x := ⟨_, rfl⟩
  have HSD := Lib.hid hsd
  rw [hsd]
  clear hsd
  by_cases hlt : k < l.length
  ·have q1 : decide ((k : Int) < (l.length : Int)) = true := decide_eq_true (by omega)
   rcases HV.out.kp BX.out.kp with ⟨_, _, _, e⟩ | ⟨b0, off, cap, ev, hc, hmx, hx⟩
   ·rw [e] at hlt; simp at hlt
   cases ev
   obtain ⟨va, vb, d0, d1, d2, d3, ra, rb⟩ := hx k hlt
   have LOK := HL.out _ (lat_mem hlt)
   have TK := take_lat l k hlt
   have OY := Lib.hid (okAll_take hlt OA.out)
   have ON := Lib.hid (okAll_no hlt)
   obtain ⟨f, hf⟩ : ∃ f, lat l k = f := ⟨_, rfl⟩
   rw [hf] at d0 d1 ra rb LOK TK OY ON
   have ok : LeafOk wo f va vb := ⟨ra, rb, LOK.1, LOK.2.1, LOK.2.2.1, LOK.2.2.2⟩
   have CS := Lib.hid (fun w1 (kk : Kp wo w1) => leafStartsO_any f va vb w1 (ok.kp kk) (TT.out.kp (BX.out.kp.trans kk)))
   have CE := Lib.hid (fun w1 (kk : Kp wo w1) => leafEndsO_any f va vb w1 (ok.kp kk) (TT.out.kp (BX.out.kp.trans kk)))
   have CM := Lib.hid (fun w1 (kk : Kp wo w1) => leafEmpty_any f va vb w1 (ok.kp kk) (TT.out.kp (BX.out.kp.trans kk)).2)
   have SK := Lib.hid (fun h => RD.out.skip (f := f) h)
   have SS := Lib.hid (fun h1 h2 => RD.out.span (f := f) h1 h2)
   have SD := Lib.hid (fun h1 h2 h3 => RD.out.day (f := f) h1 h2 h3)
   have SU := Lib.hid (fun h1 h2 (u : Nat) h3 h4 h5 => RD.out.unit (f := f) (u := u) h1 h2 h3 h4 h5)
   have FU := Lib.hid (fun h1 h2 => full_units (f := f) h1 h2)
   have ZP := Lib.hid (fun h1 h2 h3 h4 => zip_pairs (f := f) h1 h2 h3 h4)
   have FL : fullB f = !emptyF (famR f) := rfl
   have stl := starts_len (famR f)
   have enl := ends_len (famR f)
   have sts := Lib.hid (starts_sane (famR_ok f))
   have ens := Lib.hid (ends_sane (famR_ok f))
   obtain ⟨sp, u, a, b⟩ := f
   simp only at d0 d1 ra rb
   obtain ⟨aa, ca, rfl⟩ := ra.slice
   obtain ⟨ab, cb, rfl⟩ := rb.slice
   simp only [leafV] at CS CE CM
   simp only at SS SD SU FU ZP
   generalize famR ⟨sp, u, a, b⟩ = F at *
   obtain ⟨sb, hsb⟩ : ∃ x, startsB F = x := ⟨_, rfl⟩
   obtain ⟨eb, heb⟩ : ∃ x, endsB F = x := ⟨_, rfl⟩
   obtain ⟨em, hem⟩ : ∃ x, emptyF F = x := ⟨_, rfl⟩
   rw [hsb] at CS OY ON ZP
   rw [heb] at CE OY ON
   rw [hem] at CM FL
   have FL2 := Lib.hid FL
   have TK2 := Lib.hid TK
   generalize startsR F = A at *
   generalize endsR F = B at *
   have z1 : (k : Int) < (l.length : Int) := by omega
   have z2 : (0 : Int) ≤ (k : Int) := by omega
   obtain ⟨V, hV⟩ : ∃ x, x = wo.alloc (.cells #[.bool sp, .int .i64 u, .slice aa a.length ca, .slice ab b.length cb] 47) := ⟨_, rfl⟩
   have ka : Kp wo V := by rw [hV]; exact Kp.alloc _ _
   have hgq : V.heap[wo.heap.size]? = some (.cells #[.bool sp, .int .i64 u, .slice aa a.length ca, .slice ab b.length cb] 47 (0, 0)) := by rw [hV]; exact heap_at _ _ _ rfl
   have HB := Lib.hid (fun w1 (kk : Kp V w1) => row4 (heap_block kk hgq))
   have HG := Lib.hid (fun w1 (kk : Kp V w1) => heap_block kk hgq)
   have KA := Lib.hid ka
   have HV2 := Lib.hid hV
   clear hx hc hmx hf hgq ka hV ra rb LOK ok FL TK hsb heb hem
   go_wp2_with fail
   rw [← HV2.out]
   obtain ⟨c0, c1, c2, c3⟩ := HB.out V (Kp.refl _)
   have BV := Lib.hid (BX.out.go KA.out)
   go_wp2_with fail
   refine (CS.out _ KA.out).mono ?_
   rintro e w2 ⟨v1, rfl, o1, k1⟩
   have A1 := Lib.hid (Own1.new BV.out.rws BV.out.sz o1)
   have R1 := Lib.hid o1.runs
   obtain ⟨a1, l1, rfl⟩ := o1.runs.slice
   have K2 := Lib.hid k1
   have B2 := Lib.hid (BV.out.go k1)
   clear o1 k1 c0 c1 c2 c3
   obtain ⟨c0, c1, c2, c3⟩ := HB.out w2 K2.out
   go_wp2_with fail
   refine (CE.out _ (KA.out.trans K2.out)).mono ?_
   rintro e w3 ⟨v2, rfl, o2, k2⟩
   have A2 := Lib.hid (Own1.new B2.out.rws B2.out.sz o2)
   have R2 := Lib.hid o2.runs
   obtain ⟨a2, l2, rfl⟩ := o2.runs.slice
   have K3 := Lib.hid (K2.out.trans k2)
   have B3 := Lib.hid (B2.out.go k2)
   replace A1 := Lib.hid (A1.out.kp k2)
   replace R1 := Lib.hid (R1.out.kp k2)
   clear o2 k2 c0 c1 c2 c3
   obtain ⟨c0, c1, c2, c3⟩ := HB.out w3 K3.out
   by_cases hse : sb = true ∧ eb = true
   ·obtain ⟨rfl, rfl⟩ := hse
    have OA2 := Lib.hid (OY.out rfl rfl)
    have OA0 := OA
    clear OY ON OA
    go_wp2_with fail
    refine (CM.out _ (KA.out.trans K3.out)).mono ?_
    rintro e w4 ⟨rfl, k3⟩
    have K4 := Lib.hid (K3.out.trans k3)
    have B4 := Lib.hid (B3.out.go k3)
    replace A1 := Lib.hid (A1.out.kp k3)
    replace A2 := Lib.hid (A2.out.kp k3)
    replace R1 := Lib.hid (R1.out.kp k3)
    replace R2 := Lib.hid (R2.out.kp k3)
    have RO4 := Lib.hid (RO.out.kp (KA.out.trans K4.out))
    clear k3 c0 c1 c2 c3 BV B2 B3 CS CE CM RO
    obtain ⟨c0, c1, c2, c3⟩ := HB.out w4 K4.out
    cases em with
    | true =>
     have R5 := Lib.hid (show SRd (l.take (k + 1)) rs m by rw [TK2.out]; exact SK.out (by rw [FL2.out]; rfl))
     clear SK SS SD SU
     go_wp2
     go_roundw
     case rel => exact ⟨k + 1, rs, m, by omega, HSD.out.symm, by go_num, B4, R5, RO4, OA2⟩
     case measure => simp [intOf]; omega
    | false =>
     cases sp with
     | true =>
      obtain ⟨i0, hi, hz0, hz1, hz2⟩ := info_parts infoLoo
      have lm := len_ms RD.out
      rw [List.length_take, Nat.min_eq_left (by omega)] at lm
      have ow7 := B4.out.rws.own 7 (by decide)
      rw [RD.out.lo] at ow7
      simp only at ow7
      have b6 := B4.out.b6
      have fr := B4.out.far (i := 7) (by decide) (k := w.heap.size + 2) (by omega)
      obtain ⟨so, hso⟩ : ∃ x, (rs 7).v = x := ⟨_, rfl⟩
      obtain ⟨sl, hsl⟩ : ∃ x, (rs 8).v = x := ⟨_, rfl⟩
      rw [hso] at ow7 b6 fr
      rw [hsl] at b6
      have HSO := Lib.hid hso
      clear hso hsl
      obtain ⟨a7, l7, rfl⟩ := own_sliceK ow7
      have HN7 := Lib.hid (fun v => SS.out (by rw [FL2.out]; rfl) rfl v (.slice a1 A.length l1) (.slice a2 B.length l2))
      rw [← TK2.out] at HN7
      obtain ⟨W5, hW5⟩ : ∃ x, x = w4.alloc (.cells #[.bool false, .slice a1 A.length l1, .slice a2 B.length l2] 93) := ⟨_, rfl⟩
      have k5 : Kp w4 W5 := by rw [hW5]; exact Kp.alloc _ _
      have g5 : W5.heap[w4.heap.size]? = some (.cells #[.bool false, .slice a1 A.length l1, .slice a2 B.length l2] 93 (0, 0)) := by rw [hW5]; exact heap_at _ _ _ rfl
      have SRC : SrcAt W5 (.slice (some ⟨w4.heap.size, 0, none⟩) 1 1) 1 [.bool false, .slice a1 A.length l1, .slice a2 B.length l2] := .inr ⟨_, _, rfl, World.news_of_block g5⟩
      have B5 := Lib.hid (B4.out.go k5)
      have RO5 := Lib.hid (RO4.out.kp k5)
      replace A1 := Lib.hid (A1.out.kp k5)
      replace A2 := Lib.hid (A2.out.kp k5)
      have OW := Lib.hid (own_kp ow7 k5)
      have GB := Lib.hid (heap_block k5 b6)
      have FR := Lib.hid fr
      have d6 : w4.cell? ⟨w.heap.size + 2, 1, none⟩ = some (.slice a7 m.length l7) := (row2 b6).2
      have HW5 := Lib.hid hW5
      have bs := B5.out.sz
      clear hW5 k5 g5 ow7 b6 fr SK SD SU
      go_wp2_with (at_builtin; refine Hid.out ?_)
      refine Lib.hid ?_
      rw [← HW5.out]
      refine wpList_app rfl (.tmp 57) (.tmp 61) 55 rfl (w.heap.size + 3) 93 i0 _ 3 56 Tryz.underlying55 hi hz0 hz1 hz2 rfl (by decide) _ m.length (cellsO m) rfl OW.out _ 1 _ rfl SRC (by simp) (by intro u hu; simp only [List.mem_cons, List.not_mem_nil, or_false] at hu; rcases hu with rfl | rfl | rfl <;> rfl) (by unfold maxLen; omega) (by omega) bs ?_
      intro v7 w6 hown hgrow hat
      obtain ⟨a9, l9, rfl⟩ := own_sliceK hown
      have e7 : (m ++ [((false, A, B), (.slice a1 A.length l1, .slice a2 B.length l2))] : List OV).length = m.length + 1 := by simp
      have AT := Lib.hid (show (Value.slice a9 (m.length + 1) l9).ownBlock = (rs 7).v.ownBlock ∨ (Value.slice a9 (m.length + 1) l9).ownBlock = none ∨ ∃ b, (Value.slice a9 (m.length + 1) l9).ownBlock = some b ∧ W5.heap.size ≤ b by
       rw [HSO.out]
       rcases hat with h | h
       ·exact .inl h
       ·exact .inr (.inr ⟨_, h, Nat.le_refl _⟩))
      have GG := Lib.hid (show W5.grownBy w6 (rs 7).v.ownBlock by rw [HSO.out]; exact hgrow)
      have BF := Lib.hid (B5.out.putO (r := ⟨93, 3, .slice a9 (m.length + 1) l9, (m ++ [((false, A, B), (.slice a1 A.length l1, .slice a2 B.length l2))] : List OV).length, cellsO (m ++ [((false, A, B), (.slice a1 A.length l1, .slice a2 B.length l2))])⟩) (by simp only; rw [e7, cellsO_append]; exact hown) GG.out AT.out)
      have ROF := Lib.hid (ReadsO.add ((RO5.out.put (i := 7) (r := ⟨93, 3, .slice a9 (m.length + 1) l9, (m ++ [((false, A, B), (.slice a1 A.length l1, .slice a2 B.length l2))] : List OV).length, cellsO (m ++ [((false, A, B), (.slice a1 A.length l1, .slice a2 B.length l2))])⟩) (by decide) GG.out AT.out).setCell (a := ⟨w.heap.size + 2, 1, none⟩) (by simp) (.slice a9 (m.length + 1) l9)) (d := false) ((A1.out.put (i := 7) (r := ⟨93, 3, .slice a9 (m.length + 1) l9, (m ++ [((false, A, B), (.slice a1 A.length l1, .slice a2 B.length l2))] : List OV).length, cellsO (m ++ [((false, A, B), (.slice a1 A.length l1, .slice a2 B.length l2))])⟩) (by decide) GG.out AT.out).setCell (a := ⟨w.heap.size + 2, 1, none⟩) (by simp) (.slice a9 (m.length + 1) l9)) ((A2.out.put (i := 7) (r := ⟨93, 3, .slice a9 (m.length + 1) l9, (m ++ [((false, A, B), (.slice a1 A.length l1, .slice a2 B.length l2))] : List OV).length, cellsO (m ++ [((false, A, B), (.slice a1 A.length l1, .slice a2 B.length l2))])⟩) (by decide) GG.out AT.out).setCell (a := ⟨w.heap.size + 2, 1, none⟩) (by simp) (.slice a9 (m.length + 1) l9)))
      have RF := Lib.hid (HN7.out (.slice a9 (m.length + 1) l9))
      have b6 := grown_heap hgrow GB.out (fun e => FR.out e)
      have d7 : w6.cell? ⟨w.heap.size + 2, 1, none⟩ = some (.slice a7 m.length l7) := (row2 b6).2
      have f7 : w6.frozen? ⟨w.heap.size + 2, 1, none⟩ = false := by simp [World.frozen?, b6]
      have SD7 := Lib.hid (show sd = (putD rs 7 ⟨93, 3, .slice a9 (m.length + 1) l9, (m ++ [((false, A, B), (.slice a1 A.length l1, .slice a2 B.length l2))] : List OV).length, cellsO (m ++ [((false, A, B), (.slice a1 A.length l1, .slice a2 B.length l2))])⟩ 6).v by rw [putD_ne _ _ (by decide)]; exact HSD.out.symm)
      clear hown hgrow hat b6 e7 d6
      go_wp2
      go_roundw
      case rel => exact ⟨k + 1, _, _, by omega, SD7.out, by go_num, BF, RF, ROF, OA2⟩
      case measure => simp [intOf]; omega
     | false =>
      by_cases hu : u = 0
      ·subst hu
       obtain ⟨i0, hi, hz0, hz1, hz2⟩ := info_parts infoRu
       have ld := len_dyL (l.take k)
       rw [List.length_take, Nat.min_eq_left (by omega)] at ld
       have ow6 := B4.out.rws.own 6 (by decide)
       rw [RD.out.dy] at ow6
       simp only at ow6
       rw [HSD.out] at ow6
       obtain ⟨a7, l7, rfl⟩ := own_sliceK ow6
       have HN6 := Lib.hid (fun v => SD.out (by rw [FL2.out]; rfl) rfl rfl v)
       rw [← TK2.out] at HN6
       generalize dyL (l.take k) = D at *
       have OW := Lib.hid ow6
       have bs := B4.out.sz
       clear ow6 SK SS SU
       go_wp2_with (at_builtin; refine Hid.out ?_)
       refine Lib.hid ?_
       refine wpList_app rfl (.tmp 68) (.tmp 69) 43 rfl (w.heap.size + 3) 53 i0 _ 2 16 Tryz.underlying43 hi hz0 hz1 hz2 rfl (by decide) _ D.length (cellsR D) rfl OW.out _ A.length (cellsR A) rfl R1.out.src (by rw [cellsR_length]) (cells_one _) (by unfold maxLen; omega) (by omega) bs ?_
       intro v7 w6 hown hgrow hat
       obtain ⟨a9, l9, rfl⟩ := own_sliceK hown
       have AT := Lib.hid (show (Value.slice a9 (D.length + A.length) l9).ownBlock = (rs 6).v.ownBlock ∨ (Value.slice a9 (D.length + A.length) l9).ownBlock = none ∨ ∃ b, (Value.slice a9 (D.length + A.length) l9).ownBlock = some b ∧ w4.heap.size ≤ b by
        rw [HSD.out]
        rcases hat with h | h
        ·exact .inl h
        ·exact .inr (.inr ⟨_, h, Nat.le_refl _⟩))
       have GG := Lib.hid (show w4.grownBy w6 (rs 6).v.ownBlock by rw [HSD.out]; exact hgrow)
       have BF := Lib.hid (B4.out.putN (i := 6) rfl (r := ⟨53, 2, .slice a9 (D.length + A.length) l9, (D ++ A).length, cellsR (D ++ A)⟩) (by simp only; rw [List.length_append, cellsR_append]; exact hown) GG.out AT.out)
       have ROF := Lib.hid (RO4.out.put (i := 6) (r := ⟨53, 2, .slice a9 (D.length + A.length) l9, (D ++ A).length, cellsR (D ++ A)⟩) (by decide) GG.out AT.out)
       have RF := Lib.hid (HN6.out (.slice a9 (D.length + A.length) l9))
       clear hown hgrow hat
       go_wp2
       go_roundw
       case rel => exact ⟨k + 1, _, _, by omega, rfl, by go_num, BF, RF, ROF, OA2⟩
       case measure => simp [intOf]; omega
      ·obtain ⟨uF, uC, uS⟩ := FU.out (by rw [FL2.out]; rfl) rfl
       have c6 := cnt_six uC
       obtain ⟨n, rfl⟩ : ∃ n : Nat, u = (n : Int) := ⟨u.toNat, by omega⟩
       have hn6 : n < 6 := by omega
       have hn0 : n ≠ 0 := by omega
       obtain ⟨i0, hi, hz0, hz1, hz2⟩ := info_parts infoPr
       obtain ⟨p1, p2, p3, p4⟩ := ZP.out (by rw [FL2.out]; rfl) (by first | rfl | trivial) hu (by first | rfl | trivial)
       have CT := Lib.hid (fun w1 (kq : Kp w4 w1) => show Calls Tryz.prog 60 #[.slice a1 A.length l1, .slice a2 B.length l2] w1 fun e w' => ∃ v', e = .returned v' ∧ OwnP w' w1.heap.size v' (pairsF F) ∧ Kp w1 w' from by
        rw [← p1]
        exact rtogether_any _ _ A B w1 (R1.out.kp kq) (R2.out.kp kq) sts.out ens.out (by omega) (by omega) (by omega) (by omega) (by omega))
       have lp := len_prL (n : Int) (l.take k) (fun f hf => (okAll_iff OA0.out f hf).1)
       rw [List.length_take, Nat.min_eq_left (by omega)] at lp
       have ow := B4.out.rws.own n (by omega)
       rw [RD.out.pr n hn6] at ow
       simp only at ow
       have b5 := B4.out.b5
       have fr := B4.out.far (i := n) (by omega) (k := w.heap.size + 1) (by omega)
       have fl := BX.out.rws.lt (i := n) (by omega)
       have pa := pbox_at rs hn6
       have HNn := Lib.hid (fun v => SU.out (by rw [FL2.out]; rfl) rfl n rfl hn0 hn6 v)
       rw [← TK2.out] at HNn
       generalize pairsF F = PF at *
       generalize prL (l.take k) (n : Int) = Q at *
       obtain ⟨pv, hpv⟩ : ∃ x, (rs n).v = x := ⟨_, rfl⟩
       rw [hpv] at ow fr fl pa
       obtain ⟨a7, l7, rfl⟩ := own_sliceK ow
       have HPV := Lib.hid hpv
       have OW := Lib.hid ow
       have FR := Lib.hid fr
       have FL9 := Lib.hid (show (Value.slice a7 Q.length l7).ownBlock ≠ some wo.heap.size from fun e => by have := (fl _ e).2; omega)
       have GB := Lib.hid b5
       have GL := Lib.hid (show w4.heap[wo.heap.size]? = some (.cells #[.bool false, .int .i64 (n : Int), .slice aa a.length ca, .slice ab b.length cb] 47 (0, 0)) from HG.out w4 K4.out)
       have PA := Lib.hid pa
       have d5 : w4.cell? ⟨w.heap.size + 1, n, none⟩ = some (.slice a7 Q.length l7) := by simp [World.cell?, b5, pa]
       have bs := B4.out.sz
       have bw := BX.out.sz
       have zn : (n : Int) < 6 := by omega
       have zm : (0 : Int) ≤ (n : Int) := by omega
       have q0 : ((n : Int) == 0) = false := by simp; omega
       have q0n : (n == 0) = false := by simp; omega
       have KS := Lib.hid (fun w' (kq : Kp w4 w') => show w'.cell? ⟨wo.heap.size, 1, none⟩ = some (.int .i64 (n : Int)) from cell_up kq c1)
       have k00 : Kp w4 w4 := Kp.refl _
       have SDn := Lib.hid (fun r => show sd = (putD rs n r 6).v by rw [putD_ne _ _ (by omega)]; exact HSD.out.symm)
       clear ow fr fl b5 pa hpv uF uC uS p1 p3 p4 c6 SK SS SD FU ZP
       go_upto_region 9 with fail
       refine wp_region_held_drew (S := fun w' => w'.cell? ⟨wo.heap.size, 1, none⟩ = some (.int .i64 (n : Int))) (by kernel_rfl) ?_ (fun hHeld0 => ?_)
       ·(try dsimp only); exact KS.out _ (by first | with_reducible exact k00 | ((repeat (first | with_reducible refine Kp.trans ?_ (Kp.drew _) | with_reducible refine Kp.trans ?_ (Kp.alloc _ _))); with_reducible exact k00))
       refine tkv 0 srA0 ?_
       (try simp only [Act.put, srA0, List.setIfInBounds_toArray, List.set_cons_zero, List.set_cons_succ])
       refine tkv 1 srA1 ?_
       (try simp only [Act.put, srA1, List.setIfInBounds_toArray, List.set_cons_zero, List.set_cons_succ])
       refine tkv 2 srA2 ?_
       (try simp only [Act.put, srA2, List.setIfInBounds_toArray, List.set_cons_zero, List.set_cons_succ])
       refine tkv 3 srA3 ?_
       (try simp only [Act.put, srA3, List.setIfInBounds_toArray, List.set_cons_zero, List.set_cons_succ])
       refine tkv 4 srA4 ?_
       (try simp only [Act.put, srA4, List.setIfInBounds_toArray, List.set_cons_zero, List.set_cons_succ])
       refine tkv 6 srA6 ?_
       (try simp only [Act.put, srA6, List.setIfInBounds_toArray, List.set_cons_zero, List.set_cons_succ])
       refine tkv 7 srA7 ?_
       (try simp only [Act.put, srA7, List.setIfInBounds_toArray, List.set_cons_zero, List.set_cons_succ])
       refine tkE2 5 8 srA5 srA8 rfl rfl (by kernel_rfl) (fun K hK => ?_) (fun K hK => ?_)
       ·go_simp
        skip
        (try go_wp2_with fail)
        refine hK.out _ _ ?_ (fun hHeld1 => ?_)
        ·(try dsimp only); exact KS.out _ (by first | with_reducible exact k00 | ((repeat (first | with_reducible refine Kp.trans ?_ (Kp.drew _) | with_reducible refine Kp.trans ?_ (Kp.alloc _ _))); with_reducible exact k00))
        clear hK K hHeld0
        (try simp only [Act.put, srA5, List.setIfInBounds_toArray, List.set_cons_zero, List.set_cons_succ])
        refine tkE 8 srA8 rfl (by kernel_rfl) (fun K hK => ?_)
        go_simp
        (refine (CT.out _ (by first | with_reducible exact k00 | ((repeat (first | with_reducible refine Kp.trans ?_ (Kp.drew _) | with_reducible refine Kp.trans ?_ (Kp.alloc _ _))); with_reducible exact k00))).mono ?_; rintro e wt ⟨vt, rfl, ot, kq1⟩; have kkt : Kp w4 wt := Kp.trans (show Kp w4 _ from (by first | with_reducible exact k00 | ((repeat (first | with_reducible refine Kp.trans ?_ (Kp.drew _) | with_reducible refine Kp.trans ?_ (Kp.alloc _ _))); with_reducible exact k00))) kq1; have OT := Lib.hid ot; obtain ⟨at1, lt1, rfl⟩ := ot.slice; have dt := cell_up kkt d5; clear kq1 ot)
        (try go_wp2_with fail)
        refine hK.out _ _ ?_ (fun hHeld2 => ?_)
        ·(try dsimp only); exact KS.out _ (by first | with_reducible exact kkt | ((repeat (first | with_reducible refine Kp.trans ?_ (Kp.drew _) | with_reducible refine Kp.trans ?_ (Kp.alloc _ _))); with_reducible exact kkt))
        clear hK K hHeld1
        (try simp only [Act.put, srA8, List.setIfInBounds_toArray, List.set_cons_zero, List.set_cons_succ])
        refine tkE 9 srA9 rfl (by kernel_rfl) (fun K hK => ?_)
        (refine step_app rfl (.tmp 36) (.tmp 39) 30 rfl (w.heap.size + 3) 36 i0 _ 2 16 Tryz.underlying30 hi hz0 hz1 hz2 rfl (by decide) (.slice a7 Q.length l7) Q.length (cellsR Q) (by simp [Act.eval, Act.put]) (own_kp OW.out (show Kp w4 _ from (by first | with_reducible exact kkt | ((repeat (first | with_reducible refine Kp.trans ?_ (Kp.drew _) | with_reducible refine Kp.trans ?_ (Kp.alloc _ _))); with_reducible exact kkt)))) (.slice at1 PF.length lt1) PF.length (cellsR PF) (by simp [Act.eval, Act.put]) (OT.out.runs.kp (by first | with_reducible exact (Kp.refl wt) | ((repeat (first | with_reducible refine Kp.trans ?_ (Kp.drew _) | with_reducible refine Kp.trans ?_ (Kp.alloc _ _))); with_reducible exact (Kp.refl wt)))).src (by rw [cellsR_length]) (cells_one _) (by unfold maxLen; omega) (by omega) (Nat.le_trans bs (Kp.size2 (show Kp w4 _ from (by first | with_reducible exact kkt | ((repeat (first | with_reducible refine Kp.trans ?_ (Kp.drew _) | with_reducible refine Kp.trans ?_ (Kp.alloc _ _))); with_reducible exact kkt))))) ?_; intro v7 w6 hown hgrow hat; obtain ⟨a9, l9, rfl⟩ := own_sliceK hown; have BQ := B4.out.go (show Kp w4 _ from (by first | with_reducible exact kkt | ((repeat (first | with_reducible refine Kp.trans ?_ (Kp.drew _) | with_reducible refine Kp.trans ?_ (Kp.alloc _ _))); with_reducible exact kkt))); have RQ := RO4.out.kp (show Kp w4 _ from (by first | with_reducible exact kkt | ((repeat (first | with_reducible refine Kp.trans ?_ (Kp.drew _) | with_reducible refine Kp.trans ?_ (Kp.alloc _ _))); with_reducible exact kkt))); have AT := at_row (r := (⟨36, 2, .slice a9 (Q.length + PF.length) l9, (Q ++ PF).length, cellsR (Q ++ PF)⟩ : RowD)) HPV.out hat; have GG := grown_row HPV.out hgrow; have BF := Lib.hid (SBx.putP BQ hn6 (r := (⟨36, 2, .slice a9 (Q.length + PF.length) l9, (Q ++ PF).length, cellsR (Q ++ PF)⟩ : RowD)) (by (simp only; rw [List.length_append, cellsR_append]; exact hown)) GG AT); have ROF := Lib.hid ((RQ.put (i := n) (r := (⟨36, 2, .slice a9 (Q.length + PF.length) l9, (Q ++ PF).length, cellsR (Q ++ PF)⟩ : RowD)) (by omega) GG AT).setCell (a := ⟨w.heap.size + 1, n, none⟩) (by simp) (.slice a9 (Q.length + PF.length) l9)); have RF := Lib.hid (HNn.out (.slice a9 (Q.length + PF.length) l9)); have g6 := grown_heap hgrow (heap_block (show Kp w4 _ from (by first | with_reducible exact kkt | ((repeat (first | with_reducible refine Kp.trans ?_ (Kp.drew _) | with_reducible refine Kp.trans ?_ (Kp.alloc _ _))); with_reducible exact kkt))) GB.out) (fun e => FR.out e); have d7 : w6.cell? ⟨w.heap.size + 1, n, none⟩ = some (.slice a7 Q.length l7) := (by simp [World.cell?, g6, PA.out]); have f7 : w6.frozen? ⟨w.heap.size + 1, n, none⟩ = false := (by simp [World.frozen?, g6]); have gl := grown_heap hgrow (heap_block (show Kp w4 _ from (by first | with_reducible exact kkt | ((repeat (first | with_reducible refine Kp.trans ?_ (Kp.drew _) | with_reducible refine Kp.trans ?_ (Kp.alloc _ _))); with_reducible exact kkt))) GL.out) (fun e => FL9.out e); clear BQ RQ AT GG hown hgrow hat g6)
        (try go_wp2_with fail)
        refine hK.out _ _ ?_ (fun hHeld3 => ?_)
        ·(try dsimp only); exact (row4 (heap_block (by first | with_reducible exact (Kp.refl w6) | ((repeat (first | with_reducible refine Kp.trans ?_ (Kp.drew _) | with_reducible refine Kp.trans ?_ (Kp.alloc _ _))); with_reducible exact (Kp.refl w6))) gl)).2.1
        clear hK K hHeld2
        (try simp only [Act.put, srA9, List.setIfInBounds_toArray, List.set_cons_zero, List.set_cons_succ])
        refine tkv 10 srA10 ?_
        (try simp only [Act.put, srA10, List.setIfInBounds_toArray, List.set_cons_zero, List.set_cons_succ])
        refine tkE 11 srA11 rfl (by kernel_rfl) (fun K hK => ?_)
        go_simp
        skip
        (try go_wp2_with fail)
        refine hK.out _ _ ?_ (fun hHeld4 => ?_)
        ·(try dsimp only); first | exact (row4 ((bx_other1 (by omega) _ _).trans (heap_block (by first | with_reducible exact (Kp.refl w6) | ((repeat (first | with_reducible refine Kp.trans ?_ (Kp.drew _) | with_reducible refine Kp.trans ?_ (Kp.alloc _ _))); with_reducible exact (Kp.refl w6))) gl))).2.1
        clear hK K hHeld3
        (try simp only [Act.put, srA11, List.setIfInBounds_toArray, List.set_cons_zero, List.set_cons_succ])
        refine wpAnyH_done (by kernel_rfl) ?_ _
        go_wp2
        go_roundw
        case rel => exact ⟨k + 1, _, _, by omega, SDn.out _, by go_num, BF, RF, ROF, OA2⟩
        case measure => simp [intOf]; omega
       ·go_simp
        (refine (CT.out _ (by first | with_reducible exact k00 | ((repeat (first | with_reducible refine Kp.trans ?_ (Kp.drew _) | with_reducible refine Kp.trans ?_ (Kp.alloc _ _))); with_reducible exact k00))).mono ?_; rintro e wt ⟨vt, rfl, ot, kq1⟩; have kkt : Kp w4 wt := Kp.trans (show Kp w4 _ from (by first | with_reducible exact k00 | ((repeat (first | with_reducible refine Kp.trans ?_ (Kp.drew _) | with_reducible refine Kp.trans ?_ (Kp.alloc _ _))); with_reducible exact k00))) kq1; have OT := Lib.hid ot; obtain ⟨at1, lt1, rfl⟩ := ot.slice; have dt := cell_up kkt d5; clear kq1 ot)
        (try go_wp2_with fail)
        refine hK.out _ _ ?_ (fun hHeld1 => ?_)
        ·(try dsimp only); exact KS.out _ (by first | with_reducible exact kkt | ((repeat (first | with_reducible refine Kp.trans ?_ (Kp.drew _) | with_reducible refine Kp.trans ?_ (Kp.alloc _ _))); with_reducible exact kkt))
        clear hK K hHeld0
        (try simp only [Act.put, srA8, List.setIfInBounds_toArray, List.set_cons_zero, List.set_cons_succ])
        refine tkE 5 srA5 rfl (by kernel_rfl) (fun K hK => ?_)
        go_simp
        skip
        (try go_wp2_with fail)
        refine hK.out _ _ ?_ (fun hHeld2 => ?_)
        ·(try dsimp only); exact KS.out _ (by first | with_reducible exact kkt | ((repeat (first | with_reducible refine Kp.trans ?_ (Kp.drew _) | with_reducible refine Kp.trans ?_ (Kp.alloc _ _))); with_reducible exact kkt))
        clear hK K hHeld1
        (try simp only [Act.put, srA5, List.setIfInBounds_toArray, List.set_cons_zero, List.set_cons_succ])
        refine tkE 9 srA9 rfl (by kernel_rfl) (fun K hK => ?_)
        (refine step_app rfl (.tmp 36) (.tmp 39) 30 rfl (w.heap.size + 3) 36 i0 _ 2 16 Tryz.underlying30 hi hz0 hz1 hz2 rfl (by decide) (.slice a7 Q.length l7) Q.length (cellsR Q) (by simp [Act.eval, Act.put]) (own_kp OW.out (show Kp w4 _ from (by first | with_reducible exact kkt | ((repeat (first | with_reducible refine Kp.trans ?_ (Kp.drew _) | with_reducible refine Kp.trans ?_ (Kp.alloc _ _))); with_reducible exact kkt)))) (.slice at1 PF.length lt1) PF.length (cellsR PF) (by simp [Act.eval, Act.put]) (OT.out.runs.kp (by first | with_reducible exact (Kp.refl wt) | ((repeat (first | with_reducible refine Kp.trans ?_ (Kp.drew _) | with_reducible refine Kp.trans ?_ (Kp.alloc _ _))); with_reducible exact (Kp.refl wt)))).src (by rw [cellsR_length]) (cells_one _) (by unfold maxLen; omega) (by omega) (Nat.le_trans bs (Kp.size2 (show Kp w4 _ from (by first | with_reducible exact kkt | ((repeat (first | with_reducible refine Kp.trans ?_ (Kp.drew _) | with_reducible refine Kp.trans ?_ (Kp.alloc _ _))); with_reducible exact kkt))))) ?_; intro v7 w6 hown hgrow hat; obtain ⟨a9, l9, rfl⟩ := own_sliceK hown; have BQ := B4.out.go (show Kp w4 _ from (by first | with_reducible exact kkt | ((repeat (first | with_reducible refine Kp.trans ?_ (Kp.drew _) | with_reducible refine Kp.trans ?_ (Kp.alloc _ _))); with_reducible exact kkt))); have RQ := RO4.out.kp (show Kp w4 _ from (by first | with_reducible exact kkt | ((repeat (first | with_reducible refine Kp.trans ?_ (Kp.drew _) | with_reducible refine Kp.trans ?_ (Kp.alloc _ _))); with_reducible exact kkt))); have AT := at_row (r := (⟨36, 2, .slice a9 (Q.length + PF.length) l9, (Q ++ PF).length, cellsR (Q ++ PF)⟩ : RowD)) HPV.out hat; have GG := grown_row HPV.out hgrow; have BF := Lib.hid (SBx.putP BQ hn6 (r := (⟨36, 2, .slice a9 (Q.length + PF.length) l9, (Q ++ PF).length, cellsR (Q ++ PF)⟩ : RowD)) (by (simp only; rw [List.length_append, cellsR_append]; exact hown)) GG AT); have ROF := Lib.hid ((RQ.put (i := n) (r := (⟨36, 2, .slice a9 (Q.length + PF.length) l9, (Q ++ PF).length, cellsR (Q ++ PF)⟩ : RowD)) (by omega) GG AT).setCell (a := ⟨w.heap.size + 1, n, none⟩) (by simp) (.slice a9 (Q.length + PF.length) l9)); have RF := Lib.hid (HNn.out (.slice a9 (Q.length + PF.length) l9)); have g6 := grown_heap hgrow (heap_block (show Kp w4 _ from (by first | with_reducible exact kkt | ((repeat (first | with_reducible refine Kp.trans ?_ (Kp.drew _) | with_reducible refine Kp.trans ?_ (Kp.alloc _ _))); with_reducible exact kkt))) GB.out) (fun e => FR.out e); have d7 : w6.cell? ⟨w.heap.size + 1, n, none⟩ = some (.slice a7 Q.length l7) := (by simp [World.cell?, g6, PA.out]); have f7 : w6.frozen? ⟨w.heap.size + 1, n, none⟩ = false := (by simp [World.frozen?, g6]); have gl := grown_heap hgrow (heap_block (show Kp w4 _ from (by first | with_reducible exact kkt | ((repeat (first | with_reducible refine Kp.trans ?_ (Kp.drew _) | with_reducible refine Kp.trans ?_ (Kp.alloc _ _))); with_reducible exact kkt))) GL.out) (fun e => FL9.out e); clear BQ RQ AT GG hown hgrow hat g6)
        (try go_wp2_with fail)
        refine hK.out _ _ ?_ (fun hHeld3 => ?_)
        ·(try dsimp only); exact (row4 (heap_block (by first | with_reducible exact (Kp.refl w6) | ((repeat (first | with_reducible refine Kp.trans ?_ (Kp.drew _) | with_reducible refine Kp.trans ?_ (Kp.alloc _ _))); with_reducible exact (Kp.refl w6))) gl)).2.1
        clear hK K hHeld2
        (try simp only [Act.put, srA9, List.setIfInBounds_toArray, List.set_cons_zero, List.set_cons_succ])
        refine tkv 10 srA10 ?_
        (try simp only [Act.put, srA10, List.setIfInBounds_toArray, List.set_cons_zero, List.set_cons_succ])
        refine tkE 11 srA11 rfl (by kernel_rfl) (fun K hK => ?_)
        go_simp
        skip
        (try go_wp2_with fail)
        refine hK.out _ _ ?_ (fun hHeld4 => ?_)
        ·(try dsimp only); first | exact (row4 ((bx_other1 (by omega) _ _).trans (heap_block (by first | with_reducible exact (Kp.refl w6) | ((repeat (first | with_reducible refine Kp.trans ?_ (Kp.drew _) | with_reducible refine Kp.trans ?_ (Kp.alloc _ _))); with_reducible exact (Kp.refl w6))) gl))).2.1
        clear hK K hHeld3
        (try simp only [Act.put, srA11, List.setIfInBounds_toArray, List.set_cons_zero, List.set_cons_succ])
        refine wpAnyH_done (by kernel_rfl) ?_ _
        go_wp2
        go_roundw
        case rel => exact ⟨k + 1, _, _, by omega, SDn.out _, by go_num, BF, RF, ROF, OA2⟩
        case measure => simp [intOf]; omega
   ·have OF := ON.out (Bool.eq_false_iff.2 fun h => hse (by simpa using h))
    have g2 := B3.out.b2
    have K9 := Lib.hid (BX.out.kp.trans (KA.out.trans K3.out))
    have d0 : w3.cell? ⟨w.heap.size, 0, none⟩ = some (.slice none 0 0) := (row2 g2).1
    have d1 : w3.cell? ⟨w.heap.size, 1, none⟩ = some (.slice none 0 0) := (row2 g2).2
    have f0 : w3.frozen? ⟨w.heap.size, 0, none⟩ = false := by simp [World.frozen?, g2]
    have f1 : w3.frozen? ⟨w.heap.size, 1, none⟩ = false := by simp [World.frozen?, g2]
    have g3 := bx_heap1 g2 0 (.slice none 0 0)
    have g4 := bx_heap1 g3 1 (.slice none 0 0)
    have e0 : ((w3.setCell ⟨w.heap.size, 0, none⟩ (.slice none 0 0)).setCell ⟨w.heap.size, 1, none⟩ (.slice none 0 0)).cell? ⟨w.heap.size, 0, none⟩ = some (.slice none 0 0) := (row2 g4).1
    have e1 : ((w3.setCell ⟨w.heap.size, 0, none⟩ (.slice none 0 0)).setCell ⟨w.heap.size, 1, none⟩ (.slice none 0 0)).cell? ⟨w.heap.size, 1, none⟩ = some (.slice none 0 0) := (row2 g4).2
    have PO := Lib.hid (show SPost l (.returned (.tuple #[.agg #[.slice none 0 0, .slice none 0 0], .bool false])) ((w3.setCell ⟨w.heap.size, 0, none⟩ (.slice none 0 0)).setCell ⟨w.heap.size, 1, none⟩ (.slice none 0 0)) ∧ Kp w ((w3.setCell ⟨w.heap.size, 0, none⟩ (.slice none 0 0)).setCell ⟨w.heap.size, 1, none⟩ (.slice none 0 0)) from ⟨⟨fun h => (by rw [OF] at h; cases h), fun _ => rfl⟩, kp_setCell2 (kp_setCell2 K9.out (Nat.le_refl _) _) (Nat.le_refl _) _⟩)
    clear g2 g3 g4 OF
    cases sb with
    | true =>
     cases eb with
     | true => exact absurd ⟨rfl, rfl⟩ hse
     | false =>
      clear hse
      go_wp2
      exact bodyPost_ret (v := .tuple #[.agg #[.slice none 0 0, .slice none 0 0], .bool false]) (by simp [results, Tryz.results32, go_sem, e0, e1]) rfl PO.out
    | false =>
     clear hse
     go_wp2
     exact bodyPost_ret (v := .tuple #[.agg #[.slice none 0 0, .slice none 0 0], .bool false]) (by simp [results, Tryz.results32, go_sem, e0, e1]) rfl PO.out
  ·have q1 : decide ((k : Int) < (l.length : Int)) = false := decide_eq_false (by omega)
   have ek : k = l.length := by omega
   subst ek
   rw [List.take_length] at RD OA
   have ow6 := BX.out.rws.own 6 (by decide)
   rw [RD.out.dy] at ow6
   simp only at ow6
   rw [HSD.out] at ow6
   obtain ⟨a7, l7, rfl⟩ := own_sliceK ow6
   have R6 := Lib.hid (runsAt_own ow6)
   have ld := len_dyL l
   have HN7 := Lib.hid (fun hd r6 v v1 v2 => SRe.start1 RD.out hd r6 v v1 v2)
   have HN0 := Lib.hid (fun hd => SRe.start0 RD.out hd)
   have i64 := Lib.hid (dyL_i64 (l := l))
   have ow7 := BX.out.rws.own 7 (by decide)
   rw [RD.out.lo] at ow7
   have lm := len_ms RD.out
   simp only at ow7
   generalize hD : dyL l = D at *
   have HD := Lib.hid hD
   clear ow6 hD
   go_upto_if 74 with fail
   go_cut [4] from 15 (fun s4 wx => ∃ (rs' : Nat → RowD) (m' : List OV), Hid (SLx w rs' wx) ∧ Hid (wx.heap[w.heap.size + 1]? = some (.cells (pbox rs) 91 (0, 0))) ∧ Hid (SRe l (fun u => (rs u).v) 0 rs' (fun _ => []) m') ∧ Hid (ReadsO wx (w.heap.size + 3) 9 rs' m'))
   case first =>
    by_cases hd : D.length = 0
    ·have g1 : decide ((D.length : Int) > 0) = false := decide_eq_false (by omega)
     have g2 : decide ((0 : Int) < (D.length : Int)) = false := decide_eq_false (by omega)
     have g3 : decide (0 < D.length) = false := decide_eq_false (by omega)
     have E0 := Lib.hid (HN0.out hd)
     clear HN0 HN7
     go_wp2
     go_meet
     case rel => exact ⟨rs, m, Lib.hid BX.out.slx, Lib.hid BX.out.b5, E0, RO⟩
    ·have g1 : decide ((D.length : Int) > 0) = true := decide_eq_true (by omega)
     have g2 : decide ((0 : Int) < (D.length : Int)) = true := decide_eq_true (by omega)
     have g3 : decide (0 < D.length) = true := decide_eq_true (by omega)
     have n64 := nf_len D
     obtain ⟨i0, hi, hz0, hz1, hz2⟩ := info_parts infoLoo
     go_wp2_with fail
     refine (make_any _ D wo R6.out i64.out (by omega)).mono ?_
     rintro e w2 ⟨vd, rfl, od, kd⟩
     obtain ⟨a8, l8, rfl⟩ := own_sliceK od
     have E1 := Lib.hid (fun v => HN7.out hd ⟨53, 2, .slice none 0 0, 0, []⟩ v (.slice a8 (nf D).length l8) (.slice a8 (nf D).length l8))
     have GP := Lib.hid (heap_block kd BX.out.b5)
     have B3 := (BX.out.go kd).putN (i := 6) rfl (r := ⟨53, 2, .slice none 0 0, 0, []⟩) (World.ownsRow_nil _ _ _ _) (grown_refl _ _) (.inr (.inl rfl))
     have D3 := (Own1.new BX.out.rws BX.out.sz od).put (i := 6) (by decide) (r := ⟨53, 2, .slice none 0 0, 0, []⟩) (grown_refl _ _) (.inr (.inl rfl))
     have RO3 := (RO.out.kp kd).put (i := 6) (by decide) (r := ⟨53, 2, .slice none 0 0, 0, []⟩) (grown_refl _ _) (.inr (.inl rfl))
     have P7 : putD rs 6 ⟨53, 2, .slice none 0 0, 0, []⟩ 7 = rs 7 := putD_ne _ _ (by decide)
     replace ow7 := own_kp ow7 kd
     have b6 := B3.b6
     have fr := B3.far (i := 7) (by decide) (k := w.heap.size + 2) (by omega)
     rw [P7] at b6 fr
     have HR := Lib.hid (show ∃ q, q = putD rs 6 ⟨53, 2, .slice none 0 0, 0, []⟩ from ⟨_, rfl⟩)
     generalize putD rs 6 ⟨53, 2, .slice none 0 0, 0, []⟩ = rt at *
     obtain ⟨so, hso⟩ : ∃ x, (rs 7).v = x := ⟨_, rfl⟩
     obtain ⟨sl, hsl⟩ : ∃ x, (rt 8).v = x := ⟨_, rfl⟩
     have hst : (rt 7).v = so := by rw [P7]; exact hso
     rw [hso] at ow7 b6 fr
     rw [hsl] at b6
     have HSO := Lib.hid hst
     clear hso hsl hst P7 HR
     obtain ⟨a3, l3, rfl⟩ := own_sliceK ow7
     obtain ⟨W5, hW5⟩ : ∃ x, x = w2.alloc (.cells #[.bool true, .slice a8 (nf D).length l8, .slice a8 (nf D).length l8] 93) := ⟨_, rfl⟩
     have k5 : Kp w2 W5 := by rw [hW5]; exact Kp.alloc _ _
     have g5 : W5.heap[w2.heap.size]? = some (.cells #[.bool true, .slice a8 (nf D).length l8, .slice a8 (nf D).length l8] 93 (0, 0)) := by rw [hW5]; exact heap_at _ _ _ rfl
     have SRC : SrcAt W5 (.slice (some ⟨w2.heap.size, 0, none⟩) 1 1) 1 [.bool true, .slice a8 (nf D).length l8, .slice a8 (nf D).length l8] := .inr ⟨_, _, rfl, World.news_of_block g5⟩
     have B5 := Lib.hid (B3.go k5)
     have RO5 := Lib.hid (RO3.kp k5)
     have A1 := Lib.hid (D3.kp k5)
     have OW := Lib.hid (own_kp ow7 k5)
     have GB := Lib.hid (heap_block k5 b6)
     have FR := Lib.hid fr
     have d6 : w2.cell? ⟨w.heap.size + 2, 1, none⟩ = some (.slice a3 m.length l3) := (row2 b6).2
     have HW5 := Lib.hid hW5
     have bs := B5.out.sz
     generalize nf D = ND at *
     have K5 := Lib.hid k5
     clear hW5 k5 g5 ow7 b6 fr HN0 HN7 od B3 D3 RO3
     go_wp2_with (at_builtin; refine Hid.out ?_)
     refine Lib.hid ?_
     rw [← HW5.out]
     refine wpList_app rfl (.tmp 78) (.tmp 82) 55 rfl (w.heap.size + 3) 93 i0 _ 3 56 Tryz.underlying55 hi hz0 hz1 hz2 rfl (by decide) _ m.length (cellsO m) rfl OW.out _ 1 _ rfl SRC (by simp) (by intro u hu; simp only [List.mem_cons, List.not_mem_nil, or_false] at hu; rcases hu with rfl | rfl | rfl <;> rfl) (by unfold maxLen; omega) (by omega) bs ?_
     intro v7 w6 hown hgrow hat
     obtain ⟨a9, l9, rfl⟩ := own_sliceK hown
     have e7 : (m ++ [((true, ND, ND), (.slice a8 ND.length l8, .slice a8 ND.length l8))] : List OV).length = m.length + 1 := by simp
     have AT := at_row (r := ⟨93, 3, .slice a9 (m.length + 1) l9, (m ++ [((true, ND, ND), (.slice a8 ND.length l8, .slice a8 ND.length l8))] : List OV).length, cellsO (m ++ [((true, ND, ND), (.slice a8 ND.length l8, .slice a8 ND.length l8))])⟩) HSO.out hat
     have GG := grown_row HSO.out hgrow
     have BF := B5.out.putO (r := ⟨93, 3, .slice a9 (m.length + 1) l9, (m ++ [((true, ND, ND), (.slice a8 ND.length l8, .slice a8 ND.length l8))] : List OV).length, cellsO (m ++ [((true, ND, ND), (.slice a8 ND.length l8, .slice a8 ND.length l8))])⟩) (by simp only; rw [e7, cellsO_append]; exact hown) GG AT
     have ROF := Lib.hid (ReadsO.add ((RO5.out.put (i := 7) (r := ⟨93, 3, .slice a9 (m.length + 1) l9, (m ++ [((true, ND, ND), (.slice a8 ND.length l8, .slice a8 ND.length l8))] : List OV).length, cellsO (m ++ [((true, ND, ND), (.slice a8 ND.length l8, .slice a8 ND.length l8))])⟩) (by decide) GG AT).setCell (a := ⟨w.heap.size + 2, 1, none⟩) (by simp) (.slice a9 (m.length + 1) l9)) (d := true) ((A1.out.put (i := 7) (r := ⟨93, 3, .slice a9 (m.length + 1) l9, (m ++ [((true, ND, ND), (.slice a8 ND.length l8, .slice a8 ND.length l8))] : List OV).length, cellsO (m ++ [((true, ND, ND), (.slice a8 ND.length l8, .slice a8 ND.length l8))])⟩) (by decide) GG AT).setCell (a := ⟨w.heap.size + 2, 1, none⟩) (by simp) (.slice a9 (m.length + 1) l9)) ((A1.out.put (i := 7) (r := ⟨93, 3, .slice a9 (m.length + 1) l9, (m ++ [((true, ND, ND), (.slice a8 ND.length l8, .slice a8 ND.length l8))] : List OV).length, cellsO (m ++ [((true, ND, ND), (.slice a8 ND.length l8, .slice a8 ND.length l8))])⟩) (by decide) GG AT).setCell (a := ⟨w.heap.size + 2, 1, none⟩) (by simp) (.slice a9 (m.length + 1) l9)))
     have RF := Lib.hid (E1.out (.slice a9 (m.length + 1) l9))
     have b6 := grown_heap hgrow GB.out (fun e => FR.out e)
     have d7 : w6.cell? ⟨w.heap.size + 2, 1, none⟩ = some (.slice a3 m.length l3) := (row2 b6).2
     have f7 : w6.frozen? ⟨w.heap.size + 2, 1, none⟩ = false := by simp [World.frozen?, b6]
     have B5F := Lib.hid (show (w6.setCell ⟨w.heap.size + 2, 1, none⟩ (.slice a9 (m.length + 1) l9)).heap[w.heap.size + 1]? = some (.cells (pbox rs) 91 (0, 0)) from (bx_other1 (by omega) _ _).trans (grown_heap hgrow (heap_block K5.out GP.out) (fun e => by have h := B5.out.far (i := 7) (by decide) (k := w.heap.size + 1) (by omega); rw [HSO.out] at h; exact h e)))
     have SF := Lib.hid BF.slx
     clear hown hgrow hat b6 e7 d6 AT GG BF
     go_wp2
     go_meet
     case rel => exact ⟨_, _, SF, B5F, RF, ROF⟩
   obtain ⟨rs', m', SX, GP, RE, ROx⟩ := hcut
   obtain ⟨w1, hw1⟩ : ∃ x, x = wc := ⟨_, rfl⟩
   subst hw1
   have gp := GP.out
   go_wp2_with (refine wpList_load_row rfl 91 (.tmp 5) rfl (w.heap.size + 1) rfl 91 (pbox rs) (0, 0) _ gp Tryz.underlying91 rfl (by exact six_info) ?_)
   clear gp RD RO BX HSD HN0 HN7 R6 ow7 lm ld i64 HD
   go_loopw [86] (fun i wr => ∃ (k : Nat) (rs2 : Nat → RowD) (Ls : Nat → List R), k ≤ 6 ∧ i = .int .i64 k ∧ Hid (SLx w rs2 wr) ∧ Hid (SRe l (fun u => (rs u).v) k rs2 Ls m') ∧ Hid (ReadsO wr (w.heap.size + 3) 9 rs2 m')) (fun i _ => 6 - (intOf i).toNat)
   case atStart => exact ⟨0, rs', _, by omega, rfl, SX, RE, ROx⟩
   case round =>
    obtain ⟨k, rs2, Ls, hk, rfl, SX2, RE2, RO2⟩ := hrel
    obtain ⟨wq, hwq⟩ : ∃ x, x = wr := ⟨_, rfl⟩
    subst hwq
    have ow8 := SX2.out.rws.own 8 (by decide)
    rw [RE2.out.li] at ow8
    simp only at ow8
    obtain ⟨lv, hlv⟩ : ∃ x, (rs2 8).v = x := ⟨_, rfl⟩
    have b6 := SX2.out.b6
    rw [hlv] at ow8 b6
    obtain ⟨a8, l8, rfl⟩ := own_sliceK ow8
    by_cases hlt : k < 6
    ·have q1 : decide ((k : Int) < 6) = true := decide_eq_true (by omega)
     have q2 : decide (k < 6) = true := decide_eq_true hlt
     obtain ⟨si, hsi⟩ := prs_info
     have nk := pbox_at rs hlt
     have ow := SX2.out.rws.own k (by omega)
     have rv : (rs2 k).v = (rs k).v := by rw [RE2.out.pr k (Nat.le_refl _) hlt]
     rw [RE2.out.pr k (Nat.le_refl _) hlt] at ow
     simp only at ow
     obtain ⟨pv, hpv⟩ : ∃ x, (rs k).v = x := ⟨_, rfl⟩
     rw [hpv] at ow nk rv
     obtain ⟨a7, l7, rfl⟩ := own_sliceK ow
     have lp := len_prL (k : Int) l (fun f hf => (okAll_iff OA.out f hf).1)
     have PS := Lib.hid (psortV (prL l (k : Int)) wq ow rfl (by omega))
     have RV := Lib.hid rv
     have HLV := Lib.hid hlv
     have HLT := Lib.hid hlt
     have NX := Lib.hid (fun v v8 L h1 h2 h3 => RE2.out.next (v := v) (v8 := v8) (L := L) hlt h1 h2 h3)
     have RSR := Lib.hid (fun L h1 h2 => riseP_sorted (l := l) (u := (k : Int)) (L := L) h1 h2)
     generalize hXS : (List.range k).map (fun u => (rs2 u).v) = XS at *
     generalize hQ : prL l (k : Int) = Q at *
     have xl : XS.length = k := by rw [← hXS]; simp
     have XL := Lib.hid xl
     have OW8 := Lib.hid ow8
     have GB6 := Lib.hid b6
     clear hQ hXS hpv rv hlv ow b6 ow8 xl
     go_wp2_with (refine wpList_index_sl rfl 91 30 (.tmp 85) (.tmp 86) rfl 6 (pbox rs) k _ si rfl rfl Tryz.underlying91 hlt Tryz.isAgg30 hsi prs_cells nk ?_)
     refine PS.out.mono ?_
     rintro e w2 ⟨L1, rfl, h1, h2, h3, h4, h5⟩
     have S2 := Lib.hid (SX2.out.putP (i := k) (r := ⟨36, 2, .slice a7 Q.length l7, Q.length, cellsR L1⟩) hlt h4 (by rw [RV.out]; exact h5) (by rw [RV.out]))
     have RO3 := Lib.hid (RO2.out.put (i := k) (r := ⟨36, 2, .slice a7 Q.length l7, Q.length, cellsR L1⟩) (by omega) (by rw [RV.out]; exact h5) (.inl (by rw [RV.out])))
     have F6 := Lib.hid (show (Value.slice a7 Q.length l7).ownBlock ≠ some (w.heap.size + 2) from fun e => by have h := SX2.out.far (i := k) (by omega) (k := w.heap.size + 2) (by omega); rw [RV.out] at h; exact h e)
     have F8 := Lib.hid (show (Value.slice a8 k l8).ownBlock ≠ some (w.heap.size + 2) from fun e => by have h := SX2.out.far (i := 8) (by omega) (k := w.heap.size + 2) (by omega); rw [HLV.out] at h; exact h e)
     have A8 := Lib.hid (show ∀ b, (Value.slice a7 Q.length l7).ownBlock = some b → (Value.slice a8 k l8).ownBlock ≠ some b from fun b e e2 => by have h := SX2.out.rws.apart k 8 (by omega) (by decide) (by omega) b; rw [RV.out, HLV.out] at h; exact h e e2)
     have O2 := Lib.hid (own_farR OW8.out h5 A8.out)
     have G2 := Lib.hid (grown_heap h5 GB6.out F6.out)
     have CC := Lib.hid (fun W (kq : Kp w2 W) => compactW L1 W kq (own_kp h4 kq) h1 (RSR.out L1 h2 h3) (by omega))
     have M1 := Lib.hid h2
     have d6 : w2.cell? ⟨w.heap.size + 2, 0, none⟩ = some (.slice a8 k l8) := (row2 G2.out).1
     have k00 : Kp w2 w2 := Kp.refl _
     obtain ⟨i0, hi, hz0, hz1, hz2⟩ := info_parts infoLi
     have bs := S2.out.sz
     have k6 : k ≤ 6 := hk
     clear h1 h2 h3 h4 h5 SX2 RE2 RO2 PS nk
     go_upto_region 25 with fail
     refine wp_region_held_drew (S := fun w' => True) (by kernel_rfl) ?_ (fun hHeld0 => ?_)
     ·(try dsimp only); (try trivial)
     refine tkv 0 srB0 ?_
     (try simp only [Act.put, srB0, List.setIfInBounds_toArray, List.set_cons_zero, List.set_cons_succ])
     refine tkv 2 srB2 ?_
     (try simp only [Act.put, srB2, List.setIfInBounds_toArray, List.set_cons_zero, List.set_cons_succ])
     refine tkE2 1 3 srB1 srB3 rfl rfl (by kernel_rfl) (fun K hK => ?_) (fun K hK => ?_)
     ·go_simp
      skip
      (try go_wp2_with fail)
      refine hK.out _ _ ?_ (fun hHeld1 => ?_)
      ·(try dsimp only); (try trivial)
      clear hK K hHeld0
      (try simp only [Act.put, srB1, List.setIfInBounds_toArray, List.set_cons_zero, List.set_cons_succ])
      refine tkE 3 srB3 rfl (by kernel_rfl) (fun K hK => ?_)
      go_simp
      (refine (CC.out _ (by first | with_reducible exact k00 | ((repeat (first | with_reducible refine Kp.trans ?_ (Kp.drew _) | with_reducible refine Kp.trans ?_ (Kp.alloc _ _))); with_reducible exact k00))).mono ?_; rintro e wy ⟨vc, Lc, rfl, g1, g2, g3, g4, g5, g6, kw⟩; obtain ⟨ac, lc, rfl⟩ := own_sliceK g4; have gr := grown_row (putD_v rs2 k (⟨36, 2, .slice a7 Q.length l7, Q.length, cellsR L1⟩ : RowD)) g6; have SC0 := SLx.putP (S2.out.go kw) HLT.out (r := (⟨36, 2, .slice ac Lc.length lc, Lc.length, cellsR Lc⟩ : RowD)) g4 gr (by (rw [putD_at]; exact g5)); have RC0 := (RO3.out.kp kw).put (i := k) (r := (⟨36, 2, .slice ac Lc.length lc, Lc.length, cellsR Lc⟩ : RowD)) (by (have := HLT.out; omega)) gr (.inl (by (rw [putD_at]; exact g5))); rw [putD_twice] at SC0 RC0; have SC := Lib.hid SC0; have RC := Lib.hid RC0; have OC := Lib.hid (own_farR (own_kp O2.out kw) g6 A8.out); have GC := Lib.hid (grown_heap g6 (heap_block kw G2.out) F6.out); have dy := (row2 GC.out).1; have NC := Lib.hid (fun v8 => NX.out (.slice ac Lc.length lc) v8 Lc (fun p => (g2 p).trans (M1.out p)) g3 g1); have bsy := SC.out.sz; have nb : ¬ (w.heap.size + 2 = wy.heap.size) := (by omega); have lb : w.heap.size + 2 < wy.heap.size := (by omega); have kky : Kp wy wy := Kp.refl _; clear SC0 RC0 g1 g2 g3 g4 g5 g6 gr kw)
      (try go_wp2_with fail)
      refine hK.out _ _ ?_ (fun hHeld2 => ?_)
      ·(try dsimp only); (try trivial)
      clear hK K hHeld1
      (try simp only [Act.put, srB3, List.setIfInBounds_toArray, List.set_cons_zero, List.set_cons_succ])
      refine tkE 4 srB4 rfl (by kernel_rfl) (fun K hK => ?_)
      go_simp
      skip
      (try go_wp2_with fail)
      refine hK.out _ _ ?_ (fun hHeld3 => ?_)
      ·(try dsimp only); (try trivial)
      clear hK K hHeld2
      (try simp only [Act.put, srB4, List.setIfInBounds_toArray, List.set_cons_zero, List.set_cons_succ])
      refine tkE 5 srB5 rfl (by kernel_rfl) (fun K hK => ?_)
      (refine step_app rfl (.tmp 92) (.tmp 95) 54 rfl (w.heap.size + 3) 99 i0 _ 1 24 Tryz.underlying54 hi hz0 hz1 hz2 rfl (by decide) (.slice a8 k l8) k XS (by simp [Act.eval, Act.put]) (own_kp OC.out (show Kp wy _ from (by first | with_reducible exact kky | ((repeat (first | with_reducible refine Kp.trans ?_ (Kp.drew _) | with_reducible refine Kp.trans ?_ (Kp.alloc _ _))); with_reducible exact kky)))) (.slice (some ⟨wy.heap.size, 0, none⟩) 1 1) 1 [.slice ac Lc.length lc] (by simp [Act.eval, Act.put]) (.inr ⟨_, _, rfl, World.news_of_block (heap_at _ _ _ rfl)⟩) (by simp) (by intro u hu; rw [List.mem_singleton.1 hu]; rfl) (by unfold maxLen; omega) (by omega) (Nat.le_trans bsy (Kp.size2 (show Kp wy _ from (by first | with_reducible exact kky | ((repeat (first | with_reducible refine Kp.trans ?_ (Kp.drew _) | with_reducible refine Kp.trans ?_ (Kp.alloc _ _))); with_reducible exact kky))))) ?_; intro v9 w9 hown hgrow hat; obtain ⟨a9, l9, rfl⟩ := own_sliceK hown; have H8 : (putD rs2 k (⟨36, 2, .slice ac Lc.length lc, Lc.length, cellsR Lc⟩ : RowD) 8).v = .slice a8 k l8 := (by (rw [putD_ne _ _ (by (have := HLT.out; omega))]; exact HLV.out)); have AT := at_row (r := (⟨99, 1, .slice a9 (k + 1) l9, k + 1, XS ++ [.slice ac Lc.length lc]⟩ : RowD)) H8 hat; have GG := grown_row H8 hgrow; have SF := Lib.hid (SLx.putL (SC.out.go (by first | with_reducible exact kky | ((repeat (first | with_reducible refine Kp.trans ?_ (Kp.drew _) | with_reducible refine Kp.trans ?_ (Kp.alloc _ _))); with_reducible exact kky))) (r := (⟨99, 1, .slice a9 (k + 1) l9, k + 1, XS ++ [.slice ac Lc.length lc]⟩ : RowD)) hown GG AT); have RF := Lib.hid (((RC.out.kp (by first | with_reducible exact kky | ((repeat (first | with_reducible refine Kp.trans ?_ (Kp.drew _) | with_reducible refine Kp.trans ?_ (Kp.alloc _ _))); with_reducible exact kky))).put (i := 8) (r := (⟨99, 1, .slice a9 (k + 1) l9, k + 1, XS ++ [.slice ac Lc.length lc]⟩ : RowD)) (by decide) GG AT).setCell (a := ⟨w.heap.size + 2, 0, none⟩) (by simp) (.slice a9 (k + 1) l9)); have NF := Lib.hid (NC.out (.slice a9 (k + 1) l9)); have g9 := grown_heap hgrow (heap_block (show Kp wy _ from (by first | with_reducible exact kky | ((repeat (first | with_reducible refine Kp.trans ?_ (Kp.drew _) | with_reducible refine Kp.trans ?_ (Kp.alloc _ _))); with_reducible exact kky))) GC.out) F8.out; have d9 := (row2 g9).1; have f9 : w9.frozen? ⟨w.heap.size + 2, 0, none⟩ = false := (by simp [World.frozen?, g9]); clear H8 AT GG hown hgrow hat g9)
      (try go_wp2_with fail)
      refine hK.out _ _ ?_ (fun hHeld4 => ?_)
      ·(try dsimp only); (try trivial)
      clear hK K hHeld3
      (try simp only [Act.put, srB5, List.setIfInBounds_toArray, List.set_cons_zero, List.set_cons_succ])
      refine tkv 6 srB6 ?_
      (try simp only [Act.put, srB6, List.setIfInBounds_toArray, List.set_cons_zero, List.set_cons_succ])
      refine tkE 7 srB7 rfl (by kernel_rfl) (fun K hK => ?_)
      go_simp
      skip
      (try go_wp2_with fail)
      refine hK.out _ _ ?_ (fun hHeld5 => ?_)
      ·(try dsimp only); (try trivial)
      clear hK K hHeld4
      (try simp only [Act.put, srB7, List.setIfInBounds_toArray, List.set_cons_zero, List.set_cons_succ])
      refine wpAnyH_done (by kernel_rfl) ?_ _
      go_wp2
      go_roundw
      case rel => exact ⟨k + 1, _, _, by have := HLT.out; omega, by go_num, SF, NF, RF⟩
      case measure => have := HLT.out; simp [intOf]; omega
     ·go_simp
      (refine (CC.out _ (by first | with_reducible exact k00 | ((repeat (first | with_reducible refine Kp.trans ?_ (Kp.drew _) | with_reducible refine Kp.trans ?_ (Kp.alloc _ _))); with_reducible exact k00))).mono ?_; rintro e wy ⟨vc, Lc, rfl, g1, g2, g3, g4, g5, g6, kw⟩; obtain ⟨ac, lc, rfl⟩ := own_sliceK g4; have gr := grown_row (putD_v rs2 k (⟨36, 2, .slice a7 Q.length l7, Q.length, cellsR L1⟩ : RowD)) g6; have SC0 := SLx.putP (S2.out.go kw) HLT.out (r := (⟨36, 2, .slice ac Lc.length lc, Lc.length, cellsR Lc⟩ : RowD)) g4 gr (by (rw [putD_at]; exact g5)); have RC0 := (RO3.out.kp kw).put (i := k) (r := (⟨36, 2, .slice ac Lc.length lc, Lc.length, cellsR Lc⟩ : RowD)) (by (have := HLT.out; omega)) gr (.inl (by (rw [putD_at]; exact g5))); rw [putD_twice] at SC0 RC0; have SC := Lib.hid SC0; have RC := Lib.hid RC0; have OC := Lib.hid (own_farR (own_kp O2.out kw) g6 A8.out); have GC := Lib.hid (grown_heap g6 (heap_block kw G2.out) F6.out); have dy := (row2 GC.out).1; have NC := Lib.hid (fun v8 => NX.out (.slice ac Lc.length lc) v8 Lc (fun p => (g2 p).trans (M1.out p)) g3 g1); have bsy := SC.out.sz; have nb : ¬ (w.heap.size + 2 = wy.heap.size) := (by omega); have lb : w.heap.size + 2 < wy.heap.size := (by omega); have kky : Kp wy wy := Kp.refl _; clear SC0 RC0 g1 g2 g3 g4 g5 g6 gr kw)
      (try go_wp2_with fail)
      refine hK.out _ _ ?_ (fun hHeld1 => ?_)
      ·(try dsimp only); (try trivial)
      clear hK K hHeld0
      (try simp only [Act.put, srB3, List.setIfInBounds_toArray, List.set_cons_zero, List.set_cons_succ])
      refine tkE2 1 4 srB1 srB4 rfl rfl (by kernel_rfl) (fun K hK => ?_) (fun K hK => ?_)
      ·go_simp
       skip
       (try go_wp2_with fail)
       refine hK.out _ _ ?_ (fun hHeld2 => ?_)
       ·(try dsimp only); (try trivial)
       clear hK K hHeld1
       (try simp only [Act.put, srB1, List.setIfInBounds_toArray, List.set_cons_zero, List.set_cons_succ])
       refine tkE 4 srB4 rfl (by kernel_rfl) (fun K hK => ?_)
       go_simp
       skip
       (try go_wp2_with fail)
       refine hK.out _ _ ?_ (fun hHeld3 => ?_)
       ·(try dsimp only); (try trivial)
       clear hK K hHeld2
       (try simp only [Act.put, srB4, List.setIfInBounds_toArray, List.set_cons_zero, List.set_cons_succ])
       refine tkE 5 srB5 rfl (by kernel_rfl) (fun K hK => ?_)
       (refine step_app rfl (.tmp 92) (.tmp 95) 54 rfl (w.heap.size + 3) 99 i0 _ 1 24 Tryz.underlying54 hi hz0 hz1 hz2 rfl (by decide) (.slice a8 k l8) k XS (by simp [Act.eval, Act.put]) (own_kp OC.out (show Kp wy _ from (by first | with_reducible exact kky | ((repeat (first | with_reducible refine Kp.trans ?_ (Kp.drew _) | with_reducible refine Kp.trans ?_ (Kp.alloc _ _))); with_reducible exact kky)))) (.slice (some ⟨wy.heap.size, 0, none⟩) 1 1) 1 [.slice ac Lc.length lc] (by simp [Act.eval, Act.put]) (.inr ⟨_, _, rfl, World.news_of_block (heap_at _ _ _ rfl)⟩) (by simp) (by intro u hu; rw [List.mem_singleton.1 hu]; rfl) (by unfold maxLen; omega) (by omega) (Nat.le_trans bsy (Kp.size2 (show Kp wy _ from (by first | with_reducible exact kky | ((repeat (first | with_reducible refine Kp.trans ?_ (Kp.drew _) | with_reducible refine Kp.trans ?_ (Kp.alloc _ _))); with_reducible exact kky))))) ?_; intro v9 w9 hown hgrow hat; obtain ⟨a9, l9, rfl⟩ := own_sliceK hown; have H8 : (putD rs2 k (⟨36, 2, .slice ac Lc.length lc, Lc.length, cellsR Lc⟩ : RowD) 8).v = .slice a8 k l8 := (by (rw [putD_ne _ _ (by (have := HLT.out; omega))]; exact HLV.out)); have AT := at_row (r := (⟨99, 1, .slice a9 (k + 1) l9, k + 1, XS ++ [.slice ac Lc.length lc]⟩ : RowD)) H8 hat; have GG := grown_row H8 hgrow; have SF := Lib.hid (SLx.putL (SC.out.go (by first | with_reducible exact kky | ((repeat (first | with_reducible refine Kp.trans ?_ (Kp.drew _) | with_reducible refine Kp.trans ?_ (Kp.alloc _ _))); with_reducible exact kky))) (r := (⟨99, 1, .slice a9 (k + 1) l9, k + 1, XS ++ [.slice ac Lc.length lc]⟩ : RowD)) hown GG AT); have RF := Lib.hid (((RC.out.kp (by first | with_reducible exact kky | ((repeat (first | with_reducible refine Kp.trans ?_ (Kp.drew _) | with_reducible refine Kp.trans ?_ (Kp.alloc _ _))); with_reducible exact kky))).put (i := 8) (r := (⟨99, 1, .slice a9 (k + 1) l9, k + 1, XS ++ [.slice ac Lc.length lc]⟩ : RowD)) (by decide) GG AT).setCell (a := ⟨w.heap.size + 2, 0, none⟩) (by simp) (.slice a9 (k + 1) l9)); have NF := Lib.hid (NC.out (.slice a9 (k + 1) l9)); have g9 := grown_heap hgrow (heap_block (show Kp wy _ from (by first | with_reducible exact kky | ((repeat (first | with_reducible refine Kp.trans ?_ (Kp.drew _) | with_reducible refine Kp.trans ?_ (Kp.alloc _ _))); with_reducible exact kky))) GC.out) F8.out; have d9 := (row2 g9).1; have f9 : w9.frozen? ⟨w.heap.size + 2, 0, none⟩ = false := (by simp [World.frozen?, g9]); clear H8 AT GG hown hgrow hat g9)
       (try go_wp2_with fail)
       refine hK.out _ _ ?_ (fun hHeld4 => ?_)
       ·(try dsimp only); (try trivial)
       clear hK K hHeld3
       (try simp only [Act.put, srB5, List.setIfInBounds_toArray, List.set_cons_zero, List.set_cons_succ])
       refine tkv 6 srB6 ?_
       (try simp only [Act.put, srB6, List.setIfInBounds_toArray, List.set_cons_zero, List.set_cons_succ])
       refine tkE 7 srB7 rfl (by kernel_rfl) (fun K hK => ?_)
       go_simp
       skip
       (try go_wp2_with fail)
       refine hK.out _ _ ?_ (fun hHeld5 => ?_)
       ·(try dsimp only); (try trivial)
       clear hK K hHeld4
       (try simp only [Act.put, srB7, List.setIfInBounds_toArray, List.set_cons_zero, List.set_cons_succ])
       refine wpAnyH_done (by kernel_rfl) ?_ _
       go_wp2
       go_roundw
       case rel => exact ⟨k + 1, _, _, by have := HLT.out; omega, by go_num, SF, NF, RF⟩
       case measure => have := HLT.out; simp [intOf]; omega
      ·go_simp
       skip
       (try go_wp2_with fail)
       refine hK.out _ _ ?_ (fun hHeld2 => ?_)
       ·(try dsimp only); (try trivial)
       clear hK K hHeld1
       (try simp only [Act.put, srB4, List.setIfInBounds_toArray, List.set_cons_zero, List.set_cons_succ])
       refine tkE 1 srB1 rfl (by kernel_rfl) (fun K hK => ?_)
       go_simp
       skip
       (try go_wp2_with fail)
       refine hK.out _ _ ?_ (fun hHeld3 => ?_)
       ·(try dsimp only); (try trivial)
       clear hK K hHeld2
       (try simp only [Act.put, srB1, List.setIfInBounds_toArray, List.set_cons_zero, List.set_cons_succ])
       refine tkE 5 srB5 rfl (by kernel_rfl) (fun K hK => ?_)
       (refine step_app rfl (.tmp 92) (.tmp 95) 54 rfl (w.heap.size + 3) 99 i0 _ 1 24 Tryz.underlying54 hi hz0 hz1 hz2 rfl (by decide) (.slice a8 k l8) k XS (by simp [Act.eval, Act.put]) (own_kp OC.out (show Kp wy _ from (by first | with_reducible exact kky | ((repeat (first | with_reducible refine Kp.trans ?_ (Kp.drew _) | with_reducible refine Kp.trans ?_ (Kp.alloc _ _))); with_reducible exact kky)))) (.slice (some ⟨wy.heap.size, 0, none⟩) 1 1) 1 [.slice ac Lc.length lc] (by simp [Act.eval, Act.put]) (.inr ⟨_, _, rfl, World.news_of_block (heap_at _ _ _ rfl)⟩) (by simp) (by intro u hu; rw [List.mem_singleton.1 hu]; rfl) (by unfold maxLen; omega) (by omega) (Nat.le_trans bsy (Kp.size2 (show Kp wy _ from (by first | with_reducible exact kky | ((repeat (first | with_reducible refine Kp.trans ?_ (Kp.drew _) | with_reducible refine Kp.trans ?_ (Kp.alloc _ _))); with_reducible exact kky))))) ?_; intro v9 w9 hown hgrow hat; obtain ⟨a9, l9, rfl⟩ := own_sliceK hown; have H8 : (putD rs2 k (⟨36, 2, .slice ac Lc.length lc, Lc.length, cellsR Lc⟩ : RowD) 8).v = .slice a8 k l8 := (by (rw [putD_ne _ _ (by (have := HLT.out; omega))]; exact HLV.out)); have AT := at_row (r := (⟨99, 1, .slice a9 (k + 1) l9, k + 1, XS ++ [.slice ac Lc.length lc]⟩ : RowD)) H8 hat; have GG := grown_row H8 hgrow; have SF := Lib.hid (SLx.putL (SC.out.go (by first | with_reducible exact kky | ((repeat (first | with_reducible refine Kp.trans ?_ (Kp.drew _) | with_reducible refine Kp.trans ?_ (Kp.alloc _ _))); with_reducible exact kky))) (r := (⟨99, 1, .slice a9 (k + 1) l9, k + 1, XS ++ [.slice ac Lc.length lc]⟩ : RowD)) hown GG AT); have RF := Lib.hid (((RC.out.kp (by first | with_reducible exact kky | ((repeat (first | with_reducible refine Kp.trans ?_ (Kp.drew _) | with_reducible refine Kp.trans ?_ (Kp.alloc _ _))); with_reducible exact kky))).put (i := 8) (r := (⟨99, 1, .slice a9 (k + 1) l9, k + 1, XS ++ [.slice ac Lc.length lc]⟩ : RowD)) (by decide) GG AT).setCell (a := ⟨w.heap.size + 2, 0, none⟩) (by simp) (.slice a9 (k + 1) l9)); have NF := Lib.hid (NC.out (.slice a9 (k + 1) l9)); have g9 := grown_heap hgrow (heap_block (show Kp wy _ from (by first | with_reducible exact kky | ((repeat (first | with_reducible refine Kp.trans ?_ (Kp.drew _) | with_reducible refine Kp.trans ?_ (Kp.alloc _ _))); with_reducible exact kky))) GC.out) F8.out; have d9 := (row2 g9).1; have f9 : w9.frozen? ⟨w.heap.size + 2, 0, none⟩ = false := (by simp [World.frozen?, g9]); clear H8 AT GG hown hgrow hat g9)
       (try go_wp2_with fail)
       refine hK.out _ _ ?_ (fun hHeld4 => ?_)
       ·(try dsimp only); (try trivial)
       clear hK K hHeld3
       (try simp only [Act.put, srB5, List.setIfInBounds_toArray, List.set_cons_zero, List.set_cons_succ])
       refine tkv 6 srB6 ?_
       (try simp only [Act.put, srB6, List.setIfInBounds_toArray, List.set_cons_zero, List.set_cons_succ])
       refine tkE 7 srB7 rfl (by kernel_rfl) (fun K hK => ?_)
       go_simp
       skip
       (try go_wp2_with fail)
       refine hK.out _ _ ?_ (fun hHeld5 => ?_)
       ·(try dsimp only); (try trivial)
       clear hK K hHeld4
       (try simp only [Act.put, srB7, List.setIfInBounds_toArray, List.set_cons_zero, List.set_cons_succ])
       refine wpAnyH_done (by kernel_rfl) ?_ _
       go_wp2
       go_roundw
       case rel => exact ⟨k + 1, _, _, by have := HLT.out; omega, by go_num, SF, NF, RF⟩
       case measure => have := HLT.out; simp [intOf]; omega
    ·have ek : k = 6 := by omega
     subst ek
     have q1 : decide (((6 : Nat) : Int) < 6) = false := by decide
     have ow7 := SX2.out.rws.own 7 (by decide)
     rw [RE2.out.lo] at ow7
     simp only at ow7
     obtain ⟨ov, hov⟩ : ∃ x, (rs2 7).v = x := ⟨_, rfl⟩
     rw [hov] at ow7 b6
     obtain ⟨a7, l7, rfl⟩ := own_sliceK ow7
     have b2 := SX2.out.b2
     have sz := SX2.out.sz
     have e0 : wq.cell? ⟨w.heap.size + 2, 0, none⟩ = some (.slice a8 6 l8) := (row2 b6).1
     have e1 : wq.cell? ⟨w.heap.size + 2, 1, none⟩ = some (.slice a7 m'.length l7) := (row2 b6).2
     have d0 : wq.cell? ⟨w.heap.size, 0, none⟩ = some (.slice none 0 0) := (row2 b2).1
     have d1 : wq.cell? ⟨w.heap.size, 1, none⟩ = some (.slice none 0 0) := (row2 b2).2
     have f0 : wq.frozen? ⟨w.heap.size, 0, none⟩ = false := by simp [World.frozen?, b2]
     have f1 : wq.frozen? ⟨w.heap.size, 1, none⟩ = false := by simp [World.frozen?, b2]
     have g3 := bx_heap1 b2 0 (.slice a8 6 l8)
     have g4 := bx_heap1 g3 1 (.slice a7 m'.length l7)
     have x0 : ((wq.setCell ⟨w.heap.size, 0, none⟩ (.slice a8 6 l8)).setCell ⟨w.heap.size, 1, none⟩ (.slice a7 m'.length l7)).cell? ⟨w.heap.size, 0, none⟩ = some (.slice a8 6 l8) := (row2 g4).1
     have x1 : ((wq.setCell ⟨w.heap.size, 0, none⟩ (.slice a8 6 l8)).setCell ⟨w.heap.size, 1, none⟩ (.slice a7 m'.length l7)).cell? ⟨w.heap.size, 1, none⟩ = some (.slice a7 m'.length l7) := (row2 g4).2
     have FA := fdOf_at (W := w) RE2.out ((SX2.out.rws.setCell (a := ⟨w.heap.size, 0, none⟩) (by simp) (.slice a8 6 l8)).setCell (a := ⟨w.heap.size, 1, none⟩) (by simp) (.slice a7 m'.length l7)) ((RO2.out.setCell (a := ⟨w.heap.size, 0, none⟩) (by simp) (.slice a8 6 l8)).setCell (a := ⟨w.heap.size, 1, none⟩) (by simp) (.slice a7 m'.length l7))
     rw [hlv, hov] at FA
     have PO := Lib.hid (show SPost l (.returned (.tuple #[.agg #[.slice a8 6 l8, .slice a7 m'.length l7], .bool true])) ((wq.setCell ⟨w.heap.size, 0, none⟩ (.slice a8 6 l8)).setCell ⟨w.heap.size, 1, none⟩ (.slice a7 m'.length l7)) ∧ Kp w ((wq.setCell ⟨w.heap.size, 0, none⟩ (.slice a8 6 l8)).setCell ⟨w.heap.size, 1, none⟩ (.slice a7 m'.length l7)) from ⟨⟨fun _ => ⟨_, fdOf l Ls, rfl, FA, fdOf_ok RE2.out OA.out hn, fdOf_has RE2.out OA.out⟩, fun h => (by have o := OA.out; rw [h] at o; cases o)⟩, kp_setCell2 (kp_setCell2 SX2.out.kp (Nat.le_refl _) _) (Nat.le_refl _) _⟩)
     clear g3 g4 b2 b6 FA hlv hov ow7 ow8
     go_wp2
     exact bodyPost_ret (v := .tuple #[.agg #[.slice a8 6 l8, .slice a7 m'.length l7], .bool true]) (by simp [results, Tryz.results32, go_sem, x0, x1]) rfl PO.out
open Classical in
noncomputable def bitsN (X : Nat → Prop) : Nat := (List.range 13).foldl (fun m r => if X r then m ||| 2 ^ r else m) 0
open Classical in
theorem bitsN_fold (X : Nat → Prop) : ∀ k, k ≤ 13 → (∀ r, r ≤ 12 → (((List.range k).foldl (fun m r => if X r then m ||| 2 ^ r else m) 0).testBit r = true ↔ r < k ∧ X r)) ∧ (List.range k).foldl (fun m r => if X r then m ||| 2 ^ r else m) 0 < 8192
 | 0, _ => ⟨fun r _ => by simp, by simp⟩
 | k + 1, h => by
  obtain ⟨h1, h2⟩ := bitsN_fold X k (by omega)
  rw [List.range_succ, List.foldl_append]
  simp only [List.foldl_cons, List.foldl_nil]
  by_cases c : X k
  ·rw [if_pos c]
   refine ⟨fun r hr => ?_, ask_lt h2 (by omega)⟩
   rw [ak_bit, h1 r hr]
   constructor
   ·rintro (⟨a, b⟩ | rfl)
    ·exact ⟨by omega, b⟩
    ·exact ⟨by omega, c⟩
   ·rintro ⟨a, b⟩
    by_cases e : r = k
    ·exact .inr e
    ·exact .inl ⟨by omega, b⟩
  ·rw [if_neg c]
   refine ⟨fun r hr => ?_, h2⟩
   rw [h1 r hr]
   constructor
   ·rintro ⟨a, b⟩; exact ⟨by omega, b⟩
   ·rintro ⟨a, b⟩
    by_cases e : r = k
    ·subst e; exact absurd b c
    ·exact ⟨by omega, b⟩
theorem bitsN_bit (X : Nat → Prop) {r : Nat} (hr : r ≤ 12) : (bitsN X).testBit r = true ↔ X r := by
 have := (bitsN_fold X 13 (Nat.le_refl _)).1 r hr
 unfold bitsN
 rw [this]
 exact ⟨And.right, fun h => ⟨by omega, h⟩⟩
theorem bitsN_lt (X : Nat → Prop) : bitsN X < 8192 := (bitsN_fold X 13 (Nat.le_refl _)).2
theorem mask_ext {a b : Nat} (ha : a < 8192) (hb : b < 8192) (h : ∀ r, r ≤ 12 → (a.testBit r = true ↔ b.testBit r = true)) : a = b := by
 apply Nat.eq_of_testBit_eq
 intro i
 by_cases c : i ≤ 12
 ·have := h i c
  cases x : a.testBit i <;> cases y : b.testBit i <;> simp_all
 ·have p : 8192 ≤ 2 ^ i := by
   have : 2 ^ 13 ≤ 2 ^ i := Nat.pow_le_pow_right (by decide) (by omega)
   omega
  rw [Nat.testBit_lt_two_pow (by omega), Nat.testBit_lt_two_pow (by omega)]
theorem bitsN_eq {m : Nat} {X : Nat → Prop} (h : m < 8192) (g : bitsP m 0 X) : m = bitsN X :=
 mask_ext h (bitsN_lt X) fun r hr => by rw [g r hr, bitsN_bit X hr]; simp
theorem bitsN_congr {X Y : Nat → Prop} (h : ∀ r, r ≤ 12 → (X r ↔ Y r)) : bitsN X = bitsN Y :=
 mask_ext (bitsN_lt X) (bitsN_lt Y) fun r hr => by rw [bitsN_bit X hr, bitsN_bit Y hr, h r hr]
def hasP (l : List LF) : Int → Int → Prop := fun S T => hasL l S T = true
theorem hasP_ok (l : List LF) : prOk (hasP l) := by
 intro S T h
 obtain ⟨f, _, g⟩ := List.any_eq_true.1 h
 have := hasF_le (famR_ok f) g
 omega
noncomputable def relOk (l m : List LF) : Bool := okAll l && okAll m
noncomputable def relM (l m : List LF) : Nat := if relOk l m = true then bitsN (relP (hasP l) (hasP m)) else 0
noncomputable def relE (l m : List LF) : Int := if relOk l m = true then 0 else 8
theorem relM_lt (l m : List LF) : relM l m < 8192 := by
 unfold relM
 split
 ·exact bitsN_lt _
 ·decide
theorem relM_bit {l m : List LF} (h : relOk l m = true) {r : Nat} (hr : r ≤ 12) : (relM l m).testBit r = true ↔ relP (hasP l) (hasP m) r := by
 unfold relM
 rw [if_pos h, bitsN_bit _ hr]
theorem relP_congr {P P' Q Q' : Int → Int → Prop} (h : ∀ S T, P S T ↔ P' S T) (g : ∀ S T, Q S T ↔ Q' S T) (r : Nat) : relP P Q r ↔ relP P' Q' r := by
 unfold relP
 simp only [h, g]
theorem FdAt.forms {w : World} {va vo : Value} {F : FdD} (h : FdAt w (.agg #[va, vo]) F) : (∃ b n c, va = .slice (some ⟨b, 0, none⟩) n c) ∧ ∃ a n c, vo = .slice a n c := by
 obtain ⟨vl, vo', e, h1, h2⟩ := h
 cases e
 obtain ⟨b, c, e⟩ := h1.open'
 obtain ⟨a, d, e2⟩ := h2.slice
 exact ⟨⟨_, _, _, e⟩, _, _, _, e2⟩
set_option maxHeartbeats 4000000 in
set_option maxRecDepth 100000 in
theorem relations_any (va vb : Value) (l m : List LF) (w : World) (ha : LeavesAt w va l) (hb : LeavesAt w vb m) (oa : LsOk l) (ob : LsOk m) (na : l.length ≤ 100) (nb : m.length ≤ 100) (T : Tabs w) :
  Calls Tryz.prog 13 #[va, vb] w fun e w' => e = .returned (.tuple #[.int .i64 ((relM l m : Nat) : Int), .int .i64 (relE l m)]) ∧ Kp w w' := by
 have C1 := Lib.hid (sorted_any va l w ha oa na T)
 have C2 := Lib.hid (fun w1 (k : Kp w w1) => sorted_any vb m w1 (hb.kp k) ob nb (T.kp k))
 have CB := Lib.hid (fun fa fb F G w1 (h1 : FdAt w1 fa F) (h2 : FdAt w1 fb G) (h3 : FdOk F) (h4 : FdOk G) => between_any fa fb F G w1 h1 h2 h3 h4)
 have R0 : ¬ (okAll l = true ∧ okAll m = true) → Hid (relM l m = 0 ∧ relE l m = 8) := fun h => by
  have e : ¬ relOk l m = true := fun g => h (by unfold relOk at g; simpa using g)
  exact Lib.hid ⟨if_neg e, if_neg e⟩
 have R1 : okAll l = true ∧ okAll m = true → Hid (relM l m = bitsN (relP (hasP l) (hasP m)) ∧ relE l m = 0) := fun h => by
  have e : relOk l m = true := by unfold relOk; simpa using h
  exact Lib.hid ⟨if_pos e, if_pos e⟩
 have R1 := Lib.hid R1
 have R0 := Lib.hid R0
 generalize relM l m = M at *
 generalize relE l m = E at *
 clear ha hb oa ob T
 go_enter Tryz.func13, Tryz.ntmps13
 go_wp2_with fail
 refine C1.out.mono ?_
 rintro e w1 ⟨⟨p1, p2⟩, k1⟩
 cases hl : okAll l with
 | false =>
  have e := p2 hl
  subst e
  obtain ⟨e1, e2⟩ := (R0.out (by rw [hl]; simp)).out
  subst e1
  subst e2
  have K1 := Lib.hid k1
  clear p1 p2 hl k1 R0 R1
  go_wp2
  go_ret2
  exact ⟨rfl, K1.out.trans (by first | exact Kp.alloc _ _ | exact (Kp.alloc _ _).trans (Kp.alloc _ _) | exact Kp.refl _)⟩
 | true =>
  obtain ⟨fa, F, e, fA, oF, hF⟩ := p1 hl
  subst e
  have HF := Lib.hid hF
  obtain ⟨va1, vo1, rfl, -, -⟩ := id fA
  have FA := Lib.hid fA
  have OF := Lib.hid oF
  have HL := Lib.hid hl
  have K1 := Lib.hid k1
  have sl1 := fA.forms
  obtain ⟨⟨b1, n1, c1, rfl⟩, a1, m1, d1, rfl⟩ := sl1
  obtain ⟨V1, hV⟩ : ∃ x, x = w1.alloc (.cells #[.slice (some ⟨b1, 0, none⟩) n1 c1, .slice a1 m1 d1] 57) := ⟨_, rfl⟩
  have kv : Kp w1 V1 := by rw [hV]; exact Kp.alloc _ _
  have gv : V1.heap[w1.heap.size]? = some (.cells #[.slice (some ⟨b1, 0, none⟩) n1 c1, .slice a1 m1 d1] 57 (0, 0)) := by rw [hV]; exact heap_at _ _ _ rfl
  have G1 := Lib.hid gv
  have KV1 := Lib.hid (k1.trans kv)
  have HV := Lib.hid hV
  have KVV := Lib.hid kv
  clear p1 p2 hl k1 hF fA oF hV kv gv
  go_upto_region 4 with fail
  rw [← HV.out]
  clear HV
  go_wp2_with fail
  refine (C2.out _ KV1.out).mono ?_
  rintro e w2 ⟨⟨p1, p2⟩, k2⟩
  cases hm : okAll m with
  | false =>
   have e := p2 hm
   subst e
   obtain ⟨e1, e2⟩ := (R0.out (by rw [hm]; simp)).out
   subst e1
   subst e2
   have K2 := Lib.hid (KV1.out.trans k2)
   clear p1 p2 hm k2 R0 R1
   go_wp2
   go_ret2
   exact ⟨rfl, K2.out.trans (by first | exact Kp.alloc _ _ | exact (Kp.alloc _ _).trans (Kp.alloc _ _) | exact Kp.refl _)⟩
  | true =>
   obtain ⟨fb, G, e, fB, oG, hG⟩ := p1 hm
   subst e
   obtain ⟨vb1, vp1, rfl, -, -⟩ := id fB
   obtain ⟨e1, e2⟩ := (R1.out ⟨HL.out, hm⟩).out
   have HG := Lib.hid hG
   have E1 := Lib.hid e1
   subst e2
   have sl2 := fB.forms
   obtain ⟨⟨b2, n2, c2, rfl⟩, a2, m2, d2, rfl⟩ := sl2
   obtain ⟨V2, hV⟩ : ∃ x, x = w2.alloc (.cells #[.slice (some ⟨b2, 0, none⟩) n2 c2, .slice a2 m2 d2] 57) := ⟨_, rfl⟩
   have kv : Kp w2 V2 := by rw [hV]; exact Kp.alloc _ _
   have gv : V2.heap[w2.heap.size]? = some (.cells #[.slice (some ⟨b2, 0, none⟩) n2 c2, .slice a2 m2 d2] 57 (0, 0)) := by rw [hV]; exact heap_at _ _ _ rfl
   have CBB := Lib.hid (CB.out _ _ F G V2 (FA.out.kp (KVV.out.trans (k2.trans kv))) (fB.kp kv) OF.out oG)
   obtain ⟨x0, x1⟩ := row2 (heap_block (k2.trans kv) G1.out)
   obtain ⟨y0, y1⟩ := row2 gv
   have KV2 := Lib.hid (KV1.out.trans (k2.trans kv))
   have HV := Lib.hid hV
   clear p1 p2 hm k2 hG fB oG e1 R0 R1 CB FA OF C1 C2 G1 gv hV kv
   go_upto_region 7 with fail
   rw [← HV.out]
   clear HV
   go_wp2_with fail
   refine CBB.out.mono ?_
   rintro e w3 ⟨q, rfl, h1, h2, h3⟩
   have QE := Lib.hid (show q = M by rw [E1.out, bitsN_eq h1 h2]; exact bitsN_congr fun r _ => relP_congr HF.out HG.out r)
   have K3 := Lib.hid (KV2.out.trans h3)
   clear h1 h2 h3
   go_wp2
   go_ret2
   exact ⟨by rw [QE.out]; rfl, K3.out⟩
def Tabs20 (w : World) : Prop := Tabs w ∧ TabNM w
theorem Tabs20.kp {w w' : World} (h : Tabs20 w) (k : Kp w w') : Tabs20 w' := ⟨h.1.kp k, h.2.kp k⟩
noncomputable def canB (l m : List LF) (r : Int) : Bool := relOk l m && (invB r && (relM l m).testBit r.toNat)
noncomputable def mustB (l m : List LF) (k : Int) : Bool := relOk l m && (decide (relM l m ≠ 0) && decide (bits .andNot .i64 ((relM l m : Nat) : Int) k = 0))
theorem nm_eq {r : Int} (h : invB r = true) : (nm r).toList.isEmpty = false := by
 have bd : 0 ≤ r ∧ r ≤ 12 := by unfold invB at h; simpa using h
 unfold nm
 rw [if_pos h]
 obtain ⟨k, rfl⟩ := Int.eq_ofNat_of_zero_le bd.1
 have hk : k < 13 := by omega
 obtain rfl | rfl | rfl | rfl | rfl | rfl | rfl | rfl | rfl | rfl | rfl | rfl | rfl : k = 0 ∨ k = 1 ∨ k = 2 ∨ k = 3 ∨ k = 4 ∨ k = 5 ∨ k = 6 ∨ k = 7 ∨ k = 8 ∨ k = 9 ∨ k = 10 ∨ k = 11 ∨ k = 12 := by omega
 all_goals decide +kernel
theorem nm_no {r : Int} (h : invB r = false) : nm r = ByteArray.empty := by unfold nm; rw [h]; rfl
set_option maxHeartbeats 4000000 in
set_option maxRecDepth 100000 in
theorem can_any (va vb : Value) (l m : List LF) (r : Int) (w : World) (ha : LeavesAt w va l) (hb : LeavesAt w vb m) (oa : LsOk l) (ob : LsOk m) (na : l.length ≤ 100) (nb : m.length ≤ 100) (T : Tabs20 w) :
  Calls Tryz.prog 15 #[va, vb, .int .i64 r] w fun e w' => e = .returned (.bool (canB l m r)) ∧ Kp w w' := by
 have C := Lib.hid (relations_any va vb l m w ha hb oa ob na nb T.1)
 have CN := Lib.hid (fun w1 (k : Kp w w1) => name_any r w1 (T.2.kp k))
 have CB : canB l m r = (relOk l m && (invB r && (relM l m).testBit r.toNat)) := rfl
 have lt := Lib.hid (relM_lt l m)
 have RE : relE l m = if relOk l m = true then 0 else 8 := rfl
 rw [CB]
 generalize relM l m = M at *
 cases ho : relOk l m with
 | false =>
  rw [ho] at RE
  rw [RE] at C
  simp only [if_neg Bool.false_ne_true] at C
  clear RE CB ho ha hb oa ob T
  go_enter Tryz.func15, Tryz.ntmps15
  go_wp2_with fail
  refine C.out.mono ?_
  rintro e w1 ⟨rfl, k1⟩
  have K1 := Lib.hid k1
  clear k1
  go_wp2
  go_ret
  exact ⟨rfl, K1.out⟩
 | true =>
  rw [ho] at RE
  rw [RE] at C
  simp only [if_true] at C
  clear RE CB ho ha hb oa ob T
  cases hi : invB r with
  | false =>
   have en : (nm r).toList = ByteArray.empty.toList := by rw [nm_no hi]
   rw [nm_no hi] at CN
   clear hi en
   go_enter Tryz.func15, Tryz.ntmps15
   go_wp2_with fail
   refine C.out.mono ?_
   rintro e w1 ⟨rfl, k1⟩
   have K1 := Lib.hid k1
   clear k1
   go_wp2_with fail
   refine (CN.out _ K1.out).mono ?_
   rintro e w' ⟨rfl, rfl⟩
   go_wp2
   go_ret
   exact ⟨rfl, K1.out⟩
  | true =>
   have en := nm_eq hi
   have bd : 0 ≤ r ∧ r ≤ 12 := by unfold invB at hi; simpa using hi
   obtain ⟨j, rfl⟩ := Int.eq_ofNat_of_zero_le bd.1
   generalize nm (j : Int) = s at *
   have wp := ak_pow (x := j) (by omega)
   have A1 : bits .and .i64 (M : Int) (IntKind.i64.wrap (2 ^ j)) = ((M &&& 2 ^ j : Nat) : Int) := by rw [wp]; exact ak_and lt.out (ak_lt (by omega))
   have A1w : bits .and .i64 (M : Int) (wrap64 (2 ^ j)) = ((M &&& 2 ^ j : Nat) : Int) := by
    have w64 : wrap64 ((2 : Int) ^ j) = IntKind.i64.wrap (2 ^ j) := by generalize (2 : Int) ^ j = y; rw [IntKind.wrap_i64]; unfold wrap64; omega
    rw [w64]
    exact A1
   have AZ := ak_zero M j
   have z0 : (0 : Int) ≤ (j : Int) := by omega
   have z1 : (j : Int) ≤ 12 := by omega
   have BT := Lib.hid (show ∀ q : Bool, M.testBit j = q → (true && (true && M.testBit (j : Int).toNat)) = q from fun q h => by simpa using h)
   cases hbit : M.testBit j with
   | true =>
    have nz : ¬ (M &&& 2 ^ j = 0) := fun h => by rw [AZ.1 h] at hbit; cases hbit
    have BQ := BT.out _ hbit
    rw [BQ]
    generalize M &&& 2 ^ j = z at *
    have g1 : ((z : Int) == 0) = false := by simp; omega
    have g2 : ((z : Int) != 0) = true := by simp; omega
    have g4 : (z != 0) = true := by simp; omega
    have g3 : (z == 0) = false := by simp; omega
    clear AZ hbit BQ BT wp hi bd
    go_enter Tryz.func15, Tryz.ntmps15
    go_wp2_with fail
    refine C.out.mono ?_
    rintro e w1 ⟨rfl, k1⟩
    have K1 := Lib.hid k1
    clear k1
    go_wp2_with fail
    refine (CN.out _ K1.out).mono ?_
    rintro e w' ⟨rfl, rfl⟩
    go_wp2
    go_ret
    exact ⟨rfl, K1.out⟩
   | false =>
    have nz := AZ.2 hbit
    have BQ := BT.out _ hbit
    rw [BQ]
    generalize M &&& 2 ^ j = z at *
    have g1 : ((z : Int) == 0) = true := by rw [nz]; rfl
    have g2 : ((z : Int) != 0) = false := by rw [nz]; rfl
    have g4 : (z != 0) = false := by rw [nz]; rfl
    have g3 : (z == 0) = true := by rw [nz]; rfl
    clear AZ hbit BQ BT wp hi bd
    go_enter Tryz.func15, Tryz.ntmps15
    go_wp2_with fail
    refine C.out.mono ?_
    rintro e w1 ⟨rfl, k1⟩
    have K1 := Lib.hid k1
    clear k1
    go_wp2_with fail
    refine (CN.out _ K1.out).mono ?_
    rintro e w' ⟨rfl, rfl⟩
    go_wp2
    go_ret
    exact ⟨rfl, K1.out⟩
set_option maxHeartbeats 4000000 in
set_option maxRecDepth 100000 in
theorem must_any (va vb : Value) (l m : List LF) (k : Int) (w : World) (ha : LeavesAt w va l) (hb : LeavesAt w vb m) (oa : LsOk l) (ob : LsOk m) (na : l.length ≤ 100) (nb : m.length ≤ 100) (T : Tabs20 w) :
  Calls Tryz.prog 17 #[va, vb, .int .i64 k] w fun e w' => e = .returned (.bool (mustB l m k)) ∧ Kp w w' := by
 have C := Lib.hid (relations_any va vb l m w ha hb oa ob na nb T.1)
 have CB : mustB l m k = (relOk l m && (decide (relM l m ≠ 0) && decide (bits .andNot .i64 ((relM l m : Nat) : Int) k = 0))) := rfl
 have RE : relE l m = if relOk l m = true then 0 else 8 := rfl
 rw [CB]
 generalize relM l m = M at *
 cases ho : relOk l m with
 | false =>
  rw [ho] at RE
  rw [RE] at C
  simp only [if_neg Bool.false_ne_true] at C
  clear RE CB ho ha hb oa ob T
  go_enter Tryz.func17, Tryz.ntmps17
  go_wp2_with fail
  refine C.out.mono ?_
  rintro e w1 ⟨rfl, k1⟩
  have K1 := Lib.hid k1
  clear k1
  go_wp2
  go_ret
  exact ⟨rfl, K1.out⟩
 | true =>
  rw [ho] at RE
  rw [RE] at C
  simp only [if_true] at C
  clear RE CB ho ha hb oa ob T
  by_cases h0 : M = 0
  ·have e0 : (true && (decide (M ≠ 0) && decide (bits .andNot .i64 ((M : Nat) : Int) k = 0))) = false := by simp [h0]
   rw [e0]
   subst h0
   clear e0
   go_enter Tryz.func17, Tryz.ntmps17
   go_wp2_with fail
   refine C.out.mono ?_
   rintro e w1 ⟨rfl, k1⟩
   have K1 := Lib.hid k1
   clear k1
   go_wp2
   go_ret
   exact ⟨rfl, K1.out⟩
  ·have g1 : ((M : Int) == 0) = false := by simp; omega
   have g2 : ((M : Int) != 0) = true := by simp; omega
   have g3 : (M == 0) = false := by simp; omega
   have g5 : (M != 0) = true := by simp; omega
   have e0 : ∀ q : Bool, (true && (true && q)) = q := fun q => by simp
   rw [decide_eq_true (show M ≠ 0 from h0)]
   obtain ⟨q, hq⟩ : ∃ q : Bool, decide (bits .andNot .i64 ((M : Nat) : Int) k = 0) = q := ⟨_, rfl⟩
   rw [hq, e0]
   clear e0
   generalize hz : bits .andNot .i64 ((M : Nat) : Int) k = z at *
   have g4 : (z == 0) = q := by rw [← hq]; by_cases e : z = 0 <;> simp [e]
   clear h0 hq
   cases q with
   | true =>
    go_enter Tryz.func17, Tryz.ntmps17
    go_wp2_with fail
    refine C.out.mono ?_
    rintro e w1 ⟨rfl, k1⟩
    have K1 := Lib.hid k1
    clear k1
    go_wp2
    go_ret
    exact ⟨rfl, K1.out⟩
   | false =>
    go_enter Tryz.func17, Tryz.ntmps17
    go_wp2_with fail
    refine C.out.mono ?_
    rintro e w1 ⟨rfl, k1⟩
    have K1 := Lib.hid k1
    clear k1
    go_wp2
    go_ret
    exact ⟨rfl, K1.out⟩
def uniF (f : LF) : Int := 1 + if f.sp = false ∧ f.u ≠ 0 then sumR (nf f.a) else 0
def unitsN : List LF → Int
 | [] => 0
 | f :: l => uniF f + unitsN l
theorem unitsN_append (l m : List LF) : unitsN (l ++ m) = unitsN l + unitsN m := by
 induction l with
 | nil => simp [unitsN]
 | cons f l ih => simp only [List.cons_append, unitsN, ih]; omega
theorem unitsN_take {l : List LF} {k : Nat} (h : k < l.length) : unitsN (l.take (k + 1)) = unitsN (l.take k) + uniF (lat l k) := by
 rw [take_lat l k h, unitsN_append]
 simp [unitsN]
theorem sumN_bd (a : List R) (h : a.length ≤ 1000000) : 0 ≤ sumR (nf a) ∧ sumR (nf a) ≤ 2199023255553 := by
 obtain ⟨b1, b2⟩ := sumR_bd (nf a) (-1099511627776) (nf_sane a) (fun r t e => by have h := nf_sane a; rw [e] at h; exact (sane_head h).2.1) (by omega)
 omega
theorem uniF_bd (f : LF) (h : f.a.length ≤ 1000000) : 1 ≤ uniF f ∧ uniF f ≤ 2199023255554 := by
 have := sumN_bd f.a h
 unfold uniF
 split <;> omega
theorem unitsN_bd {l : List LF} (h : LsOk l) : 0 ≤ unitsN l ∧ unitsN l ≤ 2199023255554 * (l.length : Int) := by
 induction l with
 | nil => simp [unitsN]
 | cons f l ih =>
  have a := uniF_bd f (by have := (h f (by simp)).2.2.1; omega)
  have b := ih fun g hg => h g (by simp [hg])
  simp only [unitsN, List.length_cons]
  omega
set_option maxHeartbeats 16000000 in
set_option maxRecDepth 100000 in
theorem units20_any (v : Value) (l : List LF) (w : World) (hv : LeavesAt w v l) (hl : LsOk l) (hn : l.length ≤ 100) :
  Calls Tryz.prog 29 #[v] w fun e w' => e = .returned (.int .i64 (unitsN l)) ∧ Kp w w' := by
 obtain ⟨ad, cp, rfl⟩ := hv.slice
 have HV := Lib.hid hv
 have HL := Lib.hid hl
 have UT := Lib.hid (fun k (h : k < l.length) => unitsN_take (l := l) h)
 have UB := Lib.hid (fun k => unitsN_bd (l := l.take k) fun f hf => hl f (List.mem_of_mem_take hf))
 have UE := Lib.hid (show unitsN (l.take l.length) = unitsN l by rw [List.take_length])
 clear hv hl
 go_enter Tryz.func29, Tryz.ntmps29
 go_wp2
 go_loopw [3, 4] (fun n i wr => ∃ k : Nat, k ≤ l.length ∧ n = .int .i64 (unitsN (l.take k)) ∧ i = .int .i64 k ∧ Hid (Kp w wr)) (fun _ i _ => l.length - (intOf i).toNat)
 case atStart => exact ⟨0, Nat.zero_le _, rfl, rfl, Lib.hid (Kp.refl _)⟩
 case round =>
  obtain ⟨k, hk, rfl, rfl, J⟩ := hrel
  by_cases hlt : k < l.length
  ·have q1 : decide ((k : Int) < (l.length : Int)) = true := decide_eq_true (by omega)
   have ut := UT.out k hlt
   have b1 := UB.out k
   rw [List.length_take, Nat.min_eq_left (by omega)] at b1
   rcases HV.out.kp J.out with ⟨_, _, _, e⟩ | ⟨b0, off, cap, ev, hc, hmx, hx⟩
   ·rw [e] at hlt; simp at hlt
   cases ev
   obtain ⟨va, vb, d0, d1, d2, d3, ra, rb⟩ := hx k hlt
   have LOK := HL.out _ (lat_mem hlt)
   obtain ⟨f, hf⟩ : ∃ f, lat l k = f := ⟨_, rfl⟩
   rw [hf] at d0 d1 ra rb
   (try rw [hf] at LOK)
   obtain ⟨sp, u, a, b⟩ := f
   simp only at d0 d1 ra rb
   (try simp only at LOK)
   obtain ⟨aa, ca, rfl⟩ := ra.slice
   obtain ⟨ab, cb, rfl⟩ := rb.slice
   have HF := Lib.hid hf
   have z1 : (k : Int) < (l.length : Int) := by omega
   have z2 : (0 : Int) ≤ (k : Int) := by omega
   clear hx hc hmx hf
   have e1 : lat l k = ⟨sp, u, a, b⟩ := HF.out
   rw [e1] at ut
   have CC := Lib.hid (fun w1 (kk : Kp wr w1) => rcount_of _ (nf a) w1 (asR_any _ a w1 (ra.kp kk) LOK.1 (by have := LOK.2.2.1; omega)) (nf_sane a) (Nat.le_trans (nf_len a) (by have := LOK.2.2.1; omega)))
   have sb := sumN_bd a (by have := LOK.2.2.1; omega)
   have UT2 := Lib.hid ut
   generalize unitsN (l.take k) = n at *
   have wn : IntKind.i64.wrap (n + 1) = n + 1 := by rw [IntKind.wrap_i64]; omega
   have wm : IntKind.i64.wrap (n + 1 + sumR (nf a)) = n + 1 + sumR (nf a) := by rw [IntKind.wrap_i64]; omega
   obtain ⟨s, hs⟩ : ∃ s, sumR (nf a) = s := ⟨_, rfl⟩
   rw [hs] at CC sb wm
   have HS := Lib.hid hs
   clear hs
   clear ut e1 ra rb
   cases sp with
   | true =>
    have U3 := Lib.hid (show unitsN (l.take (k + 1)) = n + 1 by rw [UT2.out]; unfold uniF; rw [if_neg (by simp)]; omega)
    go_wp2
    go_roundw
    case rel => exact ⟨k + 1, by omega, by rw [U3.out], by go_num, J⟩
    case measure => simp [intOf]; omega
   | false =>
    by_cases hu : u = 0
    ·subst hu
     have U3 := Lib.hid (show unitsN (l.take (k + 1)) = n + 1 by rw [UT2.out]; unfold uniF; rw [if_neg (by simp)]; omega)
     go_wp2
     go_roundw
     case rel => exact ⟨k + 1, by omega, by rw [U3.out], by go_num, J⟩
     case measure => simp [intOf]; omega
    ·have g1 : (u == 0) = false := by simpa using hu
     have g2 : (!(u == 0)) = true := by rw [g1]; rfl
     have U3 := Lib.hid (show unitsN (l.take (k + 1)) = n + 1 + sumR (nf a) by rw [UT2.out]; unfold uniF; rw [if_pos ⟨rfl, hu⟩]; simp only; omega)
     go_wp2_with fail
     refine (CC.out _ (Kp.refl _)).mono ?_
     rintro e w2 ⟨rfl, k2⟩
     have J2 := Lib.hid (J.out.trans k2)
     clear k2
     go_wp2
     go_roundw
     case rel => exact ⟨k + 1, by omega, by rw [U3.out, HS.out], by go_num, J2⟩
     case measure => simp [intOf]; omega
  ·have q1 : decide ((k : Int) < (l.length : Int)) = false := decide_eq_false (by omega)
   have ek : k = l.length := by omega
   subst ek
   rw [UE.out]
   go_wp2
   go_ret
   exact ⟨rfl, J.out⟩
def few20 (l : List LF) : Bool := fewL l && decide (unitsN l ≤ 60)
theorem few20_ok {l : List LF} (h : few20 l = true) (g : ∀ f ∈ l, LeafG f) : LsOk l ∧ l.length ≤ 12 := by
 unfold few20 at h
 rw [Bool.and_eq_true] at h
 exact fewL_ok h.1 g
set_option maxHeartbeats 16000000 in
set_option maxRecDepth 100000 in
theorem few20_any (v : Value) (l : List LF) (w : World) (hv : LeavesAt w v l) (g : ∀ f ∈ l, LeafG f) :
  Calls Tryz.prog 12 #[v] w fun e w' => e = .returned (.bool (few20 l)) ∧ Kp w w' := by
 have C1 := Lib.hid (fewL_any v l w hv)
 have C2 := Lib.hid (fun (h : fewL l = true) w1 (k : Kp w w1) => units20_any v l w1 (hv.kp k) (fewL_ok h g).1 (by have := (fewL_ok h g).2; omega))
 have FE : few20 l = (fewL l && decide (unitsN l ≤ 60)) := rfl
 rw [FE]
 clear hv g FE
 generalize fewL l = q at *
 cases q with
 | false =>
  go_enter Tryz.func12, Tryz.ntmps12
  go_wp2_with fail
  refine C1.out.mono ?_
  rintro e w1 ⟨rfl, k1⟩
  have K1 := Lib.hid k1
  clear k1
  go_wp2
  go_ret
  exact ⟨rfl, K1.out⟩
 | true =>
  generalize unitsN l = n at *
  obtain ⟨q, hq⟩ : ∃ q : Bool, decide (n ≤ 60) = q := ⟨_, rfl⟩
  rw [hq]
  go_enter Tryz.func12, Tryz.ntmps12
  go_wp2_with fail
  refine C1.out.mono ?_
  rintro e w1 ⟨rfl, k1⟩
  have K1 := Lib.hid k1
  clear k1
  go_wp2_with fail
  refine (C2.out (by first | rfl | trivial) _ K1.out).mono ?_
  rintro e w2 ⟨rfl, k2⟩
  have K2 := Lib.hid (K1.out.trans k2)
  clear k2
  go_wp2
  go_ret
  exact ⟨rfl, K2.out⟩
def moF (lo hi' : Int) : LF := ⟨false, 1, [(lo, hi')], []⟩
def yr : LF := ⟨false, 3, [(1984, 1984)], []⟩
theorem leaf_one {w : World} {B : Nat} {u : Int} {va : Value} {a : List R} {T : TypeId} (h : w.heap[B]? = some (.cells #[.bool false, .int .i64 u, va, .slice none 0 0] T (0, 0))) (ha : RunsAt w va a) : LeavesAt w (.slice (some ⟨B, 0, none⟩) 1 1) [⟨false, u, a, []⟩] := by
 refine .inr ⟨B, 0, 1, rfl, Nat.le_refl _, by unfold maxLen; omega, fun i hi => ?_⟩
 obtain rfl : i = 0 := by simp at hi; omega
 obtain ⟨c0, c1, c2, c3⟩ := row4 h
 exact ⟨va, .slice none 0 0, c0, c1, c2, c3, ha, .inl ⟨_, _, rfl, rfl⟩⟩
set_option maxHeartbeats 2000000 in
theorem months_any (lo hi' : Int) (w : World) : Calls Tryz.prog 26 #[.int .i64 lo, .int .i64 hi'] w fun e w' => ∃ b, e = .returned (.slice (some ⟨b, 0, none⟩) 1 1) ∧ LeavesAt w' (.slice (some ⟨b, 0, none⟩) 1 1) [moF lo hi'] ∧ Kp w w' := by
 obtain ⟨W0, hW⟩ : ∃ W0, W0 = (w.alloc (.cells #[.int .i64 lo, .int .i64 hi'] 53)).alloc (.cells #[.bool false, .int .i64 1, .slice (some ⟨w.heap.size, 0, none⟩) 1 1, .slice none 0 0] 47) := ⟨_, rfl⟩
 have k0 : Kp w W0 := by rw [hW]; exact (Kp.alloc _ _).trans (Kp.alloc _ _)
 have g : W0.heap[w.heap.size + 1]? = some (.cells #[.bool false, .int .i64 1, .slice (some ⟨w.heap.size, 0, none⟩) 1 1, .slice none 0 0] 47 (0, 0)) := by rw [hW]; exact heap_at _ _ _ (by simp)
 have r : RunsAt W0 (.slice (some ⟨w.heap.size, 0, none⟩) 1 1) [(lo, hi')] := by rw [hW]; exact (one_at w lo hi' _).kp (Kp.alloc _ _)
 have D := Lib.hid (show LeavesAt W0 (.slice (some ⟨w.heap.size + 1, 0, none⟩) 1 1) [moF lo hi'] ∧ Kp w W0 from ⟨leaf_one g r, k0⟩)
 have HW := Lib.hid hW
 clear hW k0 g r
 go_enter Tryz.func26, Tryz.ntmps26
 go_wp2
 rw [← HW.out]
 go_ret
 exact ⟨_, rfl, D.out.1, D.out.2⟩
theorem mo_i64 {lo hi' : Int} (h1 : -9223372036854775808 ≤ lo) (h2 : lo ≤ 9223372036854775807) (h3 : -9223372036854775808 ≤ hi') (h4 : hi' ≤ 9223372036854775807) : LsOk [moF lo hi'] := by
 intro f hf
 rw [List.mem_singleton.1 hf]
 exact ⟨i64_one h1 h2 h3 h4, fun r h => (by cases h), by simp [moF], by simp [moF]⟩
theorem relM_units {f g : LF} {N : Nat} (hN : N < 8192) (hf : leafB f = true) (hg : leafB g = true) (sf : f.sp = false) (sg : g.sp = false) (ok : relOk [f] [g] = true)
  (h : ∀ r, r ≤ 12 → (N.testBit r = true ↔ ∃ i j, memR f.a i ∧ memR g.a j ∧ rel (fst f.u i) (lst f.u i) (fst g.u j) (lst g.u j) = r)) : relM [f] [g] = N := by
 refine mask_ext (relM_lt _ _) hN fun r hr => ?_
 rw [relM_bit ok hr, h r hr]
 have e : ∀ (q : LF) S T, hasP [q] S T ↔ hasF (famR q) S T = true := fun q S T => by unfold hasP hasL; simp
 unfold relP
 constructor
 ·rintro ⟨S, T, S', T', a, b, c⟩
  obtain ⟨i, m1, rfl, rfl⟩ := (hasF_un hf sf S T).1 ((e f S T).1 a)
  obtain ⟨j, m2, rfl, rfl⟩ := (hasF_un hg sg S' T').1 ((e g S' T').1 b)
  exact ⟨i, j, m1, m2, c⟩
 ·rintro ⟨i, j, m1, m2, c⟩
  exact ⟨_, _, _, _, (e f _ _).2 ((hasF_un hf sf _ _).2 ⟨i, m1, rfl, rfl⟩), (e g _ _).2 ((hasF_un hg sg _ _).2 ⟨j, m2, rfl, rfl⟩), c⟩
theorem okAll_one {f : LF} (hf : leafB f = true) (sf : f.sp = false) (h : edgB f.u f.a = true) : okAll [f] = true := by
 unfold okAll
 rw [List.all_cons, List.all_nil, famR_units hf sf]
 show (edgB f.u f.a && edgB f.u f.a && true) = true
 rw [h]
 rfl
theorem mem_same {a n : Int} (h : -1099511627776 ≤ a ∧ a ≤ 1099511627776) : memR [(a, a)] n ↔ n = a := by
 rw [memR_one]
 omega
theorem aw_one : relOk [moF 23808 23808] [moF 23809 23809] = true ∧ relM [moF 23808 23808] [moF 23809 23809] = 2 := by
 have l1 : leafB (moF 23808 23808) = true := by decide +kernel
 have l2 : leafB (moF 23809 23809) = true := by decide +kernel
 have ok : relOk [moF 23808 23808] [moF 23809 23809] = true := by
  unfold relOk
  rw [okAll_one l1 rfl (by decide +kernel), okAll_one l2 rfl (by decide +kernel)]
  rfl
 refine ⟨ok, relM_units (by decide) l1 l2 rfl rfl ok fun r hr => ?_⟩
 have e : rel (fst 1 23808) (lst 1 23808) (fst 1 23809) (lst 1 23809) = 1 := by decide +kernel
 have t : (2 : Nat).testBit r = true ↔ r = 1 := by
  obtain rfl | rfl | rfl | rfl | rfl | rfl | rfl | rfl | rfl | rfl | rfl | rfl | rfl : r = 0 ∨ r = 1 ∨ r = 2 ∨ r = 3 ∨ r = 4 ∨ r = 5 ∨ r = 6 ∨ r = 7 ∨ r = 8 ∨ r = 9 ∨ r = 10 ∨ r = 11 ∨ r = 12 := by omega
  all_goals decide
 rw [t]
 constructor
 ·rintro rfl
  exact ⟨23808, 23809, (mem_same (by decide)).2 rfl, (mem_same (by decide)).2 rfl, e⟩
 ·rintro ⟨i, j, m1, m2, c⟩
  rw [(mem_same (by decide)).1 m1, (mem_same (by decide)).1 m2] at c
  have c2 : (1 : Int) = (r : Int) := e.symm.trans c
  omega
theorem aw_five : relOk [moF 5 5] [moF 6 6] = true ∧ relM [moF 5 5] [moF 6 6] = 2 := by
 have l1 : leafB (moF 5 5) = true := by decide +kernel
 have l2 : leafB (moF 6 6) = true := by decide +kernel
 have ok : relOk [moF 5 5] [moF 6 6] = true := by
  unfold relOk
  rw [okAll_one l1 rfl (by decide +kernel), okAll_one l2 rfl (by decide +kernel)]
  rfl
 refine ⟨ok, relM_units (by decide) l1 l2 rfl rfl ok fun r hr => ?_⟩
 have e : rel (fst 1 5) (lst 1 5) (fst 1 6) (lst 1 6) = 1 := by decide +kernel
 have t : (2 : Nat).testBit r = true ↔ r = 1 := by
  obtain rfl | rfl | rfl | rfl | rfl | rfl | rfl | rfl | rfl | rfl | rfl | rfl | rfl : r = 0 ∨ r = 1 ∨ r = 2 ∨ r = 3 ∨ r = 4 ∨ r = 5 ∨ r = 6 ∨ r = 7 ∨ r = 8 ∨ r = 9 ∨ r = 10 ∨ r = 11 ∨ r = 12 := by omega
  all_goals decide
 rw [t]
 constructor
 ·rintro rfl
  exact ⟨5, 6, (mem_same (by decide)).2 rfl, (mem_same (by decide)).2 rfl, e⟩
 ·rintro ⟨i, j, m1, m2, c⟩
  rw [(mem_same (by decide)).1 m1, (mem_same (by decide)).1 m2] at c
  have c2 : (1 : Int) = (r : Int) := e.symm.trans c
  omega
theorem rel_year : ∀ n : Nat, n < 9 → rel (fst 1 (23808 + (n : Int))) (lst 1 (23808 + (n : Int))) (fst 3 1984) (lst 3 1984) = if n = 0 then 3 else 4 := by
 intro n hn
 obtain rfl | rfl | rfl | rfl | rfl | rfl | rfl | rfl | rfl : n = 0 ∨ n = 1 ∨ n = 2 ∨ n = 3 ∨ n = 4 ∨ n = 5 ∨ n = 6 ∨ n = 7 ∨ n = 8 := by omega
 all_goals decide +kernel
theorem aw_nine : relOk [moF 23808 23816] [yr] = true ∧ relM [moF 23808 23816] [yr] = 24 := by
 have l1 : leafB (moF 23808 23816) = true := by decide +kernel
 have l2 : leafB yr = true := by decide +kernel
 have ok : relOk [moF 23808 23816] [yr] = true := by
  unfold relOk
  rw [okAll_one l1 rfl (by decide +kernel), okAll_one l2 rfl (by decide +kernel)]
  rfl
 refine ⟨ok, relM_units (by decide) l1 l2 rfl rfl ok fun r hr => ?_⟩
 have t : (24 : Nat).testBit r = true ↔ r = 3 ∨ r = 4 := by
  obtain rfl | rfl | rfl | rfl | rfl | rfl | rfl | rfl | rfl | rfl | rfl | rfl | rfl : r = 0 ∨ r = 1 ∨ r = 2 ∨ r = 3 ∨ r = 4 ∨ r = 5 ∨ r = 6 ∨ r = 7 ∨ r = 8 ∨ r = 9 ∨ r = 10 ∨ r = 11 ∨ r = 12 := by omega
  all_goals decide
 rw [t]
 have m0 : ∀ i, memR (moF 23808 23816).a i ↔ 23808 ≤ i ∧ i ≤ 23816 := fun i => by
  show memR [(23808, 23816)] i ↔ _
  rw [memR_one]
  omega
 constructor
 ·rintro (rfl | rfl)
  ·exact ⟨23808, 1984, (m0 _).2 (by omega), (mem_same (by decide)).2 rfl, rel_year 0 (by decide)⟩
  ·exact ⟨23809, 1984, (m0 _).2 (by omega), (mem_same (by decide)).2 rfl, rel_year 1 (by decide)⟩
 ·rintro ⟨i, j, m1, m2, c⟩
  rw [(mem_same (by decide)).1 m2] at c
  have b := (m0 i).1 m1
  obtain ⟨n, rfl⟩ : ∃ n : Nat, i = 23808 + (n : Int) := ⟨(i - 23808).toNat, by omega⟩
  have e := rel_year n (by omega)
  have c2 := e.symm.trans c
  split at c2 <;> omega
set_option maxHeartbeats 8000000 in
set_option maxRecDepth 100000 in
theorem awake20 (w : World) (T : Tabs20 w) : Calls Tryz.prog 11 #[] w fun e w' => e = .returned (.bool true) ∧ Kp w w' := by
 have i1 := mo_i64 (lo := 23808) (hi' := 23808) (by decide) (by decide) (by decide) (by decide)
 have i2 := mo_i64 (lo := 23809) (hi' := 23809) (by decide) (by decide) (by decide) (by decide)
 have i3 := mo_i64 (lo := 23808) (hi' := 23816) (by decide) (by decide) (by decide) (by decide)
 have i5 := mo_i64 (lo := 5) (hi' := 5) (by decide) (by decide) (by decide) (by decide)
 have i6 := mo_i64 (lo := 6) (hi' := 6) (by decide) (by decide) (by decide) (by decide)
 have iy : LsOk [yr] := by
  intro f hf
  rw [List.mem_singleton.1 hf]
  exact ⟨i64_one (by decide) (by decide) (by decide) (by decide), fun r h => (by cases h), by simp [yr], by simp [yr]⟩
 have CM := Lib.hid (fun lo hi' w1 => months_any lo hi' w1)
 have C1 := Lib.hid (fun va vb w1 (h1 : LeavesAt w1 va [moF 23808 23808]) (h2 : LeavesAt w1 vb [moF 23809 23809]) (k : Kp w w1) => show Calls Tryz.prog 13 #[va, vb] w1 fun e w' => e = .returned (.tuple #[.int .i64 2, .int .i64 0]) ∧ Kp w1 w' from by
  have h := relations_any va vb _ _ w1 h1 h2 i1 i2 (by simp) (by simp) (T.kp k).1
  rw [aw_one.2, show relE [moF 23808 23808] [moF 23809 23809] = 0 from if_pos aw_one.1] at h
  exact h)
 have C2 := Lib.hid (fun va vb w1 (h1 : LeavesAt w1 va [moF 23808 23816]) (h2 : LeavesAt w1 vb [yr]) (k : Kp w w1) => show Calls Tryz.prog 13 #[va, vb] w1 fun e w' => e = .returned (.tuple #[.int .i64 24, .int .i64 0]) ∧ Kp w1 w' from by
  have h := relations_any va vb _ _ w1 h1 h2 i3 iy (by simp) (by simp) (T.kp k).1
  rw [aw_nine.2, show relE [moF 23808 23816] [yr] = 0 from if_pos aw_nine.1] at h
  exact h)
 have C3 := Lib.hid (fun va vb w1 (h1 : LeavesAt w1 va [moF 5 5]) (h2 : LeavesAt w1 vb [moF 6 6]) (k : Kp w w1) => show Calls Tryz.prog 15 #[va, vb, .int .i64 1] w1 fun e w' => e = .returned (.bool true) ∧ Kp w1 w' from by
  have h := can_any va vb _ _ 1 w1 h1 h2 i5 i6 (by simp) (by simp) (T.kp k)
  rw [show canB [moF 5 5] [moF 6 6] 1 = true by unfold canB; rw [aw_five.1, aw_five.2]; decide] at h
  exact h)
 have C4 := Lib.hid (fun va vb w1 (h1 : LeavesAt w1 va [moF 5 5]) (h2 : LeavesAt w1 vb [moF 6 6]) (k : Kp w w1) => show Calls Tryz.prog 17 #[va, vb, .int .i64 3] w1 fun e w' => e = .returned (.bool true) ∧ Kp w1 w' from by
  have h := must_any va vb _ _ 3 w1 h1 h2 i5 i6 (by simp) (by simp) (T.kp k)
  rw [show mustB [moF 5 5] [moF 6 6] 3 = true by unfold mustB; rw [aw_five.1, aw_five.2]; decide] at h
  exact h)
 have K0 := Lib.hid (Kp.refl w)
 clear i1 i2 i3 i5 i6 iy T
 go_enter Tryz.func11, Tryz.ntmps11
 go_wp2_with fail
 refine (CM.out 23808 23808 _).mono ?_
 rintro e w1 ⟨b1, rfl, lv, k1⟩
 have L1 := Lib.hid lv
 have K1 := Lib.hid (K0.out.trans ((show Kp w _ from (by first | with_reducible exact Kp.refl _ | with_reducible exact Kp.alloc _ _ | with_reducible exact (Kp.alloc _ _).trans (Kp.alloc _ _) | with_reducible exact ((Kp.alloc _ _).trans (Kp.alloc _ _)).trans (Kp.alloc _ _) | with_reducible exact Kp.drew _ | with_reducible exact Kp.drewN _ _)).trans k1))
 clear lv k1
 go_wp2_with fail
 refine (CM.out 23809 23809 _).mono ?_
 rintro e w2 ⟨b2, rfl, lv, k1⟩
 have L2 := Lib.hid lv
 have K2 := Lib.hid (K1.out.trans ((show Kp w1 _ from (by first | with_reducible exact Kp.refl _ | with_reducible exact Kp.alloc _ _ | with_reducible exact (Kp.alloc _ _).trans (Kp.alloc _ _) | with_reducible exact ((Kp.alloc _ _).trans (Kp.alloc _ _)).trans (Kp.alloc _ _) | with_reducible exact Kp.drew _ | with_reducible exact Kp.drewN _ _)).trans k1))
 replace L1 := Lib.hid (L1.out.kp ((show Kp w1 _ from (by first | with_reducible exact Kp.refl _ | with_reducible exact Kp.alloc _ _ | with_reducible exact (Kp.alloc _ _).trans (Kp.alloc _ _) | with_reducible exact ((Kp.alloc _ _).trans (Kp.alloc _ _)).trans (Kp.alloc _ _) | with_reducible exact Kp.drew _ | with_reducible exact Kp.drewN _ _)).trans k1))
 clear lv k1
 go_wp2_with fail
 refine (C1.out _ _ _ (L1.out.kp (by first | with_reducible exact Kp.refl _ | with_reducible exact Kp.alloc _ _ | with_reducible exact (Kp.alloc _ _).trans (Kp.alloc _ _) | with_reducible exact ((Kp.alloc _ _).trans (Kp.alloc _ _)).trans (Kp.alloc _ _) | with_reducible exact Kp.drew _ | with_reducible exact Kp.drewN _ _)) (L2.out.kp (by first | with_reducible exact Kp.refl _ | with_reducible exact Kp.alloc _ _ | with_reducible exact (Kp.alloc _ _).trans (Kp.alloc _ _) | with_reducible exact ((Kp.alloc _ _).trans (Kp.alloc _ _)).trans (Kp.alloc _ _) | with_reducible exact Kp.drew _ | with_reducible exact Kp.drewN _ _)) (K2.out.trans (by first | with_reducible exact Kp.refl _ | with_reducible exact Kp.alloc _ _ | with_reducible exact (Kp.alloc _ _).trans (Kp.alloc _ _) | with_reducible exact ((Kp.alloc _ _).trans (Kp.alloc _ _)).trans (Kp.alloc _ _) | with_reducible exact Kp.drew _ | with_reducible exact Kp.drewN _ _))).mono ?_
 rintro e w3 ⟨rfl, k1⟩
 have K3 := Lib.hid (K2.out.trans ((show Kp w2 _ from (by first | with_reducible exact Kp.refl _ | with_reducible exact Kp.alloc _ _ | with_reducible exact (Kp.alloc _ _).trans (Kp.alloc _ _) | with_reducible exact ((Kp.alloc _ _).trans (Kp.alloc _ _)).trans (Kp.alloc _ _) | with_reducible exact Kp.drew _ | with_reducible exact Kp.drewN _ _)).trans k1))
 clear k1
 go_wp2_with fail
 refine (CM.out 23808 23816 _).mono ?_
 rintro e w4 ⟨b4, rfl, lv, k1⟩
 have L4 := Lib.hid lv
 have K4 := Lib.hid (K3.out.trans ((show Kp w3 _ from (by first | with_reducible exact Kp.refl _ | with_reducible exact Kp.alloc _ _ | with_reducible exact (Kp.alloc _ _).trans (Kp.alloc _ _) | with_reducible exact ((Kp.alloc _ _).trans (Kp.alloc _ _)).trans (Kp.alloc _ _) | with_reducible exact Kp.drew _ | with_reducible exact Kp.drewN _ _)).trans k1))
 clear lv k1
 obtain ⟨V, hV⟩ : ∃ x, x = (w4.alloc (.cells #[.int .i64 1984, .int .i64 1984] 53)).alloc (.cells #[.bool false, .int .i64 3, .slice (some ⟨w4.heap.size, 0, none⟩) 1 1, .slice none 0 0] 47) := ⟨_, rfl⟩
 have kv : Kp w4 V := by rw [hV]; exact (Kp.alloc _ _).trans (Kp.alloc _ _)
 have gv : V.heap[w4.heap.size + 1]? = some (.cells #[.bool false, .int .i64 3, .slice (some ⟨w4.heap.size, 0, none⟩) 1 1, .slice none 0 0] 47 (0, 0)) := by rw [hV]; exact heap_at _ _ _ (by simp)
 have rv : RunsAt V (.slice (some ⟨w4.heap.size, 0, none⟩) 1 1) [(1984, 1984)] := by rw [hV]; exact (one_at w4 1984 1984 _).kp (Kp.alloc _ _)
 have LY := Lib.hid (show LeavesAt V (.slice (some ⟨w4.heap.size + 1, 0, none⟩) 1 1) [yr] from leaf_one gv rv)
 have L4' := Lib.hid (L4.out.kp kv)
 have KV := Lib.hid (K4.out.trans kv)
 have HV := Lib.hid hV
 clear hV kv gv rv
 go_wp2_with fail
 rw [← HV.out]
 refine (C2.out _ _ _ L4'.out LY.out KV.out).mono ?_
 rintro e w5 ⟨rfl, k1⟩
 have K5 := Lib.hid (KV.out.trans k1)
 clear k1
 go_wp2_with fail
 refine (CM.out 5 5 _).mono ?_
 rintro e w6 ⟨b6, rfl, lv, k1⟩
 have L6 := Lib.hid lv
 have K6 := Lib.hid (K5.out.trans ((show Kp w5 _ from (by first | with_reducible exact Kp.refl _ | with_reducible exact Kp.alloc _ _ | with_reducible exact (Kp.alloc _ _).trans (Kp.alloc _ _) | with_reducible exact ((Kp.alloc _ _).trans (Kp.alloc _ _)).trans (Kp.alloc _ _) | with_reducible exact Kp.drew _ | with_reducible exact Kp.drewN _ _)).trans k1))
 clear lv k1
 go_wp2_with fail
 refine (CM.out 6 6 _).mono ?_
 rintro e w7 ⟨b7, rfl, lv, k1⟩
 have L7 := Lib.hid lv
 have K7 := Lib.hid (K6.out.trans ((show Kp w6 _ from (by first | with_reducible exact Kp.refl _ | with_reducible exact Kp.alloc _ _ | with_reducible exact (Kp.alloc _ _).trans (Kp.alloc _ _) | with_reducible exact ((Kp.alloc _ _).trans (Kp.alloc _ _)).trans (Kp.alloc _ _) | with_reducible exact Kp.drew _ | with_reducible exact Kp.drewN _ _)).trans k1))
 replace L6 := Lib.hid (L6.out.kp ((show Kp w6 _ from (by first | with_reducible exact Kp.refl _ | with_reducible exact Kp.alloc _ _ | with_reducible exact (Kp.alloc _ _).trans (Kp.alloc _ _) | with_reducible exact ((Kp.alloc _ _).trans (Kp.alloc _ _)).trans (Kp.alloc _ _) | with_reducible exact Kp.drew _ | with_reducible exact Kp.drewN _ _)).trans k1))
 clear lv k1
 go_wp2_with fail
 refine (C3.out _ _ _ (L6.out.kp (by first | with_reducible exact Kp.refl _ | with_reducible exact Kp.alloc _ _ | with_reducible exact (Kp.alloc _ _).trans (Kp.alloc _ _) | with_reducible exact ((Kp.alloc _ _).trans (Kp.alloc _ _)).trans (Kp.alloc _ _) | with_reducible exact Kp.drew _ | with_reducible exact Kp.drewN _ _)) (L7.out.kp (by first | with_reducible exact Kp.refl _ | with_reducible exact Kp.alloc _ _ | with_reducible exact (Kp.alloc _ _).trans (Kp.alloc _ _) | with_reducible exact ((Kp.alloc _ _).trans (Kp.alloc _ _)).trans (Kp.alloc _ _) | with_reducible exact Kp.drew _ | with_reducible exact Kp.drewN _ _)) (K7.out.trans (by first | with_reducible exact Kp.refl _ | with_reducible exact Kp.alloc _ _ | with_reducible exact (Kp.alloc _ _).trans (Kp.alloc _ _) | with_reducible exact ((Kp.alloc _ _).trans (Kp.alloc _ _)).trans (Kp.alloc _ _) | with_reducible exact Kp.drew _ | with_reducible exact Kp.drewN _ _))).mono ?_
 rintro e w8 ⟨rfl, k1⟩
 have K8 := Lib.hid (K7.out.trans ((show Kp w7 _ from (by first | with_reducible exact Kp.refl _ | with_reducible exact Kp.alloc _ _ | with_reducible exact (Kp.alloc _ _).trans (Kp.alloc _ _) | with_reducible exact ((Kp.alloc _ _).trans (Kp.alloc _ _)).trans (Kp.alloc _ _) | with_reducible exact Kp.drew _ | with_reducible exact Kp.drewN _ _)).trans k1))
 clear k1
 go_wp2_with fail
 refine (CM.out 5 5 _).mono ?_
 rintro e w9 ⟨b9, rfl, lv, k1⟩
 have L9 := Lib.hid lv
 have K9 := Lib.hid (K8.out.trans ((show Kp w8 _ from (by first | with_reducible exact Kp.refl _ | with_reducible exact Kp.alloc _ _ | with_reducible exact (Kp.alloc _ _).trans (Kp.alloc _ _) | with_reducible exact ((Kp.alloc _ _).trans (Kp.alloc _ _)).trans (Kp.alloc _ _) | with_reducible exact Kp.drew _ | with_reducible exact Kp.drewN _ _)).trans k1))
 clear lv k1
 go_wp2_with fail
 refine (CM.out 6 6 _).mono ?_
 rintro e w10 ⟨b10, rfl, lv, k1⟩
 have L10 := Lib.hid lv
 have K10 := Lib.hid (K9.out.trans ((show Kp w9 _ from (by first | with_reducible exact Kp.refl _ | with_reducible exact Kp.alloc _ _ | with_reducible exact (Kp.alloc _ _).trans (Kp.alloc _ _) | with_reducible exact ((Kp.alloc _ _).trans (Kp.alloc _ _)).trans (Kp.alloc _ _) | with_reducible exact Kp.drew _ | with_reducible exact Kp.drewN _ _)).trans k1))
 replace L9 := Lib.hid (L9.out.kp ((show Kp w9 _ from (by first | with_reducible exact Kp.refl _ | with_reducible exact Kp.alloc _ _ | with_reducible exact (Kp.alloc _ _).trans (Kp.alloc _ _) | with_reducible exact ((Kp.alloc _ _).trans (Kp.alloc _ _)).trans (Kp.alloc _ _) | with_reducible exact Kp.drew _ | with_reducible exact Kp.drewN _ _)).trans k1))
 clear lv k1
 go_wp2_with fail
 refine (C4.out _ _ _ (L9.out.kp (by first | with_reducible exact Kp.refl _ | with_reducible exact Kp.alloc _ _ | with_reducible exact (Kp.alloc _ _).trans (Kp.alloc _ _) | with_reducible exact ((Kp.alloc _ _).trans (Kp.alloc _ _)).trans (Kp.alloc _ _) | with_reducible exact Kp.drew _ | with_reducible exact Kp.drewN _ _)) (L10.out.kp (by first | with_reducible exact Kp.refl _ | with_reducible exact Kp.alloc _ _ | with_reducible exact (Kp.alloc _ _).trans (Kp.alloc _ _) | with_reducible exact ((Kp.alloc _ _).trans (Kp.alloc _ _)).trans (Kp.alloc _ _) | with_reducible exact Kp.drew _ | with_reducible exact Kp.drewN _ _)) (K10.out.trans (by first | with_reducible exact Kp.refl _ | with_reducible exact Kp.alloc _ _ | with_reducible exact (Kp.alloc _ _).trans (Kp.alloc _ _) | with_reducible exact ((Kp.alloc _ _).trans (Kp.alloc _ _)).trans (Kp.alloc _ _) | with_reducible exact Kp.drew _ | with_reducible exact Kp.drewN _ _))).mono ?_
 rintro e w11 ⟨rfl, k1⟩
 have K11 := Lib.hid (K10.out.trans ((show Kp w10 _ from (by first | with_reducible exact Kp.refl _ | with_reducible exact Kp.alloc _ _ | with_reducible exact (Kp.alloc _ _).trans (Kp.alloc _ _) | with_reducible exact ((Kp.alloc _ _).trans (Kp.alloc _ _)).trans (Kp.alloc _ _) | with_reducible exact Kp.drew _ | with_reducible exact Kp.drewN _ _)).trans k1))
 clear k1
 go_wp2
 go_ret
 exact ⟨rfl, K11.out⟩
open Go.RowKit Go.Lib
theorem cells_int : Tryz.prog.cellsOf 3 = 1 := by kernel_rfl
theorem cells_md : Tryz.prog.cellsOf 213 = 13 := by kernel_rfl
theorem cells_uc : Tryz.prog.cellsOf 195 = 6 := by kernel_rfl
theorem gt_md : (Tryz.prog.globals[2]?).map (·.type) = some 213 := by kernel_rfl
theorem gt_uc : (Tryz.prog.globals[1]?).map (·.type) = some 195 := by kernel_rfl
def strData {H : Type} (zs : List ByteArray) : DataW H := .agg (zs.map fun z => .lit (.string z.data.toList))
theorem cells_of_strs {H : Type} {enc : TypeId × Value → H} {P : Program} {w : World} {base : Nat} {sp : Nat → Bool} {held : Bool} {fuel : Nat} {t e : TypeId} {n : Nat} {cs : List Value} {zs : List ByteArray} {p : List MemPlace}
  (ht : P.underlying t = some (.array n e)) (he : P.underlying e = some .string) (hce : P.cellsOf e = 1) (hct : P.cellsOf t = n)
  (h : DataW.trod enc P w base sp held fuel t cs = some (strData zs, p)) : cs = zs.map Value.string := by
 cases fuel with
 | zero => simp [DataW.trod] at h
 | succ fuel =>
  simp only [DataW.trod, ht, hce, hct, Nat.mul_one] at h
  split at h
  ·rename_i hl
   obtain ⟨xs, hm, hx⟩ := Option.map_eq_some_iff.1 h
   have hxs : xs.map (·.1) = zs.map fun z => (DataW.lit (.string z.data.toList) : DataW H) := by
    have := congrArg Prod.fst hx
    simpa [strData] using this
   have hxl : xs.length = n := by simpa using mapM_length hm
   have hzl : zs.length = n := by
    have := congrArg List.length hxs
    simp at this
    omega
   apply List.ext_getElem?
   intro i
   by_cases hi : i < n
   ·obtain ⟨b, hb, hf⟩ := mapM_at hm i i (by simp [hi])
    obtain ⟨z, hc, rfl, _⟩ := DataW.trod_string he hf
    have h1 : cs[i]? = some (.string z) := by
     have := congrArg (·[0]?) hc
     simpa [List.getElem?_take, List.getElem?_drop] using this
    have h2 : (xs.map (·.1))[i]? = some (DataW.lit (.string z.data.toList) : DataW H) := by simp [hb]
    rw [hxs] at h2
    simp only [List.getElem?_map, Option.map_eq_some_iff, DataW.lit.injEq, Lit.string.injEq] at h2
    obtain ⟨z', hz', h3⟩ := h2
    have h4 : z' = z := by
     cases z; cases z'
     simp only [ByteArray.mk.injEq]
     exact Array.ext' h3
    subst h4
    simp [h1, hz']
   ·rw [List.getElem?_eq_none (by omega), List.getElem?_eq_none (by simp; omega)]
  ·cases h
theorem strs_of_head {P : Program} {W : World} {name : String} {zs : List ByteArray} {rest : List (String × DataW Unit)} {g : Nat} {t e : TypeId} {n : Nat}
  (hg : P.globalNamed name = some g) (hty : (P.globals[g]?).map (·.type) = some t) (ht : P.underlying t = some (.array n e)) (he : P.underlying e = some .string) (hce : P.cellsOf e = 1) (hct : P.cellsOf t = n)
  (h : laidMet P ((name, strData zs) :: rest) W) : W.var? P name = some (zs.map Value.string).toArray := by
 obtain ⟨ps, ⟨g', t', cs, fuel, p, q, hg', ht', hvar, hd, _, _⟩, _⟩ := h
 obtain rfl := Option.some.inj (hg.symm.trans hg')
 obtain rfl := Option.some.inj (hty.symm.trans ht')
 rw [hvar, ← cells_of_strs ht he hce hct hd]
theorem cells_str : Tryz.prog.cellsOf 9 = 1 := by kernel_rfl
theorem cells_nm : Tryz.prog.cellsOf 106 = 13 := by kernel_rfl
theorem gt_nm : (Tryz.prog.globals[0]?).map (·.type) = some 106 := by kernel_rfl
theorem tabs_of {W : World} (h : laidMetH Tryz.prog [("lustrum/allen.names", Rows.laid_lustrum_allen_names), ("lustrum/civil.monthDays", Rows.laid_lustrum_civil_monthDays), ("lustrum/unit.counts", Rows.laid_lustrum_unit_counts)] W) : Tabs20 W := by
 have h1 : laidMet Tryz.prog [("lustrum/allen.names", strData nmsL), ("lustrum/civil.monthDays", Lib.tabData .i64 [0, 31, 28, 31, 30, 31, 30, 31, 31, 30, 31, 30, 31]), ("lustrum/unit.counts", Lib.tabData .i64 [3652425, 120000, 40000, 10000, 1000, 100])] W := h
 exact ⟨⟨Lib.tabIs_of_head gMD gt_md Tryz.underlying213 Tryz.underlying3 cells_int cells_md h1.tail, Lib.tabIs_of_head gUC gt_uc Tryz.underlying195 Tryz.underlying3 cells_int cells_uc h1.tail.tail⟩,
  strs_of_head gNM gt_nm Tryz.underlying106 Tryz.underlying9 cells_str cells_nm h1⟩
end Go.Proofs.YtamdjbpgkiekcaaGreatDoor
