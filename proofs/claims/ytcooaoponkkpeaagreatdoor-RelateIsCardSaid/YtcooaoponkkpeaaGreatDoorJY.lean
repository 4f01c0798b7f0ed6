import Derived.Test.YtcooaoponkkpeaaGreatDoorJX
import Derived.Test.YtcooaoponkkpeaaGreatDoorRlL
import Derived.Test.YtcooaoponkkpeaaGreatDoorRlH
import Derived.Test.YtcooaoponkkpeaaGreatDoorGLeafA
import Derived.LoopTactic
import Derived.Test.YtcooaoponkkpeaaGreatDoorRlU
set_option maxHeartbeats 16000000
set_option maxRecDepth 100000
namespace Go.Proofs.YtcooaoponkkpeaaGreatDoor
open Go.RowKit
set_option linter.unusedVariables false
set_option linter.unusedSimpArgs false
theorem pr_bd {L : List R} (h : prOk (memP L)) : ∀ r ∈ L, 0 ≤ r.1 ∧ r.1 ≤ 4000000 ∧ 0 ≤ r.2 ∧ r.2 ≤ 4000000 := by
 rintro ⟨S, T⟩ hr
 have := h S T hr
 simp only
 omega
theorem askQ_any (v u : Value) (L M : List R) (m : Nat) (w : World) (hv : RunsAt w v L) (hu : RunsAt w u M) (hm : m < 8192) (hL : prOk (memP L)) (hM : prOk (memP M)) (nL : L.length ≤ 1000000) (nM : M.length ≤ 1000000) (rM : riseP M) :
  Calls Tryz.prog 58 #[v, .iface 87 u, .int .i64 m] w fun e w' => ∃ m' : Nat, e = .returned (.int .i64 m') ∧ m' < 8192 ∧ bitsP m' m (relP (memP L) (memP M)) ∧ Kp w w' := by
 refine (ask_listed (memP M) u v L m w hv hm nL (pr_bd hL) fun b w1 k hb => ?_).mono ?_
 ·obtain ⟨b0, b1, b2, b3⟩ := b
  exact dwithin_any u M b0 b1 b2 b3 w1 (hu.kp k) rM nM hb
 ·rintro e w' ⟨m', rfl, h1, h2, h3⟩
  exact ⟨m', rfl, h1, fun r hr => by rw [h2 r hr, ask_rel hL hM hr]; rfl, h3⟩
theorem askO_any (v va vb : Value) (L : List R) (x : LO) (m : Nat) (w : World) (hv : RunsAt w v L) (ha : RunsAt w va x.2.1) (hb : RunsAt w vb x.2.2) (hm : m < 8192) (hL : prOk (memP L)) (nL : L.length ≤ 1000000) (hx : LsOkP x.1 x.2.1 x.2.2) (na : x.2.1.length ≤ 100000) (nb : x.2.2.length ≤ 100000) :
  Calls Tryz.prog 58 #[v, .iface 80 (.agg #[.bool x.1, va, vb]), .int .i64 m] w fun e w' => ∃ m' : Nat, e = .returned (.int .i64 m') ∧ m' < 8192 ∧ (∀ r, r ≤ 12 → (m'.testBit r = true ↔ m.testBit r = true ∨ ∃ p ∈ L, askP (looP x) r p)) ∧ Kp w w' := by
 refine (ask_loose (looP x) _ v L m w hv hm nL (pr_bd hL) fun b w1 k hbx => ?_)
 obtain ⟨b0, b1, b2, b3⟩ := b
 refine (lwithin_any x.1 va vb x.2.1 x.2.2 b0 b1 b2 b3 w1 (ha.kp k) (hb.kp k) hx.sa hx.sb (by omega) (by omega) hbx).mono ?_
 rintro e w' ⟨rfl, k1⟩
 exact ⟨_, rfl, wiL_iff hx.sa hx.sb _, k1⟩
theorem askO_rel {L : List R} {x : LO} {m m' : Nat} (hL : prOk (memP L)) (hx : LsOkP x.1 x.2.1 x.2.2) (h : ∀ r, r ≤ 12 → (m'.testBit r = true ↔ m.testBit r = true ∨ ∃ p ∈ L, askP (looP x) r p)) : bitsP m' m (relP (memP L) (looP x)) :=
 fun r hr => by rw [h r hr]; exact or_congr Iff.rfl (ask_rel hL (ls_ok hx) hr)
theorem askE_rel {x y : LO} {m m' : Nat} (hx : LsOkP x.1 x.2.1 x.2.2) (hy : LsOkP y.1 y.2.1 y.2.2) (h : ∀ r, r ≤ 12 → (m'.testBit r = true ↔ m.testBit r = true ∨ ∃ p ∈ exPs x.1 x.2.1 x.2.2 y.2.1 y.2.2, askP (looP y) r p)) : bitsP m' m (relP (looP x) (looP y)) :=
 fun r hr => by rw [h r hr]; exact or_congr Iff.rfl (ask_ex hx hy hr)
theorem bits_next {m m' m0 : Nat} {X : Nat → Nat → Prop} {k : Nat} (h : bitsP m m0 fun r => ∃ i, i < k ∧ X i r) (g : bitsP m' m (X k)) : bitsP m' m0 fun r => ∃ i, i < k + 1 ∧ X i r := by
 intro r hr
 rw [g r hr, h r hr, or_assoc]
 refine or_congr Iff.rfl ⟨?_, ?_⟩
 ·rintro (⟨i, hi, x⟩ | x)
  ·exact ⟨i, by omega, x⟩
  ·exact ⟨k, by omega, x⟩
 ·rintro ⟨i, hi, x⟩
  by_cases e : i = k
  ·subst e; exact .inr x
  ·exact .inl ⟨i, by omega, x⟩
theorem bits_none (m : Nat) (X : Nat → Nat → Prop) : bitsP m m fun r => ∃ i, i < 0 ∧ X i r := fun r _ => ⟨.inl, fun h => h.elim id fun ⟨i, hi, _⟩ => absurd hi (by omega)⟩
theorem bits_trans {m m1 m2 : Nat} {X Y : Nat → Prop} (h : bitsP m1 m X) (g : bitsP m2 m1 Y) : bitsP m2 m fun r => X r ∨ Y r := fun r hr => by rw [g r hr, h r hr, or_assoc]
theorem bits_congr {m m' : Nat} {X Y : Nat → Prop} (h : bitsP m' m X) (e : ∀ r, r ≤ 12 → (X r ↔ Y r)) : bitsP m' m Y := fun r hr => by rw [h r hr, e r hr]
def lsN (F : FdD) (i : Nat) : List R := F.ls.getD i []
def loN (F : FdD) (i : Nat) : LO := F.lo.getD i (false, [], [])
theorem relP_split (P : Int → Int → Prop) (F : FdD) (r : Nat) : relP P (fdP F) r ↔ (∃ i, i < F.ls.length ∧ relP P (memP (lsN F i)) r) ∨ ∃ i, i < F.lo.length ∧ relP P (looP (loN F i)) r := by
 constructor
 ·rintro ⟨S, T, S', T', hp, hq, h⟩
  rcases (fdP_iff F S' T').1 hq with ⟨i, hi, g⟩ | ⟨i, hi, g⟩
  ·exact .inl ⟨i, hi, S, T, S', T', hp, g, h⟩
  ·exact .inr ⟨i, hi, S, T, S', T', hp, g, h⟩
 ·rintro (⟨i, hi, S, T, S', T', hp, g, h⟩ | ⟨i, hi, S, T, S', T', hp, g, h⟩)
  ·exact ⟨S, T, S', T', hp, (fdP_iff F S' T').2 (.inl ⟨i, hi, g⟩), h⟩
  ·exact ⟨S, T, S', T', hp, (fdP_iff F S' T').2 (.inr ⟨i, hi, g⟩), h⟩
theorem relP_first (F : FdD) (Q : Int → Int → Prop) (r : Nat) : relP (fdP F) Q r ↔ (∃ i, i < F.ls.length ∧ relP (memP (lsN F i)) Q r) ∨ ∃ i, i < F.lo.length ∧ relP (looP (loN F i)) Q r := by
 constructor
 ·rintro ⟨S, T, S', T', hp, hq, h⟩
  rcases (fdP_iff F S T).1 hp with ⟨i, hi, g⟩ | ⟨i, hi, g⟩
  ·exact .inl ⟨i, hi, S, T, S', T', g, hq, h⟩
  ·exact .inr ⟨i, hi, S, T, S', T', g, hq, h⟩
 ·rintro (⟨i, hi, S, T, S', T', g, hq, h⟩ | ⟨i, hi, S, T, S', T', g, hq, h⟩)
  ·exact ⟨S, T, S', T', (fdP_iff F S T).2 (.inl ⟨i, hi, g⟩), hq, h⟩
  ·exact ⟨S, T, S', T', (fdP_iff F S T).2 (.inr ⟨i, hi, g⟩), hq, h⟩
open Go.RowKit Go.Shelf
theorem flipN_any (m : Nat) (w : World) : Calls Tryz.prog 59 #[.int .i64 m] w fun e w' => e = .returned (.int .i64 ((flN m : Nat) : Int)) ∧ w = w' := by
 rw [← flN_int]
 exact flip_any _ _
theorem SsAt.open' {w : World} {v : Value} {l : List (List R)} (h : SsAt w v l) : ∃ b c, v = .slice (some ⟨b, 0, none⟩) l.length c := by obtain ⟨b, c, e, _⟩ := h; exact ⟨b, c, e⟩
theorem SsAt.at' {w : World} {b c : Nat} {l : List (List R)} (h : SsAt w (.slice (some ⟨b, 0, none⟩) l.length c) l) {i : Nat} (hi : i < l.length) : ∃ ad cp, w.cell? ⟨b, i, none⟩ = some (.slice ad (l.getD i []).length cp) ∧ RunsAt w (.slice ad (l.getD i []).length cp) (l.getD i []) := by
 obtain ⟨b', c', e, g⟩ := h
 cases e
 obtain ⟨u, h1, h2⟩ := g i hi
 obtain ⟨ad, cp, rfl⟩ := h2.slice
 exact ⟨ad, cp, h1, h2⟩
theorem LooAt.slice {w : World} {v : Value} {l : List LO} (h : LooAt w v l) : ∃ ad c, v = .slice ad l.length c := by
 rcases h with ⟨c, rfl, rfl⟩ | ⟨b, c, e, _⟩
 ·exact ⟨_, _, rfl⟩
 ·exact ⟨_, _, e⟩
theorem LooAt.at' {w : World} {ad : Option Addr} {c : Nat} {l : List LO} (h : LooAt w (.slice ad l.length c) l) {i : Nat} (hi : i < l.length) : ∃ b, ad = some ⟨b, 0, none⟩ ∧ ∃ aa ca ab cb, w.cell? ⟨b, i * 3, none⟩ = some (.bool (l.getD i (false, [], [])).1) ∧ w.cell? ⟨b, i * 3 + 1, none⟩ = some (.slice aa (l.getD i (false, [], [])).2.1.length ca) ∧ w.cell? ⟨b, i * 3 + 2, none⟩ = some (.slice ab (l.getD i (false, [], [])).2.2.length cb) ∧ RunsAt w (.slice aa (l.getD i (false, [], [])).2.1.length ca) (l.getD i (false, [], [])).2.1 ∧ RunsAt w (.slice ab (l.getD i (false, [], [])).2.2.length cb) (l.getD i (false, [], [])).2.2 := by
 rcases h with ⟨c, e, rfl⟩ | ⟨b, c', e, g⟩
 ·simp at hi
 ·cases e
  obtain ⟨ua, ub, h1, h2, h3, h4, h5⟩ := g i hi
  obtain ⟨aa, ca, rfl⟩ := h4.slice
  obtain ⟨ab, cb, rfl⟩ := h5.slice
  exact ⟨b, rfl, aa, ca, ab, cb, h1, h2, h3, h4, h5⟩
theorem exPs_len (d : Bool) (A B C D : List R) : (exPs d A B C D).length ≤ 1000000 := by
 have h1 := edg_len [interR (interR A C) (interR B D)]
 have h2 := edg_len [A, interR A C, interR A [(leastR C + 1, 3652424)], interR A (nf (shR 1 1 D))]
 have h3 := edg_len [B, interR B D, interR B [(0, greatR D - 1)], interR B (nf (shR (-1) (-1) C))]
 simp only [List.length_cons, List.length_nil] at h1 h2 h3
 have a : (exSt A B C D).length ≤ 10 := by unfold exSt exS1; rw [List.length_append]; omega
 have b : (exEn A B C D).length ≤ 10 := by unfold exEn exS1; rw [List.length_append]; omega
 unfold exPs
 split
 ·rw [List.length_map, List.length_append]; omega
 ·have h4 := pairs_len (exSt A B C D) (exEn A B C D)
  have h5 := Nat.mul_le_mul a b
  exact Nat.le_trans h4 (Nat.le_trans h5 (by omega))
theorem SsAt.atN {w : World} {b c : Nat} {F : FdD} (h : SsAt w (.slice (some ⟨b, 0, none⟩) F.ls.length c) F.ls) {i : Nat} (hi : i < F.ls.length) : ∃ ad cp, w.cell? ⟨b, i, none⟩ = some (.slice ad (lsN F i).length cp) ∧ RunsAt w (.slice ad (lsN F i).length cp) (lsN F i) := h.at' hi
theorem LooAt.atN {w : World} {ad : Option Addr} {c : Nat} {F : FdD} (h : LooAt w (.slice ad F.lo.length c) F.lo) {i : Nat} (hi : i < F.lo.length) : ∃ b, ad = some ⟨b, 0, none⟩ ∧ ∃ aa ca ab cb, w.cell? ⟨b, i * 3, none⟩ = some (.bool (loN F i).1) ∧ w.cell? ⟨b, i * 3 + 1, none⟩ = some (.slice aa (loN F i).2.1.length ca) ∧ w.cell? ⟨b, i * 3 + 2, none⟩ = some (.slice ab (loN F i).2.2.length cb) ∧ RunsAt w (.slice aa (loN F i).2.1.length ca) (loN F i).2.1 ∧ RunsAt w (.slice ab (loN F i).2.2.length cb) (loN F i).2.2 := h.at' hi
theorem examplesR (d d' : Bool) (A B C D : List R) (va vb vc vd : Value) (w : World) (ha : RunsAt w va A) (hb : RunsAt w vb B) (hc : RunsAt w vc C) (hd : RunsAt w vd D) (H : LsOkP d A B) (H' : LsOkP d' C D)
  (nA : A.length ≤ 100000) (nB : B.length ≤ 100000) (nC : C.length ≤ 100000) (nD : D.length ≤ 100000) :
  Calls Tryz.prog 60 #[.agg #[.bool d, va, vb], .agg #[.bool d', vc, vd]] w fun e w' => ∃ v', e = .returned v' ∧ RunsAt w' v' (exPs d A B C D) ∧ Kp w w' :=
 (examples_any d d' A B C D va vb vc vd w ha hb hc hd H H' nA nB nC nD).mono fun e w' ⟨v', he, ho, hk⟩ => ⟨v', he, ho.runs, hk⟩
abbrev btA0 : Oper := ⟨some 66, .move (.tmp 15), 87, "relate.go:50", #[], none⟩
abbrev btA1 : Oper := ⟨some 67, .load 80 (.tmp 13), 80, "relate.go:50", #[], none⟩
abbrev btA2 : Oper := ⟨some 68, .makeInterface 80 (.tmp 67), 126, "relate.go:50", #[⟨1, .data⟩], none⟩
abbrev btA3 : Oper := ⟨some 69, .move (.tmp 5), 3, "relate.go:50", #[], none⟩
abbrev btA4 : Oper := ⟨some 70, .call ⟨.value (.func 59), #[.tmp 69], #[3]⟩, 3, "relate.go:50", #[⟨3, .data⟩], none⟩
abbrev btA5 : Oper := ⟨some 71, .call ⟨.value (.func 58), #[.tmp 66, .tmp 68, .tmp 70], #[77, 126, 3]⟩, 3, "relate.go:50", #[⟨0, .data⟩, ⟨2, .data⟩, ⟨4, .data⟩, ⟨4, .chain⟩], none⟩
abbrev btA6 : Oper := ⟨some 72, .call ⟨.value (.func 59), #[.tmp 71], #[3]⟩, 3, "relate.go:50", #[⟨5, .data⟩, ⟨5, .chain⟩], none⟩
abbrev btA7 : Oper := ⟨some 5, .assign (.tmp 72), 3, "relate.go:50", #[⟨6, .data⟩, ⟨6, .chain⟩, ⟨0, .phase⟩, ⟨1, .phase⟩, ⟨2, .phase⟩, ⟨3, .phase⟩, ⟨4, .phase⟩, ⟨5, .phase⟩, ⟨6, .phase⟩], none⟩
abbrev btB0 : Oper := ⟨some 81, .load 80 (.tmp 13), 80, "relate.go:53", #[], none⟩
abbrev btB1 : Oper := ⟨some 82, .load 80 (.tmp 17), 80, "relate.go:53", #[], none⟩
abbrev btB2 : Oper := ⟨some 83, .call ⟨.value (.func 60), #[.tmp 81, .tmp 82], #[80, 80]⟩, 77, "relate.go:53", #[⟨0, .data⟩, ⟨1, .data⟩], none⟩
abbrev btB3 : Oper := ⟨some 84, .load 80 (.tmp 17), 80, "relate.go:53", #[], none⟩
abbrev btB4 : Oper := ⟨some 85, .makeInterface 80 (.tmp 84), 126, "relate.go:53", #[⟨3, .data⟩], none⟩
abbrev btB5 : Oper := ⟨some 86, .move (.tmp 5), 3, "relate.go:53", #[], none⟩
abbrev btB6 : Oper := ⟨some 87, .call ⟨.value (.func 58), #[.tmp 83, .tmp 85, .tmp 86], #[77, 126, 3]⟩, 3, "relate.go:53", #[⟨2, .data⟩, ⟨4, .data⟩, ⟨5, .data⟩, ⟨2, .chain⟩], none⟩
abbrev btB7 : Oper := ⟨some 5, .assign (.tmp 87), 3, "relate.go:53", #[⟨6, .data⟩, ⟨6, .chain⟩, ⟨0, .phase⟩, ⟨1, .phase⟩, ⟨2, .phase⟩, ⟨3, .phase⟩, ⟨4, .phase⟩, ⟨5, .phase⟩, ⟨6, .phase⟩], none⟩
theorem between_any (fa fb : Value) (F G : FdD) (w : World) (ha : FdAt w fa F) (hb : FdAt w fb G) (oF : FdOk F) (oG : FdOk G) :
  Calls Tryz.prog 27 #[fa, fb] w fun e w' => ∃ m : Nat, e = .returned (.int .i64 m) ∧ m < 8192 ∧ bitsP m 0 (relP (fdP F) (fdP G)) ∧ Kp w w' := by
 obtain ⟨va, vo, rfl, sa, la⟩ := ha
 obtain ⟨vb, vp, rfl, sb, lb⟩ := hb
 obtain ⟨b1, c1, rfl⟩ := sa.open'
 obtain ⟨b2, c2, rfl⟩ := sb.open'
 obtain ⟨a1, d1, rfl⟩ := la.slice
 obtain ⟨a2, d2, rfl⟩ := lb.slice
 obtain ⟨W0, hW⟩ : ∃ x, x = (w.alloc (.cells #[.slice (some ⟨b1, 0, none⟩) F.ls.length c1, .slice a1 F.lo.length d1] 49)).alloc (.cells #[.slice (some ⟨b2, 0, none⟩) G.ls.length c2, .slice a2 G.lo.length d2] 49) := ⟨_, rfl⟩
 have ka : Kp w W0 := by rw [hW]; exact (Kp.alloc _ _).trans (Kp.alloc _ _)
 have gf : W0.heap[w.heap.size]? = some (.cells #[.slice (some ⟨b1, 0, none⟩) F.ls.length c1, .slice a1 F.lo.length d1] 49 (0, 0)) := by rw [hW]; exact heap_block (Kp.alloc _ _) (heap_at _ _ _ rfl)
 have gg : W0.heap[w.heap.size + 1]? = some (.cells #[.slice (some ⟨b2, 0, none⟩) G.ls.length c2, .slice a2 G.lo.length d2] 49 (0, 0)) := by rw [hW]; exact heap_at _ _ _ (by simp)
 have HB := Hd (fun w' (kq : Kp W0 w') => And.intro (row2 (heap_block kq gf)) (row2 (heap_block kq gg)))
 have SA := Hd (sa.kp ka)
 have SB := Hd (sb.kp ka)
 have LA := Hd (la.kp ka)
 have LB := Hd (lb.kp ka)
 have OF := Hd oF
 have OG := Hd oG
 have KA := Hd ka
 have HW := Hd hW
 have f1 := oF.n1
 have f2 := oF.n2
 have g1 := oG.n1
 have g2 := oG.n2
 have PG := Hd (fdOk_pr oG)
 clear sa sb la lb oF oG ka hW gf gg
 go_enter Tryz.func27, Tryz.ntmps27
 go_wp2_with fail
 rw [← HW.out]
 obtain ⟨⟨e1, e2⟩, e3, e4⟩ := HB.out W0 (Kp.refl _)
 go_loopw [5, 21] (fun f i wr => ∃ qk qm : Nat, qk ≤ F.ls.length ∧ f = .int .i64 qm ∧ i = .int .i64 qk ∧ Hid (qm < 8192) ∧ Hid (bitsP qm 0 fun r => ∃ i, i < qk ∧ relP (memP (lsN F i)) (fdP G) r) ∧ Hid (Kp W0 wr)) (fun _ i _ => F.ls.length - (intOf i).toNat)
 case atStart => exact ⟨0, 0, Nat.zero_le _, rfl, rfl, Hd (by decide), bits_none _ _, Hd (Kp.refl _)⟩
 case round =>
  obtain ⟨k, m, hk, rfl, rfl, M, B0, K1⟩ := hrel
  obtain ⟨wo, hwq⟩ : ∃ x, x = wr := ⟨_, rfl⟩
  subst hwq
  by_cases ltL : k < F.ls.length
  ·have q1 : decide ((k : Int) < ((F.ls.length : Nat) : Int)) = true := dT
   obtain ⟨adL, cpL, cL, rL⟩ := (SA.out.kp K1.out).atN ltL
   have pL := Hd (show prOk (memP (lsN F k)) from OF.out.ok _ (getD_in (d := []) ltL))
   have nL := (show (lsN F k).length ≤ 1000000 from OF.out.len _ (getD_in (d := []) ltL))
   have iL := Hd (show riseP (lsN F k) from OF.out.rise _ (getD_in (d := []) ltL))
   have z1 : (0 : Int) ≤ (k : Int) := by omega
   have LtL := Hd ltL
   clear e1 e2 e3 e4
   obtain ⟨⟨e1, e2⟩, e3, e4⟩ := HB.out wo K1.out
   go_wp2
   go_loopw [5, 28] (fun f i wr => ∃ qk qm : Nat, qk ≤ G.ls.length ∧ f = .int .i64 qm ∧ i = .int .i64 qk ∧ Hid (qm < 8192) ∧ Hid (bitsP qm m fun r => ∃ i, i < qk ∧ relP (memP (lsN F k)) (memP (lsN G i)) r) ∧ Hid (Kp wo wr)) (fun _ i _ => G.ls.length - (intOf i).toNat)
   case atStart => exact ⟨0, m, Nat.zero_le _, rfl, rfl, M, bits_none _ _, Hd (Kp.refl _)⟩
   case round =>
    obtain ⟨j, mj, hj, rfl, rfl, MJ, BJ, KJ⟩ := hrel
    obtain ⟨wi, hwq⟩ : ∃ x, x = wr := ⟨_, rfl⟩
    subst hwq
    by_cases ltM : j < G.ls.length
    ·have q2 : decide ((j : Int) < ((G.ls.length : Nat) : Int)) = true := dT
     obtain ⟨adM, cpM, cM, rM⟩ := (SB.out.kp (K1.out.trans KJ.out)).atN ltM
     have pM := Hd (show prOk (memP (lsN G j)) from OG.out.ok _ (getD_in (d := []) ltM))
     have nM := (show (lsN G j).length ≤ 1000000 from OG.out.len _ (getD_in (d := []) ltM))
     have iM := Hd (show riseP (lsN G j) from OG.out.rise _ (getD_in (d := []) ltM))
     have rL2 := rL.kp KJ.out
     have CQ := Hd (askQ_any _ _ _ _ mj wi rL2 rM MJ.out pL.out pM.out nL nM iM.out)
     have z3 : (0 : Int) ≤ (j : Int) := by omega
     have LtM := Hd ltM
     clear rL2 rM
     go_wp2_with fail
     refine CQ.out.mono ?_
     rintro e w2 ⟨m2, rfl, h1, h2, h3⟩
     have M2 := Hd h1
     have B2 := Hd (bits_next BJ.out h2)
     have K2 := Hd (KJ.out.trans h3)
     clear h1 h2 h3 CQ cM
     go_wp2
     go_roundw
     case rel => exact ⟨j + 1, m2, by have := LtM.out; omega, by go_num, by go_num, M2, B2, K2⟩
     case measure => have := LtM.out; simp [intOf]; omega
    ·have q2 : decide ((j : Int) < ((G.ls.length : Nat) : Int)) = false := dF
     have eej : j = G.ls.length := by omega
     subst eej
     have B1 := BJ
     have KK := Hd (K1.out.trans KJ.out)
     clear e1 e2 e3 e4
     obtain ⟨⟨e1, e2⟩, e3, e4⟩ := HB.out wi KK.out
     have rL2 := Hd (rL.kp KJ.out)
     clear q2
     go_wp2
     go_loopw [5, 41] (fun f i wr => ∃ qk qm : Nat, qk ≤ G.lo.length ∧ f = .int .i64 qm ∧ i = .int .i64 qk ∧ Hid (qm < 8192) ∧ Hid (bitsP qm mj fun r => ∃ i, i < qk ∧ relP (memP (lsN F k)) (looP (loN G i)) r) ∧ Hid (Kp wi wr)) (fun _ i _ => G.lo.length - (intOf i).toNat)
     case atStart => exact ⟨0, mj, Nat.zero_le _, rfl, rfl, MJ, bits_none _ _, Hd (Kp.refl _)⟩
     case round =>
      obtain ⟨x, mx, hx, rfl, rfl, MX, BX, KX⟩ := hrel
      obtain ⟨wx, hwq⟩ : ∃ x, x = wr := ⟨_, rfl⟩
      subst hwq
      by_cases ltX : x < G.lo.length
      ·have q3 : decide ((x : Int) < ((G.lo.length : Nat) : Int)) = true := dT
       have HX := Hd (show LsOkP (loN G x).1 (loN G x).2.1 (loN G x).2.2 ∧ (loN G x).2.1.length ≤ 100000 ∧ (loN G x).2.2.length ≤ 100000 from OG.out.lo _ (getD_in (d := (false, [], [])) ltX))
       obtain ⟨bx, hax, a1x, l1x, a2x, l2x, xc0, xc1, xc2, rxa, rxb⟩ := (LB.out.kp (KK.out.trans KX.out)).atN ltX
       subst hax
       have yx : (0 : Int) ≤ (x : Int) := by omega
       generalize hgx : loN G x = qx at HX xc0 xc1 xc2 rxa rxb
       have Gx := Hd hgx
       clear hgx
       have CQ := Hd (fun W1 (kq : Kp wx W1) => askO_any _ _ _ _ qx mx W1 (rL2.out.kp (KX.out.trans kq)) (rxa.kp kq) (rxb.kp kq) MX.out pL.out nL HX.out.1 HX.out.2.1 HX.out.2.2)
       obtain ⟨V, hV⟩ : ∃ q, q = wx.alloc (.cells #[.bool qx.1, .slice a1x qx.2.1.length l1x, .slice a2x qx.2.2.length l2x] 80) := ⟨_, rfl⟩
       have kv : Kp wx V := by rw [hV]; exact Kp.alloc _ _
       have gv : V.heap[wx.heap.size]? = some (.cells #[.bool qx.1, .slice a1x qx.2.1.length l1x, .slice a2x qx.2.2.length l2x] 80 (0, 0)) := by rw [hV]; exact heap_at _ _ _ rfl
       have BV := Hd (fun w' (kq : Kp V w') => row3 (heap_block kq gv))
       have KV := Hd kv
       have HV := Hd hV
       clear hV kv gv
       have LtX := Hd ltX
       clear rxa rxb
       go_upto_region 13 with fail
       rw [← HV.out]
       clear HV xc0 xc1 xc2
       obtain ⟨v0, v1, v2⟩ := BV.out V (Kp.refl _)
       go_wp2_with fail
       refine (CQ.out _ KV.out).mono ?_
       rintro e w2 ⟨m2, rfl, h1, h2, h3⟩
       have M2 := Hd h1
       have B2 := Hd (bits_next BX.out (by rw [Gx.out]; exact askO_rel pL.out HX.out.1 h2))
       have K2 := Hd (KX.out.trans (KV.out.trans h3))
       clear h1 h2 h3 CQ v0 v1 v2
       go_wp2
       go_roundw
       case rel => exact ⟨x + 1, m2, by have := LtX.out; omega, by go_num, by go_num, M2, B2, K2⟩
       case measure => have := LtX.out; simp [intOf]; omega
      ·have q3 : decide ((x : Int) < ((G.lo.length : Nat) : Int)) = false := dF
       have eex : x = G.lo.length := by omega
       subst eex
       have BE := Hd (bits_next B0.out (bits_congr (bits_trans B1.out BX.out) fun r _ => (relP_split _ G r).symm))
       have KE := Hd (K1.out.trans (KJ.out.trans KX.out))
       go_wp2
       go_roundw
       case rel => exact ⟨k + 1, mx, by have := LtL.out; omega, by go_num, by go_num, MX, BE, KE⟩
       case measure => have := LtL.out; simp [intOf]; omega
  ·have q1 : decide ((k : Int) < ((F.ls.length : Nat) : Int)) = false := dF
   have eek : k = F.ls.length := by omega
   subst eek
   clear e1 e2 e3 e4
   obtain ⟨⟨e1, e2⟩, e3, e4⟩ := HB.out wo K1.out
   clear q1
   go_wp2
   go_loopw [5, 55] (fun f i wr => ∃ qk qm : Nat, qk ≤ F.lo.length ∧ f = .int .i64 qm ∧ i = .int .i64 qk ∧ Hid (qm < 8192) ∧ Hid (bitsP qm m fun r => ∃ i, i < qk ∧ relP (looP (loN F i)) (fdP G) r) ∧ Hid (Kp wo wr)) (fun _ i _ => F.lo.length - (intOf i).toNat)
   case atStart => exact ⟨0, m, Nat.zero_le _, rfl, rfl, M, bits_none _ _, Hd (Kp.refl _)⟩
   case round =>
    obtain ⟨p, mp, hp, rfl, rfl, MP, BP, KP⟩ := hrel
    obtain ⟨wp, hwq⟩ : ∃ x, x = wr := ⟨_, rfl⟩
    subst hwq
    by_cases ltP : p < F.lo.length
    ·have q4 : decide ((p : Int) < ((F.lo.length : Nat) : Int)) = true := dT
     have HP := Hd (show LsOkP (loN F p).1 (loN F p).2.1 (loN F p).2.2 ∧ (loN F p).2.1.length ≤ 100000 ∧ (loN F p).2.2.length ≤ 100000 from OF.out.lo _ (getD_in (d := (false, [], [])) ltP))
     obtain ⟨bp, hap, a1p, l1p, a2p, l2p, pc0, pc1, pc2, rpa, rpb⟩ := (LA.out.kp (K1.out.trans KP.out)).atN ltP
     subst hap
     have yp : (0 : Int) ≤ (p : Int) := by omega
     generalize hgp : loN F p = qp at HP pc0 pc1 pc2 rpa rpb
     have Gp := Hd hgp
     clear hgp
     have RA := Hd (fun W1 (kq : Kp wp W1) => And.intro (rpa.kp kq) (rpb.kp kq))
     obtain ⟨V, hV⟩ : ∃ q, q = wp.alloc (.cells #[.bool qp.1, .slice a1p qp.2.1.length l1p, .slice a2p qp.2.2.length l2p] 80) := ⟨_, rfl⟩
     have kv : Kp wp V := by rw [hV]; exact Kp.alloc _ _
     have gv : V.heap[wp.heap.size]? = some (.cells #[.bool qp.1, .slice a1p qp.2.1.length l1p, .slice a2p qp.2.2.length l2p] 80 (0, 0)) := by rw [hV]; exact heap_at _ _ _ rfl
     have BV := Hd (fun w' (kq : Kp V w') => row3 (heap_block kq gv))
     have KV := Hd kv
     have HV := Hd hV
     clear hV kv gv
     have LtP := Hd ltP
     have KPP := Hd (K1.out.trans (KP.out.trans KV.out))
     clear rpa rpb e1 e2 e3 e4
     obtain ⟨⟨e1, e2⟩, e3, e4⟩ := HB.out wp (K1.out.trans KP.out)
     go_upto_region 19 with fail
     rw [← HV.out]
     clear HV pc0 pc1 pc2 e1 e2 e3 e4
     obtain ⟨⟨e1, e2⟩, e3, e4⟩ := HB.out V KPP.out
     go_wp2
     go_loopw [5, 62] (fun f i wr => ∃ qk qm : Nat, qk ≤ G.ls.length ∧ f = .int .i64 qm ∧ i = .int .i64 qk ∧ Hid (qm < 8192) ∧ Hid (bitsP qm mp fun r => ∃ i, i < qk ∧ relP (looP (loN F p)) (memP (lsN G i)) r) ∧ Hid (Kp V wr)) (fun _ i _ => G.ls.length - (intOf i).toNat)
     case atStart => exact ⟨0, mp, Nat.zero_le _, rfl, rfl, MP, bits_none _ _, Hd (Kp.refl _)⟩
     case round =>
      obtain ⟨j, mj, hj, rfl, rfl, MJ, BJ, KJ⟩ := hrel
      obtain ⟨wi, hwq⟩ : ∃ x, x = wr := ⟨_, rfl⟩
      subst hwq
      by_cases ltM : j < G.ls.length
      ·have q5 : decide ((j : Int) < ((G.ls.length : Nat) : Int)) = true := dT
       obtain ⟨adM, cpM, cM, rM⟩ := (SB.out.kp (KPP.out.trans KJ.out)).atN ltM
       have pM := Hd (show prOk (memP (lsN G j)) from OG.out.ok _ (getD_in (d := []) ltM))
       have nM := (show (lsN G j).length ≤ 1000000 from OG.out.len _ (getD_in (d := []) ltM))
       have iM := Hd (show riseP (lsN G j) from OG.out.rise _ (getD_in (d := []) ltM))
       have z3 : (0 : Int) ≤ (j : Int) := by omega
       have CQ := Hd (fun W1 (kq : Kp wi W1) => askO_any _ _ _ _ qp (flN mj) W1 (rM.kp kq) (RA.out W1 (KV.out.trans (KJ.out.trans kq))).1 (RA.out W1 (KV.out.trans (KJ.out.trans kq))).2 (flN_lt mj) pM.out nM HP.out.1 HP.out.2.1 HP.out.2.2)
       have LtM := Hd ltM
       have KS := Hd (fun w' (kq : Kp wi w') => show w'.cell? ⟨wp.heap.size, 0, none⟩ = some (.bool qp.1) ∧ w'.cell? ⟨wp.heap.size, 1, none⟩ = some (.slice a1p qp.2.1.length l1p) ∧ w'.cell? ⟨wp.heap.size, 2, none⟩ = some (.slice a2p qp.2.2.length l2p) ∧ Kp wi w' from ⟨(BV.out w' (KJ.out.trans kq)).1, (BV.out w' (KJ.out.trans kq)).2.1, (BV.out w' (KJ.out.trans kq)).2.2, kq⟩)
       have k00 : Kp wi wi := Kp.refl _
       clear rM
       go_upto_region 22 with fail
       clear cM
       refine wp_region_held_drew (S := fun w' => w'.cell? ⟨wp.heap.size, 0, none⟩ = some (.bool qp.1) ∧ w'.cell? ⟨wp.heap.size, 1, none⟩ = some (.slice a1p qp.2.1.length l1p) ∧ w'.cell? ⟨wp.heap.size, 2, none⟩ = some (.slice a2p qp.2.2.length l2p) ∧ Kp wi w') (by kernel_rfl) ?_ (fun hHeld0 => ?_)
       ·(try dsimp only); exact KS.out _ (ky k00)
       refine tkv 0 btA0 ?_
       (try simp only [Act.put, btA0, xA, xB, xC])
       refine tkv 1 btA1 ?_
       (try simp only [Act.put, btA1, xA, xB, xC])
       refine tkv 2 btA2 ?_
       (try simp only [Act.put, btA2, xA, xB, xC])
       refine tkv 3 btA3 ?_
       (try simp only [Act.put, btA3, xA, xB, xC])
       refine tkE 4 btA4 rfl (by kernel_rfl) (fun K hK => ?_)
       go_simp
       (refine (flipN_any mj _).mono ?_; rintro e w' ⟨rfl, rfl⟩)
       (try go_wp2_with fail)
       refine hK.out _ _ ?_ (fun hHeld1 => ?_)
       ·(try dsimp only); exact KS.out _ (ky k00)
       clear hK K hHeld0
       (try simp only [Act.put, btA4, xA, xB, xC])
       refine tkE 5 btA5 rfl (by kernel_rfl) (fun K hK => ?_)
       go_simp
       (refine (CQ.out _ (ky k00)).mono ?_; rintro e wy ⟨m2, rfl, h1, h2, kq1⟩; have kky : Kp wi wy := Kp.trans (show Kp wi _ from (ky k00)) kq1; have M2 := Hd h1; have B2 := Hd h2; clear h1 h2; clear kq1)
       (try go_wp2_with fail)
       refine hK.out _ _ ?_ (fun hHeld2 => ?_)
       ·(try dsimp only); exact KS.out _ (ky kky)
       clear hK K hHeld1
       (try simp only [Act.put, btA5, xA, xB, xC])
       refine tkE 6 btA6 rfl (by kernel_rfl) (fun K hK => ?_)
       go_simp
       (refine (flipN_any m2 _).mono ?_; rintro e w' ⟨rfl, rfl⟩)
       (try go_wp2_with fail)
       refine hK.out _ _ ?_ (fun hHeld3 => ?_)
       ·(try dsimp only); exact KS.out _ (ky kky)
       clear hK K hHeld2
       (try simp only [Act.put, btA6, xA, xB, xC])
       refine tkv 7 btA7 ?_
       (try simp only [Act.put, btA7, xA, xB, xC])
       refine wpAnyH_done (by kernel_rfl) ?_ _
       have B3 := Hd (bits_next BJ.out (by rw [Gp.out]; exact bitsP_turn (ls_ok HP.out.1) pM.out (askO_rel pM.out HP.out.1 B2.out)))
       have K3 := Hd (KJ.out.trans kky)
       have M3 := Hd (flN_lt m2)
       go_wp2
       go_roundw
       case rel => exact ⟨j + 1, flN m2, by have := LtM.out; omega, by go_num, by go_num, M3, B3, Hd (K3.out.trans kx)⟩
       case measure => have := LtM.out; simp [intOf]; omega
      ·have q5 : decide ((j : Int) < ((G.ls.length : Nat) : Int)) = false := dF
       have eej : j = G.ls.length := by omega
       subst eej
       have KK := Hd (KPP.out.trans KJ.out)
       clear q5 e1 e2 e3 e4
       obtain ⟨⟨e1, e2⟩, e3, e4⟩ := HB.out wi KK.out
       go_wp2
       go_loopw [5, 77] (fun f i wr => ∃ qk qm : Nat, qk ≤ G.lo.length ∧ f = .int .i64 qm ∧ i = .int .i64 qk ∧ Hid (qm < 8192) ∧ Hid (bitsP qm mj fun r => ∃ i, i < qk ∧ relP (looP (loN F p)) (looP (loN G i)) r) ∧ Hid (Kp wi wr)) (fun _ i _ => G.lo.length - (intOf i).toNat)
       case atStart => exact ⟨0, mj, Nat.zero_le _, rfl, rfl, MJ, bits_none _ _, Hd (Kp.refl _)⟩
       case round =>
        obtain ⟨x, mx, hx, rfl, rfl, MX, BX, KX⟩ := hrel
        obtain ⟨wx, hwq⟩ : ∃ x, x = wr := ⟨_, rfl⟩
        subst hwq
        by_cases ltX : x < G.lo.length
        ·have q6 : decide ((x : Int) < ((G.lo.length : Nat) : Int)) = true := dT
         have HX := Hd (show LsOkP (loN G x).1 (loN G x).2.1 (loN G x).2.2 ∧ (loN G x).2.1.length ≤ 100000 ∧ (loN G x).2.2.length ≤ 100000 from OG.out.lo _ (getD_in (d := (false, [], [])) ltX))
         obtain ⟨bx, hax, a1x, l1x, a2x, l2x, xc0, xc1, xc2, rxa, rxb⟩ := (LB.out.kp (KK.out.trans KX.out)).atN ltX
         subst hax
         have yx : (0 : Int) ≤ (x : Int) := by omega
         generalize hgx : loN G x = qx at HX xc0 xc1 xc2 rxa rxb
         have Gx := Hd hgx
         clear hgx
         have RB := Hd (fun W1 (kq : Kp wx W1) => And.intro (rxa.kp kq) (rxb.kp kq))
         obtain ⟨V2, hV⟩ : ∃ q, q = wx.alloc (.cells #[.bool qx.1, .slice a1x qx.2.1.length l1x, .slice a2x qx.2.2.length l2x] 80) := ⟨_, rfl⟩
         have kv : Kp wx V2 := by rw [hV]; exact Kp.alloc _ _
         have gv : V2.heap[wx.heap.size]? = some (.cells #[.bool qx.1, .slice a1x qx.2.1.length l1x, .slice a2x qx.2.2.length l2x] 80 (0, 0)) := by rw [hV]; exact heap_at _ _ _ rfl
         have BV2 := Hd (fun w' (kq : Kp V2 w') => row3 (heap_block kq gv))
         have KV2 := Hd kv
         have HV := Hd hV
         clear hV kv gv
         have LtX := Hd ltX
         have CE := Hd (fun W1 (kq : Kp V2 W1) => examplesR qp.1 qx.1 qp.2.1 qp.2.2 qx.2.1 qx.2.2 _ _ _ _ W1 (RA.out W1 (KV.out.trans (KJ.out.trans (KX.out.trans (KV2.out.trans kq))))).1 (RA.out W1 (KV.out.trans (KJ.out.trans (KX.out.trans (KV2.out.trans kq))))).2 (RB.out W1 (KV2.out.trans kq)).1 (RB.out W1 (KV2.out.trans kq)).2 HP.out.1 HX.out.1 HP.out.2.1 HP.out.2.2 HX.out.2.1 HX.out.2.2)
         have CQ := Hd (fun v W1 (hv : RunsAt W1 v (exPs qp.1 qp.2.1 qp.2.2 qx.2.1 qx.2.2)) (kq : Kp V2 W1) => askO_any v _ _ _ qx mx W1 hv (RB.out W1 (KV2.out.trans kq)).1 (RB.out W1 (KV2.out.trans kq)).2 MX.out (ex_ok (d' := qx.1) HP.out.1) (exPs_len _ _ _ _ _) HX.out.1 HX.out.2.1 HX.out.2.2)
         have EX := Hd (fun m' h => askE_rel (m := mx) (m' := m') HP.out.1 HX.out.1 h)
         have KS := Hd (fun w' (kq : Kp V2 w') => show w'.cell? ⟨wp.heap.size, 0, none⟩ = some (.bool qp.1) ∧ w'.cell? ⟨wp.heap.size, 1, none⟩ = some (.slice a1p qp.2.1.length l1p) ∧ w'.cell? ⟨wp.heap.size, 2, none⟩ = some (.slice a2p qp.2.2.length l2p) ∧ w'.cell? ⟨wx.heap.size, 0, none⟩ = some (.bool qx.1) ∧ w'.cell? ⟨wx.heap.size, 1, none⟩ = some (.slice a1x qx.2.1.length l1x) ∧ w'.cell? ⟨wx.heap.size, 2, none⟩ = some (.slice a2x qx.2.2.length l2x) ∧ Kp V2 w' from ⟨(BV.out w' (KJ.out.trans (KX.out.trans (KV2.out.trans kq)))).1, (BV.out w' (KJ.out.trans (KX.out.trans (KV2.out.trans kq)))).2.1, (BV.out w' (KJ.out.trans (KX.out.trans (KV2.out.trans kq)))).2.2, (BV2.out w' kq).1, (BV2.out w' kq).2.1, (BV2.out w' kq).2.2, kq⟩)
         have k00 : Kp V2 V2 := Kp.refl _
         generalize exPs qp.1 qp.2.1 qp.2.2 qx.2.1 qx.2.2 = XP at *
         clear rxa rxb
         go_upto_region 27 with fail
         rw [← HV.out]
         clear HV xc0 xc1 xc2
         refine wp_region_held_drew (S := fun w' => w'.cell? ⟨wp.heap.size, 0, none⟩ = some (.bool qp.1) ∧ w'.cell? ⟨wp.heap.size, 1, none⟩ = some (.slice a1p qp.2.1.length l1p) ∧ w'.cell? ⟨wp.heap.size, 2, none⟩ = some (.slice a2p qp.2.2.length l2p) ∧ w'.cell? ⟨wx.heap.size, 0, none⟩ = some (.bool qx.1) ∧ w'.cell? ⟨wx.heap.size, 1, none⟩ = some (.slice a1x qx.2.1.length l1x) ∧ w'.cell? ⟨wx.heap.size, 2, none⟩ = some (.slice a2x qx.2.2.length l2x) ∧ Kp V2 w') (by kernel_rfl) ?_ (fun hHeld0 => ?_)
         ·(try dsimp only); exact KS.out _ (ky k00)
         refine tkv 0 btB0 ?_
         (try simp only [Act.put, btB0, xA, xB, xC])
         refine tkv 1 btB1 ?_
         (try simp only [Act.put, btB1, xA, xB, xC])
         refine tkv 3 btB3 ?_
         (try simp only [Act.put, btB3, xA, xB, xC])
         refine tkv 4 btB4 ?_
         (try simp only [Act.put, btB4, xA, xB, xC])
         refine tkv 5 btB5 ?_
         (try simp only [Act.put, btB5, xA, xB, xC])
         refine tkE 2 btB2 rfl (by kernel_rfl) (fun K hK => ?_)
         go_simp
         (refine (CE.out _ (ky k00)).mono ?_; rintro e wy ⟨ve, rfl, oe, kq1⟩; have kky : Kp V2 wy := Kp.trans (show Kp V2 _ from (ky k00)) kq1; have RE := Hd oe; clear oe; clear kq1)
         (try go_wp2_with fail)
         refine hK.out _ _ ?_ (fun hHeld1 => ?_)
         ·(try dsimp only); exact KS.out _ (ky kky)
         clear hK K hHeld0
         (try simp only [Act.put, btB2, xA, xB, xC])
         refine tkE 6 btB6 rfl (by kernel_rfl) (fun K hK => ?_)
         go_simp
         (refine (CQ.out _ _ (RE.out.kp (ky (Kp.refl wy))) (ky kky)).mono ?_; rintro e wz ⟨m2, rfl, h1, h2, kq1⟩; have kkz : Kp V2 wz := Kp.trans (show Kp V2 _ from (ky kky)) kq1; have M2 := Hd h1; have B2 := Hd h2; clear h1 h2; clear kq1)
         (try go_wp2_with fail)
         refine hK.out _ _ ?_ (fun hHeld2 => ?_)
         ·(try dsimp only); exact KS.out _ (ky kkz)
         clear hK K hHeld1
         (try simp only [Act.put, btB6, xA, xB, xC])
         refine tkv 7 btB7 ?_
         (try simp only [Act.put, btB7, xA, xB, xC])
         refine wpAnyH_done (by kernel_rfl) ?_ _
         have B3 := Hd (bits_next BX.out (by rw [Gp.out, Gx.out]; exact EX.out _ B2.out))
         have K3 := Hd (KX.out.trans (KV2.out.trans kkz))
         go_wp2
         go_roundw
         case rel => exact ⟨x + 1, m2, by have := LtX.out; omega, by go_num, by go_num, M2, B3, Hd (K3.out.trans kx)⟩
         case measure => have := LtX.out; simp [intOf]; omega
        ·have q6 : decide ((x : Int) < ((G.lo.length : Nat) : Int)) = false := dF
         have eex : x = G.lo.length := by omega
         subst eex
         have BE := Hd (bits_next BP.out (bits_congr (bits_trans BJ.out BX.out) fun r _ => (relP_split _ G r).symm))
         have KE := Hd (KP.out.trans (KV.out.trans (KJ.out.trans KX.out)))
         go_wp2
         go_roundw
         case rel => exact ⟨p + 1, mx, by have := LtP.out; omega, by go_num, by go_num, MX, BE, KE⟩
         case measure => have := LtP.out; simp [intOf]; omega
    ·have q4 : decide ((p : Int) < ((F.lo.length : Nat) : Int)) = false := dF
     have eep : p = F.lo.length := by omega
     subst eep
     have BE := Hd (bits_congr (bits_trans B0.out BP.out) fun r _ => (relP_first F _ r).symm)
     have KE := Hd (KA.out.trans (K1.out.trans KP.out))
     go_wp2
     go_ret
     exact ⟨mp, rfl, MP.out, BE.out, KE.out⟩
open Classical in
noncomputable def bitsN (X : Nat → Prop) : Nat := (List.range 13).foldl (fun m r => if X r then m ||| 2 ^ r else m) 0
open Classical in
theorem bitsN_fold (X : Nat → Prop) : ∀ k, k ≤ 13 → (∀ r, r ≤ 12 → (((List.range k).foldl (fun m r => if X r then m ||| 2 ^ r else m) 0).testBit r = true ↔ r < k ∧ X r)) ∧ (List.range k).foldl (fun m r => if X r then m ||| 2 ^ r else m) 0 < 8192
 | 0, _ => ⟨fun r _ => by simp, by simp⟩
 | k + 1, h => by
  obtain ⟨h1, h2⟩ := bitsN_fold X k (by omega)
  rw [List.range_succ, List.foldl_append]
  simp only [List.foldl_cons, List.foldl_nil]
  by_cases c : X k
  ·rw [if_pos c]
   refine ⟨fun r hr => ?_, ask_lt h2 (by omega)⟩
   rw [ak_bit, h1 r hr]
   constructor
   ·rintro (⟨a, b⟩ | rfl)
    ·exact ⟨by omega, b⟩
    ·exact ⟨by omega, c⟩
   ·rintro ⟨a, b⟩
    by_cases e : r = k
    ·exact .inr e
    ·exact .inl ⟨by omega, b⟩
  ·rw [if_neg c]
   refine ⟨fun r hr => ?_, h2⟩
   rw [h1 r hr]
   constructor
   ·rintro ⟨a, b⟩; exact ⟨by omega, b⟩
   ·rintro ⟨a, b⟩
    by_cases e : r = k
    ·subst e; exact absurd b c
    ·exact ⟨by omega, b⟩
theorem bitsN_bit (X : Nat → Prop) {r : Nat} (hr : r ≤ 12) : (bitsN X).testBit r = true ↔ X r := by
 have := (bitsN_fold X 13 (Nat.le_refl _)).1 r hr
 unfold bitsN
 rw [this]
 exact ⟨And.right, fun h => ⟨by omega, h⟩⟩
theorem bitsN_lt (X : Nat → Prop) : bitsN X < 8192 := (bitsN_fold X 13 (Nat.le_refl _)).2
theorem mask_ext {a b : Nat} (ha : a < 8192) (hb : b < 8192) (h : ∀ r, r ≤ 12 → (a.testBit r = true ↔ b.testBit r = true)) : a = b := by
 apply Nat.eq_of_testBit_eq
 intro i
 by_cases c : i ≤ 12
 ·have := h i c
  cases x : a.testBit i <;> cases y : b.testBit i <;> simp_all
 ·have p : 8192 ≤ 2 ^ i := by
   have : 2 ^ 13 ≤ 2 ^ i := Nat.pow_le_pow_right (by decide) (by omega)
   omega
  rw [Nat.testBit_lt_two_pow (by omega), Nat.testBit_lt_two_pow (by omega)]
theorem bitsN_eq {m : Nat} {X : Nat → Prop} (h : m < 8192) (g : bitsP m 0 X) : m = bitsN X :=
 mask_ext h (bitsN_lt X) fun r hr => by rw [g r hr, bitsN_bit X hr]; simp
theorem bitsN_congr {X Y : Nat → Prop} (h : ∀ r, r ≤ 12 → (X r ↔ Y r)) : bitsN X = bitsN Y :=
 mask_ext (bitsN_lt X) (bitsN_lt Y) fun r hr => by rw [bitsN_bit X hr, bitsN_bit Y hr, h r hr]
def hasP (l : List LF) : Int → Int → Prop := fun S T => hasL l S T = true
noncomputable def relOk (l m : List LF) : Bool := okAll l && okAll m
noncomputable def relM (l m : List LF) : Nat := if relOk l m = true then bitsN (relP (hasP l) (hasP m)) else 0
noncomputable def relE (l m : List LF) : Int := if relOk l m = true then 0 else 8
theorem relM_lt (l m : List LF) : relM l m < 8192 := by
 unfold relM
 split
 ·exact bitsN_lt _
 ·decide
theorem relM_bit {l m : List LF} (h : relOk l m = true) {r : Nat} (hr : r ≤ 12) : (relM l m).testBit r = true ↔ relP (hasP l) (hasP m) r := by
 unfold relM
 rw [if_pos h, bitsN_bit _ hr]
theorem relP_congr {P P' Q Q' : Int → Int → Prop} (h : ∀ S T, P S T ↔ P' S T) (g : ∀ S T, Q S T ↔ Q' S T) (r : Nat) : relP P Q r ↔ relP P' Q' r := by
 unfold relP
 simp only [h, g]
theorem FdAt.forms {w : World} {va vo : Value} {F : FdD} (h : FdAt w (.agg #[va, vo]) F) : (∃ b n c, va = .slice (some ⟨b, 0, none⟩) n c) ∧ ∃ a n c, vo = .slice a n c := by
 obtain ⟨vl, vo', e, h1, h2⟩ := h
 cases e
 obtain ⟨b, c, e⟩ := h1.open'
 obtain ⟨a, d, e2⟩ := h2.slice
 exact ⟨⟨_, _, _, e⟩, _, _, _, e2⟩
theorem relations_any (va vb : Value) (l m : List LF) (w : World) (ha : LeavesAt w va l) (hb : LeavesAt w vb m) (oa : LsOk l) (ob : LsOk m) (na : l.length ≤ 100) (nb : m.length ≤ 100) (T : Tabs w) :
  Calls Tryz.prog 7 #[va, vb] w fun e w' => e = .returned (.tuple #[.int .i64 ((relM l m : Nat) : Int), .int .i64 (relE l m)]) ∧ Kp w w' := by
 have C1 := Hd (sorted_any va l w ha oa na T)
 have C2 := Hd (fun w1 (k : Kp w w1) => sorted_any vb m w1 (hb.kp k) ob nb (T.kp k))
 have CB := Hd (fun fa fb F G w1 (h1 : FdAt w1 fa F) (h2 : FdAt w1 fb G) (h3 : FdOk F) (h4 : FdOk G) => between_any fa fb F G w1 h1 h2 h3 h4)
 have R0 : ¬ (okAll l = true ∧ okAll m = true) → Hid (relM l m = 0 ∧ relE l m = 8) := fun h => by
  have e : ¬ relOk l m = true := fun g => h (by unfold relOk at g; simpa using g)
  exact Hd ⟨if_neg e, if_neg e⟩
 have R1 : okAll l = true ∧ okAll m = true → Hid (relM l m = bitsN (relP (hasP l) (hasP m)) ∧ relE l m = 0) := fun h => by
  have e : relOk l m = true := by unfold relOk; simpa using h
  exact Hd ⟨if_pos e, if_pos e⟩
 have R1 := Hd R1
 have R0 := Hd R0
 generalize relM l m = M at *
 generalize relE l m = E at *
 clear ha hb oa ob T
 go_enter Tryz.func7, Tryz.ntmps7
 go_wp2_with fail
 refine C1.out.mono ?_
 rintro e w1 ⟨⟨p1, p2⟩, k1⟩
 cases hl : okAll l with
 | false =>
  have e := p2 hl
  subst e
  obtain ⟨e1, e2⟩ := (R0.out (by rw [hl]; simp)).out
  subst e1
  subst e2
  have K1 := Hd k1
  clear p1 p2 hl k1 R0 R1
  go_wp2
  go_ret2
  exact ⟨rfl, K1.out.trans (by first | exact Kp.alloc _ _ | exact (Kp.alloc _ _).trans (Kp.alloc _ _) | exact Kp.refl _)⟩
 | true =>
  obtain ⟨fa, F, e, fA, oF, hF⟩ := p1 hl
  subst e
  have HF := Hd hF
  obtain ⟨va1, vo1, rfl, -, -⟩ := id fA
  have FA := Hd fA
  have OF := Hd oF
  have HL := Hd hl
  have K1 := Hd k1
  have sl1 := fA.forms
  obtain ⟨⟨b1, n1, c1, rfl⟩, a1, m1, d1, rfl⟩ := sl1
  obtain ⟨V1, hV⟩ : ∃ x, x = w1.alloc (.cells #[.slice (some ⟨b1, 0, none⟩) n1 c1, .slice a1 m1 d1] 49) := ⟨_, rfl⟩
  have kv : Kp w1 V1 := by rw [hV]; exact Kp.alloc _ _
  have gv : V1.heap[w1.heap.size]? = some (.cells #[.slice (some ⟨b1, 0, none⟩) n1 c1, .slice a1 m1 d1] 49 (0, 0)) := by rw [hV]; exact heap_at _ _ _ rfl
  have G1 := Hd gv
  have KV1 := Hd (k1.trans kv)
  have HV := Hd hV
  have KVV := Hd kv
  clear p1 p2 hl k1 hF fA oF hV kv gv
  go_upto_region 4 with fail
  rw [← HV.out]
  clear HV
  go_wp2_with fail
  refine (C2.out _ KV1.out).mono ?_
  rintro e w2 ⟨⟨p1, p2⟩, k2⟩
  cases hm : okAll m with
  | false =>
   have e := p2 hm
   subst e
   obtain ⟨e1, e2⟩ := (R0.out (by rw [hm]; simp)).out
   subst e1
   subst e2
   have K2 := Hd (KV1.out.trans k2)
   clear p1 p2 hm k2 R0 R1
   go_wp2
   go_ret2
   exact ⟨rfl, K2.out.trans (by first | exact Kp.alloc _ _ | exact (Kp.alloc _ _).trans (Kp.alloc _ _) | exact Kp.refl _)⟩
  | true =>
   obtain ⟨fb, G, e, fB, oG, hG⟩ := p1 hm
   subst e
   obtain ⟨vb1, vp1, rfl, -, -⟩ := id fB
   obtain ⟨e1, e2⟩ := (R1.out ⟨HL.out, hm⟩).out
   have HG := Hd hG
   have E1 := Hd e1
   subst e2
   have sl2 := fB.forms
   obtain ⟨⟨b2, n2, c2, rfl⟩, a2, m2, d2, rfl⟩ := sl2
   obtain ⟨V2, hV⟩ : ∃ x, x = w2.alloc (.cells #[.slice (some ⟨b2, 0, none⟩) n2 c2, .slice a2 m2 d2] 49) := ⟨_, rfl⟩
   have kv : Kp w2 V2 := by rw [hV]; exact Kp.alloc _ _
   have gv : V2.heap[w2.heap.size]? = some (.cells #[.slice (some ⟨b2, 0, none⟩) n2 c2, .slice a2 m2 d2] 49 (0, 0)) := by rw [hV]; exact heap_at _ _ _ rfl
   have CBB := Hd (CB.out _ _ F G V2 (FA.out.kp (KVV.out.trans (k2.trans kv))) (fB.kp kv) OF.out oG)
   obtain ⟨x0, x1⟩ := row2 (heap_block (k2.trans kv) G1.out)
   obtain ⟨y0, y1⟩ := row2 gv
   have KV2 := Hd (KV1.out.trans (k2.trans kv))
   have HV := Hd hV
   clear p1 p2 hm k2 hG fB oG e1 R0 R1 CB FA OF C1 C2 G1 gv hV kv
   go_upto_region 7 with fail
   rw [← HV.out]
   clear HV
   go_wp2_with fail
   refine CBB.out.mono ?_
   rintro e w3 ⟨q, rfl, h1, h2, h3⟩
   have QE := Hd (show q = M by rw [E1.out, bitsN_eq h1 h2]; exact bitsN_congr fun r _ => relP_congr HF.out HG.out r)
   have K3 := Hd (KV2.out.trans h3)
   clear h1 h2 h3
   go_wp2
   go_ret2
   exact ⟨by rw [QE.out]; rfl, K3.out⟩
end Go.Proofs.YtcooaoponkkpeaaGreatDoor
