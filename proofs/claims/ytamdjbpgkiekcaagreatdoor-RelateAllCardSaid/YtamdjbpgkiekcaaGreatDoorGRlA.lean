import Derived.Test.YtamdjbpgkiekcaaGreatDoorGBa
import Derived.Test.YtamdjbpgkiekcaaGreatDoorGLeafA
import Derived.Deep.MidRow
import Derived.Deep.CutRange
import Derived.Test.YtamdjbpgkiekcaaGreatDoorGSetA
import Derived.Test.YtamdjbpgkiekcaaGreatDoorImgE
namespace Go.Proofs.YtamdjbpgkiekcaaGreatDoor
open Go.RowKit
set_option linter.unusedVariables false
set_option linter.unusedSimpArgs false
theorem bx_heap1 {w : World} {B : Nat} {t : TypeId} {c : Array Value} {fr : Nat × Nat} (hB : w.heap[B]? = some (.cells c t fr)) (o : Nat) (x : Value) : (w.setCell ⟨B, o, none⟩ x).heap[B]? = some (.cells (c.setIfInBounds o x) t fr) := by
 unfold World.setCell
 simp only
 rw [Array.getElem?_modify, if_pos rfl, hB]
 rfl
theorem bx_other1 {w : World} {B C : Nat} (h : C ≠ B) (o : Nat) (x : Value) : (w.setCell ⟨B, o, none⟩ x).heap[C]? = w.heap[C]? := by
 unfold World.setCell
 simp only
 rw [Array.getElem?_modify, if_neg (Ne.symm h)]
def bxA : Array Value → Nat → List Value → Array Value
 | a, _, [] => a
 | a, o, c :: cs => bxA (a.setIfInBounds o c) (o + 1) cs
theorem bx_heap {B : Nat} {t : TypeId} {fr : Nat × Nat} : ∀ (cs : List Value) (o : Nat) {w : World} {a : Array Value}, w.heap[B]? = some (.cells a t fr) → (w.setCells B o cs).heap[B]? = some (.cells (bxA a o cs) t fr)
 | [], _, _, _, h => h
 | c :: cs, o, w, a, h => bx_heap cs (o + 1) (bx_heap1 h o c)
theorem bx_other {B C : Nat} (h : C ≠ B) : ∀ (cs : List Value) (o : Nat) (w : World), (w.setCells B o cs).heap[C]? = w.heap[C]?
 | [], _, _ => rfl
 | c :: cs, o, w => (bx_other h cs (o + 1) _).trans (bx_other1 h o c)
theorem bx_kp {w0 : World} {g : Nat} (hg : w0.heap.size ≤ g) : ∀ (cs : List Value) (o : Nat) {w : World}, Kp w0 w → Kp w0 (w.setCells g o cs)
 | [], _, _, k => k
 | c :: cs, o, w, k => bx_kp hg cs (o + 1) (Below.setCell k (p := ⟨g, o, none⟩) hg c)
theorem bx_there {w : World} {B : Nat} {t : TypeId} {a : Array Value} (h : w.heap[B]? = some (.cells a t (0, 0))) (o n : Nat) (e : o + n ≤ a.size) : w.there B o n := fun j hj => by
 have hl : o + j < a.size := by omega
 refine ⟨?_, by simp [World.frozen?, h]⟩
 simp [World.cell?, h, hl]
theorem bx_store {P : Program} {W w : World} {ops : Array Oper} {o : Oper} {a : Act} {K : Act → World → Prop} {Q : Exit → Act → World → Prop} {E : Prop} (hgd : o.guard = none) (ty : TypeId) (x y : Operand) (ho : o.op = .store ty x y)
  (B : Nat) (cs : List Value) (zs : Array Value) (hx : a.eval x = .pointer (some ⟨B, 0, none⟩)) (hy : a.eval y = .agg cs.toArray) (hk : Kp W w) (hW : W.heap.size ≤ B) (hB : w.heap[B]? = some (.cells zs ty (0, 0)))
  (hl : cs.length ≤ zs.size) (hs : bxA zs 0 cs = cs.toArray) (hi : (P.info? ty).map (·.size) = some cs.length) (h1 : cs.toArray.all (·.oneCell') = true)
  (h : ∀ F, F = w.setCells B 0 cs → Kp W F → F.heap[B]? = some (.cells cs.toArray ty (0, 0)) → K (a.put o.dst undef) F) : if Region.wanted o (yielded ops a.tmps) = true then Oper.wp P o a w K Q else E := by
 rw [if_pos (by simp [Region.wanted, hgd])]
 have g := bx_heap cs 0 hB
 rw [hs] at g
 exact wp_store_mid ty x y ho B 0 cs.toArray hx hy (by simpa using bx_there hB 0 cs.length (by omega)) (by simpa using hi) h1 (h _ rfl (bx_kp hW cs 0 hk) g)
theorem row4 {W : World} {B : Nat} {a b c d : Value} {t : TypeId} {fr : Nat × Nat} (h : W.heap[B]? = some (.cells #[a, b, c, d] t fr)) : W.cell? ⟨B, 0, none⟩ = some a ∧ W.cell? ⟨B, 1, none⟩ = some b ∧ W.cell? ⟨B, 2, none⟩ = some c ∧ W.cell? ⟨B, 3, none⟩ = some d := by
 refine ⟨?_, ?_, ?_, ?_⟩ <;> simp [World.cell?, h]
theorem row2 {W : World} {B : Nat} {a b : Value} {t : TypeId} {fr : Nat × Nat} (h : W.heap[B]? = some (.cells #[a, b] t fr)) : W.cell? ⟨B, 0, none⟩ = some a ∧ W.cell? ⟨B, 1, none⟩ = some b := by
 refine ⟨?_, ?_⟩ <;> simp [World.cell?, h]
theorem row3 {W : World} {B : Nat} {a b c : Value} {t : TypeId} {fr : Nat × Nat} (h : W.heap[B]? = some (.cells #[a, b, c] t fr)) : W.cell? ⟨B, 0, none⟩ = some a ∧ W.cell? ⟨B, 1, none⟩ = some b ∧ W.cell? ⟨B, 2, none⟩ = some c := by
 refine ⟨?_, ?_, ?_⟩ <;> simp [World.cell?, h]
theorem row1 {W : World} {B : Nat} {a : Value} {t : TypeId} {fr : Nat × Nat} (h : W.heap[B]? = some (.cells #[a] t fr)) : W.cell? ⟨B, 0, none⟩ = some a := by
 simp [World.cell?, h]
def cellsZ (l : List Int) : List Value := l.map (Value.int .i64)
theorem infoZ : (Tryz.prog.info? 3).map (fun i => (i.zero, i.size, i.bytes)) = some (some (.int .i64 0), 1, 8) := by kernel_rfl
theorem cellsZ_length (l : List Int) : (cellsZ l).length = l.length := by unfold cellsZ; simp
theorem cellsZ_append (a b : List Int) : cellsZ (a ++ b) = cellsZ a ++ cellsZ b := by unfold cellsZ; simp
theorem cellsZ_one (l : List Int) : ∀ u ∈ cellsZ l, u.oneCell' = true := by
 intro u hu
 unfold cellsZ at hu
 obtain ⟨n, _, rfl⟩ := List.mem_map.1 hu
 rfl
theorem cellsZ_at (l : List Int) {i : Nat} (h : i < l.length) : (cellsZ l)[i]? = some (.int .i64 (l.getD i 0)) := by
 unfold cellsZ; simp [List.getD, h]
theorem intsAt_ownZ {w : World} {base : Nat} {e : TypeId} {v : Value} {l : List Int} (h : w.ownsRow base e 1 v l.length (cellsZ l)) : IntsAt w v l := by
 rcases h.2 with ⟨e1, h0⟩ | ⟨g, cp, cur, e1, h2, h3, h4, h5, h6, h7⟩
 ·exact .inl ⟨_, _, e1, List.length_eq_zero_iff.1 h0⟩
 ·subst e1
  refine .inr ⟨g, 0, cp, rfl, h4, h5, fun i hi => ?_⟩
  rw [Nat.zero_add, h.cellAt i (by omega)]
  exact cellsZ_at l hi
theorem IntsAt.src {w : World} {v : Value} {l : List Int} (h : IntsAt w v l) : SrcAt w v l.length (cellsZ l) := by
 rcases h with ⟨ad, cp, rfl, rfl⟩ | ⟨b, off, cap, rfl, _, _, hx⟩
 ·exact .inl ⟨_, _, rfl, rfl, rfl⟩
 ·refine .inr ⟨_, _, rfl, fun j u hu => ?_⟩
  have hj : j < l.length := by
   have := (List.getElem?_eq_some_iff.1 hu).1
   rwa [cellsZ_length] at this
  rw [cellsZ_at l hj] at hu
  cases hu
  rw [Addr.add_lit]
  exact hx j hj
theorem one_srcZ (w : World) (x : Int) (t : TypeId) : SrcAt (w.alloc (.cells #[.int .i64 x] t)) (.slice (some ⟨w.heap.size, 0, none⟩) 1 1) 1 [.int .i64 x] := by
 refine .inr ⟨_, _, rfl, fun j u hu => ?_⟩
 match j, hu with
 | 0, hu => cases hu; simp [Addr.add]
theorem two_srcZ (w : World) (x y : Int) (t : TypeId) : SrcAt (w.alloc (.cells #[.int .i64 x, .int .i64 y] t)) (.slice (some ⟨w.heap.size, 0, none⟩) 2 2) 2 [.int .i64 x, .int .i64 y] := by
 refine .inr ⟨_, _, rfl, fun j u hu => ?_⟩
 match j, hu with
 | 0, hu => cases hu; simp [Addr.add]
 | 1, hu => cases hu; simp [Addr.add]
theorem own_lenZ {w : World} {base : Nat} {e : TypeId} {v : Value} {l m : List Int} (h : w.ownsRow base e 1 v (l.length + m.length) (cellsZ l ++ cellsZ m)) : w.ownsRow base e 1 v (l ++ m).length (cellsZ (l ++ m)) := by
 rw [cellsZ_append, List.length_append]; exact h
theorem own_snocZ {w : World} {base : Nat} {e : TypeId} {v : Value} {l : List Int} {x : Int} (h : w.ownsRow base e 1 v (l.length + 1) (cellsZ l ++ [.int .i64 x])) : w.ownsRow base e 1 v (l ++ [x]).length (cellsZ (l ++ [x])) := own_lenZ (m := [x]) h
theorem own_snoc2Z {w : World} {base : Nat} {e : TypeId} {v : Value} {l : List Int} {x y : Int} (h : w.ownsRow base e 1 v (l.length + 2) (cellsZ l ++ [.int .i64 x, .int .i64 y])) : w.ownsRow base e 1 v (l ++ [x, y]).length (cellsZ (l ++ [x, y])) := own_lenZ (m := [x, y]) h
theorem own_sliceZ {w : World} {base : Nat} {e : TypeId} {v : Value} {n : Nat} {xs : List Value} (h : w.ownsRow base e 1 v n xs) : ∃ ad c, v = .slice ad n c := by
 rcases h.2 with ⟨e1, h0⟩ | ⟨g, cp, cur, e1, _⟩
 ·subst h0; exact ⟨_, _, e1⟩
 ·exact ⟨_, _, e1⟩
theorem infoPr : (Tryz.prog.info? 36).map (fun i => (i.zero, i.size, i.bytes)) = some (some (.agg #[.int .i64 0, .int .i64 0]), 2, 16) := by kernel_rfl
def OwnR (w : World) (base : Nat) (v : Value) (l : List R) : Prop := w.ownsRow base 53 2 v l.length (cellsR l)
theorem OwnR.nil (w : World) (base : Nat) (ad : Option Addr) (h : ad = none) : OwnR w base (.slice ad 0 0) [] := by subst h; exact World.ownsRow_nil _ _ _ _
theorem OwnR.runs {w : World} {base : Nat} {v : Value} {l : List R} (h : OwnR w base v l) : RunsAt w v l := runsAt_own h
def FamO (w : World) (base : Nat) (v : Value) : Fam → Prop
 | .units k s => ∃ ad c, v = .iface 76 (.agg #[.int .i64 k, .slice ad s.length c]) ∧ RunsAt w (.slice ad s.length c) s
 | .span s e => ∃ ad c bd d, v = .iface 79 (.agg #[.slice ad s.length c, .slice bd e.length d]) ∧ OwnR w base (.slice ad s.length c) s ∧ OwnR w base (.slice bd e.length d) e
set_option maxHeartbeats 4000000 in
set_option maxRecDepth 100000 in
theorem famO_none (f : LF) (hf : leafB f = true) (hs : f.sp = true) (h0 : f.a.length = 0 ∨ f.b.length = 0) (va vb : Value) (w : World) (ha : RunsAt w va f.a) (hb : RunsAt w vb f.b) (ia : I64R f.a) (ib : I64R f.b) (na : f.a.length ≤ 1000000) (nb : f.b.length ≤ 1000000) (U : TabUC w) :
  Calls Tryz.prog 45 #[leafV f va vb] w fun e w' => ∃ v, e = .returned v ∧ FamO w' w.heap.size v (famR f) ∧ Kp w w' := by
 have C := Lib.hid (fun w1 (kk : Kp w w1) => leafSane_any f va vb w1 (ha.kp kk) (hb.kp kk) ia ib na nb (U.kp kk))
 rw [hf] at C
 have E : famR f = .span [] [] := by unfold famR; rw [if_pos hf, if_pos hs, if_pos h0]
 rw [E]
 obtain ⟨sp, u, a, b⟩ := f
 simp only at hs h0
 subst hs
 obtain ⟨ad, ca, rfl⟩ := ha.slice
 obtain ⟨bd, cb, rfl⟩ := hb.slice
 unfold leafV at C ⊢
 simp only at ha hb ia ib na nb C ⊢
 have K0 := Lib.hid (Kp.alloc w (.cells #[.bool true, .int .i64 u, .slice ad a.length ca, .slice bd b.length cb] 47))
 clear ha hb ia ib U hf E
 obtain ⟨z, hz⟩ : ∃ z, ((a.length : Int) == 0) = z := ⟨_, rfl⟩
 have H0 := Lib.hid h0
 clear h0
 cases z with
 | true =>
  go_enter Tryz.func45, Tryz.ntmps45
  go_wp2_with fail
  refine (C.out _ K0.out).mono ?_
  rintro e w1 ⟨rfl, kk⟩
  have c0 := (Below.cell (p := ⟨w.heap.size, 0, none⟩) kk (by simp)).trans (show _ = some (.bool true) by simp)
  have c1 := (Below.cell (p := ⟨w.heap.size, 1, none⟩) kk (by simp)).trans (show _ = some (.int .i64 u) by simp)
  have c2 := (Below.cell (p := ⟨w.heap.size, 2, none⟩) kk (by simp)).trans (show _ = some (.slice ad a.length ca) by simp)
  have c3 := (Below.cell (p := ⟨w.heap.size, 3, none⟩) kk (by simp)).trans (show _ = some (.slice bd b.length cb) by simp)
  have K1 := Lib.hid (K0.out.trans kk)
  clear kk C
  go_wp2
  go_ret
  exact ⟨_, rfl, ⟨none, 0, none, 0, rfl, OwnR.nil _ _ _ rfl, OwnR.nil _ _ _ rfl⟩, K1.out⟩
 | false =>
  have hb0 : ((b.length : Int) == 0) = true := by
   have h1 := beq_eq_false_iff_ne.1 hz
   have h2 : b.length = 0 := by rcases H0.out with h | h <;> omega
   rw [h2]; rfl
  go_enter Tryz.func45, Tryz.ntmps45
  go_wp2_with fail
  refine (C.out _ K0.out).mono ?_
  rintro e w1 ⟨rfl, kk⟩
  have c0 := (Below.cell (p := ⟨w.heap.size, 0, none⟩) kk (by simp)).trans (show _ = some (.bool true) by simp)
  have c1 := (Below.cell (p := ⟨w.heap.size, 1, none⟩) kk (by simp)).trans (show _ = some (.int .i64 u) by simp)
  have c2 := (Below.cell (p := ⟨w.heap.size, 2, none⟩) kk (by simp)).trans (show _ = some (.slice ad a.length ca) by simp)
  have c3 := (Below.cell (p := ⟨w.heap.size, 3, none⟩) kk (by simp)).trans (show _ = some (.slice bd b.length cb) by simp)
  have K1 := Lib.hid (K0.out.trans kk)
  clear kk C
  go_wp2
  go_ret
  exact ⟨_, rfl, ⟨none, 0, none, 0, rfl, OwnR.nil _ _ _ rfl, OwnR.nil _ _ _ rfl⟩, K1.out⟩
set_option maxHeartbeats 4000000 in
set_option maxRecDepth 100000 in
theorem famO_span (f : LF) (hf : leafB f = true) (hs : f.sp = true) (ha0 : f.a.length ≠ 0) (hb0 : f.b.length ≠ 0) (va vb : Value) (w : World) (ha : RunsAt w va f.a) (hb : RunsAt w vb f.b) (ia : I64R f.a) (ib : I64R f.b) (na : f.a.length ≤ 1000000) (nb : f.b.length ≤ 1000000) (U : TabUC w) :
  Calls Tryz.prog 45 #[leafV f va vb] w fun e w' => ∃ v, e = .returned v ∧ FamO w' w.heap.size v (famR f) ∧ Kp w w' := by
 have C := Lib.hid (fun w1 (kk : Kp w w1) => leafSane_any f va vb w1 (ha.kp kk) (hb.kp kk) ia ib na nb (U.kp kk))
 rw [hf] at C
 have E : famR f = .span (interR f.a [(0, greatR f.b)]) (interR f.b [(leastR f.a, 3652424)]) := by unfold famR; rw [if_pos hf, if_pos hs, if_neg (by omega)]
 rw [E]
 have G1 := greatR_i64 ib (by omega)
 have G2 := leastR_i64 ia (by omega)
 obtain ⟨sp, u, a, b⟩ := f
 simp only at hs ha0 hb0 G1 G2
 subst hs
 obtain ⟨ad, ca, rfl⟩ := ha.slice
 obtain ⟨bd, cb, rfl⟩ := hb.slice
 unfold leafV at C ⊢
 simp only at ha hb ia ib na nb C ⊢
 have K0 := Lib.hid (Kp.alloc w (.cells #[.bool true, .int .i64 u, .slice ad a.length ca, .slice bd b.length cb] 47))
 have P1 := Lib.hid (fun w1 (kk : Kp w w1) => clip_any _ a 0 (greatR b) w1 (ha.kp kk) ia na (i64_one (by omega) (by omega) G1.1 G1.2))
 have P2 := Lib.hid (fun w1 (kk : Kp w w1) => clip_any _ b (leastR a) 3652424 w1 (hb.kp kk) ib nb (i64_one G2.1 G2.2 (by omega) (by omega)))
 have Q1 := Lib.hid (fun w1 (kk : Kp w w1) => greatest_any _ b w1 (hb.kp kk) (by omega) nb)
 have Q2 := Lib.hid (fun w1 (kk : Kp w w1) => least_any _ a w1 (ha.kp kk) (by omega))
 have z1 : ((a.length : Int) == 0) = false := beq_eq_false_iff_ne.2 (by omega)
 have z2 : ((b.length : Int) == 0) = false := beq_eq_false_iff_ne.2 (by omega)
 clear ha hb ia ib U hf E ha0 hb0 G1 G2
 generalize interR a [(0, greatR b)] = X1 at *
 generalize interR b [(leastR a, 3652424)] = X2 at *
 generalize greatR b = g at *
 generalize leastR a = m at *
 go_enter Tryz.func45, Tryz.ntmps45
 go_wp2_with fail
 refine (C.out _ K0.out).mono ?_
 rintro e w1 ⟨rfl, kk⟩
 have c0 := (Below.cell (p := ⟨w.heap.size, 0, none⟩) kk (by simp)).trans (show _ = some (.bool true) by simp)
 have c1 := (Below.cell (p := ⟨w.heap.size, 1, none⟩) kk (by simp)).trans (show _ = some (.int .i64 u) by simp)
 have c2 := (Below.cell (p := ⟨w.heap.size, 2, none⟩) kk (by simp)).trans (show _ = some (.slice ad a.length ca) by simp)
 have c3 := (Below.cell (p := ⟨w.heap.size, 3, none⟩) kk (by simp)).trans (show _ = some (.slice bd b.length cb) by simp)
 have K1 := Lib.hid (K0.out.trans kk)
 clear kk C
 have hB : w.heap.size < w1.heap.size := World.block_lt_of_cell? _ _ c2
 have KS := Lib.hid (fun w' (k : Kp w1 w') => show w'.cell? ⟨w.heap.size, 2, none⟩ = some (.slice ad a.length ca) ∧ w'.cell? ⟨w.heap.size, 3, none⟩ = some (.slice bd b.length cb) ∧ Kp w1 w' from
  ⟨(Below.cell (p := ⟨w.heap.size, 2, none⟩) k hB).trans c2, (Below.cell (p := ⟨w.heap.size, 3, none⟩) k hB).trans c3, k⟩)
 go_wp2_with fail
 go_region_held3 (fun w' => w'.cell? ⟨w.heap.size, 2, none⟩ = some (.slice ad a.length ca) ∧ w'.cell? ⟨w.heap.size, 3, none⟩ = some (.slice bd b.length cb) ∧ Kp w1 w') (first | exact KS.out _ (by first | assumption | exact Kp.drew _))
  (first | (go_at_call 88; refine (Q1.out _ (K1.out.trans (Kp.drew _))).mono ?_; rintro e w' ⟨rfl, rfl⟩) | (go_at_call 89; first | (refine (Q2.out _ (K1.out.trans k2)).mono ?_; rintro e w' ⟨rfl, rfl⟩) | (refine (Q2.out _ (K1.out.trans (Kp.drew _))).mono ?_; rintro e w' ⟨rfl, rfl⟩)) | (go_at_call 87; first | (refine (P1.out _ (K1.out.trans (Kp.drew _))).mono ?_; rintro e w' ⟨v1, rfl, own1, k1⟩; obtain ⟨a1, s1, rfl⟩ := own_slice own1; have k2 := (Kp.drew w1).trans k1; clear P1) | (refine (P2.out _ (K1.out.trans k2)).mono ?_; rintro e w' ⟨v2, rfl, own2, k3⟩; obtain ⟨a2, s2, rfl⟩ := own_slice own2; have k4 := k2.trans k3)))
 have R1 := Lib.hid (show OwnR _ w.heap.size _ _ from own_mono (own_kp own1 k3) (by first | exact K1.out.size | (have q1 := K1.out.size; have q2 := Below.size k1; omega) | (have q1 := K1.out.size; have q2 := Below.size k2; omega) | (have q1 := K1.out.size; have q2 := Below.size k3; omega)))
 have R2 := Lib.hid (show OwnR _ w.heap.size _ _ from own_mono own2 (by first | exact K1.out.size | (have q1 := K1.out.size; have q2 := Below.size k1; omega) | (have q1 := K1.out.size; have q2 := Below.size k2; omega) | (have q1 := K1.out.size; have q2 := Below.size k3; omega)))
 have KK := Lib.hid (K1.out.trans k4)
 clear own1 own2 k1 k2 k3 k4
 go_wp2
 go_ret
 exact ⟨_, rfl, ⟨_, _, _, _, rfl, R1.out, R2.out⟩, KK.out⟩
theorem famO_any (f : LF) (va vb : Value) (w : World) (h : LeafOk w f va vb) (U : TabUC w) :
  Calls Tryz.prog 45 #[leafV f va vb] w fun e w' => ∃ v, e = .returned v ∧ FamO w' w.heap.size v (famR f) ∧ Kp w w' := by
 have na : f.a.length ≤ 1000000 := by have := h.na; omega
 have nb : f.b.length ≤ 1000000 := by have := h.nb; omega
 have key : ∀ {k s}, famR f = .units k s → (Calls Tryz.prog 45 #[leafV f va vb] w fun e w' => ∃ v, e = .returned v ∧ FamAt w' v (famR f) ∧ Kp w w') → Calls Tryz.prog 45 #[leafV f va vb] w fun e w' => ∃ v, e = .returned v ∧ FamO w' w.heap.size v (famR f) ∧ Kp w w' := by
  intro k s e c
  rw [e] at c ⊢
  exact c
 rcases Bool.eq_false_or_eq_true (leafB f) with hf | hf
 ·rcases Bool.eq_false_or_eq_true f.sp with hs | hs
  ·by_cases h0 : f.a.length = 0 ∨ f.b.length = 0
   ·exact famO_none f hf hs h0 va vb w h.a h.b h.ia h.ib na nb U
   ·exact famO_span f hf hs (by omega) (by omega) va vb w h.a h.b h.ia h.ib na nb U
  ·exact key (famR_units hf hs) (fam_units f hf hs va vb w h.a h.b h.ia h.ib na nb U)
 ·exact key (famR_no hf) (fam_no f hf va vb w h.a h.b h.ia h.ib na nb U)
theorem narrowO_any (v : Value) (s : List R) (w : World) {base : Nat} (hv : OwnR w base v s) (hs : sane s) (hn : s.length ≤ 1000000) :
  Calls Tryz.prog 47 #[v] w fun e w' => ∃ v', e = .returned (.tuple #[v', .bool (decide (s.length ≤ 400))]) ∧ OwnR w' base v' (if s.length ≤ 400 then s else []) ∧ Kp w w' := by
 have C := Lib.hid (wide_any v s w hv.runs (sane_i64 hs) hn)
 rw [nf_of_sane hs] at C
 have RS := Lib.hid hv
 obtain ⟨ad, c, rfl⟩ := hv.runs.slice
 clear hv
 by_cases h4 : s.length ≤ 400
 ·rw [decide_eq_false (show ¬ 400 < s.length by omega)] at C
  rw [decide_eq_true h4, if_pos h4]
  go_enter Tryz.func47, Tryz.ntmps47
  go_wp2_with fail
  refine (C.out).mono ?_
  rintro e w1 ⟨rfl, kk⟩
  have K1 := Lib.hid kk
  clear kk C
  go_wp2
  go_ret2
  exact ⟨_, rfl, own_kp RS.out K1.out, K1.out⟩
 ·rw [decide_eq_true (show 400 < s.length by omega)] at C
  rw [decide_eq_false h4, if_neg h4]
  go_enter Tryz.func47, Tryz.ntmps47
  go_wp2_with fail
  refine (C.out).mono ?_
  rintro e w1 ⟨rfl, kk⟩
  have K1 := Lib.hid kk
  clear kk C
  go_wp2
  go_ret2
  exact ⟨_, rfl, OwnR.nil _ _ _ rfl, K1.out⟩
set_option maxHeartbeats 2000000 in
set_option maxRecDepth 100000 in
theorem leafStartsO_any (f : LF) (va vb : Value) (w : World) (h : LeafOk w f va vb) (T : Tabs w) :
  Calls Tryz.prog 24 #[leafV f va vb] w fun e w' => ∃ v, e = .returned (.tuple #[v, .bool (startsB (famR f))]) ∧ OwnR w' w.heap.size v (startsR (famR f)) ∧ Kp w w' := by
 have C := Lib.hid (fun w1 (kk : Kp w w1) => famO_any f va vb w1 (h.kp kk) (T.kp kk).2)
 have FK := famR_ok f
 have FL := famR_len h.na h.nb
 obtain ⟨sp, u, a, b⟩ := f
 obtain ⟨ad, ca, rfl⟩ := h.a.slice
 obtain ⟨bd, cb, rfl⟩ := h.b.slice
 unfold leafV at C ⊢
 simp only at C ⊢
 have K0 := Lib.hid (Kp.alloc w (.cells #[.bool sp, .int .i64 u, .slice ad a.length ca, .slice bd b.length cb] 47))
 have TT := Lib.hid T
 generalize famR ⟨sp, u, a, b⟩ = F at *
 clear h T
 have h1 := asUU
 have h2 := asSU
 have h3 := asSS
 cases F with
 | units k s =>
  have S := Lib.hid (fun w2 v (hv : RunsAt w2 v s) (T : Tabs w2) => starts_any k v s w2 hv (sane_i64 (setB_sane FK)) (Nat.le_trans FL (by omega)) T)
  rw [show startsB (.units k s) = edgB k s from rfl, show startsR (.units k s) = edgR (firV k) k s from rfl]
  generalize edgB k s = eb at *
  generalize edgR (firV k) k s = er at *
  go_enter Tryz.func24, Tryz.ntmps24
  go_wp2_with fail
  refine (C.out _ K0.out).mono ?_
  rintro e w1 ⟨v, rfl, ⟨ad1, c1, rfl, RS⟩, kk⟩
  have K1 := Lib.hid (K0.out.trans kk)
  have R1 := Lib.hid RS
  clear kk RS C
  go_wp2_with fail
  refine (S.out _ _ (R1.out.kp (by first | with_reducible exact Kp.refl _ | with_reducible exact Kp.alloc _ _ | with_reducible exact (Kp.alloc _ _).trans (Kp.alloc _ _) | with_reducible exact ((Kp.alloc _ _).trans (Kp.alloc _ _)).trans (Kp.alloc _ _) | with_reducible exact Kp.drew _ | with_reducible exact Kp.drewN _ _)) (TT.out.kp (K1.out.trans (by first | with_reducible exact Kp.refl _ | with_reducible exact Kp.alloc _ _ | with_reducible exact (Kp.alloc _ _).trans (Kp.alloc _ _) | with_reducible exact ((Kp.alloc _ _).trans (Kp.alloc _ _)).trans (Kp.alloc _ _) | with_reducible exact Kp.drew _ | with_reducible exact Kp.drewN _ _)))).mono ?_
  rintro e w2 ⟨v2, rfl, own, kk⟩
  have K2 := Lib.hid (K1.out.trans ((show Kp w1 _ from (by first | with_reducible exact Kp.refl _ | with_reducible exact Kp.alloc _ _ | with_reducible exact (Kp.alloc _ _).trans (Kp.alloc _ _) | with_reducible exact ((Kp.alloc _ _).trans (Kp.alloc _ _)).trans (Kp.alloc _ _) | with_reducible exact Kp.drew _ | with_reducible exact Kp.drewN _ _)).trans kk))
  have O2 := Lib.hid (show OwnR _ w.heap.size _ _ from own_mono own (by first | exact K1.out.size | (have q1 := K1.out.size; simp; omega)))
  clear kk own S
  go_wp2
  go_ret2
  exact ⟨_, rfl, O2.out, K2.out⟩
 | span s e =>
  have S := Lib.hid (fun w2 v base (hv : OwnR w2 base v s) => narrowO_any v s w2 hv (setB_sane FK.1) (Nat.le_trans FL.1 (by omega)))
  rw [show startsB (.span s e) = decide (s.length ≤ 400) from rfl, show startsR (.span s e) = (if s.length ≤ 400 then s else []) from rfl]
  generalize decide (s.length ≤ 400) = eb at *
  generalize (if s.length ≤ 400 then s else []) = er at *
  go_enter Tryz.func24, Tryz.ntmps24
  go_wp2_with fail
  refine (C.out _ K0.out).mono ?_
  rintro e w1 ⟨v, rfl, ⟨ad1, c1, bd1, d1, rfl, RS, RT⟩, kk⟩
  have K1 := Lib.hid (K0.out.trans kk)
  have R1 := Lib.hid RS
  have Q1 := Lib.hid RT
  clear kk RS RT C
  go_wp2_with fail
  refine (S.out _ _ _ (own_kp R1.out (by first | with_reducible exact Kp.refl _ | with_reducible exact Kp.alloc _ _ | with_reducible exact (Kp.alloc _ _).trans (Kp.alloc _ _) | with_reducible exact ((Kp.alloc _ _).trans (Kp.alloc _ _)).trans (Kp.alloc _ _) | with_reducible exact Kp.drew _ | with_reducible exact Kp.drewN _ _))).mono ?_
  rintro e w2 ⟨v2, rfl, own, kk⟩
  have K2 := Lib.hid (K1.out.trans ((show Kp w1 _ from (by first | with_reducible exact Kp.refl _ | with_reducible exact Kp.alloc _ _ | with_reducible exact (Kp.alloc _ _).trans (Kp.alloc _ _) | with_reducible exact ((Kp.alloc _ _).trans (Kp.alloc _ _)).trans (Kp.alloc _ _) | with_reducible exact Kp.drew _ | with_reducible exact Kp.drewN _ _)).trans kk))
  have O2 := Lib.hid (show OwnR _ w.heap.size _ _ from own_mono own (by first | exact Nat.le_refl _ | simp))
  clear kk own S
  go_wp2
  go_ret2
  exact ⟨_, rfl, O2.out, K2.out⟩
set_option maxHeartbeats 2000000 in
set_option maxRecDepth 100000 in
theorem leafEndsO_any (f : LF) (va vb : Value) (w : World) (h : LeafOk w f va vb) (T : Tabs w) :
  Calls Tryz.prog 25 #[leafV f va vb] w fun e w' => ∃ v, e = .returned (.tuple #[v, .bool (endsB (famR f))]) ∧ OwnR w' w.heap.size v (endsR (famR f)) ∧ Kp w w' := by
 have C := Lib.hid (fun w1 (kk : Kp w w1) => famO_any f va vb w1 (h.kp kk) (T.kp kk).2)
 have FK := famR_ok f
 have FL := famR_len h.na h.nb
 obtain ⟨sp, u, a, b⟩ := f
 obtain ⟨ad, ca, rfl⟩ := h.a.slice
 obtain ⟨bd, cb, rfl⟩ := h.b.slice
 unfold leafV at C ⊢
 simp only at C ⊢
 have K0 := Lib.hid (Kp.alloc w (.cells #[.bool sp, .int .i64 u, .slice ad a.length ca, .slice bd b.length cb] 47))
 have TT := Lib.hid T
 generalize famR ⟨sp, u, a, b⟩ = F at *
 clear h T
 have h1 := asUU
 have h2 := asSU
 have h3 := asSS
 cases F with
 | units k s =>
  have S := Lib.hid (fun w2 v (hv : RunsAt w2 v s) (T : Tabs w2) => ends_any k v s w2 hv (sane_i64 (setB_sane FK)) (Nat.le_trans FL (by omega)) T)
  rw [show endsB (.units k s) = edgB k s from rfl, show endsR (.units k s) = edgR (lasV k) k s from rfl]
  generalize edgB k s = eb at *
  generalize edgR (lasV k) k s = er at *
  go_enter Tryz.func25, Tryz.ntmps25
  go_wp2_with fail
  refine (C.out _ K0.out).mono ?_
  rintro e w1 ⟨v, rfl, ⟨ad1, c1, rfl, RS⟩, kk⟩
  have K1 := Lib.hid (K0.out.trans kk)
  have R1 := Lib.hid RS
  clear kk RS C
  go_wp2_with fail
  refine (S.out _ _ (R1.out.kp (by first | with_reducible exact Kp.refl _ | with_reducible exact Kp.alloc _ _ | with_reducible exact (Kp.alloc _ _).trans (Kp.alloc _ _) | with_reducible exact ((Kp.alloc _ _).trans (Kp.alloc _ _)).trans (Kp.alloc _ _) | with_reducible exact Kp.drew _ | with_reducible exact Kp.drewN _ _)) (TT.out.kp (K1.out.trans (by first | with_reducible exact Kp.refl _ | with_reducible exact Kp.alloc _ _ | with_reducible exact (Kp.alloc _ _).trans (Kp.alloc _ _) | with_reducible exact ((Kp.alloc _ _).trans (Kp.alloc _ _)).trans (Kp.alloc _ _) | with_reducible exact Kp.drew _ | with_reducible exact Kp.drewN _ _)))).mono ?_
  rintro e w2 ⟨v2, rfl, own, kk⟩
  have K2 := Lib.hid (K1.out.trans ((show Kp w1 _ from (by first | with_reducible exact Kp.refl _ | with_reducible exact Kp.alloc _ _ | with_reducible exact (Kp.alloc _ _).trans (Kp.alloc _ _) | with_reducible exact ((Kp.alloc _ _).trans (Kp.alloc _ _)).trans (Kp.alloc _ _) | with_reducible exact Kp.drew _ | with_reducible exact Kp.drewN _ _)).trans kk))
  have O2 := Lib.hid (show OwnR _ w.heap.size _ _ from own_mono own (by first | exact K1.out.size | (have q1 := K1.out.size; simp; omega)))
  clear kk own S
  go_wp2
  go_ret2
  exact ⟨_, rfl, O2.out, K2.out⟩
 | span s e =>
  have S := Lib.hid (fun w2 v base (hv : OwnR w2 base v e) => narrowO_any v e w2 hv (setB_sane FK.2.1) (Nat.le_trans FL.2 (by omega)))
  rw [show endsB (.span s e) = decide (e.length ≤ 400) from rfl, show endsR (.span s e) = (if e.length ≤ 400 then e else []) from rfl]
  generalize decide (e.length ≤ 400) = eb at *
  generalize (if e.length ≤ 400 then e else []) = er at *
  go_enter Tryz.func25, Tryz.ntmps25
  go_wp2_with fail
  refine (C.out _ K0.out).mono ?_
  rintro e w1 ⟨v, rfl, ⟨ad1, c1, bd1, d1, rfl, RS, RT⟩, kk⟩
  have K1 := Lib.hid (K0.out.trans kk)
  have R1 := Lib.hid RS
  have Q1 := Lib.hid RT
  clear kk RS RT C
  go_wp2_with fail
  refine (S.out _ _ _ (own_kp Q1.out (by first | with_reducible exact Kp.refl _ | with_reducible exact Kp.alloc _ _ | with_reducible exact (Kp.alloc _ _).trans (Kp.alloc _ _) | with_reducible exact ((Kp.alloc _ _).trans (Kp.alloc _ _)).trans (Kp.alloc _ _) | with_reducible exact Kp.drew _ | with_reducible exact Kp.drewN _ _))).mono ?_
  rintro e w2 ⟨v2, rfl, own, kk⟩
  have K2 := Lib.hid (K1.out.trans ((show Kp w1 _ from (by first | with_reducible exact Kp.refl _ | with_reducible exact Kp.alloc _ _ | with_reducible exact (Kp.alloc _ _).trans (Kp.alloc _ _) | with_reducible exact ((Kp.alloc _ _).trans (Kp.alloc _ _)).trans (Kp.alloc _ _) | with_reducible exact Kp.drew _ | with_reducible exact Kp.drewN _ _)).trans kk))
  have O2 := Lib.hid (show OwnR _ w.heap.size _ _ from own_mono own (by first | exact Nat.le_refl _ | simp))
  clear kk own S
  go_wp2
  go_ret2
  exact ⟨_, rfl, O2.out, K2.out⟩
set_option maxHeartbeats 16000000 in
set_option maxRecDepth 100000 in
theorem from_any (x : Int) (w : World) : Calls Tryz.prog 223 #[.int .i64 x] w fun e w' => e = .returned (.agg #[.int .i64 x, .int .i64 3652424]) ∧ Kp w w' := by
 go_enter Tryz.func223, Tryz.ntmps223
 go_wp2
 refine bodyPost_ret (v := .agg #[.int .i64 x, .int .i64 3652424]) (by simp [results, Tryz.results223, go_sem]) rfl ⟨rfl, Kp.alloc _ _⟩
set_option maxHeartbeats 16000000 in
set_option maxRecDepth 100000 in
theorem just_any (x : Int) (w : World) : Calls Tryz.prog 225 #[.int .i64 x] w fun e w' => e = .returned (.agg #[.int .i64 x, .int .i64 x]) ∧ Kp w w' := by
 go_enter Tryz.func225, Tryz.ntmps225
 go_wp2
 refine bodyPost_ret (v := .agg #[.int .i64 x, .int .i64 x]) (by simp [results, Tryz.results225, go_sem]) rfl ⟨rfl, Kp.alloc _ _⟩
set_option maxHeartbeats 16000000 in
set_option maxRecDepth 100000 in
theorem upTo_any (x : Int) (w : World) : Calls Tryz.prog 226 #[.int .i64 x] w fun e w' => e = .returned (.agg #[.int .i64 0, .int .i64 x]) ∧ Kp w w' := by
 go_enter Tryz.func226, Tryz.ntmps226
 go_wp2
 refine bodyPost_ret (v := .agg #[.int .i64 0, .int .i64 x]) (by simp [results, Tryz.results226, go_sem]) rfl ⟨rfl, Kp.alloc _ _⟩
set_option maxHeartbeats 16000000 in
set_option maxRecDepth 100000 in
theorem anyDay_any (w : World) : Calls Tryz.prog 224 #[] w fun e w' => e = .returned (.agg #[.int .i64 0, .int .i64 3652424]) ∧ Kp w w' := by
 go_enter Tryz.func224, Tryz.ntmps224
 go_wp2
 refine bodyPost_ret (v := .agg #[.int .i64 0, .int .i64 3652424]) (by simp [results, Tryz.results224, go_sem]) rfl ⟨rfl, Kp.alloc _ _⟩
set_option maxHeartbeats 16000000 in
set_option maxRecDepth 100000 in
theorem before_way (S T : Int) (w : World) (h1 : 0 ≤ S) (h2 : S ≤ 4000000) (h3 : 0 ≤ T) (h4 : T ≤ 4000000) : Calls Tryz.prog 167 #[.agg #[.int .i64 S, .int .i64 T]] w fun e w' => e = .returned (.agg #[.int .i64 (T + 2), .int .i64 (3652424), .int .i64 (0), .int .i64 (3652424)]) ∧ Kp w w' := by
 obtain ⟨W0, hW⟩ : ∃ x, x = (w.alloc (.cells #[.int .i64 S, .int .i64 T] 146)).alloc (.cells #[.int .i64 0, .int .i64 0, .int .i64 0, .int .i64 0] 145) := ⟨_, rfl⟩
 have k0 : Kp w W0 := by rw [hW]; exact (Kp.alloc _ _).trans (Kp.alloc _ _)
 have gA : W0.heap[w.heap.size]? = some (.cells #[.int .i64 S, .int .i64 T] 146 (0, 0)) := by rw [hW]; exact heap_block (Kp.alloc _ _) (heap_at _ _ _ rfl)
 have gB : W0.heap[w.heap.size + 1]? = some (.cells #[.int .i64 0, .int .i64 0, .int .i64 0, .int .i64 0] 145 (0, 0)) := by rw [hW]; exact heap_at _ _ _ (by simp)
 have hz : W0.heap.size = w.heap.size + 2 := by rw [hW]; simp
 have K0 := Lib.hid k0
 have GB := Lib.hid (fun w1 (q : Kp W0 w1) => heap_block q gB)
 have KS := Lib.hid (fun w' (kq : Kp W0 w') => show w'.cell? ⟨w.heap.size, 0, none⟩ = some (.int .i64 S) ∧ w'.cell? ⟨w.heap.size, 1, none⟩ = some (.int .i64 T) ∧ Kp W0 w' from ⟨(row2 (heap_block kq gA)).1, (row2 (heap_block kq gA)).2, kq⟩)
 have k00 : Kp W0 W0 := Kp.refl _
 have wS1 : IntKind.i64.wrap (S + 1) = S + 1 := by rw [IntKind.wrap_i64]; omega
 have wS2 : IntKind.i64.wrap (S - 1) = S - 1 := by rw [IntKind.wrap_i64]; omega
 have wS3 : IntKind.i64.wrap (S - 2) = S - 2 := by rw [IntKind.wrap_i64]; omega
 have wT1 : IntKind.i64.wrap (T + 1) = T + 1 := by rw [IntKind.wrap_i64]; omega
 have wT2 : IntKind.i64.wrap (T - 1) = T - 1 := by rw [IntKind.wrap_i64]; omega
 have wT3 : IntKind.i64.wrap (T + 2) = T + 2 := by rw [IntKind.wrap_i64]; omega
 have HW := Lib.hid hW
 clear hW gA gB k0
 go_enter Tryz.func167, Tryz.ntmps167
 go_upto_region 1 with fail
 rw [← HW.out]
 obtain ⟨c0, c1, -⟩ := KS.out _ k00
 go_wp2_with fail
 refine (from_any _ _).mono ?_
 rintro e w1 ⟨rfl, kq1⟩
 have kw1 : Kp W0 w1 := Kp.trans k00 kq1
 clear kq1
 clear c0 c1
 obtain ⟨c0, c1, -⟩ := KS.out _ kw1
 go_wp2_with fail
 refine (anyDay_any _).mono ?_
 rintro e w2 ⟨rfl, kq1⟩
 have kw2 : Kp W0 w2 := Kp.trans kw1 kq1
 clear kq1
 clear c0 c1
 obtain ⟨c0, c1, -⟩ := KS.out _ kw2
 have gC := GB.out _ kw2
 obtain ⟨y0, y1, y2, y3⟩ := row4 gC
 have f0 : w2.frozen? ⟨w.heap.size + 1, 0, none⟩ = false := by simp [World.frozen?, gC]
 have f1 : w2.frozen? ⟨w.heap.size + 1, 1, none⟩ = false := by simp [World.frozen?, gC]
 have f2 : w2.frozen? ⟨w.heap.size + 1, 2, none⟩ = false := by simp [World.frozen?, gC]
 have f3 : w2.frozen? ⟨w.heap.size + 1, 3, none⟩ = false := by simp [World.frozen?, gC]
 clear gC
 obtain ⟨F, hF⟩ : ∃ X, X = w2.setCells (w.heap.size + 1) 0 [.int .i64 (T + 2), .int .i64 (3652424), .int .i64 (0), .int .i64 (3652424)] := ⟨_, rfl⟩
 have gF := bx_heap [.int .i64 (T + 2), .int .i64 (3652424), .int .i64 (0), .int .i64 (3652424)] 0 (GB.out _ kw2)
 rw [← hF] at gF
 have hs4 : bxA #[.int .i64 0, .int .i64 0, .int .i64 0, .int .i64 0] 0 [.int .i64 (T + 2), .int .i64 (3652424), .int .i64 (0), .int .i64 (3652424)] = #[.int .i64 (T + 2), .int .i64 (3652424), .int .i64 (0), .int .i64 (3652424)] := by kernel_rfl
 rw [hs4] at gF
 have KF := Lib.hid (show Kp w F by rw [hF]; exact bx_kp (by omega) _ 0 (K0.out.trans kw2))
 have TH := Lib.hid (bx_there (GB.out _ kw2) 0 4 (by decide))
 obtain ⟨x0, x1, x2, x3⟩ := row4 gF
 have HF := Lib.hid hF
 clear gF hs4 hF
 go_wp2
 refine (?_ : bodyPost _ _ _ _ _ (w2.setCells (w.heap.size + 1) 0 [.int .i64 (T + 2), .int .i64 (3652424), .int .i64 (0), .int .i64 (3652424)]))
 rw [← HF.out]
 refine bodyPost_ret (v := .agg #[.int .i64 (T + 2), .int .i64 (3652424), .int .i64 (0), .int .i64 (3652424)]) (by simp [results, Tryz.results167, go_sem, x0, x1, x2, x3]) rfl ⟨rfl, KF.out⟩
set_option maxHeartbeats 16000000 in
set_option maxRecDepth 100000 in
theorem meets_way (S T : Int) (w : World) (h1 : 0 ≤ S) (h2 : S ≤ 4000000) (h3 : 0 ≤ T) (h4 : T ≤ 4000000) : Calls Tryz.prog 168 #[.agg #[.int .i64 S, .int .i64 T]] w fun e w' => e = .returned (.agg #[.int .i64 (T + 1), .int .i64 (T + 1), .int .i64 (0), .int .i64 (3652424)]) ∧ Kp w w' := by
 obtain ⟨W0, hW⟩ : ∃ x, x = (w.alloc (.cells #[.int .i64 S, .int .i64 T] 146)).alloc (.cells #[.int .i64 0, .int .i64 0, .int .i64 0, .int .i64 0] 145) := ⟨_, rfl⟩
 have k0 : Kp w W0 := by rw [hW]; exact (Kp.alloc _ _).trans (Kp.alloc _ _)
 have gA : W0.heap[w.heap.size]? = some (.cells #[.int .i64 S, .int .i64 T] 146 (0, 0)) := by rw [hW]; exact heap_block (Kp.alloc _ _) (heap_at _ _ _ rfl)
 have gB : W0.heap[w.heap.size + 1]? = some (.cells #[.int .i64 0, .int .i64 0, .int .i64 0, .int .i64 0] 145 (0, 0)) := by rw [hW]; exact heap_at _ _ _ (by simp)
 have hz : W0.heap.size = w.heap.size + 2 := by rw [hW]; simp
 have K0 := Lib.hid k0
 have GB := Lib.hid (fun w1 (q : Kp W0 w1) => heap_block q gB)
 have KS := Lib.hid (fun w' (kq : Kp W0 w') => show w'.cell? ⟨w.heap.size, 0, none⟩ = some (.int .i64 S) ∧ w'.cell? ⟨w.heap.size, 1, none⟩ = some (.int .i64 T) ∧ Kp W0 w' from ⟨(row2 (heap_block kq gA)).1, (row2 (heap_block kq gA)).2, kq⟩)
 have k00 : Kp W0 W0 := Kp.refl _
 have wS1 : IntKind.i64.wrap (S + 1) = S + 1 := by rw [IntKind.wrap_i64]; omega
 have wS2 : IntKind.i64.wrap (S - 1) = S - 1 := by rw [IntKind.wrap_i64]; omega
 have wS3 : IntKind.i64.wrap (S - 2) = S - 2 := by rw [IntKind.wrap_i64]; omega
 have wT1 : IntKind.i64.wrap (T + 1) = T + 1 := by rw [IntKind.wrap_i64]; omega
 have wT2 : IntKind.i64.wrap (T - 1) = T - 1 := by rw [IntKind.wrap_i64]; omega
 have wT3 : IntKind.i64.wrap (T + 2) = T + 2 := by rw [IntKind.wrap_i64]; omega
 have HW := Lib.hid hW
 clear hW gA gB k0
 go_enter Tryz.func168, Tryz.ntmps168
 go_upto_region 1 with fail
 rw [← HW.out]
 obtain ⟨c0, c1, -⟩ := KS.out _ k00
 go_wp2_with fail
 refine (just_any _ _).mono ?_
 rintro e w1 ⟨rfl, kq1⟩
 have kw1 : Kp W0 w1 := Kp.trans k00 kq1
 clear kq1
 clear c0 c1
 obtain ⟨c0, c1, -⟩ := KS.out _ kw1
 go_wp2_with fail
 refine (anyDay_any _).mono ?_
 rintro e w2 ⟨rfl, kq1⟩
 have kw2 : Kp W0 w2 := Kp.trans kw1 kq1
 clear kq1
 clear c0 c1
 obtain ⟨c0, c1, -⟩ := KS.out _ kw2
 have gC := GB.out _ kw2
 obtain ⟨y0, y1, y2, y3⟩ := row4 gC
 have f0 : w2.frozen? ⟨w.heap.size + 1, 0, none⟩ = false := by simp [World.frozen?, gC]
 have f1 : w2.frozen? ⟨w.heap.size + 1, 1, none⟩ = false := by simp [World.frozen?, gC]
 have f2 : w2.frozen? ⟨w.heap.size + 1, 2, none⟩ = false := by simp [World.frozen?, gC]
 have f3 : w2.frozen? ⟨w.heap.size + 1, 3, none⟩ = false := by simp [World.frozen?, gC]
 clear gC
 obtain ⟨F, hF⟩ : ∃ X, X = w2.setCells (w.heap.size + 1) 0 [.int .i64 (T + 1), .int .i64 (T + 1), .int .i64 (0), .int .i64 (3652424)] := ⟨_, rfl⟩
 have gF := bx_heap [.int .i64 (T + 1), .int .i64 (T + 1), .int .i64 (0), .int .i64 (3652424)] 0 (GB.out _ kw2)
 rw [← hF] at gF
 have hs4 : bxA #[.int .i64 0, .int .i64 0, .int .i64 0, .int .i64 0] 0 [.int .i64 (T + 1), .int .i64 (T + 1), .int .i64 (0), .int .i64 (3652424)] = #[.int .i64 (T + 1), .int .i64 (T + 1), .int .i64 (0), .int .i64 (3652424)] := by kernel_rfl
 rw [hs4] at gF
 have KF := Lib.hid (show Kp w F by rw [hF]; exact bx_kp (by omega) _ 0 (K0.out.trans kw2))
 have TH := Lib.hid (bx_there (GB.out _ kw2) 0 4 (by decide))
 obtain ⟨x0, x1, x2, x3⟩ := row4 gF
 have HF := Lib.hid hF
 clear gF hs4 hF
 go_wp2
 refine (?_ : bodyPost _ _ _ _ _ (w2.setCells (w.heap.size + 1) 0 [.int .i64 (T + 1), .int .i64 (T + 1), .int .i64 (0), .int .i64 (3652424)]))
 rw [← HF.out]
 refine bodyPost_ret (v := .agg #[.int .i64 (T + 1), .int .i64 (T + 1), .int .i64 (0), .int .i64 (3652424)]) (by simp [results, Tryz.results168, go_sem, x0, x1, x2, x3]) rfl ⟨rfl, KF.out⟩
abbrev wyoverlaps0 : Oper := { dst := some 3, op := Go.Op.fieldAddr 146 (Go.Operand.tmp 1) 0, type := 0, pos := "box.go:44", after := #[], guard := none }
abbrev wyoverlaps1 : Oper := { dst := some 4, op := Go.Op.load 3 (Go.Operand.tmp 3), type := 3, pos := "box.go:44", after := #[{ on := 0, ground := Go.Ground.data }], guard := none }
abbrev wyoverlaps2 : Oper := { dst := some 5, op := Go.Op.binOp Go.BinOp.add 3 (Go.Operand.tmp 4) (Go.Operand.const (Go.Value.int Go.IntKind.i64 1)) 3, type := 3, pos := "box.go:44", after := #[{ on := 1, ground := Go.Ground.data }], guard := none }
abbrev wyoverlaps3 : Oper := { dst := some 6, op := Go.Op.fieldAddr 146 (Go.Operand.tmp 1) 1, type := 0, pos := "box.go:44", after := #[], guard := none }
abbrev wyoverlaps4 : Oper := { dst := some 7, op := Go.Op.load 3 (Go.Operand.tmp 6), type := 3, pos := "box.go:44", after := #[{ on := 3, ground := Go.Ground.data }], guard := none }
abbrev wyoverlaps5 : Oper := { dst := some 8, op := Go.Op.build 53 #[(0, Go.Operand.tmp 5), (1, Go.Operand.tmp 7)], type := 53, pos := "box.go:44", after := #[{ on := 2, ground := Go.Ground.data }, { on := 4, ground := Go.Ground.data }], guard := none }
abbrev wyoverlaps6 : Oper := { dst := some 9, op := Go.Op.fieldAddr 146 (Go.Operand.tmp 1) 1, type := 0, pos := "box.go:44", after := #[], guard := none }
abbrev wyoverlaps7 : Oper := { dst := some 10, op := Go.Op.load 3 (Go.Operand.tmp 9), type := 3, pos := "box.go:44", after := #[{ on := 6, ground := Go.Ground.data }], guard := none }
abbrev wyoverlaps8 : Oper := { dst := some 11, op := Go.Op.binOp Go.BinOp.add 3 (Go.Operand.tmp 10) (Go.Operand.const (Go.Value.int Go.IntKind.i64 1)) 3, type := 3, pos := "box.go:44", after := #[{ on := 7, ground := Go.Ground.data }], guard := none }
abbrev wyoverlaps9 : Oper := { dst := some 12, op := Go.Op.call { callee := Go.Callee.value (Go.Operand.func 223), args := #[Go.Operand.tmp 11], argTypes := #[3] }, type := 53, pos := "box.go:44", after := #[{ on := 8, ground := Go.Ground.data }], guard := none }
abbrev wyoverlaps10 : Oper := { dst := some 13, op := Go.Op.build 145 #[(0, Go.Operand.tmp 8), (1, Go.Operand.tmp 12)], type := 145, pos := "box.go:44", after := #[{ on := 5, ground := Go.Ground.data }, { on := 9, ground := Go.Ground.data }], guard := none }
abbrev wyoverlaps11 : Oper := { dst := none, op := Go.Op.store 145 (Go.Operand.tmp 2) (Go.Operand.tmp 13), type := 0, pos := "box.go:44", after := #[{ on := 10, ground := Go.Ground.data }, { on := 9, ground := Go.Ground.chain }, { on := 0, ground := Go.Ground.phase }, { on := 1, ground := Go.Ground.phase }, { on := 2, ground := Go.Ground.phase }, { on := 3, ground := Go.Ground.phase }, { on := 4, ground := Go.Ground.phase }, { on := 5, ground := Go.Ground.phase }, { on := 6, ground := Go.Ground.phase }, { on := 7, ground := Go.Ground.phase }, { on := 8, ground := Go.Ground.phase }, { on := 9, ground := Go.Ground.phase }, { on := 10, ground := Go.Ground.phase }], guard := none }
set_option maxHeartbeats 16000000 in
set_option maxRecDepth 100000 in
theorem overlaps_way (S T : Int) (w : World) (h1 : 0 ≤ S) (h2 : S ≤ 4000000) (h3 : 0 ≤ T) (h4 : T ≤ 4000000) : Calls Tryz.prog 169 #[.agg #[.int .i64 S, .int .i64 T]] w fun e w' => e = .returned (.agg #[.int .i64 (S + 1), .int .i64 (T), .int .i64 (T + 1), .int .i64 (3652424)]) ∧ Kp w w' := by
 obtain ⟨W0, hW⟩ : ∃ x, x = (w.alloc (.cells #[.int .i64 S, .int .i64 T] 146)).alloc (.cells #[.int .i64 0, .int .i64 0, .int .i64 0, .int .i64 0] 145) := ⟨_, rfl⟩
 have k0 : Kp w W0 := by rw [hW]; exact (Kp.alloc _ _).trans (Kp.alloc _ _)
 have gA : W0.heap[w.heap.size]? = some (.cells #[.int .i64 S, .int .i64 T] 146 (0, 0)) := by rw [hW]; exact heap_block (Kp.alloc _ _) (heap_at _ _ _ rfl)
 have gB : W0.heap[w.heap.size + 1]? = some (.cells #[.int .i64 0, .int .i64 0, .int .i64 0, .int .i64 0] 145 (0, 0)) := by rw [hW]; exact heap_at _ _ _ (by simp)
 have hz : W0.heap.size = w.heap.size + 2 := by rw [hW]; simp
 have K0 := Lib.hid k0
 have GB := Lib.hid (fun w1 (q : Kp W0 w1) => heap_block q gB)
 have KS := Lib.hid (fun w' (kq : Kp W0 w') => show w'.cell? ⟨w.heap.size, 0, none⟩ = some (.int .i64 S) ∧ w'.cell? ⟨w.heap.size, 1, none⟩ = some (.int .i64 T) ∧ Kp W0 w' from ⟨(row2 (heap_block kq gA)).1, (row2 (heap_block kq gA)).2, kq⟩)
 have k00 : Kp W0 W0 := Kp.refl _
 have wS1 : IntKind.i64.wrap (S + 1) = S + 1 := by rw [IntKind.wrap_i64]; omega
 have wS2 : IntKind.i64.wrap (S - 1) = S - 1 := by rw [IntKind.wrap_i64]; omega
 have wS3 : IntKind.i64.wrap (S - 2) = S - 2 := by rw [IntKind.wrap_i64]; omega
 have wT1 : IntKind.i64.wrap (T + 1) = T + 1 := by rw [IntKind.wrap_i64]; omega
 have wT2 : IntKind.i64.wrap (T - 1) = T - 1 := by rw [IntKind.wrap_i64]; omega
 have wT3 : IntKind.i64.wrap (T + 2) = T + 2 := by rw [IntKind.wrap_i64]; omega
 have HW := Lib.hid hW
 clear hW gA gB k0
 go_enter Tryz.func169, Tryz.ntmps169
 go_upto_region 1 with fail
 rw [← HW.out]
 refine wp_region_held_drew (S := fun w' => w'.cell? ⟨w.heap.size, 0, none⟩ = some (.int .i64 S) ∧ w'.cell? ⟨w.heap.size, 1, none⟩ = some (.int .i64 T)) (by kernel_rfl) ?_ (fun hHeld0 => ?_)
 ·(try dsimp only); exact ⟨(KS.out _ (by first | with_reducible exact k00 | ((repeat (first | with_reducible refine Kp.trans ?_ (Kp.drew _) | with_reducible refine Kp.trans ?_ (Kp.alloc _ _))); with_reducible exact k00))).1, (KS.out _ (by first | with_reducible exact k00 | ((repeat (first | with_reducible refine Kp.trans ?_ (Kp.drew _) | with_reducible refine Kp.trans ?_ (Kp.alloc _ _))); with_reducible exact k00))).2.1⟩
 refine tkv 0 wyoverlaps0 ?_
 (try simp only [Act.put, wyoverlaps0, List.setIfInBounds_toArray, List.set_cons_zero, List.set_cons_succ])
 refine tkv 1 wyoverlaps1 ?_
 (try simp only [Act.put, wyoverlaps1, List.setIfInBounds_toArray, List.set_cons_zero, List.set_cons_succ])
 refine tkv 2 wyoverlaps2 ?_
 (try simp only [Act.put, wyoverlaps2, List.setIfInBounds_toArray, List.set_cons_zero, List.set_cons_succ])
 refine tkv 3 wyoverlaps3 ?_
 (try simp only [Act.put, wyoverlaps3, List.setIfInBounds_toArray, List.set_cons_zero, List.set_cons_succ])
 refine tkv 4 wyoverlaps4 ?_
 (try simp only [Act.put, wyoverlaps4, List.setIfInBounds_toArray, List.set_cons_zero, List.set_cons_succ])
 refine tkv 5 wyoverlaps5 ?_
 (try simp only [Act.put, wyoverlaps5, List.setIfInBounds_toArray, List.set_cons_zero, List.set_cons_succ])
 refine tkv 6 wyoverlaps6 ?_
 (try simp only [Act.put, wyoverlaps6, List.setIfInBounds_toArray, List.set_cons_zero, List.set_cons_succ])
 refine tkv 7 wyoverlaps7 ?_
 (try simp only [Act.put, wyoverlaps7, List.setIfInBounds_toArray, List.set_cons_zero, List.set_cons_succ])
 refine tkv 8 wyoverlaps8 ?_
 (try simp only [Act.put, wyoverlaps8, List.setIfInBounds_toArray, List.set_cons_zero, List.set_cons_succ])
 refine tkE 9 wyoverlaps9 rfl (by kernel_rfl) (fun K hK => ?_)
 go_simp
 (refine (from_any _ _).mono ?_; rintro e w1 ⟨rfl, kq1⟩; have kw1 : Kp W0 w1 := Kp.trans (show Kp W0 _ from (by first | with_reducible exact k00 | ((repeat (first | with_reducible refine Kp.trans ?_ (Kp.drew _) | with_reducible refine Kp.trans ?_ (Kp.alloc _ _))); with_reducible exact k00))) kq1; clear kq1)
 (try go_wp2_with fail)
 refine hK.out _ _ ?_ (fun hHeld1 => ?_)
 ·(try dsimp only); exact ⟨(KS.out _ (by first | with_reducible exact kw1 | ((repeat (first | with_reducible refine Kp.trans ?_ (Kp.drew _) | with_reducible refine Kp.trans ?_ (Kp.alloc _ _))); with_reducible exact kw1))).1, (KS.out _ (by first | with_reducible exact kw1 | ((repeat (first | with_reducible refine Kp.trans ?_ (Kp.drew _) | with_reducible refine Kp.trans ?_ (Kp.alloc _ _))); with_reducible exact kw1))).2.1⟩
 clear hK K hHeld0
 (try simp only [Act.put, wyoverlaps9, List.setIfInBounds_toArray, List.set_cons_zero, List.set_cons_succ])
 refine tkv 10 wyoverlaps10 ?_
 (try simp only [Act.put, wyoverlaps10, List.setIfInBounds_toArray, List.set_cons_zero, List.set_cons_succ])
 refine tkE 11 wyoverlaps11 rfl (by kernel_rfl) (fun K hK => ?_)
 (refine bx_store (W := w) rfl 145 (.tmp 2) (.tmp 13) rfl (w.heap.size + 1) [.int .i64 (S + 1), .int .i64 (T), .int .i64 (T + 1), .int .i64 (3652424)] #[.int .i64 0, .int .i64 0, .int .i64 0, .int .i64 0] (by simp [Act.eval, Act.put, wS1, wS2, wS3, wT1, wT2, wT3]) (by simp [Act.eval, Act.put, wS1, wS2, wS3, wT1, wT2, wT3]) (K0.out.trans (by first | with_reducible exact kw1 | ((repeat (first | with_reducible refine Kp.trans ?_ (Kp.drew _) | with_reducible refine Kp.trans ?_ (Kp.alloc _ _))); with_reducible exact kw1))) (by omega) (GB.out _ (by first | with_reducible exact kw1 | ((repeat (first | with_reducible refine Kp.trans ?_ (Kp.drew _) | with_reducible refine Kp.trans ?_ (Kp.alloc _ _))); with_reducible exact kw1))) (Nat.le_refl 4) (by kernel_rfl) (by kernel_rfl) (by simp [Value.oneCell']) ?_; intro F hF KF gF; have KFH := Lib.hid KF; obtain ⟨x0, x1, x2, x3⟩ := row4 gF; have qA : F.cell? ⟨w.heap.size, 0, none⟩ = some (.int .i64 S) := (by rw [hF]; have q := (KS.out _ (by first | with_reducible exact kw1 | ((repeat (first | with_reducible refine Kp.trans ?_ (Kp.drew _) | with_reducible refine Kp.trans ?_ (Kp.alloc _ _))); with_reducible exact kw1))).1; have n0 : w.heap.size ≠ w.heap.size + 1 := (by omega); simp only [World.cell?] at q ⊢; rw [bx_other n0]; exact q); have qB : F.cell? ⟨w.heap.size, 1, none⟩ = some (.int .i64 T) := (by rw [hF]; have q := (KS.out _ (by first | with_reducible exact kw1 | ((repeat (first | with_reducible refine Kp.trans ?_ (Kp.drew _) | with_reducible refine Kp.trans ?_ (Kp.alloc _ _))); with_reducible exact kw1))).2.1; have n0 : w.heap.size ≠ w.heap.size + 1 := (by omega); simp only [World.cell?] at q ⊢; rw [bx_other n0]; exact q); clear gF hF)
 (try go_wp2_with fail)
 refine hK.out _ _ ?_ (fun hHeld2 => ?_)
 ·(try dsimp only); exact ⟨qA, qB⟩
 clear hK K hHeld1
 (try simp only [Act.put, wyoverlaps11, List.setIfInBounds_toArray, List.set_cons_zero, List.set_cons_succ])
 refine wpAnyH_done (by kernel_rfl) ?_ _
 go_wp2
 refine bodyPost_ret (v := .agg #[.int .i64 (S + 1), .int .i64 (T), .int .i64 (T + 1), .int .i64 (3652424)]) (by simp [results, Tryz.results169, go_sem, x0, x1, x2, x3]) rfl ⟨rfl, KFH.out⟩
abbrev wystarts0 : Oper := { dst := some 3, op := Go.Op.fieldAddr 146 (Go.Operand.tmp 1) 0, type := 0, pos := "box.go:48", after := #[], guard := none }
abbrev wystarts1 : Oper := { dst := some 4, op := Go.Op.load 3 (Go.Operand.tmp 3), type := 3, pos := "box.go:48", after := #[{ on := 0, ground := Go.Ground.data }], guard := none }
abbrev wystarts2 : Oper := { dst := some 5, op := Go.Op.call { callee := Go.Callee.value (Go.Operand.func 225), args := #[Go.Operand.tmp 4], argTypes := #[3] }, type := 53, pos := "box.go:48", after := #[{ on := 1, ground := Go.Ground.data }], guard := none }
abbrev wystarts3 : Oper := { dst := some 6, op := Go.Op.fieldAddr 146 (Go.Operand.tmp 1) 1, type := 0, pos := "box.go:48", after := #[], guard := none }
abbrev wystarts4 : Oper := { dst := some 7, op := Go.Op.load 3 (Go.Operand.tmp 6), type := 3, pos := "box.go:48", after := #[{ on := 3, ground := Go.Ground.data }], guard := none }
abbrev wystarts5 : Oper := { dst := some 8, op := Go.Op.binOp Go.BinOp.add 3 (Go.Operand.tmp 7) (Go.Operand.const (Go.Value.int Go.IntKind.i64 1)) 3, type := 3, pos := "box.go:48", after := #[{ on := 4, ground := Go.Ground.data }], guard := none }
abbrev wystarts6 : Oper := { dst := some 9, op := Go.Op.call { callee := Go.Callee.value (Go.Operand.func 223), args := #[Go.Operand.tmp 8], argTypes := #[3] }, type := 53, pos := "box.go:48", after := #[{ on := 5, ground := Go.Ground.data }, { on := 2, ground := Go.Ground.chain }], guard := none }
abbrev wystarts7 : Oper := { dst := some 10, op := Go.Op.build 145 #[(0, Go.Operand.tmp 5), (1, Go.Operand.tmp 9)], type := 145, pos := "box.go:48", after := #[{ on := 2, ground := Go.Ground.data }, { on := 6, ground := Go.Ground.data }], guard := none }
abbrev wystarts8 : Oper := { dst := none, op := Go.Op.store 145 (Go.Operand.tmp 2) (Go.Operand.tmp 10), type := 0, pos := "box.go:48", after := #[{ on := 7, ground := Go.Ground.data }, { on := 6, ground := Go.Ground.chain }, { on := 0, ground := Go.Ground.phase }, { on := 1, ground := Go.Ground.phase }, { on := 2, ground := Go.Ground.phase }, { on := 3, ground := Go.Ground.phase }, { on := 4, ground := Go.Ground.phase }, { on := 5, ground := Go.Ground.phase }, { on := 6, ground := Go.Ground.phase }, { on := 7, ground := Go.Ground.phase }], guard := none }
set_option maxHeartbeats 16000000 in
set_option maxRecDepth 100000 in
theorem starts_way (S T : Int) (w : World) (h1 : 0 ≤ S) (h2 : S ≤ 4000000) (h3 : 0 ≤ T) (h4 : T ≤ 4000000) : Calls Tryz.prog 170 #[.agg #[.int .i64 S, .int .i64 T]] w fun e w' => e = .returned (.agg #[.int .i64 (S), .int .i64 (S), .int .i64 (T + 1), .int .i64 (3652424)]) ∧ Kp w w' := by
 obtain ⟨W0, hW⟩ : ∃ x, x = (w.alloc (.cells #[.int .i64 S, .int .i64 T] 146)).alloc (.cells #[.int .i64 0, .int .i64 0, .int .i64 0, .int .i64 0] 145) := ⟨_, rfl⟩
 have k0 : Kp w W0 := by rw [hW]; exact (Kp.alloc _ _).trans (Kp.alloc _ _)
 have gA : W0.heap[w.heap.size]? = some (.cells #[.int .i64 S, .int .i64 T] 146 (0, 0)) := by rw [hW]; exact heap_block (Kp.alloc _ _) (heap_at _ _ _ rfl)
 have gB : W0.heap[w.heap.size + 1]? = some (.cells #[.int .i64 0, .int .i64 0, .int .i64 0, .int .i64 0] 145 (0, 0)) := by rw [hW]; exact heap_at _ _ _ (by simp)
 have hz : W0.heap.size = w.heap.size + 2 := by rw [hW]; simp
 have K0 := Lib.hid k0
 have GB := Lib.hid (fun w1 (q : Kp W0 w1) => heap_block q gB)
 have KS := Lib.hid (fun w' (kq : Kp W0 w') => show w'.cell? ⟨w.heap.size, 0, none⟩ = some (.int .i64 S) ∧ w'.cell? ⟨w.heap.size, 1, none⟩ = some (.int .i64 T) ∧ Kp W0 w' from ⟨(row2 (heap_block kq gA)).1, (row2 (heap_block kq gA)).2, kq⟩)
 have k00 : Kp W0 W0 := Kp.refl _
 have wS1 : IntKind.i64.wrap (S + 1) = S + 1 := by rw [IntKind.wrap_i64]; omega
 have wS2 : IntKind.i64.wrap (S - 1) = S - 1 := by rw [IntKind.wrap_i64]; omega
 have wS3 : IntKind.i64.wrap (S - 2) = S - 2 := by rw [IntKind.wrap_i64]; omega
 have wT1 : IntKind.i64.wrap (T + 1) = T + 1 := by rw [IntKind.wrap_i64]; omega
 have wT2 : IntKind.i64.wrap (T - 1) = T - 1 := by rw [IntKind.wrap_i64]; omega
 have wT3 : IntKind.i64.wrap (T + 2) = T + 2 := by rw [IntKind.wrap_i64]; omega
 have HW := Lib.hid hW
 clear hW gA gB k0
 go_enter Tryz.func170, Tryz.ntmps170
 go_upto_region 1 with fail
 rw [← HW.out]
 refine wp_region_held_drew (S := fun w' => w'.cell? ⟨w.heap.size, 0, none⟩ = some (.int .i64 S) ∧ w'.cell? ⟨w.heap.size, 1, none⟩ = some (.int .i64 T)) (by kernel_rfl) ?_ (fun hHeld0 => ?_)
 ·(try dsimp only); exact ⟨(KS.out _ (by first | with_reducible exact k00 | ((repeat (first | with_reducible refine Kp.trans ?_ (Kp.drew _) | with_reducible refine Kp.trans ?_ (Kp.alloc _ _))); with_reducible exact k00))).1, (KS.out _ (by first | with_reducible exact k00 | ((repeat (first | with_reducible refine Kp.trans ?_ (Kp.drew _) | with_reducible refine Kp.trans ?_ (Kp.alloc _ _))); with_reducible exact k00))).2.1⟩
 refine tkv 0 wystarts0 ?_
 (try simp only [Act.put, wystarts0, List.setIfInBounds_toArray, List.set_cons_zero, List.set_cons_succ])
 refine tkv 1 wystarts1 ?_
 (try simp only [Act.put, wystarts1, List.setIfInBounds_toArray, List.set_cons_zero, List.set_cons_succ])
 refine tkv 3 wystarts3 ?_
 (try simp only [Act.put, wystarts3, List.setIfInBounds_toArray, List.set_cons_zero, List.set_cons_succ])
 refine tkv 4 wystarts4 ?_
 (try simp only [Act.put, wystarts4, List.setIfInBounds_toArray, List.set_cons_zero, List.set_cons_succ])
 refine tkv 5 wystarts5 ?_
 (try simp only [Act.put, wystarts5, List.setIfInBounds_toArray, List.set_cons_zero, List.set_cons_succ])
 refine tkE 2 wystarts2 rfl (by kernel_rfl) (fun K hK => ?_)
 go_simp
 (refine (just_any _ _).mono ?_; rintro e w1 ⟨rfl, kq1⟩; have kw1 : Kp W0 w1 := Kp.trans (show Kp W0 _ from (by first | with_reducible exact k00 | ((repeat (first | with_reducible refine Kp.trans ?_ (Kp.drew _) | with_reducible refine Kp.trans ?_ (Kp.alloc _ _))); with_reducible exact k00))) kq1; clear kq1)
 (try go_wp2_with fail)
 refine hK.out _ _ ?_ (fun hHeld1 => ?_)
 ·(try dsimp only); exact ⟨(KS.out _ (by first | with_reducible exact kw1 | ((repeat (first | with_reducible refine Kp.trans ?_ (Kp.drew _) | with_reducible refine Kp.trans ?_ (Kp.alloc _ _))); with_reducible exact kw1))).1, (KS.out _ (by first | with_reducible exact kw1 | ((repeat (first | with_reducible refine Kp.trans ?_ (Kp.drew _) | with_reducible refine Kp.trans ?_ (Kp.alloc _ _))); with_reducible exact kw1))).2.1⟩
 clear hK K hHeld0
 (try simp only [Act.put, wystarts2, List.setIfInBounds_toArray, List.set_cons_zero, List.set_cons_succ])
 refine tkE 6 wystarts6 rfl (by kernel_rfl) (fun K hK => ?_)
 go_simp
 (refine (from_any _ _).mono ?_; rintro e w2 ⟨rfl, kq1⟩; have kw2 : Kp W0 w2 := Kp.trans (show Kp W0 _ from (by first | with_reducible exact kw1 | ((repeat (first | with_reducible refine Kp.trans ?_ (Kp.drew _) | with_reducible refine Kp.trans ?_ (Kp.alloc _ _))); with_reducible exact kw1))) kq1; clear kq1)
 (try go_wp2_with fail)
 refine hK.out _ _ ?_ (fun hHeld2 => ?_)
 ·(try dsimp only); exact ⟨(KS.out _ (by first | with_reducible exact kw2 | ((repeat (first | with_reducible refine Kp.trans ?_ (Kp.drew _) | with_reducible refine Kp.trans ?_ (Kp.alloc _ _))); with_reducible exact kw2))).1, (KS.out _ (by first | with_reducible exact kw2 | ((repeat (first | with_reducible refine Kp.trans ?_ (Kp.drew _) | with_reducible refine Kp.trans ?_ (Kp.alloc _ _))); with_reducible exact kw2))).2.1⟩
 clear hK K hHeld1
 (try simp only [Act.put, wystarts6, List.setIfInBounds_toArray, List.set_cons_zero, List.set_cons_succ])
 refine tkv 7 wystarts7 ?_
 (try simp only [Act.put, wystarts7, List.setIfInBounds_toArray, List.set_cons_zero, List.set_cons_succ])
 refine tkE 8 wystarts8 rfl (by kernel_rfl) (fun K hK => ?_)
 (refine bx_store (W := w) rfl 145 (.tmp 2) (.tmp 10) rfl (w.heap.size + 1) [.int .i64 (S), .int .i64 (S), .int .i64 (T + 1), .int .i64 (3652424)] #[.int .i64 0, .int .i64 0, .int .i64 0, .int .i64 0] (by simp [Act.eval, Act.put, wS1, wS2, wS3, wT1, wT2, wT3]) (by simp [Act.eval, Act.put, wS1, wS2, wS3, wT1, wT2, wT3]) (K0.out.trans (by first | with_reducible exact kw2 | ((repeat (first | with_reducible refine Kp.trans ?_ (Kp.drew _) | with_reducible refine Kp.trans ?_ (Kp.alloc _ _))); with_reducible exact kw2))) (by omega) (GB.out _ (by first | with_reducible exact kw2 | ((repeat (first | with_reducible refine Kp.trans ?_ (Kp.drew _) | with_reducible refine Kp.trans ?_ (Kp.alloc _ _))); with_reducible exact kw2))) (Nat.le_refl 4) (by kernel_rfl) (by kernel_rfl) (by simp [Value.oneCell']) ?_; intro F hF KF gF; have KFH := Lib.hid KF; obtain ⟨x0, x1, x2, x3⟩ := row4 gF; have qA : F.cell? ⟨w.heap.size, 0, none⟩ = some (.int .i64 S) := (by rw [hF]; have q := (KS.out _ (by first | with_reducible exact kw2 | ((repeat (first | with_reducible refine Kp.trans ?_ (Kp.drew _) | with_reducible refine Kp.trans ?_ (Kp.alloc _ _))); with_reducible exact kw2))).1; have n0 : w.heap.size ≠ w.heap.size + 1 := (by omega); simp only [World.cell?] at q ⊢; rw [bx_other n0]; exact q); have qB : F.cell? ⟨w.heap.size, 1, none⟩ = some (.int .i64 T) := (by rw [hF]; have q := (KS.out _ (by first | with_reducible exact kw2 | ((repeat (first | with_reducible refine Kp.trans ?_ (Kp.drew _) | with_reducible refine Kp.trans ?_ (Kp.alloc _ _))); with_reducible exact kw2))).2.1; have n0 : w.heap.size ≠ w.heap.size + 1 := (by omega); simp only [World.cell?] at q ⊢; rw [bx_other n0]; exact q); clear gF hF)
 (try go_wp2_with fail)
 refine hK.out _ _ ?_ (fun hHeld3 => ?_)
 ·(try dsimp only); exact ⟨qA, qB⟩
 clear hK K hHeld2
 (try simp only [Act.put, wystarts8, List.setIfInBounds_toArray, List.set_cons_zero, List.set_cons_succ])
 refine wpAnyH_done (by kernel_rfl) ?_ _
 go_wp2
 refine bodyPost_ret (v := .agg #[.int .i64 (S), .int .i64 (S), .int .i64 (T + 1), .int .i64 (3652424)]) (by simp [results, Tryz.results170, go_sem, x0, x1, x2, x3]) rfl ⟨rfl, KFH.out⟩
abbrev wyduring0 : Oper := { dst := some 3, op := Go.Op.fieldAddr 146 (Go.Operand.tmp 1) 0, type := 0, pos := "box.go:52", after := #[], guard := none }
abbrev wyduring1 : Oper := { dst := some 4, op := Go.Op.load 3 (Go.Operand.tmp 3), type := 3, pos := "box.go:52", after := #[{ on := 0, ground := Go.Ground.data }], guard := none }
abbrev wyduring2 : Oper := { dst := some 5, op := Go.Op.binOp Go.BinOp.sub 3 (Go.Operand.tmp 4) (Go.Operand.const (Go.Value.int Go.IntKind.i64 1)) 3, type := 3, pos := "box.go:52", after := #[{ on := 1, ground := Go.Ground.data }], guard := none }
abbrev wyduring3 : Oper := { dst := some 6, op := Go.Op.call { callee := Go.Callee.value (Go.Operand.func 226), args := #[Go.Operand.tmp 5], argTypes := #[3] }, type := 53, pos := "box.go:52", after := #[{ on := 2, ground := Go.Ground.data }], guard := none }
abbrev wyduring4 : Oper := { dst := some 7, op := Go.Op.fieldAddr 146 (Go.Operand.tmp 1) 1, type := 0, pos := "box.go:52", after := #[], guard := none }
abbrev wyduring5 : Oper := { dst := some 8, op := Go.Op.load 3 (Go.Operand.tmp 7), type := 3, pos := "box.go:52", after := #[{ on := 4, ground := Go.Ground.data }], guard := none }
abbrev wyduring6 : Oper := { dst := some 9, op := Go.Op.binOp Go.BinOp.add 3 (Go.Operand.tmp 8) (Go.Operand.const (Go.Value.int Go.IntKind.i64 1)) 3, type := 3, pos := "box.go:52", after := #[{ on := 5, ground := Go.Ground.data }], guard := none }
abbrev wyduring7 : Oper := { dst := some 10, op := Go.Op.call { callee := Go.Callee.value (Go.Operand.func 223), args := #[Go.Operand.tmp 9], argTypes := #[3] }, type := 53, pos := "box.go:52", after := #[{ on := 6, ground := Go.Ground.data }, { on := 3, ground := Go.Ground.chain }], guard := none }
abbrev wyduring8 : Oper := { dst := some 11, op := Go.Op.build 145 #[(0, Go.Operand.tmp 6), (1, Go.Operand.tmp 10)], type := 145, pos := "box.go:52", after := #[{ on := 3, ground := Go.Ground.data }, { on := 7, ground := Go.Ground.data }], guard := none }
abbrev wyduring9 : Oper := { dst := none, op := Go.Op.store 145 (Go.Operand.tmp 2) (Go.Operand.tmp 11), type := 0, pos := "box.go:52", after := #[{ on := 8, ground := Go.Ground.data }, { on := 7, ground := Go.Ground.chain }, { on := 0, ground := Go.Ground.phase }, { on := 1, ground := Go.Ground.phase }, { on := 2, ground := Go.Ground.phase }, { on := 3, ground := Go.Ground.phase }, { on := 4, ground := Go.Ground.phase }, { on := 5, ground := Go.Ground.phase }, { on := 6, ground := Go.Ground.phase }, { on := 7, ground := Go.Ground.phase }, { on := 8, ground := Go.Ground.phase }], guard := none }
set_option maxHeartbeats 16000000 in
set_option maxRecDepth 100000 in
theorem during_way (S T : Int) (w : World) (h1 : 0 ≤ S) (h2 : S ≤ 4000000) (h3 : 0 ≤ T) (h4 : T ≤ 4000000) : Calls Tryz.prog 171 #[.agg #[.int .i64 S, .int .i64 T]] w fun e w' => e = .returned (.agg #[.int .i64 (0), .int .i64 (S - 1), .int .i64 (T + 1), .int .i64 (3652424)]) ∧ Kp w w' := by
 obtain ⟨W0, hW⟩ : ∃ x, x = (w.alloc (.cells #[.int .i64 S, .int .i64 T] 146)).alloc (.cells #[.int .i64 0, .int .i64 0, .int .i64 0, .int .i64 0] 145) := ⟨_, rfl⟩
 have k0 : Kp w W0 := by rw [hW]; exact (Kp.alloc _ _).trans (Kp.alloc _ _)
 have gA : W0.heap[w.heap.size]? = some (.cells #[.int .i64 S, .int .i64 T] 146 (0, 0)) := by rw [hW]; exact heap_block (Kp.alloc _ _) (heap_at _ _ _ rfl)
 have gB : W0.heap[w.heap.size + 1]? = some (.cells #[.int .i64 0, .int .i64 0, .int .i64 0, .int .i64 0] 145 (0, 0)) := by rw [hW]; exact heap_at _ _ _ (by simp)
 have hz : W0.heap.size = w.heap.size + 2 := by rw [hW]; simp
 have K0 := Lib.hid k0
 have GB := Lib.hid (fun w1 (q : Kp W0 w1) => heap_block q gB)
 have KS := Lib.hid (fun w' (kq : Kp W0 w') => show w'.cell? ⟨w.heap.size, 0, none⟩ = some (.int .i64 S) ∧ w'.cell? ⟨w.heap.size, 1, none⟩ = some (.int .i64 T) ∧ Kp W0 w' from ⟨(row2 (heap_block kq gA)).1, (row2 (heap_block kq gA)).2, kq⟩)
 have k00 : Kp W0 W0 := Kp.refl _
 have wS1 : IntKind.i64.wrap (S + 1) = S + 1 := by rw [IntKind.wrap_i64]; omega
 have wS2 : IntKind.i64.wrap (S - 1) = S - 1 := by rw [IntKind.wrap_i64]; omega
 have wS3 : IntKind.i64.wrap (S - 2) = S - 2 := by rw [IntKind.wrap_i64]; omega
 have wT1 : IntKind.i64.wrap (T + 1) = T + 1 := by rw [IntKind.wrap_i64]; omega
 have wT2 : IntKind.i64.wrap (T - 1) = T - 1 := by rw [IntKind.wrap_i64]; omega
 have wT3 : IntKind.i64.wrap (T + 2) = T + 2 := by rw [IntKind.wrap_i64]; omega
 have HW := Lib.hid hW
 clear hW gA gB k0
 go_enter Tryz.func171, Tryz.ntmps171
 go_upto_region 1 with fail
 rw [← HW.out]
 refine wp_region_held_drew (S := fun w' => w'.cell? ⟨w.heap.size, 0, none⟩ = some (.int .i64 S) ∧ w'.cell? ⟨w.heap.size, 1, none⟩ = some (.int .i64 T)) (by kernel_rfl) ?_ (fun hHeld0 => ?_)
 ·(try dsimp only); exact ⟨(KS.out _ (by first | with_reducible exact k00 | ((repeat (first | with_reducible refine Kp.trans ?_ (Kp.drew _) | with_reducible refine Kp.trans ?_ (Kp.alloc _ _))); with_reducible exact k00))).1, (KS.out _ (by first | with_reducible exact k00 | ((repeat (first | with_reducible refine Kp.trans ?_ (Kp.drew _) | with_reducible refine Kp.trans ?_ (Kp.alloc _ _))); with_reducible exact k00))).2.1⟩
 refine tkv 0 wyduring0 ?_
 (try simp only [Act.put, wyduring0, List.setIfInBounds_toArray, List.set_cons_zero, List.set_cons_succ])
 refine tkv 1 wyduring1 ?_
 (try simp only [Act.put, wyduring1, List.setIfInBounds_toArray, List.set_cons_zero, List.set_cons_succ])
 refine tkv 2 wyduring2 ?_
 (try simp only [Act.put, wyduring2, List.setIfInBounds_toArray, List.set_cons_zero, List.set_cons_succ])
 refine tkv 4 wyduring4 ?_
 (try simp only [Act.put, wyduring4, List.setIfInBounds_toArray, List.set_cons_zero, List.set_cons_succ])
 refine tkv 5 wyduring5 ?_
 (try simp only [Act.put, wyduring5, List.setIfInBounds_toArray, List.set_cons_zero, List.set_cons_succ])
 refine tkv 6 wyduring6 ?_
 (try simp only [Act.put, wyduring6, List.setIfInBounds_toArray, List.set_cons_zero, List.set_cons_succ])
 refine tkE 3 wyduring3 rfl (by kernel_rfl) (fun K hK => ?_)
 go_simp
 (refine (upTo_any _ _).mono ?_; rintro e w1 ⟨rfl, kq1⟩; have kw1 : Kp W0 w1 := Kp.trans (show Kp W0 _ from (by first | with_reducible exact k00 | ((repeat (first | with_reducible refine Kp.trans ?_ (Kp.drew _) | with_reducible refine Kp.trans ?_ (Kp.alloc _ _))); with_reducible exact k00))) kq1; clear kq1)
 (try go_wp2_with fail)
 refine hK.out _ _ ?_ (fun hHeld1 => ?_)
 ·(try dsimp only); exact ⟨(KS.out _ (by first | with_reducible exact kw1 | ((repeat (first | with_reducible refine Kp.trans ?_ (Kp.drew _) | with_reducible refine Kp.trans ?_ (Kp.alloc _ _))); with_reducible exact kw1))).1, (KS.out _ (by first | with_reducible exact kw1 | ((repeat (first | with_reducible refine Kp.trans ?_ (Kp.drew _) | with_reducible refine Kp.trans ?_ (Kp.alloc _ _))); with_reducible exact kw1))).2.1⟩
 clear hK K hHeld0
 (try simp only [Act.put, wyduring3, List.setIfInBounds_toArray, List.set_cons_zero, List.set_cons_succ])
 refine tkE 7 wyduring7 rfl (by kernel_rfl) (fun K hK => ?_)
 go_simp
 (refine (from_any _ _).mono ?_; rintro e w2 ⟨rfl, kq1⟩; have kw2 : Kp W0 w2 := Kp.trans (show Kp W0 _ from (by first | with_reducible exact kw1 | ((repeat (first | with_reducible refine Kp.trans ?_ (Kp.drew _) | with_reducible refine Kp.trans ?_ (Kp.alloc _ _))); with_reducible exact kw1))) kq1; clear kq1)
 (try go_wp2_with fail)
 refine hK.out _ _ ?_ (fun hHeld2 => ?_)
 ·(try dsimp only); exact ⟨(KS.out _ (by first | with_reducible exact kw2 | ((repeat (first | with_reducible refine Kp.trans ?_ (Kp.drew _) | with_reducible refine Kp.trans ?_ (Kp.alloc _ _))); with_reducible exact kw2))).1, (KS.out _ (by first | with_reducible exact kw2 | ((repeat (first | with_reducible refine Kp.trans ?_ (Kp.drew _) | with_reducible refine Kp.trans ?_ (Kp.alloc _ _))); with_reducible exact kw2))).2.1⟩
 clear hK K hHeld1
 (try simp only [Act.put, wyduring7, List.setIfInBounds_toArray, List.set_cons_zero, List.set_cons_succ])
 refine tkv 8 wyduring8 ?_
 (try simp only [Act.put, wyduring8, List.setIfInBounds_toArray, List.set_cons_zero, List.set_cons_succ])
 refine tkE 9 wyduring9 rfl (by kernel_rfl) (fun K hK => ?_)
 (refine bx_store (W := w) rfl 145 (.tmp 2) (.tmp 11) rfl (w.heap.size + 1) [.int .i64 (0), .int .i64 (S - 1), .int .i64 (T + 1), .int .i64 (3652424)] #[.int .i64 0, .int .i64 0, .int .i64 0, .int .i64 0] (by simp [Act.eval, Act.put, wS1, wS2, wS3, wT1, wT2, wT3]) (by simp [Act.eval, Act.put, wS1, wS2, wS3, wT1, wT2, wT3]) (K0.out.trans (by first | with_reducible exact kw2 | ((repeat (first | with_reducible refine Kp.trans ?_ (Kp.drew _) | with_reducible refine Kp.trans ?_ (Kp.alloc _ _))); with_reducible exact kw2))) (by omega) (GB.out _ (by first | with_reducible exact kw2 | ((repeat (first | with_reducible refine Kp.trans ?_ (Kp.drew _) | with_reducible refine Kp.trans ?_ (Kp.alloc _ _))); with_reducible exact kw2))) (Nat.le_refl 4) (by kernel_rfl) (by kernel_rfl) (by simp [Value.oneCell']) ?_; intro F hF KF gF; have KFH := Lib.hid KF; obtain ⟨x0, x1, x2, x3⟩ := row4 gF; have qA : F.cell? ⟨w.heap.size, 0, none⟩ = some (.int .i64 S) := (by rw [hF]; have q := (KS.out _ (by first | with_reducible exact kw2 | ((repeat (first | with_reducible refine Kp.trans ?_ (Kp.drew _) | with_reducible refine Kp.trans ?_ (Kp.alloc _ _))); with_reducible exact kw2))).1; have n0 : w.heap.size ≠ w.heap.size + 1 := (by omega); simp only [World.cell?] at q ⊢; rw [bx_other n0]; exact q); have qB : F.cell? ⟨w.heap.size, 1, none⟩ = some (.int .i64 T) := (by rw [hF]; have q := (KS.out _ (by first | with_reducible exact kw2 | ((repeat (first | with_reducible refine Kp.trans ?_ (Kp.drew _) | with_reducible refine Kp.trans ?_ (Kp.alloc _ _))); with_reducible exact kw2))).2.1; have n0 : w.heap.size ≠ w.heap.size + 1 := (by omega); simp only [World.cell?] at q ⊢; rw [bx_other n0]; exact q); clear gF hF)
 (try go_wp2_with fail)
 refine hK.out _ _ ?_ (fun hHeld3 => ?_)
 ·(try dsimp only); exact ⟨qA, qB⟩
 clear hK K hHeld2
 (try simp only [Act.put, wyduring9, List.setIfInBounds_toArray, List.set_cons_zero, List.set_cons_succ])
 refine wpAnyH_done (by kernel_rfl) ?_ _
 go_wp2
 refine bodyPost_ret (v := .agg #[.int .i64 (0), .int .i64 (S - 1), .int .i64 (T + 1), .int .i64 (3652424)]) (by simp [results, Tryz.results171, go_sem, x0, x1, x2, x3]) rfl ⟨rfl, KFH.out⟩
abbrev wyfinishes0 : Oper := { dst := some 3, op := Go.Op.fieldAddr 146 (Go.Operand.tmp 1) 0, type := 0, pos := "box.go:56", after := #[], guard := none }
abbrev wyfinishes1 : Oper := { dst := some 4, op := Go.Op.load 3 (Go.Operand.tmp 3), type := 3, pos := "box.go:56", after := #[{ on := 0, ground := Go.Ground.data }], guard := none }
abbrev wyfinishes2 : Oper := { dst := some 5, op := Go.Op.binOp Go.BinOp.sub 3 (Go.Operand.tmp 4) (Go.Operand.const (Go.Value.int Go.IntKind.i64 1)) 3, type := 3, pos := "box.go:56", after := #[{ on := 1, ground := Go.Ground.data }], guard := none }
abbrev wyfinishes3 : Oper := { dst := some 6, op := Go.Op.call { callee := Go.Callee.value (Go.Operand.func 226), args := #[Go.Operand.tmp 5], argTypes := #[3] }, type := 53, pos := "box.go:56", after := #[{ on := 2, ground := Go.Ground.data }], guard := none }
abbrev wyfinishes4 : Oper := { dst := some 7, op := Go.Op.fieldAddr 146 (Go.Operand.tmp 1) 1, type := 0, pos := "box.go:56", after := #[], guard := none }
abbrev wyfinishes5 : Oper := { dst := some 8, op := Go.Op.load 3 (Go.Operand.tmp 7), type := 3, pos := "box.go:56", after := #[{ on := 4, ground := Go.Ground.data }], guard := none }
abbrev wyfinishes6 : Oper := { dst := some 9, op := Go.Op.call { callee := Go.Callee.value (Go.Operand.func 225), args := #[Go.Operand.tmp 8], argTypes := #[3] }, type := 53, pos := "box.go:56", after := #[{ on := 5, ground := Go.Ground.data }, { on := 3, ground := Go.Ground.chain }], guard := none }
abbrev wyfinishes7 : Oper := { dst := some 10, op := Go.Op.build 145 #[(0, Go.Operand.tmp 6), (1, Go.Operand.tmp 9)], type := 145, pos := "box.go:56", after := #[{ on := 3, ground := Go.Ground.data }, { on := 6, ground := Go.Ground.data }], guard := none }
abbrev wyfinishes8 : Oper := { dst := none, op := Go.Op.store 145 (Go.Operand.tmp 2) (Go.Operand.tmp 10), type := 0, pos := "box.go:56", after := #[{ on := 7, ground := Go.Ground.data }, { on := 6, ground := Go.Ground.chain }, { on := 0, ground := Go.Ground.phase }, { on := 1, ground := Go.Ground.phase }, { on := 2, ground := Go.Ground.phase }, { on := 3, ground := Go.Ground.phase }, { on := 4, ground := Go.Ground.phase }, { on := 5, ground := Go.Ground.phase }, { on := 6, ground := Go.Ground.phase }, { on := 7, ground := Go.Ground.phase }], guard := none }
set_option maxHeartbeats 16000000 in
set_option maxRecDepth 100000 in
theorem finishes_way (S T : Int) (w : World) (h1 : 0 ≤ S) (h2 : S ≤ 4000000) (h3 : 0 ≤ T) (h4 : T ≤ 4000000) : Calls Tryz.prog 172 #[.agg #[.int .i64 S, .int .i64 T]] w fun e w' => e = .returned (.agg #[.int .i64 (0), .int .i64 (S - 1), .int .i64 (T), .int .i64 (T)]) ∧ Kp w w' := by
 obtain ⟨W0, hW⟩ : ∃ x, x = (w.alloc (.cells #[.int .i64 S, .int .i64 T] 146)).alloc (.cells #[.int .i64 0, .int .i64 0, .int .i64 0, .int .i64 0] 145) := ⟨_, rfl⟩
 have k0 : Kp w W0 := by rw [hW]; exact (Kp.alloc _ _).trans (Kp.alloc _ _)
 have gA : W0.heap[w.heap.size]? = some (.cells #[.int .i64 S, .int .i64 T] 146 (0, 0)) := by rw [hW]; exact heap_block (Kp.alloc _ _) (heap_at _ _ _ rfl)
 have gB : W0.heap[w.heap.size + 1]? = some (.cells #[.int .i64 0, .int .i64 0, .int .i64 0, .int .i64 0] 145 (0, 0)) := by rw [hW]; exact heap_at _ _ _ (by simp)
 have hz : W0.heap.size = w.heap.size + 2 := by rw [hW]; simp
 have K0 := Lib.hid k0
 have GB := Lib.hid (fun w1 (q : Kp W0 w1) => heap_block q gB)
 have KS := Lib.hid (fun w' (kq : Kp W0 w') => show w'.cell? ⟨w.heap.size, 0, none⟩ = some (.int .i64 S) ∧ w'.cell? ⟨w.heap.size, 1, none⟩ = some (.int .i64 T) ∧ Kp W0 w' from ⟨(row2 (heap_block kq gA)).1, (row2 (heap_block kq gA)).2, kq⟩)
 have k00 : Kp W0 W0 := Kp.refl _
 have wS1 : IntKind.i64.wrap (S + 1) = S + 1 := by rw [IntKind.wrap_i64]; omega
 have wS2 : IntKind.i64.wrap (S - 1) = S - 1 := by rw [IntKind.wrap_i64]; omega
 have wS3 : IntKind.i64.wrap (S - 2) = S - 2 := by rw [IntKind.wrap_i64]; omega
 have wT1 : IntKind.i64.wrap (T + 1) = T + 1 := by rw [IntKind.wrap_i64]; omega
 have wT2 : IntKind.i64.wrap (T - 1) = T - 1 := by rw [IntKind.wrap_i64]; omega
 have wT3 : IntKind.i64.wrap (T + 2) = T + 2 := by rw [IntKind.wrap_i64]; omega
 have HW := Lib.hid hW
 clear hW gA gB k0
 go_enter Tryz.func172, Tryz.ntmps172
 go_upto_region 1 with fail
 rw [← HW.out]
 refine wp_region_held_drew (S := fun w' => w'.cell? ⟨w.heap.size, 0, none⟩ = some (.int .i64 S) ∧ w'.cell? ⟨w.heap.size, 1, none⟩ = some (.int .i64 T)) (by kernel_rfl) ?_ (fun hHeld0 => ?_)
 ·(try dsimp only); exact ⟨(KS.out _ (by first | with_reducible exact k00 | ((repeat (first | with_reducible refine Kp.trans ?_ (Kp.drew _) | with_reducible refine Kp.trans ?_ (Kp.alloc _ _))); with_reducible exact k00))).1, (KS.out _ (by first | with_reducible exact k00 | ((repeat (first | with_reducible refine Kp.trans ?_ (Kp.drew _) | with_reducible refine Kp.trans ?_ (Kp.alloc _ _))); with_reducible exact k00))).2.1⟩
 refine tkv 0 wyfinishes0 ?_
 (try simp only [Act.put, wyfinishes0, List.setIfInBounds_toArray, List.set_cons_zero, List.set_cons_succ])
 refine tkv 1 wyfinishes1 ?_
 (try simp only [Act.put, wyfinishes1, List.setIfInBounds_toArray, List.set_cons_zero, List.set_cons_succ])
 refine tkv 2 wyfinishes2 ?_
 (try simp only [Act.put, wyfinishes2, List.setIfInBounds_toArray, List.set_cons_zero, List.set_cons_succ])
 refine tkv 4 wyfinishes4 ?_
 (try simp only [Act.put, wyfinishes4, List.setIfInBounds_toArray, List.set_cons_zero, List.set_cons_succ])
 refine tkv 5 wyfinishes5 ?_
 (try simp only [Act.put, wyfinishes5, List.setIfInBounds_toArray, List.set_cons_zero, List.set_cons_succ])
 refine tkE 3 wyfinishes3 rfl (by kernel_rfl) (fun K hK => ?_)
 go_simp
 (refine (upTo_any _ _).mono ?_; rintro e w1 ⟨rfl, kq1⟩; have kw1 : Kp W0 w1 := Kp.trans (show Kp W0 _ from (by first | with_reducible exact k00 | ((repeat (first | with_reducible refine Kp.trans ?_ (Kp.drew _) | with_reducible refine Kp.trans ?_ (Kp.alloc _ _))); with_reducible exact k00))) kq1; clear kq1)
 (try go_wp2_with fail)
 refine hK.out _ _ ?_ (fun hHeld1 => ?_)
 ·(try dsimp only); exact ⟨(KS.out _ (by first | with_reducible exact kw1 | ((repeat (first | with_reducible refine Kp.trans ?_ (Kp.drew _) | with_reducible refine Kp.trans ?_ (Kp.alloc _ _))); with_reducible exact kw1))).1, (KS.out _ (by first | with_reducible exact kw1 | ((repeat (first | with_reducible refine Kp.trans ?_ (Kp.drew _) | with_reducible refine Kp.trans ?_ (Kp.alloc _ _))); with_reducible exact kw1))).2.1⟩
 clear hK K hHeld0
 (try simp only [Act.put, wyfinishes3, List.setIfInBounds_toArray, List.set_cons_zero, List.set_cons_succ])
 refine tkE 6 wyfinishes6 rfl (by kernel_rfl) (fun K hK => ?_)
 go_simp
 (refine (just_any _ _).mono ?_; rintro e w2 ⟨rfl, kq1⟩; have kw2 : Kp W0 w2 := Kp.trans (show Kp W0 _ from (by first | with_reducible exact kw1 | ((repeat (first | with_reducible refine Kp.trans ?_ (Kp.drew _) | with_reducible refine Kp.trans ?_ (Kp.alloc _ _))); with_reducible exact kw1))) kq1; clear kq1)
 (try go_wp2_with fail)
 refine hK.out _ _ ?_ (fun hHeld2 => ?_)
 ·(try dsimp only); exact ⟨(KS.out _ (by first | with_reducible exact kw2 | ((repeat (first | with_reducible refine Kp.trans ?_ (Kp.drew _) | with_reducible refine Kp.trans ?_ (Kp.alloc _ _))); with_reducible exact kw2))).1, (KS.out _ (by first | with_reducible exact kw2 | ((repeat (first | with_reducible refine Kp.trans ?_ (Kp.drew _) | with_reducible refine Kp.trans ?_ (Kp.alloc _ _))); with_reducible exact kw2))).2.1⟩
 clear hK K hHeld1
 (try simp only [Act.put, wyfinishes6, List.setIfInBounds_toArray, List.set_cons_zero, List.set_cons_succ])
 refine tkv 7 wyfinishes7 ?_
 (try simp only [Act.put, wyfinishes7, List.setIfInBounds_toArray, List.set_cons_zero, List.set_cons_succ])
 refine tkE 8 wyfinishes8 rfl (by kernel_rfl) (fun K hK => ?_)
 (refine bx_store (W := w) rfl 145 (.tmp 2) (.tmp 10) rfl (w.heap.size + 1) [.int .i64 (0), .int .i64 (S - 1), .int .i64 (T), .int .i64 (T)] #[.int .i64 0, .int .i64 0, .int .i64 0, .int .i64 0] (by simp [Act.eval, Act.put, wS1, wS2, wS3, wT1, wT2, wT3]) (by simp [Act.eval, Act.put, wS1, wS2, wS3, wT1, wT2, wT3]) (K0.out.trans (by first | with_reducible exact kw2 | ((repeat (first | with_reducible refine Kp.trans ?_ (Kp.drew _) | with_reducible refine Kp.trans ?_ (Kp.alloc _ _))); with_reducible exact kw2))) (by omega) (GB.out _ (by first | with_reducible exact kw2 | ((repeat (first | with_reducible refine Kp.trans ?_ (Kp.drew _) | with_reducible refine Kp.trans ?_ (Kp.alloc _ _))); with_reducible exact kw2))) (Nat.le_refl 4) (by kernel_rfl) (by kernel_rfl) (by simp [Value.oneCell']) ?_; intro F hF KF gF; have KFH := Lib.hid KF; obtain ⟨x0, x1, x2, x3⟩ := row4 gF; have qA : F.cell? ⟨w.heap.size, 0, none⟩ = some (.int .i64 S) := (by rw [hF]; have q := (KS.out _ (by first | with_reducible exact kw2 | ((repeat (first | with_reducible refine Kp.trans ?_ (Kp.drew _) | with_reducible refine Kp.trans ?_ (Kp.alloc _ _))); with_reducible exact kw2))).1; have n0 : w.heap.size ≠ w.heap.size + 1 := (by omega); simp only [World.cell?] at q ⊢; rw [bx_other n0]; exact q); have qB : F.cell? ⟨w.heap.size, 1, none⟩ = some (.int .i64 T) := (by rw [hF]; have q := (KS.out _ (by first | with_reducible exact kw2 | ((repeat (first | with_reducible refine Kp.trans ?_ (Kp.drew _) | with_reducible refine Kp.trans ?_ (Kp.alloc _ _))); with_reducible exact kw2))).2.1; have n0 : w.heap.size ≠ w.heap.size + 1 := (by omega); simp only [World.cell?] at q ⊢; rw [bx_other n0]; exact q); clear gF hF)
 (try go_wp2_with fail)
 refine hK.out _ _ ?_ (fun hHeld3 => ?_)
 ·(try dsimp only); exact ⟨qA, qB⟩
 clear hK K hHeld2
 (try simp only [Act.put, wyfinishes8, List.setIfInBounds_toArray, List.set_cons_zero, List.set_cons_succ])
 refine wpAnyH_done (by kernel_rfl) ?_ _
 go_wp2
 refine bodyPost_ret (v := .agg #[.int .i64 (0), .int .i64 (S - 1), .int .i64 (T), .int .i64 (T)]) (by simp [results, Tryz.results172, go_sem, x0, x1, x2, x3]) rfl ⟨rfl, KFH.out⟩
abbrev wyequals0 : Oper := { dst := some 3, op := Go.Op.fieldAddr 146 (Go.Operand.tmp 1) 0, type := 0, pos := "box.go:60", after := #[], guard := none }
abbrev wyequals1 : Oper := { dst := some 4, op := Go.Op.load 3 (Go.Operand.tmp 3), type := 3, pos := "box.go:60", after := #[{ on := 0, ground := Go.Ground.data }], guard := none }
abbrev wyequals2 : Oper := { dst := some 5, op := Go.Op.call { callee := Go.Callee.value (Go.Operand.func 225), args := #[Go.Operand.tmp 4], argTypes := #[3] }, type := 53, pos := "box.go:60", after := #[{ on := 1, ground := Go.Ground.data }], guard := none }
abbrev wyequals3 : Oper := { dst := some 6, op := Go.Op.fieldAddr 146 (Go.Operand.tmp 1) 1, type := 0, pos := "box.go:60", after := #[], guard := none }
abbrev wyequals4 : Oper := { dst := some 7, op := Go.Op.load 3 (Go.Operand.tmp 6), type := 3, pos := "box.go:60", after := #[{ on := 3, ground := Go.Ground.data }], guard := none }
abbrev wyequals5 : Oper := { dst := some 8, op := Go.Op.call { callee := Go.Callee.value (Go.Operand.func 225), args := #[Go.Operand.tmp 7], argTypes := #[3] }, type := 53, pos := "box.go:60", after := #[{ on := 4, ground := Go.Ground.data }, { on := 2, ground := Go.Ground.chain }], guard := none }
abbrev wyequals6 : Oper := { dst := some 9, op := Go.Op.build 145 #[(0, Go.Operand.tmp 5), (1, Go.Operand.tmp 8)], type := 145, pos := "box.go:60", after := #[{ on := 2, ground := Go.Ground.data }, { on := 5, ground := Go.Ground.data }], guard := none }
abbrev wyequals7 : Oper := { dst := none, op := Go.Op.store 145 (Go.Operand.tmp 2) (Go.Operand.tmp 9), type := 0, pos := "box.go:60", after := #[{ on := 6, ground := Go.Ground.data }, { on := 5, ground := Go.Ground.chain }, { on := 0, ground := Go.Ground.phase }, { on := 1, ground := Go.Ground.phase }, { on := 2, ground := Go.Ground.phase }, { on := 3, ground := Go.Ground.phase }, { on := 4, ground := Go.Ground.phase }, { on := 5, ground := Go.Ground.phase }, { on := 6, ground := Go.Ground.phase }], guard := none }
set_option maxHeartbeats 16000000 in
set_option maxRecDepth 100000 in
theorem equals_way (S T : Int) (w : World) (h1 : 0 ≤ S) (h2 : S ≤ 4000000) (h3 : 0 ≤ T) (h4 : T ≤ 4000000) : Calls Tryz.prog 173 #[.agg #[.int .i64 S, .int .i64 T]] w fun e w' => e = .returned (.agg #[.int .i64 (S), .int .i64 (S), .int .i64 (T), .int .i64 (T)]) ∧ Kp w w' := by
 obtain ⟨W0, hW⟩ : ∃ x, x = (w.alloc (.cells #[.int .i64 S, .int .i64 T] 146)).alloc (.cells #[.int .i64 0, .int .i64 0, .int .i64 0, .int .i64 0] 145) := ⟨_, rfl⟩
 have k0 : Kp w W0 := by rw [hW]; exact (Kp.alloc _ _).trans (Kp.alloc _ _)
 have gA : W0.heap[w.heap.size]? = some (.cells #[.int .i64 S, .int .i64 T] 146 (0, 0)) := by rw [hW]; exact heap_block (Kp.alloc _ _) (heap_at _ _ _ rfl)
 have gB : W0.heap[w.heap.size + 1]? = some (.cells #[.int .i64 0, .int .i64 0, .int .i64 0, .int .i64 0] 145 (0, 0)) := by rw [hW]; exact heap_at _ _ _ (by simp)
 have hz : W0.heap.size = w.heap.size + 2 := by rw [hW]; simp
 have K0 := Lib.hid k0
 have GB := Lib.hid (fun w1 (q : Kp W0 w1) => heap_block q gB)
 have KS := Lib.hid (fun w' (kq : Kp W0 w') => show w'.cell? ⟨w.heap.size, 0, none⟩ = some (.int .i64 S) ∧ w'.cell? ⟨w.heap.size, 1, none⟩ = some (.int .i64 T) ∧ Kp W0 w' from ⟨(row2 (heap_block kq gA)).1, (row2 (heap_block kq gA)).2, kq⟩)
 have k00 : Kp W0 W0 := Kp.refl _
 have wS1 : IntKind.i64.wrap (S + 1) = S + 1 := by rw [IntKind.wrap_i64]; omega
 have wS2 : IntKind.i64.wrap (S - 1) = S - 1 := by rw [IntKind.wrap_i64]; omega
 have wS3 : IntKind.i64.wrap (S - 2) = S - 2 := by rw [IntKind.wrap_i64]; omega
 have wT1 : IntKind.i64.wrap (T + 1) = T + 1 := by rw [IntKind.wrap_i64]; omega
 have wT2 : IntKind.i64.wrap (T - 1) = T - 1 := by rw [IntKind.wrap_i64]; omega
 have wT3 : IntKind.i64.wrap (T + 2) = T + 2 := by rw [IntKind.wrap_i64]; omega
 have HW := Lib.hid hW
 clear hW gA gB k0
 go_enter Tryz.func173, Tryz.ntmps173
 go_upto_region 1 with fail
 rw [← HW.out]
 refine wp_region_held_drew (S := fun w' => w'.cell? ⟨w.heap.size, 0, none⟩ = some (.int .i64 S) ∧ w'.cell? ⟨w.heap.size, 1, none⟩ = some (.int .i64 T)) (by kernel_rfl) ?_ (fun hHeld0 => ?_)
 ·(try dsimp only); exact ⟨(KS.out _ (by first | with_reducible exact k00 | ((repeat (first | with_reducible refine Kp.trans ?_ (Kp.drew _) | with_reducible refine Kp.trans ?_ (Kp.alloc _ _))); with_reducible exact k00))).1, (KS.out _ (by first | with_reducible exact k00 | ((repeat (first | with_reducible refine Kp.trans ?_ (Kp.drew _) | with_reducible refine Kp.trans ?_ (Kp.alloc _ _))); with_reducible exact k00))).2.1⟩
 refine tkv 0 wyequals0 ?_
 (try simp only [Act.put, wyequals0, List.setIfInBounds_toArray, List.set_cons_zero, List.set_cons_succ])
 refine tkv 1 wyequals1 ?_
 (try simp only [Act.put, wyequals1, List.setIfInBounds_toArray, List.set_cons_zero, List.set_cons_succ])
 refine tkv 3 wyequals3 ?_
 (try simp only [Act.put, wyequals3, List.setIfInBounds_toArray, List.set_cons_zero, List.set_cons_succ])
 refine tkv 4 wyequals4 ?_
 (try simp only [Act.put, wyequals4, List.setIfInBounds_toArray, List.set_cons_zero, List.set_cons_succ])
 refine tkE 2 wyequals2 rfl (by kernel_rfl) (fun K hK => ?_)
 go_simp
 (refine (just_any _ _).mono ?_; rintro e w1 ⟨rfl, kq1⟩; have kw1 : Kp W0 w1 := Kp.trans (show Kp W0 _ from (by first | with_reducible exact k00 | ((repeat (first | with_reducible refine Kp.trans ?_ (Kp.drew _) | with_reducible refine Kp.trans ?_ (Kp.alloc _ _))); with_reducible exact k00))) kq1; clear kq1)
 (try go_wp2_with fail)
 refine hK.out _ _ ?_ (fun hHeld1 => ?_)
 ·(try dsimp only); exact ⟨(KS.out _ (by first | with_reducible exact kw1 | ((repeat (first | with_reducible refine Kp.trans ?_ (Kp.drew _) | with_reducible refine Kp.trans ?_ (Kp.alloc _ _))); with_reducible exact kw1))).1, (KS.out _ (by first | with_reducible exact kw1 | ((repeat (first | with_reducible refine Kp.trans ?_ (Kp.drew _) | with_reducible refine Kp.trans ?_ (Kp.alloc _ _))); with_reducible exact kw1))).2.1⟩
 clear hK K hHeld0
 (try simp only [Act.put, wyequals2, List.setIfInBounds_toArray, List.set_cons_zero, List.set_cons_succ])
 refine tkE 5 wyequals5 rfl (by kernel_rfl) (fun K hK => ?_)
 go_simp
 (refine (just_any _ _).mono ?_; rintro e w2 ⟨rfl, kq1⟩; have kw2 : Kp W0 w2 := Kp.trans (show Kp W0 _ from (by first | with_reducible exact kw1 | ((repeat (first | with_reducible refine Kp.trans ?_ (Kp.drew _) | with_reducible refine Kp.trans ?_ (Kp.alloc _ _))); with_reducible exact kw1))) kq1; clear kq1)
 (try go_wp2_with fail)
 refine hK.out _ _ ?_ (fun hHeld2 => ?_)
 ·(try dsimp only); exact ⟨(KS.out _ (by first | with_reducible exact kw2 | ((repeat (first | with_reducible refine Kp.trans ?_ (Kp.drew _) | with_reducible refine Kp.trans ?_ (Kp.alloc _ _))); with_reducible exact kw2))).1, (KS.out _ (by first | with_reducible exact kw2 | ((repeat (first | with_reducible refine Kp.trans ?_ (Kp.drew _) | with_reducible refine Kp.trans ?_ (Kp.alloc _ _))); with_reducible exact kw2))).2.1⟩
 clear hK K hHeld1
 (try simp only [Act.put, wyequals5, List.setIfInBounds_toArray, List.set_cons_zero, List.set_cons_succ])
 refine tkv 6 wyequals6 ?_
 (try simp only [Act.put, wyequals6, List.setIfInBounds_toArray, List.set_cons_zero, List.set_cons_succ])
 refine tkE 7 wyequals7 rfl (by kernel_rfl) (fun K hK => ?_)
 (refine bx_store (W := w) rfl 145 (.tmp 2) (.tmp 9) rfl (w.heap.size + 1) [.int .i64 (S), .int .i64 (S), .int .i64 (T), .int .i64 (T)] #[.int .i64 0, .int .i64 0, .int .i64 0, .int .i64 0] (by simp [Act.eval, Act.put, wS1, wS2, wS3, wT1, wT2, wT3]) (by simp [Act.eval, Act.put, wS1, wS2, wS3, wT1, wT2, wT3]) (K0.out.trans (by first | with_reducible exact kw2 | ((repeat (first | with_reducible refine Kp.trans ?_ (Kp.drew _) | with_reducible refine Kp.trans ?_ (Kp.alloc _ _))); with_reducible exact kw2))) (by omega) (GB.out _ (by first | with_reducible exact kw2 | ((repeat (first | with_reducible refine Kp.trans ?_ (Kp.drew _) | with_reducible refine Kp.trans ?_ (Kp.alloc _ _))); with_reducible exact kw2))) (Nat.le_refl 4) (by kernel_rfl) (by kernel_rfl) (by simp [Value.oneCell']) ?_; intro F hF KF gF; have KFH := Lib.hid KF; obtain ⟨x0, x1, x2, x3⟩ := row4 gF; have qA : F.cell? ⟨w.heap.size, 0, none⟩ = some (.int .i64 S) := (by rw [hF]; have q := (KS.out _ (by first | with_reducible exact kw2 | ((repeat (first | with_reducible refine Kp.trans ?_ (Kp.drew _) | with_reducible refine Kp.trans ?_ (Kp.alloc _ _))); with_reducible exact kw2))).1; have n0 : w.heap.size ≠ w.heap.size + 1 := (by omega); simp only [World.cell?] at q ⊢; rw [bx_other n0]; exact q); have qB : F.cell? ⟨w.heap.size, 1, none⟩ = some (.int .i64 T) := (by rw [hF]; have q := (KS.out _ (by first | with_reducible exact kw2 | ((repeat (first | with_reducible refine Kp.trans ?_ (Kp.drew _) | with_reducible refine Kp.trans ?_ (Kp.alloc _ _))); with_reducible exact kw2))).2.1; have n0 : w.heap.size ≠ w.heap.size + 1 := (by omega); simp only [World.cell?] at q ⊢; rw [bx_other n0]; exact q); clear gF hF)
 (try go_wp2_with fail)
 refine hK.out _ _ ?_ (fun hHeld3 => ?_)
 ·(try dsimp only); exact ⟨qA, qB⟩
 clear hK K hHeld2
 (try simp only [Act.put, wyequals7, List.setIfInBounds_toArray, List.set_cons_zero, List.set_cons_succ])
 refine wpAnyH_done (by kernel_rfl) ?_ _
 go_wp2
 refine bodyPost_ret (v := .agg #[.int .i64 (S), .int .i64 (S), .int .i64 (T), .int .i64 (T)]) (by simp [results, Tryz.results173, go_sem, x0, x1, x2, x3]) rfl ⟨rfl, KFH.out⟩
abbrev wyfinishedBy0 : Oper := { dst := some 3, op := Go.Op.fieldAddr 146 (Go.Operand.tmp 1) 0, type := 0, pos := "box.go:64", after := #[], guard := none }
abbrev wyfinishedBy1 : Oper := { dst := some 4, op := Go.Op.load 3 (Go.Operand.tmp 3), type := 3, pos := "box.go:64", after := #[{ on := 0, ground := Go.Ground.data }], guard := none }
abbrev wyfinishedBy2 : Oper := { dst := some 5, op := Go.Op.binOp Go.BinOp.add 3 (Go.Operand.tmp 4) (Go.Operand.const (Go.Value.int Go.IntKind.i64 1)) 3, type := 3, pos := "box.go:64", after := #[{ on := 1, ground := Go.Ground.data }], guard := none }
abbrev wyfinishedBy3 : Oper := { dst := some 6, op := Go.Op.call { callee := Go.Callee.value (Go.Operand.func 223), args := #[Go.Operand.tmp 5], argTypes := #[3] }, type := 53, pos := "box.go:64", after := #[{ on := 2, ground := Go.Ground.data }], guard := none }
abbrev wyfinishedBy4 : Oper := { dst := some 7, op := Go.Op.fieldAddr 146 (Go.Operand.tmp 1) 1, type := 0, pos := "box.go:64", after := #[], guard := none }
abbrev wyfinishedBy5 : Oper := { dst := some 8, op := Go.Op.load 3 (Go.Operand.tmp 7), type := 3, pos := "box.go:64", after := #[{ on := 4, ground := Go.Ground.data }], guard := none }
abbrev wyfinishedBy6 : Oper := { dst := some 9, op := Go.Op.call { callee := Go.Callee.value (Go.Operand.func 225), args := #[Go.Operand.tmp 8], argTypes := #[3] }, type := 53, pos := "box.go:64", after := #[{ on := 5, ground := Go.Ground.data }, { on := 3, ground := Go.Ground.chain }], guard := none }
abbrev wyfinishedBy7 : Oper := { dst := some 10, op := Go.Op.build 145 #[(0, Go.Operand.tmp 6), (1, Go.Operand.tmp 9)], type := 145, pos := "box.go:64", after := #[{ on := 3, ground := Go.Ground.data }, { on := 6, ground := Go.Ground.data }], guard := none }
abbrev wyfinishedBy8 : Oper := { dst := none, op := Go.Op.store 145 (Go.Operand.tmp 2) (Go.Operand.tmp 10), type := 0, pos := "box.go:64", after := #[{ on := 7, ground := Go.Ground.data }, { on := 6, ground := Go.Ground.chain }, { on := 0, ground := Go.Ground.phase }, { on := 1, ground := Go.Ground.phase }, { on := 2, ground := Go.Ground.phase }, { on := 3, ground := Go.Ground.phase }, { on := 4, ground := Go.Ground.phase }, { on := 5, ground := Go.Ground.phase }, { on := 6, ground := Go.Ground.phase }, { on := 7, ground := Go.Ground.phase }], guard := none }
set_option maxHeartbeats 16000000 in
set_option maxRecDepth 100000 in
theorem finishedBy_way (S T : Int) (w : World) (h1 : 0 ≤ S) (h2 : S ≤ 4000000) (h3 : 0 ≤ T) (h4 : T ≤ 4000000) : Calls Tryz.prog 174 #[.agg #[.int .i64 S, .int .i64 T]] w fun e w' => e = .returned (.agg #[.int .i64 (S + 1), .int .i64 (3652424), .int .i64 (T), .int .i64 (T)]) ∧ Kp w w' := by
 obtain ⟨W0, hW⟩ : ∃ x, x = (w.alloc (.cells #[.int .i64 S, .int .i64 T] 146)).alloc (.cells #[.int .i64 0, .int .i64 0, .int .i64 0, .int .i64 0] 145) := ⟨_, rfl⟩
 have k0 : Kp w W0 := by rw [hW]; exact (Kp.alloc _ _).trans (Kp.alloc _ _)
 have gA : W0.heap[w.heap.size]? = some (.cells #[.int .i64 S, .int .i64 T] 146 (0, 0)) := by rw [hW]; exact heap_block (Kp.alloc _ _) (heap_at _ _ _ rfl)
 have gB : W0.heap[w.heap.size + 1]? = some (.cells #[.int .i64 0, .int .i64 0, .int .i64 0, .int .i64 0] 145 (0, 0)) := by rw [hW]; exact heap_at _ _ _ (by simp)
 have hz : W0.heap.size = w.heap.size + 2 := by rw [hW]; simp
 have K0 := Lib.hid k0
 have GB := Lib.hid (fun w1 (q : Kp W0 w1) => heap_block q gB)
 have KS := Lib.hid (fun w' (kq : Kp W0 w') => show w'.cell? ⟨w.heap.size, 0, none⟩ = some (.int .i64 S) ∧ w'.cell? ⟨w.heap.size, 1, none⟩ = some (.int .i64 T) ∧ Kp W0 w' from ⟨(row2 (heap_block kq gA)).1, (row2 (heap_block kq gA)).2, kq⟩)
 have k00 : Kp W0 W0 := Kp.refl _
 have wS1 : IntKind.i64.wrap (S + 1) = S + 1 := by rw [IntKind.wrap_i64]; omega
 have wS2 : IntKind.i64.wrap (S - 1) = S - 1 := by rw [IntKind.wrap_i64]; omega
 have wS3 : IntKind.i64.wrap (S - 2) = S - 2 := by rw [IntKind.wrap_i64]; omega
 have wT1 : IntKind.i64.wrap (T + 1) = T + 1 := by rw [IntKind.wrap_i64]; omega
 have wT2 : IntKind.i64.wrap (T - 1) = T - 1 := by rw [IntKind.wrap_i64]; omega
 have wT3 : IntKind.i64.wrap (T + 2) = T + 2 := by rw [IntKind.wrap_i64]; omega
 have HW := Lib.hid hW
 clear hW gA gB k0
 go_enter Tryz.func174, Tryz.ntmps174
 go_upto_region 1 with fail
 rw [← HW.out]
 refine wp_region_held_drew (S := fun w' => w'.cell? ⟨w.heap.size, 0, none⟩ = some (.int .i64 S) ∧ w'.cell? ⟨w.heap.size, 1, none⟩ = some (.int .i64 T)) (by kernel_rfl) ?_ (fun hHeld0 => ?_)
 ·(try dsimp only); exact ⟨(KS.out _ (by first | with_reducible exact k00 | ((repeat (first | with_reducible refine Kp.trans ?_ (Kp.drew _) | with_reducible refine Kp.trans ?_ (Kp.alloc _ _))); with_reducible exact k00))).1, (KS.out _ (by first | with_reducible exact k00 | ((repeat (first | with_reducible refine Kp.trans ?_ (Kp.drew _) | with_reducible refine Kp.trans ?_ (Kp.alloc _ _))); with_reducible exact k00))).2.1⟩
 refine tkv 0 wyfinishedBy0 ?_
 (try simp only [Act.put, wyfinishedBy0, List.setIfInBounds_toArray, List.set_cons_zero, List.set_cons_succ])
 refine tkv 1 wyfinishedBy1 ?_
 (try simp only [Act.put, wyfinishedBy1, List.setIfInBounds_toArray, List.set_cons_zero, List.set_cons_succ])
 refine tkv 2 wyfinishedBy2 ?_
 (try simp only [Act.put, wyfinishedBy2, List.setIfInBounds_toArray, List.set_cons_zero, List.set_cons_succ])
 refine tkv 4 wyfinishedBy4 ?_
 (try simp only [Act.put, wyfinishedBy4, List.setIfInBounds_toArray, List.set_cons_zero, List.set_cons_succ])
 refine tkv 5 wyfinishedBy5 ?_
 (try simp only [Act.put, wyfinishedBy5, List.setIfInBounds_toArray, List.set_cons_zero, List.set_cons_succ])
 refine tkE 3 wyfinishedBy3 rfl (by kernel_rfl) (fun K hK => ?_)
 go_simp
 (refine (from_any _ _).mono ?_; rintro e w1 ⟨rfl, kq1⟩; have kw1 : Kp W0 w1 := Kp.trans (show Kp W0 _ from (by first | with_reducible exact k00 | ((repeat (first | with_reducible refine Kp.trans ?_ (Kp.drew _) | with_reducible refine Kp.trans ?_ (Kp.alloc _ _))); with_reducible exact k00))) kq1; clear kq1)
 (try go_wp2_with fail)
 refine hK.out _ _ ?_ (fun hHeld1 => ?_)
 ·(try dsimp only); exact ⟨(KS.out _ (by first | with_reducible exact kw1 | ((repeat (first | with_reducible refine Kp.trans ?_ (Kp.drew _) | with_reducible refine Kp.trans ?_ (Kp.alloc _ _))); with_reducible exact kw1))).1, (KS.out _ (by first | with_reducible exact kw1 | ((repeat (first | with_reducible refine Kp.trans ?_ (Kp.drew _) | with_reducible refine Kp.trans ?_ (Kp.alloc _ _))); with_reducible exact kw1))).2.1⟩
 clear hK K hHeld0
 (try simp only [Act.put, wyfinishedBy3, List.setIfInBounds_toArray, List.set_cons_zero, List.set_cons_succ])
 refine tkE 6 wyfinishedBy6 rfl (by kernel_rfl) (fun K hK => ?_)
 go_simp
 (refine (just_any _ _).mono ?_; rintro e w2 ⟨rfl, kq1⟩; have kw2 : Kp W0 w2 := Kp.trans (show Kp W0 _ from (by first | with_reducible exact kw1 | ((repeat (first | with_reducible refine Kp.trans ?_ (Kp.drew _) | with_reducible refine Kp.trans ?_ (Kp.alloc _ _))); with_reducible exact kw1))) kq1; clear kq1)
 (try go_wp2_with fail)
 refine hK.out _ _ ?_ (fun hHeld2 => ?_)
 ·(try dsimp only); exact ⟨(KS.out _ (by first | with_reducible exact kw2 | ((repeat (first | with_reducible refine Kp.trans ?_ (Kp.drew _) | with_reducible refine Kp.trans ?_ (Kp.alloc _ _))); with_reducible exact kw2))).1, (KS.out _ (by first | with_reducible exact kw2 | ((repeat (first | with_reducible refine Kp.trans ?_ (Kp.drew _) | with_reducible refine Kp.trans ?_ (Kp.alloc _ _))); with_reducible exact kw2))).2.1⟩
 clear hK K hHeld1
 (try simp only [Act.put, wyfinishedBy6, List.setIfInBounds_toArray, List.set_cons_zero, List.set_cons_succ])
 refine tkv 7 wyfinishedBy7 ?_
 (try simp only [Act.put, wyfinishedBy7, List.setIfInBounds_toArray, List.set_cons_zero, List.set_cons_succ])
 refine tkE 8 wyfinishedBy8 rfl (by kernel_rfl) (fun K hK => ?_)
 (refine bx_store (W := w) rfl 145 (.tmp 2) (.tmp 10) rfl (w.heap.size + 1) [.int .i64 (S + 1), .int .i64 (3652424), .int .i64 (T), .int .i64 (T)] #[.int .i64 0, .int .i64 0, .int .i64 0, .int .i64 0] (by simp [Act.eval, Act.put, wS1, wS2, wS3, wT1, wT2, wT3]) (by simp [Act.eval, Act.put, wS1, wS2, wS3, wT1, wT2, wT3]) (K0.out.trans (by first | with_reducible exact kw2 | ((repeat (first | with_reducible refine Kp.trans ?_ (Kp.drew _) | with_reducible refine Kp.trans ?_ (Kp.alloc _ _))); with_reducible exact kw2))) (by omega) (GB.out _ (by first | with_reducible exact kw2 | ((repeat (first | with_reducible refine Kp.trans ?_ (Kp.drew _) | with_reducible refine Kp.trans ?_ (Kp.alloc _ _))); with_reducible exact kw2))) (Nat.le_refl 4) (by kernel_rfl) (by kernel_rfl) (by simp [Value.oneCell']) ?_; intro F hF KF gF; have KFH := Lib.hid KF; obtain ⟨x0, x1, x2, x3⟩ := row4 gF; have qA : F.cell? ⟨w.heap.size, 0, none⟩ = some (.int .i64 S) := (by rw [hF]; have q := (KS.out _ (by first | with_reducible exact kw2 | ((repeat (first | with_reducible refine Kp.trans ?_ (Kp.drew _) | with_reducible refine Kp.trans ?_ (Kp.alloc _ _))); with_reducible exact kw2))).1; have n0 : w.heap.size ≠ w.heap.size + 1 := (by omega); simp only [World.cell?] at q ⊢; rw [bx_other n0]; exact q); have qB : F.cell? ⟨w.heap.size, 1, none⟩ = some (.int .i64 T) := (by rw [hF]; have q := (KS.out _ (by first | with_reducible exact kw2 | ((repeat (first | with_reducible refine Kp.trans ?_ (Kp.drew _) | with_reducible refine Kp.trans ?_ (Kp.alloc _ _))); with_reducible exact kw2))).2.1; have n0 : w.heap.size ≠ w.heap.size + 1 := (by omega); simp only [World.cell?] at q ⊢; rw [bx_other n0]; exact q); clear gF hF)
 (try go_wp2_with fail)
 refine hK.out _ _ ?_ (fun hHeld3 => ?_)
 ·(try dsimp only); exact ⟨qA, qB⟩
 clear hK K hHeld2
 (try simp only [Act.put, wyfinishedBy8, List.setIfInBounds_toArray, List.set_cons_zero, List.set_cons_succ])
 refine wpAnyH_done (by kernel_rfl) ?_ _
 go_wp2
 refine bodyPost_ret (v := .agg #[.int .i64 (S + 1), .int .i64 (3652424), .int .i64 (T), .int .i64 (T)]) (by simp [results, Tryz.results174, go_sem, x0, x1, x2, x3]) rfl ⟨rfl, KFH.out⟩
abbrev wycontains0 : Oper := { dst := some 3, op := Go.Op.fieldAddr 146 (Go.Operand.tmp 1) 0, type := 0, pos := "box.go:68", after := #[], guard := none }
abbrev wycontains1 : Oper := { dst := some 4, op := Go.Op.load 3 (Go.Operand.tmp 3), type := 3, pos := "box.go:68", after := #[{ on := 0, ground := Go.Ground.data }], guard := none }
abbrev wycontains2 : Oper := { dst := some 5, op := Go.Op.binOp Go.BinOp.add 3 (Go.Operand.tmp 4) (Go.Operand.const (Go.Value.int Go.IntKind.i64 1)) 3, type := 3, pos := "box.go:68", after := #[{ on := 1, ground := Go.Ground.data }], guard := none }
abbrev wycontains3 : Oper := { dst := some 6, op := Go.Op.call { callee := Go.Callee.value (Go.Operand.func 223), args := #[Go.Operand.tmp 5], argTypes := #[3] }, type := 53, pos := "box.go:68", after := #[{ on := 2, ground := Go.Ground.data }], guard := none }
abbrev wycontains4 : Oper := { dst := some 7, op := Go.Op.fieldAddr 146 (Go.Operand.tmp 1) 1, type := 0, pos := "box.go:68", after := #[], guard := none }
abbrev wycontains5 : Oper := { dst := some 8, op := Go.Op.load 3 (Go.Operand.tmp 7), type := 3, pos := "box.go:68", after := #[{ on := 4, ground := Go.Ground.data }], guard := none }
abbrev wycontains6 : Oper := { dst := some 9, op := Go.Op.binOp Go.BinOp.sub 3 (Go.Operand.tmp 8) (Go.Operand.const (Go.Value.int Go.IntKind.i64 1)) 3, type := 3, pos := "box.go:68", after := #[{ on := 5, ground := Go.Ground.data }], guard := none }
abbrev wycontains7 : Oper := { dst := some 10, op := Go.Op.call { callee := Go.Callee.value (Go.Operand.func 226), args := #[Go.Operand.tmp 9], argTypes := #[3] }, type := 53, pos := "box.go:68", after := #[{ on := 6, ground := Go.Ground.data }, { on := 3, ground := Go.Ground.chain }], guard := none }
abbrev wycontains8 : Oper := { dst := some 11, op := Go.Op.build 145 #[(0, Go.Operand.tmp 6), (1, Go.Operand.tmp 10)], type := 145, pos := "box.go:68", after := #[{ on := 3, ground := Go.Ground.data }, { on := 7, ground := Go.Ground.data }], guard := none }
abbrev wycontains9 : Oper := { dst := none, op := Go.Op.store 145 (Go.Operand.tmp 2) (Go.Operand.tmp 11), type := 0, pos := "box.go:68", after := #[{ on := 8, ground := Go.Ground.data }, { on := 7, ground := Go.Ground.chain }, { on := 0, ground := Go.Ground.phase }, { on := 1, ground := Go.Ground.phase }, { on := 2, ground := Go.Ground.phase }, { on := 3, ground := Go.Ground.phase }, { on := 4, ground := Go.Ground.phase }, { on := 5, ground := Go.Ground.phase }, { on := 6, ground := Go.Ground.phase }, { on := 7, ground := Go.Ground.phase }, { on := 8, ground := Go.Ground.phase }], guard := none }
set_option maxHeartbeats 16000000 in
set_option maxRecDepth 100000 in
theorem contains_way (S T : Int) (w : World) (h1 : 0 ≤ S) (h2 : S ≤ 4000000) (h3 : 0 ≤ T) (h4 : T ≤ 4000000) : Calls Tryz.prog 175 #[.agg #[.int .i64 S, .int .i64 T]] w fun e w' => e = .returned (.agg #[.int .i64 (S + 1), .int .i64 (3652424), .int .i64 (0), .int .i64 (T - 1)]) ∧ Kp w w' := by
 obtain ⟨W0, hW⟩ : ∃ x, x = (w.alloc (.cells #[.int .i64 S, .int .i64 T] 146)).alloc (.cells #[.int .i64 0, .int .i64 0, .int .i64 0, .int .i64 0] 145) := ⟨_, rfl⟩
 have k0 : Kp w W0 := by rw [hW]; exact (Kp.alloc _ _).trans (Kp.alloc _ _)
 have gA : W0.heap[w.heap.size]? = some (.cells #[.int .i64 S, .int .i64 T] 146 (0, 0)) := by rw [hW]; exact heap_block (Kp.alloc _ _) (heap_at _ _ _ rfl)
 have gB : W0.heap[w.heap.size + 1]? = some (.cells #[.int .i64 0, .int .i64 0, .int .i64 0, .int .i64 0] 145 (0, 0)) := by rw [hW]; exact heap_at _ _ _ (by simp)
 have hz : W0.heap.size = w.heap.size + 2 := by rw [hW]; simp
 have K0 := Lib.hid k0
 have GB := Lib.hid (fun w1 (q : Kp W0 w1) => heap_block q gB)
 have KS := Lib.hid (fun w' (kq : Kp W0 w') => show w'.cell? ⟨w.heap.size, 0, none⟩ = some (.int .i64 S) ∧ w'.cell? ⟨w.heap.size, 1, none⟩ = some (.int .i64 T) ∧ Kp W0 w' from ⟨(row2 (heap_block kq gA)).1, (row2 (heap_block kq gA)).2, kq⟩)
 have k00 : Kp W0 W0 := Kp.refl _
 have wS1 : IntKind.i64.wrap (S + 1) = S + 1 := by rw [IntKind.wrap_i64]; omega
 have wS2 : IntKind.i64.wrap (S - 1) = S - 1 := by rw [IntKind.wrap_i64]; omega
 have wS3 : IntKind.i64.wrap (S - 2) = S - 2 := by rw [IntKind.wrap_i64]; omega
 have wT1 : IntKind.i64.wrap (T + 1) = T + 1 := by rw [IntKind.wrap_i64]; omega
 have wT2 : IntKind.i64.wrap (T - 1) = T - 1 := by rw [IntKind.wrap_i64]; omega
 have wT3 : IntKind.i64.wrap (T + 2) = T + 2 := by rw [IntKind.wrap_i64]; omega
 have HW := Lib.hid hW
 clear hW gA gB k0
 go_enter Tryz.func175, Tryz.ntmps175
 go_upto_region 1 with fail
 rw [← HW.out]
 refine wp_region_held_drew (S := fun w' => w'.cell? ⟨w.heap.size, 0, none⟩ = some (.int .i64 S) ∧ w'.cell? ⟨w.heap.size, 1, none⟩ = some (.int .i64 T)) (by kernel_rfl) ?_ (fun hHeld0 => ?_)
 ·(try dsimp only); exact ⟨(KS.out _ (by first | with_reducible exact k00 | ((repeat (first | with_reducible refine Kp.trans ?_ (Kp.drew _) | with_reducible refine Kp.trans ?_ (Kp.alloc _ _))); with_reducible exact k00))).1, (KS.out _ (by first | with_reducible exact k00 | ((repeat (first | with_reducible refine Kp.trans ?_ (Kp.drew _) | with_reducible refine Kp.trans ?_ (Kp.alloc _ _))); with_reducible exact k00))).2.1⟩
 refine tkv 0 wycontains0 ?_
 (try simp only [Act.put, wycontains0, List.setIfInBounds_toArray, List.set_cons_zero, List.set_cons_succ])
 refine tkv 1 wycontains1 ?_
 (try simp only [Act.put, wycontains1, List.setIfInBounds_toArray, List.set_cons_zero, List.set_cons_succ])
 refine tkv 2 wycontains2 ?_
 (try simp only [Act.put, wycontains2, List.setIfInBounds_toArray, List.set_cons_zero, List.set_cons_succ])
 refine tkv 4 wycontains4 ?_
 (try simp only [Act.put, wycontains4, List.setIfInBounds_toArray, List.set_cons_zero, List.set_cons_succ])
 refine tkv 5 wycontains5 ?_
 (try simp only [Act.put, wycontains5, List.setIfInBounds_toArray, List.set_cons_zero, List.set_cons_succ])
 refine tkv 6 wycontains6 ?_
 (try simp only [Act.put, wycontains6, List.setIfInBounds_toArray, List.set_cons_zero, List.set_cons_succ])
 refine tkE 3 wycontains3 rfl (by kernel_rfl) (fun K hK => ?_)
 go_simp
 (refine (from_any _ _).mono ?_; rintro e w1 ⟨rfl, kq1⟩; have kw1 : Kp W0 w1 := Kp.trans (show Kp W0 _ from (by first | with_reducible exact k00 | ((repeat (first | with_reducible refine Kp.trans ?_ (Kp.drew _) | with_reducible refine Kp.trans ?_ (Kp.alloc _ _))); with_reducible exact k00))) kq1; clear kq1)
 (try go_wp2_with fail)
 refine hK.out _ _ ?_ (fun hHeld1 => ?_)
 ·(try dsimp only); exact ⟨(KS.out _ (by first | with_reducible exact kw1 | ((repeat (first | with_reducible refine Kp.trans ?_ (Kp.drew _) | with_reducible refine Kp.trans ?_ (Kp.alloc _ _))); with_reducible exact kw1))).1, (KS.out _ (by first | with_reducible exact kw1 | ((repeat (first | with_reducible refine Kp.trans ?_ (Kp.drew _) | with_reducible refine Kp.trans ?_ (Kp.alloc _ _))); with_reducible exact kw1))).2.1⟩
 clear hK K hHeld0
 (try simp only [Act.put, wycontains3, List.setIfInBounds_toArray, List.set_cons_zero, List.set_cons_succ])
 refine tkE 7 wycontains7 rfl (by kernel_rfl) (fun K hK => ?_)
 go_simp
 (refine (upTo_any _ _).mono ?_; rintro e w2 ⟨rfl, kq1⟩; have kw2 : Kp W0 w2 := Kp.trans (show Kp W0 _ from (by first | with_reducible exact kw1 | ((repeat (first | with_reducible refine Kp.trans ?_ (Kp.drew _) | with_reducible refine Kp.trans ?_ (Kp.alloc _ _))); with_reducible exact kw1))) kq1; clear kq1)
 (try go_wp2_with fail)
 refine hK.out _ _ ?_ (fun hHeld2 => ?_)
 ·(try dsimp only); exact ⟨(KS.out _ (by first | with_reducible exact kw2 | ((repeat (first | with_reducible refine Kp.trans ?_ (Kp.drew _) | with_reducible refine Kp.trans ?_ (Kp.alloc _ _))); with_reducible exact kw2))).1, (KS.out _ (by first | with_reducible exact kw2 | ((repeat (first | with_reducible refine Kp.trans ?_ (Kp.drew _) | with_reducible refine Kp.trans ?_ (Kp.alloc _ _))); with_reducible exact kw2))).2.1⟩
 clear hK K hHeld1
 (try simp only [Act.put, wycontains7, List.setIfInBounds_toArray, List.set_cons_zero, List.set_cons_succ])
 refine tkv 8 wycontains8 ?_
 (try simp only [Act.put, wycontains8, List.setIfInBounds_toArray, List.set_cons_zero, List.set_cons_succ])
 refine tkE 9 wycontains9 rfl (by kernel_rfl) (fun K hK => ?_)
 (refine bx_store (W := w) rfl 145 (.tmp 2) (.tmp 11) rfl (w.heap.size + 1) [.int .i64 (S + 1), .int .i64 (3652424), .int .i64 (0), .int .i64 (T - 1)] #[.int .i64 0, .int .i64 0, .int .i64 0, .int .i64 0] (by simp [Act.eval, Act.put, wS1, wS2, wS3, wT1, wT2, wT3]) (by simp [Act.eval, Act.put, wS1, wS2, wS3, wT1, wT2, wT3]) (K0.out.trans (by first | with_reducible exact kw2 | ((repeat (first | with_reducible refine Kp.trans ?_ (Kp.drew _) | with_reducible refine Kp.trans ?_ (Kp.alloc _ _))); with_reducible exact kw2))) (by omega) (GB.out _ (by first | with_reducible exact kw2 | ((repeat (first | with_reducible refine Kp.trans ?_ (Kp.drew _) | with_reducible refine Kp.trans ?_ (Kp.alloc _ _))); with_reducible exact kw2))) (Nat.le_refl 4) (by kernel_rfl) (by kernel_rfl) (by simp [Value.oneCell']) ?_; intro F hF KF gF; have KFH := Lib.hid KF; obtain ⟨x0, x1, x2, x3⟩ := row4 gF; have qA : F.cell? ⟨w.heap.size, 0, none⟩ = some (.int .i64 S) := (by rw [hF]; have q := (KS.out _ (by first | with_reducible exact kw2 | ((repeat (first | with_reducible refine Kp.trans ?_ (Kp.drew _) | with_reducible refine Kp.trans ?_ (Kp.alloc _ _))); with_reducible exact kw2))).1; have n0 : w.heap.size ≠ w.heap.size + 1 := (by omega); simp only [World.cell?] at q ⊢; rw [bx_other n0]; exact q); have qB : F.cell? ⟨w.heap.size, 1, none⟩ = some (.int .i64 T) := (by rw [hF]; have q := (KS.out _ (by first | with_reducible exact kw2 | ((repeat (first | with_reducible refine Kp.trans ?_ (Kp.drew _) | with_reducible refine Kp.trans ?_ (Kp.alloc _ _))); with_reducible exact kw2))).2.1; have n0 : w.heap.size ≠ w.heap.size + 1 := (by omega); simp only [World.cell?] at q ⊢; rw [bx_other n0]; exact q); clear gF hF)
 (try go_wp2_with fail)
 refine hK.out _ _ ?_ (fun hHeld3 => ?_)
 ·(try dsimp only); exact ⟨qA, qB⟩
 clear hK K hHeld2
 (try simp only [Act.put, wycontains9, List.setIfInBounds_toArray, List.set_cons_zero, List.set_cons_succ])
 refine wpAnyH_done (by kernel_rfl) ?_ _
 go_wp2
 refine bodyPost_ret (v := .agg #[.int .i64 (S + 1), .int .i64 (3652424), .int .i64 (0), .int .i64 (T - 1)]) (by simp [results, Tryz.results175, go_sem, x0, x1, x2, x3]) rfl ⟨rfl, KFH.out⟩
abbrev wystartedBy0 : Oper := { dst := some 3, op := Go.Op.fieldAddr 146 (Go.Operand.tmp 1) 0, type := 0, pos := "box.go:72", after := #[], guard := none }
abbrev wystartedBy1 : Oper := { dst := some 4, op := Go.Op.load 3 (Go.Operand.tmp 3), type := 3, pos := "box.go:72", after := #[{ on := 0, ground := Go.Ground.data }], guard := none }
abbrev wystartedBy2 : Oper := { dst := some 5, op := Go.Op.call { callee := Go.Callee.value (Go.Operand.func 225), args := #[Go.Operand.tmp 4], argTypes := #[3] }, type := 53, pos := "box.go:72", after := #[{ on := 1, ground := Go.Ground.data }], guard := none }
abbrev wystartedBy3 : Oper := { dst := some 6, op := Go.Op.fieldAddr 146 (Go.Operand.tmp 1) 1, type := 0, pos := "box.go:72", after := #[], guard := none }
abbrev wystartedBy4 : Oper := { dst := some 7, op := Go.Op.load 3 (Go.Operand.tmp 6), type := 3, pos := "box.go:72", after := #[{ on := 3, ground := Go.Ground.data }], guard := none }
abbrev wystartedBy5 : Oper := { dst := some 8, op := Go.Op.binOp Go.BinOp.sub 3 (Go.Operand.tmp 7) (Go.Operand.const (Go.Value.int Go.IntKind.i64 1)) 3, type := 3, pos := "box.go:72", after := #[{ on := 4, ground := Go.Ground.data }], guard := none }
abbrev wystartedBy6 : Oper := { dst := some 9, op := Go.Op.call { callee := Go.Callee.value (Go.Operand.func 226), args := #[Go.Operand.tmp 8], argTypes := #[3] }, type := 53, pos := "box.go:72", after := #[{ on := 5, ground := Go.Ground.data }, { on := 2, ground := Go.Ground.chain }], guard := none }
abbrev wystartedBy7 : Oper := { dst := some 10, op := Go.Op.build 145 #[(0, Go.Operand.tmp 5), (1, Go.Operand.tmp 9)], type := 145, pos := "box.go:72", after := #[{ on := 2, ground := Go.Ground.data }, { on := 6, ground := Go.Ground.data }], guard := none }
abbrev wystartedBy8 : Oper := { dst := none, op := Go.Op.store 145 (Go.Operand.tmp 2) (Go.Operand.tmp 10), type := 0, pos := "box.go:72", after := #[{ on := 7, ground := Go.Ground.data }, { on := 6, ground := Go.Ground.chain }, { on := 0, ground := Go.Ground.phase }, { on := 1, ground := Go.Ground.phase }, { on := 2, ground := Go.Ground.phase }, { on := 3, ground := Go.Ground.phase }, { on := 4, ground := Go.Ground.phase }, { on := 5, ground := Go.Ground.phase }, { on := 6, ground := Go.Ground.phase }, { on := 7, ground := Go.Ground.phase }], guard := none }
set_option maxHeartbeats 16000000 in
set_option maxRecDepth 100000 in
theorem startedBy_way (S T : Int) (w : World) (h1 : 0 ≤ S) (h2 : S ≤ 4000000) (h3 : 0 ≤ T) (h4 : T ≤ 4000000) : Calls Tryz.prog 176 #[.agg #[.int .i64 S, .int .i64 T]] w fun e w' => e = .returned (.agg #[.int .i64 (S), .int .i64 (S), .int .i64 (0), .int .i64 (T - 1)]) ∧ Kp w w' := by
 obtain ⟨W0, hW⟩ : ∃ x, x = (w.alloc (.cells #[.int .i64 S, .int .i64 T] 146)).alloc (.cells #[.int .i64 0, .int .i64 0, .int .i64 0, .int .i64 0] 145) := ⟨_, rfl⟩
 have k0 : Kp w W0 := by rw [hW]; exact (Kp.alloc _ _).trans (Kp.alloc _ _)
 have gA : W0.heap[w.heap.size]? = some (.cells #[.int .i64 S, .int .i64 T] 146 (0, 0)) := by rw [hW]; exact heap_block (Kp.alloc _ _) (heap_at _ _ _ rfl)
 have gB : W0.heap[w.heap.size + 1]? = some (.cells #[.int .i64 0, .int .i64 0, .int .i64 0, .int .i64 0] 145 (0, 0)) := by rw [hW]; exact heap_at _ _ _ (by simp)
 have hz : W0.heap.size = w.heap.size + 2 := by rw [hW]; simp
 have K0 := Lib.hid k0
 have GB := Lib.hid (fun w1 (q : Kp W0 w1) => heap_block q gB)
 have KS := Lib.hid (fun w' (kq : Kp W0 w') => show w'.cell? ⟨w.heap.size, 0, none⟩ = some (.int .i64 S) ∧ w'.cell? ⟨w.heap.size, 1, none⟩ = some (.int .i64 T) ∧ Kp W0 w' from ⟨(row2 (heap_block kq gA)).1, (row2 (heap_block kq gA)).2, kq⟩)
 have k00 : Kp W0 W0 := Kp.refl _
 have wS1 : IntKind.i64.wrap (S + 1) = S + 1 := by rw [IntKind.wrap_i64]; omega
 have wS2 : IntKind.i64.wrap (S - 1) = S - 1 := by rw [IntKind.wrap_i64]; omega
 have wS3 : IntKind.i64.wrap (S - 2) = S - 2 := by rw [IntKind.wrap_i64]; omega
 have wT1 : IntKind.i64.wrap (T + 1) = T + 1 := by rw [IntKind.wrap_i64]; omega
 have wT2 : IntKind.i64.wrap (T - 1) = T - 1 := by rw [IntKind.wrap_i64]; omega
 have wT3 : IntKind.i64.wrap (T + 2) = T + 2 := by rw [IntKind.wrap_i64]; omega
 have HW := Lib.hid hW
 clear hW gA gB k0
 go_enter Tryz.func176, Tryz.ntmps176
 go_upto_region 1 with fail
 rw [← HW.out]
 refine wp_region_held_drew (S := fun w' => w'.cell? ⟨w.heap.size, 0, none⟩ = some (.int .i64 S) ∧ w'.cell? ⟨w.heap.size, 1, none⟩ = some (.int .i64 T)) (by kernel_rfl) ?_ (fun hHeld0 => ?_)
 ·(try dsimp only); exact ⟨(KS.out _ (by first | with_reducible exact k00 | ((repeat (first | with_reducible refine Kp.trans ?_ (Kp.drew _) | with_reducible refine Kp.trans ?_ (Kp.alloc _ _))); with_reducible exact k00))).1, (KS.out _ (by first | with_reducible exact k00 | ((repeat (first | with_reducible refine Kp.trans ?_ (Kp.drew _) | with_reducible refine Kp.trans ?_ (Kp.alloc _ _))); with_reducible exact k00))).2.1⟩
 refine tkv 0 wystartedBy0 ?_
 (try simp only [Act.put, wystartedBy0, List.setIfInBounds_toArray, List.set_cons_zero, List.set_cons_succ])
 refine tkv 1 wystartedBy1 ?_
 (try simp only [Act.put, wystartedBy1, List.setIfInBounds_toArray, List.set_cons_zero, List.set_cons_succ])
 refine tkv 3 wystartedBy3 ?_
 (try simp only [Act.put, wystartedBy3, List.setIfInBounds_toArray, List.set_cons_zero, List.set_cons_succ])
 refine tkv 4 wystartedBy4 ?_
 (try simp only [Act.put, wystartedBy4, List.setIfInBounds_toArray, List.set_cons_zero, List.set_cons_succ])
 refine tkv 5 wystartedBy5 ?_
 (try simp only [Act.put, wystartedBy5, List.setIfInBounds_toArray, List.set_cons_zero, List.set_cons_succ])
 refine tkE 2 wystartedBy2 rfl (by kernel_rfl) (fun K hK => ?_)
 go_simp
 (refine (just_any _ _).mono ?_; rintro e w1 ⟨rfl, kq1⟩; have kw1 : Kp W0 w1 := Kp.trans (show Kp W0 _ from (by first | with_reducible exact k00 | ((repeat (first | with_reducible refine Kp.trans ?_ (Kp.drew _) | with_reducible refine Kp.trans ?_ (Kp.alloc _ _))); with_reducible exact k00))) kq1; clear kq1)
 (try go_wp2_with fail)
 refine hK.out _ _ ?_ (fun hHeld1 => ?_)
 ·(try dsimp only); exact ⟨(KS.out _ (by first | with_reducible exact kw1 | ((repeat (first | with_reducible refine Kp.trans ?_ (Kp.drew _) | with_reducible refine Kp.trans ?_ (Kp.alloc _ _))); with_reducible exact kw1))).1, (KS.out _ (by first | with_reducible exact kw1 | ((repeat (first | with_reducible refine Kp.trans ?_ (Kp.drew _) | with_reducible refine Kp.trans ?_ (Kp.alloc _ _))); with_reducible exact kw1))).2.1⟩
 clear hK K hHeld0
 (try simp only [Act.put, wystartedBy2, List.setIfInBounds_toArray, List.set_cons_zero, List.set_cons_succ])
 refine tkE 6 wystartedBy6 rfl (by kernel_rfl) (fun K hK => ?_)
 go_simp
 (refine (upTo_any _ _).mono ?_; rintro e w2 ⟨rfl, kq1⟩; have kw2 : Kp W0 w2 := Kp.trans (show Kp W0 _ from (by first | with_reducible exact kw1 | ((repeat (first | with_reducible refine Kp.trans ?_ (Kp.drew _) | with_reducible refine Kp.trans ?_ (Kp.alloc _ _))); with_reducible exact kw1))) kq1; clear kq1)
 (try go_wp2_with fail)
 refine hK.out _ _ ?_ (fun hHeld2 => ?_)
 ·(try dsimp only); exact ⟨(KS.out _ (by first | with_reducible exact kw2 | ((repeat (first | with_reducible refine Kp.trans ?_ (Kp.drew _) | with_reducible refine Kp.trans ?_ (Kp.alloc _ _))); with_reducible exact kw2))).1, (KS.out _ (by first | with_reducible exact kw2 | ((repeat (first | with_reducible refine Kp.trans ?_ (Kp.drew _) | with_reducible refine Kp.trans ?_ (Kp.alloc _ _))); with_reducible exact kw2))).2.1⟩
 clear hK K hHeld1
 (try simp only [Act.put, wystartedBy6, List.setIfInBounds_toArray, List.set_cons_zero, List.set_cons_succ])
 refine tkv 7 wystartedBy7 ?_
 (try simp only [Act.put, wystartedBy7, List.setIfInBounds_toArray, List.set_cons_zero, List.set_cons_succ])
 refine tkE 8 wystartedBy8 rfl (by kernel_rfl) (fun K hK => ?_)
 (refine bx_store (W := w) rfl 145 (.tmp 2) (.tmp 10) rfl (w.heap.size + 1) [.int .i64 (S), .int .i64 (S), .int .i64 (0), .int .i64 (T - 1)] #[.int .i64 0, .int .i64 0, .int .i64 0, .int .i64 0] (by simp [Act.eval, Act.put, wS1, wS2, wS3, wT1, wT2, wT3]) (by simp [Act.eval, Act.put, wS1, wS2, wS3, wT1, wT2, wT3]) (K0.out.trans (by first | with_reducible exact kw2 | ((repeat (first | with_reducible refine Kp.trans ?_ (Kp.drew _) | with_reducible refine Kp.trans ?_ (Kp.alloc _ _))); with_reducible exact kw2))) (by omega) (GB.out _ (by first | with_reducible exact kw2 | ((repeat (first | with_reducible refine Kp.trans ?_ (Kp.drew _) | with_reducible refine Kp.trans ?_ (Kp.alloc _ _))); with_reducible exact kw2))) (Nat.le_refl 4) (by kernel_rfl) (by kernel_rfl) (by simp [Value.oneCell']) ?_; intro F hF KF gF; have KFH := Lib.hid KF; obtain ⟨x0, x1, x2, x3⟩ := row4 gF; have qA : F.cell? ⟨w.heap.size, 0, none⟩ = some (.int .i64 S) := (by rw [hF]; have q := (KS.out _ (by first | with_reducible exact kw2 | ((repeat (first | with_reducible refine Kp.trans ?_ (Kp.drew _) | with_reducible refine Kp.trans ?_ (Kp.alloc _ _))); with_reducible exact kw2))).1; have n0 : w.heap.size ≠ w.heap.size + 1 := (by omega); simp only [World.cell?] at q ⊢; rw [bx_other n0]; exact q); have qB : F.cell? ⟨w.heap.size, 1, none⟩ = some (.int .i64 T) := (by rw [hF]; have q := (KS.out _ (by first | with_reducible exact kw2 | ((repeat (first | with_reducible refine Kp.trans ?_ (Kp.drew _) | with_reducible refine Kp.trans ?_ (Kp.alloc _ _))); with_reducible exact kw2))).2.1; have n0 : w.heap.size ≠ w.heap.size + 1 := (by omega); simp only [World.cell?] at q ⊢; rw [bx_other n0]; exact q); clear gF hF)
 (try go_wp2_with fail)
 refine hK.out _ _ ?_ (fun hHeld3 => ?_)
 ·(try dsimp only); exact ⟨qA, qB⟩
 clear hK K hHeld2
 (try simp only [Act.put, wystartedBy8, List.setIfInBounds_toArray, List.set_cons_zero, List.set_cons_succ])
 refine wpAnyH_done (by kernel_rfl) ?_ _
 go_wp2
 refine bodyPost_ret (v := .agg #[.int .i64 (S), .int .i64 (S), .int .i64 (0), .int .i64 (T - 1)]) (by simp [results, Tryz.results176, go_sem, x0, x1, x2, x3]) rfl ⟨rfl, KFH.out⟩
abbrev wyoverlappedBy0 : Oper := { dst := some 3, op := Go.Op.fieldAddr 146 (Go.Operand.tmp 1) 0, type := 0, pos := "box.go:76", after := #[], guard := none }
abbrev wyoverlappedBy1 : Oper := { dst := some 4, op := Go.Op.load 3 (Go.Operand.tmp 3), type := 3, pos := "box.go:76", after := #[{ on := 0, ground := Go.Ground.data }], guard := none }
abbrev wyoverlappedBy2 : Oper := { dst := some 5, op := Go.Op.binOp Go.BinOp.sub 3 (Go.Operand.tmp 4) (Go.Operand.const (Go.Value.int Go.IntKind.i64 1)) 3, type := 3, pos := "box.go:76", after := #[{ on := 1, ground := Go.Ground.data }], guard := none }
abbrev wyoverlappedBy3 : Oper := { dst := some 6, op := Go.Op.call { callee := Go.Callee.value (Go.Operand.func 226), args := #[Go.Operand.tmp 5], argTypes := #[3] }, type := 53, pos := "box.go:76", after := #[{ on := 2, ground := Go.Ground.data }], guard := none }
abbrev wyoverlappedBy4 : Oper := { dst := some 7, op := Go.Op.fieldAddr 146 (Go.Operand.tmp 1) 0, type := 0, pos := "box.go:76", after := #[], guard := none }
abbrev wyoverlappedBy5 : Oper := { dst := some 8, op := Go.Op.load 3 (Go.Operand.tmp 7), type := 3, pos := "box.go:76", after := #[{ on := 4, ground := Go.Ground.data }], guard := none }
abbrev wyoverlappedBy6 : Oper := { dst := some 9, op := Go.Op.fieldAddr 146 (Go.Operand.tmp 1) 1, type := 0, pos := "box.go:76", after := #[], guard := none }
abbrev wyoverlappedBy7 : Oper := { dst := some 10, op := Go.Op.load 3 (Go.Operand.tmp 9), type := 3, pos := "box.go:76", after := #[{ on := 6, ground := Go.Ground.data }], guard := none }
abbrev wyoverlappedBy8 : Oper := { dst := some 11, op := Go.Op.binOp Go.BinOp.sub 3 (Go.Operand.tmp 10) (Go.Operand.const (Go.Value.int Go.IntKind.i64 1)) 3, type := 3, pos := "box.go:76", after := #[{ on := 7, ground := Go.Ground.data }], guard := none }
abbrev wyoverlappedBy9 : Oper := { dst := some 12, op := Go.Op.build 53 #[(0, Go.Operand.tmp 8), (1, Go.Operand.tmp 11)], type := 53, pos := "box.go:76", after := #[{ on := 5, ground := Go.Ground.data }, { on := 8, ground := Go.Ground.data }], guard := none }
abbrev wyoverlappedBy10 : Oper := { dst := some 13, op := Go.Op.build 145 #[(0, Go.Operand.tmp 6), (1, Go.Operand.tmp 12)], type := 145, pos := "box.go:76", after := #[{ on := 3, ground := Go.Ground.data }, { on := 9, ground := Go.Ground.data }], guard := none }
abbrev wyoverlappedBy11 : Oper := { dst := none, op := Go.Op.store 145 (Go.Operand.tmp 2) (Go.Operand.tmp 13), type := 0, pos := "box.go:76", after := #[{ on := 10, ground := Go.Ground.data }, { on := 3, ground := Go.Ground.chain }, { on := 0, ground := Go.Ground.phase }, { on := 1, ground := Go.Ground.phase }, { on := 2, ground := Go.Ground.phase }, { on := 3, ground := Go.Ground.phase }, { on := 4, ground := Go.Ground.phase }, { on := 5, ground := Go.Ground.phase }, { on := 6, ground := Go.Ground.phase }, { on := 7, ground := Go.Ground.phase }, { on := 8, ground := Go.Ground.phase }, { on := 9, ground := Go.Ground.phase }, { on := 10, ground := Go.Ground.phase }], guard := none }
set_option maxHeartbeats 16000000 in
set_option maxRecDepth 100000 in
theorem overlappedBy_way (S T : Int) (w : World) (h1 : 0 ≤ S) (h2 : S ≤ 4000000) (h3 : 0 ≤ T) (h4 : T ≤ 4000000) : Calls Tryz.prog 177 #[.agg #[.int .i64 S, .int .i64 T]] w fun e w' => e = .returned (.agg #[.int .i64 (0), .int .i64 (S - 1), .int .i64 (S), .int .i64 (T - 1)]) ∧ Kp w w' := by
 obtain ⟨W0, hW⟩ : ∃ x, x = (w.alloc (.cells #[.int .i64 S, .int .i64 T] 146)).alloc (.cells #[.int .i64 0, .int .i64 0, .int .i64 0, .int .i64 0] 145) := ⟨_, rfl⟩
 have k0 : Kp w W0 := by rw [hW]; exact (Kp.alloc _ _).trans (Kp.alloc _ _)
 have gA : W0.heap[w.heap.size]? = some (.cells #[.int .i64 S, .int .i64 T] 146 (0, 0)) := by rw [hW]; exact heap_block (Kp.alloc _ _) (heap_at _ _ _ rfl)
 have gB : W0.heap[w.heap.size + 1]? = some (.cells #[.int .i64 0, .int .i64 0, .int .i64 0, .int .i64 0] 145 (0, 0)) := by rw [hW]; exact heap_at _ _ _ (by simp)
 have hz : W0.heap.size = w.heap.size + 2 := by rw [hW]; simp
 have K0 := Lib.hid k0
 have GB := Lib.hid (fun w1 (q : Kp W0 w1) => heap_block q gB)
 have KS := Lib.hid (fun w' (kq : Kp W0 w') => show w'.cell? ⟨w.heap.size, 0, none⟩ = some (.int .i64 S) ∧ w'.cell? ⟨w.heap.size, 1, none⟩ = some (.int .i64 T) ∧ Kp W0 w' from ⟨(row2 (heap_block kq gA)).1, (row2 (heap_block kq gA)).2, kq⟩)
 have k00 : Kp W0 W0 := Kp.refl _
 have wS1 : IntKind.i64.wrap (S + 1) = S + 1 := by rw [IntKind.wrap_i64]; omega
 have wS2 : IntKind.i64.wrap (S - 1) = S - 1 := by rw [IntKind.wrap_i64]; omega
 have wS3 : IntKind.i64.wrap (S - 2) = S - 2 := by rw [IntKind.wrap_i64]; omega
 have wT1 : IntKind.i64.wrap (T + 1) = T + 1 := by rw [IntKind.wrap_i64]; omega
 have wT2 : IntKind.i64.wrap (T - 1) = T - 1 := by rw [IntKind.wrap_i64]; omega
 have wT3 : IntKind.i64.wrap (T + 2) = T + 2 := by rw [IntKind.wrap_i64]; omega
 have HW := Lib.hid hW
 clear hW gA gB k0
 go_enter Tryz.func177, Tryz.ntmps177
 go_upto_region 1 with fail
 rw [← HW.out]
 refine wp_region_held_drew (S := fun w' => w'.cell? ⟨w.heap.size, 0, none⟩ = some (.int .i64 S) ∧ w'.cell? ⟨w.heap.size, 1, none⟩ = some (.int .i64 T)) (by kernel_rfl) ?_ (fun hHeld0 => ?_)
 ·(try dsimp only); exact ⟨(KS.out _ (by first | with_reducible exact k00 | ((repeat (first | with_reducible refine Kp.trans ?_ (Kp.drew _) | with_reducible refine Kp.trans ?_ (Kp.alloc _ _))); with_reducible exact k00))).1, (KS.out _ (by first | with_reducible exact k00 | ((repeat (first | with_reducible refine Kp.trans ?_ (Kp.drew _) | with_reducible refine Kp.trans ?_ (Kp.alloc _ _))); with_reducible exact k00))).2.1⟩
 refine tkv 0 wyoverlappedBy0 ?_
 (try simp only [Act.put, wyoverlappedBy0, List.setIfInBounds_toArray, List.set_cons_zero, List.set_cons_succ])
 refine tkv 1 wyoverlappedBy1 ?_
 (try simp only [Act.put, wyoverlappedBy1, List.setIfInBounds_toArray, List.set_cons_zero, List.set_cons_succ])
 refine tkv 2 wyoverlappedBy2 ?_
 (try simp only [Act.put, wyoverlappedBy2, List.setIfInBounds_toArray, List.set_cons_zero, List.set_cons_succ])
 refine tkv 4 wyoverlappedBy4 ?_
 (try simp only [Act.put, wyoverlappedBy4, List.setIfInBounds_toArray, List.set_cons_zero, List.set_cons_succ])
 refine tkv 5 wyoverlappedBy5 ?_
 (try simp only [Act.put, wyoverlappedBy5, List.setIfInBounds_toArray, List.set_cons_zero, List.set_cons_succ])
 refine tkv 6 wyoverlappedBy6 ?_
 (try simp only [Act.put, wyoverlappedBy6, List.setIfInBounds_toArray, List.set_cons_zero, List.set_cons_succ])
 refine tkv 7 wyoverlappedBy7 ?_
 (try simp only [Act.put, wyoverlappedBy7, List.setIfInBounds_toArray, List.set_cons_zero, List.set_cons_succ])
 refine tkv 8 wyoverlappedBy8 ?_
 (try simp only [Act.put, wyoverlappedBy8, List.setIfInBounds_toArray, List.set_cons_zero, List.set_cons_succ])
 refine tkv 9 wyoverlappedBy9 ?_
 (try simp only [Act.put, wyoverlappedBy9, List.setIfInBounds_toArray, List.set_cons_zero, List.set_cons_succ])
 refine tkE 3 wyoverlappedBy3 rfl (by kernel_rfl) (fun K hK => ?_)
 go_simp
 (refine (upTo_any _ _).mono ?_; rintro e w1 ⟨rfl, kq1⟩; have kw1 : Kp W0 w1 := Kp.trans (show Kp W0 _ from (by first | with_reducible exact k00 | ((repeat (first | with_reducible refine Kp.trans ?_ (Kp.drew _) | with_reducible refine Kp.trans ?_ (Kp.alloc _ _))); with_reducible exact k00))) kq1; clear kq1)
 (try go_wp2_with fail)
 refine hK.out _ _ ?_ (fun hHeld1 => ?_)
 ·(try dsimp only); exact ⟨(KS.out _ (by first | with_reducible exact kw1 | ((repeat (first | with_reducible refine Kp.trans ?_ (Kp.drew _) | with_reducible refine Kp.trans ?_ (Kp.alloc _ _))); with_reducible exact kw1))).1, (KS.out _ (by first | with_reducible exact kw1 | ((repeat (first | with_reducible refine Kp.trans ?_ (Kp.drew _) | with_reducible refine Kp.trans ?_ (Kp.alloc _ _))); with_reducible exact kw1))).2.1⟩
 clear hK K hHeld0
 (try simp only [Act.put, wyoverlappedBy3, List.setIfInBounds_toArray, List.set_cons_zero, List.set_cons_succ])
 refine tkv 10 wyoverlappedBy10 ?_
 (try simp only [Act.put, wyoverlappedBy10, List.setIfInBounds_toArray, List.set_cons_zero, List.set_cons_succ])
 refine tkE 11 wyoverlappedBy11 rfl (by kernel_rfl) (fun K hK => ?_)
 (refine bx_store (W := w) rfl 145 (.tmp 2) (.tmp 13) rfl (w.heap.size + 1) [.int .i64 (0), .int .i64 (S - 1), .int .i64 (S), .int .i64 (T - 1)] #[.int .i64 0, .int .i64 0, .int .i64 0, .int .i64 0] (by simp [Act.eval, Act.put, wS1, wS2, wS3, wT1, wT2, wT3]) (by simp [Act.eval, Act.put, wS1, wS2, wS3, wT1, wT2, wT3]) (K0.out.trans (by first | with_reducible exact kw1 | ((repeat (first | with_reducible refine Kp.trans ?_ (Kp.drew _) | with_reducible refine Kp.trans ?_ (Kp.alloc _ _))); with_reducible exact kw1))) (by omega) (GB.out _ (by first | with_reducible exact kw1 | ((repeat (first | with_reducible refine Kp.trans ?_ (Kp.drew _) | with_reducible refine Kp.trans ?_ (Kp.alloc _ _))); with_reducible exact kw1))) (Nat.le_refl 4) (by kernel_rfl) (by kernel_rfl) (by simp [Value.oneCell']) ?_; intro F hF KF gF; have KFH := Lib.hid KF; obtain ⟨x0, x1, x2, x3⟩ := row4 gF; have qA : F.cell? ⟨w.heap.size, 0, none⟩ = some (.int .i64 S) := (by rw [hF]; have q := (KS.out _ (by first | with_reducible exact kw1 | ((repeat (first | with_reducible refine Kp.trans ?_ (Kp.drew _) | with_reducible refine Kp.trans ?_ (Kp.alloc _ _))); with_reducible exact kw1))).1; have n0 : w.heap.size ≠ w.heap.size + 1 := (by omega); simp only [World.cell?] at q ⊢; rw [bx_other n0]; exact q); have qB : F.cell? ⟨w.heap.size, 1, none⟩ = some (.int .i64 T) := (by rw [hF]; have q := (KS.out _ (by first | with_reducible exact kw1 | ((repeat (first | with_reducible refine Kp.trans ?_ (Kp.drew _) | with_reducible refine Kp.trans ?_ (Kp.alloc _ _))); with_reducible exact kw1))).2.1; have n0 : w.heap.size ≠ w.heap.size + 1 := (by omega); simp only [World.cell?] at q ⊢; rw [bx_other n0]; exact q); clear gF hF)
 (try go_wp2_with fail)
 refine hK.out _ _ ?_ (fun hHeld2 => ?_)
 ·(try dsimp only); exact ⟨qA, qB⟩
 clear hK K hHeld1
 (try simp only [Act.put, wyoverlappedBy11, List.setIfInBounds_toArray, List.set_cons_zero, List.set_cons_succ])
 refine wpAnyH_done (by kernel_rfl) ?_ _
 go_wp2
 refine bodyPost_ret (v := .agg #[.int .i64 (0), .int .i64 (S - 1), .int .i64 (S), .int .i64 (T - 1)]) (by simp [results, Tryz.results177, go_sem, x0, x1, x2, x3]) rfl ⟨rfl, KFH.out⟩
abbrev wymetBy0 : Oper := { dst := some 3, op := Go.Op.call { callee := Go.Callee.value (Go.Operand.func 224), args := #[], argTypes := #[] }, type := 53, pos := "box.go:80", after := #[], guard := none }
abbrev wymetBy1 : Oper := { dst := some 4, op := Go.Op.fieldAddr 146 (Go.Operand.tmp 1) 0, type := 0, pos := "box.go:80", after := #[], guard := none }
abbrev wymetBy2 : Oper := { dst := some 5, op := Go.Op.load 3 (Go.Operand.tmp 4), type := 3, pos := "box.go:80", after := #[{ on := 1, ground := Go.Ground.data }], guard := none }
abbrev wymetBy3 : Oper := { dst := some 6, op := Go.Op.binOp Go.BinOp.sub 3 (Go.Operand.tmp 5) (Go.Operand.const (Go.Value.int Go.IntKind.i64 1)) 3, type := 3, pos := "box.go:80", after := #[{ on := 2, ground := Go.Ground.data }], guard := none }
abbrev wymetBy4 : Oper := { dst := some 7, op := Go.Op.call { callee := Go.Callee.value (Go.Operand.func 225), args := #[Go.Operand.tmp 6], argTypes := #[3] }, type := 53, pos := "box.go:80", after := #[{ on := 3, ground := Go.Ground.data }, { on := 0, ground := Go.Ground.chain }], guard := none }
abbrev wymetBy5 : Oper := { dst := some 8, op := Go.Op.build 145 #[(0, Go.Operand.tmp 3), (1, Go.Operand.tmp 7)], type := 145, pos := "box.go:80", after := #[{ on := 0, ground := Go.Ground.data }, { on := 4, ground := Go.Ground.data }], guard := none }
abbrev wymetBy6 : Oper := { dst := none, op := Go.Op.store 145 (Go.Operand.tmp 2) (Go.Operand.tmp 8), type := 0, pos := "box.go:80", after := #[{ on := 5, ground := Go.Ground.data }, { on := 4, ground := Go.Ground.chain }, { on := 0, ground := Go.Ground.phase }, { on := 1, ground := Go.Ground.phase }, { on := 2, ground := Go.Ground.phase }, { on := 3, ground := Go.Ground.phase }, { on := 4, ground := Go.Ground.phase }, { on := 5, ground := Go.Ground.phase }], guard := none }
set_option maxHeartbeats 16000000 in
set_option maxRecDepth 100000 in
theorem metBy_way (S T : Int) (w : World) (h1 : 0 ≤ S) (h2 : S ≤ 4000000) (h3 : 0 ≤ T) (h4 : T ≤ 4000000) : Calls Tryz.prog 178 #[.agg #[.int .i64 S, .int .i64 T]] w fun e w' => e = .returned (.agg #[.int .i64 (0), .int .i64 (3652424), .int .i64 (S - 1), .int .i64 (S - 1)]) ∧ Kp w w' := by
 obtain ⟨W0, hW⟩ : ∃ x, x = (w.alloc (.cells #[.int .i64 S, .int .i64 T] 146)).alloc (.cells #[.int .i64 0, .int .i64 0, .int .i64 0, .int .i64 0] 145) := ⟨_, rfl⟩
 have k0 : Kp w W0 := by rw [hW]; exact (Kp.alloc _ _).trans (Kp.alloc _ _)
 have gA : W0.heap[w.heap.size]? = some (.cells #[.int .i64 S, .int .i64 T] 146 (0, 0)) := by rw [hW]; exact heap_block (Kp.alloc _ _) (heap_at _ _ _ rfl)
 have gB : W0.heap[w.heap.size + 1]? = some (.cells #[.int .i64 0, .int .i64 0, .int .i64 0, .int .i64 0] 145 (0, 0)) := by rw [hW]; exact heap_at _ _ _ (by simp)
 have hz : W0.heap.size = w.heap.size + 2 := by rw [hW]; simp
 have K0 := Lib.hid k0
 have GB := Lib.hid (fun w1 (q : Kp W0 w1) => heap_block q gB)
 have KS := Lib.hid (fun w' (kq : Kp W0 w') => show w'.cell? ⟨w.heap.size, 0, none⟩ = some (.int .i64 S) ∧ w'.cell? ⟨w.heap.size, 1, none⟩ = some (.int .i64 T) ∧ Kp W0 w' from ⟨(row2 (heap_block kq gA)).1, (row2 (heap_block kq gA)).2, kq⟩)
 have k00 : Kp W0 W0 := Kp.refl _
 have wS1 : IntKind.i64.wrap (S + 1) = S + 1 := by rw [IntKind.wrap_i64]; omega
 have wS2 : IntKind.i64.wrap (S - 1) = S - 1 := by rw [IntKind.wrap_i64]; omega
 have wS3 : IntKind.i64.wrap (S - 2) = S - 2 := by rw [IntKind.wrap_i64]; omega
 have wT1 : IntKind.i64.wrap (T + 1) = T + 1 := by rw [IntKind.wrap_i64]; omega
 have wT2 : IntKind.i64.wrap (T - 1) = T - 1 := by rw [IntKind.wrap_i64]; omega
 have wT3 : IntKind.i64.wrap (T + 2) = T + 2 := by rw [IntKind.wrap_i64]; omega
 have HW := Lib.hid hW
 clear hW gA gB k0
 go_enter Tryz.func178, Tryz.ntmps178
 go_upto_region 1 with fail
 rw [← HW.out]
 refine wp_region_held_drew (S := fun w' => w'.cell? ⟨w.heap.size, 0, none⟩ = some (.int .i64 S) ∧ w'.cell? ⟨w.heap.size, 1, none⟩ = some (.int .i64 T)) (by kernel_rfl) ?_ (fun hHeld0 => ?_)
 ·(try dsimp only); exact ⟨(KS.out _ (by first | with_reducible exact k00 | ((repeat (first | with_reducible refine Kp.trans ?_ (Kp.drew _) | with_reducible refine Kp.trans ?_ (Kp.alloc _ _))); with_reducible exact k00))).1, (KS.out _ (by first | with_reducible exact k00 | ((repeat (first | with_reducible refine Kp.trans ?_ (Kp.drew _) | with_reducible refine Kp.trans ?_ (Kp.alloc _ _))); with_reducible exact k00))).2.1⟩
 refine tkv 1 wymetBy1 ?_
 (try simp only [Act.put, wymetBy1, List.setIfInBounds_toArray, List.set_cons_zero, List.set_cons_succ])
 refine tkv 2 wymetBy2 ?_
 (try simp only [Act.put, wymetBy2, List.setIfInBounds_toArray, List.set_cons_zero, List.set_cons_succ])
 refine tkv 3 wymetBy3 ?_
 (try simp only [Act.put, wymetBy3, List.setIfInBounds_toArray, List.set_cons_zero, List.set_cons_succ])
 refine tkE 0 wymetBy0 rfl (by kernel_rfl) (fun K hK => ?_)
 go_simp
 (refine (anyDay_any _).mono ?_; rintro e w1 ⟨rfl, kq1⟩; have kw1 : Kp W0 w1 := Kp.trans (show Kp W0 _ from (by first | with_reducible exact k00 | ((repeat (first | with_reducible refine Kp.trans ?_ (Kp.drew _) | with_reducible refine Kp.trans ?_ (Kp.alloc _ _))); with_reducible exact k00))) kq1; clear kq1)
 (try go_wp2_with fail)
 refine hK.out _ _ ?_ (fun hHeld1 => ?_)
 ·(try dsimp only); exact ⟨(KS.out _ (by first | with_reducible exact kw1 | ((repeat (first | with_reducible refine Kp.trans ?_ (Kp.drew _) | with_reducible refine Kp.trans ?_ (Kp.alloc _ _))); with_reducible exact kw1))).1, (KS.out _ (by first | with_reducible exact kw1 | ((repeat (first | with_reducible refine Kp.trans ?_ (Kp.drew _) | with_reducible refine Kp.trans ?_ (Kp.alloc _ _))); with_reducible exact kw1))).2.1⟩
 clear hK K hHeld0
 (try simp only [Act.put, wymetBy0, List.setIfInBounds_toArray, List.set_cons_zero, List.set_cons_succ])
 refine tkE 4 wymetBy4 rfl (by kernel_rfl) (fun K hK => ?_)
 go_simp
 (refine (just_any _ _).mono ?_; rintro e w2 ⟨rfl, kq1⟩; have kw2 : Kp W0 w2 := Kp.trans (show Kp W0 _ from (by first | with_reducible exact kw1 | ((repeat (first | with_reducible refine Kp.trans ?_ (Kp.drew _) | with_reducible refine Kp.trans ?_ (Kp.alloc _ _))); with_reducible exact kw1))) kq1; clear kq1)
 (try go_wp2_with fail)
 refine hK.out _ _ ?_ (fun hHeld2 => ?_)
 ·(try dsimp only); exact ⟨(KS.out _ (by first | with_reducible exact kw2 | ((repeat (first | with_reducible refine Kp.trans ?_ (Kp.drew _) | with_reducible refine Kp.trans ?_ (Kp.alloc _ _))); with_reducible exact kw2))).1, (KS.out _ (by first | with_reducible exact kw2 | ((repeat (first | with_reducible refine Kp.trans ?_ (Kp.drew _) | with_reducible refine Kp.trans ?_ (Kp.alloc _ _))); with_reducible exact kw2))).2.1⟩
 clear hK K hHeld1
 (try simp only [Act.put, wymetBy4, List.setIfInBounds_toArray, List.set_cons_zero, List.set_cons_succ])
 refine tkv 5 wymetBy5 ?_
 (try simp only [Act.put, wymetBy5, List.setIfInBounds_toArray, List.set_cons_zero, List.set_cons_succ])
 refine tkE 6 wymetBy6 rfl (by kernel_rfl) (fun K hK => ?_)
 (refine bx_store (W := w) rfl 145 (.tmp 2) (.tmp 8) rfl (w.heap.size + 1) [.int .i64 (0), .int .i64 (3652424), .int .i64 (S - 1), .int .i64 (S - 1)] #[.int .i64 0, .int .i64 0, .int .i64 0, .int .i64 0] (by simp [Act.eval, Act.put, wS1, wS2, wS3, wT1, wT2, wT3]) (by simp [Act.eval, Act.put, wS1, wS2, wS3, wT1, wT2, wT3]) (K0.out.trans (by first | with_reducible exact kw2 | ((repeat (first | with_reducible refine Kp.trans ?_ (Kp.drew _) | with_reducible refine Kp.trans ?_ (Kp.alloc _ _))); with_reducible exact kw2))) (by omega) (GB.out _ (by first | with_reducible exact kw2 | ((repeat (first | with_reducible refine Kp.trans ?_ (Kp.drew _) | with_reducible refine Kp.trans ?_ (Kp.alloc _ _))); with_reducible exact kw2))) (Nat.le_refl 4) (by kernel_rfl) (by kernel_rfl) (by simp [Value.oneCell']) ?_; intro F hF KF gF; have KFH := Lib.hid KF; obtain ⟨x0, x1, x2, x3⟩ := row4 gF; have qA : F.cell? ⟨w.heap.size, 0, none⟩ = some (.int .i64 S) := (by rw [hF]; have q := (KS.out _ (by first | with_reducible exact kw2 | ((repeat (first | with_reducible refine Kp.trans ?_ (Kp.drew _) | with_reducible refine Kp.trans ?_ (Kp.alloc _ _))); with_reducible exact kw2))).1; have n0 : w.heap.size ≠ w.heap.size + 1 := (by omega); simp only [World.cell?] at q ⊢; rw [bx_other n0]; exact q); have qB : F.cell? ⟨w.heap.size, 1, none⟩ = some (.int .i64 T) := (by rw [hF]; have q := (KS.out _ (by first | with_reducible exact kw2 | ((repeat (first | with_reducible refine Kp.trans ?_ (Kp.drew _) | with_reducible refine Kp.trans ?_ (Kp.alloc _ _))); with_reducible exact kw2))).2.1; have n0 : w.heap.size ≠ w.heap.size + 1 := (by omega); simp only [World.cell?] at q ⊢; rw [bx_other n0]; exact q); clear gF hF)
 (try go_wp2_with fail)
 refine hK.out _ _ ?_ (fun hHeld3 => ?_)
 ·(try dsimp only); exact ⟨qA, qB⟩
 clear hK K hHeld2
 (try simp only [Act.put, wymetBy6, List.setIfInBounds_toArray, List.set_cons_zero, List.set_cons_succ])
 refine wpAnyH_done (by kernel_rfl) ?_ _
 go_wp2
 refine bodyPost_ret (v := .agg #[.int .i64 (0), .int .i64 (3652424), .int .i64 (S - 1), .int .i64 (S - 1)]) (by simp [results, Tryz.results178, go_sem, x0, x1, x2, x3]) rfl ⟨rfl, KFH.out⟩
abbrev wyafter0 : Oper := { dst := some 3, op := Go.Op.call { callee := Go.Callee.value (Go.Operand.func 224), args := #[], argTypes := #[] }, type := 53, pos := "box.go:84", after := #[], guard := none }
abbrev wyafter1 : Oper := { dst := some 4, op := Go.Op.fieldAddr 146 (Go.Operand.tmp 1) 0, type := 0, pos := "box.go:84", after := #[], guard := none }
abbrev wyafter2 : Oper := { dst := some 5, op := Go.Op.load 3 (Go.Operand.tmp 4), type := 3, pos := "box.go:84", after := #[{ on := 1, ground := Go.Ground.data }], guard := none }
abbrev wyafter3 : Oper := { dst := some 6, op := Go.Op.binOp Go.BinOp.sub 3 (Go.Operand.tmp 5) (Go.Operand.const (Go.Value.int Go.IntKind.i64 2)) 3, type := 3, pos := "box.go:84", after := #[{ on := 2, ground := Go.Ground.data }], guard := none }
abbrev wyafter4 : Oper := { dst := some 7, op := Go.Op.call { callee := Go.Callee.value (Go.Operand.func 226), args := #[Go.Operand.tmp 6], argTypes := #[3] }, type := 53, pos := "box.go:84", after := #[{ on := 3, ground := Go.Ground.data }, { on := 0, ground := Go.Ground.chain }], guard := none }
abbrev wyafter5 : Oper := { dst := some 8, op := Go.Op.build 145 #[(0, Go.Operand.tmp 3), (1, Go.Operand.tmp 7)], type := 145, pos := "box.go:84", after := #[{ on := 0, ground := Go.Ground.data }, { on := 4, ground := Go.Ground.data }], guard := none }
abbrev wyafter6 : Oper := { dst := none, op := Go.Op.store 145 (Go.Operand.tmp 2) (Go.Operand.tmp 8), type := 0, pos := "box.go:84", after := #[{ on := 5, ground := Go.Ground.data }, { on := 4, ground := Go.Ground.chain }, { on := 0, ground := Go.Ground.phase }, { on := 1, ground := Go.Ground.phase }, { on := 2, ground := Go.Ground.phase }, { on := 3, ground := Go.Ground.phase }, { on := 4, ground := Go.Ground.phase }, { on := 5, ground := Go.Ground.phase }], guard := none }
set_option maxHeartbeats 16000000 in
set_option maxRecDepth 100000 in
theorem after_way (S T : Int) (w : World) (h1 : 0 ≤ S) (h2 : S ≤ 4000000) (h3 : 0 ≤ T) (h4 : T ≤ 4000000) : Calls Tryz.prog 179 #[.agg #[.int .i64 S, .int .i64 T]] w fun e w' => e = .returned (.agg #[.int .i64 (0), .int .i64 (3652424), .int .i64 (0), .int .i64 (S - 2)]) ∧ Kp w w' := by
 obtain ⟨W0, hW⟩ : ∃ x, x = (w.alloc (.cells #[.int .i64 S, .int .i64 T] 146)).alloc (.cells #[.int .i64 0, .int .i64 0, .int .i64 0, .int .i64 0] 145) := ⟨_, rfl⟩
 have k0 : Kp w W0 := by rw [hW]; exact (Kp.alloc _ _).trans (Kp.alloc _ _)
 have gA : W0.heap[w.heap.size]? = some (.cells #[.int .i64 S, .int .i64 T] 146 (0, 0)) := by rw [hW]; exact heap_block (Kp.alloc _ _) (heap_at _ _ _ rfl)
 have gB : W0.heap[w.heap.size + 1]? = some (.cells #[.int .i64 0, .int .i64 0, .int .i64 0, .int .i64 0] 145 (0, 0)) := by rw [hW]; exact heap_at _ _ _ (by simp)
 have hz : W0.heap.size = w.heap.size + 2 := by rw [hW]; simp
 have K0 := Lib.hid k0
 have GB := Lib.hid (fun w1 (q : Kp W0 w1) => heap_block q gB)
 have KS := Lib.hid (fun w' (kq : Kp W0 w') => show w'.cell? ⟨w.heap.size, 0, none⟩ = some (.int .i64 S) ∧ w'.cell? ⟨w.heap.size, 1, none⟩ = some (.int .i64 T) ∧ Kp W0 w' from ⟨(row2 (heap_block kq gA)).1, (row2 (heap_block kq gA)).2, kq⟩)
 have k00 : Kp W0 W0 := Kp.refl _
 have wS1 : IntKind.i64.wrap (S + 1) = S + 1 := by rw [IntKind.wrap_i64]; omega
 have wS2 : IntKind.i64.wrap (S - 1) = S - 1 := by rw [IntKind.wrap_i64]; omega
 have wS3 : IntKind.i64.wrap (S - 2) = S - 2 := by rw [IntKind.wrap_i64]; omega
 have wT1 : IntKind.i64.wrap (T + 1) = T + 1 := by rw [IntKind.wrap_i64]; omega
 have wT2 : IntKind.i64.wrap (T - 1) = T - 1 := by rw [IntKind.wrap_i64]; omega
 have wT3 : IntKind.i64.wrap (T + 2) = T + 2 := by rw [IntKind.wrap_i64]; omega
 have HW := Lib.hid hW
 clear hW gA gB k0
 go_enter Tryz.func179, Tryz.ntmps179
 go_upto_region 1 with fail
 rw [← HW.out]
 refine wp_region_held_drew (S := fun w' => w'.cell? ⟨w.heap.size, 0, none⟩ = some (.int .i64 S) ∧ w'.cell? ⟨w.heap.size, 1, none⟩ = some (.int .i64 T)) (by kernel_rfl) ?_ (fun hHeld0 => ?_)
 ·(try dsimp only); exact ⟨(KS.out _ (by first | with_reducible exact k00 | ((repeat (first | with_reducible refine Kp.trans ?_ (Kp.drew _) | with_reducible refine Kp.trans ?_ (Kp.alloc _ _))); with_reducible exact k00))).1, (KS.out _ (by first | with_reducible exact k00 | ((repeat (first | with_reducible refine Kp.trans ?_ (Kp.drew _) | with_reducible refine Kp.trans ?_ (Kp.alloc _ _))); with_reducible exact k00))).2.1⟩
 refine tkv 1 wyafter1 ?_
 (try simp only [Act.put, wyafter1, List.setIfInBounds_toArray, List.set_cons_zero, List.set_cons_succ])
 refine tkv 2 wyafter2 ?_
 (try simp only [Act.put, wyafter2, List.setIfInBounds_toArray, List.set_cons_zero, List.set_cons_succ])
 refine tkv 3 wyafter3 ?_
 (try simp only [Act.put, wyafter3, List.setIfInBounds_toArray, List.set_cons_zero, List.set_cons_succ])
 refine tkE 0 wyafter0 rfl (by kernel_rfl) (fun K hK => ?_)
 go_simp
 (refine (anyDay_any _).mono ?_; rintro e w1 ⟨rfl, kq1⟩; have kw1 : Kp W0 w1 := Kp.trans (show Kp W0 _ from (by first | with_reducible exact k00 | ((repeat (first | with_reducible refine Kp.trans ?_ (Kp.drew _) | with_reducible refine Kp.trans ?_ (Kp.alloc _ _))); with_reducible exact k00))) kq1; clear kq1)
 (try go_wp2_with fail)
 refine hK.out _ _ ?_ (fun hHeld1 => ?_)
 ·(try dsimp only); exact ⟨(KS.out _ (by first | with_reducible exact kw1 | ((repeat (first | with_reducible refine Kp.trans ?_ (Kp.drew _) | with_reducible refine Kp.trans ?_ (Kp.alloc _ _))); with_reducible exact kw1))).1, (KS.out _ (by first | with_reducible exact kw1 | ((repeat (first | with_reducible refine Kp.trans ?_ (Kp.drew _) | with_reducible refine Kp.trans ?_ (Kp.alloc _ _))); with_reducible exact kw1))).2.1⟩
 clear hK K hHeld0
 (try simp only [Act.put, wyafter0, List.setIfInBounds_toArray, List.set_cons_zero, List.set_cons_succ])
 refine tkE 4 wyafter4 rfl (by kernel_rfl) (fun K hK => ?_)
 go_simp
 (refine (upTo_any _ _).mono ?_; rintro e w2 ⟨rfl, kq1⟩; have kw2 : Kp W0 w2 := Kp.trans (show Kp W0 _ from (by first | with_reducible exact kw1 | ((repeat (first | with_reducible refine Kp.trans ?_ (Kp.drew _) | with_reducible refine Kp.trans ?_ (Kp.alloc _ _))); with_reducible exact kw1))) kq1; clear kq1)
 (try go_wp2_with fail)
 refine hK.out _ _ ?_ (fun hHeld2 => ?_)
 ·(try dsimp only); exact ⟨(KS.out _ (by first | with_reducible exact kw2 | ((repeat (first | with_reducible refine Kp.trans ?_ (Kp.drew _) | with_reducible refine Kp.trans ?_ (Kp.alloc _ _))); with_reducible exact kw2))).1, (KS.out _ (by first | with_reducible exact kw2 | ((repeat (first | with_reducible refine Kp.trans ?_ (Kp.drew _) | with_reducible refine Kp.trans ?_ (Kp.alloc _ _))); with_reducible exact kw2))).2.1⟩
 clear hK K hHeld1
 (try simp only [Act.put, wyafter4, List.setIfInBounds_toArray, List.set_cons_zero, List.set_cons_succ])
 refine tkv 5 wyafter5 ?_
 (try simp only [Act.put, wyafter5, List.setIfInBounds_toArray, List.set_cons_zero, List.set_cons_succ])
 refine tkE 6 wyafter6 rfl (by kernel_rfl) (fun K hK => ?_)
 (refine bx_store (W := w) rfl 145 (.tmp 2) (.tmp 8) rfl (w.heap.size + 1) [.int .i64 (0), .int .i64 (3652424), .int .i64 (0), .int .i64 (S - 2)] #[.int .i64 0, .int .i64 0, .int .i64 0, .int .i64 0] (by simp [Act.eval, Act.put, wS1, wS2, wS3, wT1, wT2, wT3]) (by simp [Act.eval, Act.put, wS1, wS2, wS3, wT1, wT2, wT3]) (K0.out.trans (by first | with_reducible exact kw2 | ((repeat (first | with_reducible refine Kp.trans ?_ (Kp.drew _) | with_reducible refine Kp.trans ?_ (Kp.alloc _ _))); with_reducible exact kw2))) (by omega) (GB.out _ (by first | with_reducible exact kw2 | ((repeat (first | with_reducible refine Kp.trans ?_ (Kp.drew _) | with_reducible refine Kp.trans ?_ (Kp.alloc _ _))); with_reducible exact kw2))) (Nat.le_refl 4) (by kernel_rfl) (by kernel_rfl) (by simp [Value.oneCell']) ?_; intro F hF KF gF; have KFH := Lib.hid KF; obtain ⟨x0, x1, x2, x3⟩ := row4 gF; have qA : F.cell? ⟨w.heap.size, 0, none⟩ = some (.int .i64 S) := (by rw [hF]; have q := (KS.out _ (by first | with_reducible exact kw2 | ((repeat (first | with_reducible refine Kp.trans ?_ (Kp.drew _) | with_reducible refine Kp.trans ?_ (Kp.alloc _ _))); with_reducible exact kw2))).1; have n0 : w.heap.size ≠ w.heap.size + 1 := (by omega); simp only [World.cell?] at q ⊢; rw [bx_other n0]; exact q); have qB : F.cell? ⟨w.heap.size, 1, none⟩ = some (.int .i64 T) := (by rw [hF]; have q := (KS.out _ (by first | with_reducible exact kw2 | ((repeat (first | with_reducible refine Kp.trans ?_ (Kp.drew _) | with_reducible refine Kp.trans ?_ (Kp.alloc _ _))); with_reducible exact kw2))).2.1; have n0 : w.heap.size ≠ w.heap.size + 1 := (by omega); simp only [World.cell?] at q ⊢; rw [bx_other n0]; exact q); clear gF hF)
 (try go_wp2_with fail)
 refine hK.out _ _ ?_ (fun hHeld3 => ?_)
 ·(try dsimp only); exact ⟨qA, qB⟩
 clear hK K hHeld2
 (try simp only [Act.put, wyafter6, List.setIfInBounds_toArray, List.set_cons_zero, List.set_cons_succ])
 refine wpAnyH_done (by kernel_rfl) ?_ _
 go_wp2
 refine bodyPost_ret (v := .agg #[.int .i64 (0), .int .i64 (3652424), .int .i64 (0), .int .i64 (S - 2)]) (by simp [results, Tryz.results179, go_sem, x0, x1, x2, x3]) rfl ⟨rfl, KFH.out⟩
end Go.Proofs.YtamdjbpgkiekcaaGreatDoor
