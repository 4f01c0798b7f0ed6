import Derived.Test.YtcooaoponkkpeaaGreatDoorGBa
import Derived.Deep.RegionHeld3
import Derived.Test.YtcooaoponkkpeaaGreatDoorGImgC
set_option maxHeartbeats 4000000
set_option maxRecDepth 100000
namespace Go.Proofs.YtcooaoponkkpeaaGreatDoor
open Go.RowKit
section
variable {P : Program} {ops : Array Oper} {Q : Exit → Act → World → Prop} {md : Region.Mode} {S : World → Prop} {fuel : Nat} {listed : Array Bool} {a : Act} {w : World}
theorem tkW {v : Value} (i : Nat) (oi : Oper) (hi : ops[i]? = some oi) (hs : Region.noSelect ops = true) (hf : Region.free md ops listed i = true) (hr : (Region.ready md ops listed).contains i = true)
  (hQ : ∀ c a w, Q (.panic c) (a.put oi.dst v) w → Q (.panic c) a w) (hw : Region.wanted oi (yielded ops a.tmps) = true) (hy : ∀ w, S w → (execOp a.eval oi).run P w = .ok (.value v) w) (hS : S w)
  (h : wpAnyH P md ops Q S fuel (listed.setIfInBounds i true) (a.put oi.dst v) w) : wpAnyH P md ops Q S (fuel + 1) listed a w :=
 wpAnyH_take hi hs hf hr hQ (Or.inl ⟨hw, hy⟩) hS h
theorem tkU (i : Nat) (oi : Oper) (hi : ops[i]? = some oi) (hs : Region.noSelect ops = true) (hf : Region.free md ops listed i = true) (hr : (Region.ready md ops listed).contains i = true)
  (hQ : ∀ c a w, Q (.panic c) (a.put oi.dst undef) w → Q (.panic c) a w) (hw : Region.wanted oi (yielded ops a.tmps) = false) (hS : S w)
  (h : wpAnyH P md ops Q S fuel (listed.setIfInBounds i true) (a.put oi.dst undef) w) : wpAnyH P md ops Q S (fuel + 1) listed a w :=
 wpAnyH_take hi hs hf hr hQ (Or.inr ⟨hw, rfl⟩) hS h
theorem tkE (i : Nat) (o : Oper) (ho : ops[i]? = some o) (hr : Region.ready md ops listed = [i])
  (h : ∀ K' : Act → World → Prop, Shut (∀ a w, S w → (S w → wpAnyH P md ops Q S fuel (listed.setIfInBounds i true) a w) → K' a w) → if Region.wanted o (yielded ops a.tmps) = true then Oper.wp P o a w K' Q else K' (a.put o.dst undef) w) :
  wpAnyH P md ops Q S (fuel + 1) listed a w :=
 wpAnyH_ready hr (by simp) (AllReadyH.cons ho h AllReadyH.nil)
theorem tkE2 (i j : Nat) (o o' : Oper) (ho : ops[i]? = some o) (ho' : ops[j]? = some o') (hr : Region.ready md ops listed = [i, j])
  (h : ∀ K' : Act → World → Prop, Shut (∀ a w, S w → (S w → wpAnyH P md ops Q S fuel (listed.setIfInBounds i true) a w) → K' a w) → if Region.wanted o (yielded ops a.tmps) = true then Oper.wp P o a w K' Q else K' (a.put o.dst undef) w)
  (h' : ∀ K' : Act → World → Prop, Shut (∀ a w, S w → (S w → wpAnyH P md ops Q S fuel (listed.setIfInBounds j true) a w) → K' a w) → if Region.wanted o' (yielded ops a.tmps) = true then Oper.wp P o' a w K' Q else K' (a.put o'.dst undef) w) :
  wpAnyH P md ops Q S (fuel + 1) listed a w :=
 wpAnyH_ready hr (by simp) (AllReadyH.cons ho h (AllReadyH.cons ho' h' AllReadyH.nil))
theorem tkv {v : Value} (i : Nat) (oi : Oper) (h : wpAnyH P md ops Q S fuel (listed.setIfInBounds i true) (a.put oi.dst v) w)
 (hi : ops[i]? = some oi := by rfl) (hs : Region.noSelect ops = true := by kernel_rfl) (hf : Region.free md ops listed i = true := by kernel_rfl) (hr : (Region.ready md ops listed).contains i = true := by kernel_rfl)
 (hy : ∀ w, S w → (execOp a.eval oi).run P w = .ok (.value v) w := by intro w hSw; (try dsimp only at hSw); go_simp; (try with_reducible rfl))
 (hQ : ∀ c a w, Q (.panic c) (a.put oi.dst v) w → Q (.panic c) a w := by exact fun _ _ _ h => h) (hw : Region.wanted oi (yielded ops a.tmps) = true := by rfl) (hS : S w := by assumption) : wpAnyH P md ops Q S (fuel + 1) listed a w :=
 tkW i oi hi hs hf hr hQ hw hy hS h
theorem tkn (i : Nat) (oi : Oper) (h : wpAnyH P md ops Q S fuel (listed.setIfInBounds i true) (a.put oi.dst undef) w)
 (hi : ops[i]? = some oi := by rfl) (hs : Region.noSelect ops = true := by kernel_rfl) (hf : Region.free md ops listed i = true := by kernel_rfl) (hr : (Region.ready md ops listed).contains i = true := by kernel_rfl)
 (hQ : ∀ c a w, Q (.panic c) (a.put oi.dst undef) w → Q (.panic c) a w := by exact fun _ _ _ h => h) (hw : Region.wanted oi (yielded ops a.tmps) = false := by rfl) (hS : S w := by assumption) : wpAnyH P md ops Q S (fuel + 1) listed a w :=
 tkU i oi hi hs hf hr hQ hw hS h
end
set_option linter.unusedVariables false
set_option linter.unusedSimpArgs false
structure LF where
 sp : Bool
 u : Int
 a : List R
 b : List R
def leastR (s : List R) : Int := (at_ s 0).1
def greatR (s : List R) : Int := (at_ s (s.length - 1)).2
def setB (k : Int) (s : List R) : Bool := saneB s && (decide (s.length = 0) || (decide (0 ≤ leastR s) && decide (greatR s < cnt k)))
def leafB (f : LF) : Bool := if f.sp = true then (f.u == 0) && (setB 0 f.a && setB 0 f.b) else decide (0 < cnt f.u) && (setB f.u f.a && decide (f.b.length = 0))
theorem setB_iff (k : Int) (s : List R) : setB k s = true ↔ sane s ∧ (s = [] ∨ (0 ≤ leastR s ∧ greatR s < cnt k)) := by
 unfold setB
 rw [Bool.and_eq_true, Bool.or_eq_true, Bool.and_eq_true, decide_eq_true_iff, decide_eq_true_iff, decide_eq_true_iff, List.length_eq_zero_iff]
 unfold saneB
 rw [decide_eq_true_iff]
theorem least_le {s : List R} (h : sane s) : ∀ r ∈ s, leastR s ≤ r.1 := by
 intro r hr
 cases s with
 | nil => cases hr
 | cons q t =>
  show q.1 ≤ r.1
  rcases List.mem_cons.1 hr with rfl | h2
  ·exact Int.le_refl _
  ·obtain ⟨o1, o2, o3⟩ := sane_ok (sane_tail h) r h2
   obtain ⟨p1, p2, p3⟩ := sane_head h
   have := sane_beyond h r.1 ⟨r, h2, Int.le_refl _, o1, o2, by omega⟩
   omega
theorem great_ge {s : List R} (h : sane s) : ∀ r ∈ s, r.2 ≤ greatR s := by
 intro r hr
 obtain ⟨i, hi, e⟩ := List.getElem_of_mem hr
 have := sane_up h i (s.length - 1) (by omega) (by omega)
 unfold greatR
 have e2 : at_ s i = r := by unfold at_; simp [List.getD, hi, e]
 rw [e2] at this
 exact this
theorem setB_mem {k : Int} {s : List R} (h : setB k s = true) {n : Int} (m : memR s n) : 0 ≤ n ∧ n < cnt k := by
 obtain ⟨sn, e | ⟨h1, h2⟩⟩ := (setB_iff k s).1 h
 ·subst e; exact absurd m (memR_nil n)
 ·obtain ⟨r, hr, g1, g2, _⟩ := m
  have := least_le sn r hr
  have := great_ge sn r hr
  omega
theorem setB_units {k : Int} {s : List R} (h : setB k s = true) : unitsR k s = s := by
 refine sane_ext (unitsR_sane k s) ((setB_iff k s).1 h).1 fun n => ?_
 rw [unitsR_mem]
 exact ⟨fun g => g.1, fun g => ⟨g, setB_mem h g⟩⟩
theorem least_any (v : Value) (l : List R) (w : World) (hv : RunsAt w v l) (h0 : 0 < l.length) :
  Calls Tryz.prog 143 #[v] w fun e w' => e = .returned (.int .i64 (leastR l)) ∧ w = w' := by
 rcases hv with ⟨_, _, _, e⟩ | ⟨b0, off, cap, rfl, hc, hm, hx⟩
 ·rw [e] at h0; simp at h0
 obtain ⟨d1, d2⟩ := hx 0 h0
 have z : (0 : Int) < (l.length : Int) := by omega
 rw [show (at_ l 0).1 = leastR l from rfl] at d1
 simp only [Nat.zero_mul, Nat.add_zero] at d1
 generalize leastR l = x at *
 clear hx hc hm d2
 go_enter Tryz.func143, Tryz.ntmps143
 go_wp2
 go_ret
 exact ⟨rfl, rfl⟩
theorem greatest_any (v : Value) (l : List R) (w : World) (hv : RunsAt w v l) (h0 : 0 < l.length) (hn : l.length ≤ 1000000) :
  Calls Tryz.prog 142 #[v] w fun e w' => e = .returned (.int .i64 (greatR l)) ∧ w = w' := by
 rcases hv with ⟨_, _, _, e⟩ | ⟨b0, off, cap, rfl, hc, hm, hx⟩
 ·rw [e] at h0; simp at h0
 obtain ⟨m, hm1⟩ : ∃ m, l.length = m + 1 := ⟨l.length - 1, by omega⟩
 obtain ⟨d1, d2⟩ := hx m (by omega)
 rw [show (at_ l m).2 = greatR l by unfold greatR; rw [hm1]; rfl] at d2
 rw [hm1]
 have z : (m : Int) < (m : Int) + 1 := by omega
 have z0 : (0 : Int) ≤ (m : Int) := by omega
 have z2 : (m : Int) ≤ 1000000 := by omega
 generalize greatR l = x at *
 clear hx hc hm d1 hm1
 go_enter Tryz.func142, Tryz.ntmps142
 go_wp2
 go_ret
 exact ⟨rfl, rfl⟩
theorem isSet_any (v : Value) (l : List R) (k : Int) (w : World) (hv : RunsAt w v l) (hl : I64R l) (hn : l.length ≤ 1000000) (U : TabUC w) :
  Calls Tryz.prog 190 #[v, .int .i64 k] w fun e w' => e = .returned (.bool (setB k l)) ∧ Kp w w' := by
 have C := Hd (sane_any v l w hv hl)
 have L := Hd (fun w1 (kk : Kp w w1) h0 => least_any v l w1 (hv.kp kk) h0)
 have G := Hd (fun w1 (kk : Kp w w1) h0 => greatest_any v l w1 (hv.kp kk) h0 hn)
 have N := Hd (fun w1 (kk : Kp w w1) => count_any k w1 (U.kp kk))
 have E : setB k l = (saneB l && (decide (l.length = 0) || (decide (0 ≤ leastR l) && decide (greatR l < cnt k)))) := rfl
 rw [E]
 clear E
 obtain ⟨ad, cp, rfl⟩ := hv.slice
 clear hv hl U
 generalize saneB l = s at *
 generalize leastR l = x at *
 generalize greatR l = y at *
 generalize cnt k = m at *
 cases s with
 | false =>
  go_enter Tryz.func190, Tryz.ntmps190
  go_wp2_with fail
  refine (C.out).mono ?_
  rintro e w1 ⟨rfl, kk⟩
  have K := Hd kk
  clear kk C
  go_wp2
  go_ret
  exact ⟨rfl, K.out⟩
 | true =>
  by_cases h0 : l.length = 0
  ·have q : ((l.length : Int) == 0) = true := by rw [h0]; rfl
   rw [decide_eq_true h0]
   clear h0 L G N
   go_enter Tryz.func190, Tryz.ntmps190
   go_wp2_with fail
   refine (C.out).mono ?_
   rintro e w1 ⟨rfl, kk⟩
   have K := Hd kk
   clear kk C
   go_wp2
   go_ret
   exact ⟨rfl, K.out⟩
  ·have q : ((l.length : Int) == 0) = false := beq_eq_false_iff_ne.2 (by omega)
   rw [decide_eq_false h0]
   by_cases hx : 0 ≤ x
   ·have qx : decide (0 ≤ x) = true := decide_eq_true hx
    rw [qx]
    obtain ⟨t, ht⟩ : ∃ t, decide (y < m) = t := ⟨_, rfl⟩
    rw [ht]
    go_enter Tryz.func190, Tryz.ntmps190
    go_wp2_with fail
    refine (C.out).mono ?_
    rintro e w1 ⟨rfl, kk⟩
    have K := Hd kk
    clear kk C
    go_wp2_with fail
    refine (L.out _ K.out (by omega)).mono ?_
    rintro e w' ⟨rfl, rfl⟩
    go_wp2_with fail
    refine (G.out _ K.out (by omega)).mono ?_
    rintro e w' ⟨rfl, rfl⟩
    go_wp2_with fail
    refine (N.out _ K.out).mono ?_
    rintro e w' ⟨rfl, rfl⟩
    go_wp2
    go_ret
    exact ⟨rfl, K.out⟩
   ·have qx : decide (0 ≤ x) = false := decide_eq_false hx
    rw [qx]
    go_enter Tryz.func190, Tryz.ntmps190
    go_wp2_with fail
    refine (C.out).mono ?_
    rintro e w1 ⟨rfl, kk⟩
    have K := Hd kk
    clear kk C
    go_wp2_with fail
    refine (L.out _ K.out (by omega)).mono ?_
    rintro e w' ⟨rfl, rfl⟩
    go_wp2
    go_ret
    exact ⟨rfl, K.out⟩
def leafV (f : LF) (va vb : Value) : Value := .agg #[.bool f.sp, .int .i64 f.u, va, vb]
theorem leafSane_any (f : LF) (va vb : Value) (w : World) (ha : RunsAt w va f.a) (hb : RunsAt w vb f.b) (ia : I64R f.a) (ib : I64R f.b) (na : f.a.length ≤ 1000000) (nb : f.b.length ≤ 1000000) (U : TabUC w) :
  Calls Tryz.prog 141 #[leafV f va vb] w fun e w' => e = .returned (.bool (leafB f)) ∧ Kp w w' := by
 obtain ⟨sp, u, a, b⟩ := f
 obtain ⟨ad, ca, rfl⟩ := ha.slice
 obtain ⟨bd, cb, rfl⟩ := hb.slice
 unfold leafV
 simp only at ha hb ia ib na nb ⊢
 cases sp with
 | true =>
  have E : leafB ⟨true, u, a, b⟩ = ((u == 0) && (setB 0 a && setB 0 b)) := rfl
  rw [E]
  have CA := Hd (fun w1 (kk : Kp w w1) => isSet_any _ a 0 w1 (ha.kp kk) ia na (U.kp kk))
  have CB := Hd (fun w1 (kk : Kp w w1) => isSet_any _ b 0 w1 (hb.kp kk) ib nb (U.kp kk))
  clear ha hb ia ib U E
  generalize setB 0 a = sa at *
  generalize setB 0 b = sb at *
  have K0 := Hd (Kp.alloc w (.cells #[.bool true, .int .i64 u, .slice ad a.length ca, .slice bd b.length cb] 44))
  by_cases hu : u = 0
  ·subst hu
   cases sa with
   | true =>
    go_enter Tryz.func141, Tryz.ntmps141
    go_wp2_with fail
    refine (CA.out _ K0.out).mono ?_
    rintro e w1 ⟨rfl, kk⟩
    have c3 := (Below.cell (p := ⟨w.heap.size, 3, none⟩) kk (by simp)).trans (show _ = some (.slice bd b.length cb) by simp)
    have K1 := Hd (K0.out.trans kk)
    clear kk
    go_wp2_with fail
    refine (CB.out _ K1.out).mono ?_
    rintro e w2 ⟨rfl, kk⟩
    have K2 := Hd (K1.out.trans kk)
    clear kk
    go_wp2
    go_ret
    exact ⟨rfl, K2.out⟩
   | false =>
    go_enter Tryz.func141, Tryz.ntmps141
    go_wp2_with fail
    refine (CA.out _ K0.out).mono ?_
    rintro e w1 ⟨rfl, kk⟩
    have K1 := Hd (K0.out.trans kk)
    clear kk
    go_wp2
    go_ret
    exact ⟨rfl, K1.out⟩
  ·have q : (u == 0) = false := beq_eq_false_iff_ne.2 hu
   go_enter Tryz.func141, Tryz.ntmps141
   go_wp2
   go_ret
   exact ⟨by rw [q]; rfl, K0.out⟩
 | false =>
  have E : leafB ⟨false, u, a, b⟩ = (decide (0 < cnt u) && (setB u a && decide (b.length = 0))) := rfl
  rw [E]
  have CN := Hd (fun w1 (kk : Kp w w1) => count_any u w1 (U.kp kk))
  have CA := Hd (fun w1 (kk : Kp w w1) => isSet_any _ a u w1 (ha.kp kk) ia na (U.kp kk))
  clear ha hb ia ib U E
  generalize setB u a = sa at *
  generalize cnt u = m at *
  have K0 := Hd (Kp.alloc w (.cells #[.bool false, .int .i64 u, .slice ad a.length ca, .slice bd b.length cb] 44))
  by_cases hm : 0 < m
  ·have qm : decide (0 < m) = true := decide_eq_true hm
   rw [qm]
   cases sa with
   | true =>
    obtain ⟨z, hz⟩ : ∃ z, decide (b.length = 0) = z := ⟨_, rfl⟩
    have q : ((b.length : Int) == 0) = z := by
     rw [← hz]
     by_cases h : b.length = 0
     ·rw [decide_eq_true h, h]; rfl
     ·rw [decide_eq_false h]; exact beq_eq_false_iff_ne.2 (by omega)
    rw [hz]
    clear hz
    go_enter Tryz.func141, Tryz.ntmps141
    go_wp2_with fail
    refine (CN.out _ K0.out).mono ?_
    rintro e w' ⟨rfl, rfl⟩
    go_wp2_with fail
    refine (CA.out _ K0.out).mono ?_
    rintro e w1 ⟨rfl, kk⟩
    have c3 := (Below.cell (p := ⟨w.heap.size, 3, none⟩) kk (by simp)).trans (show _ = some (.slice bd b.length cb) by simp)
    have K1 := Hd (K0.out.trans kk)
    clear kk
    go_wp2
    go_ret
    exact ⟨by simp [q], K1.out⟩
   | false =>
    go_enter Tryz.func141, Tryz.ntmps141
    go_wp2_with fail
    refine (CN.out _ K0.out).mono ?_
    rintro e w' ⟨rfl, rfl⟩
    go_wp2_with fail
    refine (CA.out _ K0.out).mono ?_
    rintro e w1 ⟨rfl, kk⟩
    have K1 := Hd (K0.out.trans kk)
    clear kk
    go_wp2
    go_ret
    exact ⟨rfl, K1.out⟩
  ·have qm : decide (0 < m) = false := decide_eq_false hm
   rw [qm]
   go_enter Tryz.func141, Tryz.ntmps141
   go_wp2_with fail
   refine (CN.out _ K0.out).mono ?_
   rintro e w' ⟨rfl, rfl⟩
   go_wp2
   go_ret
   exact ⟨rfl, K0.out⟩
inductive Fam where
 | units (k : Int) (s : List R)
 | span (s e : List R)
theorem greatR_i64 {l : List R} (h : I64R l) (h0 : 0 < l.length) : -9223372036854775808 ≤ greatR l ∧ greatR l ≤ 9223372036854775807 := by
 have := h.at_ (i := l.length - 1) (by omega)
 exact ⟨this.2.2.1, this.2.2.2⟩
theorem leastR_i64 {l : List R} (h : I64R l) (h0 : 0 < l.length) : -9223372036854775808 ≤ leastR l ∧ leastR l ≤ 9223372036854775807 := by
 have := h.at_ (i := 0) (by omega)
 exact ⟨this.1, this.2.1⟩
def famR (f : LF) : Fam := if leafB f = true then (if f.sp = true then (if f.a.length = 0 ∨ f.b.length = 0 then .span [] [] else .span (interR f.a [(0, greatR f.b)]) (interR f.b [(leastR f.a, 3652424)])) else .units f.u f.a) else .units 0 []
def FamAt (w : World) (v : Value) : Fam → Prop
 | .units k s => ∃ ad c, v = .iface 105 (.agg #[.int .i64 k, .slice ad s.length c]) ∧ RunsAt w (.slice ad s.length c) s
 | .span s e => ∃ ad c bd d, v = .iface 108 (.agg #[.slice ad s.length c, .slice bd e.length d]) ∧ RunsAt w (.slice ad s.length c) s ∧ RunsAt w (.slice bd e.length d) e
theorem fam_no (f : LF) (hf : leafB f = false) (va vb : Value) (w : World) (ha : RunsAt w va f.a) (hb : RunsAt w vb f.b) (ia : I64R f.a) (ib : I64R f.b) (na : f.a.length ≤ 1000000) (nb : f.b.length ≤ 1000000) (U : TabUC w) :
  Calls Tryz.prog 86 #[leafV f va vb] w fun e w' => ∃ v, e = .returned v ∧ FamAt w' v (famR f) ∧ Kp w w' := by
 have C := Hd (fun w1 (kk : Kp w w1) => leafSane_any f va vb w1 (ha.kp kk) (hb.kp kk) ia ib na nb (U.kp kk))
 rw [hf] at C
 have E : famR f = .units 0 [] := by unfold famR; rw [hf]; rfl
 rw [E]
 obtain ⟨sp, u, a, b⟩ := f
 obtain ⟨ad, ca, rfl⟩ := ha.slice
 obtain ⟨bd, cb, rfl⟩ := hb.slice
 unfold leafV at C ⊢
 simp only at ha hb ia ib na nb C ⊢
 have K0 := Hd (Kp.alloc w (.cells #[.bool sp, .int .i64 u, .slice ad a.length ca, .slice bd b.length cb] 44))
 clear ha hb ia ib U hf E
 go_enter Tryz.func86, Tryz.ntmps86
 go_wp2_with fail
 refine (C.out _ K0.out).mono ?_
 rintro e w1 ⟨rfl, kk⟩
 have K1 := Hd (K0.out.trans kk)
 clear kk
 go_wp2
 go_ret
 exact ⟨_, rfl, ⟨none, 0, rfl, .inl ⟨_, _, rfl, rfl⟩⟩, K1.out⟩
theorem fam_units (f : LF) (hf : leafB f = true) (hs : f.sp = false) (va vb : Value) (w : World) (ha : RunsAt w va f.a) (hb : RunsAt w vb f.b) (ia : I64R f.a) (ib : I64R f.b) (na : f.a.length ≤ 1000000) (nb : f.b.length ≤ 1000000) (U : TabUC w) :
  Calls Tryz.prog 86 #[leafV f va vb] w fun e w' => ∃ v, e = .returned v ∧ FamAt w' v (famR f) ∧ Kp w w' := by
 have C := Hd (fun w1 (kk : Kp w w1) => leafSane_any f va vb w1 (ha.kp kk) (hb.kp kk) ia ib na nb (U.kp kk))
 rw [hf] at C
 have E : famR f = .units f.u f.a := by unfold famR; rw [if_pos hf, hs]; rfl
 rw [E]
 obtain ⟨sp, u, a, b⟩ := f
 simp only at hs
 subst hs
 obtain ⟨ad, ca, rfl⟩ := ha.slice
 obtain ⟨bd, cb, rfl⟩ := hb.slice
 unfold leafV at C ⊢
 simp only at ha hb ia ib na nb C ⊢
 have K0 := Hd (Kp.alloc w (.cells #[.bool false, .int .i64 u, .slice ad a.length ca, .slice bd b.length cb] 44))
 have HA := Hd ha
 clear ha hb ia ib U hf E
 go_enter Tryz.func86, Tryz.ntmps86
 go_wp2_with fail
 refine (C.out _ K0.out).mono ?_
 rintro e w1 ⟨rfl, kk⟩
 have c0 := (Below.cell (p := ⟨w.heap.size, 0, none⟩) kk (by simp)).trans (show _ = some (.bool false) by simp)
 have c1 := (Below.cell (p := ⟨w.heap.size, 1, none⟩) kk (by simp)).trans (show _ = some (.int .i64 u) by simp)
 have c2 := (Below.cell (p := ⟨w.heap.size, 2, none⟩) kk (by simp)).trans (show _ = some (.slice ad a.length ca) by simp)
 have c3 := (Below.cell (p := ⟨w.heap.size, 3, none⟩) kk (by simp)).trans (show _ = some (.slice bd b.length cb) by simp)
 have K1 := Hd (K0.out.trans kk)
 clear kk C
 go_wp2
 go_ret
 exact ⟨_, rfl, ⟨ad, ca, rfl, HA.out.kp K1.out⟩, K1.out⟩
theorem fam_none (f : LF) (hf : leafB f = true) (hs : f.sp = true) (h0 : f.a.length = 0 ∨ f.b.length = 0) (va vb : Value) (w : World) (ha : RunsAt w va f.a) (hb : RunsAt w vb f.b) (ia : I64R f.a) (ib : I64R f.b) (na : f.a.length ≤ 1000000) (nb : f.b.length ≤ 1000000) (U : TabUC w) :
  Calls Tryz.prog 86 #[leafV f va vb] w fun e w' => ∃ v, e = .returned v ∧ FamAt w' v (famR f) ∧ Kp w w' := by
 have C := Hd (fun w1 (kk : Kp w w1) => leafSane_any f va vb w1 (ha.kp kk) (hb.kp kk) ia ib na nb (U.kp kk))
 rw [hf] at C
 have E : famR f = .span [] [] := by unfold famR; rw [if_pos hf, if_pos hs, if_pos h0]
 rw [E]
 obtain ⟨sp, u, a, b⟩ := f
 simp only at hs h0
 subst hs
 obtain ⟨ad, ca, rfl⟩ := ha.slice
 obtain ⟨bd, cb, rfl⟩ := hb.slice
 unfold leafV at C ⊢
 simp only at ha hb ia ib na nb C ⊢
 have K0 := Hd (Kp.alloc w (.cells #[.bool true, .int .i64 u, .slice ad a.length ca, .slice bd b.length cb] 44))
 clear ha hb ia ib U hf E
 obtain ⟨z, hz⟩ : ∃ z, ((a.length : Int) == 0) = z := ⟨_, rfl⟩
 have H0 := Hd h0
 clear h0
 cases z with
 | true =>
  go_enter Tryz.func86, Tryz.ntmps86
  go_wp2_with fail
  refine (C.out _ K0.out).mono ?_
  rintro e w1 ⟨rfl, kk⟩
  have c0 := (Below.cell (p := ⟨w.heap.size, 0, none⟩) kk (by simp)).trans (show _ = some (.bool true) by simp)
  have c1 := (Below.cell (p := ⟨w.heap.size, 1, none⟩) kk (by simp)).trans (show _ = some (.int .i64 u) by simp)
  have c2 := (Below.cell (p := ⟨w.heap.size, 2, none⟩) kk (by simp)).trans (show _ = some (.slice ad a.length ca) by simp)
  have c3 := (Below.cell (p := ⟨w.heap.size, 3, none⟩) kk (by simp)).trans (show _ = some (.slice bd b.length cb) by simp)
  have K1 := Hd (K0.out.trans kk)
  clear kk C
  go_wp2
  go_ret
  exact ⟨_, rfl, ⟨none, 0, none, 0, rfl, .inl ⟨_, _, rfl, rfl⟩, .inl ⟨_, _, rfl, rfl⟩⟩, K1.out⟩
 | false =>
  have hb0 : ((b.length : Int) == 0) = true := by
   have h1 := beq_eq_false_iff_ne.1 hz
   have h2 : b.length = 0 := by rcases H0.out with h | h <;> omega
   rw [h2]; rfl
  go_enter Tryz.func86, Tryz.ntmps86
  go_wp2_with fail
  refine (C.out _ K0.out).mono ?_
  rintro e w1 ⟨rfl, kk⟩
  have c0 := (Below.cell (p := ⟨w.heap.size, 0, none⟩) kk (by simp)).trans (show _ = some (.bool true) by simp)
  have c1 := (Below.cell (p := ⟨w.heap.size, 1, none⟩) kk (by simp)).trans (show _ = some (.int .i64 u) by simp)
  have c2 := (Below.cell (p := ⟨w.heap.size, 2, none⟩) kk (by simp)).trans (show _ = some (.slice ad a.length ca) by simp)
  have c3 := (Below.cell (p := ⟨w.heap.size, 3, none⟩) kk (by simp)).trans (show _ = some (.slice bd b.length cb) by simp)
  have K1 := Hd (K0.out.trans kk)
  clear kk C
  go_wp2
  go_ret
  exact ⟨_, rfl, ⟨none, 0, none, 0, rfl, .inl ⟨_, _, rfl, rfl⟩, .inl ⟨_, _, rfl, rfl⟩⟩, K1.out⟩
theorem fam_span (f : LF) (hf : leafB f = true) (hs : f.sp = true) (ha0 : f.a.length ≠ 0) (hb0 : f.b.length ≠ 0) (va vb : Value) (w : World) (ha : RunsAt w va f.a) (hb : RunsAt w vb f.b) (ia : I64R f.a) (ib : I64R f.b) (na : f.a.length ≤ 1000000) (nb : f.b.length ≤ 1000000) (U : TabUC w) :
  Calls Tryz.prog 86 #[leafV f va vb] w fun e w' => ∃ v, e = .returned v ∧ FamAt w' v (famR f) ∧ Kp w w' := by
 have C := Hd (fun w1 (kk : Kp w w1) => leafSane_any f va vb w1 (ha.kp kk) (hb.kp kk) ia ib na nb (U.kp kk))
 rw [hf] at C
 have E : famR f = .span (interR f.a [(0, greatR f.b)]) (interR f.b [(leastR f.a, 3652424)]) := by unfold famR; rw [if_pos hf, if_pos hs, if_neg (by omega)]
 rw [E]
 have G1 := greatR_i64 ib (by omega)
 have G2 := leastR_i64 ia (by omega)
 obtain ⟨sp, u, a, b⟩ := f
 simp only at hs ha0 hb0 G1 G2
 subst hs
 obtain ⟨ad, ca, rfl⟩ := ha.slice
 obtain ⟨bd, cb, rfl⟩ := hb.slice
 unfold leafV at C ⊢
 simp only at ha hb ia ib na nb C ⊢
 have K0 := Hd (Kp.alloc w (.cells #[.bool true, .int .i64 u, .slice ad a.length ca, .slice bd b.length cb] 44))
 have P1 := Hd (fun w1 (kk : Kp w w1) => clip_any _ a 0 (greatR b) w1 (ha.kp kk) ia na (i64_one (by omega) (by omega) G1.1 G1.2))
 have P2 := Hd (fun w1 (kk : Kp w w1) => clip_any _ b (leastR a) 3652424 w1 (hb.kp kk) ib nb (i64_one G2.1 G2.2 (by omega) (by omega)))
 have Q1 := Hd (fun w1 (kk : Kp w w1) => greatest_any _ b w1 (hb.kp kk) (by omega) nb)
 have Q2 := Hd (fun w1 (kk : Kp w w1) => least_any _ a w1 (ha.kp kk) (by omega))
 have z1 : ((a.length : Int) == 0) = false := beq_eq_false_iff_ne.2 (by omega)
 have z2 : ((b.length : Int) == 0) = false := beq_eq_false_iff_ne.2 (by omega)
 clear ha hb ia ib U hf E ha0 hb0 G1 G2
 generalize interR a [(0, greatR b)] = X1 at *
 generalize interR b [(leastR a, 3652424)] = X2 at *
 generalize greatR b = g at *
 generalize leastR a = m at *
 go_enter Tryz.func86, Tryz.ntmps86
 go_wp2_with fail
 refine (C.out _ K0.out).mono ?_
 rintro e w1 ⟨rfl, kk⟩
 have c0 := (Below.cell (p := ⟨w.heap.size, 0, none⟩) kk (by simp)).trans (show _ = some (.bool true) by simp)
 have c1 := (Below.cell (p := ⟨w.heap.size, 1, none⟩) kk (by simp)).trans (show _ = some (.int .i64 u) by simp)
 have c2 := (Below.cell (p := ⟨w.heap.size, 2, none⟩) kk (by simp)).trans (show _ = some (.slice ad a.length ca) by simp)
 have c3 := (Below.cell (p := ⟨w.heap.size, 3, none⟩) kk (by simp)).trans (show _ = some (.slice bd b.length cb) by simp)
 have K1 := Hd (K0.out.trans kk)
 clear kk C
 have hB : w.heap.size < w1.heap.size := World.block_lt_of_cell? _ _ c2
 have KS := Hd (fun w' (k : Kp w1 w') => show w'.cell? ⟨w.heap.size, 2, none⟩ = some (.slice ad a.length ca) ∧ w'.cell? ⟨w.heap.size, 3, none⟩ = some (.slice bd b.length cb) ∧ Kp w1 w' from
  ⟨(Below.cell (p := ⟨w.heap.size, 2, none⟩) k hB).trans c2, (Below.cell (p := ⟨w.heap.size, 3, none⟩) k hB).trans c3, k⟩)
 go_wp2_with fail
 go_region_held3 (fun w' => w'.cell? ⟨w.heap.size, 2, none⟩ = some (.slice ad a.length ca) ∧ w'.cell? ⟨w.heap.size, 3, none⟩ = some (.slice bd b.length cb) ∧ Kp w1 w') (first | exact KS.out _ kw)
  (first | (go_at_call 142; refine (Q1.out _ (K1.out.trans (Kp.drew _))).mono ?_; rintro e w' ⟨rfl, rfl⟩) | (go_at_call 143; first | (refine (Q2.out _ (K1.out.trans k2)).mono ?_; rintro e w' ⟨rfl, rfl⟩) | (refine (Q2.out _ (K1.out.trans (Kp.drew _))).mono ?_; rintro e w' ⟨rfl, rfl⟩)) | (go_at_call 79; first | (refine (P1.out _ (K1.out.trans (Kp.drew _))).mono ?_; rintro e w' ⟨v1, rfl, own1, k1⟩; obtain ⟨a1, s1, rfl⟩ := own_slice own1; have k2 := (Kp.drew w1).trans k1; clear P1) | (refine (P2.out _ (K1.out.trans k2)).mono ?_; rintro e w' ⟨v2, rfl, own2, k3⟩; obtain ⟨a2, s2, rfl⟩ := own_slice own2; have k4 := k2.trans k3)))
 have R1 := Hd ((runsAt_own own1).kp k3)
 have R2 := Hd (runsAt_own own2)
 have KK := Hd (K1.out.trans k4)
 clear own1 own2 k1 k2 k3 k4
 go_wp2
 go_ret
 exact ⟨_, rfl, ⟨_, _, _, _, rfl, R1.out, R2.out⟩, KK.out⟩
structure LeafOk (w : World) (f : LF) (va vb : Value) : Prop where
 a : RunsAt w va f.a
 b : RunsAt w vb f.b
 ia : I64R f.a
 ib : I64R f.b
 na : f.a.length ≤ 1000
 nb : f.b.length ≤ 1000
theorem LeafOk.kp {w w' : World} {f : LF} {va vb : Value} (h : LeafOk w f va vb) (k : Kp w w') : LeafOk w' f va vb := ⟨h.a.kp k, h.b.kp k, h.ia, h.ib, h.na, h.nb⟩
def emptyF : Fam → Bool
 | .units _ s => decide (s.length = 0)
 | .span s _ => decide (s.length = 0)
theorem fam_any (f : LF) (va vb : Value) (w : World) (h : LeafOk w f va vb) (U : TabUC w) :
  Calls Tryz.prog 86 #[leafV f va vb] w fun e w' => ∃ v, e = .returned v ∧ FamAt w' v (famR f) ∧ Kp w w' := by
 have na : f.a.length ≤ 1000000 := by have := h.na; omega
 have nb : f.b.length ≤ 1000000 := by have := h.nb; omega
 rcases Bool.eq_false_or_eq_true (leafB f) with hf | hf
 ·rcases Bool.eq_false_or_eq_true f.sp with hs | hs
  ·by_cases h0 : f.a.length = 0 ∨ f.b.length = 0
   ·exact fam_none f hf hs h0 va vb w h.a h.b h.ia h.ib na nb U
   ·exact fam_span f hf hs (by omega) (by omega) va vb w h.a h.b h.ia h.ib na nb U
  ·exact fam_units f hf hs va vb w h.a h.b h.ia h.ib na nb U
 ·exact fam_no f hf va vb w h.a h.b h.ia h.ib na nb U
theorem leafEmpty_any (f : LF) (va vb : Value) (w : World) (h : LeafOk w f va vb) (U : TabUC w) :
  Calls Tryz.prog 51 #[leafV f va vb] w fun e w' => e = .returned (.bool (emptyF (famR f))) ∧ Kp w w' := by
 have C := Hd (fun w1 (kk : Kp w w1) => fam_any f va vb w1 (h.kp kk) (U.kp kk))
 obtain ⟨sp, u, a, b⟩ := f
 obtain ⟨ad, ca, rfl⟩ := h.a.slice
 obtain ⟨bd, cb, rfl⟩ := h.b.slice
 unfold leafV at C ⊢
 simp only at C ⊢
 have K0 := Hd (Kp.alloc w (.cells #[.bool sp, .int .i64 u, .slice ad a.length ca, .slice bd b.length cb] 44))
 generalize famR ⟨sp, u, a, b⟩ = F at *
 clear h U
 have E : ∀ n : Nat, ((n : Int) == 0) = decide (n = 0) := fun n => by
  by_cases h : n = 0
  ·subst h; rfl
  ·rw [decide_eq_false h]; exact beq_eq_false_iff_ne.2 (by omega)
 cases F with
 | units k s =>
  have EE := Hd (E s.length)
  clear E
  have hm : ∀ (k : Int) (ad : Option Addr) (n c : Nat) (w : World), (method 321 105 (.agg #[.int .i64 k, .slice ad n c]) "lustrum/leaf.isEmpty").run Tryz.prog w = .ok (267, .agg #[.int .i64 k, .slice ad n c]) w := fun _ _ _ _ _ => by kernel_rfl
  go_enter Tryz.func51, Tryz.ntmps51
  go_wp2_with fail
  refine (C.out _ K0.out).mono ?_
  rintro e w1 ⟨v, rfl, ⟨ad1, c1, rfl, RS⟩, kk⟩
  have K1 := Hd (K0.out.trans kk)
  clear kk RS C
  go_wp2
  go_ret
  exact ⟨ret_bool EE.out, K1.out.trans (Kp.alloc _ _)⟩
 | span s t =>
  have EE := Hd (E s.length)
  clear E
  have hm : ∀ (ad bd : Option Addr) (n c m d : Nat) (w : World), (method 321 108 (.agg #[.slice ad n c, .slice bd m d]) "lustrum/leaf.isEmpty").run Tryz.prog w = .ok (268, .agg #[.slice ad n c, .slice bd m d]) w := fun _ _ _ _ _ _ _ => by kernel_rfl
  go_enter Tryz.func51, Tryz.ntmps51
  go_wp2_with fail
  refine (C.out _ K0.out).mono ?_
  rintro e w1 ⟨v, rfl, ⟨ad1, c1, bd1, d1, rfl, RS, RT⟩, kk⟩
  have K1 := Hd (K0.out.trans kk)
  clear kk RS RT C
  go_wp2
  go_ret
  exact ⟨ret_bool EE.out, K1.out.trans (Kp.alloc _ _)⟩
theorem has_mem {s : List R} (h : sane s) (n : Int) : hasB s n = true ↔ memR s n := by
 have := hasB_nf s n
 rwa [nf_of_sane h] at this
theorem memR_at {s : List R} (h : sane s) {i : Nat} (hi : i < s.length) : memR s (at_ s i).1 ∧ memR s (at_ s i).2 := by
 have o := sane_ok h _ (at_mem hi)
 unfold okR at o
 exact ⟨⟨_, at_mem hi, by omega, by omega, by omega, by omega⟩, ⟨_, at_mem hi, by omega, by omega, by omega, by omega⟩⟩
theorem mem_pos {s : List R} {n : Int} (h : memR s n) : 0 < s.length := by
 obtain ⟨r, hr, _⟩ := h
 exact List.length_pos_of_mem hr
theorem least_mem {s : List R} (h : sane s) (h0 : 0 < s.length) : memR s (leastR s) := (memR_at h h0).1
theorem great_mem {s : List R} (h : sane s) (h0 : 0 < s.length) : memR s (greatR s) := (memR_at h (by omega)).2
theorem least_min {s : List R} (h : sane s) {n : Int} (m : memR s n) : leastR s ≤ n := by
 obtain ⟨r, hr, a, b, _⟩ := m
 have := least_le h r hr
 omega
theorem great_max {s : List R} (h : sane s) {n : Int} (m : memR s n) : n ≤ greatR s := by
 obtain ⟨r, hr, a, b, _⟩ := m
 have := great_ge h r hr
 omega
def FOK : Fam → Prop
 | .units k s => setB k s = true
 | .span s e => setB 0 s = true ∧ setB 0 e = true ∧ (∀ n, memR s n → ∃ m, memR e m ∧ n ≤ m) ∧ (∀ m, memR e m → ∃ n, memR s n ∧ n ≤ m)
theorem setB_nil (k : Int) : setB k [] = true := (setB_iff k []).2 ⟨trivial, .inl rfl⟩
theorem setB_of {k : Int} {s : List R} (h : sane s) (g : ∀ n, memR s n → 0 ≤ n ∧ n < cnt k) : setB k s = true := by
 refine (setB_iff k s).2 ⟨h, ?_⟩
 by_cases h0 : s.length = 0
 ·exact .inl (List.length_eq_zero_iff.1 h0)
 ·have a := g _ (least_mem h (by omega))
  have b := g _ (great_mem h (by omega))
  exact .inr ⟨a.1, b.2⟩
theorem setB_sane {k : Int} {s : List R} (h : setB k s = true) : sane s := ((setB_iff k s).1 h).1
theorem cnt_zero : cnt 0 = 3652425 := rfl
theorem memR_one (lo hi' n : Int) : memR [(lo, hi')] n ↔ lo ≤ n ∧ n ≤ hi' ∧ -1099511627776 ≤ n ∧ n ≤ 1099511627776 := by
 rw [memR_cons]
 exact ⟨fun h => h.elim id (fun h => absurd h (memR_nil n)), .inl⟩
theorem leafB_units {f : LF} (h : leafB f = true) (hs : f.sp = false) : 0 < cnt f.u ∧ setB f.u f.a = true ∧ f.b = [] := by
 unfold leafB at h
 rw [hs] at h
 simp only [Bool.false_eq_true, if_false, Bool.and_eq_true, decide_eq_true_eq, List.length_eq_zero_iff] at h
 exact h
theorem leafB_span {f : LF} (h : leafB f = true) (hs : f.sp = true) : f.u = 0 ∧ setB 0 f.a = true ∧ setB 0 f.b = true := by
 unfold leafB at h
 rw [if_pos hs] at h
 simp only [Bool.and_eq_true, beq_iff_eq] at h
 exact h
theorem famR_no {f : LF} (h : leafB f = false) : famR f = .units 0 [] := by unfold famR; rw [h]; rfl
theorem famR_units {f : LF} (h : leafB f = true) (hs : f.sp = false) : famR f = .units f.u f.a := by unfold famR; rw [if_pos h, hs]; rfl
theorem famR_none {f : LF} (h : leafB f = true) (hs : f.sp = true) (h0 : f.a.length = 0 ∨ f.b.length = 0) : famR f = .span [] [] := by unfold famR; rw [if_pos h, if_pos hs, if_pos h0]
theorem famR_span {f : LF} (h : leafB f = true) (hs : f.sp = true) (h0 : ¬ (f.a.length = 0 ∨ f.b.length = 0)) : famR f = .span (interR f.a [(0, greatR f.b)]) (interR f.b [(leastR f.a, 3652424)]) := by unfold famR; rw [if_pos h, if_pos hs, if_neg h0]
theorem span_mem {f : LF} (h : leafB f = true) (hs : f.sp = true) (h0 : ¬ (f.a.length = 0 ∨ f.b.length = 0)) (n : Int) :
  (memR (interR f.a [(0, greatR f.b)]) n ↔ memR f.a n ∧ n ≤ greatR f.b) ∧ (memR (interR f.b [(leastR f.a, 3652424)]) n ↔ memR f.b n ∧ leastR f.a ≤ n) := by
 obtain ⟨_, ha, hb⟩ := leafB_span h hs
 rw [interR_mem, interR_mem, memR_one, memR_one]
 refine ⟨⟨fun ⟨a, b⟩ => ⟨a, b.2.1⟩, fun ⟨a, b⟩ => ⟨a, ?_⟩⟩, ⟨fun ⟨a, b⟩ => ⟨a, b.1⟩, fun ⟨a, b⟩ => ⟨a, ?_⟩⟩⟩
 ·have := setB_mem ha a
  rw [cnt_zero] at this
  omega
 ·have := setB_mem hb a
  rw [cnt_zero] at this
  omega
theorem famR_ok (f : LF) : FOK (famR f) := by
 rcases Bool.eq_false_or_eq_true (leafB f) with h | h
 ·rcases Bool.eq_false_or_eq_true f.sp with hs | hs
  ·obtain ⟨_, ha, hb⟩ := leafB_span h hs
   by_cases h0 : f.a.length = 0 ∨ f.b.length = 0
   ·rw [famR_none h hs h0]
    exact ⟨setB_nil 0, setB_nil 0, fun n m => absurd m (memR_nil n), fun n m => absurd m (memR_nil n)⟩
   ·rw [famR_span h hs h0]
    have sm := span_mem h hs h0
    have am := least_mem (setB_sane ha) (by omega)
    have bm := great_mem (setB_sane hb) (by omega)
    refine ⟨setB_of (interR_sane _ _) fun n m => setB_mem ha ((sm n).1.1 m).1, setB_of (interR_sane _ _) fun n m => setB_mem hb ((sm n).2.1 m).1, fun n m => ?_, fun n m => ?_⟩
    ·have q := (sm n).1.1 m
     have := least_min (setB_sane ha) q.1
     exact ⟨_, (sm _).2.2 ⟨bm, by omega⟩, q.2⟩
    ·have q := (sm n).2.1 m
     have := great_max (setB_sane hb) q.1
     exact ⟨_, (sm _).1.2 ⟨am, by omega⟩, q.2⟩
  ·rw [famR_units h hs]
   exact (leafB_units h hs).2.1
 ·rw [famR_no h]
  exact setB_nil 0
noncomputable def hasF : Fam → Int → Int → Bool
 | .units k s, S, T => okO k S && (hasB s (ofV k S) && ((firV k (ofV k S) == S) && (lasV k (ofV k S) == T)))
 | .span s e, S, T => decide (S ≤ T) && (hasB s S && hasB e T)
noncomputable def startsB : Fam → Bool
 | .units k s => edgB k s
 | .span s e => decide (s.length ≤ 400)
noncomputable def startsR : Fam → List R
 | .units k s => edgR (firV k) k s
 | .span s e => if s.length ≤ 400 then s else []
noncomputable def endsB : Fam → Bool
 | .units k s => edgB k s
 | .span s e => decide (e.length ≤ 400)
noncomputable def endsR : Fam → List R
 | .units k s => edgR (lasV k) k s
 | .span s e => if e.length ≤ 400 then e else []
def lf0 : LF := ⟨false, 0, [], []⟩
def lfOf : Fam → LF
 | .units k s => if s.length = 0 then lf0 else ⟨false, k, s, []⟩
 | .span s e => if s.length = 0 then lf0 else ⟨true, 0, s, e⟩
noncomputable def pairsF : Fam → List (Int × Int)
 | .units k s => (nums s).map fun i => (firV k i, lasV k i)
 | .span s e => (nums s).flatMap fun x => ((nums e).filter fun t => decide (x ≤ t)).map fun t => (x, t)
theorem hasF_units {k : Int} {s : List R} (h : setB k s = true) (S T : Int) : hasF (.units k s) S T = true ↔ ∃ i, memR s i ∧ fst k i = S ∧ lst k i = T := by
 have sn := setB_sane h
 unfold hasF
 simp only [Bool.and_eq_true, beq_iff_eq, has_mem sn]
 constructor
 ·rintro ⟨o, m, e1, e2⟩
  rw [ofV_yes o] at m e1 e2
  obtain ⟨a, b⟩ := setB_mem h m
  rw [firV_yes a b] at e1
  rw [lasV_yes a b] at e2
  exact ⟨_, m, e1, e2⟩
 ·rintro ⟨i, m, rfl, rfl⟩
  obtain ⟨a, b⟩ := setB_mem h m
  obtain ⟨_, sb, _⟩ := span_bd a b
  obtain ⟨o, e⟩ := okO_of a b (Int.le_refl _) sb
  have e2 : ofV k (fst k i) = i := by rw [ofV_yes o, e]
  rw [e2]
  exact ⟨o, m, firV_yes a b, lasV_yes a b⟩
theorem hasF_span {s e : List R} (hs : sane s) (he : sane e) (S T : Int) : hasF (.span s e) S T = true ↔ S ≤ T ∧ memR s S ∧ memR e T := by
 unfold hasF
 simp only [Bool.and_eq_true, decide_eq_true_eq, has_mem hs, has_mem he]
theorem mem_pairs {F : Fam} (h : FOK F) (S T : Int) : (S, T) ∈ pairsF F ↔ hasF F S T = true := by
 cases F with
 | units k s =>
  have sn := setB_sane h
  rw [hasF_units h]
  unfold pairsF
  simp only [List.mem_map, nums_mem (sane_ok sn), Prod.mk.injEq]
  constructor
  ·rintro ⟨i, m, e1, e2⟩
   obtain ⟨a, b⟩ := setB_mem h m
   rw [firV_yes a b] at e1
   rw [lasV_yes a b] at e2
   exact ⟨i, m, e1, e2⟩
  ·rintro ⟨i, m, e1, e2⟩
   obtain ⟨a, b⟩ := setB_mem h m
   exact ⟨i, m, by rw [firV_yes a b]; exact e1, by rw [lasV_yes a b]; exact e2⟩
 | span s e =>
  have ss := setB_sane h.1
  have se := setB_sane h.2.1
  rw [hasF_span ss se]
  unfold pairsF
  simp only [List.mem_flatMap, List.mem_map, List.mem_filter, nums_mem (sane_ok ss), nums_mem (sane_ok se), Prod.mk.injEq, decide_eq_true_eq]
  constructor
  ·rintro ⟨x, mx, t, ⟨mt, hx⟩, rfl, rfl⟩
   exact ⟨hx, mx, mt⟩
  ·rintro ⟨h1, h2, h3⟩
   exact ⟨S, h2, T, ⟨h3, h1⟩, rfl, rfl⟩
def ltP (a b : Int × Int) : Prop := a.1 < b.1 ∨ a.1 = b.1 ∧ a.2 < b.2
theorem empty_iff {F : Fam} (h : FOK F) : emptyF F = true ↔ ∀ S T, hasF F S T = false := by
 cases F with
 | units k s =>
  have sn := setB_sane h
  unfold emptyF
  rw [decide_eq_true_iff]
  constructor
  ·intro h0 S T
   rw [Bool.eq_false_iff]
   intro g
   obtain ⟨i, m, _⟩ := (hasF_units h S T).1 g
   have := mem_pos m
   omega
  ·intro g
   rcases Nat.eq_zero_or_pos s.length with h0 | h0
   ·exact h0
   ·have := (hasF_units h _ _).2 ⟨_, least_mem sn h0, rfl, rfl⟩
    rw [g] at this
    cases this
 | span s e =>
  have ss := setB_sane h.1
  have se := setB_sane h.2.1
  unfold emptyF
  rw [decide_eq_true_iff]
  constructor
  ·intro h0 S T
   rw [Bool.eq_false_iff]
   intro g
   have := mem_pos ((hasF_span ss se S T).1 g).2.1
   omega
  ·intro g
   rcases Nat.eq_zero_or_pos s.length with h0 | h0
   ·exact h0
   ·obtain ⟨m, hm, hle⟩ := h.2.2.1 _ (least_mem ss h0)
    have := (hasF_span ss se _ _).2 ⟨hle, least_mem ss h0, hm⟩
    rw [g] at this
    cases this
theorem starts_sane {F : Fam} (h : FOK F) : sane (startsR F) := by
 cases F with
 | units k s => exact edgR_fsane k s
 | span s e =>
  show sane (if s.length ≤ 400 then s else [])
  split
  ·exact setB_sane h.1
  ·exact trivial
theorem ends_sane {F : Fam} (h : FOK F) : sane (endsR F) := by
 cases F with
 | units k s => exact edgR_lsane k s
 | span s e =>
  show sane (if e.length ≤ 400 then e else [])
  split
  ·exact setB_sane h.2.1
  ·exact trivial
theorem starts_len (F : Fam) : (startsR F).length ≤ 400 := by
 cases F with
 | units k s => exact edgR_len _ k s
 | span s e =>
  show (if s.length ≤ 400 then s else []).length ≤ 400
  split
  ·assumption
  ·simp
theorem ends_len (F : Fam) : (endsR F).length ≤ 400 := by
 cases F with
 | units k s => exact edgR_len _ k s
 | span s e =>
  show (if e.length ≤ 400 then e else []).length ≤ 400
  split
  ·assumption
  ·simp
theorem starts_mem {F : Fam} (h : FOK F) (hb : startsB F = true) (d : Int) : memR (startsR F) d ↔ ∃ T, hasF F d T = true := by
 cases F with
 | units k s =>
  simp only [hasF_units h]
  rw [show startsR (.units k s) = edgR (firV k) k s from rfl, edgR_fmem hb]
  constructor
  ·rintro ⟨o, m, e⟩
   exact ⟨_, _, m, e, rfl⟩
  ·rintro ⟨T, i, m, e, _⟩
   obtain ⟨a, b⟩ := setB_mem h m
   have sb := span_bd a b
   obtain ⟨o, u⟩ := okO_of a b (day := d) (by omega) (by omega)
   exact ⟨o, by rw [u]; exact m, by rw [u]; exact e⟩
 | span s e =>
  have ss := setB_sane h.1
  have se := setB_sane h.2.1
  unfold startsB at hb
  rw [decide_eq_true_iff] at hb
  show memR (if s.length ≤ 400 then s else []) d ↔ _
  rw [if_pos hb]
  simp only [hasF_span ss se]
  constructor
  ·intro m
   obtain ⟨t, mt, hle⟩ := h.2.2.1 _ m
   exact ⟨t, hle, m, mt⟩
  ·rintro ⟨t, _, m, _⟩
   exact m
theorem lfOf_u0 {k : Int} {s : List R} (h : s.length = 0) : lfOf (.units k s) = lf0 := if_pos h
theorem lfOf_u1 {k : Int} {s : List R} (h : ¬ s.length = 0) : lfOf (.units k s) = ⟨false, k, s, []⟩ := if_neg h
theorem lfOf_s0 {s e : List R} (h : s.length = 0) : lfOf (.span s e) = lf0 := if_pos h
theorem lfOf_s1 {s e : List R} (h : ¬ s.length = 0) : lfOf (.span s e) = ⟨true, 0, s, e⟩ := if_neg h
theorem emptyF_u (k : Int) (s : List R) : emptyF (.units k s) = decide (s.length = 0) := rfl
theorem emptyF_s (s e : List R) : emptyF (.span s e) = decide (s.length = 0) := rfl
theorem lfOf_none {F : Fam} (h0 : emptyF F = true) : lfOf F = lf0 := by
 cases F with
 | units k s => rw [emptyF_u, decide_eq_true_iff] at h0; exact lfOf_u0 h0
 | span s e => rw [emptyF_s, decide_eq_true_iff] at h0; exact lfOf_s0 h0
theorem asUU (v : Value) (w : World) : (Instr.typeAssert (.iface 105 v) 102 105 true).run Tryz.prog w = .ok (.tuple #[v, .bool true]) w := by kernel_rfl
theorem asSU (v : Value) (w : World) : (Instr.typeAssert (.iface 108 v) 102 105 true).run Tryz.prog w = .ok (.tuple #[.agg #[.int .i64 0, .slice none 0 0], .bool false]) w := by kernel_rfl
theorem asSS (v : Value) (w : World) : (Instr.typeAssert (.iface 108 v) 102 108 true).run Tryz.prog w = .ok (.tuple #[v, .bool true]) w := by kernel_rfl
def FLen (n : Nat) : Fam → Prop
 | .units k s => s.length ≤ n
 | .span s e => s.length ≤ n ∧ e.length ≤ n
theorem famR_len {f : LF} (na : f.a.length ≤ 1000) (nb : f.b.length ≤ 1000) : FLen 1000 (famR f) := by
 unfold famR
 split
 ·split
  ·split
   ·exact ⟨by simp, by simp⟩
   ·exact ⟨Nat.le_trans (interR_bd (q := 1) na (by simp)) (by omega), Nat.le_trans (interR_bd (q := 1) nb (by simp)) (by omega)⟩
  ·exact na
 ·simp [FLen]
theorem len_zero (n : Nat) : ((n : Int) == 0) = decide (n = 0) := by
 by_cases h : n = 0
 ·subst h; rfl
 ·rw [decide_eq_false h]; exact beq_eq_false_iff_ne.2 (by omega)
theorem lf0_ok (w : World) : LeafOk w lf0 (.slice none 0 0) (.slice none 0 0) := ⟨.inl ⟨_, _, rfl, rfl⟩, .inl ⟨_, _, rfl, rfl⟩, fun r h => (by cases h), fun r h => (by cases h), by decide, by decide⟩
theorem RunsAt.off {w w' : World} {v : Value} {l : List R} (h : RunsAt w v l) {B : Nat} {t : TypeId} {x : Bool} {y : Int} {a b : Option Addr} {n c m d : Nat} {fr : Nat × Nat}
  (hB : w.heap[B]? = some (.cells #[.bool x, .int .i64 y, .slice a n c, .slice b m d] t fr)) (hw : ∀ k o, k ≠ B → w'.cell? ⟨k, o, none⟩ = w.cell? ⟨k, o, none⟩) : RunsAt w' v l := by
 rcases h with h | ⟨g, off, cap, e, h1, h2, h3⟩
 ·exact .inl h
 ·refine .inr ⟨g, off, cap, e, h1, h2, fun i hi => ?_⟩
  obtain ⟨c1, c2⟩ := h3 i hi
  have hg : g ≠ B := by
   intro e
   subst e
   have q1 : #[Value.bool x, .int .i64 y, .slice a n c, .slice b m d][off + i * 2]? = some (.int .i64 (at_ l i).1) := by
    rw [← c1]; simp [World.cell?, hB]
   have q2 : #[Value.bool x, .int .i64 y, .slice a n c, .slice b m d][off + i * 2 + 1]? = some (.int .i64 (at_ l i).2) := by
    rw [← c2]; simp [World.cell?, hB]
   generalize off + i * 2 = j at q1 q2
   match j with
   | 0 => simp at q1
   | 1 => simp at q2
   | 2 => simp at q1
   | 3 => simp at q1
   | (j + 4) => simp at q1
  exact ⟨(hw _ _ hg).trans c1, (hw _ _ hg).trans c2⟩
theorem set4_cell (w : World) (B : Nat) (x0 x1 x2 x3 : Value) (k o : Nat) (h : k ≠ B) :
  ((((w.setCell ⟨B, 0, none⟩ x0).setCell ⟨B, 1, none⟩ x1).setCell ⟨B, 2, none⟩ x2).setCell ⟨B, 3, none⟩ x3).cell? ⟨k, o, none⟩ = w.cell? ⟨k, o, none⟩ := by
 rw [World.cell?_setCell_other _ _ _ _ (fun e => h (by cases e; rfl)), World.cell?_setCell_other _ _ _ _ (fun e => h (by cases e; rfl)), World.cell?_setCell_other _ _ _ _ (fun e => h (by cases e; rfl)), World.cell?_setCell_other _ _ _ _ (fun e => h (by cases e; rfl))]
theorem set4_read {w : World} {B : Nat} {t : TypeId} {y0 y1 y2 y3 : Value} {fr : Nat × Nat} (hB : w.heap[B]? = some (.cells #[y0, y1, y2, y3] t fr)) (x0 x1 x2 x3 : Value) {w' : World}
  (k : Kp ((((w.setCell ⟨B, 0, none⟩ x0).setCell ⟨B, 1, none⟩ x1).setCell ⟨B, 2, none⟩ x2).setCell ⟨B, 3, none⟩ x3) w') :
  w'.cell? ⟨B, 0, none⟩ = some x0 ∧ w'.cell? ⟨B, 1, none⟩ = some x1 ∧ w'.cell? ⟨B, 2, none⟩ = some x2 ∧ w'.cell? ⟨B, 3, none⟩ = some x3 := by
 obtain ⟨hl, _⟩ := Array.getElem?_eq_some_iff.1 hB
 have e : ((((w.setCell ⟨B, 0, none⟩ x0).setCell ⟨B, 1, none⟩ x1).setCell ⟨B, 2, none⟩ x2).setCell ⟨B, 3, none⟩ x3).heap[B]? = some (.cells #[x0, x1, x2, x3] t fr) := by
  simp [World.setCell, Array.getElem?_modify, hB]
 refine ⟨cell_up k ?_, cell_up k ?_, cell_up k ?_, cell_up k ?_⟩ <;> simp [World.cell?, e]
theorem set4_below {w w1 : World} (k : Kp w w1) (B : Nat) (hB : w.heap.size ≤ B) (x0 x1 x2 x3 : Value) :
  Kp w ((((w1.setCell ⟨B, 0, none⟩ x0).setCell ⟨B, 1, none⟩ x1).setCell ⟨B, 2, none⟩ x2).setCell ⟨B, 3, none⟩ x3) :=
 Below.setCell (Below.setCell (Below.setCell (Below.setCell k (p := ⟨B, 0, none⟩) hB _) (p := ⟨B, 1, none⟩) hB _) (p := ⟨B, 2, none⟩) hB _) (p := ⟨B, 3, none⟩) hB _
end Go.Proofs.YtcooaoponkkpeaaGreatDoor
