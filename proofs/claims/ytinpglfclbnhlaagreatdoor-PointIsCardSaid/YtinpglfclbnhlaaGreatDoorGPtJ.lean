/-
  Joined: PtJ, PtK, PtL, PtQ, PtM, PtN, PtO, PtS, PtT.
-/
import Derived.RangeFuncNested
import Derived.RangeFuncBound
import Derived.RangeFuncCalls
import Derived.RangeFuncLeaves
import Derived.Shelf.AbstractIn
import Derived.Shelf.RegionOpen
import Derived.OwnWalkIn
import Derived.TacticsInMore
import Derived.LoopNIn
import Derived.LoopIn
import Derived.Sort.QuietIn
import Derived.Test.YtinpglfclbnhlaaGreatDoorGPtA
import Derived.Test.YtinpglfclbnhlaaGreatDoorImgE
import Derived.Test.YtinpglfclbnhlaaGreatDoorGImgB
namespace Go.Proofs.YtinpglfclbnhlaaGreatDoor
open Go.RowKit Go.Shelf
set_option linter.unusedVariables false
set_option linter.unusedSimpArgs false
attribute [local go_sem] Oper.semAt_some
theorem partsL_next (most : Int) (years parts : List R) (j : Nat) (h : j < years.length) : partsL most (years.take (j + 1)) parts = partsL most (years.take j) parts ++ partY most parts (at_ years j) := by
  unfold partsL
  rw [take_at years j h]
  simp
theorem partsL_pre (most : Int) (years parts : List R) (j : Nat) : partsL most (years.take j) parts <+: partsL most years parts := by
  conv => rhs; rw [← List.take_append_drop j years]
  unfold partsL
  rw [List.flatMap_append]
  exact List.prefix_append _ _
theorem upL_pre (lo : Int) {m n : Nat} (h : m ≤ n) (g : Int → List R) : (upL lo m).flatMap g <+: (upL lo n).flatMap g := by
  obtain ⟨q, rfl⟩ : ∃ q, n = m + q := ⟨_, (Nat.add_sub_of_le h).symm⟩
  unfold upL
  rw [List.range_add, List.map_append, List.flatMap_append]
  exact List.prefix_append _ _
theorem take_pre1 (a l : List R) {p : Nat} (h : p < l.length) : a ++ l.take p ++ [at_ l p] <+: a ++ l := by
  rw [List.append_assoc, ← take_at l p h]
  exact (List.prefix_append_right_inj _).2 (List.take_prefix _ _)
theorem at_map (parts : List R) (f : R → R) {p : Nat} (h : p < parts.length) : at_ (parts.map f) p = f (at_ parts p) := by
  unfold at_
  simp [List.getD, h]
/-- how far the iterator is, when it yields -/
theorem parts_part (most : Int) (years parts : List R) (hs : parts ≠ [(1, most)]) (j m p : Nat) (h : j < years.length) (hm : m < ((at_ years j).2 - (at_ years j).1 + 1).toNat) (hp : p < parts.length) :
    partsL most (years.take j) parts ++ (upL (at_ years j).1 m).flatMap (partR most parts) ++ (partR most parts ((at_ years j).1 + (m : Int))).take p ++ [(most * ((at_ years j).1 + (m : Int)) + (at_ parts p).1 - 1, most * ((at_ years j).1 + (m : Int)) + (at_ parts p).2 - 1)] <+: partsL most years parts := by
  refine List.IsPrefix.trans ?_ (partsL_pre most years parts (j + 1))
  rw [partsL_next most years parts j h]
  unfold partY
  rw [if_neg hs, ofR_upL]
  have e := at_map parts (fun q => (most * ((at_ years j).1 + (m : Int)) + q.1 - 1, most * ((at_ years j).1 + (m : Int)) + q.2 - 1)) hp
  rw [show partR most parts ((at_ years j).1 + (m : Int)) = parts.map (fun q => (most * ((at_ years j).1 + (m : Int)) + q.1 - 1, most * ((at_ years j).1 + (m : Int)) + q.2 - 1)) from rfl]
  rw [← e]
  refine List.IsPrefix.trans (take_pre1 _ _ (by rw [List.length_map]; exact hp)) ?_
  rw [List.append_assoc]
  refine (List.prefix_append_right_inj _).2 ?_
  have e2 : (upL (at_ years j).1 m).flatMap (partR most parts) ++ parts.map (fun q => (most * ((at_ years j).1 + (m : Int)) + q.1 - 1, most * ((at_ years j).1 + (m : Int)) + q.2 - 1)) = (upL (at_ years j).1 (m + 1)).flatMap (partR most parts) := by
    rw [upL_succ, List.flatMap_append, List.flatMap_singleton]
    rfl
  rw [e2]
  exact upL_pre _ hm _
theorem parts_one (most : Int) (years parts : List R) (hs : parts = [(1, most)]) (j : Nat) (h : j < years.length) :
    partsL most (years.take j) parts ++ [(most * (at_ years j).1, most * (at_ years j).2 + most - 1)] = partsL most (years.take (j + 1)) parts := by
  rw [partsL_next most years parts j h]
  unfold partY
  rw [if_pos hs]
theorem parts_year (most : Int) (years parts : List R) (hs : parts ≠ [(1, most)]) (j : Nat) (h : j < years.length) :
    partsL most (years.take j) parts ++ (upL (at_ years j).1 ((at_ years j).2 - (at_ years j).1 + 1).toNat).flatMap (partR most parts) = partsL most (years.take (j + 1)) parts := by
  rw [partsL_next most years parts j h]
  unfold partY
  rw [if_neg hs, ofR_upL]
theorem single_of {parts : List R} {most : Int} (h : parts.length = 1) (h1 : (at_ parts 0).1 = 1) (h2 : (at_ parts 0).2 = most) : parts = [(1, most)] := by
  match parts, h with
  | [q], _ =>
    unfold at_ at h1 h2
    simp at h1 h2
    rw [← h1, ← h2]
theorem WFB.not {B k : Nat} {W : World} {o : Obj} (q : WFB B W) (h : W.heap[k]? = some o) (hc : o.isCells = false) : ¬ dirty B W k := by
  intro d
  obtain ⟨c, t, fr, a⟩ := q k d
  rw [h] at a
  cases a
  cases hc
/-- all others stay: cells, and what is not in X -/
structure IKC (B : Nat) (X : Nat → Prop) (W W' : World) : Prop where
  size : W.heap.size ≤ W'.heap.size
  wf : WFB B W → WFB B W'
  same : ∀ (k : Nat) (o : Obj), W.heap[k]? = some o → (o.isCells = true ∨ ¬ X k) → ¬ dirty B W k → W'.heap[k]? = some o ∧ ¬ dirty B W' k
theorem IKB.toC {B : Nat} {X : Nat → Prop} {W W' : World} (h : IKB B W W') : IKC B X W W' := ⟨h.size, h.wf, fun k o a _ d => h.same k o a d⟩
theorem IKC.refl (B : Nat) {X : Nat → Prop} (W : World) : IKC B X W W := ⟨Nat.le_refl _, fun h => h, fun _ _ h _ d => ⟨h, d⟩⟩
theorem IKC.trans {B : Nat} {X : Nat → Prop} {U V W : World} (h : IKC B X U V) (k : IKC B X V W) : IKC B X U W :=
  ⟨Nat.le_trans h.size k.size, fun q => k.wf (h.wf q), fun i o hi hc hd => by obtain ⟨a, b⟩ := h.same i o hi hc hd; exact k.same i o a hc b⟩
theorem IKC.kp {B : Nat} {X : Nat → Prop} {W W' : World} (h : Kp W W') (hB : B < W.heap.size) : IKC B X W W' := (IKB.kp h hB).toC
theorem IKC.more {B : Nat} {X Y : Nat → Prop} {W W' : World} (h : IKC B X W W') (hXY : ∀ k, X k → Y k) : IKC B Y W W' :=
  ⟨h.size, h.wf, fun k o hk hc hd => h.same k o hk (hc.imp id (fun n x => n (hXY k x))) hd⟩
theorem IKC.keep {B : Nat} {X : Nat → Prop} {W W' : World} (h : IKC B X W W') {k : Nat} {c : Array Value} {t : TypeId} {fr : Nat × Nat} (hk : W.heap[k]? = some (.cells c t fr)) (hd : ¬ dirty B W k) : W'.heap[k]? = some (.cells c t fr) ∧ ¬ dirty B W' k := h.same k _ hk (.inl rfl) hd
theorem IKC.putObj {B : Nat} {X : Nat → Prop} (W : World) (l : Nat) (o o' : Obj) (hl : B < l) (hX : X l) (h : W.heap[l]? = some o) (hc : o.isCells = false) : IKC B X W (W.putObj l o') := by
  have e : (W.putObj l o').heap[B]? = W.heap[B]? := World.putObj_heap_other (by omega)
  have sz : (W.putObj l o').heap.size = W.heap.size := by simp
  refine ⟨by omega, fun q k d => ?_, fun k x hk hx hd => ⟨?_, fun hd' => hd ?_⟩⟩
  · obtain ⟨c, t, fr, a⟩ := q k (dirty_same e d)
    have : k ≠ l := fun e' => by
      subst e'
      rw [h] at a
      cases a
      cases hc
    exact ⟨c, t, fr, (World.putObj_heap_other (by omega)).trans a⟩
  · have : k ≠ l := fun e' => by
      subst e'
      rw [h] at hk
      cases hk
      rcases hx with hx | hx
      · rw [hc] at hx; cases hx
      · exact hx hX
    rw [World.putObj_heap_other (by omega)]
    exact hk
  · rcases hd' with e' | ⟨v, t, fr, a, b⟩
    · exact .inl e'
    · exact .inr ⟨v, t, fr, by rw [← e]; exact a, b⟩
theorem IKC.cell {B : Nat} {X : Nat → Prop} {W W' : World} (h : IKC B X W W') {a : Addr} {x : Value} (hx : W.cell? a = some x) (hd : ¬ dirty B W a.block) : W'.cell? a = some x := by
  obtain ⟨o, ho, hc⟩ := cells_of_cell hx
  exact (World.cell?_of_block ((h.same _ _ ho (.inl hc) hd).1.trans ho.symm)).trans hx
theorem IKC.runs {B : Nat} {X : Nat → Prop} {W W' : World} (h : IKC B X W W') {v : Value} {l : List R} (hv : RunsAt W v l) (hd : ∀ b off cap, v = .slice (some ⟨b, off, none⟩) l.length cap → l ≠ [] → ¬ dirty B W b) : RunsAt W' v l := by
  rcases hv with hv | ⟨b, off, cap, e, h1, h2, h3⟩
  · exact .inl hv
  · refine .inr ⟨b, off, cap, e, h1, h2, fun i hi => ?_⟩
    have d := hd b off cap e (fun e' => by rw [e'] at hi; simp at hi)
    exact ⟨h.cell (h3 i hi).1 d, h.cell (h3 i hi).2 d⟩
theorem ikb_new {B : Nat} {X : Nat → Prop} {W0 W : World} (h : IKC B X W0 W) (q : WFB B W0) (hB : B < W0.heap.size) (o : Obj) : IKC B X W0 (W.alloc o) ∧ ¬ dirty B (W.alloc o) W.heap.size :=
  ⟨h.trans (IKC.kp (Kp.alloc W o) (Nat.lt_of_lt_of_le hB h.size)), fresh_clean (h.wf q) (Nat.lt_of_lt_of_le hB h.size) o⟩
theorem kp_drewN (w : World) (k : Nat) : Kp w (w.drewN k) := ⟨rfl, rfl, rfl, Nat.le_refl _, fun _ _ => rfl⟩
theorem ikb_newD {B : Nat} {X : Nat → Prop} {W0 W : World} (h : IKC B X W0 W) (q : WFB B W0) (hB : B < W0.heap.size) (o : Obj) (k : Nat) : IKC B X W0 ((W.alloc o).drewN k) ∧ ¬ dirty B ((W.alloc o).drewN k) W.heap.size :=
  ⟨(ikb_new h q hB o).1.trans (IKC.kp (kp_drewN _ k) (Nat.lt_of_lt_of_le hB (ikb_new h q hB o).1.size)), (ikb_new h q hB o).2⟩
end Go.Proofs.YtinpglfclbnhlaaGreatDoor

namespace Go.Proofs.YtinpglfclbnhlaaGreatDoor
open Go.RowKit Go.Shelf
set_option linter.unusedVariables false
set_option linter.unusedSimpArgs false
attribute [local go_sem] Oper.semAt_some
set_option maxHeartbeats 16000000 in
set_option maxRecDepth 100000 in
theorem parts1_in12a (n : Nat) (hn : 1 ≤ n) (l By Bp Bm B0 : Nat) (X : Nat → Prop) (vy vp : Value) (years parts : List R) (J Jx : List R → World → Prop) (W : World)
    (hY : ∀ pre x W, J pre W → pre ++ [x] <+: partsL 12 years parts → YieldAt Fence.wide (n - 1) Tryz.prog l #[.agg #[.int .i64 x.1, .int .i64 x.2]] W fun e W' =>
      (e = .returned (.bool true) ∧ J (pre ++ [x]) W' ∧ IKC B0 X W W') ∨ (e = .returned (.bool false) ∧ Jx (pre ++ [x]) W'))
    (hJ : AbidesFrom W.heap.size J)
    (hRD : ∀ W', IKC B0 X W W' → W'.cell? ⟨By, 0, none⟩ = some vy ∧ W'.cell? ⟨Bp, 0, none⟩ = some vp ∧ W'.cell? ⟨Bm, 0, none⟩ = some (.int .i64 12) ∧ RunsAt W' vy years ∧ RunsAt W' vp parts)
    (hyi : Inn 0 9999 years) (hpi : Inn 1 12 parts) (hn1 : years.length ≤ 1000000) (hn2 : parts.length ≤ 1000) (hwf : WFB B0 W) (hB0 : B0 < W.heap.size) (h0 : J [] W) (hl1 : parts.length ≠ 1) :
    CallsIn Fence.wide n Tryz.prog 61 #[.func (.yield l) #[] #[], .pointer (some ⟨By, 0, none⟩), .pointer (some ⟨Bp, 0, none⟩), .pointer (some ⟨Bm, 0, none⟩)] W fun e W' => (∃ v, e = .returned v) ∧
      ((∃ ys, ys = partsL 12 years parts ∧ J ys W') ∨ (∃ pre, pre <+: partsL 12 years parts ∧ Jx pre W')) := by
  have RD := Lib.hid hRD
  have WF := Lib.hid hwf
  obtain ⟨py0, pp0, pm0, ry0, rp0⟩ := hRD W (IKC.refl _ _)
  obtain ⟨ady, cpy, rfl⟩ := ry0.slice
  obtain ⟨adp, cpp, rfl⟩ := rp0.slice
  clear hRD hwf pp0 pm0 ry0 rp0
  have hS := Lib.hid (show parts ≠ [(1, 12)] from fun e => by rw [e] at hl1; simp at hl1)
  refine callsIn_of_wp Tryz.func61 rfl trivial ?_ rfl
  simp only [Tryz.ntmps61, List.size_toArray, List.length_cons, List.length_nil, Nat.reduceAdd, Nat.reduceSub, Array.replicate_succ, Array.replicate_zero, List.push_toArray, List.append_toArray, List.nil_append, List.cons_append]
  gi_wp2
  go_simp
  gi_wp2
  gi_loopw [12] (fun i wr => ∃ j : Nat, j ≤ years.length ∧ i = .int .i64 j ∧ J (partsL 12 (years.take j) parts) wr ∧ Hid (IKC B0 X W wr)) (fun i _ => years.length - (intOf i).toNat)
  case atStart => exact ⟨0, Nat.zero_le _, rfl, h0, Lib.hid (IKC.refl _ _)⟩
  case round =>
    obtain ⟨j, hj, rfl, hJs, K2⟩ := hrel
    obtain ⟨wo, HW⟩ : ∃ x, x = wr := ⟨_, rfl⟩
    subst HW
    by_cases hlt : j < years.length
    · obtain ⟨py, pp, pm, ry, rp⟩ := RD.out _ K2.out
      rcases ry with ⟨_, _, _, e⟩ | ⟨b0, off, cap, ev, hc, hm, hx⟩
      · rw [e] at hlt; simp at hlt
      cases ev
      obtain ⟨d1, d2⟩ := hx j hlt
      have PT := Lib.hid (fun p m a b => parts_part 12 years parts hS.out j m p hlt a b)
      have PY := Lib.hid (parts_year 12 years parts hS.out j hlt)
      obtain ⟨h1, h2, h3⟩ := hyi (at_ years j) (by unfold at_; simp [List.getD, hlt])
      clear hx hc hm
      obtain ⟨lo, hi', ee⟩ : ∃ x y, at_ years j = (x, y) := ⟨_, _, rfl⟩
      rw [ee] at d1 d2 h1 h2 h3 PT PY
      simp only at d1 d2 h1 h2 h3 PT PY
      clear ee
      have hsz := K2.out.size
      have z1 : (j : Int) < (years.length : Int) := by omega
      have hsz2 : B0 < wo.heap.size := by omega
      have K3 := Lib.hid (fun o k => ikb_newD K2.out WF.out hB0 o k)
      have hJ3 := Lib.hid (fun o k => J_kp hJ hJs ((Kp.alloc wo o).trans (kp_drewN _ k)))
      have by2 : By < wo.heap.size := World.block_lt_of_cell? _ _ py
      have bp2 : Bp < wo.heap.size := World.block_lt_of_cell? _ _ pp
      have bm2 : Bm < wo.heap.size := World.block_lt_of_cell? _ _ pm
      have g1 : ((parts.length : Int) == 1) = false := by simp; omega
      gi_wp2_with fail
      gi_quiet (fail)
      gi_wp2
      gi_loopw [7] (fun i ws => ∃ m : Nat, m ≤ (hi' - lo + 1).toNat ∧ i = .int .i64 (lo + (m : Int)) ∧ J (partsL 12 (years.take j) parts ++ (upL lo m).flatMap (partR 12 parts)) ws ∧ Hid (IKC B0 X W ws) ∧ Hid (ws.heap[wo.heap.size]? = some (.cells #[.int .i64 lo, .int .i64 hi'] 37 (0, 0)) ∧ ¬ dirty B0 ws wo.heap.size)) (fun i _ => (hi' + 1 - intOf i).toNat)
      case atStart => exact ⟨0, Nat.zero_le _, by simp, by rw [show upL lo 0 = [] from rfl, List.flatMap_nil, List.append_nil]; exact hJ3.out _ _, Lib.hid (K3.out _ _).1, Lib.hid ⟨World.alloc_heap_new _ _, (K3.out _ _).2⟩⟩
      case round =>
        obtain ⟨m, hm, rfl, hJm, K4, H4⟩ := hrel
        obtain ⟨wy, HWY⟩ : ∃ x, x = wr := ⟨_, rfl⟩
        subst HWY
        have c4 := two_cell H4.out.1
        have hsz4 := (Array.getElem?_eq_some_iff.1 H4.out.1).1
        by_cases hlm : lo + (m : Int) ≤ hi'
        · have q4 : decide (lo + (m : Int) ≤ hi') = true := decide_eq_true hlm
          have hm1 : m + 1 ≤ (hi' - lo + 1).toNat := by omega
          obtain ⟨py, pp, pm, ry, rp⟩ := RD.out _ K4.out
          have PF := Lib.hid (fun p hp => PT.out p m (by omega) hp)
          have Z0 : J (partsL 12 (years.take j) parts ++ (upL lo m).flatMap (partR 12 parts) ++ (partR 12 parts (lo + (m : Int))).take 0) wy := by rw [List.take_zero, List.append_nil]; exact hJm
          clear ry rp
          gi_wp2
          gi_loopw [59] (fun i ws => ∃ p : Nat, p ≤ parts.length ∧ i = .int .i64 p ∧ J (partsL 12 (years.take j) parts ++ (upL lo m).flatMap (partR 12 parts) ++ (partR 12 parts (lo + (m : Int))).take p) ws ∧ Hid (IKC B0 X W ws) ∧ Hid (ws.heap[wo.heap.size]? = some (.cells #[.int .i64 lo, .int .i64 hi'] 37 (0, 0)) ∧ ¬ dirty B0 ws wo.heap.size)) (fun i _ => parts.length - (intOf i).toNat)
          case atStart => exact ⟨0, Nat.zero_le _, rfl, Z0, K4, H4⟩
          case round =>
            obtain ⟨p, hp, rfl, hJp, K5, H5⟩ := hrel
            obtain ⟨wp, HWP⟩ : ∃ x, x = wr := ⟨_, rfl⟩
            subst HWP
            by_cases hlp : p < parts.length
            · obtain ⟨_, _, pm5, _, rp5⟩ := RD.out _ K5.out
              rcases rp5 with ⟨_, _, _, e⟩ | ⟨b9, off9, cap9, ev9, hc9, hm9, hx9⟩
              · rw [e] at hlp; simp at hlp
              cases ev9
              obtain ⟨e1, e2⟩ := hx9 p hlp
              have pf := PF.out p hlp
              have hq := hpi (at_ parts p) (by unfold at_; simp [List.getD, hlp])
              have tk := take_at (partR 12 parts (lo + (m : Int))) p (by unfold partR; rw [List.length_map]; exact hlp)
              rw [show at_ (partR 12 parts (lo + (m : Int))) p = _ from at_map parts (fun q => (12 * (lo + (m : Int)) + q.1 - 1, 12 * (lo + (m : Int)) + q.2 - 1)) hlp] at tk
              obtain ⟨qa, qb, eq⟩ : ∃ x y, at_ parts p = (x, y) := ⟨_, _, rfl⟩
              rw [eq] at e1 e2 hq pf tk
              simp only at e1 e2 hq pf tk
              clear hx9 hc9 hm9 eq
              have z5 : (p : Int) < (parts.length : Int) := by omega
              have HA := Lib.hid (fun o => ikb_new K5.out WF.out hB0 o)
              have H6 := Lib.hid (fun o => (IKC.kp (B := B0) (X := X) (Kp.alloc wp o) (Nat.lt_of_lt_of_le hB0 K5.out.size)).keep H5.out.1 H5.out.2)
              have hJ6 := J_kp hJ hJp (Kp.alloc wp (.cells #[.int .i64 qa, .int .i64 qb] 37))
              have hsz5 := (Array.getElem?_eq_some_iff.1 H5.out.1).1
              have pb5 : Bm < wp.heap.size := World.block_lt_of_cell? _ _ pm5
              obtain ⟨fn, tmps, assign, body, hy, hR⟩ := hY _ (12 * (lo + (m : Int)) + qa - 1, 12 * (lo + (m : Int)) + qb - 1) _ hJ6 pf
              gi_wp2
              refine hR.mono ?_
              rintro e W3 (⟨rfl, hJ7, k7⟩ | ⟨rfl, hJx⟩)
              · have K7 := Lib.hid ((HA.out _).1.trans k7)
                have H7 := Lib.hid (k7.keep (H6.out _).1 (H6.out _).2)
                clear k7 hR hy
                gi_wp2
                go_roundw
                case rel => exact ⟨p + 1, by omega, by go_num, by rw [tk, ← List.append_assoc]; exact hJ7, K7, H7⟩
                case measure => simp [intOf]; omega
              · clear hR hy
                gi_wp2
                refine bodyPost_ret (results_none rfl _ _ _) rfl ?_
                exact ⟨⟨_, rfl⟩, .inr ⟨_, pf, hJx⟩⟩
            · obtain rfl : p = parts.length := by omega
              have hJ8 : J (partsL 12 (years.take j) parts ++ (upL lo (m + 1)).flatMap (partR 12 parts)) wp := by
                rw [upL_succ, List.flatMap_append, List.flatMap_singleton, ← List.append_assoc]
                rw [show (partR 12 parts (lo + (m : Int))).take parts.length = partR 12 parts (lo + (m : Int)) from List.take_of_length_le (by unfold partR; rw [List.length_map]; exact Nat.le_refl _)] at hJp
                exact hJp
              gi_wp2
              go_roundw
              case rel => exact ⟨m + 1, hm1, by go_num, hJ8, K5, H5⟩
              case measure => simp [intOf]; omega
        · have q4 : decide (lo + (m : Int) ≤ hi') = false := decide_eq_false hlm
          have em : m = (hi' - lo + 1).toNat := by omega
          gi_wp2
          go_roundw
          case rel => exact ⟨j + 1, by omega, by go_num, by rw [← PY.out, ← em]; exact hJm, K4⟩
          case measure => simp [intOf]; omega
    · obtain rfl : j = years.length := by omega
      rw [List.take_length] at hJs
      gi_wp2
      go_end0
      exact ⟨⟨_, rfl⟩, .inl ⟨_, rfl, hJs⟩⟩
set_option maxHeartbeats 16000000 in
set_option maxRecDepth 100000 in
theorem parts1_in12b (n : Nat) (hn : 1 ≤ n) (l By Bp Bm B0 : Nat) (X : Nat → Prop) (vy vp : Value) (years parts : List R) (J Jx : List R → World → Prop) (W : World)
    (hY : ∀ pre x W, J pre W → pre ++ [x] <+: partsL 12 years parts → YieldAt Fence.wide (n - 1) Tryz.prog l #[.agg #[.int .i64 x.1, .int .i64 x.2]] W fun e W' =>
      (e = .returned (.bool true) ∧ J (pre ++ [x]) W' ∧ IKC B0 X W W') ∨ (e = .returned (.bool false) ∧ Jx (pre ++ [x]) W'))
    (hJ : AbidesFrom W.heap.size J)
    (hRD : ∀ W', IKC B0 X W W' → W'.cell? ⟨By, 0, none⟩ = some vy ∧ W'.cell? ⟨Bp, 0, none⟩ = some vp ∧ W'.cell? ⟨Bm, 0, none⟩ = some (.int .i64 12) ∧ RunsAt W' vy years ∧ RunsAt W' vp parts)
    (hyi : Inn 0 9999 years) (hpi : Inn 1 12 parts) (hn1 : years.length ≤ 1000000) (hn2 : parts.length ≤ 1000) (hwf : WFB B0 W) (hB0 : B0 < W.heap.size) (h0 : J [] W) (hl1 : parts.length = 1) (ha : (at_ parts 0).1 ≠ 1) :
    CallsIn Fence.wide n Tryz.prog 61 #[.func (.yield l) #[] #[], .pointer (some ⟨By, 0, none⟩), .pointer (some ⟨Bp, 0, none⟩), .pointer (some ⟨Bm, 0, none⟩)] W fun e W' => (∃ v, e = .returned v) ∧
      ((∃ ys, ys = partsL 12 years parts ∧ J ys W') ∨ (∃ pre, pre <+: partsL 12 years parts ∧ Jx pre W')) := by
  have RD := Lib.hid hRD
  have WF := Lib.hid hwf
  obtain ⟨py0, pp0, pm0, ry0, rp0⟩ := hRD W (IKC.refl _ _)
  obtain ⟨ady, cpy, rfl⟩ := ry0.slice
  obtain ⟨adp, cpp, rfl⟩ := rp0.slice
  clear hRD hwf pp0 pm0 ry0 rp0
  have hS := Lib.hid (show parts ≠ [(1, 12)] from fun e => by rw [e] at ha; simp [at_] at ha)
  refine callsIn_of_wp Tryz.func61 rfl trivial ?_ rfl
  simp only [Tryz.ntmps61, List.size_toArray, List.length_cons, List.length_nil, Nat.reduceAdd, Nat.reduceSub, Array.replicate_succ, Array.replicate_zero, List.push_toArray, List.append_toArray, List.nil_append, List.cons_append]
  gi_wp2
  go_simp
  gi_wp2
  gi_loopw [12] (fun i wr => ∃ j : Nat, j ≤ years.length ∧ i = .int .i64 j ∧ J (partsL 12 (years.take j) parts) wr ∧ Hid (IKC B0 X W wr)) (fun i _ => years.length - (intOf i).toNat)
  case atStart => exact ⟨0, Nat.zero_le _, rfl, h0, Lib.hid (IKC.refl _ _)⟩
  case round =>
    obtain ⟨j, hj, rfl, hJs, K2⟩ := hrel
    obtain ⟨wo, HW⟩ : ∃ x, x = wr := ⟨_, rfl⟩
    subst HW
    by_cases hlt : j < years.length
    · obtain ⟨py, pp, pm, ry, rp⟩ := RD.out _ K2.out
      rcases ry with ⟨_, _, _, e⟩ | ⟨b0, off, cap, ev, hc, hm, hx⟩
      · rw [e] at hlt; simp at hlt
      cases ev
      obtain ⟨d1, d2⟩ := hx j hlt
      have PT := Lib.hid (fun p m a b => parts_part 12 years parts hS.out j m p hlt a b)
      have PY := Lib.hid (parts_year 12 years parts hS.out j hlt)
      obtain ⟨h1, h2, h3⟩ := hyi (at_ years j) (by unfold at_; simp [List.getD, hlt])
      clear hx hc hm
      obtain ⟨lo, hi', ee⟩ : ∃ x y, at_ years j = (x, y) := ⟨_, _, rfl⟩
      rw [ee] at d1 d2 h1 h2 h3 PT PY
      simp only at d1 d2 h1 h2 h3 PT PY
      clear ee
      have hsz := K2.out.size
      have z1 : (j : Int) < (years.length : Int) := by omega
      have hsz2 : B0 < wo.heap.size := by omega
      have K3 := Lib.hid (fun o k => ikb_newD K2.out WF.out hB0 o k)
      have hJ3 := Lib.hid (fun o k => J_kp hJ hJs ((Kp.alloc wo o).trans (kp_drewN _ k)))
      have by2 : By < wo.heap.size := World.block_lt_of_cell? _ _ py
      have bp2 : Bp < wo.heap.size := World.block_lt_of_cell? _ _ pp
      have bm2 : Bm < wo.heap.size := World.block_lt_of_cell? _ _ pm
      rcases rp with ⟨_, _, _, e⟩ | ⟨b9, off9, cap9, ev9, hc9, hm9, hx9⟩
      · rw [e] at hl1; simp at hl1
      cases ev9
      obtain ⟨c1, c2⟩ := hx9 0 (by omega)
      rw [Nat.zero_mul, Nat.add_zero] at c1 c2
      have hb9 : b9 < wo.heap.size := World.block_lt_of_cell? _ _ c1
      clear hx9 hc9 hm9
      have g1 : ((parts.length : Int) == 1) = true := by rw [hl1]; rfl
      have g0 : decide (0 < parts.length) = true := by rw [hl1]; rfl
      have g00 : decide ((0 : Int) < (parts.length : Int)) = true := by rw [hl1]; rfl
      obtain ⟨pa, hpa⟩ : ∃ x, (at_ parts 0).1 = x := ⟨_, rfl⟩
      obtain ⟨pb, hpb⟩ : ∃ x, (at_ parts 0).2 = x := ⟨_, rfl⟩
      rw [hpa] at c1 ha
      rw [hpb] at c2
      clear hpa hpb
      have g2 : (pa == 1) = false := by simp; exact ha
      gi_wp2_with fail
      gi_quiet (fail)
      gi_wp2
      gi_loopw [7] (fun i ws => ∃ m : Nat, m ≤ (hi' - lo + 1).toNat ∧ i = .int .i64 (lo + (m : Int)) ∧ J (partsL 12 (years.take j) parts ++ (upL lo m).flatMap (partR 12 parts)) ws ∧ Hid (IKC B0 X W ws) ∧ Hid (ws.heap[wo.heap.size]? = some (.cells #[.int .i64 lo, .int .i64 hi'] 37 (0, 0)) ∧ ¬ dirty B0 ws wo.heap.size)) (fun i _ => (hi' + 1 - intOf i).toNat)
      case atStart => exact ⟨0, Nat.zero_le _, by simp, by rw [show upL lo 0 = [] from rfl, List.flatMap_nil, List.append_nil]; exact hJ3.out _ _, Lib.hid (K3.out _ _).1, Lib.hid ⟨World.alloc_heap_new _ _, (K3.out _ _).2⟩⟩
      case round =>
        obtain ⟨m, hm, rfl, hJm, K4, H4⟩ := hrel
        obtain ⟨wy, HWY⟩ : ∃ x, x = wr := ⟨_, rfl⟩
        subst HWY
        have c4 := two_cell H4.out.1
        have hsz4 := (Array.getElem?_eq_some_iff.1 H4.out.1).1
        by_cases hlm : lo + (m : Int) ≤ hi'
        · have q4 : decide (lo + (m : Int) ≤ hi') = true := decide_eq_true hlm
          have hm1 : m + 1 ≤ (hi' - lo + 1).toNat := by omega
          obtain ⟨py, pp, pm, ry, rp⟩ := RD.out _ K4.out
          have PF := Lib.hid (fun p hp => PT.out p m (by omega) hp)
          have Z0 : J (partsL 12 (years.take j) parts ++ (upL lo m).flatMap (partR 12 parts) ++ (partR 12 parts (lo + (m : Int))).take 0) wy := by rw [List.take_zero, List.append_nil]; exact hJm
          clear ry rp
          gi_wp2
          gi_loopw [59] (fun i ws => ∃ p : Nat, p ≤ parts.length ∧ i = .int .i64 p ∧ J (partsL 12 (years.take j) parts ++ (upL lo m).flatMap (partR 12 parts) ++ (partR 12 parts (lo + (m : Int))).take p) ws ∧ Hid (IKC B0 X W ws) ∧ Hid (ws.heap[wo.heap.size]? = some (.cells #[.int .i64 lo, .int .i64 hi'] 37 (0, 0)) ∧ ¬ dirty B0 ws wo.heap.size)) (fun i _ => parts.length - (intOf i).toNat)
          case atStart => exact ⟨0, Nat.zero_le _, rfl, Z0, K4, H4⟩
          case round =>
            obtain ⟨p, hp, rfl, hJp, K5, H5⟩ := hrel
            obtain ⟨wp, HWP⟩ : ∃ x, x = wr := ⟨_, rfl⟩
            subst HWP
            by_cases hlp : p < parts.length
            · obtain ⟨_, _, pm5, _, rp5⟩ := RD.out _ K5.out
              rcases rp5 with ⟨_, _, _, e⟩ | ⟨b9, off9, cap9, ev9, hc9, hm9, hx9⟩
              · rw [e] at hlp; simp at hlp
              cases ev9
              obtain ⟨e1, e2⟩ := hx9 p hlp
              have pf := PF.out p hlp
              have hq := hpi (at_ parts p) (by unfold at_; simp [List.getD, hlp])
              have tk := take_at (partR 12 parts (lo + (m : Int))) p (by unfold partR; rw [List.length_map]; exact hlp)
              rw [show at_ (partR 12 parts (lo + (m : Int))) p = _ from at_map parts (fun q => (12 * (lo + (m : Int)) + q.1 - 1, 12 * (lo + (m : Int)) + q.2 - 1)) hlp] at tk
              obtain ⟨qa, qb, eq⟩ : ∃ x y, at_ parts p = (x, y) := ⟨_, _, rfl⟩
              rw [eq] at e1 e2 hq pf tk
              simp only at e1 e2 hq pf tk
              clear hx9 hc9 hm9 eq
              have z5 : (p : Int) < (parts.length : Int) := by omega
              have HA := Lib.hid (fun o => ikb_new K5.out WF.out hB0 o)
              have H6 := Lib.hid (fun o => (IKC.kp (B := B0) (X := X) (Kp.alloc wp o) (Nat.lt_of_lt_of_le hB0 K5.out.size)).keep H5.out.1 H5.out.2)
              have hJ6 := J_kp hJ hJp (Kp.alloc wp (.cells #[.int .i64 qa, .int .i64 qb] 37))
              have hsz5 := (Array.getElem?_eq_some_iff.1 H5.out.1).1
              have pb5 : Bm < wp.heap.size := World.block_lt_of_cell? _ _ pm5
              obtain ⟨fn, tmps, assign, body, hy, hR⟩ := hY _ (12 * (lo + (m : Int)) + qa - 1, 12 * (lo + (m : Int)) + qb - 1) _ hJ6 pf
              gi_wp2
              refine hR.mono ?_
              rintro e W3 (⟨rfl, hJ7, k7⟩ | ⟨rfl, hJx⟩)
              · have K7 := Lib.hid ((HA.out _).1.trans k7)
                have H7 := Lib.hid (k7.keep (H6.out _).1 (H6.out _).2)
                clear k7 hR hy
                gi_wp2
                go_roundw
                case rel => exact ⟨p + 1, by omega, by go_num, by rw [tk, ← List.append_assoc]; exact hJ7, K7, H7⟩
                case measure => simp [intOf]; omega
              · clear hR hy
                gi_wp2
                refine bodyPost_ret (results_none rfl _ _ _) rfl ?_
                exact ⟨⟨_, rfl⟩, .inr ⟨_, pf, hJx⟩⟩
            · obtain rfl : p = parts.length := by omega
              have hJ8 : J (partsL 12 (years.take j) parts ++ (upL lo (m + 1)).flatMap (partR 12 parts)) wp := by
                rw [upL_succ, List.flatMap_append, List.flatMap_singleton, ← List.append_assoc]
                rw [show (partR 12 parts (lo + (m : Int))).take parts.length = partR 12 parts (lo + (m : Int)) from List.take_of_length_le (by unfold partR; rw [List.length_map]; exact Nat.le_refl _)] at hJp
                exact hJp
              gi_wp2
              go_roundw
              case rel => exact ⟨m + 1, hm1, by go_num, hJ8, K5, H5⟩
              case measure => simp [intOf]; omega
        · have q4 : decide (lo + (m : Int) ≤ hi') = false := decide_eq_false hlm
          have em : m = (hi' - lo + 1).toNat := by omega
          gi_wp2
          go_roundw
          case rel => exact ⟨j + 1, by omega, by go_num, by rw [← PY.out, ← em]; exact hJm, K4⟩
          case measure => simp [intOf]; omega
    · obtain rfl : j = years.length := by omega
      rw [List.take_length] at hJs
      gi_wp2
      go_end0
      exact ⟨⟨_, rfl⟩, .inl ⟨_, rfl, hJs⟩⟩
set_option maxHeartbeats 16000000 in
set_option maxRecDepth 100000 in
theorem parts1_in12c (n : Nat) (hn : 1 ≤ n) (l By Bp Bm B0 : Nat) (X : Nat → Prop) (vy vp : Value) (years parts : List R) (J Jx : List R → World → Prop) (W : World)
    (hY : ∀ pre x W, J pre W → pre ++ [x] <+: partsL 12 years parts → YieldAt Fence.wide (n - 1) Tryz.prog l #[.agg #[.int .i64 x.1, .int .i64 x.2]] W fun e W' =>
      (e = .returned (.bool true) ∧ J (pre ++ [x]) W' ∧ IKC B0 X W W') ∨ (e = .returned (.bool false) ∧ Jx (pre ++ [x]) W'))
    (hJ : AbidesFrom W.heap.size J)
    (hRD : ∀ W', IKC B0 X W W' → W'.cell? ⟨By, 0, none⟩ = some vy ∧ W'.cell? ⟨Bp, 0, none⟩ = some vp ∧ W'.cell? ⟨Bm, 0, none⟩ = some (.int .i64 12) ∧ RunsAt W' vy years ∧ RunsAt W' vp parts)
    (hyi : Inn 0 9999 years) (hpi : Inn 1 12 parts) (hn1 : years.length ≤ 1000000) (hn2 : parts.length ≤ 1000) (hwf : WFB B0 W) (hB0 : B0 < W.heap.size) (h0 : J [] W) (hl1 : parts.length = 1) (ha : (at_ parts 0).1 = 1) (hb : (at_ parts 0).2 ≠ 12) :
    CallsIn Fence.wide n Tryz.prog 61 #[.func (.yield l) #[] #[], .pointer (some ⟨By, 0, none⟩), .pointer (some ⟨Bp, 0, none⟩), .pointer (some ⟨Bm, 0, none⟩)] W fun e W' => (∃ v, e = .returned v) ∧
      ((∃ ys, ys = partsL 12 years parts ∧ J ys W') ∨ (∃ pre, pre <+: partsL 12 years parts ∧ Jx pre W')) := by
  have RD := Lib.hid hRD
  have WF := Lib.hid hwf
  obtain ⟨py0, pp0, pm0, ry0, rp0⟩ := hRD W (IKC.refl _ _)
  obtain ⟨ady, cpy, rfl⟩ := ry0.slice
  obtain ⟨adp, cpp, rfl⟩ := rp0.slice
  clear hRD hwf pp0 pm0 ry0 rp0
  have hS := Lib.hid (show parts ≠ [(1, 12)] from fun e => by rw [e] at hb; simp [at_] at hb)
  refine callsIn_of_wp Tryz.func61 rfl trivial ?_ rfl
  simp only [Tryz.ntmps61, List.size_toArray, List.length_cons, List.length_nil, Nat.reduceAdd, Nat.reduceSub, Array.replicate_succ, Array.replicate_zero, List.push_toArray, List.append_toArray, List.nil_append, List.cons_append]
  gi_wp2
  go_simp
  gi_wp2
  gi_loopw [12] (fun i wr => ∃ j : Nat, j ≤ years.length ∧ i = .int .i64 j ∧ J (partsL 12 (years.take j) parts) wr ∧ Hid (IKC B0 X W wr)) (fun i _ => years.length - (intOf i).toNat)
  case atStart => exact ⟨0, Nat.zero_le _, rfl, h0, Lib.hid (IKC.refl _ _)⟩
  case round =>
    obtain ⟨j, hj, rfl, hJs, K2⟩ := hrel
    obtain ⟨wo, HW⟩ : ∃ x, x = wr := ⟨_, rfl⟩
    subst HW
    by_cases hlt : j < years.length
    · obtain ⟨py, pp, pm, ry, rp⟩ := RD.out _ K2.out
      rcases ry with ⟨_, _, _, e⟩ | ⟨b0, off, cap, ev, hc, hm, hx⟩
      · rw [e] at hlt; simp at hlt
      cases ev
      obtain ⟨d1, d2⟩ := hx j hlt
      have PT := Lib.hid (fun p m a b => parts_part 12 years parts hS.out j m p hlt a b)
      have PY := Lib.hid (parts_year 12 years parts hS.out j hlt)
      obtain ⟨h1, h2, h3⟩ := hyi (at_ years j) (by unfold at_; simp [List.getD, hlt])
      clear hx hc hm
      obtain ⟨lo, hi', ee⟩ : ∃ x y, at_ years j = (x, y) := ⟨_, _, rfl⟩
      rw [ee] at d1 d2 h1 h2 h3 PT PY
      simp only at d1 d2 h1 h2 h3 PT PY
      clear ee
      have hsz := K2.out.size
      have z1 : (j : Int) < (years.length : Int) := by omega
      have hsz2 : B0 < wo.heap.size := by omega
      have K3 := Lib.hid (fun o k => ikb_newD K2.out WF.out hB0 o k)
      have hJ3 := Lib.hid (fun o k => J_kp hJ hJs ((Kp.alloc wo o).trans (kp_drewN _ k)))
      have by2 : By < wo.heap.size := World.block_lt_of_cell? _ _ py
      have bp2 : Bp < wo.heap.size := World.block_lt_of_cell? _ _ pp
      have bm2 : Bm < wo.heap.size := World.block_lt_of_cell? _ _ pm
      rcases rp with ⟨_, _, _, e⟩ | ⟨b9, off9, cap9, ev9, hc9, hm9, hx9⟩
      · rw [e] at hl1; simp at hl1
      cases ev9
      obtain ⟨c1, c2⟩ := hx9 0 (by omega)
      rw [Nat.zero_mul, Nat.add_zero] at c1 c2
      have hb9 : b9 < wo.heap.size := World.block_lt_of_cell? _ _ c1
      clear hx9 hc9 hm9
      have g1 : ((parts.length : Int) == 1) = true := by rw [hl1]; rfl
      have g0 : decide (0 < parts.length) = true := by rw [hl1]; rfl
      have g00 : decide ((0 : Int) < (parts.length : Int)) = true := by rw [hl1]; rfl
      obtain ⟨pa, hpa⟩ : ∃ x, (at_ parts 0).1 = x := ⟨_, rfl⟩
      obtain ⟨pb, hpb⟩ : ∃ x, (at_ parts 0).2 = x := ⟨_, rfl⟩
      rw [hpa] at c1 ha
      rw [hpb] at c2 hb
      clear hpa hpb
      have g2 : (pa == 1) = true := by simp; exact ha
      have g3 : (pb == 12) = false := by simp; exact hb
      gi_wp2_with fail
      gi_quiet (fail)
      gi_wp2
      gi_loopw [7] (fun i ws => ∃ m : Nat, m ≤ (hi' - lo + 1).toNat ∧ i = .int .i64 (lo + (m : Int)) ∧ J (partsL 12 (years.take j) parts ++ (upL lo m).flatMap (partR 12 parts)) ws ∧ Hid (IKC B0 X W ws) ∧ Hid (ws.heap[wo.heap.size]? = some (.cells #[.int .i64 lo, .int .i64 hi'] 37 (0, 0)) ∧ ¬ dirty B0 ws wo.heap.size)) (fun i _ => (hi' + 1 - intOf i).toNat)
      case atStart => exact ⟨0, Nat.zero_le _, by simp, by rw [show upL lo 0 = [] from rfl, List.flatMap_nil, List.append_nil]; exact hJ3.out _ _, Lib.hid (K3.out _ _).1, Lib.hid ⟨World.alloc_heap_new _ _, (K3.out _ _).2⟩⟩
      case round =>
        obtain ⟨m, hm, rfl, hJm, K4, H4⟩ := hrel
        obtain ⟨wy, HWY⟩ : ∃ x, x = wr := ⟨_, rfl⟩
        subst HWY
        have c4 := two_cell H4.out.1
        have hsz4 := (Array.getElem?_eq_some_iff.1 H4.out.1).1
        by_cases hlm : lo + (m : Int) ≤ hi'
        · have q4 : decide (lo + (m : Int) ≤ hi') = true := decide_eq_true hlm
          have hm1 : m + 1 ≤ (hi' - lo + 1).toNat := by omega
          obtain ⟨py, pp, pm, ry, rp⟩ := RD.out _ K4.out
          have PF := Lib.hid (fun p hp => PT.out p m (by omega) hp)
          have Z0 : J (partsL 12 (years.take j) parts ++ (upL lo m).flatMap (partR 12 parts) ++ (partR 12 parts (lo + (m : Int))).take 0) wy := by rw [List.take_zero, List.append_nil]; exact hJm
          clear ry rp
          gi_wp2
          gi_loopw [59] (fun i ws => ∃ p : Nat, p ≤ parts.length ∧ i = .int .i64 p ∧ J (partsL 12 (years.take j) parts ++ (upL lo m).flatMap (partR 12 parts) ++ (partR 12 parts (lo + (m : Int))).take p) ws ∧ Hid (IKC B0 X W ws) ∧ Hid (ws.heap[wo.heap.size]? = some (.cells #[.int .i64 lo, .int .i64 hi'] 37 (0, 0)) ∧ ¬ dirty B0 ws wo.heap.size)) (fun i _ => parts.length - (intOf i).toNat)
          case atStart => exact ⟨0, Nat.zero_le _, rfl, Z0, K4, H4⟩
          case round =>
            obtain ⟨p, hp, rfl, hJp, K5, H5⟩ := hrel
            obtain ⟨wp, HWP⟩ : ∃ x, x = wr := ⟨_, rfl⟩
            subst HWP
            by_cases hlp : p < parts.length
            · obtain ⟨_, _, pm5, _, rp5⟩ := RD.out _ K5.out
              rcases rp5 with ⟨_, _, _, e⟩ | ⟨b9, off9, cap9, ev9, hc9, hm9, hx9⟩
              · rw [e] at hlp; simp at hlp
              cases ev9
              obtain ⟨e1, e2⟩ := hx9 p hlp
              have pf := PF.out p hlp
              have hq := hpi (at_ parts p) (by unfold at_; simp [List.getD, hlp])
              have tk := take_at (partR 12 parts (lo + (m : Int))) p (by unfold partR; rw [List.length_map]; exact hlp)
              rw [show at_ (partR 12 parts (lo + (m : Int))) p = _ from at_map parts (fun q => (12 * (lo + (m : Int)) + q.1 - 1, 12 * (lo + (m : Int)) + q.2 - 1)) hlp] at tk
              obtain ⟨qa, qb, eq⟩ : ∃ x y, at_ parts p = (x, y) := ⟨_, _, rfl⟩
              rw [eq] at e1 e2 hq pf tk
              simp only at e1 e2 hq pf tk
              clear hx9 hc9 hm9 eq
              have z5 : (p : Int) < (parts.length : Int) := by omega
              have HA := Lib.hid (fun o => ikb_new K5.out WF.out hB0 o)
              have H6 := Lib.hid (fun o => (IKC.kp (B := B0) (X := X) (Kp.alloc wp o) (Nat.lt_of_lt_of_le hB0 K5.out.size)).keep H5.out.1 H5.out.2)
              have hJ6 := J_kp hJ hJp (Kp.alloc wp (.cells #[.int .i64 qa, .int .i64 qb] 37))
              have hsz5 := (Array.getElem?_eq_some_iff.1 H5.out.1).1
              have pb5 : Bm < wp.heap.size := World.block_lt_of_cell? _ _ pm5
              obtain ⟨fn, tmps, assign, body, hy, hR⟩ := hY _ (12 * (lo + (m : Int)) + qa - 1, 12 * (lo + (m : Int)) + qb - 1) _ hJ6 pf
              gi_wp2
              refine hR.mono ?_
              rintro e W3 (⟨rfl, hJ7, k7⟩ | ⟨rfl, hJx⟩)
              · have K7 := Lib.hid ((HA.out _).1.trans k7)
                have H7 := Lib.hid (k7.keep (H6.out _).1 (H6.out _).2)
                clear k7 hR hy
                gi_wp2
                go_roundw
                case rel => exact ⟨p + 1, by omega, by go_num, by rw [tk, ← List.append_assoc]; exact hJ7, K7, H7⟩
                case measure => simp [intOf]; omega
              · clear hR hy
                gi_wp2
                refine bodyPost_ret (results_none rfl _ _ _) rfl ?_
                exact ⟨⟨_, rfl⟩, .inr ⟨_, pf, hJx⟩⟩
            · obtain rfl : p = parts.length := by omega
              have hJ8 : J (partsL 12 (years.take j) parts ++ (upL lo (m + 1)).flatMap (partR 12 parts)) wp := by
                rw [upL_succ, List.flatMap_append, List.flatMap_singleton, ← List.append_assoc]
                rw [show (partR 12 parts (lo + (m : Int))).take parts.length = partR 12 parts (lo + (m : Int)) from List.take_of_length_le (by unfold partR; rw [List.length_map]; exact Nat.le_refl _)] at hJp
                exact hJp
              gi_wp2
              go_roundw
              case rel => exact ⟨m + 1, hm1, by go_num, hJ8, K5, H5⟩
              case measure => simp [intOf]; omega
        · have q4 : decide (lo + (m : Int) ≤ hi') = false := decide_eq_false hlm
          have em : m = (hi' - lo + 1).toNat := by omega
          gi_wp2
          go_roundw
          case rel => exact ⟨j + 1, by omega, by go_num, by rw [← PY.out, ← em]; exact hJm, K4⟩
          case measure => simp [intOf]; omega
    · obtain rfl : j = years.length := by omega
      rw [List.take_length] at hJs
      gi_wp2
      go_end0
      exact ⟨⟨_, rfl⟩, .inl ⟨_, rfl, hJs⟩⟩
set_option maxHeartbeats 16000000 in
set_option maxRecDepth 100000 in
theorem parts1_in12d (n : Nat) (hn : 1 ≤ n) (l By Bp Bm B0 : Nat) (X : Nat → Prop) (vy vp : Value) (years parts : List R) (J Jx : List R → World → Prop) (W : World)
    (hY : ∀ pre x W, J pre W → pre ++ [x] <+: partsL 12 years parts → YieldAt Fence.wide (n - 1) Tryz.prog l #[.agg #[.int .i64 x.1, .int .i64 x.2]] W fun e W' =>
      (e = .returned (.bool true) ∧ J (pre ++ [x]) W' ∧ IKC B0 X W W') ∨ (e = .returned (.bool false) ∧ Jx (pre ++ [x]) W'))
    (hJ : AbidesFrom W.heap.size J)
    (hRD : ∀ W', IKC B0 X W W' → W'.cell? ⟨By, 0, none⟩ = some vy ∧ W'.cell? ⟨Bp, 0, none⟩ = some vp ∧ W'.cell? ⟨Bm, 0, none⟩ = some (.int .i64 12) ∧ RunsAt W' vy years ∧ RunsAt W' vp parts)
    (hyi : Inn 0 9999 years) (hpi : Inn 1 12 parts) (hn1 : years.length ≤ 1000000) (hn2 : parts.length ≤ 1000) (hwf : WFB B0 W) (hB0 : B0 < W.heap.size) (h0 : J [] W) (hl1 : parts.length = 1) (ha : (at_ parts 0).1 = 1) (hb : (at_ parts 0).2 = 12) :
    CallsIn Fence.wide n Tryz.prog 61 #[.func (.yield l) #[] #[], .pointer (some ⟨By, 0, none⟩), .pointer (some ⟨Bp, 0, none⟩), .pointer (some ⟨Bm, 0, none⟩)] W fun e W' => (∃ v, e = .returned v) ∧
      ((∃ ys, ys = partsL 12 years parts ∧ J ys W') ∨ (∃ pre, pre <+: partsL 12 years parts ∧ Jx pre W')) := by
  have RD := Lib.hid hRD
  have WF := Lib.hid hwf
  obtain ⟨py0, pp0, pm0, ry0, rp0⟩ := hRD W (IKC.refl _ _)
  obtain ⟨ady, cpy, rfl⟩ := ry0.slice
  obtain ⟨adp, cpp, rfl⟩ := rp0.slice
  clear hRD hwf pp0 pm0 ry0 rp0
  have hS := Lib.hid (single_of hl1 ha hb)
  refine callsIn_of_wp Tryz.func61 rfl trivial ?_ rfl
  simp only [Tryz.ntmps61, List.size_toArray, List.length_cons, List.length_nil, Nat.reduceAdd, Nat.reduceSub, Array.replicate_succ, Array.replicate_zero, List.push_toArray, List.append_toArray, List.nil_append, List.cons_append]
  gi_wp2
  go_simp
  gi_wp2
  gi_loopw [12] (fun i wr => ∃ j : Nat, j ≤ years.length ∧ i = .int .i64 j ∧ J (partsL 12 (years.take j) parts) wr ∧ Hid (IKC B0 X W wr)) (fun i _ => years.length - (intOf i).toNat)
  case atStart => exact ⟨0, Nat.zero_le _, rfl, h0, Lib.hid (IKC.refl _ _)⟩
  case round =>
    obtain ⟨j, hj, rfl, hJs, K2⟩ := hrel
    obtain ⟨wo, HW⟩ : ∃ x, x = wr := ⟨_, rfl⟩
    subst HW
    by_cases hlt : j < years.length
    · obtain ⟨py, pp, pm, ry, rp⟩ := RD.out _ K2.out
      rcases ry with ⟨_, _, _, e⟩ | ⟨b0, off, cap, ev, hc, hm, hx⟩
      · rw [e] at hlt; simp at hlt
      cases ev
      obtain ⟨d1, d2⟩ := hx j hlt
      have P1 := Lib.hid (parts_one 12 years parts hS.out j hlt)
      have pf2 := P1.out ▸ partsL_pre 12 years parts (j + 1)
      obtain ⟨h1, h2, h3⟩ := hyi (at_ years j) (by unfold at_; simp [List.getD, hlt])
      clear hx hc hm
      obtain ⟨lo, hi', ee⟩ : ∃ x y, at_ years j = (x, y) := ⟨_, _, rfl⟩
      rw [ee] at d1 d2 h1 h2 h3 P1 pf2
      simp only at d1 d2 h1 h2 h3 P1 pf2
      clear ee
      have hsz := K2.out.size
      have z1 : (j : Int) < (years.length : Int) := by omega
      have hsz2 : B0 < wo.heap.size := by omega
      have K3 := Lib.hid (fun o k => ikb_newD K2.out WF.out hB0 o k)
      have hJ3 := Lib.hid (fun o k => J_kp hJ hJs ((Kp.alloc wo o).trans (kp_drewN _ k)))
      have by2 : By < wo.heap.size := World.block_lt_of_cell? _ _ py
      have bp2 : Bp < wo.heap.size := World.block_lt_of_cell? _ _ pp
      have bm2 : Bm < wo.heap.size := World.block_lt_of_cell? _ _ pm
      rcases rp with ⟨_, _, _, e⟩ | ⟨b9, off9, cap9, ev9, hc9, hm9, hx9⟩
      · rw [e] at hl1; simp at hl1
      cases ev9
      obtain ⟨c1, c2⟩ := hx9 0 (by omega)
      rw [Nat.zero_mul, Nat.add_zero] at c1 c2
      have hb9 : b9 < wo.heap.size := World.block_lt_of_cell? _ _ c1
      clear hx9 hc9 hm9
      have g1 : ((parts.length : Int) == 1) = true := by rw [hl1]; rfl
      have g0 : decide (0 < parts.length) = true := by rw [hl1]; rfl
      have g00 : decide ((0 : Int) < (parts.length : Int)) = true := by rw [hl1]; rfl
      obtain ⟨pa, hpa⟩ : ∃ x, (at_ parts 0).1 = x := ⟨_, rfl⟩
      obtain ⟨pb, hpb⟩ : ∃ x, (at_ parts 0).2 = x := ⟨_, rfl⟩
      rw [hpa] at c1 ha
      rw [hpb] at c2 hb
      clear hpa hpb
      have g2 : (pa == 1) = true := by simp; exact ha
      have g3 : (pb == 12) = true := by simp; exact hb
      gi_wp2_with fail
      gi_quiet (fail)
      gi_wp2
      obtain ⟨fn, tmps, assign, body, hy, hR⟩ := hY _ (12 * lo, 12 * hi' + 12 - 1) _ (hJ3.out (.cells #[.int .i64 lo, .int .i64 hi'] 37) nq) pf2
      gi_wp2
      refine hR.mono ?_
      rintro e W3 (⟨rfl, hJ7, k7⟩ | ⟨rfl, hJx⟩)
      · have K7 := Lib.hid ((K3.out _ _).1.trans k7)
        clear k7 hR hy
        gi_wp2
        go_roundw
        case rel => exact ⟨j + 1, by omega, by go_num, by rw [← P1.out]; exact hJ7, K7⟩
        case measure => simp [intOf]; omega
      · clear hR hy
        gi_wp2
        refine bodyPost_ret (results_none rfl _ _ _) rfl ?_
        exact ⟨⟨_, rfl⟩, .inr ⟨_, pf2, hJx⟩⟩
    · obtain rfl : j = years.length := by omega
      rw [List.take_length] at hJs
      gi_wp2
      go_end0
      exact ⟨⟨_, rfl⟩, .inl ⟨_, rfl, hJs⟩⟩
end Go.Proofs.YtinpglfclbnhlaaGreatDoor

namespace Go.Proofs.YtinpglfclbnhlaaGreatDoor
open Go.RowKit Go.Shelf
set_option linter.unusedVariables false
set_option linter.unusedSimpArgs false
attribute [local go_sem] Oper.semAt_some
set_option maxHeartbeats 16000000 in
set_option maxRecDepth 100000 in
theorem parts1_in4a (n : Nat) (hn : 1 ≤ n) (l By Bp Bm B0 : Nat) (X : Nat → Prop) (vy vp : Value) (years parts : List R) (J Jx : List R → World → Prop) (W : World)
    (hY : ∀ pre x W, J pre W → pre ++ [x] <+: partsL 4 years parts → YieldAt Fence.wide (n - 1) Tryz.prog l #[.agg #[.int .i64 x.1, .int .i64 x.2]] W fun e W' =>
      (e = .returned (.bool true) ∧ J (pre ++ [x]) W' ∧ IKC B0 X W W') ∨ (e = .returned (.bool false) ∧ Jx (pre ++ [x]) W'))
    (hJ : AbidesFrom W.heap.size J)
    (hRD : ∀ W', IKC B0 X W W' → W'.cell? ⟨By, 0, none⟩ = some vy ∧ W'.cell? ⟨Bp, 0, none⟩ = some vp ∧ W'.cell? ⟨Bm, 0, none⟩ = some (.int .i64 4) ∧ RunsAt W' vy years ∧ RunsAt W' vp parts)
    (hyi : Inn 0 9999 years) (hpi : Inn 1 4 parts) (hn1 : years.length ≤ 1000000) (hn2 : parts.length ≤ 1000) (hwf : WFB B0 W) (hB0 : B0 < W.heap.size) (h0 : J [] W) (hl1 : parts.length ≠ 1) :
    CallsIn Fence.wide n Tryz.prog 61 #[.func (.yield l) #[] #[], .pointer (some ⟨By, 0, none⟩), .pointer (some ⟨Bp, 0, none⟩), .pointer (some ⟨Bm, 0, none⟩)] W fun e W' => (∃ v, e = .returned v) ∧
      ((∃ ys, ys = partsL 4 years parts ∧ J ys W') ∨ (∃ pre, pre <+: partsL 4 years parts ∧ Jx pre W')) := by
  have RD := Lib.hid hRD
  have WF := Lib.hid hwf
  obtain ⟨py0, pp0, pm0, ry0, rp0⟩ := hRD W (IKC.refl _ _)
  obtain ⟨ady, cpy, rfl⟩ := ry0.slice
  obtain ⟨adp, cpp, rfl⟩ := rp0.slice
  clear hRD hwf pp0 pm0 ry0 rp0
  have hS := Lib.hid (show parts ≠ [(1, 4)] from fun e => by rw [e] at hl1; simp at hl1)
  refine callsIn_of_wp Tryz.func61 rfl trivial ?_ rfl
  simp only [Tryz.ntmps61, List.size_toArray, List.length_cons, List.length_nil, Nat.reduceAdd, Nat.reduceSub, Array.replicate_succ, Array.replicate_zero, List.push_toArray, List.append_toArray, List.nil_append, List.cons_append]
  gi_wp2
  go_simp
  gi_wp2
  gi_loopw [12] (fun i wr => ∃ j : Nat, j ≤ years.length ∧ i = .int .i64 j ∧ J (partsL 4 (years.take j) parts) wr ∧ Hid (IKC B0 X W wr)) (fun i _ => years.length - (intOf i).toNat)
  case atStart => exact ⟨0, Nat.zero_le _, rfl, h0, Lib.hid (IKC.refl _ _)⟩
  case round =>
    obtain ⟨j, hj, rfl, hJs, K2⟩ := hrel
    obtain ⟨wo, HW⟩ : ∃ x, x = wr := ⟨_, rfl⟩
    subst HW
    by_cases hlt : j < years.length
    · obtain ⟨py, pp, pm, ry, rp⟩ := RD.out _ K2.out
      rcases ry with ⟨_, _, _, e⟩ | ⟨b0, off, cap, ev, hc, hm, hx⟩
      · rw [e] at hlt; simp at hlt
      cases ev
      obtain ⟨d1, d2⟩ := hx j hlt
      have PT := Lib.hid (fun p m a b => parts_part 4 years parts hS.out j m p hlt a b)
      have PY := Lib.hid (parts_year 4 years parts hS.out j hlt)
      obtain ⟨h1, h2, h3⟩ := hyi (at_ years j) (by unfold at_; simp [List.getD, hlt])
      clear hx hc hm
      obtain ⟨lo, hi', ee⟩ : ∃ x y, at_ years j = (x, y) := ⟨_, _, rfl⟩
      rw [ee] at d1 d2 h1 h2 h3 PT PY
      simp only at d1 d2 h1 h2 h3 PT PY
      clear ee
      have hsz := K2.out.size
      have z1 : (j : Int) < (years.length : Int) := by omega
      have hsz2 : B0 < wo.heap.size := by omega
      have K3 := Lib.hid (fun o k => ikb_newD K2.out WF.out hB0 o k)
      have hJ3 := Lib.hid (fun o k => J_kp hJ hJs ((Kp.alloc wo o).trans (kp_drewN _ k)))
      have by2 : By < wo.heap.size := World.block_lt_of_cell? _ _ py
      have bp2 : Bp < wo.heap.size := World.block_lt_of_cell? _ _ pp
      have bm2 : Bm < wo.heap.size := World.block_lt_of_cell? _ _ pm
      have g1 : ((parts.length : Int) == 1) = false := by simp; omega
      gi_wp2_with fail
      gi_quiet (fail)
      gi_wp2
      gi_loopw [7] (fun i ws => ∃ m : Nat, m ≤ (hi' - lo + 1).toNat ∧ i = .int .i64 (lo + (m : Int)) ∧ J (partsL 4 (years.take j) parts ++ (upL lo m).flatMap (partR 4 parts)) ws ∧ Hid (IKC B0 X W ws) ∧ Hid (ws.heap[wo.heap.size]? = some (.cells #[.int .i64 lo, .int .i64 hi'] 37 (0, 0)) ∧ ¬ dirty B0 ws wo.heap.size)) (fun i _ => (hi' + 1 - intOf i).toNat)
      case atStart => exact ⟨0, Nat.zero_le _, by simp, by rw [show upL lo 0 = [] from rfl, List.flatMap_nil, List.append_nil]; exact hJ3.out _ _, Lib.hid (K3.out _ _).1, Lib.hid ⟨World.alloc_heap_new _ _, (K3.out _ _).2⟩⟩
      case round =>
        obtain ⟨m, hm, rfl, hJm, K4, H4⟩ := hrel
        obtain ⟨wy, HWY⟩ : ∃ x, x = wr := ⟨_, rfl⟩
        subst HWY
        have c4 := two_cell H4.out.1
        have hsz4 := (Array.getElem?_eq_some_iff.1 H4.out.1).1
        by_cases hlm : lo + (m : Int) ≤ hi'
        · have q4 : decide (lo + (m : Int) ≤ hi') = true := decide_eq_true hlm
          have hm1 : m + 1 ≤ (hi' - lo + 1).toNat := by omega
          obtain ⟨py, pp, pm, ry, rp⟩ := RD.out _ K4.out
          have PF := Lib.hid (fun p hp => PT.out p m (by omega) hp)
          have Z0 : J (partsL 4 (years.take j) parts ++ (upL lo m).flatMap (partR 4 parts) ++ (partR 4 parts (lo + (m : Int))).take 0) wy := by rw [List.take_zero, List.append_nil]; exact hJm
          clear ry rp
          gi_wp2
          gi_loopw [59] (fun i ws => ∃ p : Nat, p ≤ parts.length ∧ i = .int .i64 p ∧ J (partsL 4 (years.take j) parts ++ (upL lo m).flatMap (partR 4 parts) ++ (partR 4 parts (lo + (m : Int))).take p) ws ∧ Hid (IKC B0 X W ws) ∧ Hid (ws.heap[wo.heap.size]? = some (.cells #[.int .i64 lo, .int .i64 hi'] 37 (0, 0)) ∧ ¬ dirty B0 ws wo.heap.size)) (fun i _ => parts.length - (intOf i).toNat)
          case atStart => exact ⟨0, Nat.zero_le _, rfl, Z0, K4, H4⟩
          case round =>
            obtain ⟨p, hp, rfl, hJp, K5, H5⟩ := hrel
            obtain ⟨wp, HWP⟩ : ∃ x, x = wr := ⟨_, rfl⟩
            subst HWP
            by_cases hlp : p < parts.length
            · obtain ⟨_, _, pm5, _, rp5⟩ := RD.out _ K5.out
              rcases rp5 with ⟨_, _, _, e⟩ | ⟨b9, off9, cap9, ev9, hc9, hm9, hx9⟩
              · rw [e] at hlp; simp at hlp
              cases ev9
              obtain ⟨e1, e2⟩ := hx9 p hlp
              have pf := PF.out p hlp
              have hq := hpi (at_ parts p) (by unfold at_; simp [List.getD, hlp])
              have tk := take_at (partR 4 parts (lo + (m : Int))) p (by unfold partR; rw [List.length_map]; exact hlp)
              rw [show at_ (partR 4 parts (lo + (m : Int))) p = _ from at_map parts (fun q => (4 * (lo + (m : Int)) + q.1 - 1, 4 * (lo + (m : Int)) + q.2 - 1)) hlp] at tk
              obtain ⟨qa, qb, eq⟩ : ∃ x y, at_ parts p = (x, y) := ⟨_, _, rfl⟩
              rw [eq] at e1 e2 hq pf tk
              simp only at e1 e2 hq pf tk
              clear hx9 hc9 hm9 eq
              have z5 : (p : Int) < (parts.length : Int) := by omega
              have HA := Lib.hid (fun o => ikb_new K5.out WF.out hB0 o)
              have H6 := Lib.hid (fun o => (IKC.kp (B := B0) (X := X) (Kp.alloc wp o) (Nat.lt_of_lt_of_le hB0 K5.out.size)).keep H5.out.1 H5.out.2)
              have hJ6 := J_kp hJ hJp (Kp.alloc wp (.cells #[.int .i64 qa, .int .i64 qb] 37))
              have hsz5 := (Array.getElem?_eq_some_iff.1 H5.out.1).1
              have pb5 : Bm < wp.heap.size := World.block_lt_of_cell? _ _ pm5
              obtain ⟨fn, tmps, assign, body, hy, hR⟩ := hY _ (4 * (lo + (m : Int)) + qa - 1, 4 * (lo + (m : Int)) + qb - 1) _ hJ6 pf
              gi_wp2
              refine hR.mono ?_
              rintro e W3 (⟨rfl, hJ7, k7⟩ | ⟨rfl, hJx⟩)
              · have K7 := Lib.hid ((HA.out _).1.trans k7)
                have H7 := Lib.hid (k7.keep (H6.out _).1 (H6.out _).2)
                clear k7 hR hy
                gi_wp2
                go_roundw
                case rel => exact ⟨p + 1, by omega, by go_num, by rw [tk, ← List.append_assoc]; exact hJ7, K7, H7⟩
                case measure => simp [intOf]; omega
              · clear hR hy
                gi_wp2
                refine bodyPost_ret (results_none rfl _ _ _) rfl ?_
                exact ⟨⟨_, rfl⟩, .inr ⟨_, pf, hJx⟩⟩
            · obtain rfl : p = parts.length := by omega
              have hJ8 : J (partsL 4 (years.take j) parts ++ (upL lo (m + 1)).flatMap (partR 4 parts)) wp := by
                rw [upL_succ, List.flatMap_append, List.flatMap_singleton, ← List.append_assoc]
                rw [show (partR 4 parts (lo + (m : Int))).take parts.length = partR 4 parts (lo + (m : Int)) from List.take_of_length_le (by unfold partR; rw [List.length_map]; exact Nat.le_refl _)] at hJp
                exact hJp
              gi_wp2
              go_roundw
              case rel => exact ⟨m + 1, hm1, by go_num, hJ8, K5, H5⟩
              case measure => simp [intOf]; omega
        · have q4 : decide (lo + (m : Int) ≤ hi') = false := decide_eq_false hlm
          have em : m = (hi' - lo + 1).toNat := by omega
          gi_wp2
          go_roundw
          case rel => exact ⟨j + 1, by omega, by go_num, by rw [← PY.out, ← em]; exact hJm, K4⟩
          case measure => simp [intOf]; omega
    · obtain rfl : j = years.length := by omega
      rw [List.take_length] at hJs
      gi_wp2
      go_end0
      exact ⟨⟨_, rfl⟩, .inl ⟨_, rfl, hJs⟩⟩
set_option maxHeartbeats 16000000 in
set_option maxRecDepth 100000 in
theorem parts1_in4b (n : Nat) (hn : 1 ≤ n) (l By Bp Bm B0 : Nat) (X : Nat → Prop) (vy vp : Value) (years parts : List R) (J Jx : List R → World → Prop) (W : World)
    (hY : ∀ pre x W, J pre W → pre ++ [x] <+: partsL 4 years parts → YieldAt Fence.wide (n - 1) Tryz.prog l #[.agg #[.int .i64 x.1, .int .i64 x.2]] W fun e W' =>
      (e = .returned (.bool true) ∧ J (pre ++ [x]) W' ∧ IKC B0 X W W') ∨ (e = .returned (.bool false) ∧ Jx (pre ++ [x]) W'))
    (hJ : AbidesFrom W.heap.size J)
    (hRD : ∀ W', IKC B0 X W W' → W'.cell? ⟨By, 0, none⟩ = some vy ∧ W'.cell? ⟨Bp, 0, none⟩ = some vp ∧ W'.cell? ⟨Bm, 0, none⟩ = some (.int .i64 4) ∧ RunsAt W' vy years ∧ RunsAt W' vp parts)
    (hyi : Inn 0 9999 years) (hpi : Inn 1 4 parts) (hn1 : years.length ≤ 1000000) (hn2 : parts.length ≤ 1000) (hwf : WFB B0 W) (hB0 : B0 < W.heap.size) (h0 : J [] W) (hl1 : parts.length = 1) (ha : (at_ parts 0).1 ≠ 1) :
    CallsIn Fence.wide n Tryz.prog 61 #[.func (.yield l) #[] #[], .pointer (some ⟨By, 0, none⟩), .pointer (some ⟨Bp, 0, none⟩), .pointer (some ⟨Bm, 0, none⟩)] W fun e W' => (∃ v, e = .returned v) ∧
      ((∃ ys, ys = partsL 4 years parts ∧ J ys W') ∨ (∃ pre, pre <+: partsL 4 years parts ∧ Jx pre W')) := by
  have RD := Lib.hid hRD
  have WF := Lib.hid hwf
  obtain ⟨py0, pp0, pm0, ry0, rp0⟩ := hRD W (IKC.refl _ _)
  obtain ⟨ady, cpy, rfl⟩ := ry0.slice
  obtain ⟨adp, cpp, rfl⟩ := rp0.slice
  clear hRD hwf pp0 pm0 ry0 rp0
  have hS := Lib.hid (show parts ≠ [(1, 4)] from fun e => by rw [e] at ha; simp [at_] at ha)
  refine callsIn_of_wp Tryz.func61 rfl trivial ?_ rfl
  simp only [Tryz.ntmps61, List.size_toArray, List.length_cons, List.length_nil, Nat.reduceAdd, Nat.reduceSub, Array.replicate_succ, Array.replicate_zero, List.push_toArray, List.append_toArray, List.nil_append, List.cons_append]
  gi_wp2
  go_simp
  gi_wp2
  gi_loopw [12] (fun i wr => ∃ j : Nat, j ≤ years.length ∧ i = .int .i64 j ∧ J (partsL 4 (years.take j) parts) wr ∧ Hid (IKC B0 X W wr)) (fun i _ => years.length - (intOf i).toNat)
  case atStart => exact ⟨0, Nat.zero_le _, rfl, h0, Lib.hid (IKC.refl _ _)⟩
  case round =>
    obtain ⟨j, hj, rfl, hJs, K2⟩ := hrel
    obtain ⟨wo, HW⟩ : ∃ x, x = wr := ⟨_, rfl⟩
    subst HW
    by_cases hlt : j < years.length
    · obtain ⟨py, pp, pm, ry, rp⟩ := RD.out _ K2.out
      rcases ry with ⟨_, _, _, e⟩ | ⟨b0, off, cap, ev, hc, hm, hx⟩
      · rw [e] at hlt; simp at hlt
      cases ev
      obtain ⟨d1, d2⟩ := hx j hlt
      have PT := Lib.hid (fun p m a b => parts_part 4 years parts hS.out j m p hlt a b)
      have PY := Lib.hid (parts_year 4 years parts hS.out j hlt)
      obtain ⟨h1, h2, h3⟩ := hyi (at_ years j) (by unfold at_; simp [List.getD, hlt])
      clear hx hc hm
      obtain ⟨lo, hi', ee⟩ : ∃ x y, at_ years j = (x, y) := ⟨_, _, rfl⟩
      rw [ee] at d1 d2 h1 h2 h3 PT PY
      simp only at d1 d2 h1 h2 h3 PT PY
      clear ee
      have hsz := K2.out.size
      have z1 : (j : Int) < (years.length : Int) := by omega
      have hsz2 : B0 < wo.heap.size := by omega
      have K3 := Lib.hid (fun o k => ikb_newD K2.out WF.out hB0 o k)
      have hJ3 := Lib.hid (fun o k => J_kp hJ hJs ((Kp.alloc wo o).trans (kp_drewN _ k)))
      have by2 : By < wo.heap.size := World.block_lt_of_cell? _ _ py
      have bp2 : Bp < wo.heap.size := World.block_lt_of_cell? _ _ pp
      have bm2 : Bm < wo.heap.size := World.block_lt_of_cell? _ _ pm
      rcases rp with ⟨_, _, _, e⟩ | ⟨b9, off9, cap9, ev9, hc9, hm9, hx9⟩
      · rw [e] at hl1; simp at hl1
      cases ev9
      obtain ⟨c1, c2⟩ := hx9 0 (by omega)
      rw [Nat.zero_mul, Nat.add_zero] at c1 c2
      have hb9 : b9 < wo.heap.size := World.block_lt_of_cell? _ _ c1
      clear hx9 hc9 hm9
      have g1 : ((parts.length : Int) == 1) = true := by rw [hl1]; rfl
      have g0 : decide (0 < parts.length) = true := by rw [hl1]; rfl
      have g00 : decide ((0 : Int) < (parts.length : Int)) = true := by rw [hl1]; rfl
      obtain ⟨pa, hpa⟩ : ∃ x, (at_ parts 0).1 = x := ⟨_, rfl⟩
      obtain ⟨pb, hpb⟩ : ∃ x, (at_ parts 0).2 = x := ⟨_, rfl⟩
      rw [hpa] at c1 ha
      rw [hpb] at c2
      clear hpa hpb
      have g2 : (pa == 1) = false := by simp; exact ha
      gi_wp2_with fail
      gi_quiet (fail)
      gi_wp2
      gi_loopw [7] (fun i ws => ∃ m : Nat, m ≤ (hi' - lo + 1).toNat ∧ i = .int .i64 (lo + (m : Int)) ∧ J (partsL 4 (years.take j) parts ++ (upL lo m).flatMap (partR 4 parts)) ws ∧ Hid (IKC B0 X W ws) ∧ Hid (ws.heap[wo.heap.size]? = some (.cells #[.int .i64 lo, .int .i64 hi'] 37 (0, 0)) ∧ ¬ dirty B0 ws wo.heap.size)) (fun i _ => (hi' + 1 - intOf i).toNat)
      case atStart => exact ⟨0, Nat.zero_le _, by simp, by rw [show upL lo 0 = [] from rfl, List.flatMap_nil, List.append_nil]; exact hJ3.out _ _, Lib.hid (K3.out _ _).1, Lib.hid ⟨World.alloc_heap_new _ _, (K3.out _ _).2⟩⟩
      case round =>
        obtain ⟨m, hm, rfl, hJm, K4, H4⟩ := hrel
        obtain ⟨wy, HWY⟩ : ∃ x, x = wr := ⟨_, rfl⟩
        subst HWY
        have c4 := two_cell H4.out.1
        have hsz4 := (Array.getElem?_eq_some_iff.1 H4.out.1).1
        by_cases hlm : lo + (m : Int) ≤ hi'
        · have q4 : decide (lo + (m : Int) ≤ hi') = true := decide_eq_true hlm
          have hm1 : m + 1 ≤ (hi' - lo + 1).toNat := by omega
          obtain ⟨py, pp, pm, ry, rp⟩ := RD.out _ K4.out
          have PF := Lib.hid (fun p hp => PT.out p m (by omega) hp)
          have Z0 : J (partsL 4 (years.take j) parts ++ (upL lo m).flatMap (partR 4 parts) ++ (partR 4 parts (lo + (m : Int))).take 0) wy := by rw [List.take_zero, List.append_nil]; exact hJm
          clear ry rp
          gi_wp2
          gi_loopw [59] (fun i ws => ∃ p : Nat, p ≤ parts.length ∧ i = .int .i64 p ∧ J (partsL 4 (years.take j) parts ++ (upL lo m).flatMap (partR 4 parts) ++ (partR 4 parts (lo + (m : Int))).take p) ws ∧ Hid (IKC B0 X W ws) ∧ Hid (ws.heap[wo.heap.size]? = some (.cells #[.int .i64 lo, .int .i64 hi'] 37 (0, 0)) ∧ ¬ dirty B0 ws wo.heap.size)) (fun i _ => parts.length - (intOf i).toNat)
          case atStart => exact ⟨0, Nat.zero_le _, rfl, Z0, K4, H4⟩
          case round =>
            obtain ⟨p, hp, rfl, hJp, K5, H5⟩ := hrel
            obtain ⟨wp, HWP⟩ : ∃ x, x = wr := ⟨_, rfl⟩
            subst HWP
            by_cases hlp : p < parts.length
            · obtain ⟨_, _, pm5, _, rp5⟩ := RD.out _ K5.out
              rcases rp5 with ⟨_, _, _, e⟩ | ⟨b9, off9, cap9, ev9, hc9, hm9, hx9⟩
              · rw [e] at hlp; simp at hlp
              cases ev9
              obtain ⟨e1, e2⟩ := hx9 p hlp
              have pf := PF.out p hlp
              have hq := hpi (at_ parts p) (by unfold at_; simp [List.getD, hlp])
              have tk := take_at (partR 4 parts (lo + (m : Int))) p (by unfold partR; rw [List.length_map]; exact hlp)
              rw [show at_ (partR 4 parts (lo + (m : Int))) p = _ from at_map parts (fun q => (4 * (lo + (m : Int)) + q.1 - 1, 4 * (lo + (m : Int)) + q.2 - 1)) hlp] at tk
              obtain ⟨qa, qb, eq⟩ : ∃ x y, at_ parts p = (x, y) := ⟨_, _, rfl⟩
              rw [eq] at e1 e2 hq pf tk
              simp only at e1 e2 hq pf tk
              clear hx9 hc9 hm9 eq
              have z5 : (p : Int) < (parts.length : Int) := by omega
              have HA := Lib.hid (fun o => ikb_new K5.out WF.out hB0 o)
              have H6 := Lib.hid (fun o => (IKC.kp (B := B0) (X := X) (Kp.alloc wp o) (Nat.lt_of_lt_of_le hB0 K5.out.size)).keep H5.out.1 H5.out.2)
              have hJ6 := J_kp hJ hJp (Kp.alloc wp (.cells #[.int .i64 qa, .int .i64 qb] 37))
              have hsz5 := (Array.getElem?_eq_some_iff.1 H5.out.1).1
              have pb5 : Bm < wp.heap.size := World.block_lt_of_cell? _ _ pm5
              obtain ⟨fn, tmps, assign, body, hy, hR⟩ := hY _ (4 * (lo + (m : Int)) + qa - 1, 4 * (lo + (m : Int)) + qb - 1) _ hJ6 pf
              gi_wp2
              refine hR.mono ?_
              rintro e W3 (⟨rfl, hJ7, k7⟩ | ⟨rfl, hJx⟩)
              · have K7 := Lib.hid ((HA.out _).1.trans k7)
                have H7 := Lib.hid (k7.keep (H6.out _).1 (H6.out _).2)
                clear k7 hR hy
                gi_wp2
                go_roundw
                case rel => exact ⟨p + 1, by omega, by go_num, by rw [tk, ← List.append_assoc]; exact hJ7, K7, H7⟩
                case measure => simp [intOf]; omega
              · clear hR hy
                gi_wp2
                refine bodyPost_ret (results_none rfl _ _ _) rfl ?_
                exact ⟨⟨_, rfl⟩, .inr ⟨_, pf, hJx⟩⟩
            · obtain rfl : p = parts.length := by omega
              have hJ8 : J (partsL 4 (years.take j) parts ++ (upL lo (m + 1)).flatMap (partR 4 parts)) wp := by
                rw [upL_succ, List.flatMap_append, List.flatMap_singleton, ← List.append_assoc]
                rw [show (partR 4 parts (lo + (m : Int))).take parts.length = partR 4 parts (lo + (m : Int)) from List.take_of_length_le (by unfold partR; rw [List.length_map]; exact Nat.le_refl _)] at hJp
                exact hJp
              gi_wp2
              go_roundw
              case rel => exact ⟨m + 1, hm1, by go_num, hJ8, K5, H5⟩
              case measure => simp [intOf]; omega
        · have q4 : decide (lo + (m : Int) ≤ hi') = false := decide_eq_false hlm
          have em : m = (hi' - lo + 1).toNat := by omega
          gi_wp2
          go_roundw
          case rel => exact ⟨j + 1, by omega, by go_num, by rw [← PY.out, ← em]; exact hJm, K4⟩
          case measure => simp [intOf]; omega
    · obtain rfl : j = years.length := by omega
      rw [List.take_length] at hJs
      gi_wp2
      go_end0
      exact ⟨⟨_, rfl⟩, .inl ⟨_, rfl, hJs⟩⟩
set_option maxHeartbeats 16000000 in
set_option maxRecDepth 100000 in
theorem parts1_in4c (n : Nat) (hn : 1 ≤ n) (l By Bp Bm B0 : Nat) (X : Nat → Prop) (vy vp : Value) (years parts : List R) (J Jx : List R → World → Prop) (W : World)
    (hY : ∀ pre x W, J pre W → pre ++ [x] <+: partsL 4 years parts → YieldAt Fence.wide (n - 1) Tryz.prog l #[.agg #[.int .i64 x.1, .int .i64 x.2]] W fun e W' =>
      (e = .returned (.bool true) ∧ J (pre ++ [x]) W' ∧ IKC B0 X W W') ∨ (e = .returned (.bool false) ∧ Jx (pre ++ [x]) W'))
    (hJ : AbidesFrom W.heap.size J)
    (hRD : ∀ W', IKC B0 X W W' → W'.cell? ⟨By, 0, none⟩ = some vy ∧ W'.cell? ⟨Bp, 0, none⟩ = some vp ∧ W'.cell? ⟨Bm, 0, none⟩ = some (.int .i64 4) ∧ RunsAt W' vy years ∧ RunsAt W' vp parts)
    (hyi : Inn 0 9999 years) (hpi : Inn 1 4 parts) (hn1 : years.length ≤ 1000000) (hn2 : parts.length ≤ 1000) (hwf : WFB B0 W) (hB0 : B0 < W.heap.size) (h0 : J [] W) (hl1 : parts.length = 1) (ha : (at_ parts 0).1 = 1) (hb : (at_ parts 0).2 ≠ 4) :
    CallsIn Fence.wide n Tryz.prog 61 #[.func (.yield l) #[] #[], .pointer (some ⟨By, 0, none⟩), .pointer (some ⟨Bp, 0, none⟩), .pointer (some ⟨Bm, 0, none⟩)] W fun e W' => (∃ v, e = .returned v) ∧
      ((∃ ys, ys = partsL 4 years parts ∧ J ys W') ∨ (∃ pre, pre <+: partsL 4 years parts ∧ Jx pre W')) := by
  have RD := Lib.hid hRD
  have WF := Lib.hid hwf
  obtain ⟨py0, pp0, pm0, ry0, rp0⟩ := hRD W (IKC.refl _ _)
  obtain ⟨ady, cpy, rfl⟩ := ry0.slice
  obtain ⟨adp, cpp, rfl⟩ := rp0.slice
  clear hRD hwf pp0 pm0 ry0 rp0
  have hS := Lib.hid (show parts ≠ [(1, 4)] from fun e => by rw [e] at hb; simp [at_] at hb)
  refine callsIn_of_wp Tryz.func61 rfl trivial ?_ rfl
  simp only [Tryz.ntmps61, List.size_toArray, List.length_cons, List.length_nil, Nat.reduceAdd, Nat.reduceSub, Array.replicate_succ, Array.replicate_zero, List.push_toArray, List.append_toArray, List.nil_append, List.cons_append]
  gi_wp2
  go_simp
  gi_wp2
  gi_loopw [12] (fun i wr => ∃ j : Nat, j ≤ years.length ∧ i = .int .i64 j ∧ J (partsL 4 (years.take j) parts) wr ∧ Hid (IKC B0 X W wr)) (fun i _ => years.length - (intOf i).toNat)
  case atStart => exact ⟨0, Nat.zero_le _, rfl, h0, Lib.hid (IKC.refl _ _)⟩
  case round =>
    obtain ⟨j, hj, rfl, hJs, K2⟩ := hrel
    obtain ⟨wo, HW⟩ : ∃ x, x = wr := ⟨_, rfl⟩
    subst HW
    by_cases hlt : j < years.length
    · obtain ⟨py, pp, pm, ry, rp⟩ := RD.out _ K2.out
      rcases ry with ⟨_, _, _, e⟩ | ⟨b0, off, cap, ev, hc, hm, hx⟩
      · rw [e] at hlt; simp at hlt
      cases ev
      obtain ⟨d1, d2⟩ := hx j hlt
      have PT := Lib.hid (fun p m a b => parts_part 4 years parts hS.out j m p hlt a b)
      have PY := Lib.hid (parts_year 4 years parts hS.out j hlt)
      obtain ⟨h1, h2, h3⟩ := hyi (at_ years j) (by unfold at_; simp [List.getD, hlt])
      clear hx hc hm
      obtain ⟨lo, hi', ee⟩ : ∃ x y, at_ years j = (x, y) := ⟨_, _, rfl⟩
      rw [ee] at d1 d2 h1 h2 h3 PT PY
      simp only at d1 d2 h1 h2 h3 PT PY
      clear ee
      have hsz := K2.out.size
      have z1 : (j : Int) < (years.length : Int) := by omega
      have hsz2 : B0 < wo.heap.size := by omega
      have K3 := Lib.hid (fun o k => ikb_newD K2.out WF.out hB0 o k)
      have hJ3 := Lib.hid (fun o k => J_kp hJ hJs ((Kp.alloc wo o).trans (kp_drewN _ k)))
      have by2 : By < wo.heap.size := World.block_lt_of_cell? _ _ py
      have bp2 : Bp < wo.heap.size := World.block_lt_of_cell? _ _ pp
      have bm2 : Bm < wo.heap.size := World.block_lt_of_cell? _ _ pm
      rcases rp with ⟨_, _, _, e⟩ | ⟨b9, off9, cap9, ev9, hc9, hm9, hx9⟩
      · rw [e] at hl1; simp at hl1
      cases ev9
      obtain ⟨c1, c2⟩ := hx9 0 (by omega)
      rw [Nat.zero_mul, Nat.add_zero] at c1 c2
      have hb9 : b9 < wo.heap.size := World.block_lt_of_cell? _ _ c1
      clear hx9 hc9 hm9
      have g1 : ((parts.length : Int) == 1) = true := by rw [hl1]; rfl
      have g0 : decide (0 < parts.length) = true := by rw [hl1]; rfl
      have g00 : decide ((0 : Int) < (parts.length : Int)) = true := by rw [hl1]; rfl
      obtain ⟨pa, hpa⟩ : ∃ x, (at_ parts 0).1 = x := ⟨_, rfl⟩
      obtain ⟨pb, hpb⟩ : ∃ x, (at_ parts 0).2 = x := ⟨_, rfl⟩
      rw [hpa] at c1 ha
      rw [hpb] at c2 hb
      clear hpa hpb
      have g2 : (pa == 1) = true := by simp; exact ha
      have g3 : (pb == 4) = false := by simp; exact hb
      gi_wp2_with fail
      gi_quiet (fail)
      gi_wp2
      gi_loopw [7] (fun i ws => ∃ m : Nat, m ≤ (hi' - lo + 1).toNat ∧ i = .int .i64 (lo + (m : Int)) ∧ J (partsL 4 (years.take j) parts ++ (upL lo m).flatMap (partR 4 parts)) ws ∧ Hid (IKC B0 X W ws) ∧ Hid (ws.heap[wo.heap.size]? = some (.cells #[.int .i64 lo, .int .i64 hi'] 37 (0, 0)) ∧ ¬ dirty B0 ws wo.heap.size)) (fun i _ => (hi' + 1 - intOf i).toNat)
      case atStart => exact ⟨0, Nat.zero_le _, by simp, by rw [show upL lo 0 = [] from rfl, List.flatMap_nil, List.append_nil]; exact hJ3.out _ _, Lib.hid (K3.out _ _).1, Lib.hid ⟨World.alloc_heap_new _ _, (K3.out _ _).2⟩⟩
      case round =>
        obtain ⟨m, hm, rfl, hJm, K4, H4⟩ := hrel
        obtain ⟨wy, HWY⟩ : ∃ x, x = wr := ⟨_, rfl⟩
        subst HWY
        have c4 := two_cell H4.out.1
        have hsz4 := (Array.getElem?_eq_some_iff.1 H4.out.1).1
        by_cases hlm : lo + (m : Int) ≤ hi'
        · have q4 : decide (lo + (m : Int) ≤ hi') = true := decide_eq_true hlm
          have hm1 : m + 1 ≤ (hi' - lo + 1).toNat := by omega
          obtain ⟨py, pp, pm, ry, rp⟩ := RD.out _ K4.out
          have PF := Lib.hid (fun p hp => PT.out p m (by omega) hp)
          have Z0 : J (partsL 4 (years.take j) parts ++ (upL lo m).flatMap (partR 4 parts) ++ (partR 4 parts (lo + (m : Int))).take 0) wy := by rw [List.take_zero, List.append_nil]; exact hJm
          clear ry rp
          gi_wp2
          gi_loopw [59] (fun i ws => ∃ p : Nat, p ≤ parts.length ∧ i = .int .i64 p ∧ J (partsL 4 (years.take j) parts ++ (upL lo m).flatMap (partR 4 parts) ++ (partR 4 parts (lo + (m : Int))).take p) ws ∧ Hid (IKC B0 X W ws) ∧ Hid (ws.heap[wo.heap.size]? = some (.cells #[.int .i64 lo, .int .i64 hi'] 37 (0, 0)) ∧ ¬ dirty B0 ws wo.heap.size)) (fun i _ => parts.length - (intOf i).toNat)
          case atStart => exact ⟨0, Nat.zero_le _, rfl, Z0, K4, H4⟩
          case round =>
            obtain ⟨p, hp, rfl, hJp, K5, H5⟩ := hrel
            obtain ⟨wp, HWP⟩ : ∃ x, x = wr := ⟨_, rfl⟩
            subst HWP
            by_cases hlp : p < parts.length
            · obtain ⟨_, _, pm5, _, rp5⟩ := RD.out _ K5.out
              rcases rp5 with ⟨_, _, _, e⟩ | ⟨b9, off9, cap9, ev9, hc9, hm9, hx9⟩
              · rw [e] at hlp; simp at hlp
              cases ev9
              obtain ⟨e1, e2⟩ := hx9 p hlp
              have pf := PF.out p hlp
              have hq := hpi (at_ parts p) (by unfold at_; simp [List.getD, hlp])
              have tk := take_at (partR 4 parts (lo + (m : Int))) p (by unfold partR; rw [List.length_map]; exact hlp)
              rw [show at_ (partR 4 parts (lo + (m : Int))) p = _ from at_map parts (fun q => (4 * (lo + (m : Int)) + q.1 - 1, 4 * (lo + (m : Int)) + q.2 - 1)) hlp] at tk
              obtain ⟨qa, qb, eq⟩ : ∃ x y, at_ parts p = (x, y) := ⟨_, _, rfl⟩
              rw [eq] at e1 e2 hq pf tk
              simp only at e1 e2 hq pf tk
              clear hx9 hc9 hm9 eq
              have z5 : (p : Int) < (parts.length : Int) := by omega
              have HA := Lib.hid (fun o => ikb_new K5.out WF.out hB0 o)
              have H6 := Lib.hid (fun o => (IKC.kp (B := B0) (X := X) (Kp.alloc wp o) (Nat.lt_of_lt_of_le hB0 K5.out.size)).keep H5.out.1 H5.out.2)
              have hJ6 := J_kp hJ hJp (Kp.alloc wp (.cells #[.int .i64 qa, .int .i64 qb] 37))
              have hsz5 := (Array.getElem?_eq_some_iff.1 H5.out.1).1
              have pb5 : Bm < wp.heap.size := World.block_lt_of_cell? _ _ pm5
              obtain ⟨fn, tmps, assign, body, hy, hR⟩ := hY _ (4 * (lo + (m : Int)) + qa - 1, 4 * (lo + (m : Int)) + qb - 1) _ hJ6 pf
              gi_wp2
              refine hR.mono ?_
              rintro e W3 (⟨rfl, hJ7, k7⟩ | ⟨rfl, hJx⟩)
              · have K7 := Lib.hid ((HA.out _).1.trans k7)
                have H7 := Lib.hid (k7.keep (H6.out _).1 (H6.out _).2)
                clear k7 hR hy
                gi_wp2
                go_roundw
                case rel => exact ⟨p + 1, by omega, by go_num, by rw [tk, ← List.append_assoc]; exact hJ7, K7, H7⟩
                case measure => simp [intOf]; omega
              · clear hR hy
                gi_wp2
                refine bodyPost_ret (results_none rfl _ _ _) rfl ?_
                exact ⟨⟨_, rfl⟩, .inr ⟨_, pf, hJx⟩⟩
            · obtain rfl : p = parts.length := by omega
              have hJ8 : J (partsL 4 (years.take j) parts ++ (upL lo (m + 1)).flatMap (partR 4 parts)) wp := by
                rw [upL_succ, List.flatMap_append, List.flatMap_singleton, ← List.append_assoc]
                rw [show (partR 4 parts (lo + (m : Int))).take parts.length = partR 4 parts (lo + (m : Int)) from List.take_of_length_le (by unfold partR; rw [List.length_map]; exact Nat.le_refl _)] at hJp
                exact hJp
              gi_wp2
              go_roundw
              case rel => exact ⟨m + 1, hm1, by go_num, hJ8, K5, H5⟩
              case measure => simp [intOf]; omega
        · have q4 : decide (lo + (m : Int) ≤ hi') = false := decide_eq_false hlm
          have em : m = (hi' - lo + 1).toNat := by omega
          gi_wp2
          go_roundw
          case rel => exact ⟨j + 1, by omega, by go_num, by rw [← PY.out, ← em]; exact hJm, K4⟩
          case measure => simp [intOf]; omega
    · obtain rfl : j = years.length := by omega
      rw [List.take_length] at hJs
      gi_wp2
      go_end0
      exact ⟨⟨_, rfl⟩, .inl ⟨_, rfl, hJs⟩⟩
set_option maxHeartbeats 16000000 in
set_option maxRecDepth 100000 in
theorem parts1_in4d (n : Nat) (hn : 1 ≤ n) (l By Bp Bm B0 : Nat) (X : Nat → Prop) (vy vp : Value) (years parts : List R) (J Jx : List R → World → Prop) (W : World)
    (hY : ∀ pre x W, J pre W → pre ++ [x] <+: partsL 4 years parts → YieldAt Fence.wide (n - 1) Tryz.prog l #[.agg #[.int .i64 x.1, .int .i64 x.2]] W fun e W' =>
      (e = .returned (.bool true) ∧ J (pre ++ [x]) W' ∧ IKC B0 X W W') ∨ (e = .returned (.bool false) ∧ Jx (pre ++ [x]) W'))
    (hJ : AbidesFrom W.heap.size J)
    (hRD : ∀ W', IKC B0 X W W' → W'.cell? ⟨By, 0, none⟩ = some vy ∧ W'.cell? ⟨Bp, 0, none⟩ = some vp ∧ W'.cell? ⟨Bm, 0, none⟩ = some (.int .i64 4) ∧ RunsAt W' vy years ∧ RunsAt W' vp parts)
    (hyi : Inn 0 9999 years) (hpi : Inn 1 4 parts) (hn1 : years.length ≤ 1000000) (hn2 : parts.length ≤ 1000) (hwf : WFB B0 W) (hB0 : B0 < W.heap.size) (h0 : J [] W) (hl1 : parts.length = 1) (ha : (at_ parts 0).1 = 1) (hb : (at_ parts 0).2 = 4) :
    CallsIn Fence.wide n Tryz.prog 61 #[.func (.yield l) #[] #[], .pointer (some ⟨By, 0, none⟩), .pointer (some ⟨Bp, 0, none⟩), .pointer (some ⟨Bm, 0, none⟩)] W fun e W' => (∃ v, e = .returned v) ∧
      ((∃ ys, ys = partsL 4 years parts ∧ J ys W') ∨ (∃ pre, pre <+: partsL 4 years parts ∧ Jx pre W')) := by
  have RD := Lib.hid hRD
  have WF := Lib.hid hwf
  obtain ⟨py0, pp0, pm0, ry0, rp0⟩ := hRD W (IKC.refl _ _)
  obtain ⟨ady, cpy, rfl⟩ := ry0.slice
  obtain ⟨adp, cpp, rfl⟩ := rp0.slice
  clear hRD hwf pp0 pm0 ry0 rp0
  have hS := Lib.hid (single_of hl1 ha hb)
  refine callsIn_of_wp Tryz.func61 rfl trivial ?_ rfl
  simp only [Tryz.ntmps61, List.size_toArray, List.length_cons, List.length_nil, Nat.reduceAdd, Nat.reduceSub, Array.replicate_succ, Array.replicate_zero, List.push_toArray, List.append_toArray, List.nil_append, List.cons_append]
  gi_wp2
  go_simp
  gi_wp2
  gi_loopw [12] (fun i wr => ∃ j : Nat, j ≤ years.length ∧ i = .int .i64 j ∧ J (partsL 4 (years.take j) parts) wr ∧ Hid (IKC B0 X W wr)) (fun i _ => years.length - (intOf i).toNat)
  case atStart => exact ⟨0, Nat.zero_le _, rfl, h0, Lib.hid (IKC.refl _ _)⟩
  case round =>
    obtain ⟨j, hj, rfl, hJs, K2⟩ := hrel
    obtain ⟨wo, HW⟩ : ∃ x, x = wr := ⟨_, rfl⟩
    subst HW
    by_cases hlt : j < years.length
    · obtain ⟨py, pp, pm, ry, rp⟩ := RD.out _ K2.out
      rcases ry with ⟨_, _, _, e⟩ | ⟨b0, off, cap, ev, hc, hm, hx⟩
      · rw [e] at hlt; simp at hlt
      cases ev
      obtain ⟨d1, d2⟩ := hx j hlt
      have P1 := Lib.hid (parts_one 4 years parts hS.out j hlt)
      have pf2 := P1.out ▸ partsL_pre 4 years parts (j + 1)
      obtain ⟨h1, h2, h3⟩ := hyi (at_ years j) (by unfold at_; simp [List.getD, hlt])
      clear hx hc hm
      obtain ⟨lo, hi', ee⟩ : ∃ x y, at_ years j = (x, y) := ⟨_, _, rfl⟩
      rw [ee] at d1 d2 h1 h2 h3 P1 pf2
      simp only at d1 d2 h1 h2 h3 P1 pf2
      clear ee
      have hsz := K2.out.size
      have z1 : (j : Int) < (years.length : Int) := by omega
      have hsz2 : B0 < wo.heap.size := by omega
      have K3 := Lib.hid (fun o k => ikb_newD K2.out WF.out hB0 o k)
      have hJ3 := Lib.hid (fun o k => J_kp hJ hJs ((Kp.alloc wo o).trans (kp_drewN _ k)))
      have by2 : By < wo.heap.size := World.block_lt_of_cell? _ _ py
      have bp2 : Bp < wo.heap.size := World.block_lt_of_cell? _ _ pp
      have bm2 : Bm < wo.heap.size := World.block_lt_of_cell? _ _ pm
      rcases rp with ⟨_, _, _, e⟩ | ⟨b9, off9, cap9, ev9, hc9, hm9, hx9⟩
      · rw [e] at hl1; simp at hl1
      cases ev9
      obtain ⟨c1, c2⟩ := hx9 0 (by omega)
      rw [Nat.zero_mul, Nat.add_zero] at c1 c2
      have hb9 : b9 < wo.heap.size := World.block_lt_of_cell? _ _ c1
      clear hx9 hc9 hm9
      have g1 : ((parts.length : Int) == 1) = true := by rw [hl1]; rfl
      have g0 : decide (0 < parts.length) = true := by rw [hl1]; rfl
      have g00 : decide ((0 : Int) < (parts.length : Int)) = true := by rw [hl1]; rfl
      obtain ⟨pa, hpa⟩ : ∃ x, (at_ parts 0).1 = x := ⟨_, rfl⟩
      obtain ⟨pb, hpb⟩ : ∃ x, (at_ parts 0).2 = x := ⟨_, rfl⟩
      rw [hpa] at c1 ha
      rw [hpb] at c2 hb
      clear hpa hpb
      have g2 : (pa == 1) = true := by simp; exact ha
      have g3 : (pb == 4) = true := by simp; exact hb
      gi_wp2_with fail
      gi_quiet (fail)
      gi_wp2
      obtain ⟨fn, tmps, assign, body, hy, hR⟩ := hY _ (4 * lo, 4 * hi' + 4 - 1) _ (hJ3.out (.cells #[.int .i64 lo, .int .i64 hi'] 37) nq) pf2
      gi_wp2
      refine hR.mono ?_
      rintro e W3 (⟨rfl, hJ7, k7⟩ | ⟨rfl, hJx⟩)
      · have K7 := Lib.hid ((K3.out _ _).1.trans k7)
        clear k7 hR hy
        gi_wp2
        go_roundw
        case rel => exact ⟨j + 1, by omega, by go_num, by rw [← P1.out]; exact hJ7, K7⟩
        case measure => simp [intOf]; omega
      · clear hR hy
        gi_wp2
        refine bodyPost_ret (results_none rfl _ _ _) rfl ?_
        exact ⟨⟨_, rfl⟩, .inr ⟨_, pf2, hJx⟩⟩
    · obtain rfl : j = years.length := by omega
      rw [List.take_length] at hJs
      gi_wp2
      go_end0
      exact ⟨⟨_, rfl⟩, .inl ⟨_, rfl, hJs⟩⟩
end Go.Proofs.YtinpglfclbnhlaaGreatDoor

namespace Go.Proofs.YtinpglfclbnhlaaGreatDoor
open Go.RowKit Go.Shelf
set_option linter.unusedVariables false
/-- an iterator's contract, for callers who keep what cells hold, and what lay ahead -/
def SeqO {α : Type} (F : Fence) (n : Nat) (P : Program) (g : Nat) (lb : Array Value) (encs : α → Array Value) (K : World → World → Prop) (S Sp : List α → Prop) (w : World) : Prop :=
  ∀ (l : Nat) (J Jx : List α → World → Prop) (W : World), Below w.heap.size w W → w.heap.size + 2 ≤ W.heap.size → OwnFrom W.heap.size J → OwnFrom W.heap.size Jx →
    (∀ pre x V, J pre V → Sp (pre ++ [x]) → YieldAt F (n - 1) P l (encs x) V fun e V' => (e = .returned (.bool true) ∧ J (pre ++ [x]) V' ∧ K V V') ∨ (e = .returned (.bool false) ∧ KeepsFrom W.heap.size V V' ∧ Jx (pre ++ [x]) V')) →
    J [] W → CallsIn F n P g (#[.func (.yield l) #[] #[]] ++ lb) W fun e V => (∃ v, e = .returned v) ∧ ((∃ xs, S xs ∧ J xs V) ∨ (∃ pre, Sp pre ∧ Jx pre V))
theorem abides_of_own {β : Type} {B : Nat} {J : β → World → Prop} (h : OwnFrom B J) : AbidesFrom B J := fun s W W' row hs hg hr =>
  h s W W' row hs hg (fun r e => by obtain ⟨a, o, b, c⟩ := hr r e; exact ⟨a, o, b, Obj.not_cells_of_walk c⟩)
theorem kf_put {n l : Nat} (W : World) (o : Obj) (h : l < n) : KeepsFrom n W (W.putObj l o) := ⟨by simp, fun k x hk hx _ => (World.putObj_heap_other (by omega)).trans hx⟩
theorem kf_up {n m : Nat} {W W' : World} (h : KeepsFrom n W W') (hm : n ≤ m) : KeepsFrom m W W' := ⟨h.size, fun k o hk hx hc => h.same k o (by omega) hx hc⟩
/-- the loop's two blocks -/
structure Bk (D : Nat) (r : Loop) (W : World) : Prop where
  loop : W.heap[D + 1]? = some (.loop r)
  late : W.heap[D]? = some (.deferred (some []))
theorem Bk.lt {D : Nat} {r : Loop} {W : World} (h : Bk D r W) : D + 1 < W.heap.size := (Array.getElem?_eq_some_iff.1 h.loop).1
theorem Bk.grown {D n : Nat} {r : Loop} {A B : World} {row : Option Nat} (h : Bk D r A) (hn : D + 2 ≤ n) (g : A.grownBy B row) (hr : ∀ k, row = some k → n ≤ k) : Bk D r B := by
  have l := h.lt
  exact ⟨(g.block _ l (fun e => by have := hr _ e.symm; omega)).trans h.loop, (g.block _ (by omega) (fun e => by have := hr _ e.symm; omega)).trans h.late⟩
theorem Bk.keeps {D : Nat} {r : Loop} {A B : World} (h : Bk D r A) (k : KeepsFrom D A B) : Bk D r B := ⟨k.same _ _ (by omega) h.loop rfl, k.same _ _ (Nat.le_refl _) h.late rfl⟩
theorem Bk.turn {D : Nat} {r : Loop} {W : World} (h : Bk D r W) (r' : Loop) : Bk D r' (W.putObj (D + 1) (.loop r')) := ⟨World.putObj_heap_same h.lt, (World.putObj_heap_other (by omega)).trans h.late⟩
theorem own_turn {β : Type} {D : Nat} {I : β → World → Prop} (hI : OwnFrom D I) {s : β} {r : Loop} {W : World} (hs : I s W) (h : Bk D r W) (r' : Loop) : I s (W.putObj (D + 1) (.loop r')) := hI.putObj _ hs (by omega) h.loop rfl
section
variable {α : Type} {F : Fence} {n : Nat} {P : Program} {g : Operand} {ps : Array Tmp} {assign body : Code} {Q : Exit → Act → World → Prop} {a : Act} {w : World}
theorem bk_end {D : Nat} {r : Loop} {W : World} (h : Bk D r W) (c : Option Code) : (Instr.endRound (D + 1) c).run P W = .ok (.bool c.isNone) (W.putObj (D + 1) (.loop { r with state := if c.isNone then .ready else .done, pending := c })) := run_endRound c h.loop
theorem law_own (hro : F.round = none) (h1 : 1 ≤ n) {gf : Nat} {lb : Array Value} (hg : a.eval g = .func (.func gf) #[] lb) (hFg : F.fn gf) (eg : ∀ args w, (callFunc gf args).run P w = .ok (.enter gf args) w)
    {encs : α → Array Value} {K : World → World → Prop} {S Sp : List α → Prop} {w0 : World} (hseq : SeqO F (n - 1) P gf lb encs K S Sp w0)
    (hKt : ∀ {A B C : World}, K A B → K B C → K A C) (hKb : ∀ (W : World) (o o' : Obj), W.heap[w.heap.size + 1]? = some o → o.isCells = false → K W (W.putObj (w.heap.size + 1) o')) (hw0 : w0.heap.size ≤ w.heap.size) (hb0 : Below w0.heap.size w0 w) (hps : ∀ x, (encs x).size = ps.size)
    (I : List α → World → Prop) (Ix : Code → List α → World → Prop) (hI : OwnFrom w.heap.size I) (hIx : ∀ c, OwnFrom w.heap.size (Ix c)) (h0 : I [] w) (Ax : α → Act → World → Prop) (hAx : ∀ x a', OwnFrom w.heap.size (fun (_ : Unit) W => Ax x a' W))
    (hassign : ∀ (l : Nat) (pre : List α) (x : α) (W : World) (C : Act → World → Prop), I pre W → (∀ a' V, KeepsFrom w.heap.size W V → K W V → I pre V → Ax x a' V → C a' V) →
      assign.wpIn (F.inRound l) (n - 1 - 1) P (Exit.then C (fun _ _ _ => False)) { tmps := (ps.zip (encs x)).foldl (fun t (p, v) => t.setIfInBounds p v) a.tmps, defers := [] } W)
    (hbody : ∀ (l : Nat) (pre : List α) (x : α) (a' : Act) (W : World), I pre W → Ax x a' W → Sp (pre ++ [x]) → body.wpIn (F.inRound l) (n - 1 - 1) P (ownPostG w.heap.size K I Ix (pre ++ [x]) W) a' W)
    (hdone : ∀ (D : Nat) (xs : List α) (W : World), w.heap.size ≤ D → S xs → I xs W → W.heap[D]? = some (.deferred (some [])) → Q .normal { a with defers := { target := .collected D, args := #[] } :: a.defers } W)
    (hstop : ∀ (D : Nat) (c : Code) (pre : List α) (W : World), w.heap.size ≤ D → Sp pre → Ix c pre W → W.heap[D]? = some (.deferred (some [])) → c.wpIn F n P Q { a with defers := { target := .collected D, args := #[] } :: a.defers } W) :
    (Code.rangeFunc g ps assign body).wpIn F n P Q a w := by
  apply wpIn_rangeFunc
  intro fn hfn
  obtain ⟨D, hD⟩ : ∃ D, D = w.heap.size := ⟨_, rfl⟩
  have hr0 : ∃ r0 : Loop, r0 = { state := .ready, pending := none, fn := fn, tmps := a.tmps, params := ps, assign := assign, body := body, defers := w.heap.size } := ⟨_, rfl⟩
  obtain ⟨r0, hr0⟩ := hr0
  obtain ⟨W1, hW1⟩ : ∃ W1, W1 = (w.alloc (.deferred (some []))).alloc (.loop r0) := ⟨_, rfl⟩
  have b1 : Bk D r0 W1 := by
    rw [hW1, hD]
    refine ⟨?_, (Below.heap_alloc _ _ _ (by simp)).trans (World.alloc_heap_new w _)⟩
    have := World.alloc_heap_new (w.alloc (.deferred (some []))) (.loop r0)
    rwa [World.size_alloc] at this
  have s1 : W1.heap.size = D + 2 := by rw [hW1, hD]; simp
  have i1 : I [] W1 := by rw [hW1]; exact hI.alloc _ (hI.alloc _ h0)
  have k1 : Below w0.heap.size w0 W1 := by
    rw [hW1]
    exact hb0.trans ((((Below.refl _ w).alloc (Nat.le_refl _) _).alloc (by simp) _).mono hb0.size)
  rw [← hD] at hI hIx hAx hbody hassign hdone hstop hKb
  have HJ := fun (J : List α → World → Prop) (hJ : OwnFrom D J) (r : Loop) => (fun s A B row hs hgr hr =>
    ⟨hJ s A B row hs.1 hgr (fun k e => ⟨by have := (hr k e).1; omega, (hr k e).2⟩), hs.2.grown (n := W1.heap.size) (by omega) hgr (fun k e => (hr k e).1)⟩ : OwnFrom W1.heap.size (fun pre W => J pre W ∧ Bk D r W))
  refine ⟨D + 1, [{ target := .collected D, args := #[] }], W1, { target := .fn (.func gf) lb, args := #[.func (.yield (D + 1)) #[] #[]] }, W1, gf, #[.func (.yield (D + 1)) #[] #[]] ++ lb, W1, ?_, ?_, ?_, ?_, fun _ => h1, ?_⟩
  · rw [hro, hW1, hD, hr0]; exact run_enterLoop_outer _ _ _ _ _
  · simp only [resolve, hg]
    simp [go_sem]
  · intro f' hf'; simp [Target.leads] at hf'; subst hf'; exact hFg
  · simp [invoke, go_sem, eg]
  refine (hseq (D + 1) (fun pre W => I pre W ∧ Bk D r0 W) (fun pre W => ∃ c, Ix c pre W ∧ Bk D { r0 with state := .done, pending := some c } W) W1 k1 (by omega) (HJ I hI r0)
    (fun s A B row hs hgr hr => by obtain ⟨c, hc⟩ := hs; exact ⟨c, HJ (Ix c) (hIx c) _ s A B row hc hgr hr⟩) ?_ ⟨i1, b1⟩).mono ?_
  · rintro pre x W ⟨hi, hb⟩ hlen
    have hy := run_yield (P := P) (args := encs x) hb.loop (by rw [hr0]; exact hps x)
    rw [hr0] at hy
    refine ⟨fn, _, assign, body, hy, roundIn_of_wpIn hfn (hassign _ pre x W _ hi ?_)⟩
    intro a' V kf kk iv ax
    have hv := hb.keeps kf
    refine ⟨_, run_beginRound hv.loop (by rw [hr0]), ?_⟩
    have hz := hv.turn { r0 with state := .busy }
    have kz : K V (V.putObj (D + 1) (.loop { r0 with state := .busy })) := hKb _ _ _ hv.loop rfl
    refine wpIn_mono (hbody _ pre x a' _ (own_turn hI iv hv _) (own_turn (hAx x a') (s := ()) ax hv _) hlen) ?_
    rintro e a3 U hp
    have leave : ∀ c : Code, KeepsFrom D (V.putObj (D + 1) (.loop { r0 with state := .busy })) U → Ix c (pre ++ [x]) U → ∃ v U', (Instr.endRound (D + 1) (some c)).run P U = .ok v U' ∧ v = .bool false ∧ KeepsFrom W1.heap.size W U' ∧ ∃ c, Ix c (pre ++ [x]) U' ∧ Bk D { r0 with state := .done, pending := some c } U' := by
      intro c k3 i3
      have hu := hz.keeps k3
      exact ⟨_, _, bk_end hu (some c), rfl, (kf_up kf (by omega)).trans ((kf_put V _ (by omega)).trans ((kf_up k3 (by omega)).trans (kf_put U _ (by omega)))), c, own_turn (hIx c) i3 hu _, by have := hu.turn { r0 with state := .done, pending := some c }; exact this⟩
    cases e with
    | normal =>
      obtain ⟨k3, kk3, i3⟩ := hp
      have hu := hz.keeps k3
      have hend := bk_end (P := P) hu none
      refine ⟨_, _, hend, .inl ⟨rfl, ⟨own_turn hI i3 hu _, ?_⟩, hKt kk (hKt (hKt kz kk3) (hKb _ _ _ hu.loop rfl))⟩⟩
      have := hu.turn r0
      rw [hr0] at this ⊢
      exact this
    | ret => obtain ⟨v, U', p1, p2, p3⟩ := leave .ret hp.1 hp.2; exact ⟨v, U', p1, .inr ⟨by rw [p2], p3⟩⟩
    | exit id => obtain ⟨v, U', p1, p2, p3⟩ := leave (.exit id) hp.1 hp.2; exact ⟨v, U', p1, .inr ⟨by rw [p2], p3⟩⟩
    | goto t => obtain ⟨v, U', p1, p2, p3⟩ := leave (.goto t) hp.1 hp.2; exact ⟨v, U', p1, .inr ⟨by rw [p2], p3⟩⟩
    | panic ch => exact hp.elim
    | outgrown => exact hp.elim
  · rintro e W2 ⟨⟨v, rfl⟩, (⟨xs, hS, hi, hb⟩ | ⟨pre, hSp, c, hi, hb⟩)⟩
    · refine ⟨none, _, ?_, hdone D xs _ (Nat.le_refl _) hS (own_turn hI hi hb { r0 with state := .exhausted }) (hb.turn _).late⟩
      have := run_endLoop (P := P) hb.loop (by rw [hr0]; simp)
      rw [this, hr0]
    · refine ⟨some c, _, ?_, hstop D c pre _ (Nat.le_refl _) hSp (own_turn (hIx c) hi hb { r0 with state := .exhausted, pending := some c }) (hb.turn _).late⟩
      have := run_endLoop (P := P) hb.loop (by simp)
      rw [this]
end
end Go.Proofs.YtinpglfclbnhlaaGreatDoor

namespace Go.Proofs.YtinpglfclbnhlaaGreatDoor
open Go.RowKit Go.Shelf
set_option linter.unusedVariables false
set_option linter.unusedSimpArgs false
attribute [local go_sem] Oper.semAt_some
/-- runs that are gone over -/
abbrev Rb : Type := { x : R // 0 ≤ x.1 ∧ x.1 ≤ x.2 ∧ x.2 ≤ 100000000 }
def encA (x : Rb) : Array Value := #[.agg #[.int .i64 x.1.1, .int .i64 x.1.2]]
def bare (l : List Rb) : List R := l.map (·.1)
theorem bare_len (l : List Rb) : (bare l).length = l.length := by simp [bare]
theorem bare_snoc (l : List Rb) (x : Rb) : bare (l ++ [x]) = bare l ++ [x.1] := by simp [bare]
/-- a function value that goes over runs, whatever set grows meanwhile -/
def SeqR (fv : Value) (L : List R) (w : World) : Prop := ∃ gf lb, fv = .func (.func gf) #[] lb ∧ (∀ args w, (callFunc gf args).run Tryz.prog w = .ok (.enter gf args) w) ∧
  ∀ n, 3 ≤ n → ∀ B0 X W0, Kp w W0 → (∀ k, X k → k < W0.heap.size + 2) → WFB B0 W0 → B0 < W0.heap.size → (∀ k, k < w.heap.size → ¬ dirty B0 W0 k) →
    SeqO Fence.wide n Tryz.prog gf lb encA (IKC B0 X) (fun ys => bare ys = L) (fun pre => bare pre <+: L) W0
theorem SeqR.kp {fv : Value} {L : List R} {w w' : World} (h : SeqR fv L w) (k : Kp w w') : SeqR fv L w' := by
  obtain ⟨gf, lb, e, a, b⟩ := h
  exact ⟨gf, lb, e, a, fun n hn B0 X W0 k0 hX wf hB hc => b n hn B0 X W0 (k.trans k0) hX wf hB (fun i hi => hc i (Nat.lt_of_lt_of_le hi k.size))⟩
theorem kp_cell {w w' : World} (k : Kp w w') {a : Addr} {x : Value} (h : w.cell? a = some x) : w'.cell? a = some x :=
  (Below.cell (p := a) k (World.block_lt_of_cell? _ _ h)).trans h
theorem runs_lt {w : World} {v : Value} {l : List R} (h : RunsAt w v l) : ∀ b off cap, v = .slice (some ⟨b, off, none⟩) l.length cap → l ≠ [] → b < w.heap.size := by
  intro b off cap e hne
  rcases h with ⟨_, _, _, e2⟩ | ⟨b', off', cap', e2, h1, h2, h3⟩
  · exact absurd e2 hne
  · rw [e] at e2
    cases e2
    have := h3 0 (by rcases l with _ | ⟨x, t⟩; exact absurd rfl hne; simp)
    exact World.block_lt_of_cell? _ _ this.1
theorem parts_seq (By Bp Bm : Nat) (most : Int) (hm : most = 12 ∨ most = 4) (vy vp : Value) (years parts : List R) (w : World)
    (py : w.cell? ⟨By, 0, none⟩ = some vy) (pp : w.cell? ⟨Bp, 0, none⟩ = some vp) (pm : w.cell? ⟨Bm, 0, none⟩ = some (.int .i64 most)) (ry : RunsAt w vy years) (rp : RunsAt w vp parts)
    (hyi : Inn 0 9999 years) (hpi : Inn 1 most parts) (hn1 : years.length ≤ 1000000) (hn2 : parts.length ≤ 1000) :
    SeqR (.func (.func 61) #[] #[.pointer (some ⟨By, 0, none⟩), .pointer (some ⟨Bp, 0, none⟩), .pointer (some ⟨Bm, 0, none⟩)]) (partsL most years parts) w := by
  refine ⟨_, _, rfl, enters_of Tryz.func61 (by kernel_rfl) rfl, fun n hn B0 X W0 k0 hX wf hB hc => ?_⟩
  intro l J1 Jx1 W hW hs2 hJ1 hJx1 hY1 h01
  have hin := partsL_in hm hpi hyi
  have hmm : most * 10000 - 1 ≤ 100000000 := by rcases hm with rfl | rfl <;> decide
  obtain ⟨J, eJ⟩ : ∃ J : List R → World → Prop, J = fun pre W => ∃ q, bare q = pre ∧ J1 q W := ⟨_, rfl⟩
  obtain ⟨Jx, eJx⟩ : ∃ J : List R → World → Prop, J = fun pre W => ∃ q, bare q = pre ∧ Jx1 q W := ⟨_, rfl⟩
  have hJ : AbidesFrom W.heap.size J := by
    rw [eJ]
    rintro s W W' row ⟨q, e, h⟩ hg hr
    exact ⟨q, e, abides_of_own hJ1 q W W' row h hg hr⟩
  have h0 : J [] W := by rw [eJ]; exact ⟨[], rfl, h01⟩
  have hY : ∀ pre x W, J pre W → pre ++ [x] <+: partsL most years parts → YieldAt Fence.wide (n - 1) Tryz.prog l #[.agg #[.int .i64 x.1, .int .i64 x.2]] W fun e W' =>
      (e = .returned (.bool true) ∧ J (pre ++ [x]) W' ∧ IKC B0 X W W') ∨ (e = .returned (.bool false) ∧ Jx (pre ++ [x]) W') := by
    intro pre x W h pf
    rw [eJ] at h
    obtain ⟨q, rfl, h⟩ := h
    have hx := hin x (pf.subset (by simp))
    obtain ⟨fn, tmps, assign, body, hy, hR⟩ := hY1 q ⟨x, hx.1, hx.2.1, by omega⟩ W h (by simp only [bare_snoc]; exact pf)
    refine ⟨fn, tmps, assign, body, hy, hR.mono ?_⟩
    rintro e W' (⟨a, b, c⟩ | ⟨a, _, b⟩)
    · exact .inl ⟨a, by rw [eJ]; exact ⟨_, bare_snoc _ _, b⟩, c⟩
    · exact .inr ⟨a, by rw [eJx]; exact ⟨_, bare_snoc _ _, b⟩⟩
  have conv : ∀ W', ((∃ ys, ys = partsL most years parts ∧ J ys W') ∨ (∃ pre, pre <+: partsL most years parts ∧ Jx pre W')) → ((∃ ys, bare ys = partsL most years parts ∧ J1 ys W') ∨ (∃ pre, bare pre <+: partsL most years parts ∧ Jx1 pre W')) := by
    rintro W' (⟨ys, e, h⟩ | ⟨pre, e, h⟩)
    · rw [eJ] at h
      obtain ⟨q, e2, h⟩ := h
      exact .inl ⟨q, e2.trans e, h⟩
    · rw [eJx] at h
      obtain ⟨q, e2, h⟩ := h
      exact .inr ⟨q, by rw [e2]; exact e, h⟩
  refine CallsIn.mono (R := fun e W' => (∃ v, e = .returned v) ∧ ((∃ ys, ys = partsL most years parts ∧ J ys W') ∨ (∃ pre, pre <+: partsL most years parts ∧ Jx pre W'))) ?_ (fun e W' h => ⟨h.1, conv W' h.2⟩)
  clear conv hJ1 hJx1 hY1 h01 eJ eJx
  have hRD : ∀ W', IKC B0 X W W' → W'.cell? ⟨By, 0, none⟩ = some vy ∧ W'.cell? ⟨Bp, 0, none⟩ = some vp ∧ W'.cell? ⟨Bm, 0, none⟩ = some (.int .i64 most) ∧ RunsAt W' vy years ∧ RunsAt W' vp parts := by
    intro W' k
    have k1 := (IKC.kp (B := B0) (X := X) hW hB).trans k
    exact ⟨k1.cell (kp_cell k0 py) (hc _ (World.block_lt_of_cell? _ _ py)), k1.cell (kp_cell k0 pp) (hc _ (World.block_lt_of_cell? _ _ pp)), k1.cell (kp_cell k0 pm) (hc _ (World.block_lt_of_cell? _ _ pm)),
      k1.runs (ry.kp k0) (fun b off cap e hne => hc b (runs_lt ry b off cap e hne)), k1.runs (rp.kp k0) (fun b off cap e hne => hc b (runs_lt rp b off cap e hne))⟩
  have wf2 := (IKC.kp (B := B0) (X := X) hW hB).wf wf
  have hB2 : B0 < W.heap.size := Nat.lt_of_lt_of_le hB hW.size
  have hn3 : 1 ≤ n := by omega
  rcases hm with rfl | rfl
  all_goals
    by_cases a : parts.length = 1
    · by_cases b : (at_ parts 0).1 = 1
      · first
          | (by_cases c : (at_ parts 0).2 = 12
             · exact parts1_in12d n hn3 l By Bp Bm B0 X vy vp years parts J Jx W hY hJ hRD hyi hpi hn1 hn2 wf2 hB2 h0 a b c
             · exact parts1_in12c n hn3 l By Bp Bm B0 X vy vp years parts J Jx W hY hJ hRD hyi hpi hn1 hn2 wf2 hB2 h0 a b c)
          | (by_cases c : (at_ parts 0).2 = 4
             · exact parts1_in4d n hn3 l By Bp Bm B0 X vy vp years parts J Jx W hY hJ hRD hyi hpi hn1 hn2 wf2 hB2 h0 a b c
             · exact parts1_in4c n hn3 l By Bp Bm B0 X vy vp years parts J Jx W hY hJ hRD hyi hpi hn1 hn2 wf2 hB2 h0 a b c)
      · first | exact parts1_in12b n hn3 l By Bp Bm B0 X vy vp years parts J Jx W hY hJ hRD hyi hpi hn1 hn2 wf2 hB2 h0 a b | exact parts1_in4b n hn3 l By Bp Bm B0 X vy vp years parts J Jx W hY hJ hRD hyi hpi hn1 hn2 wf2 hB2 h0 a b
    · first | exact parts1_in12a n hn3 l By Bp Bm B0 X vy vp years parts J Jx W hY hJ hRD hyi hpi hn1 hn2 wf2 hB2 h0 a | exact parts1_in4a n hn3 l By Bp Bm B0 X vy vp years parts J Jx W hY hJ hRD hyi hpi hn1 hn2 wf2 hB2 h0 a
/-- partsOfYears -/
theorem parts_any (most : Int) (hm : most = 12 ∨ most = 4) (vy vp : Value) (years parts : List R) (w : World) (ry : RunsAt w vy years) (rp : RunsAt w vp parts)
    (hyi : Inn 0 9999 years) (hpi : Inn 1 most parts) (hn1 : years.length ≤ 1000000) (hn2 : parts.length ≤ 1000) :
    Calls Tryz.prog 40 #[vy, vp, .int .i64 most] w fun e w' => ∃ fv : Value, e = .returned fv ∧ SeqR fv (partsL most years parts) w' ∧ Kp w w' := by
  have hmf : ∀ (fn : Fn) (first cap : Array Value) (w : World), (Instr.makeFunc fn first cap).run Tryz.prog w = .ok (.func fn first cap) w := fun _ _ _ _ => rfl
  have SQ := Lib.hid (fun By Bp Bm w1 (k : Kp w w1) a b c => parts_seq By Bp Bm most hm vy vp years parts w1 a b c (ry.kp k) (rp.kp k) hyi hpi hn1 hn2)
  obtain ⟨ady, cpy, rfl⟩ := ry.slice
  obtain ⟨adp, cpp, rfl⟩ := rp.slice
  clear ry rp hyi hpi hn1 hn2 hm
  go_enter Tryz.func40, Tryz.ntmps40
  go_wp2
  go_ret
  refine ⟨_, rfl, SQ.out _ _ _ _ (((Kp.alloc _ _).trans (Kp.alloc _ _)).trans (Kp.alloc _ _)) ?_ ?_ ?_, ((Kp.alloc _ _).trans (Kp.alloc _ _)).trans (Kp.alloc _ _)⟩
  · exact (((Boxed.new w 28 _).alloc _).alloc _).cell
  · exact ((Boxed.at' _ _ 28 _ (by simp)).alloc _).cell
  · exact (Boxed.at' _ _ 3 _ (by simp)).cell
end Go.Proofs.YtinpglfclbnhlaaGreatDoor

namespace Go.Proofs.YtinpglfclbnhlaaGreatDoor
open Go.RowKit Go.Shelf
set_option linter.unusedVariables false
set_option linter.unusedSimpArgs false
attribute [local go_sem] Oper.semAt_some
theorem gn_hi : ∀ l : List R, ∀ q ∈ gn l, ∃ r ∈ l, q.2 = r.2 := by
  refine snoc_ind ?_ ?_
  · intro q hq; cases hq
  · intro l r ih q hq
    rw [gn_snoc] at hq
    rcases snoc_cases (gn l) with e | ⟨b, p, e⟩
    · rw [e] at hq
      simp [gstep] at hq
      subst hq
      exact ⟨q, by simp, rfl⟩
    · rw [e, gstep_snoc] at hq
      have ih2 := fun q (h : q ∈ b ++ [p]) => ih q (by rw [e]; exact h)
      split at hq
      · rcases List.mem_append.1 hq with h | h
        · obtain ⟨x, hx, e2⟩ := ih2 q (List.mem_append_left _ h)
          exact ⟨x, List.mem_append_left _ hx, e2⟩
        · rw [List.mem_singleton.1 h]
          exact ⟨r, by simp, rfl⟩
      · rcases List.mem_append.1 hq with h | h
        · obtain ⟨x, hx, e2⟩ := ih2 q h
          exact ⟨x, List.mem_append_left _ hx, e2⟩
        · rw [List.mem_singleton.1 h]
          exact ⟨r, by simp, rfl⟩
theorem GJ.from {w0 : World} {B n : Nat} (hn : w0.heap.size ≤ n) : OwnFrom n (fun (pre : List R) W => GJ w0 B (gn pre) W) := by
  intro s W W' row hs hg hr
  obtain ⟨h1, h2, v, h3, h4⟩ := hs
  refine ⟨h1.grown hg (fun j hj => Nat.le_trans hn (hr j hj).1), h2, v, (grownBy_keeps_cells hg (fun r e => (hr r e).2) h3 rfl).trans h3, h4.kept hg ?_⟩
  rcases h4.2 with ⟨rfl, _⟩ | ⟨g, cap, cur, rfl, _, hgb, _⟩
  · exact .inl rfl
  · refine .inr fun e' => ?_
    obtain ⟨_, o, ho, hc⟩ := hr g (by rw [← e']; rfl)
    rw [hgb] at ho
    cases ho
    cases hc
theorem GJ.keeps {w0 W W' : World} {B : Nat} {S : List R} (n : Nat) (h : GJ w0 B S W) (k : IKB B W W') : KeepsFrom n W W' := by
  refine ⟨k.size, fun i o _ hi hc => k.obj hi ?_⟩
  obtain ⟨h1, h2, v, h3, h4⟩ := h
  rintro (rfl | ⟨u, t, fr, a, b⟩)
  · rw [h3] at hi; cases hi; cases hc
  · rw [h3] at a
    cases a
    rcases h4.2 with ⟨rfl, _⟩ | ⟨g, cap, cur, rfl, _, hgb, _⟩
    · cases b
    · cases b
      rw [hgb] at hi
      cases hi
      cases hc
end Go.Proofs.YtinpglfclbnhlaaGreatDoor

namespace Go.Proofs.YtinpglfclbnhlaaGreatDoor
open Go.RowKit Go.Shelf
set_option linter.unusedVariables false
set_option linter.unusedSimpArgs false
attribute [local go_sem] Oper.semAt_some
theorem kf_kp {n : Nat} {W W' : World} (k : Kp W W') : KeepsFrom n W W' := ⟨k.size, fun i o _ hi _ => (k.block i (Array.getElem?_eq_some_iff.1 hi).1).trans hi⟩
set_option maxHeartbeats 16000000 in
set_option maxRecDepth 100000 in
theorem gathered_any (fv : Value) (L : List R) (w : World) (h : SeqR fv L w) (hb : Inn 0 100000000 L) :
    Calls Tryz.prog 39 #[fv] w fun e W' => ∃ v', e = .returned (.tuple #[v', .bool (decide ((gn L).length ≤ 400))]) ∧
      W'.ownsRow w.heap.size 37 2 v' (if (gn L).length ≤ 400 then gn L else []).length (cellsR (if (gn L).length ≤ 400 then gn L else [])) ∧ Kp w W' := by
  obtain ⟨gf, lb, rfl, heg, hsq⟩ := h
  obtain ⟨bz, hbz⟩ : ∃ x, decide ((gn L).length ≤ 400) = x := ⟨_, rfl⟩
  obtain ⟨rz, hrz⟩ : ∃ x, (if (gn L).length ≤ 400 then gn L else []) = x := ⟨_, rfl⟩
  rw [hbz, hrz]
  have HBZ := Lib.hid hbz
  have HRZ := Lib.hid hrz
  clear hbz hrz
  refine (callsIn_wide (n := 9)).1 ?_
  refine callsIn_of_wp_marks Tryz.func39 rfl trivial ?_ rfl
  simp only [Tryz.ntmps39, List.size_toArray, List.length_cons, List.length_nil, Nat.reduceAdd, Nat.reduceSub, Array.replicate_succ, Array.replicate_zero, List.push_toArray, List.append_toArray, List.nil_append, List.cons_append]
  gi_wp2
  obtain ⟨w2, hw2⟩ : ∃ x, x = (w.alloc (.cells #[.slice none 0 0] 28)).alloc (.cells #[.bool false] 4) := ⟨_, rfl⟩
  have b2 : Boxed w2 w.heap.size 28 (.slice none 0 0) := by rw [hw2]; exact (Boxed.new _ _ _).alloc _
  have b3 : Boxed w2 (w.heap.size + 1) 4 (.bool false) := by rw [hw2]; exact Boxed.at' _ _ _ _ (by simp)
  have k2 : Kp w w2 := by rw [hw2]; exact (Kp.alloc _ _).trans (Kp.alloc _ _)
  have z2 : w2.heap.size = w.heap.size + 1 + 1 := by rw [hw2]; simp
  rw [← hw2]
  clear hw2
  obtain ⟨W0, hW0⟩ : ∃ x, x = w2.alloc (.cells #[.slice none 0 0] 76) := ⟨_, rfl⟩
  have kW : Kp w2 W0 := by rw [hW0]; exact Kp.alloc _ _
  have zW : W0.heap.size = w.heap.size + 1 + 1 + 1 := by rw [hW0, World.size_alloc, z2]
  have gB : W0.heap[w.heap.size + 1 + 1]? = some (.cells #[.slice none 0 0] 76 (0, 0)) := by rw [hW0, ← z2]; exact heap_at _ _ _ rfl
  have G0 : GJ w2 (w.heap.size + 1 + 1) (gn []) W0 := ⟨kW, by omega, _, gB, World.ownsRow_nil _ _ _ _⟩
  have hcl : ∀ k, k < w.heap.size → ¬ dirty (w.heap.size + 1 + 1) W0 k := fun k hk => G0.dirty (by omega)
  rw [← hW0]
  clear hW0
  refine law_own rfl (by omega) (gf := gf) (lb := lb) rfl trivial heg (hsq 8 (by omega) (w.heap.size + 1 + 1) (fun k => k = W0.heap.size + 1) W0 (k2.trans kW) (fun k e => by subst e; omega) G0.wf (by omega) hcl)
    (fun h g => h.trans g) (fun W o o' h hc => IKC.putObj W _ o o' (by omega) rfl h hc) (Nat.le_refl _) (Below.refl _ _) (fun _ => rfl)
    (fun pre W => GJ w2 (w.heap.size + 1 + 1) (gn (bare pre)) W ∧ (gn (bare pre)).length ≤ 400)
    (fun c pre W => c = .ret ∧ 400 < (gn (bare pre)).length ∧ W.cell? ⟨w.heap.size, 0, none⟩ = some (.slice none 0 0) ∧ W.cell? ⟨w.heap.size + 1, 0, none⟩ = some (.bool false) ∧ Kp w W)
    (fun s W W' row hs hg hr => ⟨GJ.from (by omega) (bare s) W W' row hs.1 hg hr, hs.2⟩)
    (fun c s W W' row hs hg hr => ⟨hs.1, hs.2.1, cell_kept hs.2.2.1 hg (fun r e => (hr r e).2), cell_kept hs.2.2.2.1 hg (fun r e => (hr r e).2), ownFrom_below (Nat.le_refl _) (by omega) s W W' row hs.2.2.2.2 hg hr⟩)
    ⟨G0, by simp [gn, bare]⟩
    (fun x a' W => ∃ b, a' = { tmps := #[.func (.func gf) #[] lb, undef, .pointer (some ⟨w.heap.size, 0, none⟩), .pointer (some ⟨w.heap.size + 1, 0, none⟩), .pointer (some ⟨w.heap.size + 1 + 1, 0, none⟩), .pointer (some ⟨b, 0, none⟩), .func (.func gf) #[] lb, .agg #[.int .i64 x.1.1, .int .i64 x.1.2], undef, undef, undef, undef, undef], defers := [] } ∧ W.heap[b]? = some (.cells #[.int .i64 x.1.1, .int .i64 x.1.2] 37 (0, 0)))
    (fun x a' s W W' row hs hg hr => by obtain ⟨b, e, hb⟩ := hs; exact ⟨b, e, (grownBy_keeps_cells hg (fun r e => (hr r e).2) hb rfl).trans hb⟩) ?assign ?body ?done ?stop
  case assign =>
    rintro l pre ⟨⟨x1, x2⟩, hx⟩ W K hI hK
    have HK := Lib.hid hK
    have HI := Lib.hid hI
    clear hK hI hsq
    unfold encA
    simp only [List.zip_toArray, List.size_toArray, List.length_cons, List.length_nil, List.zip_cons_cons, List.zip_nil_left, List.foldl_toArray, List.foldl_cons, List.foldl_nil, List.setIfInBounds_toArray, List.set_cons_zero, List.set_cons_succ]
    gi_wp2
    refine HK.out _ _ (kf_kp (Kp.alloc _ _)) (IKC.kp (Kp.alloc _ _) ?_) ⟨HI.out.1.kp (Kp.alloc _ _), HI.out.2⟩ ⟨_, rfl, heap_at _ _ _ rfl⟩
    have := HI.out.1.1.size
    have := (Array.getElem?_eq_some_iff.1 HI.out.1.2.2.choose_spec.1).1
    omega
  case body =>
    rintro l pre ⟨⟨x1, x2⟩, hx⟩ a' W ⟨hG, hp⟩ ⟨b, rfl, hbx⟩ hlt
    have A := Lib.hid (add_any w2 (w.heap.size + 1 + 1) (gn (bare pre)) x1 x2 W hG (by omega) (fun q hq => by
      obtain ⟨r, hr, e⟩ := gn_hi _ q hq
      obtain ⟨y, hy, rfl⟩ := List.mem_map.1 hr
      have := y.2
      rw [e]
      omega))
    have HG := Lib.hid hG
    have GE := Lib.hid (show gn (bare (pre ++ [⟨(x1, x2), hx⟩])) = gstep (gn (bare pre)) (x1, x2) by rw [bare_snoc, gn_snoc])
    have HBX := Lib.hid hbx
    have HB2 := Lib.hid b2
    have HB3 := Lib.hid b3
    have HK2 := Lib.hid k2
    have e0 : W.cell? ⟨b, 0, none⟩ = some (.int .i64 x1) := by simp [World.cell?, hbx]
    have e1 : W.cell? ⟨b, 1, none⟩ = some (.int .i64 x2) := by simp [World.cell?, hbx]
    clear hG hp hlt hsq b2 b3 k2 kW gB G0 hcl
    generalize gstep (gn (bare pre)) (x1, x2) = S at *
    obtain ⟨bb, hbb⟩ : ∃ x, decide (S.length ≤ 400) = x := ⟨_, rfl⟩
    rw [hbb] at A
    gi_wp2_with fail
    refine ⟨trivial, ?_⟩
    refine (CallsIn.inRound l (callsIn_wide.2 A.out)).mono ?_
    rintro e W2 ⟨rfl, gj, ik⟩
    have GJ2 := Lib.hid gj
    have IK2 := Lib.hid ik
    have B2 : Boxed W2 w.heap.size 28 (.slice none 0 0) := (gj.1.block _ (by omega)).trans HB2.out
    have B3 : Boxed W2 (w.heap.size + 1) 4 (.bool false) := (gj.1.block _ (by omega)).trans HB3.out
    have KW2 := Lib.hid (HK2.out.trans gj.1)
    clear gj ik hbx e0 e1
    cases bb with
    | true =>
      have hle := Lib.hid (of_decide_eq_true hbb)
      clear hbb A
      gi_wp2
      exact ⟨HG.out.keeps _ IK2.out, IK2.out.toC, by rw [GE.out]; exact GJ2.out, by rw [GE.out]; exact hle.out⟩
    | false =>
      have hle := Lib.hid (of_decide_eq_false hbb)
      have c2 := B2.cell
      have f2 := B2.frozen
      have B3' := B3.other (show w.heap.size + 1 ≠ w.heap.size by omega) (.slice none 0 0)
      have c3 := B3'.cell
      have f3 := B3'.frozen
      clear hbb A
      gi_wp2
      exact ⟨(HG.out.keeps _ IK2.out).trans (((KeepsOthers.setCell W2 _ _).trans (KeepsOthers.setCell _ _ _)).from _), rfl, by rw [GE.out]; have := hle.out; omega, ((B2.set _).other (by omega) _).cell, (B3'.set _).cell, ((Below.setCell KW2.out (p := ⟨w.heap.size, 0, none⟩) (by simp only; omega) _).setCell (p := ⟨w.heap.size + 1, 0, none⟩) (by simp only; omega) _)⟩
  case done =>
    rintro D ys W hD rfl ⟨hG, hp⟩ hK
    obtain ⟨g1, g2, v, g3, g4⟩ := hG
    obtain ⟨av, cv, rfl⟩ := own_slice g4
    have O3 := Lib.hid g4
    have hc : W.cell? ⟨w.heap.size + 1 + 1, 0, none⟩ = some (.slice av (gn (bare ys)).length cv) := by simp [World.cell?, g3]
    have B2 : Boxed W w.heap.size 28 (.slice none 0 0) := (g1.block _ (by omega)).trans b2
    have B3 : Boxed W (w.heap.size + 1) 4 (.bool false) := (g1.block _ (by omega)).trans b3
    have KW := Lib.hid (k2.trans g1)
    have hle := Lib.hid hp
    have szW := g1.size
    have HK := Lib.hid hK
    have d2 := B2.cell
    have f2 := B2.frozen
    have B3'' := B3.other (show w.heap.size + 1 ≠ w.heap.size by omega) (.slice av (gn (bare ys)).length cv)
    have d3 := B3''.cell
    have f3 := B3''.frozen
    obtain rfl : bz = true := by have := HBZ.out; rw [decide_eq_true hp] at this; exact this.symm
    have er : gn (bare ys) = rz := by have := HRZ.out; rw [if_pos hp] at this; exact this
    clear g1 g2 g3 g4 hp hsq hb b2 b3 k2 kW gB G0 hcl HBZ HRZ
    generalize gn (bare ys) = S at *
    subst er
    gi_wp2
    have hKD2 := Lib.hid (((KeepsOthers.setCell W ⟨w.heap.size, 0, none⟩ (.slice av S.length cv)).trans (KeepsOthers.setCell _ ⟨w.heap.size + 1, 0, none⟩ (.bool true))).same D _ HK.out rfl)
    have e2 := ((B2.set (.slice av S.length cv)).other (show w.heap.size ≠ w.heap.size + 1 by omega) (.bool true)).cell
    have e3 := (B3''.set (.bool true)).cell
    have g2 := cell_kept e2 (grownBy_putObj' _ D (.deferred none)) (fun r e => by cases e; exact ⟨_, hKD2.out, rfl⟩)
    have g3 := cell_kept e3 (grownBy_putObj' _ D (.deferred none)) (fun r e => by cases e; exact ⟨_, hKD2.out, rfl⟩)
    refine ⟨by simp, .inl ⟨_, _, rfl, run_takeDeferred hKD2.out, ?_⟩⟩
    refine ⟨.tuple #[.slice av S.length cv, .bool true], ?_, _, rfl, ?_, ?_⟩
    · simp [results, Tryz.f39, go_sem, g2, g3]
    · have o1 := own_set O3.out (show w.heap.size < w2.heap.size by omega) (.slice av S.length cv)
      have o2 := own_set o1 (show w.heap.size + 1 < w2.heap.size by omega) (.bool true)
      exact ownsRow_putObj (own_mono o2 (show w.heap.size ≤ w2.heap.size by omega)) _ hKD2.out rfl
    · exact ((Below.setCell KW.out (p := ⟨w.heap.size, 0, none⟩) (by simp only; omega) _).setCell (p := ⟨w.heap.size + 1, 0, none⟩) (by simp only; omega) _).trans (belowK_b (w := w) (Nat.le_refl _) _ D _ _ (by omega) hKD2.out rfl rfl)
  case stop =>
    rintro D c pre W hD hpre ⟨rfl, hlen, h2, h3, hB⟩ hK
    have hle := gn_pre hpre
    obtain rfl : bz = false := by have := HBZ.out; rw [decide_eq_false (by omega)] at this; exact this.symm
    obtain rfl : rz = [] := by have := HRZ.out; rw [if_neg (by omega)] at this; exact this.symm
    gi_wp2
    refine ⟨by simp, .inl ⟨_, _, rfl, run_takeDeferred hK, ?_⟩⟩
    have g2 := cell_kept h2 (grownBy_putObj' _ D (.deferred none)) (fun r e => by cases e; exact ⟨_, hK, rfl⟩)
    have g3 := cell_kept h3 (grownBy_putObj' _ D (.deferred none)) (fun r e => by cases e; exact ⟨_, hK, rfl⟩)
    refine ⟨.tuple #[.slice none 0 0, .bool false], ?_, _, rfl, World.ownsRow_nil _ _ _ _, (show Below w.heap.size w W from hB).trans (belowK_b (w := w) (Nat.le_refl _) W D _ _ (by omega) hK rfl rfl)⟩
    simp [results, Tryz.f39, go_sem, g2, g3]
end Go.Proofs.YtinpglfclbnhlaaGreatDoor

namespace Go.Proofs.YtinpglfclbnhlaaGreatDoor
open Go.RowKit Go.Shelf
set_option linter.unusedVariables false
theorem yield_wide {P : Program} {n m l l' : Nat} {args : Array Value} {W : World} {R : Ending → World → Prop} (h : YieldAt Fence.wide n P l args W R) : YieldAt (Fence.wide.inRound l') m P l args W R := by
  obtain ⟨fn, tmps, assign, body, hy, hf, hR⟩ := h
  exact ⟨fn, tmps, assign, body, hy, hf, fun c cs _ => hR c cs (by simp [Fence.room, Fence.wide])⟩
theorem daysL_snoc (months known : List R) (r : R) : daysL (months ++ [r]) known = daysL months known ++ (ofR r).flatMap (dayM known) := by
  unfold daysL
  simp
theorem daysL_pre {a b : List R} (h : a <+: b) (known : List R) : daysL a known <+: daysL b known := by
  obtain ⟨t, rfl⟩ := h
  unfold daysL
  rw [List.flatMap_append]
  exact List.prefix_append _ _
/-- what one known run adds to a month -/
def day1 (m : Int) (d : R) : List R := if mon m + d.1 - 1 ≤ mon (m + 1) - 1 then [(mon m + d.1 - 1, min (mon m + d.2 - 1) (mon (m + 1) - 1))] else []
theorem dayM_next (known : List R) (m : Int) (p : Nat) (h : p < known.length) : dayM (known.take (p + 1)) m = dayM (known.take p) m ++ day1 m (at_ known p) := by
  unfold dayM
  rw [take_at known p h]
  simp [day1]
theorem dayM_pre (known : List R) (m : Int) (p : Nat) : dayM (known.take p) m <+: dayM known m := by
  conv => rhs; rw [← List.take_append_drop p known]
  unfold dayM
  rw [List.flatMap_append]
  exact List.prefix_append _ _
/-- how far the iterator is, behind a known run -/
theorem days_part (pre : List R) (known : List R) (r : R) (m p : Nat) (hm : m < (r.2 - r.1 + 1).toNat) (hp : p < known.length) :
    daysL pre known ++ (upL r.1 m).flatMap (dayM known) ++ dayM (known.take p) (r.1 + (m : Int)) ++ day1 (r.1 + (m : Int)) (at_ known p) <+: daysL (pre ++ [r]) known := by
  rw [daysL_snoc, ofR_upL, List.append_assoc, ← dayM_next known _ p hp, List.append_assoc]
  refine (List.prefix_append_right_inj _).2 ?_
  refine List.IsPrefix.trans ((List.prefix_append_right_inj _).2 (dayM_pre known _ (p + 1))) ?_
  have e : (upL r.1 m).flatMap (dayM known) ++ dayM known (r.1 + (m : Int)) = (upL r.1 (m + 1)).flatMap (dayM known) := by
    rw [upL_succ, List.flatMap_append, List.flatMap_singleton]
  rw [e]
  exact upL_pre _ hm _
theorem days_month (known : List R) (lo : Int) (m : Nat) : (upL lo m).flatMap (dayM known) ++ dayM (known.take known.length) (lo + (m : Int)) = (upL lo (m + 1)).flatMap (dayM known) := by
  rw [List.take_length, upL_succ, List.flatMap_append, List.flatMap_singleton]
theorem days_val {m : Int} (h0 : 0 ≤ m) (h9 : m ≤ 119999) : firV 1 m = mon m ∧ lasV 1 m = mon (m + 1) - 1 := by
  have c : cnt 1 = 120000 := by decide
  have q := months (k := 1) (i := m) (by omega) (by omega) (by decide)
  rw [firV_yes (by omega) (by omega), lasV_yes (by omega) (by omega)]
  obtain ⟨_, _, _, a, b⟩ := q
  have e1 : sm 1 m = m := by unfold sm; rw [if_pos rfl]
  have e2 : em 1 m = m + 1 := by unfold em; rw [if_neg (by omega)]; unfold sm; rw [if_pos rfl]
  rw [a, b, e1, e2]
  exact ⟨rfl, rfl⟩
theorem mon_bd8 {m : Int} (h0 : 0 ≤ m) (h9 : m ≤ 120000) : 0 ≤ mon m ∧ mon m ≤ 3652425 := by
  have a := mon_le 0 m (Int.le_refl _) h0
  have b := mon_le m 120000 h0 h9
  rw [mon_0] at a
  rw [mon_end] at b
  exact ⟨a, by omega⟩
theorem var_ikc {P : Program} {B g : Nat} {X : Nat → Prop} {W W' : World} {n : String} {cs : Array Value} (k : IKC B X W W') (hg : P.globalNamed n = some g) (hd : ¬ dirty B W g) (h : W.var? P n = some cs) : W'.var? P n = some cs := by
  unfold World.var? at h ⊢
  rw [hg] at h ⊢
  simp only [Option.bind_some] at h ⊢
  cases e : W.heap[g]? with
  | none => rw [e] at h; cases h
  | some o =>
    rw [e] at h
    cases o <;> simp only at h <;> try cases h
    rw [(k.keep e hd).1]
theorem Tabs.ikc {B : Nat} {X : Nat → Prop} {w W W' : World} (h : Tabs w) (k0 : Kp w W) (hc : ∀ k, k < w.heap.size → ¬ dirty B W k) (k : IKC B X W W') : Tabs W' :=
  ⟨var_ikc k gMD (hc _ (var_lt gMD h.1)) (h.kp k0).1, var_ikc k gUC (hc _ (var_lt gUC h.2)) (h.kp k0).2⟩
theorem own_ikc {β : Type} {B n : Nat} {X : Nat → Prop} {W0 : World} (hB : B < n) (hB0 : B < W0.heap.size) (hX : ∀ k, n ≤ k → X k) : OwnFrom n (fun (_ : β) V => IKC B X W0 V) := by
  intro s V V' row h g hr
  have e : V'.heap[B]? = V.heap[B]? := g.block B (Nat.lt_of_lt_of_le hB0 h.size) (fun e => by have := (hr _ e.symm).1; omega)
  refine h.trans ⟨g.size, ?_, fun k o hk hc hd => ⟨?_, ?_⟩⟩
  · intro q k d
    obtain ⟨c, t, fr, a⟩ := q k (dirty_same e d)
    exact ⟨c, t, fr, (grownBy_keeps_cells g (fun r e => (hr r e).2) a rfl).trans a⟩
  · rcases hc with hc | hc
    · exact (grownBy_keeps_cells g (fun r e => (hr r e).2) hk hc).trans hk
    · have hl : k < V.heap.size := (Array.getElem?_eq_some_iff.1 hk).1
      exact (g.block k hl (fun e => hc (hX k (hr _ e.symm).1))).trans hk
  · rintro (x | ⟨v, t, fr, a, b⟩)
    · exact hd (.inl x)
    · exact hd (.inr ⟨v, t, fr, by rw [← e]; exact a, b⟩)
theorem IKC.keepsFrom {B n : Nat} {X : Nat → Prop} {W W' : World} (h : IKC B X W W') (hX : ∀ k, X k → k < n) (q : WFB B W) : KeepsFrom n W W' :=
  ⟨h.size, fun i o hi ho hc => (h.same i o ho (.inr (fun x => by have := hX i x; omega)) (q.not ho hc)).1⟩
theorem clean_grown {B i : Nat} {V V' : World} {row : Option Nat} (hz : B < V.heap.size) (g : V.grownBy V' row) (hr : ∀ r, row = some r → B < r) (h : ¬ dirty B V i) : ¬ dirty B V' i := by
  have e : V'.heap[B]? = V.heap[B]? := g.block B hz (fun e => by have := hr _ e.symm; omega)
  rintro (x | ⟨v, t, fr, a, b⟩)
  · exact h (.inl x)
  · exact h (.inr ⟨v, t, fr, by rw [← e]; exact a, b⟩)
theorem clean_kp {B i : Nat} {W W' : World} (k : Kp W W') (hB : B < W.heap.size) (h : ¬ dirty B W i) : ¬ dirty B W' i := by
  rintro (e | ⟨v, t, fr, a, b⟩)
  · exact h (.inl e)
  · exact h (.inr ⟨v, t, fr, by rw [← k.block B hB]; exact a, b⟩)
end Go.Proofs.YtinpglfclbnhlaaGreatDoor

namespace Go.Proofs.YtinpglfclbnhlaaGreatDoor
open Go.RowKit Go.Shelf
set_option linter.unusedVariables false
set_option linter.unusedSimpArgs false
attribute [local go_sem] Oper.semAt_some
set_option maxHeartbeats 16000000 in
set_option maxRecDepth 100000 in
theorem days_seq (Bm Bk : Nat) (fvm vk : Value) (months known : List R) (w : World) (pm : w.cell? ⟨Bm, 0, none⟩ = some fvm) (pk : w.cell? ⟨Bk, 0, none⟩ = some vk) (hs : SeqR fvm months w) (rk : RunsAt w vk known)
    (hmi : Inn 0 119999 months) (hki : Inn 1 31 known) (hn : known.length ≤ 1000) (T : Tabs w) :
    SeqR (.func (.func 75) #[] #[.pointer (some ⟨Bm, 0, none⟩), .pointer (some ⟨Bk, 0, none⟩)]) (daysL months known) w := by
  obtain ⟨gf, lb, rfl, heg, hsq⟩ := hs
  refine ⟨_, _, rfl, enters_of Tryz.func75 (by kernel_rfl) rfl, fun n hn3 B0 X W0 k0 hX wf hB hc => ?_⟩
  intro l J1 Jx1 W hW hs2 hJ1 hJx1 hY1 h01
  have hin := daysL_in hki hmi
  obtain ⟨J, eJ⟩ : ∃ J : List R → World → Prop, J = fun pre W => ∃ q, bare q = pre ∧ J1 q W := ⟨_, rfl⟩
  obtain ⟨Jx, eJx⟩ : ∃ J : List R → World → Prop, J = fun pre W => ∃ q, bare q = pre ∧ Jx1 q W := ⟨_, rfl⟩
  have hJ : OwnFrom W.heap.size J := by
    rw [eJ]
    rintro s W W' row ⟨q, e, h⟩ hg hr
    exact ⟨q, e, hJ1 q W W' row h hg hr⟩
  have hJx : OwnFrom W.heap.size Jx := by
    rw [eJx]
    rintro s W W' row ⟨q, e, h⟩ hg hr
    exact ⟨q, e, hJx1 q W W' row h hg hr⟩
  have h0 : J [] W := by rw [eJ]; exact ⟨[], rfl, h01⟩
  obtain ⟨WZ, hWZ⟩ : ∃ z, z = W.heap.size := ⟨_, rfl⟩
  have hY : ∀ pre x W, J pre W → pre ++ [x] <+: daysL months known → YieldAt Fence.wide (n - 1) Tryz.prog l #[.agg #[.int .i64 x.1, .int .i64 x.2]] W fun e W' =>
      (e = .returned (.bool true) ∧ J (pre ++ [x]) W' ∧ IKC B0 X W W') ∨ (e = .returned (.bool false) ∧ KeepsFrom WZ W W' ∧ Jx (pre ++ [x]) W') := by
    intro pre x W h pf
    rw [eJ] at h
    obtain ⟨q, rfl, h⟩ := h
    have hx := hin x (pf.subset (by simp))
    obtain ⟨fn, tmps, assign, body, hy, hR⟩ := hY1 q ⟨x, hx.1, hx.2.1, by omega⟩ W h (by simp only [bare_snoc]; exact pf)
    refine ⟨fn, tmps, assign, body, hy, hR.mono ?_⟩
    rintro e W' (⟨a, b, c⟩ | ⟨a, k, b⟩)
    · exact .inl ⟨a, by rw [eJ]; exact ⟨_, bare_snoc _ _, b⟩, c⟩
    · exact .inr ⟨a, by rw [hWZ]; exact k, by rw [eJx]; exact ⟨_, bare_snoc _ _, b⟩⟩
  have conv : ∀ W', (J (daysL months known) W' ∨ (∃ pre, pre <+: daysL months known ∧ Jx pre W')) → ((∃ ys, bare ys = daysL months known ∧ J1 ys W') ∨ (∃ pre, bare pre <+: daysL months known ∧ Jx1 pre W')) := by
    rintro W' (h | ⟨pre, e, h⟩)
    · rw [eJ] at h
      obtain ⟨q, e2, h⟩ := h
      exact .inl ⟨q, e2, h⟩
    · rw [eJx] at h
      obtain ⟨q, e2, h⟩ := h
      exact .inr ⟨q, by rw [e2]; exact e, h⟩
  refine CallsIn.mono (R := fun e W' => (∃ v, e = .returned v) ∧ (J (daysL months known) W' ∨ (∃ pre, pre <+: daysL months known ∧ Jx pre W'))) ?_ (fun e W' h => ⟨h.1, conv W' h.2⟩)
  clear conv hJ1 hJx1 hY1 h01 eJ eJx
  have RD := Lib.hid (fun Y W' (k : IKC B0 Y W W') => (by
    have k1 := (IKC.kp (B := B0) hW hB).trans k
    exact ⟨k1.cell (kp_cell k0 pm) (hc _ (World.block_lt_of_cell? _ _ pm)), k1.cell (kp_cell k0 pk) (hc _ (World.block_lt_of_cell? _ _ pk)), k1.runs (rk.kp k0) (fun b off cap e hne => hc b (runs_lt rk b off cap e hne)), T.ikc k0 hc k1⟩ :
      W'.cell? ⟨Bm, 0, none⟩ = some (.func (.func gf) #[] lb) ∧ W'.cell? ⟨Bk, 0, none⟩ = some vk ∧ RunsAt W' vk known ∧ Tabs W'))
  obtain ⟨cm, ck, rk0, _⟩ := RD.out X W (IKC.refl _ _)
  obtain ⟨adk, cpk, rfl⟩ := rk0.slice
  have hB2 : B0 < W.heap.size := Nat.lt_of_lt_of_le hB hW.size
  have wf2 := (IKC.kp (B := B0) (X := X) hW hB).wf wf
  have HB3 := Lib.hid (fun k (hk : k < w.heap.size) => clean_kp hW hB (hc k hk))
  have lm : Bm < W.heap.size := World.block_lt_of_cell? _ _ cm
  have K1 := Lib.hid (Kp.alloc W (.cells #[.func (.yield l) #[] #[]] 77))
  refine callsIn_wide.2 ((callsIn_wide (n := 9)).1 ?_)
  refine callsIn_of_wp_marks Tryz.func75 rfl trivial ?_ rfl
  simp only [Tryz.ntmps75, List.size_toArray, List.length_cons, List.length_nil, Nat.reduceAdd, Nat.reduceSub, Array.replicate_succ, Array.replicate_zero, List.push_toArray, List.append_toArray, List.nil_append, List.cons_append]
  gi_wp2
  obtain ⟨W1, hW1⟩ : ∃ V, V = W.alloc (.cells #[.func (.yield l) #[] #[]] 77) := ⟨_, rfl⟩
  have z1 : W1.heap.size = W.heap.size + 1 := by rw [hW1]; simp
  have hbx : W1.heap[W.heap.size]? = some (.cells #[.func (.yield l) #[] #[]] 77 (0, 0)) := by rw [hW1]; exact heap_at _ _ _ rfl
  have hcb : ¬ dirty B0 W1 W.heap.size := by rw [hW1]; exact fresh_clean wf2 hB2 _
  have k1 : Kp W W1 := by rw [hW1]; exact Kp.alloc _ _
  have j1 : J [] W1 := by rw [hW1]; exact hJ.alloc _ h0
  have i1 : IKC B0 (fun k => X k ∨ W1.heap.size ≤ k) W W1 := IKC.kp k1 hB2
  have zX : ∀ k, X k → k < W1.heap.size := fun k h => by have := hX k h; have := hW.size; omega
  have zK : ∀ k, (X k ∨ k = W1.heap.size + 1) → k < W1.heap.size + 2 := fun k h => by
    rcases h with h | h
    · have := zX k h; omega
    · omega
  have BX := Lib.hid (fun V (k : IKC B0 (fun k => X k ∨ W1.heap.size ≤ k) W1 V) => k.keep hbx hcb)
  rw [← hW1]
  clear hW1 K1
  refine law_own rfl (by omega) (gf := gf) (lb := lb) rfl trivial heg (hsq 8 (by omega) B0 (fun k => X k ∨ k = W1.heap.size + 1) W1 (Kp.trans k0 (Kp.trans hW k1)) zK (i1.wf wf2) (by omega) (fun k hk => clean_kp k1 hB2 (HB3.out k hk)))
    (fun h g => h.trans g) (fun V o o' h hc => IKC.putObj V _ o o' (by omega) (.inr rfl) h hc) (Nat.le_refl _) (Below.refl _ _) (fun _ => rfl)
    (fun pre V => J (daysL (bare pre) known) V ∧ IKC B0 (fun k => X k ∨ W1.heap.size ≤ k) W1 V)
    (fun c pre V => c = .ret ∧ ∃ q, q <+: daysL months known ∧ Jx q V)
    (fun s V V' row hs hg hr => ⟨hJ _ V V' row hs.1 hg (fun r e => ⟨by have := (hr r e).1; omega, (hr r e).2⟩), own_ikc (by omega) (by omega) (fun k hk => .inr hk) s V V' row hs.2 hg hr⟩)
    (fun c s V V' row hs hg hr => ⟨hs.1, by obtain ⟨q, e, h⟩ := hs.2; exact ⟨q, e, hJx q V V' row h hg (fun r e => ⟨by have := (hr r e).1; omega, (hr r e).2⟩)⟩⟩)
    ⟨j1, IKC.refl _ _⟩
    (fun x a' V => ∃ b, a' = { tmps := #[.func (.yield l) #[] #[], .pointer (some ⟨Bm, 0, none⟩), .pointer (some ⟨Bk, 0, none⟩), .pointer (some ⟨W.heap.size, 0, none⟩), .pointer (some ⟨b, 0, none⟩), undef, undef, undef, undef, undef, undef, undef, undef, .func (.func gf) #[] lb, .agg #[.int .i64 x.1.1, .int .i64 x.1.2], undef, undef, undef, undef, undef, undef, undef, undef, undef, undef, undef, undef, undef, undef, undef, undef, undef, undef, undef, undef, undef, undef, undef, undef, undef, undef, undef, undef, undef, undef, undef, undef, undef, undef, undef, undef, undef, undef, undef, undef, undef, undef, undef, undef, undef, undef, undef, undef], defers := [] } ∧ V.heap[b]? = some (.cells #[.int .i64 x.1.1, .int .i64 x.1.2] 37 (0, 0)) ∧ B0 < V.heap.size ∧ ¬ dirty B0 V b)
    (fun x a' s V V' row hs hg hr => by obtain ⟨b, e, hb, hz, hd⟩ := hs; exact ⟨b, e, (grownBy_keeps_cells hg (fun r e => (hr r e).2) hb rfl).trans hb, Nat.lt_of_lt_of_le hz hg.size, clean_grown hz hg (fun r e => by have := (hr r e).1; omega) hd⟩) ?assign ?body ?done ?stop
  case assign =>
    rintro l2 pre ⟨⟨x1, x2⟩, hx⟩ V C hI hC
    have HC := Lib.hid hC
    have HI := Lib.hid hI
    have HW := Lib.hid (show WFB B0 W1 ∧ B0 < W1.heap.size from ⟨i1.wf wf2, by omega⟩)
    clear hC hI hsq
    unfold encA
    simp only [List.zip_toArray, List.size_toArray, List.length_cons, List.length_nil, List.zip_cons_cons, List.zip_nil_left, List.foldl_toArray, List.foldl_cons, List.foldl_nil, List.setIfInBounds_toArray, List.set_cons_zero, List.set_cons_succ]
    gi_wp2
    have hzV : B0 < V.heap.size := Nat.lt_of_lt_of_le HW.out.2 HI.out.2.size
    have ka := Kp.alloc V (.cells #[.int .i64 x1, .int .i64 x2] 37)
    obtain ⟨h, hK2⟩ := HI.out
    exact HC.out _ _ (kf_kp ka) (IKC.kp ka hzV) ⟨hJ.alloc _ h, hK2.trans (IKC.kp ka hzV)⟩ ⟨_, rfl, heap_at _ _ _ rfl, Nat.lt_of_lt_of_le hzV ka.size, fresh_clean (hK2.wf HW.out.1) hzV _⟩
  case body =>
    rintro l2 pre ⟨⟨x1, x2⟩, hx⟩ a' V ⟨hJ0, hI0⟩ ⟨b, rfl, hb0, hzB, hdb⟩ hlt
    simp only at hb0 hx
    have hxm := hmi (x1, x2) (hlt.subset (by simp [bare]))
    simp only at hxm
    obtain ⟨hx0, hx1, hx2⟩ := hxm
    have wf3 := hI0.wf (i1.wf wf2)
    have hcb3 := (BX.out _ hI0).1
    have hcd3 := (BX.out _ hI0).2
    have zV := hI0.size
    have RV := Lib.hid (fun ws (k : IKC B0 X V ws) => RD.out (fun k => X k ∨ W1.heap.size ≤ k) ws (i1.trans (hI0.trans (k.more (fun _ h => .inl h)))))
    have BV := Lib.hid (fun ws (k : IKC B0 X V ws) => k.keep hb0 hdb)
    have YV := Lib.hid (fun ws (k : IKC B0 X V ws) => k.keep hcb3 hcd3)
    have KF := Lib.hid (fun ws (k : IKC B0 X V ws) => k.keepsFrom zX wf3)
    have KI := Lib.hid (fun ws (k : IKC B0 X V ws) => hI0.trans (k.more (fun _ h => .inl h)))
    have PT := Lib.hid (fun p m (hm : m < (x2 - x1 + 1).toNat) (hp : p < known.length) => (days_part (bare pre) known (x1, x2) m p hm hp).trans (daysL_pre (bare_snoc pre ⟨(x1, x2), hx⟩ ▸ hlt) known))
    have EP := Lib.hid (show daysL (bare (pre ++ [⟨(x1, x2), hx⟩])) known = daysL (bare pre) known ++ (upL x1 (x2 - x1 + 1).toNat).flatMap (dayM known) by rw [bare_snoc, daysL_snoc, ofR_upL])
    have HKI := Lib.hid hki
    generalize daysL (bare pre) known = D0 at *
    have cb1 : V.cell? ⟨b, 0, none⟩ = some (.int .i64 x1) := by simp [World.cell?, hb0]
    clear hlt hsq hmi hki hI0 hb0 hdb hcb3 hcd3 wf3
    gi_wp2
    gi_loopw [5] (fun i ws => ∃ m : Nat, m ≤ (x2 - x1 + 1).toNat ∧ i = .int .i64 (x1 + (m : Int)) ∧ J (D0 ++ (upL x1 m).flatMap (dayM known)) ws ∧ Hid (IKC B0 X V ws)) (fun i _ => (x2 + 1 - intOf i).toNat)
    case atStart => exact ⟨0, Nat.zero_le _, by simp, by rw [show upL x1 0 = [] from rfl, List.flatMap_nil, List.append_nil]; exact hJ0, Lib.hid (IKC.refl _ _)⟩
    case round =>
      obtain ⟨m, hm, rfl, hJm, K4⟩ := hrel
      obtain ⟨wy, HWY⟩ : ∃ x, x = wr := ⟨_, rfl⟩
      subst HWY
      have bx4 := (BV.out _ K4.out).1
      have c4 : wy.cell? ⟨b, 1, none⟩ = some (.int .i64 x2) := by simp [World.cell?, bx4]
      by_cases hlm : x1 + (m : Int) ≤ x2
      · have q4 : decide (x1 + (m : Int) ≤ x2) = true := decide_eq_true hlm
        have hm1 : m + 1 ≤ (x2 - x1 + 1).toNat := by omega
        have hzy : B0 < wy.heap.size := Nat.lt_of_lt_of_le hzB K4.out.size
        obtain ⟨f1, f2⟩ := days_val (m := x1 + (m : Int)) (by omega) (by omega)
        obtain ⟨m11, m12⟩ := mon_bd8 (m := x1 + (m : Int)) (by omega) (by omega)
        obtain ⟨m21, m22⟩ := mon_bd8 (m := x1 + (m : Int) + 1) (by omega) (by omega)
        have C1 := firstC 1 (x1 + (m : Int)) wy (RV.out _ K4.out).2.2.2
        have C2 := fun w1 (k : Kp wy w1) => lastC 1 (x1 + (m : Int)) w1 ((RV.out _ K4.out).2.2.2.kp k)
        rw [f1] at C1
        rw [f2] at C2
        have CC1 := Lib.hid C1
        have CC2 := Lib.hid C2
        have PF := fun p hp => PT.out p m (by omega) hp
        have PN := fun p (hp : p < known.length) => dayM_next known (x1 + (m : Int)) p hp
        have PE := Lib.hid (days_month known x1 m)
        have Z0 : J (D0 ++ (upL x1 m).flatMap (dayM known) ++ dayM (known.take 0) (x1 + (m : Int))) wy := by rw [List.take_zero]; exact (List.append_nil _).symm ▸ hJm
        unfold day1 at PF PN
        obtain ⟨E, hE⟩ : ∃ E : Nat → List R, E = fun p => dayM (known.take p) (x1 + (m : Int)) := ⟨_, rfl⟩
        have hE1 : ∀ p, dayM (known.take p) (x1 + (m : Int)) = E p := fun p => by rw [hE]
        simp only [hE1] at PF PN Z0
        rw [hE1] at PE
        clear hE hE1 f1 f2 C1 C2
        generalize mon (x1 + (m : Int)) = fm at *
        generalize mon (x1 + (m : Int) + 1) = lm at *
        generalize okU 1 (x1 + (m : Int)) = ok1 at *
        have HPF := Lib.hid PF
        have HPN := Lib.hid PN
        clear PF PN
        gi_wp2_with fail
        refine ⟨trivial, ?_⟩
        refine (CallsIn.inRound l2 (callsIn_wide.2 CC1.out)).mono ?_
        rintro e w1 ⟨rfl, kk⟩
        have G1 := Lib.hid kk
        clear kk
        gi_wp2_with fail
        refine ⟨trivial, ?_⟩
        refine (CallsIn.inRound l2 (callsIn_wide.2 (CC2.out _ G1.out))).mono ?_
        rintro e w2 ⟨rfl, kk⟩
        have G2 := Lib.hid (G1.out.trans kk)
        have K5 := Lib.hid (K4.out.trans (IKC.kp G2.out hzy))
        have hJ5 := J_kp (abides_of_own hJ) Z0 G2.out
        obtain ⟨_, ck5, rk5, _⟩ := RV.out _ K5.out
        clear kk rk5
        gi_wp2
        go_simp
        gi_wp2
        gi_loopw [35] (fun i ws => ∃ p : Nat, p ≤ known.length ∧ i = .int .i64 p ∧ J (D0 ++ (upL x1 m).flatMap (dayM known) ++ E p) ws ∧ Hid (IKC B0 X V ws)) (fun i _ => known.length - (intOf i).toNat)
        case atStart => exact ⟨0, Nat.zero_le _, rfl, hJ5, K5⟩
        case round =>
          obtain ⟨p, hp, rfl, hJp, K6⟩ := hrel
          obtain ⟨wp, HWP⟩ : ∃ x, x = wr := ⟨_, rfl⟩
          subst HWP
          by_cases hlp : p < known.length
          · obtain ⟨_, _, rk6, _⟩ := RV.out _ K6.out
            rcases rk6 with ⟨_, _, _, e⟩ | ⟨b9, off9, cap9, ev9, hc9, hm9, hx9⟩
            · rw [e] at hlp; simp at hlp
            cases ev9
            obtain ⟨e1, e2⟩ := hx9 p hlp
            have pf := HPF.out p hlp
            have pn := HPN.out p hlp
            have hq := HKI.out (at_ known p) (by unfold at_; simp [List.getD, hlp])
            obtain ⟨qa, qb, eq⟩ : ∃ x y, at_ known p = (x, y) := ⟨_, _, rfl⟩
            rw [eq] at e1 e2 hq pf pn
            simp only at e1 e2 hq pf pn
            clear hx9 hc9 hm9 eq
            have z5 : (p : Int) < (known.length : Int) := by omega
            have hzp : B0 < wp.heap.size := Nat.lt_of_lt_of_le hzB K6.out.size
            have by6 := (YV.out _ K6.out).1
            have cy6 : wp.cell? ⟨W.heap.size, 0, none⟩ = some (.func (.yield l) #[] #[]) := by simp [World.cell?, by6]
            have szW : W.heap.size < wp.heap.size := (Array.getElem?_eq_some_iff.1 by6).1
            have hbp : b9 < wp.heap.size := World.block_lt_of_cell? _ _ e1
            by_cases hday : fm + qa - 1 ≤ lm - 1
            · have q5 : decide (fm + qa - 1 ≤ lm - 1) = true := decide_eq_true hday
              rw [if_pos hday] at pf pn
              have KA := Lib.hid (fun o o' => (IKC.kp (B := B0) (X := X) ((Kp.alloc wp o).trans (Kp.alloc _ o')) hzp))
              have hJ6 := Lib.hid (fun o o' => J_kp (abides_of_own hJ) hJp ((Kp.alloc wp o).trans (Kp.alloc _ o')))
              have HY := Lib.hid (fun o o' => yield_wide (l' := l2) (m := 6) (hY _ (fm + qa - 1, min (fm + qb - 1) (lm - 1)) _ (hJ6.out o o') pf))
              have PNH := Lib.hid pn
              have HPFX := Lib.hid pf
              clear pn pf bx4 cb1 by6
              obtain ⟨fn, tmps, assign, body, hy, hR⟩ := HY.out (.cells #[.int .i64 qa, .int .i64 qb] 37) (.cells #[.int .i64 (fm + qa - 1), .int .i64 (min (fm + qb - 1) (lm - 1))] 37)
              gi_wp2
              refine hR.mono ?_
              rintro e W3 (⟨rfl, hJ7, k7⟩ | ⟨rfl, kf, hJ7⟩)
              · have K7 := Lib.hid (K6.out.trans ((KA.out _ _).trans k7))
                clear k7 hR hy
                gi_wp2
                go_roundw
                case rel => exact ⟨p + 1, by omega, by go_num, by rw [PNH.out, ← List.append_assoc]; exact hJ7, K7⟩
                case measure => simp [intOf]; omega
              · have E1 := (KF.out _ (K6.out.trans (KA.out (.cells #[.int .i64 qa, .int .i64 qb] 37) (.cells #[.int .i64 (fm + qa - 1), .int .i64 (min (fm + qb - 1) (lm - 1))] 37)))).trans (kf_up kf (by omega))
                clear hR hy
                gi_wp2
                exact ⟨E1, rfl, _, HPFX.out, hJ7⟩
            · have q5 : decide (fm + qa - 1 ≤ lm - 1) = false := decide_eq_false hday
              rw [if_neg hday, List.append_nil] at pn
              have KA := Lib.hid (fun o o' => K6.out.trans (IKC.kp (B := B0) (X := X) ((Kp.alloc wp o).trans (Kp.alloc _ o')) hzp))
              have hJ6 := Lib.hid (fun o o' => J_kp (abides_of_own hJ) hJp ((Kp.alloc wp o).trans (Kp.alloc _ o')))
              have PNH := Lib.hid pn
              clear pn pf bx4 cb1 by6
              gi_wp2
              refine ⟨fun f h => by (cases h), ?_⟩
              gi_wp2
              go_roundw
              case rel => exact ⟨p + 1, by omega, by go_num, by rw [PNH.out]; exact hJ6.out _ _, Lib.hid (KA.out _ _)⟩
              case measure => simp [intOf]; omega
          · obtain rfl : p = known.length := by omega
            have hJ8 : J (D0 ++ (upL x1 (m + 1)).flatMap (dayM known)) wp := by rw [← PE.out, ← List.append_assoc]; exact hJp
            gi_wp2
            go_roundw
            case rel => exact ⟨m + 1, hm1, by go_num, hJ8, K6⟩
            case measure => simp [intOf]; omega
      · have q4 : decide (x1 + (m : Int) ≤ x2) = false := decide_eq_false hlm
        have em : m = (x2 - x1 + 1).toNat := by omega
        subst em
        gi_wp2
        have E1 := KF.out _ K4.out
        have E2 := KI.out _ K4.out
        rw [z1] at E1
        simp only [z1] at E2
        exact ⟨E1, K4.out.more (fun _ h => .inl h), by rw [EP.out]; exact hJm, E2⟩
  case done =>
    rintro D ys V hD hys ⟨h, hK2⟩ hK
    gi_wp2
    refine ⟨by simp, .inl ⟨_, _, rfl, run_takeDeferred hK, ?_⟩⟩
    exact ⟨_, results_none rfl _ _ _, ⟨_, rfl⟩, .inl (by rw [← hys]; exact hJ.putObj _ h (by omega) hK rfl)⟩
  case stop =>
    rintro D c pre V hD hpre ⟨rfl, q, e, h⟩ hK
    gi_wp2
    refine ⟨by simp, .inl ⟨_, _, rfl, run_takeDeferred hK, ?_⟩⟩
    exact ⟨_, results_none rfl _ _ _, ⟨_, rfl⟩, .inr ⟨q, e, hJx.putObj _ h (by omega) hK rfl⟩⟩
end Go.Proofs.YtinpglfclbnhlaaGreatDoor
