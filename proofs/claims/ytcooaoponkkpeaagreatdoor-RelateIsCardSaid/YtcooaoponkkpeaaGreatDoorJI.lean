import Derived.Test.YtcooaoponkkpeaaGreatDoorGSetC
import Derived.Test.YtcooaoponkkpeaaGreatDoorJU
import Derived.RangeFuncNested
import Derived.RangeFuncBound
import Derived.RangeFuncCalls
import Derived.RangeFuncLeaves
import Derived.Shelf.Abstract
import Derived.Shelf.AbstractIn
import Derived.Shelf.RegionOpen
import Derived.WalkKit
import Derived.OwnWalkIn
import Derived.TacticsInMore
import Derived.LoopNIn
import Derived.LoopIn
import Derived.Maps.AppendAt
set_option maxHeartbeats 4000000
set_option maxRecDepth 100000
namespace Go.Proofs.YtcooaoponkkpeaaGreatDoor
set_option linter.unusedVariables false
set_option linter.unusedSimpArgs false
def unitsR (k : Int) (s : List R) : List R := interR s [(0, cnt k - 1)]
theorem unitsR_sane (k : Int) (s : List R) : sane (unitsR k s) := interR_sane _ _
theorem unitsR_mem (k : Int) (s : List R) (n : Int) : memR (unitsR k s) n ↔ memR s n ∧ 0 ≤ n ∧ n < cnt k := by
 have c := cnt_bd k
 unfold unitsR
 rw [interR_mem, memR_cons]
 constructor
 ·rintro ⟨h, ⟨a, b, _⟩ | h2⟩
  ·simp only at a b; exact ⟨h, a, by omega⟩
  ·exact absurd h2 (memR_nil n)
 ·rintro ⟨h, a, b⟩
  refine ⟨h, .inl ⟨a, by simp only; omega, by omega, by omega⟩⟩
theorem unitsR_in {k : Int} {s : List R} {r : R} (h : r ∈ unitsR k s) : 0 ≤ r.1 ∧ r.1 ≤ r.2 ∧ r.2 < cnt k := by
 obtain ⟨o1, o2, o3⟩ := sane_ok (unitsR_sane k s) r h
 have h1 := (unitsR_mem k s r.1).1 ⟨r, h, Int.le_refl _, o1, o2, by omega⟩
 have h2 := (unitsR_mem k s r.2).1 ⟨r, h, o1, Int.le_refl _, by omega, o3⟩
 exact ⟨h1.2.1, o1, h2.2.2⟩
theorem unitsR_len {k : Int} {s : List R} {p : Nat} (h : s.length ≤ p) : (unitsR k s).length ≤ p := by
 have := interR_bd h (show [((0 : Int), cnt k - 1)].length ≤ 1 by simp)
 unfold unitsR
 omega
theorem unit_next {k i j : Int} (h : 0 ≤ i) (hij : i < j) (hj : j < cnt k) : lst k i < fst k j := by
 by_cases k0 : k = 0
 ·subst k0; rw [lst_zero, fst_zero]; exact hij
 ·obtain ⟨a1, a2, a3, a4, a5⟩ := months h (by omega) k0
  obtain ⟨b1, b2, b3, b4, b5⟩ := months (show 0 ≤ j by omega) hj k0
  have e : em k i ≤ sm k j := by
   have s6 := six k (by omega)
   unfold em sm
   rcases s6 with rfl | ⟨rfl, c⟩ | ⟨rfl, c⟩ | ⟨rfl, c⟩ | ⟨rfl, c⟩ | ⟨rfl, c⟩
   ·omega
   all_goals simp
   all_goals omega
  have m := mon_le _ _ (show 0 ≤ em k i by omega) e
  omega
theorem fst_mono {k i j : Int} (h : 0 ≤ i) (hij : i ≤ j) (hj : j < cnt k) : fst k i ≤ fst k j := by
 by_cases e : i = j
 ·subst e; exact Int.le_refl _
 ·have := unit_next h (show i < j by omega) hj
  have := span_bd h (show i < cnt k by omega)
  omega
theorem lst_mono {k i j : Int} (h : 0 ≤ i) (hij : i ≤ j) (hj : j < cnt k) : lst k i ≤ lst k j := by
 by_cases e : i = j
 ·subst e; exact Int.le_refl _
 ·have := unit_next h (show i < j by omega) hj
  have := span_bd (show 0 ≤ j by omega) hj
  omega
theorem firV_in {k i : Int} (h : 0 ≤ i) (h' : i < cnt k) : firV k i = fst k i := by unfold firV; rw [okU_yes h h']; rfl
theorem lasV_in {k i : Int} (h : 0 ≤ i) (h' : i < cnt k) : lasV k i = lst k i := by unfold lasV; rw [okU_yes h h']; rfl
theorem range_day {k a b day : Int} (h : 0 ≤ a) (hab : a ≤ b) (hb : b < cnt k) : (fst k a ≤ day ∧ day ≤ lst k b) ↔ okO k day = true ∧ a ≤ unum k day ∧ unum k day ≤ b := by
 constructor
 ·rintro ⟨g1, g2⟩
  have ba := span_bd h (show a < cnt k by omega)
  have bb := span_bd (show 0 ≤ b by omega) hb
  have ok : okO k day = true := by
   rcases Bool.eq_false_or_eq_true (okO k day) with e | e
   ·exact e
   ·rcases okO_no e (by omega) (by omega) with c | ⟨c, d⟩
    ·omega
    ·subst c
     have m := months h (show a < cnt 2 by omega) (by omega)
     have m2 := mon_le 2 (sm 2 a) (by omega) (by unfold sm; simp; omega)
     rw [mon_2] at m2
     omega
  obtain ⟨u1, u2, u3, u4⟩ := unum_ok ok
  refine ⟨ok, ?_, ?_⟩
  ·rcases Int.lt_or_le (unum k day) a with c | c
   ·have := unit_next (k := k) u1 c (by omega); omega
   ·exact c
  ·rcases Int.lt_or_le b (unum k day) with c | c
   ·have := unit_next (k := k) (show 0 ≤ b by omega) c u2; omega
   ·exact c
 ·rintro ⟨ok, g1, g2⟩
  obtain ⟨u1, u2, u3, u4⟩ := unum_ok ok
  have := fst_mono h g1 u2
  have := lst_mono u1 g2 hb
  omega
open Go.RowKit
theorem existing_any (k : Int) (v : Value) (l : List R) (w : World) (hv : RunsAt w v l) (hl : I64R l) (hn : l.length ≤ 1000000) (T : Tabs w) :
  Calls Tryz.prog 147 #[.int .i64 k, v] w fun e w' => ∃ v' : Value, e = .returned v' ∧ w'.ownsRow w.heap.size 42 2 v' (unitsR k l).length (cellsR (unitsR k l)) ∧ Kp w w' := by
 have c := cnt_bd k
 have C := Hd (count_any k w T.2)
 have D := Hd (clip_any v l 0 (cnt k - 1) w hv hl hn (i64_one (by omega) (by omega) (by omega) (by omega)))
 have E : unitsR k l = interR l [(0, cnt k - 1)] := rfl
 rw [E]
 generalize interR l [(0, cnt k - 1)] = RES at *
 generalize cnt k = m at *
 clear hv hl E T
 go_enter Tryz.func147, Tryz.ntmps147
 go_wp2_with fail
 refine (C.out).mono ?_
 rintro e w' ⟨rfl, rfl⟩
 go_wp2_with fail
 refine (D.out).mono ?_
 rintro e w1 ⟨v1, rfl, own1, kk⟩
 have O := Hd own1
 have K := Hd kk
 clear own1 kk C D
 go_wp2
 go_ret
 exact ⟨_, rfl, O.out, K.out⟩
open Go.RowKit Go.Shelf
attribute [local go_sem] Oper.semAt_some
def upF (lo : Int) (m : Nat) : List Int := (List.range m).map fun (i : Nat) => lo + (i : Int)
theorem upF_succ (lo : Int) (m : Nat) : upF lo (m + 1) = upF lo m ++ [lo + (m : Int)] := by unfold upF; rw [List.range_succ]; simp
theorem upF_len (lo : Int) (m : Nat) : (upF lo m).length = m := by simp [upF]
def runF (r : R) : List Int := upF r.1 (r.2 - r.1 + 1).toNat
def nums (l : List R) : List Int := l.flatMap runF
theorem nums_take (l : List R) (j : Nat) (h : j < l.length) : nums (l.take (j + 1)) = nums (l.take j) ++ runF (at_ l j) := by
 unfold nums; rw [take_at l j h]; simp
theorem nums_part (l : List R) (j m : Nat) (h : j < l.length) (hm : m ≤ ((at_ l j).2 - (at_ l j).1 + 1).toNat) : nums (l.take j) ++ upF (at_ l j).1 m <+: nums l := by
 have e : nums l = nums (l.take (j + 1)) ++ nums (l.drop (j + 1)) := by unfold nums; rw [← List.flatMap_append, List.take_append_drop]
 rw [e, nums_take l j h, List.append_assoc]
 refine List.prefix_append_right_inj _ |>.2 ?_
 refine List.IsPrefix.trans ?_ (List.prefix_append _ _)
 obtain ⟨q, hq⟩ : ∃ q, ((at_ l j).2 - (at_ l j).1 + 1).toNat = m + q := ⟨_, (Nat.add_sub_of_le hm).symm⟩
 unfold runF upF
 rw [hq, List.range_add]
 simp
def isRowOf (t : TypeId) : Obj → Bool
 | .cells _ t' _ => t' == t
 | _ => false
structure IK (B : Nat) (t : TypeId) (W W' : World) : Prop where
 size : W.heap.size ≤ W'.heap.size
 same : ∀ (k : Nat) (o : Obj), W.heap[k]? = some o → o.isCells = true → isRowOf t o = false → k ≠ B → W'.heap[k]? = some o
theorem IK.refl (B : Nat) (t : TypeId) (W : World) : IK B t W W := ⟨Nat.le_refl _, fun _ _ h _ _ _ => h⟩
theorem IK.trans {B : Nat} {t : TypeId} {X Y Z : World} (h : IK B t X Y) (k : IK B t Y Z) : IK B t X Z := ⟨Nat.le_trans h.size k.size, fun i o hi hc hr hb => k.same i o (h.same i o hi hc hr hb) hc hr hb⟩
theorem IK.kp {B : Nat} {t : TypeId} {W W' : World} (h : Kp W W') : IK B t W W' :=
 ⟨h.size, fun k o hk _ _ _ => (h.block k (Array.getElem?_eq_some_iff.1 hk).1).trans hk⟩
theorem IK.putObj {B : Nat} {t : TypeId} (W : World) (l : Nat) (o o' : Obj) (h : W.heap[l]? = some o) (hc : o.isCells = false) : IK B t W (W.putObj l o') :=
 ⟨by simp, fun k q hk hq _ _ => by
  have g := grownBy_putObj' W l o'
  exact (g.block k (Array.getElem?_eq_some_iff.1 hk).1 (fun e => by cases e; rw [h] at hk; cases hk; rw [hc] at hq; cases hq)).trans hk⟩
theorem IK.setCell {B : Nat} {t : TypeId} (W : World) (v : Value) : IK B t W (W.setCell ⟨B, 0, none⟩ v) :=
 ⟨(grownBy_setCell' W B v).size, fun k o hk _ _ hb => ((grownBy_setCell' W B v).block k (Array.getElem?_eq_some_iff.1 hk).1 (fun e => hb (by cases e; rfl))).trans hk⟩
theorem IK.grown {B : Nat} {t : TypeId} {W W' : World} {base size n : Nat} {v : Value} {xs : List Value} (h : W.ownsRow base t size v n xs) (g : W.grownBy W' v.ownBlock) : IK B t W W' := by
 refine ⟨g.size, fun k o hk _ hr _ => (g.block k (Array.getElem?_eq_some_iff.1 hk).1 (fun e => ?_)).trans hk⟩
 rcases h.2 with ⟨rfl, _⟩ | ⟨q, cap, cur, rfl, _, hgb, _⟩
 ·cases e
 ·cases e
  rw [hgb] at hk
  cases hk
  simp [isRowOf] at hr
theorem own_ik {B : Nat} {t : TypeId} {w w' : World} {base : Nat} {e : TypeId} {size : Nat} {v : Value} {n : Nat} {xs : List Value} (h : w.ownsRow base e size v n xs) (k : IK B t w w') (hB : B < base) (ht : (e == t) = false) : w'.ownsRow base e size v n xs := by
 refine ⟨h.1, ?_⟩
 rcases h.2 with h2 | ⟨g, cap, cur, e1, hb, hg, rest⟩
 ·exact .inl h2
 ·exact .inr ⟨g, cap, cur, e1, hb, k.same g _ hg rfl (by simpa [isRowOf] using ht) (by omega), rest⟩
theorem kp_none {w w' : World} (h : Kp w w') : w.grownBy w' none := ⟨h.os, h.tape, h.output, h.size, fun k hk _ => h.block k hk⟩
theorem J_kp {β : Type} {B : Nat} {J : β → World → Prop} (hJ : AbidesFrom B J) {s : β} {W W' : World} (h : J s W) (k : Kp W W') : J s W' := hJ s W W' none h (kp_none k) (fun r e => by cases e)
theorem two_ik {B : Nat} {t e : TypeId} {w w' : World} {b : Nat} {x y : Value} (h : w.heap[b]? = some (.cells #[x, y] e)) (k : IK B t w w') (hb : b ≠ B) (ht : (e == t) = false) : w'.heap[b]? = some (.cells #[x, y] e) :=
 k.same b _ h rfl (by simpa [isRowOf] using ht) hb
theorem two_cell {w : World} {b : Nat} {x y : Value} {e : TypeId} (h : w.heap[b]? = some (.cells #[x, y] e)) : w.cell? ⟨b, 1, none⟩ = some y := by
 simp [World.cell?, h]
theorem units1_in (n : Nat) (hn : 1 ≤ n) (l Bk Bs B0 : Nat) (k : Int) (v : Value) (s : List R) (J Jx : List Int → World → Prop) (W : World)
  (hY : ∀ pre x W, J pre W → pre.length < (nums (unitsR k s)).length → YieldAt Fence.wide (n - 1) Tryz.prog l #[.int .i64 x] W fun e W' =>
   (e = .returned (.bool true) ∧ J (pre ++ [x]) W' ∧ IK B0 3 W W') ∨ (e = .returned (.bool false) ∧ Jx (pre ++ [x]) W'))
  (hJ : AbidesFrom W.heap.size J)
  (hk : W.cell? ⟨Bk, 0, none⟩ = some (.int .i64 k)) (hs : W.cell? ⟨Bs, 0, none⟩ = some v) (hv : RunsAt W v s) (hl : I64R s) (hn2 : s.length ≤ 1000000) (T : Tabs W) (hB0 : B0 < W.heap.size) (h0 : J [] W) :
  CallsIn Fence.wide n Tryz.prog 226 #[.func (.yield l) #[] #[], .pointer (some ⟨Bk, 0, none⟩), .pointer (some ⟨Bs, 0, none⟩)] W fun e W' => (∃ v, e = .returned v) ∧
   ((∃ ys, ys = nums (unitsR k s) ∧ J ys W') ∨ (∃ pre, pre <+: nums (unitsR k s) ∧ Jx pre W')) := by
 have C := Hd (existing_any k v s W hv hl hn2 T)
 have hi := fun r hr => unitsR_in (k := k) (s := s) (r := r) hr
 have hlen : (unitsR k s).length ≤ 1000000 := unitsR_len hn2
 have cb := cnt_bd k
 clear hv hl hn2 T
 generalize unitsR k s = L at *
 have HN := Hd (show (nums L).length = (nums L).length from rfl)
 refine callsIn_of_wp Tryz.func226 rfl trivial ?_ rfl
 simp only [Tryz.ntmps226, List.size_toArray, List.length_cons, List.length_nil, Nat.reduceAdd, Nat.reduceSub, Array.replicate_succ, Array.replicate_zero, List.push_toArray, List.append_toArray, List.nil_append, List.cons_append]
 gi_wp2_with (refine ⟨trivial, ?_⟩; gi_at_call 147; refine (callsIn_wide.2 (C.out)).mono ?_; rintro e W1 ⟨v1, rfl, own1, kk⟩)
 have K1 := Hd kk
 have O1 := Hd own1
 have hJ1 := J_kp hJ h0 kk
 have hB1 : B0 < W1.heap.size := Nat.lt_of_lt_of_le hB0 kk.size
 have R1 := Hd (runsAt_own own1)
 obtain ⟨ad1, c1, rfl⟩ := R1.out.slice
 clear own1 kk C R1 h0
 gi_wp2
 go_simp
 gi_wp2
 gi_loopw [11] (fun i wr => ∃ j : Nat, j ≤ L.length ∧ i = .int .i64 j ∧ J (nums (L.take j)) wr ∧ Hid (IK B0 3 W1 wr)) (fun i _ => L.length - (intOf i).toNat)
 case atStart => exact ⟨0, Nat.zero_le _, rfl, hJ1, Hd (IK.refl _ _ _)⟩
 case round =>
  obtain ⟨j, hj, rfl, hJs, K2⟩ := hrel
  obtain ⟨wo, HW⟩ : ∃ x, x = wr := ⟨_, rfl⟩
  subst HW
  by_cases hlt : j < L.length
  ·have OW := own_ik O1.out K2.out hB0 (by decide)
   rcases runsAt_own OW with ⟨_, _, _, e⟩ | ⟨b0, off, cap, ev, hc, hm, hx⟩
   ·rw [e] at hlt; simp at hlt
   cases ev
   obtain ⟨d1, d2⟩ := hx j hlt
   have NT := Hd (nums_take L j hlt)
   have NP := Hd (fun m hm => nums_part L j m hlt hm)
   obtain ⟨h1, h2, h3⟩ := hi (at_ L j) (by unfold at_; simp [List.getD, hlt])
   clear hx hc hm OW
   obtain ⟨lo, hi', ee⟩ : ∃ x y, at_ L j = (x, y) := ⟨_, _, rfl⟩
   rw [ee] at d1 d2 h1 h2 h3 NT NP
   simp only at d1 d2 h1 h2 h3 NP
   clear ee
   have hsz := K2.out.size
   have hz1 : lo ≤ 3652425 := by omega
   have hz2 : hi' ≤ 3652425 := by omega
   have z1 : (j : Int) < (L.length : Int) := by omega
   gi_wp2
   have hsz2 : B0 < wo.heap.size := by omega
   have K3 := Hd (fun o => IK.trans K2.out (IK.kp (B := B0) (t := 3) (Kp.alloc wo o)))
   have hJ3 := fun o => J_kp hJ hJs (Kp.alloc wo o)
   gi_loopw [6] (fun i ws => ∃ m : Nat, m ≤ (hi' - lo + 1).toNat ∧ i = .int .i64 (lo + (m : Int)) ∧ J (nums (L.take j) ++ upF lo m) ws ∧ Hid (IK B0 3 W1 ws) ∧ Hid (ws.heap[wo.heap.size]? = some (.cells #[.int .i64 lo, .int .i64 hi'] 42))) (fun i _ => (hi' + 1 - intOf i).toNat)
   case atStart => exact ⟨0, Nat.zero_le _, by simp, by rw [show upF lo 0 = [] from rfl, List.append_nil]; exact hJ3 _, Hd (K3.out _), Hd (World.alloc_heap_new _ _)⟩
   case round =>
    obtain ⟨m, hm, rfl, hJm, K4, H4⟩ := hrel
    have c4 := two_cell H4.out
    by_cases hlm : lo + (m : Int) ≤ hi'
    ·have q1 : decide (lo + (m : Int) ≤ hi') = true := decide_eq_true hlm
     have hm1 : m + 1 ≤ (hi' - lo + 1).toNat := by omega
     have pf := NP.out (m + 1) hm1
     rw [upF_succ, ← List.append_assoc] at pf
     obtain ⟨fn, tmps, assign, body, hy, hR⟩ := hY _ (lo + (m : Int)) wr hJm (by have := pf.length_le; simp only [List.length_append, List.length_singleton] at this ⊢; omega)
     gi_wp2
     refine hR.mono ?_
     rintro e W3 (⟨rfl, hJ5, k5⟩ | ⟨rfl, hJx⟩)
     ·have K5 := Hd (K4.out.trans k5)
      have H5 := Hd (two_ik H4.out k5 (by omega) (by decide))
      clear k5 hR hy
      gi_wp2
      go_roundw
      case rel => exact ⟨m + 1, hm1, by go_num, by rw [upF_succ, ← List.append_assoc]; exact hJ5, K5, H5⟩
      case measure => simp [intOf]; omega
     ·clear hR hy
      gi_wp2
      refine bodyPost_ret (results_none rfl _ _ _) rfl ?_
      exact ⟨⟨_, rfl⟩, .inr ⟨_, pf, hJx⟩⟩
    ·have q1 : decide (lo + (m : Int) ≤ hi') = false := decide_eq_false hlm
     have em : m = (hi' - lo + 1).toNat := by omega
     gi_wp2
     go_roundw
     case rel => exact ⟨j + 1, by omega, by go_num, by rw [NT.out]; unfold runF; simp only; rw [← em]; exact hJm, K4⟩
     case measure => simp [intOf]; omega
  ·obtain rfl : j = L.length := by omega
   rw [List.take_length] at hJs
   gi_wp2
   go_end0
   exact ⟨⟨_, rfl⟩, .inl ⟨_, rfl, hJs⟩⟩
attribute [local go_sem] Oper.semAt_some
theorem infoN : (Tryz.prog.info? 3).map (fun i => (i.zero, i.size, i.bytes)) = some (some (.int .i64 0), 1, 8) := by kernel_rfl
theorem intsAt_own {w : World} {base : Nat} {e : TypeId} {v : Value} {l : List Int} (h : w.ownsRow base e 1 v l.length (l.map (.int .i64))) : IntsAt w v l := by
 rcases h.2 with ⟨e1, h0⟩ | ⟨g, cp, cur, rfl, h2, h3, h4, h5, h6, h7⟩
 ·exact .inl ⟨_, _, e1, List.length_eq_zero_iff.1 h0⟩
 ·refine .inr ⟨g, 0, cp, rfl, h4, h5, fun i hi => ?_⟩
  rw [Nat.zero_add, h.cellAt _ (by omega)]
  simp [List.getD, hi]
theorem units_stops (n : Nat) (hn : 1 ≤ n) (Bk Bs B0 : Nat) (k : Int) (v : Value) (s : List R) (w : World) (hk : w.cell? ⟨Bk, 0, none⟩ = some (.int .i64 k)) (hs : w.cell? ⟨Bs, 0, none⟩ = some v)
  (hv : RunsAt w v s) (hl : I64R s) (hn2 : s.length ≤ 1000000) (T : Tabs w) (hB0 : B0 < w.heap.size) :
  SeqStopsK Fence.wide n Tryz.prog 226 #[.pointer (some ⟨Bk, 0, none⟩), .pointer (some ⟨Bs, 0, none⟩)] (fun x : Int => #[Value.int .i64 x]) (IK B0 3) (fun ys => ys = nums (unitsR k s)) (fun pre => pre <+: nums (unitsR k s)) (nums (unitsR k s)).length w := fun l J Jx W hW hJ hJx hY h0 =>
 units1_in n hn l Bk Bs B0 k v s J Jx W hY hJ ((Below.cell (p := ⟨Bk, 0, none⟩) hW (World.block_lt_of_cell? _ _ hk)).trans hk) ((Below.cell (p := ⟨Bs, 0, none⟩) hW (World.block_lt_of_cell? _ _ hs)).trans hs)
  (hv.kp hW) hl hn2 (T.kp hW) (Nat.lt_of_lt_of_le hB0 hW.size) h0
theorem Boxed.at' (W : World) (B : Nat) (t : TypeId) (v : Value) (h : W.heap.size = B) : Boxed (W.alloc (.cells #[v] t)) B t v := by subst h; exact Boxed.new W t v
theorem own_set {w : World} {base : Nat} {e : TypeId} {size : Nat} {v : Value} {n : Nat} {xs : List Value} (h : w.ownsRow base e size v n xs) {B : Nat} (hB : B < base) (x : Value) : (w.setCell ⟨B, 0, none⟩ x).ownsRow base e size v n xs := by
 refine h.kept (grownBy_setCell' w B x) ?_
 rcases h.2 with ⟨rfl, _⟩ | ⟨g, cap, cur, rfl, hb, _⟩
 ·exact .inl rfl
 ·refine .inr fun e' => ?_
  have : g = B := by simpa [Value.ownBlock] using e'
  omega
theorem firV_bd (k i : Int) : 0 ≤ firV k i ∧ firV k i ≤ 3652425 := by
 unfold firV
 rcases Bool.eq_false_or_eq_true (okU k i) with o | o
 ·rw [if_pos o]
  have := (okU_iff k i).1 o
  have := span_bd this.1 this.2
  omega
 ·rw [o]; simp
theorem lasV_bd (k i : Int) : 0 ≤ lasV k i ∧ lasV k i ≤ 3652425 := by
 unfold lasV
 rcases Bool.eq_false_or_eq_true (okU k i) with o | o
 ·rw [if_pos o]
  have := (okU_iff k i).1 o
  have := span_bd this.1 this.2
  omega
 ·rw [o]; simp
theorem fir_i64 (k : Int) (l : List Int) : I64 (l.map (firV k)) := by
 intro n hn
 simp only [List.mem_map] at hn
 obtain ⟨i, _, rfl⟩ := hn
 have := firV_bd k i
 omega
theorem las_i64 (k : Int) (l : List Int) : I64 (l.map (lasV k)) := by
 intro n hn
 simp only [List.mem_map] at hn
 obtain ⟨i, _, rfl⟩ := hn
 have := lasV_bd k i
 omega
theorem units_in (n : Nat) (k : Int) (ad : Option Addr) (ln cp : Nat) (w : World) :
  CallsIn Fence.wide n Tryz.prog 191 #[.int .i64 k, .slice ad ln cp] w fun e w' => e = .returned (.func (.func 226) #[] #[.pointer (some ⟨w.heap.size, 0, none⟩), .pointer (some ⟨w.heap.size + 1, 0, none⟩)]) ∧ w' = (w.alloc (.cells #[.int .i64 k] 3)).alloc (.cells #[.slice ad ln cp] 34) := by
 refine callsIn_of_wp Tryz.func191 rfl trivial ?_ rfl
 simp only [Tryz.ntmps191, List.size_toArray, List.length_cons, List.length_nil, Nat.reduceAdd, Nat.reduceSub, Array.replicate_succ, Array.replicate_zero, List.push_toArray, List.append_toArray, List.nil_append, List.cons_append]
 gi_wp2
 go_ret
 exact ⟨rfl, rfl⟩
theorem edgesF_any (k : Int) (hk0 : k ≠ 0) (v : Value) (s : List R) (w : World) (hv : RunsAt w v s) (hl : I64R s) (hn : s.length ≤ 1000000) (T : Tabs w) :
  Calls Tryz.prog 144 #[.int .i64 k, v, .func (.func 145) #[] #[]] w fun e W' => ∃ v', e = .returned (.tuple #[v', .bool (decide ((nums (unitsR k s)).length ≤ 400))]) ∧
   W'.ownsRow w.heap.size 42 2 v' (if (nums (unitsR k s)).length ≤ 400 then nf (sing ((nums (unitsR k s)).map (firV k))) else []).length (cellsR (if (nums (unitsR k s)).length ≤ 400 then nf (sing ((nums (unitsR k s)).map (firV k))) else [])) ∧ Kp w W' := by
 have C := Hd (fun n h1 Bk Bs B0 w a b c d => units_stops n h1 Bk Bs B0 k v s w a b c hl hn d)
 have q0 : (k == 0) = false := by simp [hk0]
 generalize unitsR k s = L at *
 obtain ⟨i0, hi, hz0, hz1, hz2⟩ := info_parts infoN
 obtain ⟨ad, cp, rfl⟩ := hv.slice
 refine (callsIn_wide (n := 9)).1 ?_
 refine callsIn_of_wp_marks Tryz.func144 rfl trivial ?_ rfl
 simp only [Tryz.ntmps144, List.size_toArray, List.length_cons, List.length_nil, Nat.reduceAdd, Nat.reduceSub, Array.replicate_succ, Array.replicate_zero, List.push_toArray, List.append_toArray, List.nil_append, List.cons_append]
 gi_wp2_with (refine ⟨trivial, ?_⟩; gi_at_call 191; refine (units_in _ k _ _ _ _).mono ?_; rintro e w' ⟨rfl, rfl⟩)
 obtain ⟨W0, hW0⟩ : ∃ x, x = ((((((w.alloc (.cells #[.int .i64 k] 3)).alloc (.cells #[.func (.func 145) #[] #[]] 114)).alloc (.cells #[.slice none 0 0] 34)).alloc (.cells #[.bool false] 4)).alloc (.cells #[.slice none 0 0] 117)).alloc (.cells #[.int .i64 k] 3)).alloc (.cells #[.slice ad s.length cp] 34) := ⟨_, rfl⟩
 have b0 : Boxed W0 w.heap.size 3 (.int .i64 k) := by rw [hW0]; exact ((((((Boxed.new _ _ _).alloc _).alloc _).alloc _).alloc _).alloc _).alloc _
 have b1 : Boxed W0 (w.heap.size + 1) 114 (.func (.func 145) #[] #[]) := by rw [hW0]; exact (((((Boxed.at' _ _ _ _ (by simp)).alloc _).alloc _).alloc _).alloc _).alloc _
 have b2 : Boxed W0 (w.heap.size + 1 + 1) 34 (.slice none 0 0) := by rw [hW0]; exact ((((Boxed.at' _ _ _ _ (by simp)).alloc _).alloc _).alloc _).alloc _
 have b3 : Boxed W0 (w.heap.size + 1 + 1 + 1) 4 (.bool false) := by rw [hW0]; exact (((Boxed.at' _ _ _ _ (by simp)).alloc _).alloc _).alloc _
 have b4 : Boxed W0 (w.heap.size + 1 + 1 + 1 + 1) 117 (.slice none 0 0) := by rw [hW0]; exact ((Boxed.at' _ _ _ _ (by simp)).alloc _).alloc _
 have b5 : Boxed W0 (w.heap.size + 1 + 1 + 1 + 1 + 1) 3 (.int .i64 k) := by rw [hW0]; exact (Boxed.at' _ _ _ _ (by simp)).alloc _
 have b6 : Boxed W0 (w.heap.size + 1 + 1 + 1 + 1 + 1 + 1) 34 (.slice ad s.length cp) := by rw [hW0]; exact Boxed.at' _ _ _ _ (by simp)
 have hsz : W0.heap.size = w.heap.size + 7 := by rw [hW0]; simp
 have k0 : Kp w W0 := by rw [hW0]; exact ((((((Kp.alloc _ _).trans (Kp.alloc _ _)).trans (Kp.alloc _ _)).trans (Kp.alloc _ _)).trans (Kp.alloc _ _)).trans (Kp.alloc _ _)).trans (Kp.alloc _ _)
 rw [← hW0]
 clear hW0
 refine wpIn_rangeFunc_ownG rfl (by omega) (gf := 226) (lb := #[.pointer (some ⟨w.heap.size + 1 + 1 + 1 + 1 + 1, 0, none⟩), .pointer (some ⟨w.heap.size + 1 + 1 + 1 + 1 + 1 + 1, 0, none⟩)]) rfl trivial (enters_of Tryz.func226 (by kernel_rfl) rfl)
  (C.out 8 (by omega) _ _ (w.heap.size + 1 + 1 + 1 + 1) W0 b5.cell b6.cell (hv.kp k0) (T.kp k0) (by omega)) (fun h g => h.trans g) (fun W l o o' _ h hc _ => IK.putObj W l o o' h hc) (Below.refl _ _) (fun _ => rfl)
  (fun pre W => (∃ v, Boxed W (w.heap.size + 1 + 1 + 1 + 1) 117 v ∧ W.ownsRow (w.heap.size + 1 + 1 + 1 + 1) 3 1 v pre.length ((pre.map (firV k)).map (.int .i64)) ∧ pre.length ≤ 400) ∧ Below (w.heap.size + 1 + 1 + 1 + 1) W0 W)
  (fun c pre W => (c = .ret ∧ pre.length = 401 ∧ W.cell? ⟨w.heap.size + 1 + 1, 0, none⟩ = some (.slice none 0 0) ∧ W.cell? ⟨w.heap.size + 1 + 1 + 1, 0, none⟩ = some (.bool false)) ∧ Below w.heap.size w W)
  (OwnFrom.and (Own.from (holdsRow_own _ _ 117 3 1 (fun (pre : List Int) => pre.length) (fun (pre : List Int) => (pre.map (firV k)).map (.int .i64)) (fun (pre : List Int) _ => pre.length ≤ 400)) _) (ownFrom_below (by omega) (by omega)))
  (fun c => OwnFrom.and (Own.from (fun (s : List Int) A B row hs hg hr => ⟨hs.1, hs.2.1, cell_kept hs.2.2.1 hg hr, cell_kept hs.2.2.2 hg hr⟩) _) (ownFrom_below (Nat.le_refl _) (by omega)))
  ⟨⟨_, b4, World.ownsRow_nil _ _ _ _, by simp⟩, Below.refl _ _⟩
  (fun x => { tmps := #[.int .i64 k, .slice ad s.length cp, .func (.func 145) #[] #[], .pointer (some ⟨w.heap.size, 0, none⟩), undef, .pointer (some ⟨w.heap.size + 1, 0, none⟩), .pointer (some ⟨w.heap.size + 1 + 1, 0, none⟩), .pointer (some ⟨w.heap.size + 1 + 1 + 1, 0, none⟩), undef, .pointer (some ⟨w.heap.size + 1 + 1 + 1 + 1, 0, none⟩), .int .i64 x, undef, undef, .int .i64 k, .bool false, undef, undef, undef, undef, undef, undef, .int .i64 k, .slice ad s.length cp, .func (.func 226) #[] #[.pointer (some ⟨w.heap.size + 1 + 1 + 1 + 1 + 1, 0, none⟩), .pointer (some ⟨w.heap.size + 1 + 1 + 1 + 1 + 1 + 1, 0, none⟩)], .int .i64 x, undef, undef, undef, undef, undef, undef, undef, undef, undef, undef, undef, undef, undef, undef, undef, undef], defers := [] }) ?assign ?body ?done ?stop
 case assign =>
  intro l x W K hK
  gi_wp2
  exact hK
 case body =>
  rintro l pre x W ⟨⟨v, hv, hrow, hp⟩, hB⟩ hlt
  obtain ⟨a1, c1, rfl⟩ := own_slice hrow
  have hc := hv.cell
  have g0 : W.cell? ⟨w.heap.size, 0, none⟩ = some (.int .i64 k) := (hB.cell (p := ⟨w.heap.size, 0, none⟩) (by simp only; omega)).trans b0.cell
  have g1 : W.cell? ⟨w.heap.size + 1, 0, none⟩ = some (.func (.func 145) #[] #[]) := (hB.cell (p := ⟨w.heap.size + 1, 0, none⟩) (by simp only; omega)).trans b1.cell
  have kw : Kp w W := Below.trans k0 (hB.mono (by omega))
  by_cases e4 : pre.length = 400
  ·have q : ((pre.length : Int) == 400) = true := by rw [e4]; rfl
   have B2 : Boxed W (w.heap.size + 1 + 1) 34 (.slice none 0 0) := (hB.block _ (by omega)).trans b2
   have B3 : Boxed W (w.heap.size + 1 + 1 + 1) 4 (.bool false) := (hB.block _ (by omega)).trans b3
   have c2 := B2.cell
   have f2 := B2.frozen
   have B3' := B3.other (show w.heap.size + 1 + 1 + 1 ≠ w.heap.size + 1 + 1 by omega) (.slice none 0 0)
   have c3 := B3'.cell
   have f3 := B3'.frozen
   have KW := Hd kw
   clear kw hB hrow
   gi_wp2
   exact ⟨((KeepsOthers.setCell W _ _).trans (KeepsOthers.setCell _ _ _)).from _, ⟨rfl, by rw [List.length_append, e4]; rfl, ((B2.set _).other (by omega) _).cell, (B3'.set _).cell⟩, ((Below.setCell KW.out (p := ⟨w.heap.size + 1 + 1, 0, none⟩) (by simp only; omega) _).setCell (p := ⟨w.heap.size + 1 + 1 + 1, 0, none⟩) (by simp only; omega) _)⟩
  ·have q : ((pre.length : Int) == 400) = false := by simp; omega
   have FF := Hd (first_any k x W (T.kp kw).1 (T.kp kw).2)
   have HB := Hd hB
   have HR := Hd hrow
   have HV := Hd hv
   clear hB hrow hv kw
   gi_wp2_with fail
   refine ⟨trivial, ?_⟩
   refine (CallsIn.inRound l (callsIn_wide.2 FF.out)).mono ?_
   rintro e W2 ⟨rfl, kk⟩
   have bD2 : Boxed W2 (w.heap.size + 1 + 1 + 1 + 1) 117 (.slice a1 pre.length c1) := (kk.block _ HV.out.lt).trans HV.out
   have hc2 := bD2.cell
   have KK := Hd kk
   have HR2 := own_kp HR.out kk
   have hs2 : w.heap.size + 1 + 1 + 1 + 1 ≤ W2.heap.size := by have := HB.out.size; have := kk.size; omega
   have HB2 := Hd (show Below (w.heap.size + 1 + 1 + 1 + 1) W0 W2 from HB.out.trans (Below.mono kk (by have := HB.out.size; omega)))
   clear kk FF hc
   obtain ⟨d, hd⟩ : ∃ d, firV k x = d := ⟨_, rfl⟩
   rw [hd]
   gi_wp2_with (gi_at_builtin; refine wpListIn_append_own _ rfl _ _ 117 rfl (w.heap.size + 1 + 1 + 1 + 1) 3 i0 (.int .i64 0) 1 8 Tryz.underlying117 hi hz0 hz1 hz2 rfl (by decide) _ _ _ rfl (HR2.alloc _) ⟨W2.heap.size, 0, none⟩ 1 1 [.int .i64 d] rfl rfl (cell_one_new _ _ _) (by simp [Value.oneCell']) (by unfold maxLen; omega) (by omega) (by simp; omega) ?_; intro v' w1 hown' hgrow _; obtain ⟨g', cap', rfl⟩ := ownsRow_succ hown'; obtain ⟨hv1, hv2, hr2, hk2, hb2⟩ := bD2.appended (by decide) HR2 hs2 (Nat.le_refl _) hown' hgrow; have hc1 := hv1.cell; have hf1 := hv1.frozen)
   refine ⟨?_, (IK.kp KK.out).trans (((IK.kp (Kp.alloc _ _)).trans (IK.grown (HR2.alloc _) hgrow)).trans (IK.setCell _ _)), ⟨_, hv2, by rw [List.length_append, List.map_append, List.map_append, List.map_singleton, List.map_singleton, hd]; exact hr2, by rw [List.length_append, List.length_singleton]; omega⟩, HB2.out.trans hb2⟩
   exact KeepsFrom.trans ⟨KK.out.size, fun i o _ hi _ => (KK.out.block i (Array.getElem?_eq_some_iff.1 hi).1).trans hi⟩ (hk2.from _)
 case done =>
  rintro D ys W hD rfl ⟨⟨v, hv, hrow, hp⟩, hB⟩ hK
  obtain ⟨a1, c1, rfl⟩ := own_slice hrow
  have hc := hv.cell
  have kw : Kp w W := Below.trans k0 (hB.mono (by omega))
  have OF := Hd (sof_any _ ((nums L).map (firV k)) W (intsAt_own (by rw [List.length_map]; exact hrow)) (fir_i64 k _) (by rw [List.length_map]; omega))
  have B2 : Boxed W (w.heap.size + 1 + 1) 34 (.slice none 0 0) := (hB.block _ (by omega)).trans b2
  have B3 : Boxed W (w.heap.size + 1 + 1 + 1) 4 (.bool false) := (hB.block _ (by omega)).trans b3
  have KW := Hd kw
  have hzw := kw.size
  have hzB := hB.size
  clear hv hrow hB kw
  obtain ⟨RES, hRES⟩ : ∃ x, x = nf (sing ((nums L).map (firV k))) := ⟨_, rfl⟩
  rw [← hRES] at OF
  have HRES := Hd hRES
  clear hRES
  gi_wp2_with fail
  refine ⟨trivial, ?_⟩
  refine (callsIn_wide.2 OF.out).mono ?_
  rintro e W3 ⟨v3, rfl, own3, kk⟩
  obtain ⟨a3, c3, rfl⟩ := own_slice own3
  have O3 := Hd own3
  have K3 := Hd kk
  have B2' : Boxed W3 (w.heap.size + 1 + 1) 34 (.slice none 0 0) := (kk.block _ (by omega)).trans B2
  have B3' : Boxed W3 (w.heap.size + 1 + 1 + 1) 4 (.bool false) := (kk.block _ (by omega)).trans B3
  have d2 := B2'.cell
  have f2 := B2'.frozen
  have B3'' := B3'.other (show w.heap.size + 1 + 1 + 1 ≠ w.heap.size + 1 + 1 by omega) (.slice a3 RES.length c3)
  have d3 := B3'.cell
  have f3 := B3'.frozen
  have hKD := Hd ((kk.block D (Array.getElem?_eq_some_iff.1 hK).1).trans hK)
  clear kk own3 OF
  gi_wp2
  have hKD2 := Hd (((KeepsOthers.setCell W3 ⟨w.heap.size + 1 + 1, 0, none⟩ (.slice a3 RES.length c3)).trans (KeepsOthers.setCell _ ⟨w.heap.size + 1 + 1 + 1, 0, none⟩ (.bool true))).same D _ hKD.out rfl)
  have e2 := ((B2'.set (.slice a3 RES.length c3)).other (show w.heap.size + 1 + 1 ≠ w.heap.size + 1 + 1 + 1 by omega) (.bool true)).cell
  have e3 := (B3''.set (.bool true)).cell
  have g2 := cell_kept e2 (grownBy_putObj' _ D (.deferred none)) (fun r e => by cases e; exact ⟨_, hKD2.out, rfl⟩)
  have g3 := cell_kept e3 (grownBy_putObj' _ D (.deferred none)) (fun r e => by cases e; exact ⟨_, hKD2.out, rfl⟩)
  refine ⟨by simp, .inl ⟨_, _, rfl, run_takeDeferred hKD2.out, ?_⟩⟩
  try rw [if_pos hp, decide_eq_true hp]
  rw [← HRES.out]
  refine ⟨.tuple #[.slice a3 RES.length c3, .bool true], ?_, _, rfl, ?_, ?_⟩
  ·simp [results, Tryz.f144, go_sem, g2, g3]
  ·exact ownsRow_putObj (own_mono (own_set (own_set O3.out (by omega) _) (by omega) _) (by omega)) _ hKD2.out rfl
  ·exact ((Below.setCell (Kp.trans KW.out K3.out) (p := ⟨w.heap.size + 1 + 1, 0, none⟩) (by simp only; omega) _).setCell (p := ⟨w.heap.size + 1 + 1 + 1, 0, none⟩) (by simp only; omega) _).trans (belowK_b (w := w) (Nat.le_refl _) _ D _ _ (by omega) hKD2.out rfl rfl)
 case stop =>
  rintro D c pre W hD hpre ⟨⟨rfl, hlen, h2, h3⟩, hB⟩ hK
  have hle := hpre.length_le
  gi_wp2
  refine ⟨by simp, .inl ⟨_, _, rfl, run_takeDeferred hK, ?_⟩⟩
  try rw [if_neg (by omega), dF]
  have g2 := cell_kept h2 (grownBy_putObj' _ D (.deferred none)) (fun r e => by cases e; exact ⟨_, hK, rfl⟩)
  have g3 := cell_kept h3 (grownBy_putObj' _ D (.deferred none)) (fun r e => by cases e; exact ⟨_, hK, rfl⟩)
  refine ⟨.tuple #[.slice none 0 0, .bool false], ?_, _, rfl, World.ownsRow_nil _ _ _ _, hB.trans (belowK_b (w := w) (Nat.le_refl _) W D _ _ (by omega) hK rfl rfl)⟩
  simp [results, Tryz.f144, go_sem, g2, g3]
attribute [local go_sem] Oper.semAt_some
theorem edgesL_any (k : Int) (hk0 : k ≠ 0) (v : Value) (s : List R) (w : World) (hv : RunsAt w v s) (hl : I64R s) (hn : s.length ≤ 1000000) (T : Tabs w) :
  Calls Tryz.prog 144 #[.int .i64 k, v, .func (.func 146) #[] #[]] w fun e W' => ∃ v', e = .returned (.tuple #[v', .bool (decide ((nums (unitsR k s)).length ≤ 400))]) ∧
   W'.ownsRow w.heap.size 42 2 v' (if (nums (unitsR k s)).length ≤ 400 then nf (sing ((nums (unitsR k s)).map (lasV k))) else []).length (cellsR (if (nums (unitsR k s)).length ≤ 400 then nf (sing ((nums (unitsR k s)).map (lasV k))) else [])) ∧ Kp w W' := by
 have C := Hd (fun n h1 Bk Bs B0 w a b c d => units_stops n h1 Bk Bs B0 k v s w a b c hl hn d)
 have q0 : (k == 0) = false := by simp [hk0]
 generalize unitsR k s = L at *
 obtain ⟨i0, hi, hz0, hz1, hz2⟩ := info_parts infoN
 obtain ⟨ad, cp, rfl⟩ := hv.slice
 refine (callsIn_wide (n := 9)).1 ?_
 refine callsIn_of_wp_marks Tryz.func144 rfl trivial ?_ rfl
 simp only [Tryz.ntmps144, List.size_toArray, List.length_cons, List.length_nil, Nat.reduceAdd, Nat.reduceSub, Array.replicate_succ, Array.replicate_zero, List.push_toArray, List.append_toArray, List.nil_append, List.cons_append]
 gi_wp2_with (refine ⟨trivial, ?_⟩; gi_at_call 191; refine (units_in _ k _ _ _ _).mono ?_; rintro e w' ⟨rfl, rfl⟩)
 obtain ⟨W0, hW0⟩ : ∃ x, x = ((((((w.alloc (.cells #[.int .i64 k] 3)).alloc (.cells #[.func (.func 146) #[] #[]] 114)).alloc (.cells #[.slice none 0 0] 34)).alloc (.cells #[.bool false] 4)).alloc (.cells #[.slice none 0 0] 117)).alloc (.cells #[.int .i64 k] 3)).alloc (.cells #[.slice ad s.length cp] 34) := ⟨_, rfl⟩
 have b0 : Boxed W0 w.heap.size 3 (.int .i64 k) := by rw [hW0]; exact ((((((Boxed.new _ _ _).alloc _).alloc _).alloc _).alloc _).alloc _).alloc _
 have b1 : Boxed W0 (w.heap.size + 1) 114 (.func (.func 146) #[] #[]) := by rw [hW0]; exact (((((Boxed.at' _ _ _ _ (by simp)).alloc _).alloc _).alloc _).alloc _).alloc _
 have b2 : Boxed W0 (w.heap.size + 1 + 1) 34 (.slice none 0 0) := by rw [hW0]; exact ((((Boxed.at' _ _ _ _ (by simp)).alloc _).alloc _).alloc _).alloc _
 have b3 : Boxed W0 (w.heap.size + 1 + 1 + 1) 4 (.bool false) := by rw [hW0]; exact (((Boxed.at' _ _ _ _ (by simp)).alloc _).alloc _).alloc _
 have b4 : Boxed W0 (w.heap.size + 1 + 1 + 1 + 1) 117 (.slice none 0 0) := by rw [hW0]; exact ((Boxed.at' _ _ _ _ (by simp)).alloc _).alloc _
 have b5 : Boxed W0 (w.heap.size + 1 + 1 + 1 + 1 + 1) 3 (.int .i64 k) := by rw [hW0]; exact (Boxed.at' _ _ _ _ (by simp)).alloc _
 have b6 : Boxed W0 (w.heap.size + 1 + 1 + 1 + 1 + 1 + 1) 34 (.slice ad s.length cp) := by rw [hW0]; exact Boxed.at' _ _ _ _ (by simp)
 have hsz : W0.heap.size = w.heap.size + 7 := by rw [hW0]; simp
 have k0 : Kp w W0 := by rw [hW0]; exact ((((((Kp.alloc _ _).trans (Kp.alloc _ _)).trans (Kp.alloc _ _)).trans (Kp.alloc _ _)).trans (Kp.alloc _ _)).trans (Kp.alloc _ _)).trans (Kp.alloc _ _)
 rw [← hW0]
 clear hW0
 refine wpIn_rangeFunc_ownG rfl (by omega) (gf := 226) (lb := #[.pointer (some ⟨w.heap.size + 1 + 1 + 1 + 1 + 1, 0, none⟩), .pointer (some ⟨w.heap.size + 1 + 1 + 1 + 1 + 1 + 1, 0, none⟩)]) rfl trivial (enters_of Tryz.func226 (by kernel_rfl) rfl)
  (C.out 8 (by omega) _ _ (w.heap.size + 1 + 1 + 1 + 1) W0 b5.cell b6.cell (hv.kp k0) (T.kp k0) (by omega)) (fun h g => h.trans g) (fun W l o o' _ h hc _ => IK.putObj W l o o' h hc) (Below.refl _ _) (fun _ => rfl)
  (fun pre W => (∃ v, Boxed W (w.heap.size + 1 + 1 + 1 + 1) 117 v ∧ W.ownsRow (w.heap.size + 1 + 1 + 1 + 1) 3 1 v pre.length ((pre.map (lasV k)).map (.int .i64)) ∧ pre.length ≤ 400) ∧ Below (w.heap.size + 1 + 1 + 1 + 1) W0 W)
  (fun c pre W => (c = .ret ∧ pre.length = 401 ∧ W.cell? ⟨w.heap.size + 1 + 1, 0, none⟩ = some (.slice none 0 0) ∧ W.cell? ⟨w.heap.size + 1 + 1 + 1, 0, none⟩ = some (.bool false)) ∧ Below w.heap.size w W)
  (OwnFrom.and (Own.from (holdsRow_own _ _ 117 3 1 (fun (pre : List Int) => pre.length) (fun (pre : List Int) => (pre.map (lasV k)).map (.int .i64)) (fun (pre : List Int) _ => pre.length ≤ 400)) _) (ownFrom_below (by omega) (by omega)))
  (fun c => OwnFrom.and (Own.from (fun (s : List Int) A B row hs hg hr => ⟨hs.1, hs.2.1, cell_kept hs.2.2.1 hg hr, cell_kept hs.2.2.2 hg hr⟩) _) (ownFrom_below (Nat.le_refl _) (by omega)))
  ⟨⟨_, b4, World.ownsRow_nil _ _ _ _, by simp⟩, Below.refl _ _⟩
  (fun x => { tmps := #[.int .i64 k, .slice ad s.length cp, .func (.func 146) #[] #[], .pointer (some ⟨w.heap.size, 0, none⟩), undef, .pointer (some ⟨w.heap.size + 1, 0, none⟩), .pointer (some ⟨w.heap.size + 1 + 1, 0, none⟩), .pointer (some ⟨w.heap.size + 1 + 1 + 1, 0, none⟩), undef, .pointer (some ⟨w.heap.size + 1 + 1 + 1 + 1, 0, none⟩), .int .i64 x, undef, undef, .int .i64 k, .bool false, undef, undef, undef, undef, undef, undef, .int .i64 k, .slice ad s.length cp, .func (.func 226) #[] #[.pointer (some ⟨w.heap.size + 1 + 1 + 1 + 1 + 1, 0, none⟩), .pointer (some ⟨w.heap.size + 1 + 1 + 1 + 1 + 1 + 1, 0, none⟩)], .int .i64 x, undef, undef, undef, undef, undef, undef, undef, undef, undef, undef, undef, undef, undef, undef, undef, undef], defers := [] }) ?assign ?body ?done ?stop
 case assign =>
  intro l x W K hK
  gi_wp2
  exact hK
 case body =>
  rintro l pre x W ⟨⟨v, hv, hrow, hp⟩, hB⟩ hlt
  obtain ⟨a1, c1, rfl⟩ := own_slice hrow
  have hc := hv.cell
  have g0 : W.cell? ⟨w.heap.size, 0, none⟩ = some (.int .i64 k) := (hB.cell (p := ⟨w.heap.size, 0, none⟩) (by simp only; omega)).trans b0.cell
  have g1 : W.cell? ⟨w.heap.size + 1, 0, none⟩ = some (.func (.func 146) #[] #[]) := (hB.cell (p := ⟨w.heap.size + 1, 0, none⟩) (by simp only; omega)).trans b1.cell
  have kw : Kp w W := Below.trans k0 (hB.mono (by omega))
  by_cases e4 : pre.length = 400
  ·have q : ((pre.length : Int) == 400) = true := by rw [e4]; rfl
   have B2 : Boxed W (w.heap.size + 1 + 1) 34 (.slice none 0 0) := (hB.block _ (by omega)).trans b2
   have B3 : Boxed W (w.heap.size + 1 + 1 + 1) 4 (.bool false) := (hB.block _ (by omega)).trans b3
   have c2 := B2.cell
   have f2 := B2.frozen
   have B3' := B3.other (show w.heap.size + 1 + 1 + 1 ≠ w.heap.size + 1 + 1 by omega) (.slice none 0 0)
   have c3 := B3'.cell
   have f3 := B3'.frozen
   have KW := Hd kw
   clear kw hB hrow
   gi_wp2
   exact ⟨((KeepsOthers.setCell W _ _).trans (KeepsOthers.setCell _ _ _)).from _, ⟨rfl, by rw [List.length_append, e4]; rfl, ((B2.set _).other (by omega) _).cell, (B3'.set _).cell⟩, ((Below.setCell KW.out (p := ⟨w.heap.size + 1 + 1, 0, none⟩) (by simp only; omega) _).setCell (p := ⟨w.heap.size + 1 + 1 + 1, 0, none⟩) (by simp only; omega) _)⟩
  ·have q : ((pre.length : Int) == 400) = false := by simp; omega
   have FF := Hd (last_any k x W (T.kp kw).1 (T.kp kw).2)
   have HB := Hd hB
   have HR := Hd hrow
   have HV := Hd hv
   clear hB hrow hv kw
   gi_wp2_with fail
   refine ⟨trivial, ?_⟩
   refine (CallsIn.inRound l (callsIn_wide.2 FF.out)).mono ?_
   rintro e W2 ⟨rfl, kk⟩
   have bD2 : Boxed W2 (w.heap.size + 1 + 1 + 1 + 1) 117 (.slice a1 pre.length c1) := (kk.block _ HV.out.lt).trans HV.out
   have hc2 := bD2.cell
   have KK := Hd kk
   have HR2 := own_kp HR.out kk
   have hs2 : w.heap.size + 1 + 1 + 1 + 1 ≤ W2.heap.size := by have := HB.out.size; have := kk.size; omega
   have HB2 := Hd (show Below (w.heap.size + 1 + 1 + 1 + 1) W0 W2 from HB.out.trans (Below.mono kk (by have := HB.out.size; omega)))
   clear kk FF hc
   obtain ⟨d, hd⟩ : ∃ d, lasV k x = d := ⟨_, rfl⟩
   rw [hd]
   gi_wp2_with (gi_at_builtin; refine wpListIn_append_own _ rfl _ _ 117 rfl (w.heap.size + 1 + 1 + 1 + 1) 3 i0 (.int .i64 0) 1 8 Tryz.underlying117 hi hz0 hz1 hz2 rfl (by decide) _ _ _ rfl (HR2.alloc _) ⟨W2.heap.size, 0, none⟩ 1 1 [.int .i64 d] rfl rfl (cell_one_new _ _ _) (by simp [Value.oneCell']) (by unfold maxLen; omega) (by omega) (by simp; omega) ?_; intro v' w1 hown' hgrow _; obtain ⟨g', cap', rfl⟩ := ownsRow_succ hown'; obtain ⟨hv1, hv2, hr2, hk2, hb2⟩ := bD2.appended (by decide) HR2 hs2 (Nat.le_refl _) hown' hgrow; have hc1 := hv1.cell; have hf1 := hv1.frozen)
   refine ⟨?_, (IK.kp KK.out).trans (((IK.kp (Kp.alloc _ _)).trans (IK.grown (HR2.alloc _) hgrow)).trans (IK.setCell _ _)), ⟨_, hv2, by rw [List.length_append, List.map_append, List.map_append, List.map_singleton, List.map_singleton, hd]; exact hr2, by rw [List.length_append, List.length_singleton]; omega⟩, HB2.out.trans hb2⟩
   exact KeepsFrom.trans ⟨KK.out.size, fun i o _ hi _ => (KK.out.block i (Array.getElem?_eq_some_iff.1 hi).1).trans hi⟩ (hk2.from _)
 case done =>
  rintro D ys W hD rfl ⟨⟨v, hv, hrow, hp⟩, hB⟩ hK
  obtain ⟨a1, c1, rfl⟩ := own_slice hrow
  have hc := hv.cell
  have kw : Kp w W := Below.trans k0 (hB.mono (by omega))
  have OF := Hd (sof_any _ ((nums L).map (lasV k)) W (intsAt_own (by rw [List.length_map]; exact hrow)) (las_i64 k _) (by rw [List.length_map]; omega))
  have B2 : Boxed W (w.heap.size + 1 + 1) 34 (.slice none 0 0) := (hB.block _ (by omega)).trans b2
  have B3 : Boxed W (w.heap.size + 1 + 1 + 1) 4 (.bool false) := (hB.block _ (by omega)).trans b3
  have KW := Hd kw
  have hzw := kw.size
  have hzB := hB.size
  clear hv hrow hB kw
  obtain ⟨RES, hRES⟩ : ∃ x, x = nf (sing ((nums L).map (lasV k))) := ⟨_, rfl⟩
  rw [← hRES] at OF
  have HRES := Hd hRES
  clear hRES
  gi_wp2_with fail
  refine ⟨trivial, ?_⟩
  refine (callsIn_wide.2 OF.out).mono ?_
  rintro e W3 ⟨v3, rfl, own3, kk⟩
  obtain ⟨a3, c3, rfl⟩ := own_slice own3
  have O3 := Hd own3
  have K3 := Hd kk
  have B2' : Boxed W3 (w.heap.size + 1 + 1) 34 (.slice none 0 0) := (kk.block _ (by omega)).trans B2
  have B3' : Boxed W3 (w.heap.size + 1 + 1 + 1) 4 (.bool false) := (kk.block _ (by omega)).trans B3
  have d2 := B2'.cell
  have f2 := B2'.frozen
  have B3'' := B3'.other (show w.heap.size + 1 + 1 + 1 ≠ w.heap.size + 1 + 1 by omega) (.slice a3 RES.length c3)
  have d3 := B3'.cell
  have f3 := B3'.frozen
  have hKD := Hd ((kk.block D (Array.getElem?_eq_some_iff.1 hK).1).trans hK)
  clear kk own3 OF
  gi_wp2
  have hKD2 := Hd (((KeepsOthers.setCell W3 ⟨w.heap.size + 1 + 1, 0, none⟩ (.slice a3 RES.length c3)).trans (KeepsOthers.setCell _ ⟨w.heap.size + 1 + 1 + 1, 0, none⟩ (.bool true))).same D _ hKD.out rfl)
  have e2 := ((B2'.set (.slice a3 RES.length c3)).other (show w.heap.size + 1 + 1 ≠ w.heap.size + 1 + 1 + 1 by omega) (.bool true)).cell
  have e3 := (B3''.set (.bool true)).cell
  have g2 := cell_kept e2 (grownBy_putObj' _ D (.deferred none)) (fun r e => by cases e; exact ⟨_, hKD2.out, rfl⟩)
  have g3 := cell_kept e3 (grownBy_putObj' _ D (.deferred none)) (fun r e => by cases e; exact ⟨_, hKD2.out, rfl⟩)
  refine ⟨by simp, .inl ⟨_, _, rfl, run_takeDeferred hKD2.out, ?_⟩⟩
  try rw [if_pos hp, decide_eq_true hp]
  rw [← HRES.out]
  refine ⟨.tuple #[.slice a3 RES.length c3, .bool true], ?_, _, rfl, ?_, ?_⟩
  ·simp [results, Tryz.f144, go_sem, g2, g3]
  ·exact ownsRow_putObj (own_mono (own_set (own_set O3.out (by omega) _) (by omega) _) (by omega)) _ hKD2.out rfl
  ·exact ((Below.setCell (Kp.trans KW.out K3.out) (p := ⟨w.heap.size + 1 + 1, 0, none⟩) (by simp only; omega) _).setCell (p := ⟨w.heap.size + 1 + 1 + 1, 0, none⟩) (by simp only; omega) _).trans (belowK_b (w := w) (Nat.le_refl _) _ D _ _ (by omega) hKD2.out rfl rfl)
 case stop =>
  rintro D c pre W hD hpre ⟨⟨rfl, hlen, h2, h3⟩, hB⟩ hK
  have hle := hpre.length_le
  gi_wp2
  refine ⟨by simp, .inl ⟨_, _, rfl, run_takeDeferred hK, ?_⟩⟩
  try rw [if_neg (by omega), dF]
  have g2 := cell_kept h2 (grownBy_putObj' _ D (.deferred none)) (fun r e => by cases e; exact ⟨_, hK, rfl⟩)
  have g3 := cell_kept h3 (grownBy_putObj' _ D (.deferred none)) (fun r e => by cases e; exact ⟨_, hK, rfl⟩)
  refine ⟨.tuple #[.slice none 0 0, .bool false], ?_, _, rfl, World.ownsRow_nil _ _ _ _, hB.trans (belowK_b (w := w) (Nat.le_refl _) W D _ _ (by omega) hK rfl rfl)⟩
  simp [results, Tryz.f144, go_sem, g2, g3]
def edgB (k : Int) (s : List R) : Bool := if k = 0 then decide ((unitsR k s).length ≤ 400) else decide ((nums (unitsR k s)).length ≤ 400)
def edgR (V : Int → Int) (k : Int) (s : List R) : List R := if edgB k s = true then (if k = 0 then unitsR k s else nf (sing ((nums (unitsR k s)).map V))) else []
theorem edges0_any (f : Nat) (v : Value) (s : List R) (w : World) (hv : RunsAt w v s) (hl : I64R s) (hn : s.length ≤ 1000000) (T : Tabs w) (V : Int → Int) :
  Calls Tryz.prog 144 #[.int .i64 0, v, .func (.func f) #[] #[]] w fun e w' => ∃ v', e = .returned (.tuple #[v', .bool (edgB 0 s)]) ∧ w'.ownsRow w.heap.size 42 2 v' (edgR V 0 s).length (cellsR (edgR V 0 s)) ∧ Kp w w' := by
 have C := Hd (fun wx (kx : Kp w wx) => existing_any 0 v s wx (hv.kp kx) hl hn (T.kp kx))
 have us := unitsR_sane 0 s
 have hlen := unitsR_len (k := 0) hn
 have W' := Hd (fun v1 wx (h : RunsAt wx v1 (unitsR 0 s)) => wide_any v1 (unitsR 0 s) wx h (ok_i64 (sane_ok us)) hlen)
 rw [nf_of_sane us] at W'
 obtain ⟨ad, cp, rfl⟩ := hv.slice
 have EB : edgB 0 s = decide ((unitsR 0 s).length ≤ 400) := by unfold edgB; rw [if_pos rfl]
 have ER : edgR V 0 s = if (unitsR 0 s).length ≤ 400 then unitsR 0 s else [] := by
  unfold edgR; rw [EB, if_pos rfl]; simp
 rw [EB, ER]
 clear EB ER hv hl T us
 generalize unitsR 0 s = L at *
 have b2 : Boxed ((((w.alloc (.cells #[.int .i64 0] 3)).alloc (.cells #[.func (.func f) #[] #[]] 114)).alloc (.cells #[.slice none 0 0] 34)).alloc (.cells #[.bool false] 4)) (w.heap.size + 1 + 1) 34 (.slice none 0 0) := (Boxed.at' _ _ _ _ (by simp)).alloc _
 have b3 : Boxed ((((w.alloc (.cells #[.int .i64 0] 3)).alloc (.cells #[.func (.func f) #[] #[]] 114)).alloc (.cells #[.slice none 0 0] 34)).alloc (.cells #[.bool false] 4)) (w.heap.size + 1 + 1 + 1) 4 (.bool false) := Boxed.at' _ _ _ _ (by simp)
 have B2 := Hd b2
 have B3 := Hd b3
 have K0 := Hd ((((Kp.alloc w (.cells #[.int .i64 0] 3)).trans (Kp.alloc _ (.cells #[.func (.func f) #[] #[]] 114))).trans (Kp.alloc _ (.cells #[.slice none 0 0] 34))).trans (Kp.alloc _ (.cells #[.bool false] 4)))
 have Z0 := Hd (show ((((w.alloc (.cells #[.int .i64 0] 3)).alloc (.cells #[.func (.func f) #[] #[]] 114)).alloc (.cells #[.slice none 0 0] 34)).alloc (.cells #[.bool false] 4)).heap.size = w.heap.size + 4 by simp)
 clear b2 b3
 by_cases h : L.length ≤ 400
 ·have q : decide (400 < L.length) = false := dF
  rw [decide_eq_true h, if_pos h]
  rw [q] at W'
  clear q h
  go_enter Tryz.func144, Tryz.ntmps144
  go_wp2_with fail
  refine (C.out _ K0.out).mono ?_
  rintro e w1 ⟨v1, rfl, own1, kk⟩
  obtain ⟨a1, c1, rfl⟩ := own_slice own1
  have O1 := Hd own1
  have K1 := Hd kk
  have RA := Hd (runsAt_own own1)
  clear own1 kk C
  go_wp2_with fail
  refine (W'.out _ _ RA.out).mono ?_
  rintro e w2 ⟨rfl, kk⟩
  have K2 := Hd (K1.out.trans kk)
  have O2 := Hd (own_kp O1.out kk)
  have hz : w.heap.size + 4 ≤ w2.heap.size := by have := K2.out.size; rw [Z0.out] at this; exact this
  have B2' : Boxed w2 (w.heap.size + 1 + 1) 34 (.slice none 0 0) := (K2.out.block _ (by rw [Z0.out]; omega)).trans B2.out
  have B3' : Boxed w2 (w.heap.size + 1 + 1 + 1) 4 (.bool false) := (K2.out.block _ (by rw [Z0.out]; omega)).trans B3.out
  have d2 := B2'.cell
  have d3 := B3'.cell
  have f2 := B2'.frozen
  have f3 := B3'.frozen
  have KK := Hd (K0.out.trans K2.out)
  rw [Z0.out] at O2
  clear kk
  go_wp2
  have e2 := ((B2'.set (.slice a1 L.length c1)).other (show w.heap.size + 1 + 1 ≠ w.heap.size + 1 + 1 + 1 by omega) (.bool true)).cell
  have e3 := ((B3'.other (show w.heap.size + 1 + 1 + 1 ≠ w.heap.size + 1 + 1 by omega) (.slice a1 L.length c1)).set (.bool true)).cell
  refine bodyPost_ret (v := .tuple #[(.slice a1 L.length c1), (.bool true)]) (by simp [results, Tryz.f144, go_sem, e2, e3]) rfl ?_
  refine ⟨_, rfl, own_mono (own_set (own_set O2.out (by omega) _) (by omega) _) (by omega), (Below.setCell KK.out (p := ⟨w.heap.size + 1 + 1, 0, none⟩) (by simp only; omega) _).setCell (p := ⟨w.heap.size + 1 + 1 + 1, 0, none⟩) (by simp only; omega) _⟩
 ·have q : decide (400 < L.length) = true := dT
  rw [decide_eq_false h, if_neg h]
  rw [q] at W'
  clear q h
  go_enter Tryz.func144, Tryz.ntmps144
  go_wp2_with fail
  refine (C.out _ K0.out).mono ?_
  rintro e w1 ⟨v1, rfl, own1, kk⟩
  obtain ⟨a1, c1, rfl⟩ := own_slice own1
  have O1 := Hd own1
  have K1 := Hd kk
  have RA := Hd (runsAt_own own1)
  clear own1 kk C
  go_wp2_with fail
  refine (W'.out _ _ RA.out).mono ?_
  rintro e w2 ⟨rfl, kk⟩
  have K2 := Hd (K1.out.trans kk)
  have O2 := Hd (own_kp O1.out kk)
  have hz : w.heap.size + 4 ≤ w2.heap.size := by have := K2.out.size; rw [Z0.out] at this; exact this
  have B2' : Boxed w2 (w.heap.size + 1 + 1) 34 (.slice none 0 0) := (K2.out.block _ (by rw [Z0.out]; omega)).trans B2.out
  have B3' : Boxed w2 (w.heap.size + 1 + 1 + 1) 4 (.bool false) := (K2.out.block _ (by rw [Z0.out]; omega)).trans B3.out
  have d2 := B2'.cell
  have d3 := B3'.cell
  have f2 := B2'.frozen
  have f3 := B3'.frozen
  have KK := Hd (K0.out.trans K2.out)
  rw [Z0.out] at O2
  clear kk
  go_wp2
  have e2 := ((B2'.set (.slice none 0 0)).other (show w.heap.size + 1 + 1 ≠ w.heap.size + 1 + 1 + 1 by omega) (.bool false)).cell
  have e3 := ((B3'.other (show w.heap.size + 1 + 1 + 1 ≠ w.heap.size + 1 + 1 by omega) (.slice none 0 0)).set (.bool false)).cell
  refine bodyPost_ret (v := .tuple #[(.slice none 0 0), (.bool false)]) (by simp [results, Tryz.f144, go_sem, e2, e3]) rfl ?_
  refine ⟨_, rfl, World.ownsRow_nil _ _ _ _, (Below.setCell KK.out (p := ⟨w.heap.size + 1 + 1, 0, none⟩) (by simp only; omega) _).setCell (p := ⟨w.heap.size + 1 + 1 + 1, 0, none⟩) (by simp only; omega) _⟩
theorem edgesF_all (k : Int) (v : Value) (s : List R) (w : World) (hv : RunsAt w v s) (hl : I64R s) (hn : s.length ≤ 1000000) (T : Tabs w) :
  Calls Tryz.prog 144 #[.int .i64 k, v, .func (.func 145) #[] #[]] w fun e w' => ∃ v', e = .returned (.tuple #[v', .bool (edgB k s)]) ∧ w'.ownsRow w.heap.size 42 2 v' (edgR (firV k) k s).length (cellsR (edgR (firV k) k s)) ∧ Kp w w' := by
 by_cases h : k = 0
 ·subst h; exact edges0_any _ v s w hv hl hn T (firV 0)
 ·have E : edgB k s = decide ((nums (unitsR k s)).length ≤ 400) := by unfold edgB; rw [if_neg h]
  have E2 : edgR (firV k) k s = if (nums (unitsR k s)).length ≤ 400 then nf (sing ((nums (unitsR k s)).map (firV k))) else [] := by unfold edgR; rw [E, if_neg h]; simp
  rw [E, E2]
  exact edgesF_any k h v s w hv hl hn T
theorem edgesL_all (k : Int) (v : Value) (s : List R) (w : World) (hv : RunsAt w v s) (hl : I64R s) (hn : s.length ≤ 1000000) (T : Tabs w) :
  Calls Tryz.prog 144 #[.int .i64 k, v, .func (.func 146) #[] #[]] w fun e w' => ∃ v', e = .returned (.tuple #[v', .bool (edgB k s)]) ∧ w'.ownsRow w.heap.size 42 2 v' (edgR (lasV k) k s).length (cellsR (edgR (lasV k) k s)) ∧ Kp w w' := by
 by_cases h : k = 0
 ·subst h; exact edges0_any _ v s w hv hl hn T (lasV 0)
 ·have E : edgB k s = decide ((nums (unitsR k s)).length ≤ 400) := by unfold edgB; rw [if_neg h]
  have E2 : edgR (lasV k) k s = if (nums (unitsR k s)).length ≤ 400 then nf (sing ((nums (unitsR k s)).map (lasV k))) else [] := by unfold edgR; rw [E, if_neg h]; simp
  rw [E, E2]
  exact edgesL_any k h v s w hv hl hn T
theorem starts_any (k : Int) (v : Value) (s : List R) (w : World) (hv : RunsAt w v s) (hl : I64R s) (hn : s.length ≤ 1000000) (T : Tabs w) :
  Calls Tryz.prog 87 #[.int .i64 k, v] w fun e w' => ∃ v', e = .returned (.tuple #[v', .bool (edgB k s)]) ∧ w'.ownsRow w.heap.size 42 2 v' (edgR (firV k) k s).length (cellsR (edgR (firV k) k s)) ∧ Kp w w' := by
 have C := Hd (edgesF_all k v s w hv hl hn T)
 generalize edgR (firV k) k s = L at *
 generalize edgB k s = b at *
 obtain ⟨ad, cp, rfl⟩ := hv.slice
 clear hv hl T
 go_enter Tryz.func87, Tryz.ntmps87
 go_wp2_with fail
 refine (C.out).mono ?_
 rintro e w1 ⟨v1, rfl, own1, kk⟩
 have O1 := Hd own1
 have K1 := Hd kk
 clear own1 kk C
 go_wp2
 go_ret2
 exact ⟨_, rfl, O1.out, K1.out⟩
theorem ends_any (k : Int) (v : Value) (s : List R) (w : World) (hv : RunsAt w v s) (hl : I64R s) (hn : s.length ≤ 1000000) (T : Tabs w) :
  Calls Tryz.prog 89 #[.int .i64 k, v] w fun e w' => ∃ v', e = .returned (.tuple #[v', .bool (edgB k s)]) ∧ w'.ownsRow w.heap.size 42 2 v' (edgR (lasV k) k s).length (cellsR (edgR (lasV k) k s)) ∧ Kp w w' := by
 have C := Hd (edgesL_all k v s w hv hl hn T)
 generalize edgR (lasV k) k s = L at *
 generalize edgB k s = b at *
 obtain ⟨ad, cp, rfl⟩ := hv.slice
 clear hv hl T
 go_enter Tryz.func89, Tryz.ntmps89
 go_wp2_with fail
 refine (C.out).mono ?_
 rintro e w1 ⟨v1, rfl, own1, kk⟩
 have O1 := Hd own1
 have K1 := Hd kk
 clear own1 kk C
 go_wp2
 go_ret2
 exact ⟨_, rfl, O1.out, K1.out⟩
end Go.Proofs.YtcooaoponkkpeaaGreatDoor
