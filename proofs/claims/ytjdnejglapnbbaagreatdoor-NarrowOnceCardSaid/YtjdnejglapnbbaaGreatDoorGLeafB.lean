/-
  Joined: LeafH, Iw, LeafI, LeafJ, LeafK, L14P, L14A, L14W.
-/
import Derived.Test.YtjdnejglapnbbaaGreatDoorGLeafA
import Derived.Test.YtjdnejglapnbbaaGreatDoorImgE
import Derived.Shelf.Abstract
import Derived.LoopTactic
import Derived.Deep.RegionHeld3
import Derived.Laws.EntriesVeiled
namespace Go.Proofs.YtjdnejglapnbbaaGreatDoor
set_option linter.unusedVariables false
set_option linter.unusedSimpArgs false
/-- runs, from a number on -/
def fromR (lo : Int) (s : List R) : List R := s.map fun r => (max r.1 lo, r.2)
theorem fromR_len (lo : Int) (s : List R) : (fromR lo s).length = s.length := by unfold fromR; simp
theorem fromR_at (lo : Int) (s : List R) (i : Nat) (h : i < s.length) : at_ (fromR lo s) i = (max (at_ s i).1 lo, (at_ s i).2) := by
  unfold fromR at_
  simp [List.getD, h]
theorem upF_filter (lo x : Int) (m : Nat) : (upF lo m).filter (fun n => decide (x ≤ n)) = upF (max lo x) ((lo + (m : Int)) - max lo x).toNat := by
  induction m with
  | zero => 
    have : ((lo + ((0 : Nat) : Int)) - max lo x).toNat = 0 := by omega
    rw [this]
    rfl
  | succ m ih =>
    rw [upF_succ, List.filter_append, ih]
    by_cases h : x ≤ lo + (m : Int)
    · have e : ((lo + ((m + 1 : Nat) : Int)) - max lo x).toNat = ((lo + (m : Int)) - max lo x).toNat + 1 := by omega
      rw [e, upF_succ]
      have e2 : max lo x + (((lo + (m : Int)) - max lo x).toNat : Int) = lo + (m : Int) := by omega
      rw [e2]
      simp [h]
    · have e : ((lo + ((m + 1 : Nat) : Int)) - max lo x).toNat = ((lo + (m : Int)) - max lo x).toNat := by omega
      rw [e]
      simp [h]
theorem runF_from (lo : Int) (r : R) : (runF r).filter (fun n => decide (lo ≤ n)) = runF (max r.1 lo, r.2) := by
  unfold runF
  rw [upF_filter]
  simp only
  congr 1
  omega
theorem nums_from (lo : Int) (s : List R) : nums (fromR lo s) = (nums s).filter fun n => decide (lo ≤ n) := by
  unfold nums fromR
  induction s with
  | nil => rfl
  | cons r t ih =>
    simp only [List.map_cons, List.flatMap_cons, List.filter_append]
    rw [ih, runF_from]
theorem nums_from0 {k : Int} {s : List R} (h : setB k s = true) : nums (fromR 0 s) = nums s := by
  rw [nums_from, List.filter_eq_self]
  intro n hn
  rw [nums_mem (sane_ok (setB_sane h))] at hn
  have := setB_mem h hn
  exact decide_eq_true this.1
/-- the first of a list -/
theorem prefix_take {α : Type} {P L : List α} {n : Nat} (h : P <+: L) (hn : P.length = n) : L.take n = P := by
  obtain ⟨t, rfl⟩ := h
  rw [← hn]
  simp
theorem flatMap_prefix {α β : Type} {f : α → List β} {P L : List α} (h : P <+: L) : P.flatMap f <+: L.flatMap f := by
  obtain ⟨t, rfl⟩ := h
  rw [List.flatMap_append]
  exact List.prefix_append _ _
theorem flatMap_part {α β : Type} {f : α → List β} {P L : List α} {x : α} {Q : List β} (h : P ++ [x] <+: L) (hq : Q <+: f x) : P.flatMap f ++ Q <+: L.flatMap f := by
  refine List.IsPrefix.trans ?_ (flatMap_prefix h)
  rw [List.flatMap_append]
  simp only [List.flatMap_cons, List.flatMap_nil, List.append_nil]
  exact (List.prefix_append_right_inj _).2 hq
end Go.Proofs.YtjdnejglapnbbaaGreatDoor

namespace Go.Proofs.YtjdnejglapnbbaaGreatDoor
open Go.RowKit
set_option linter.unusedVariables false
set_option linter.unusedSimpArgs false
/-- all blocks below n stay but the box B; all other blocks of cells stay but rows of type t and the box B -/
structure IW (n B : Nat) (t : TypeId) (w w' : World) : Prop where
  os : w'.os = w.os
  tape : w'.tape = w.tape
  output : w'.output = w.output
  size : w.heap.size ≤ w'.heap.size
  block : ∀ k, k < n → k ≠ B → w'.heap[k]? = w.heap[k]?
  same : ∀ (k : Nat) (o : Obj), w.heap[k]? = some o → o.isCells = true → isRowOf t o = false → k ≠ B → w'.heap[k]? = some o
theorem IW.refl (n B : Nat) (t : TypeId) (w : World) : IW n B t w w := ⟨rfl, rfl, rfl, Nat.le_refl _, fun _ _ _ => rfl, fun _ _ h _ _ _ => h⟩
theorem IW.trans {n B : Nat} {t : TypeId} {a b c : World} (h : IW n B t a b) (k : IW n B t b c) : IW n B t a c :=
  ⟨k.os.trans h.os, k.tape.trans h.tape, k.output.trans h.output, Nat.le_trans h.size k.size, fun i hi hb => (k.block i hi hb).trans (h.block i hi hb), fun i o hi hc hr hb => k.same i o (h.same i o hi hc hr hb) hc hr hb⟩
theorem IW.kp {n B : Nat} {t : TypeId} {w w' : World} (k : Kp w w') (hn : n ≤ w.heap.size) : IW n B t w w' :=
  ⟨k.os, k.tape, k.output, k.size, fun i hi _ => k.block i (by omega), fun i o hi _ _ _ => (k.block i (Array.getElem?_eq_some_iff.1 hi).1).trans hi⟩
theorem IW.set (n B : Nat) (t : TypeId) (w : World) (v : Value) : IW n B t w (w.setCell ⟨B, 0, none⟩ v) := by
  have g := grownBy_setCell' w B v
  exact ⟨g.os, g.tape, g.output, g.size, fun k _ hb => Below.heap_setCell _ _ _ k (fun e => hb e), fun k o hk _ _ hb => (Below.heap_setCell _ _ _ k (fun e => hb e)).trans hk⟩
theorem IW.grown {n B : Nat} {t : TypeId} {w w' : World} {size m : Nat} {v : Value} {xs : List Value} (h : w.ownsRow n t size v m xs) (hn : n ≤ w.heap.size) (g : w.grownBy w' v.ownBlock) : IW n B t w w' := by
  refine ⟨g.os, g.tape, g.output, g.size, fun k hk hb => g.block k (by omega) (fun e => ?_), fun k o hk _ hr _ => (g.block k (Array.getElem?_eq_some_iff.1 hk).1 (fun e => ?_)).trans hk⟩
  · rcases h.2 with ⟨rfl, _⟩ | ⟨q, cap, cur, rfl, hq, _⟩
    · cases e
    · have e2 : k = q := Option.some.inj e
      omega
  · rcases h.2 with ⟨rfl, _⟩ | ⟨q, cap, cur, rfl, _, hgb, _⟩
    · cases e
    · cases e
      rw [hgb] at hk
      cases hk
      simp [isRowOf] at hr
theorem IW.below {n B m : Nat} {t : TypeId} {w w' : World} (h : IW n B t w w') (hB : m ≤ B) (hm : m ≤ n) : Below m w w' :=
  ⟨h.os, h.tape, h.output, h.size, fun k hk => h.block k (by omega) (by omega)⟩
theorem IW.keeps {n B : Nat} {t : TypeId} {w w1 w' : World} (h : IW n B t w1 w') (k : Kp w w1) (hB : w.heap.size ≤ B) (hn : w.heap.size ≤ n) : Kp w w' :=
  Below.trans k (h.below hB hn)
theorem IW.boxed {n B C : Nat} {t e : TypeId} {w w' : World} {v : Value} (h : IW n B t w w') (b : Boxed w C e v) (hC : C ≠ B) (ht : (e == t) = false) : Boxed w' C e v :=
  h.same C _ b rfl (by simpa [isRowOf] using ht) hC
theorem IW.two {n B b : Nat} {t e : TypeId} {w w' : World} {x y : Value} (h : IW n B t w w') (c : w.heap[b]? = some (.cells #[x, y] e)) (hb : b ≠ B) (ht : (e == t) = false) : w'.heap[b]? = some (.cells #[x, y] e) :=
  h.same b _ c rfl (by simpa [isRowOf] using ht) hb
theorem IW.cell {n B k o : Nat} {t : TypeId} {w w' : World} {x : Value} (h : IW n B t w w') (c : w.cell? ⟨k, o, none⟩ = some x) (hk : k < n) (hB : k ≠ B) : w'.cell? ⟨k, o, none⟩ = some x :=
  (World.cell?_of_block (w := w) (h.block k hk hB)).trans c
theorem two_cell0 {w : World} {b : Nat} {x y : Value} {e : TypeId} (h : w.heap[b]? = some (.cells #[x, y] e)) : w.cell? ⟨b, 0, none⟩ = some x := by
  simp [World.cell?, h]
/-- a captured slice grows by what is appended -/
theorem iw_appended {W w1 : World} {n B : Nat} {t e : TypeId} {size : Nat} {v v' : Value} {k m : Nat} {xs ys : List Value} {tmp : Obj}
    (hv : Boxed W B t v) (hte : t ≠ e) (hrow : W.ownsRow n e size v k xs) (hn : n ≤ W.heap.size)
    (hown' : w1.ownsRow n e size v' m ys) (hgrow : (W.alloc tmp).grownBy w1 v.ownBlock) :
    Boxed w1 B t v ∧ Boxed (w1.setCell ⟨B, 0, none⟩ v') B t v' ∧ (w1.setCell ⟨B, 0, none⟩ v').ownsRow n e size v' m ys ∧ IW n B e W (w1.setCell ⟨B, 0, none⟩ v') := by
  have hv1 : Boxed w1 B t v := (hv.alloc tmp).kept hgrow (hv.not_row hte hrow)
  refine ⟨hv1, hv1.set v', hown'.kept (grownBy_setCell' w1 B v') (.inr (hv1.not_row hte hown').symm), ?_⟩
  exact ((IW.kp (Kp.alloc W tmp) hn).trans (IW.grown (hrow.alloc tmp) (by simp; omega) hgrow)).trans (IW.set n B e w1 v')
end Go.Proofs.YtjdnejglapnbbaaGreatDoor

namespace Go.Proofs.YtjdnejglapnbbaaGreatDoor
open Go.RowKit
set_option linter.unusedVariables false
set_option linter.unusedSimpArgs false
theorem IW.runs1 {B : Nat} {t tl : TypeId} {w0 w' : World} {u v : Value} {l : List R} (h : IW w0.heap.size B t w0 w') (bx : Boxed w0 B tl u) (r : RunsAt w0 v l) : RunsAt w' v l := by
  rcases r with r | ⟨b, off, cap, e, h1, h2, h3⟩
  · exact .inl r
  · refine .inr ⟨b, off, cap, e, h1, h2, fun i hi => ?_⟩
    obtain ⟨c1, c2⟩ := h3 i hi
    have hb : b ≠ B := by
      intro e
      subst e
      have : w0.cell? ⟨b, off + i * 2 + 1, none⟩ = none := by
        simp [World.cell?, show w0.heap[b]? = _ from bx]
      rw [this] at c2
      cases c2
    exact ⟨h.cell c1 (World.block_lt_of_cell? _ _ c1) hb, h.cell c2 (World.block_lt_of_cell? _ _ c2) hb⟩
/-- how a walk over numbers ends -/
def EachEnd (L : List Int) (J Q : List Int → World → Prop) (e : Ending) (w' : World) : Prop :=
  (e = .returned (.bool true) ∧ J L w') ∨ (e = .returned (.bool false) ∧ ∃ pre, pre <+: L ∧ Q pre w')
set_option maxHeartbeats 4000000 in
set_option maxRecDepth 100000 in
theorem leach_any (g : FuncId) (cb : Array Value) (B : Nat) (t tl : TypeId) (u v : Value) (s : List R) (lo : Int) (J Q : List Int → World → Prop) (w0 w : World)
    (eg : ∀ args w, (callFunc g args).run Tryz.prog w = .ok (.enter g args) w)
    (hv : RunsAt w0 v s) (bx : Boxed w0 B tl u) (hw : IW w0.heap.size B t w0 w) (hs : setB 0 s = true) (hn : s.length ≤ 1000000) (h1 : 0 ≤ lo) (h2 : lo ≤ 3652425)
    (ht1 : (53 == t) = false)
    (hJ : ∀ pre w w', J pre w → Kp w w' → J pre w') (h0 : J [] w)
    (hc : ∀ pre x w1, J pre w1 → IW w0.heap.size B t w0 w1 → pre ++ [x] <+: nums (fromR lo s) → Calls Tryz.prog g (#[.int .i64 x] ++ cb) w1 fun e w' =>
      (e = .returned (.bool true) ∧ J (pre ++ [x]) w' ∧ IW w0.heap.size B t w1 w') ∨ (e = .returned (.bool false) ∧ Q (pre ++ [x]) w' ∧ IW w0.heap.size B t w1 w')) :
    Calls Tryz.prog 148 #[v, .int .i64 lo, .func (.func g) #[] cb] w fun e w' => EachEnd (nums (fromR lo s)) J Q e w' ∧ IW w0.heap.size B t w w' := by
  have sn := setB_sane hs
  have hin : ∀ j, j < s.length → 0 ≤ (at_ s j).1 ∧ (at_ s j).1 ≤ (at_ s j).2 ∧ (at_ s j).2 ≤ 3652424 := fun j hj => by
    obtain ⟨m1, m2⟩ := memR_at sn hj
    have a := setB_mem hs m1
    have b := setB_mem hs m2
    have o := sane_ok sn _ (at_mem hj)
    unfold okR at o
    rw [cnt_zero] at a b
    omega
  have HI := Lib.hid hin
  have HV := Lib.hid (fun w1 (h : IW w0.heap.size B t w0 w1) => h.runs1 bx hv)
  have LE := Lib.hid (fromR_len lo s)
  have AT := Lib.hid (fromR_at lo s)
  have HC := Lib.hid hc
  have HJ := Lib.hid hJ
  have HW := Lib.hid hw
  have hn0 : w0.heap.size ≤ w.heap.size := hw.size
  have hB := bx.lt
  have NT := Lib.hid (fun j hj => nums_take (fromR lo s) j hj)
  have NP := Lib.hid (fun j m hj hm => nums_part (fromR lo s) j m hj hm)
  have TL := Lib.hid (List.take_length (l := fromR lo s))
  obtain ⟨ad, cp, rfl⟩ := hv.slice
  clear hs hv bx hw hin hc hJ sn
  generalize fromR lo s = L at *
  have hlen : s.length ≤ 1000000 := hn
  clear hn
  go_enter Tryz.func148, Tryz.ntmps148
  go_wp2
  go_loopw [12] (fun i wr => ∃ j : Nat, j ≤ s.length ∧ i = .int .i64 j ∧ J (nums (L.take j)) wr ∧ Hid (IW w0.heap.size B t w0 wr) ∧ Hid (IW w0.heap.size B t w wr)) (fun i _ => s.length - (intOf i).toNat)
  case atStart => exact ⟨0, Nat.zero_le _, rfl, h0, HW, Lib.hid (IW.refl _ _ _ _)⟩
  case round =>
    obtain ⟨j, hj, rfl, hJs, I0, I1⟩ := hrel
    clear h0
    obtain ⟨wo, HWo⟩ : ∃ x, x = wr := ⟨_, rfl⟩
    subst HWo
    by_cases hlt : j < s.length
    · rcases HV.out wo I0.out with ⟨_, _, _, e⟩ | ⟨b0, off, cap, ev, hc, hm, hx⟩
      · rw [e] at hlt; simp at hlt
      cases ev
      obtain ⟨d1, d2⟩ := hx j hlt
      have NTj := NT.out j (by rw [LE.out]; exact hlt)
      have NPj := fun m hm => NP.out j m (by rw [LE.out]; exact hlt) hm
      rw [AT.out j hlt] at NTj NPj
      obtain ⟨h3, h4, h5⟩ := HI.out j hlt
      clear hx hc hm
      obtain ⟨p, q, ee⟩ : ∃ x y, at_ s j = (x, y) := ⟨_, _, rfl⟩
      rw [ee] at d1 d2 h3 h4 h5 NTj NPj
      simp only at d1 d2 h3 h4 h5 NTj NPj
      clear ee
      obtain ⟨m0, hm0⟩ : ∃ m0, max p lo = m0 := ⟨_, rfl⟩
      have g1 : 0 ≤ m0 := by omega
      have g2 : m0 ≤ 3652425 := by omega
      rw [hm0] at NTj NPj
      have NTJ := Lib.hid NTj
      have NPJ := Lib.hid NPj
      have z1 : (j : Int) < (s.length : Int) := by omega
      have hzo := I0.out.size
      clear NTj NPj
      go_wp2
      have kA := fun o => Kp.alloc wo o
      have J3 := fun o => HJ.out _ _ _ hJs (kA o)
      have I3 := Lib.hid (fun o => I0.out.trans (IW.kp (B := B) (t := t) (kA o) hzo))
      have I4 := Lib.hid (fun o => I1.out.trans (IW.kp (B := B) (t := t) (kA o) hzo))
      clear kA
      go_loopw [9] (fun i ws => ∃ m : Nat, m ≤ (q - m0 + 1).toNat ∧ i = .int .i64 (m0 + (m : Int)) ∧ J (nums (L.take j) ++ upF m0 m) ws ∧ Hid (IW w0.heap.size B t w0 ws) ∧ Hid (IW w0.heap.size B t w ws) ∧ Hid (ws.heap[wo.heap.size]? = some (.cells #[.int .i64 p, .int .i64 q] 53))) (fun i _ => (q + 1 - intOf i).toNat)
      case atStart => exact ⟨0, Nat.zero_le _, by simp, by rw [show upF m0 0 = [] from rfl, List.append_nil]; exact J3 _, Lib.hid (I3.out _), Lib.hid (I4.out _), Lib.hid (World.alloc_heap_new _ _)⟩
      case round =>
        obtain ⟨m, hm, rfl, hJm, I5, I6, H6⟩ := hrel
        have c6 := two_cell H6.out
        clear J3 I3 I4 hJs
        by_cases hlm : m0 + (m : Int) ≤ q
        · have q1 : decide (m0 + (m : Int) ≤ q) = true := decide_eq_true hlm
          have hm1 : m + 1 ≤ (q - m0 + 1).toNat := by omega
          have pf := NPJ.out (m + 1) hm1
          rw [upF_succ, ← List.append_assoc] at pf
          have CC := Lib.hid (HC.out _ (m0 + (m : Int)) wr hJm I5.out pf)
          clear hJm pf
          go_wp2_with fail
          go_at_fn g
          refine (CC.out).mono ?_
          rintro e w3 (⟨rfl, hJ5, k5⟩ | ⟨rfl, hQ, k5⟩)
          · have I7 := Lib.hid (I5.out.trans k5)
            have I8 := Lib.hid (I6.out.trans k5)
            have H7 := Lib.hid (k5.two H6.out (by omega) ht1)
            clear k5 CC
            go_wp2
            go_roundw
            case rel => exact ⟨m + 1, hm1, by go_num, by rw [upF_succ, ← List.append_assoc]; exact hJ5, I7, I8, H7⟩
            case measure => simp [intOf]; omega
          · have I8 := Lib.hid (I6.out.trans k5)
            have QQ := Lib.hid hQ
            have PF := Lib.hid (NPJ.out (m + 1) hm1)
            clear k5 CC hQ
            go_wp2
            go_ret
            exact ⟨.inr ⟨rfl, _, PF.out, by rw [upF_succ, ← List.append_assoc]; exact QQ.out⟩, I8.out⟩
        · have q1 : decide (m0 + (m : Int) ≤ q) = false := decide_eq_false hlm
          have em : m = (q - m0 + 1).toNat := by omega
          go_wp2
          go_roundw
          case rel => exact ⟨j + 1, by omega, by go_num, by rw [NTJ.out]; unfold runF; simp only; rw [← em]; exact hJm, I5, I6⟩
          case measure => simp [intOf]; omega
    · obtain rfl : j = s.length := by omega
      rw [show L.take s.length = L by rw [← LE.out]; exact TL.out] at hJs
      have JJ := Lib.hid hJs
      clear hJs
      go_wp2
      go_ret
      exact ⟨.inl ⟨rfl, JJ.out⟩, I1.out⟩
end Go.Proofs.YtjdnejglapnbbaaGreatDoor

namespace Go.Proofs.YtjdnejglapnbbaaGreatDoor
open Go.RowKit
set_option linter.unusedVariables false
set_option linter.unusedSimpArgs false
theorem infoPair : (Tryz.prog.info? 35).map (fun i => (i.zero, i.size, i.bytes)) = some (some (.agg #[.int .i64 0, .int .i64 0]), 2, 16) := by kernel_rfl
theorem boxed_kp {w w' : World} {B : Nat} {t : TypeId} {v : Value} (h : Boxed w B t v) (k : Kp w w') : Boxed w' B t v := (k.block B h.lt).trans h
theorem heap_kp {w w' : World} {b : Nat} {o : Obj} (h : w.heap[b]? = some o) (k : Kp w w') : w'.heap[b]? = some o := (k.block b (Array.getElem?_eq_some_iff.1 h).1).trans h
/-- what has been collected so far -/
def Coll (n0 Bl Bn Ba : Nat) (N : Int) (P : List R) (w : World) : Prop :=
  ∃ v, Boxed w Bl 49 v ∧ w.ownsRow n0 35 2 v P.length (cellsR P) ∧ Boxed w Bn 3 (.int .i64 N) ∧
    Boxed w Ba 154 (.func (.func 147) #[] #[.pointer (some ⟨Bl, 0, none⟩), .pointer (some ⟨Bn, 0, none⟩)]) ∧ n0 ≤ w.heap.size ∧ Bl ≠ Bn ∧ Bl ≠ Ba ∧ N ≤ 1000
theorem Coll.kp {n0 Bl Bn Ba : Nat} {N : Int} {P : List R} {w w' : World} (h : Coll n0 Bl Bn Ba N P w) (k : Kp w w') : Coll n0 Bl Bn Ba N P w' := by
  obtain ⟨v, h1, h2, h3, h4, h5, h6⟩ := h
  exact ⟨v, boxed_kp h1 k, own_kp h2 k, boxed_kp h3 k, boxed_kp h4 k, Nat.le_trans h5 k.size, h6⟩
set_option maxHeartbeats 4000000 in
set_option maxRecDepth 100000 in
theorem add_any {n0 Bl Bn Ba : Nat} {N : Int} {P : List R} (w : World) (p q : Int) (h : Coll n0 Bl Bn Ba N P w) (hP : (P.length : Int) < N) :
    Calls Tryz.prog 147 #[.agg #[.int .i64 p, .int .i64 q], .pointer (some ⟨Bl, 0, none⟩), .pointer (some ⟨Bn, 0, none⟩)] w fun e w' => e = .returned (.bool (decide ((P.length : Int) + 1 < N))) ∧ Coll n0 Bl Bn Ba N (P ++ [(p, q)]) w' ∧ IW n0 Bl 35 w w' := by
  obtain ⟨i0, hi, hz0, hz1, hz2⟩ := info_parts infoPair
  obtain ⟨v, h1, h2, h3, h4, h5, h6, h7, h8⟩ := h
  obtain ⟨a1, c1, rfl⟩ := own_slice h2
  have hsz := h1.lt
  have hsn := h3.lt
  have K0 := Lib.hid (Kp.alloc w (.cells #[.int .i64 p, .int .i64 q] 35))
  have B1 := Lib.hid (boxed_kp h1 K0.out)
  have B2 := Lib.hid (own_kp h2 K0.out)
  have H3 := Lib.hid (boxed_kp h3 K0.out)
  have H4 := Lib.hid (boxed_kp h4 K0.out)
  have hWs : n0 ≤ (w.alloc (.cells #[.int .i64 p, .int .i64 q] 35)).heap.size := Nat.le_trans h5 K0.out.size
  have cl := h1.cell
  have cn := h3.cell
  have zl : ¬ Bl = w.heap.size := by omega
  have zn : ¬ Bn = w.heap.size := by omega
  have hlt : decide ((P.length : Int) < N) = true := decide_eq_true hP
  have OW := Lib.hid (h2)
  clear h1 h2 h3 h4
  go_enter Tryz.func147, Tryz.ntmps147
  go_wp2_with (at_builtin; refine wpList_append_own _ rfl _ _ 49 rfl n0 35 i0 (.agg #[.int .i64 0, .int .i64 0]) 2 16 Tryz.underlying49 hi hz0 hz1 hz2 rfl (by decide) _ _ _ rfl ((OW.out.alloc _).alloc _) ⟨w.heap.size + 1, 0, none⟩ 1 1 [.int .i64 p, .int .i64 q] rfl rfl (cell_two_next _ _ _ _ _) (by intro u hu; simp at hu; rcases hu with rfl | rfl <;> rfl) (by unfold maxLen; omega) (by omega) (by simp; omega) ?_; intro v' w1 hown' hgrow _; obtain ⟨g', cap', rfl⟩ := ownsRow_succ hown'; obtain ⟨hv1, hv2, hr2, hk2⟩ := iw_appended B1.out (by decide) B2.out hWs hown' hgrow; have hc1 := hv1.cell; have hf1 := hv1.frozen; have e3 := hk2.boxed H3.out (fun e => h6 e.symm) (by decide); have d1 := hv2.cell; have d3 := e3.cell; have e4 := Lib.hid (hk2.boxed H4.out (fun e => h7 e.symm) (by decide)); have E3 := Lib.hid e3; have V2 := Lib.hid hv2; have R2 := Lib.hid hr2; have I2 := Lib.hid hk2; clear hv1 hv2 hr2 hk2 e3 hown' hgrow)
  go_ret
  exact ⟨rfl, ⟨_, V2.out, own_snoc R2.out, E3.out, e4.out, Nat.le_trans hWs I2.out.size, h6, h7, h8⟩, (IW.kp K0.out h5).trans I2.out⟩
set_option maxHeartbeats 4000000 in
set_option maxRecDepth 100000 in
theorem clo2_any {n0 Bl Bn Ba : Nat} {N : Int} {P : List R} (w : World) (i k : Int) (ad : Option Addr) (n c Bg : Nat) (h : Coll n0 Bl Bn Ba N P w) (hP : (P.length : Int) < N)
    (hg : w.heap[Bg]? = some (.cells #[.int .i64 k, .slice ad n c] 99 (0, 0))) (hb : Bg ≠ Bl) (T : Tabs w) :
    Calls Tryz.prog 149 #[.int .i64 i, .pointer (some ⟨Ba, 0, none⟩), .pointer (some ⟨Bg, 0, none⟩)] w fun e w' => e = .returned (.bool (decide ((P.length : Int) + 1 < N))) ∧ Coll n0 Bl Bn Ba N (P ++ [(firV k i, lasV k i)]) w' ∧ IW n0 Bl 35 w w' := by
  have AD := Lib.hid (fun w1 p q (kk : Kp w w1) => add_any w1 p q (h.kp kk) hP)
  have PA := Lib.hid (fun w1 (kk : Kp w w1) => pair_any k ad n c i w1 (T.kp kk))
  generalize firV k i = x at *
  generalize lasV k i = y at *
  obtain ⟨v, h1, h2, h3, h4, h5, h6, h7, h8⟩ := h
  obtain ⟨d, hd⟩ : ∃ d, decide ((P.length : Int) + 1 < N) = d := ⟨_, rfl⟩
  rw [hd] at AD ⊢
  have c0 := h4.cell
  have c1 := two_cell0 hg
  have c2 := two_cell hg
  have KS := Lib.hid (fun w' (k1 : IW n0 Bl 35 w w') => show w'.cell? ⟨Ba, 0, none⟩ = some (.func (.func 147) #[] #[.pointer (some ⟨Bl, 0, none⟩), .pointer (some ⟨Bn, 0, none⟩)]) ∧ w'.cell? ⟨Bg, 0, none⟩ = some (.int .i64 k) ∧ w'.cell? ⟨Bg, 1, none⟩ = some (.slice ad n c) ∧ IW n0 Bl 35 w w' from
    ⟨(k1.boxed h4 (fun e => h7 e.symm) (by decide)).cell, two_cell0 (k1.two hg hb (by decide)), two_cell (k1.two hg hb (by decide)), k1⟩)
  clear hd h1 h2 h3 h4 hg T h6 h7 h8
  go_enter Tryz.func149, Tryz.ntmps149
  go_wp2_with fail
  go_region_held3 (fun w' => w'.cell? ⟨Ba, 0, none⟩ = some (.func (.func 147) #[] #[.pointer (some ⟨Bl, 0, none⟩), .pointer (some ⟨Bn, 0, none⟩)]) ∧ w'.cell? ⟨Bg, 0, none⟩ = some (.int .i64 k) ∧ w'.cell? ⟨Bg, 1, none⟩ = some (.slice ad n c) ∧ IW n0 Bl 35 w w') (first | exact KS.out _ (by first | assumption | exact IW.kp (Kp.drew _) h5))
    (first | (go_at_call 137; refine (PA.out _ (Kp.drew _)).mono ?_; rintro e w' ⟨rfl, k1⟩; have k2 := (Kp.drew w).trans k1; have i2 := IW.kp (B := Bl) (t := 35) k2 h5; clear k1) | (go_at_call 147; refine (AD.out _ _ _ k2).mono ?_; rintro e w' ⟨rfl, hC, k5⟩; have HC := Lib.hid hC; have i3 := i2.trans k5; clear k5 hC))
  have I3 := Lib.hid i3
  clear i3 i2 k2
  go_wp2
  go_ret
  exact ⟨rfl, HC.out, I3.out⟩
set_option maxHeartbeats 4000000 in
set_option maxRecDepth 100000 in
theorem clo31_any {n0 Bl Bn Ba : Nat} {N : Int} {P : List R} (w : World) (x y : Int) (Bs : Nat) (h : Coll n0 Bl Bn Ba N P w) (hP : (P.length : Int) < N) (hs : Boxed w Bs 3 (.int .i64 x)) :
    Calls Tryz.prog 151 #[.int .i64 y, .pointer (some ⟨Ba, 0, none⟩), .pointer (some ⟨Bs, 0, none⟩)] w fun e w' => e = .returned (.bool (decide ((P.length : Int) + 1 < N))) ∧ Coll n0 Bl Bn Ba N (P ++ [(x, y)]) w' ∧ IW n0 Bl 35 w w' := by
  have AD := Lib.hid (add_any w x y h hP)
  obtain ⟨v, h1, h2, h3, h4, h5, h6, h7, h8⟩ := h
  obtain ⟨d, hd⟩ : ∃ d, decide ((P.length : Int) + 1 < N) = d := ⟨_, rfl⟩
  rw [hd] at AD ⊢
  have c0 := h4.cell
  have c1 := hs.cell
  clear hd h1 h2 h3 h4 hs h6 h7 h8
  go_enter Tryz.func151, Tryz.ntmps151
  go_wp2_with fail
  refine (AD.out).mono ?_
  rintro e w1 ⟨rfl, hC, k5⟩
  have HC := Lib.hid hC
  have I3 := Lib.hid k5
  clear hC k5
  go_wp2
  go_ret
  exact ⟨rfl, HC.out, I3.out⟩
end Go.Proofs.YtjdnejglapnbbaaGreatDoor

namespace Go.Proofs.YtjdnejglapnbbaaGreatDoor
open Go.RowKit
set_option linter.unusedVariables false
set_option linter.unusedSimpArgs false
/-- the pairs of one start -/
def rowP (e : List R) (x : Int) : List (Int × Int) := (nums (fromR x e)).map fun t => (x, t)
theorem pairsF_span (s e : List R) : pairsF (.span s e) = (nums s).flatMap (rowP e) := by
  unfold pairsF rowP
  simp only [nums_from]
set_option maxHeartbeats 4000000 in
set_option maxRecDepth 100000 in
theorem clo3_any {Bl Bn Ba : Nat} {N : Int} {P : List R} (w0 w : World) (x : Int) (s e : List R) (ad bd : Option Addr) (n c d Bg : Nat) (tl : TypeId) (u : Value)
    (h : Coll w0.heap.size Bl Bn Ba N P w) (hP : (P.length : Int) < N) (h0 : 0 ≤ x) (h1 : x ≤ 3652425)
    (hg : w.heap[Bg]? = some (.cells #[.slice ad n c, .slice bd e.length d] 102 (0, 0))) (hb : Bg ≠ Bl) (hbl : Bl < w0.heap.size)
    (he : RunsAt w0 (.slice bd e.length d) e) (hs : setB 0 e = true) (hl : e.length ≤ 1000000) (bx : Boxed w0 Bl tl u) (hw : IW w0.heap.size Bl 35 w0 w) :
    Calls Tryz.prog 150 #[.int .i64 x, .pointer (some ⟨Bg, 0, none⟩), .pointer (some ⟨Ba, 0, none⟩)] w fun r w' =>
      ((r = .returned (.bool true) ∧ Coll w0.heap.size Bl Bn Ba N (P ++ rowP e x) w' ∧ ((P ++ rowP e x).length : Int) < N) ∨ (r = .returned (.bool false) ∧ ∃ Q, Q <+: rowP e x ∧ Coll w0.heap.size Bl Bn Ba N (P ++ Q) w' ∧ ((P ++ Q).length : Int) = N)) ∧ IW w0.heap.size Bl 35 w w' := by
  have hz : w0.heap.size ≤ w.heap.size := hw.size
  have kA := Kp.alloc w (.cells #[.int .i64 x] 3)
  have bS : Boxed (w.alloc (.cells #[.int .i64 x] 3)) w.heap.size 3 (.int .i64 x) := Boxed.new _ _ _
  have L := Lib.hid (leach_any 151 #[.pointer (some ⟨Ba, 0, none⟩), .pointer (some ⟨w.heap.size, 0, none⟩)] Bl 35 tl u _ e x
    (fun pre w' => Coll w0.heap.size Bl Bn Ba N (P ++ pre.map fun t => (x, t)) w' ∧ ((P ++ pre.map fun t => (x, t)).length : Int) < N ∧ Boxed w' w.heap.size 3 (.int .i64 x))
    (fun pre w' => Coll w0.heap.size Bl Bn Ba N (P ++ pre.map fun t => (x, t)) w' ∧ ((P ++ pre.map fun t => (x, t)).length : Int) = N)
    w0 (w.alloc (.cells #[.int .i64 x] 3)) (enters_of Tryz.func151 (by kernel_rfl) rfl) he bx (hw.trans (IW.kp kA hz)) hs hl h0 h1 (by decide)
    (fun pre w1 w2 ⟨a, b, c⟩ k => ⟨a.kp k, b, boxed_kp c k⟩)
    ⟨by simpa using h.kp kA, by simpa using hP, bS⟩
    (fun pre y w1 ⟨a, b, c⟩ iw hp => by
      refine (clo31_any w1 x y w.heap.size a b c).mono ?_
      rintro r w2 ⟨rfl, q, k⟩
      rw [List.append_assoc, show (pre.map fun t => (x, t)) ++ [(x, y)] = (pre ++ [y]).map fun t => (x, t) by simp] at q
      by_cases hd : ((P ++ pre.map fun t => (x, t)).length : Int) + 1 < N
      · refine .inl ⟨by rw [decide_eq_true hd], ⟨q, by simp only [List.length_append, List.length_map, List.length_singleton] at hd ⊢; omega, k.boxed c (by omega) (by decide)⟩, k⟩
      · refine .inr ⟨by rw [decide_eq_false hd], ⟨q, by simp only [List.length_append, List.length_map, List.length_singleton] at hd b ⊢; omega⟩, k⟩))
  have c0 := two_cell (heap_kp hg kA)
  have c1 := bS.cell
  have KA := Lib.hid kA
  clear kA bS h hg he bx hw
  go_enter Tryz.func150, Tryz.ntmps150
  go_wp2_with fail
  refine (L.out).mono ?_
  rintro r w1 ⟨hE, k1⟩
  have I1 := Lib.hid ((IW.kp KA.out hz).trans k1)
  clear k1
  rcases hE with ⟨rfl, a, b, _⟩ | ⟨rfl, pre, hp, a, b⟩
  · have A1 := Lib.hid a
    have B1 := Lib.hid b
    clear a b
    go_wp2
    go_ret
    exact ⟨.inl ⟨rfl, A1.out, B1.out⟩, I1.out⟩
  · have A1 := Lib.hid a
    have B1 := Lib.hid b
    have P1 := Lib.hid hp
    clear a b hp
    go_wp2
    go_ret
    exact ⟨.inr ⟨rfl, _, P1.out.map _, A1.out, B1.out⟩, I1.out⟩
/-- how collecting ends -/
theorem coll_end {α : Type} {L : List α} {N : Nat} {P : List α} (h : P <+: L) (g : (P.length < N ∧ P = L) ∨ P.length = N) : P = L.take N := by
  rcases g with ⟨a, rfl⟩ | a
  · rw [List.take_of_length_le (by omega)]
  · exact (prefix_take h a).symm
theorem setB_zero {k : Int} {s : List R} (h : setB k s = true) : setB 0 s = true := setB_of (setB_sane h) fun n m => by
  have := setB_mem h m
  have := cnt_bd k
  rw [cnt_zero]
  omega
set_option maxHeartbeats 8000000 in
set_option maxRecDepth 100000 in
theorem leafPairs_units (f : LF) (va vb : Value) (n : Int) (w : World) (h : LeafOk w f va vb) (T : Tabs w) (hn : 1 ≤ n) {k : Int} {s : List R} (hF : famR f = .units k s) :
    Calls Tryz.prog 80 #[leafV f va vb, .int .i64 n] w fun e w' => ∃ v, e = .returned v ∧ w'.ownsRow w.heap.size 35 2 v ((pairsF (famR f)).take (min n 1000).toNat).length (cellsR ((pairsF (famR f)).take (min n 1000).toNat)) ∧ Kp w w' := by
  have C := Lib.hid (fun w1 (kk : Kp w w1) => fam_any f va vb w1 (h.kp kk) (T.kp kk).2)
  have FK := famR_ok f
  have FL := famR_len h.na h.nb
  rw [hF] at C FK FL ⊢
  obtain ⟨sp, u, a, b⟩ := f
  obtain ⟨ad, ca, rfl⟩ := h.a.slice
  obtain ⟨bd, cb, rfl⟩ := h.b.slice
  unfold leafV at C ⊢
  simp only at C ⊢
  have TT := Lib.hid T
  clear h T hF
  obtain ⟨N, hN⟩ : ∃ N, min n 1000 = N := ⟨_, rfl⟩
  have hN1 : 1 ≤ N := by omega
  have hN2 : N ≤ 1000 := by omega
  have gN : decide (N < 1) = false := decide_eq_false (by omega)
  obtain ⟨We, hWe⟩ : ∃ x, x = (((w.alloc (.cells #[.bool sp, .int .i64 u, .slice ad a.length ca, .slice bd b.length cb] 47)).alloc (.cells #[.int .i64 N] 3)).alloc (.cells #[.slice none 0 0] 49)).alloc (.cells #[.func (.func 147) #[] #[.pointer (some ⟨w.heap.size + 1 + 1, 0, none⟩), .pointer (some ⟨w.heap.size + 1, 0, none⟩)]] 154) := ⟨_, rfl⟩
  have sWe : We.heap.size = w.heap.size + 4 := by rw [hWe]; simp
  have kE : Kp w We := by rw [hWe]; exact (((Kp.alloc _ _).trans (Kp.alloc _ _)).trans (Kp.alloc _ _)).trans (Kp.alloc _ _)
  have bn : Boxed We (w.heap.size + 1) 3 (.int .i64 N) := by rw [hWe]; exact ((Boxed.at' _ _ _ _ (by simp)).alloc _).alloc _
  have bl : Boxed We (w.heap.size + 1 + 1) 49 (.slice none 0 0) := by rw [hWe]; exact (Boxed.at' _ _ _ _ (by simp)).alloc _
  have ba : Boxed We (w.heap.size + 1 + 1 + 1) 154 (.func (.func 147) #[] #[.pointer (some ⟨w.heap.size + 1 + 1, 0, none⟩), .pointer (some ⟨w.heap.size + 1, 0, none⟩)]) := by rw [hWe]; exact Boxed.at' _ _ _ _ (by simp)
  have HWe := Lib.hid hWe
  have KE := Lib.hid kE
  have BN := Lib.hid bn
  have BL := Lib.hid bl
  have BA := Lib.hid ba
  have SZ := Lib.hid sWe
  clear hWe kE bn bl ba sWe
  have h1 := asUU
  have h2 := asSU
  have h3 := asSS
  go_enter Tryz.func80, Tryz.ntmps80
  go_wp2_with fail
  rw [← HWe.out]
  refine (C.out _ KE.out).mono ?_
  rintro e w1 ⟨v, rfl, ⟨ad1, c1, rfl, RS⟩, kk⟩
  obtain ⟨W0, hW0⟩ : ∃ x, x = w1.alloc (.cells #[.int .i64 k, .slice ad1 s.length c1] 99) := ⟨_, rfl⟩
  have k0 : Kp We W0 := by rw [hW0]; exact kk.trans (Kp.alloc _ _)
  have k1 : Kp w1 W0 := by rw [hW0]; exact Kp.alloc _ _
  have s1 := kk.size
  have s0 : W0.heap.size = w1.heap.size + 1 := by rw [hW0]; simp
  have gG : W0.heap[w1.heap.size]? = some (.cells #[.int .i64 k, .slice ad1 s.length c1] 99 (0, 0)) := by rw [hW0]; exact World.alloc_heap_new _ _
  rw [SZ.out] at s1
  have L := Lib.hid (leach_any 149 #[.pointer (some ⟨w.heap.size + 1 + 1 + 1, 0, none⟩), .pointer (some ⟨w1.heap.size, 0, none⟩)] (w.heap.size + 1 + 1) 35 49 (.slice none 0 0) _ s 0
    (fun pre w' => Coll W0.heap.size (w.heap.size + 1 + 1) (w.heap.size + 1) (w.heap.size + 1 + 1 + 1) N (pre.map fun i => (firV k i, lasV k i)) w' ∧ (pre.length : Int) < N ∧ w'.heap[w1.heap.size]? = some (.cells #[.int .i64 k, .slice ad1 s.length c1] 99 (0, 0)))
    (fun pre w' => Coll W0.heap.size (w.heap.size + 1 + 1) (w.heap.size + 1) (w.heap.size + 1 + 1 + 1) N (pre.map fun i => (firV k i, lasV k i)) w' ∧ (pre.length : Int) = N)
    W0 W0 (enters_of Tryz.func149 (by kernel_rfl) rfl) (RS.kp k1) (boxed_kp BL.out k0) (IW.refl _ _ _ _) (setB_zero FK) (Nat.le_trans FL (by omega)) (by omega) (by omega) (by decide)
    (fun pre w1 w2 ⟨a, b, c⟩ k => ⟨a.kp k, b, heap_kp c k⟩)
    ⟨⟨_, boxed_kp BL.out k0, World.ownsRow_nil _ _ _ _, boxed_kp BN.out k0, boxed_kp BA.out k0, Nat.le_refl _, by omega, by omega, hN2⟩, by simp; omega, gG⟩
    (fun pre y w2 ⟨a, b, c⟩ iw hp => by
      refine (clo2_any w2 y k ad1 s.length c1 w1.heap.size a (by simpa using b) c (by omega) (TT.out.kp (iw.keeps (KE.out.trans k0) (by omega) (by omega)))).mono ?_
      rintro r w3 ⟨rfl, q, kq⟩
      rw [show (pre.map fun i => (firV k i, lasV k i)) ++ [(firV k y, lasV k y)] = (pre ++ [y]).map fun i => (firV k i, lasV k i) by simp] at q
      by_cases hd : ((pre.map fun i => (firV k i, lasV k i)).length : Int) + 1 < N
      · refine .inl ⟨by rw [decide_eq_true hd], ⟨q, by simp only [List.length_append, List.length_map, List.length_singleton] at hd ⊢; omega, kq.two c (by omega) (by decide)⟩, kq⟩
      · refine .inr ⟨by rw [decide_eq_false hd], ⟨q, by simp only [List.length_append, List.length_map, List.length_singleton] at hd b ⊢; omega⟩, kq⟩))
  have hW := Lib.hid hW0
  have K0 := Lib.hid (KE.out.trans k0)
  have Z1 : w.heap.size ≤ W0.heap.size := by omega
  have NF := Lib.hid (nums_from0 FK)
  have e9 := World.alloc_heap_new w1 (.cells #[.int .i64 k, .slice ad1 s.length c1] 99)
  clear hW0 k0 k1 s1 s0 gG RS kk C BL BN BA e9
  go_wp2_with fail
  rw [← hW.out]
  refine (L.out).mono ?_
  rintro r w2 ⟨hE, iw⟩
  obtain ⟨P, hP, hC⟩ : ∃ P, P = (pairsF (.units k s)).take N.toNat ∧ Coll W0.heap.size (w.heap.size + 1 + 1) (w.heap.size + 1) (w.heap.size + 1 + 1 + 1) N P w2 := by
    rw [show pairsF (.units k s) = (nums s).map fun i => (firV k i, lasV k i) from rfl]
    rcases hE with ⟨_, a, b, _⟩ | ⟨_, pre, hp, a, b⟩
    · rw [NF.out] at a b
      exact ⟨_, coll_end List.prefix_rfl (.inl ⟨by rw [List.length_map]; omega, rfl⟩), a⟩
    · rw [NF.out] at hp
      exact ⟨_, coll_end (hp.map _) (.inr (by rw [List.length_map]; omega)), a⟩
  have KK := Lib.hid (iw.keeps K0.out (by omega) Z1)
  obtain ⟨v, q1, q2, _⟩ := hC
  have cl := q1.cell
  have Q2 := Lib.hid q2
  have HP := Lib.hid hP
  have hr : ∃ bb, r = .returned (.bool bb) := by
    rcases hE with ⟨rfl, _⟩ | ⟨rfl, _⟩
    · exact ⟨_, rfl⟩
    · exact ⟨_, rfl⟩
  obtain ⟨bb, rfl⟩ := hr
  clear hE iw q1 q2 hP L
  obtain ⟨av, cv, rfl⟩ := own_slice Q2.out
  go_wp2
  go_ret
  rw [hN, ← HP.out]
  exact ⟨_, rfl, own_mono Q2.out Z1, KK.out⟩
set_option maxHeartbeats 8000000 in
set_option maxRecDepth 100000 in
theorem leafPairs_span (f : LF) (va vb : Value) (n : Int) (w : World) (h : LeafOk w f va vb) (T : Tabs w) (hn : 1 ≤ n) {s e : List R} (hF : famR f = .span s e) :
    Calls Tryz.prog 80 #[leafV f va vb, .int .i64 n] w fun e w' => ∃ v, e = .returned v ∧ w'.ownsRow w.heap.size 35 2 v ((pairsF (famR f)).take (min n 1000).toNat).length (cellsR ((pairsF (famR f)).take (min n 1000).toNat)) ∧ Kp w w' := by
  have C := Lib.hid (fun w1 (kk : Kp w w1) => fam_any f va vb w1 (h.kp kk) (T.kp kk).2)
  have FK := famR_ok f
  have FL := famR_len h.na h.nb
  rw [hF] at C FK FL ⊢
  obtain ⟨sp, u, a, b⟩ := f
  obtain ⟨ad, ca, rfl⟩ := h.a.slice
  obtain ⟨bd, cb, rfl⟩ := h.b.slice
  unfold leafV at C ⊢
  simp only at C ⊢
  have TT := Lib.hid T
  clear h T hF
  obtain ⟨N, hN⟩ : ∃ N, min n 1000 = N := ⟨_, rfl⟩
  have hN1 : 1 ≤ N := by omega
  have hN2 : N ≤ 1000 := by omega
  have gN : decide (N < 1) = false := decide_eq_false (by omega)
  obtain ⟨We, hWe⟩ : ∃ x, x = (((w.alloc (.cells #[.bool sp, .int .i64 u, .slice ad a.length ca, .slice bd b.length cb] 47)).alloc (.cells #[.int .i64 N] 3)).alloc (.cells #[.slice none 0 0] 49)).alloc (.cells #[.func (.func 147) #[] #[.pointer (some ⟨w.heap.size + 1 + 1, 0, none⟩), .pointer (some ⟨w.heap.size + 1, 0, none⟩)]] 154) := ⟨_, rfl⟩
  have sWe : We.heap.size = w.heap.size + 4 := by rw [hWe]; simp
  have kE : Kp w We := by rw [hWe]; exact (((Kp.alloc _ _).trans (Kp.alloc _ _)).trans (Kp.alloc _ _)).trans (Kp.alloc _ _)
  have bn : Boxed We (w.heap.size + 1) 3 (.int .i64 N) := by rw [hWe]; exact ((Boxed.at' _ _ _ _ (by simp)).alloc _).alloc _
  have bl : Boxed We (w.heap.size + 1 + 1) 49 (.slice none 0 0) := by rw [hWe]; exact (Boxed.at' _ _ _ _ (by simp)).alloc _
  have ba : Boxed We (w.heap.size + 1 + 1 + 1) 154 (.func (.func 147) #[] #[.pointer (some ⟨w.heap.size + 1 + 1, 0, none⟩), .pointer (some ⟨w.heap.size + 1, 0, none⟩)]) := by rw [hWe]; exact Boxed.at' _ _ _ _ (by simp)
  have HWe := Lib.hid hWe
  have KE := Lib.hid kE
  have BN := Lib.hid bn
  have BL := Lib.hid bl
  have BA := Lib.hid ba
  have SZ := Lib.hid sWe
  clear hWe kE bn bl ba sWe
  have h1 := asUU
  have h2 := asSU
  have h3 := asSS
  go_enter Tryz.func80, Tryz.ntmps80
  go_wp2_with fail
  rw [← HWe.out]
  refine (C.out _ KE.out).mono ?_
  rintro r w1 ⟨v, rfl, ⟨ad1, c1, bd1, d1, rfl, RS, RT⟩, kk⟩
  obtain ⟨W0, hW0⟩ : ∃ x, x = w1.alloc (.cells #[.slice ad1 s.length c1, .slice bd1 e.length d1] 102) := ⟨_, rfl⟩
  have k0 : Kp We W0 := by rw [hW0]; exact kk.trans (Kp.alloc _ _)
  have k1 : Kp w1 W0 := by rw [hW0]; exact Kp.alloc _ _
  have s1 := kk.size
  have s0 : W0.heap.size = w1.heap.size + 1 := by rw [hW0]; simp
  have gG : W0.heap[w1.heap.size]? = some (.cells #[.slice ad1 s.length c1, .slice bd1 e.length d1] 102 (0, 0)) := by rw [hW0]; exact World.alloc_heap_new _ _
  rw [SZ.out] at s1
  have NF := nums_from0 FK.1
  have L := Lib.hid (leach_any 150 #[.pointer (some ⟨w1.heap.size, 0, none⟩), .pointer (some ⟨w.heap.size + 1 + 1 + 1, 0, none⟩)] (w.heap.size + 1 + 1) 35 49 (.slice none 0 0) _ s 0
    (fun pre w' => Coll W0.heap.size (w.heap.size + 1 + 1) (w.heap.size + 1) (w.heap.size + 1 + 1 + 1) N (pre.flatMap (rowP e)) w' ∧ ((pre.flatMap (rowP e)).length : Int) < N ∧ w'.heap[w1.heap.size]? = some (.cells #[.slice ad1 s.length c1, .slice bd1 e.length d1] 102 (0, 0)))
    (fun pre w' => ∃ P, P <+: (nums s).flatMap (rowP e) ∧ Coll W0.heap.size (w.heap.size + 1 + 1) (w.heap.size + 1) (w.heap.size + 1 + 1 + 1) N P w' ∧ (P.length : Int) = N)
    W0 W0 (enters_of Tryz.func150 (by kernel_rfl) rfl) (RS.kp k1) (boxed_kp BL.out k0) (IW.refl _ _ _ _) FK.1 (Nat.le_trans FL.1 (by omega)) (by omega) (by omega) (by decide)
    (fun pre w1 w2 ⟨a, b, c⟩ k => ⟨a.kp k, b, heap_kp c k⟩)
    ⟨⟨_, boxed_kp BL.out k0, World.ownsRow_nil _ _ _ _, boxed_kp BN.out k0, boxed_kp BA.out k0, Nat.le_refl _, by omega, by omega, hN2⟩, by simp; omega, gG⟩
    (fun pre y w2 ⟨a, b, c⟩ iw hp => by
      rw [NF] at hp
      have hy : y ∈ nums s := hp.subset (by simp)
      rw [nums_mem (sane_ok (setB_sane FK.1))] at hy
      have hy2 := setB_mem FK.1 hy
      rw [cnt_zero] at hy2
      refine (clo3_any W0 w2 y s e ad1 bd1 s.length c1 d1 w1.heap.size 49 (.slice none 0 0) a b hy2.1 (by omega) c (by omega) (by omega) (RT.kp k1) FK.2.1 (Nat.le_trans FL.2 (by omega)) (boxed_kp BL.out k0) iw).mono ?_
      rintro r w3 ⟨hr, kq⟩
      rcases hr with ⟨rfl, q, hq⟩ | ⟨rfl, Q, hQ, q, hq⟩
      · refine .inl ⟨rfl, ⟨by rw [List.flatMap_append]; simpa using q, by rw [List.flatMap_append]; simpa using hq, (kq.two c (by omega) (by decide))⟩, kq⟩
      · exact .inr ⟨rfl, ⟨_, flatMap_part hp hQ, q, hq⟩, kq⟩))
  have hW := Lib.hid hW0
  have K0 := Lib.hid (KE.out.trans k0)
  have Z1 : w.heap.size ≤ W0.heap.size := by omega
  clear hW0 k0 k1 s1 s0 gG RS RT kk C BL BN BA
  go_wp2_with fail
  rw [← hW.out]
  refine (L.out).mono ?_
  rintro r w2 ⟨hE, iw⟩
  obtain ⟨P, hP, hC⟩ : ∃ P, P = (pairsF (.span s e)).take N.toNat ∧ Coll W0.heap.size (w.heap.size + 1 + 1) (w.heap.size + 1) (w.heap.size + 1 + 1 + 1) N P w2 := by
    rw [pairsF_span]
    rcases hE with ⟨_, a, b, _⟩ | ⟨_, pre, hp, Q, hQ, a, b⟩
    · rw [NF] at a b
      exact ⟨_, coll_end List.prefix_rfl (.inl ⟨by omega, rfl⟩), a⟩
    · exact ⟨_, coll_end hQ (.inr (by omega)), a⟩
  have KK := Lib.hid (iw.keeps K0.out (by omega) Z1)
  obtain ⟨v, q1, q2, _⟩ := hC
  have cl := q1.cell
  have Q2 := Lib.hid q2
  have HP := Lib.hid hP
  have hr : ∃ bb, r = .returned (.bool bb) := by
    rcases hE with ⟨rfl, _⟩ | ⟨rfl, _⟩
    · exact ⟨_, rfl⟩
    · exact ⟨_, rfl⟩
  obtain ⟨bb, rfl⟩ := hr
  clear hE iw q1 q2 hP L NF
  obtain ⟨av, cv, rfl⟩ := own_slice Q2.out
  go_wp2
  go_ret
  rw [hN, ← HP.out]
  exact ⟨_, rfl, own_mono Q2.out Z1, KK.out⟩
set_option maxHeartbeats 1000000 in
theorem leafPairs_no (f : LF) (va vb : Value) (n : Int) (w : World) (h : LeafOk w f va vb) (hn : n < 1) :
    Calls Tryz.prog 80 #[leafV f va vb, .int .i64 n] w fun e w' => ∃ v, e = .returned v ∧ w'.ownsRow w.heap.size 35 2 v ((pairsF (famR f)).take (min n 1000).toNat).length (cellsR ((pairsF (famR f)).take (min n 1000).toNat)) ∧ Kp w w' := by
  rw [show (min n 1000).toNat = 0 by omega, List.take_zero]
  obtain ⟨sp, u, a, b⟩ := f
  obtain ⟨ad, ca, rfl⟩ := h.a.slice
  obtain ⟨bd, cb, rfl⟩ := h.b.slice
  unfold leafV
  simp only
  clear h
  obtain ⟨N, hN⟩ : ∃ N, min n 1000 = N := ⟨_, rfl⟩
  have gN : decide (N < 1) = true := decide_eq_true (by omega)
  go_enter Tryz.func80, Tryz.ntmps80
  go_wp2
  go_ret
  exact ⟨_, rfl, World.ownsRow_nil _ _ _ _, (((Kp.alloc _ _).trans (Kp.alloc _ _)).trans (Kp.alloc _ _)).trans (Kp.alloc _ _)⟩
theorem leafPairs_any (f : LF) (va vb : Value) (n : Int) (w : World) (h : LeafOk w f va vb) (T : Tabs w) :
    Calls Tryz.prog 80 #[leafV f va vb, .int .i64 n] w fun e w' => ∃ v, e = .returned v ∧ w'.ownsRow w.heap.size 35 2 v ((pairsF (famR f)).take (min n 1000).toNat).length (cellsR ((pairsF (famR f)).take (min n 1000).toNat)) ∧ Kp w w' := by
  by_cases hn : n < 1
  · exact leafPairs_no f va vb n w h hn
  · cases e : famR f with
    | units k s => have := leafPairs_units f va vb n w h T (by omega) e; rwa [e] at this
    | span s t => have := leafPairs_span f va vb n w h T (by omega) e; rwa [e] at this
end Go.Proofs.YtjdnejglapnbbaaGreatDoor

namespace Go.Proofs.YtjdnejglapnbbaaGreatDoor
set_option linter.unusedVariables false
set_option linter.unusedSimpArgs false
theorem hasF_le {F : Fam} (h : FOK F) {S T : Int} (g : hasF F S T = true) : S ≤ T ∧ 0 ≤ S ∧ T ≤ 3652424 := by
  cases F with
  | units k s =>
    obtain ⟨i, m, rfl, rfl⟩ := (hasF_units h S T).1 g
    obtain ⟨a, b⟩ := setB_mem h m
    have := span_bd a b
    omega
  | span s e =>
    obtain ⟨a, b, c⟩ := (hasF_span (setB_sane h.1) (setB_sane h.2.1) S T).1 g
    have := setB_mem h.1 b
    have := setB_mem h.2.1 c
    rw [cnt_zero] at *
    omega
theorem hasF_sp {f : LF} (h : leafB f = true) (hs : f.sp = true) (S T : Int) : hasF (famR f) S T = true ↔ S ≤ T ∧ memR f.a S ∧ memR f.b T := by
  obtain ⟨_, ha, hb⟩ := leafB_span h hs
  by_cases h0 : f.a.length = 0 ∨ f.b.length = 0
  · rw [famR_none h hs h0, hasF_span (s := []) (e := []) trivial trivial]
    constructor
    · rintro ⟨_, m, _⟩; exact absurd m (memR_nil _)
    · rintro ⟨_, m, n⟩
      have := mem_pos m
      have := mem_pos n
      omega
  · rw [famR_span h hs h0, hasF_span (interR_sane _ _) (interR_sane _ _)]
    have sm := span_mem h hs h0
    rw [(sm S).1, (sm T).2]
    constructor
    · rintro ⟨a, b, c⟩; exact ⟨a, b.1, c.1⟩
    · rintro ⟨a, b, c⟩
      have := great_max (setB_sane hb) c
      have := least_min (setB_sane ha) b
      exact ⟨a, ⟨b, by omega⟩, c, by omega⟩
theorem hasF_un {f : LF} (h : leafB f = true) (hs : f.sp = false) (S T : Int) : hasF (famR f) S T = true ↔ ∃ i, memR f.a i ∧ fst f.u i = S ∧ lst f.u i = T := by
  rw [famR_units h hs]
  exact hasF_units (leafB_units h hs).2.1 S T
end Go.Proofs.YtjdnejglapnbbaaGreatDoor

namespace Go.Proofs.YtjdnejglapnbbaaGreatDoor
open Go.RowKit
set_option linter.unusedVariables false
set_option linter.unusedSimpArgs false
def fewB (f : LF) : Bool := decide (f.a.length ≤ 40) && decide (f.b.length ≤ 40)
set_option maxHeartbeats 1000000 in
theorem few_any (f : LF) (va vb : Value) (w : World) (ra : RunsAt w va f.a) (rb : RunsAt w vb f.b) :
    Calls Tryz.prog 53 #[leafV f va vb] w fun e w' => e = .returned (.bool (fewB f)) ∧ Kp w w' := by
  obtain ⟨sp, u, a, b⟩ := f
  obtain ⟨ad, ca, rfl⟩ := ra.slice
  obtain ⟨bd, cb, rfl⟩ := rb.slice
  rw [show fewB ⟨sp, u, a, b⟩ = (decide (a.length ≤ 40) && decide (b.length ≤ 40)) from rfl]
  unfold leafV
  simp only
  clear ra rb
  have E : ∀ n : Nat, decide ((n : Int) ≤ 40) = decide (n ≤ 40) := fun n => by
    by_cases h : n ≤ 40
    · rw [decide_eq_true h, decide_eq_true (by omega)]
    · rw [decide_eq_false h, decide_eq_false (by omega)]
  have e1 := E a.length
  have e2 := E b.length
  generalize decide (a.length ≤ 40) = x at *
  generalize decide (b.length ≤ 40) = y at *
  clear E
  cases x
  all_goals
    go_enter Tryz.func53, Tryz.ntmps53
    go_wp2
    go_ret
    exact ⟨by simp [e2], Kp.alloc _ _⟩
theorem fewB_yes {f : LF} (h : fewB f = true) : f.a.length ≤ 40 ∧ f.b.length ≤ 40 := by
  unfold fewB at h
  simpa using h
end Go.Proofs.YtjdnejglapnbbaaGreatDoor

namespace Go.Proofs.YtjdnejglapnbbaaGreatDoor
open Go.RowKit
set_option linter.unusedVariables false
set_option linter.unusedSimpArgs false
end Go.Proofs.YtjdnejglapnbbaaGreatDoor
