import Derived.Test.YtcooaoponkkpeaaGreatDoorJS
import Derived.Test.YtcooaoponkkpeaaGreatDoorRlR
import Derived.Test.YtcooaoponkkpeaaGreatDoorJF
import Derived.Test.YtcooaoponkkpeaaGreatDoorJB
namespace Go.Proofs.YtcooaoponkkpeaaGreatDoor
open Go.RowKit
set_option linter.unusedVariables false
set_option linter.unusedSimpArgs false
abbrev OV := LO × VV
def cellsO (l : List OV) : List Value := l.flatMap fun p => [.bool p.1.1, p.2.1, p.2.2]
theorem cellsO_append (l m : List OV) : cellsO (l ++ m) = cellsO l ++ cellsO m := by unfold cellsO; simp
structure Own1 (w : World) (base n : Nat) (rs : Nat → RowD) (v : Value) (l : List R) : Prop where
 own : OwnR w base v l
 far : ∀ i, i < n → ∀ b, v.ownBlock = some b → (rs i).v.ownBlock ≠ some b
theorem Own1.kp {w w' : World} {base n : Nat} {rs : Nat → RowD} {v : Value} {l : List R} (h : Own1 w base n rs v l) (k : Kp w w') : Own1 w' base n rs v l := ⟨own_kp h.own k, h.far⟩
theorem Own1.put {w w' : World} {base n : Nat} {rs : Nat → RowD} {v : Value} {l : List R} (h : Own1 w base n rs v l) {i : Nat} (hi : i < n) {r : RowD} (g : w.grownBy w' (rs i).v.ownBlock) (at_ : r.v.ownBlock = (rs i).v.ownBlock ∨ r.v.ownBlock = none ∨ ∃ b, r.v.ownBlock = some b ∧ w.heap.size ≤ b) :
  Own1 w' base n (putD rs i r) v l := by
 refine ⟨own_farR h.own g fun b hb e => h.far i hi b e hb, fun j hj b hb e => ?_⟩
 by_cases c : j = i
 ·subst c
  rw [putD_at] at e
  rcases at_ with a | a | ⟨d, a, hd⟩
  ·rw [a] at e; exact h.far j hj b hb e
  ·rw [a] at e; cases e
  ·rw [a] at e
   cases e
   have := (World.ownsRow.lt h.own _ hb).2
   omega
 ·rw [putD_ne _ _ c] at e
  exact h.far j hj b hb e
theorem Own1.setCell {w : World} {base n : Nat} {rs : Nat → RowD} {v : Value} {l : List R} (h : Own1 w base n rs v l) {a : Addr} (ha : a.block < base) (u : Value) : Own1 (w.setCell a u) base n rs v l := ⟨ownsRow_setCell_below h.own ha u, h.far⟩
theorem Own1.new {w1 w2 : World} {base n : Nat} {rs : Nat → RowD} {v : Value} {l : List R} (r : Rws w1 base n rs) (hb : base ≤ w1.heap.size) (h : OwnR w2 w1.heap.size v l) : Own1 w2 base n rs v l :=
 ⟨own_mono h hb, fun i hi b e e2 => by have := (World.ownsRow.lt h b e).1; have := (r.lt hi b e2).2; omega⟩
def ReadsO (w : World) (base n : Nat) (rs : Nat → RowD) (m : List OV) : Prop := ∀ p ∈ m, Own1 w base n rs p.2.1 p.1.2.1 ∧ Own1 w base n rs p.2.2 p.1.2.2
theorem ReadsO.kp {w w' : World} {base n : Nat} {rs : Nat → RowD} {m : List OV} (h : ReadsO w base n rs m) (k : Kp w w') : ReadsO w' base n rs m := fun p hp => ⟨(h p hp).1.kp k, (h p hp).2.kp k⟩
theorem ReadsO.put {w w' : World} {base n : Nat} {rs : Nat → RowD} {m : List OV} (h : ReadsO w base n rs m) {i : Nat} (hi : i < n) {r : RowD} (g : w.grownBy w' (rs i).v.ownBlock) (at_ : r.v.ownBlock = (rs i).v.ownBlock ∨ r.v.ownBlock = none ∨ ∃ b, r.v.ownBlock = some b ∧ w.heap.size ≤ b) : ReadsO w' base n (putD rs i r) m := fun p hp => ⟨(h p hp).1.put hi g at_, (h p hp).2.put hi g at_⟩
theorem ReadsO.setCell {w : World} {base n : Nat} {rs : Nat → RowD} {m : List OV} (h : ReadsO w base n rs m) {a : Addr} (ha : a.block < base) (u : Value) : ReadsO (w.setCell a u) base n rs m := fun p hp => ⟨(h p hp).1.setCell ha u, (h p hp).2.setCell ha u⟩
def pbox (rs : Nat → RowD) : Array Value := #[(rs 0).v, (rs 1).v, (rs 2).v, (rs 3).v, (rs 4).v, (rs 5).v]
theorem pbox_at (rs : Nat → RowD) {i : Nat} (h : i < 6) : (pbox rs)[i]? = some (rs i).v := by
 obtain rfl | rfl | rfl | rfl | rfl | rfl : i = 0 ∨ i = 1 ∨ i = 2 ∨ i = 3 ∨ i = 4 ∨ i = 5 := by omega
 all_goals rfl
theorem pbox_set (rs : Nat → RowD) {i : Nat} (h : i < 6) (r : RowD) : (pbox rs).setIfInBounds i r.v = pbox (putD rs i r) := by
 obtain rfl | rfl | rfl | rfl | rfl | rfl : i = 0 ∨ i = 1 ∨ i = 2 ∨ i = 3 ∨ i = 4 ∨ i = 5 := by omega
 all_goals rfl
theorem pbox_other (rs : Nat → RowD) {i : Nat} (h : 6 ≤ i) (r : RowD) : pbox (putD rs i r) = pbox rs := by
 unfold pbox
 rw [putD_ne _ _ (by omega), putD_ne _ _ (by omega), putD_ne _ _ (by omega), putD_ne _ _ (by omega), putD_ne _ _ (by omega), putD_ne _ _ (by omega)]
structure SBx (W : World) (rs : Nat → RowD) (w : World) : Prop where
 kp : Kp W w
 b2 : w.heap[W.heap.size]? = some (.cells #[.slice none 0 0, .slice none 0 0] 49 (0, 0))
 b5 : w.heap[W.heap.size + 1]? = some (.cells (pbox rs) 78 (0, 0))
 b6 : w.heap[W.heap.size + 2]? = some (.cells #[(rs 8).v, (rs 7).v] 49 (0, 0))
 sz : W.heap.size + 3 ≤ w.heap.size
 rws : Rws w (W.heap.size + 3) 9 rs
theorem SBx.go {W w w' : World} {rs : Nat → RowD} (h : SBx W rs w) (k : Kp w w') : SBx W rs w' :=
 ⟨h.kp.trans k, heap_block k h.b2, heap_block k h.b5, heap_block k h.b6, Nat.le_trans h.sz k.size, h.rws.kp k⟩
theorem grown_heap {w w' : World} {row : Option Nat} (g : w.grownBy w' row) {k : Nat} {o : Obj} (h : w.heap[k]? = some o) (hn : row ≠ some k) : w'.heap[k]? = some o := by
 have hl : k < w.heap.size := (Array.getElem?_eq_some_iff.1 h).1
 exact (g.block k hl (fun e => hn e.symm)).trans h
theorem SBx.far {W w : World} {rs : Nat → RowD} (h : SBx W rs w) {i : Nat} (hi : i < 9) {k : Nat} (hk : k < W.heap.size + 3) : (rs i).v.ownBlock ≠ some k := fun e => by
 have := (h.rws.lt hi k e).1
 omega
theorem kp_setCell2 {W w : World} (k : Kp W w) {b o : Nat} (hb : W.heap.size ≤ b) (u : Value) : Kp W (w.setCell ⟨b, o, none⟩ u) := Below.setCell k (p := ⟨b, o, none⟩) hb u
theorem SBx.putP {W w w' : World} {rs : Nat → RowD} (h : SBx W rs w) {i : Nat} (hi : i < 6) {r : RowD} (own : w'.ownsRow (W.heap.size + 3) r.t r.k r.v r.n r.xs) (g : w.grownBy w' (rs i).v.ownBlock) (at_ : r.v.ownBlock = (rs i).v.ownBlock ∨ r.v.ownBlock = none ∨ ∃ b, r.v.ownBlock = some b ∧ w.heap.size ≤ b) :
  SBx W (putD rs i r) (w'.setCell ⟨W.heap.size + 1, i, none⟩ r.v) := by
 have k1 : Kp W w' := h.kp.grown g fun j hj => by have := (h.rws.lt (by omega) j hj).1; omega
 have s1 := g.size
 refine ⟨kp_setCell2 k1 (by omega) _, ?_, ?_, ?_, ?_, ?_⟩
 ·rw [bx_other1 (by omega)]; exact grown_heap g h.b2 (h.far (by omega) (by omega))
 ·rw [← pbox_set rs hi]; exact bx_heap1 (grown_heap g h.b5 (h.far (by omega) (by omega))) _ _
 ·rw [bx_other1 (by omega), putD_ne _ _ (by omega), putD_ne _ _ (by omega)]; exact grown_heap g h.b6 (h.far (by omega) (by omega))
 ·have := h.sz; simp [World.setCell]; omega
 ·exact (h.rws.put (by omega) own g at_).setCell (by simp) _
theorem SBx.putN {W w w' : World} {rs : Nat → RowD} (h : SBx W rs w) {i : Nat} (hi : i = 6) {r : RowD} (own : w'.ownsRow (W.heap.size + 3) r.t r.k r.v r.n r.xs) (g : w.grownBy w' (rs i).v.ownBlock) (at_ : r.v.ownBlock = (rs i).v.ownBlock ∨ r.v.ownBlock = none ∨ ∃ b, r.v.ownBlock = some b ∧ w.heap.size ≤ b) :
  SBx W (putD rs i r) w' := by
 have k1 : Kp W w' := h.kp.grown g fun j hj => by have := (h.rws.lt (by omega) j hj).1; omega
 have s1 := g.size
 refine ⟨k1, ?_, ?_, ?_, ?_, ?_⟩
 ·exact grown_heap g h.b2 (h.far (by omega) (by omega))
 ·rw [pbox_other rs (by omega)]; exact grown_heap g h.b5 (h.far (by omega) (by omega))
 ·rw [putD_ne _ _ (by omega), putD_ne _ _ (by omega)]; exact grown_heap g h.b6 (h.far (by omega) (by omega))
 ·have := h.sz; omega
 ·exact h.rws.put (by omega) own g at_
theorem SBx.putO {W w w' : World} {rs : Nat → RowD} (h : SBx W rs w) {r : RowD} (own : w'.ownsRow (W.heap.size + 3) r.t r.k r.v r.n r.xs) (g : w.grownBy w' (rs 7).v.ownBlock) (at_ : r.v.ownBlock = (rs 7).v.ownBlock ∨ r.v.ownBlock = none ∨ ∃ b, r.v.ownBlock = some b ∧ w.heap.size ≤ b) :
  SBx W (putD rs 7 r) (w'.setCell ⟨W.heap.size + 2, 1, none⟩ r.v) := by
 have k1 : Kp W w' := h.kp.grown g fun j hj => by have := (h.rws.lt (by omega) j hj).1; omega
 have s1 := g.size
 refine ⟨kp_setCell2 k1 (by omega) _, ?_, ?_, ?_, ?_, ?_⟩
 ·rw [bx_other1 (by omega)]; exact grown_heap g h.b2 (h.far (by omega) (by omega))
 ·rw [pbox_other rs (by omega), bx_other1 (by omega)]; exact grown_heap g h.b5 (h.far (by omega) (by omega))
 ·exact bx_heap1 (grown_heap g h.b6 (h.far (by omega) (by omega))) _ _
 ·have := h.sz; simp [World.setCell]; omega
 ·exact (h.rws.put (by omega) own g at_).setCell (by simp) _
structure SRd (l : List LF) (rs : Nat → RowD) (m : List OV) : Prop where
 pr : ∀ u : Nat, u < 6 → rs u = ⟨31, 2, (rs u).v, (prL l u).length, cellsR (prL l u)⟩
 dy : rs 6 = ⟨42, 2, (rs 6).v, (dyL l).length, cellsR (dyL l)⟩
 lo : rs 7 = ⟨80, 3, (rs 7).v, m.length, cellsO m⟩
 li : rs 8 = ⟨87, 1, .slice none 0 0, 0, []⟩
 ms : m.map Prod.fst = lsL l
theorem SRd.skip {l : List LF} {rs : Nat → RowD} {m : List OV} (h : SRd l rs m) {f : LF} (hf : fullB f = false) : SRd (l ++ [f]) rs m := by
 have e1 : ∀ u, prF u f = [] := fun u => by unfold prF; rw [if_neg (by rw [hf]; simp)]
 have e2 : dyF f = [] := by unfold dyF; rw [if_neg (by rw [hf]; simp)]
 have e3 : lsF f = [] := by unfold lsF; rw [if_neg (by rw [hf]; simp)]
 have p : ∀ u, prL (l ++ [f]) u = prL l u := fun u => by unfold prL; simp [e1]
 have d : dyL (l ++ [f]) = dyL l := by unfold dyL; simp [e2]
 have s : lsL (l ++ [f]) = lsL l := by unfold lsL; simp [e3]
 exact ⟨fun u hu => by rw [p]; exact h.pr u hu, by rw [d]; exact h.dy, h.lo, h.li, by rw [s]; exact h.ms⟩
theorem SRd.span {l : List LF} {rs : Nat → RowD} {m : List OV} (h : SRd l rs m) {f : LF} (hf : fullB f = true) (hs : f.sp = true) (v v1 v2 : Value) :
  SRd (l ++ [f]) (putD rs 7 ⟨80, 3, v, (m ++ [((false, startsR (famR f), endsR (famR f)), (v1, v2))]).length, cellsO (m ++ [((false, startsR (famR f), endsR (famR f)), (v1, v2))])⟩) (m ++ [((false, startsR (famR f), endsR (famR f)), (v1, v2))]) := by
 have e1 : ∀ u, prF u f = [] := fun u => by unfold prF; rw [if_neg (by rw [hs]; simp)]
 have e2 : dyF f = [] := by unfold dyF; rw [if_neg (by rw [hs]; simp)]
 have e3 : lsF f = [(false, startsR (famR f), endsR (famR f))] := by unfold lsF; rw [if_pos ⟨hf, hs⟩]
 have p : ∀ u, prL (l ++ [f]) u = prL l u := fun u => by unfold prL; simp [e1]
 have d : dyL (l ++ [f]) = dyL l := by unfold dyL; simp [e2]
 have s : lsL (l ++ [f]) = lsL l ++ [(false, startsR (famR f), endsR (famR f))] := by unfold lsL; simp [e3]
 refine ⟨fun u hu => by rw [p, putD_ne _ _ (by omega)]; exact h.pr u hu, by rw [d, putD_ne _ _ (by omega)]; exact h.dy, by rw [putD_at], by rw [putD_ne _ _ (by omega)]; exact h.li, by rw [s, List.map_append, h.ms]; rfl⟩
theorem SRd.day {l : List LF} {rs : Nat → RowD} {m : List OV} (h : SRd l rs m) {f : LF} (hf : fullB f = true) (hs : f.sp = false) (hu : f.u = 0) (v : Value) :
  SRd (l ++ [f]) (putD rs 6 ⟨42, 2, v, (dyL l ++ startsR (famR f)).length, cellsR (dyL l ++ startsR (famR f))⟩) m := by
 have e1 : ∀ u, prF u f = [] := fun u => by unfold prF; rw [if_neg]; rintro ⟨_, _, a, b⟩; omega
 have e2 : dyF f = startsR (famR f) := by unfold dyF; rw [if_pos ⟨hf, hs, hu⟩]
 have e3 : lsF f = [] := by unfold lsF; rw [if_neg (by rw [hs]; simp)]
 have p : ∀ u, prL (l ++ [f]) u = prL l u := fun u => by unfold prL; simp [e1]
 have d : dyL (l ++ [f]) = dyL l ++ startsR (famR f) := by unfold dyL; simp [e2]
 have s : lsL (l ++ [f]) = lsL l := by unfold lsL; simp [e3]
 exact ⟨fun u hu => by rw [p, putD_ne _ _ (by omega)]; exact h.pr u hu, by rw [d, putD_at], by rw [putD_ne _ _ (by omega)]; exact h.lo, by rw [putD_ne _ _ (by omega)]; exact h.li, by rw [s]; exact h.ms⟩
theorem SRd.unit {l : List LF} {rs : Nat → RowD} {m : List OV} (h : SRd l rs m) {f : LF} (hf : fullB f = true) (hs : f.sp = false) {u : Nat} (hu : f.u = u) (h0 : u ≠ 0) (h6 : u < 6) (v : Value) :
  SRd (l ++ [f]) (putD rs u ⟨31, 2, v, (prL l u ++ pairsF (famR f)).length, cellsR (prL l u ++ pairsF (famR f))⟩) m := by
 have e1 : ∀ x : Nat, x ≠ u → prF x f = [] := fun x hx => by unfold prF; rw [if_neg]; rintro ⟨_, _, a, b⟩; omega
 have e4 : prF u f = pairsF (famR f) := by unfold prF; rw [if_pos ⟨hf, hs, hu, by omega⟩]
 have e2 : dyF f = [] := by unfold dyF; rw [if_neg]; rintro ⟨_, _, a⟩; omega
 have e3 : lsF f = [] := by unfold lsF; rw [if_neg (by rw [hs]; simp)]
 have p : ∀ x : Nat, x ≠ u → prL (l ++ [f]) x = prL l x := fun x hx => by unfold prL; simp [e1 x hx]
 have p2 : prL (l ++ [f]) u = prL l u ++ pairsF (famR f) := by unfold prL; simp [e4]
 have d : dyL (l ++ [f]) = dyL l := by unfold dyL; simp [e2]
 have s : lsL (l ++ [f]) = lsL l := by unfold lsL; simp [e3]
 refine ⟨fun x hx => ?_, by rw [d, putD_ne _ _ (by omega)]; exact h.dy, by rw [putD_ne _ _ (by omega)]; exact h.lo, by rw [putD_ne _ _ (by omega)]; exact h.li, by rw [s]; exact h.ms⟩
 by_cases c : x = u
 ·subst c; rw [p2, putD_at]
 ·rw [p x c, putD_ne _ _ c]; exact h.pr x hx
theorem step_appS {P : Program} {w : World} {ops : Array Oper} {o : Oper} {a : Act} {K : Act → World → Prop} {Q : Exit → Act → World → Prop} {E : Prop} (hgd : o.guard = none) (s x : Operand) (t : TypeId)
  (ho : o.op = .call { callee := .builtin .append, args := #[s, x], argTypes := #[t, t] })
  (base : Nat) (e : TypeId) (i : TypeInfo) (z : Value) (size bytes : Nat) (ht : P.underlying t = some (.slice e)) (hi : P.info? e = some i) (hz : i.zero = some z)
  (hsize : i.size = size) (hby : i.bytes = bytes) (hzs : z.cells.size = size) (hsz : 0 < size)
  (v : Value) (n : Nat) (xs : List Value) (hs : a.eval s = v) (hown : w.ownsRow base e size v n xs)
  (sv : Value) (m : Nat) (news : List Value) (hx : a.eval x = sv) (hsrc : SrcAt w sv m news) (hl : news.length = m * size) (h1 : ∀ u ∈ news, u.oneCell' = true)
  (h63 : n + m ≤ maxLen) (hbytes : (n + m) * bytes ≤ 140737488355328) (hbase : base ≤ w.heap.size)
  (h : ∀ v' w', w'.ownsRow base e size v' (n + m) (xs ++ news) → w.grownBy w' v.ownBlock → (v'.ownBlock = v.ownBlock ∨ v'.ownBlock = some w.heap.size) → K (a.put o.dst v') w') : if Region.wanted o (yielded ops a.tmps) = true then Oper.wp P o a w K Q else E := by
 rw [if_pos (by simp [Region.wanted, hgd])]
 have : ∃ v' w', (Builtin.append_ #[t, t] o.type #[v, sv]).run P w = .ok v' w' ∧ w'.ownsRow base e size v' (n + m) (xs ++ news) ∧ w.grownBy w' v.ownBlock ∧ (v'.ownBlock = v.ownBlock ∨ v'.ownBlock = some w.heap.size) := by
  rcases hsrc with ⟨ad, cp, rfl, rfl, rfl⟩ | ⟨ad, c, rfl, hn⟩
  ·exact ⟨v, w, run_append_zero w base t o.type e i size ht hi v n xs hown ad cp, by simpa using hown, ⟨rfl, rfl, rfl, Nat.le_refl _, fun _ _ _ => rfl⟩, .inl rfl⟩
  ·obtain ⟨v', w', hr, h2, h3, _, h5⟩ := run_append_own_at (P := P) w base t o.type e i z size bytes ht hi hz hsize hby hzs hsz v n xs hown ad m c news hl hn h1 h63 hbytes hbase
   exact ⟨v', w', hr, h2, h3, h5⟩
 obtain ⟨v', w', hr, h2, h3, h4⟩ := this
 unfold Oper.wp execOp
 simp only [ho, resolve, invoke, builtin, Sem.run_bind, Sem.run_pure, Result.andThen_ok, List.map_toArray, List.map_cons, List.map_nil, hs, hx, hr]
 exact h v' w' h2 h3 h4
theorem infoLoo : (Tryz.prog.info? 80).map (fun i => (i.zero, i.size, i.bytes)) = some (some (.agg #[.bool false, .slice none 0 0, .slice none 0 0]), 3, 56) := by kernel_rfl
theorem infoRu : (Tryz.prog.info? 42).map (fun i => (i.zero, i.size, i.bytes)) = some (some (.agg #[.int .i64 0, .int .i64 0]), 2, 16) := by kernel_rfl
theorem infoLi : (Tryz.prog.info? 87).map (fun i => (i.zero, i.size, i.bytes)) = some (some (.slice none 0 0), 1, 24) := by kernel_rfl
theorem ReadsO.add {w : World} {base n : Nat} {rs : Nat → RowD} {m : List OV} (h : ReadsO w base n rs m) {d : Bool} {A B : List R} {v1 v2 : Value} (h1 : Own1 w base n rs v1 A) (h2 : Own1 w base n rs v2 B) : ReadsO w base n rs (m ++ [((d, A, B), (v1, v2))]) := fun p hp => by
 rcases List.mem_append.1 hp with hp | hp
 ·exact h p hp
 ·rw [List.mem_singleton.1 hp]
  exact ⟨h1, h2⟩
theorem len_ms {l : List LF} {rs : Nat → RowD} {m : List OV} (h : SRd l rs m) : m.length ≤ l.length := by
 have := congrArg List.length h.ms
 rw [List.length_map] at this
 have := len_lsL l
 omega
def rs0 : Nat → RowD := fun i => if i < 6 then ⟨31, 2, .slice none 0 0, 0, []⟩ else if i = 6 then ⟨42, 2, .slice none 0 0, 0, []⟩ else if i = 7 then ⟨80, 3, .slice none 0 0, 0, []⟩ else ⟨87, 1, .slice none 0 0, 0, []⟩
theorem rs0_v (i : Nat) : (rs0 i).v = .slice none 0 0 := by unfold rs0; (repeat' split) <;> rfl
theorem rs0_own (w : World) (base i : Nat) : w.ownsRow base (rs0 i).t (rs0 i).k (rs0 i).v (rs0 i).n (rs0 i).xs := by
 unfold rs0
 (repeat' split) <;> exact World.ownsRow_nil _ _ _ _
def sWz0 (w : World) : World := ((w.alloc (.cells #[.slice none 0 0, .slice none 0 0] 49)).alloc (.cells #[.slice none 0 0, .slice none 0 0, .slice none 0 0, .slice none 0 0, .slice none 0 0, .slice none 0 0] 78)).alloc (.cells #[.slice none 0 0, .slice none 0 0] 49)
theorem SBx.start (w : World) : SBx w rs0 (sWz0 w) := by
 unfold sWz0
 refine ⟨((Kp.alloc _ _).trans (Kp.alloc _ _)).trans (Kp.alloc _ _), heap_block (Kp.alloc _ _) (heap_block (Kp.alloc _ _) (heap_at _ _ _ rfl)), ?_, ?_, by simp, ⟨fun i _ => rs0_own _ _ i, fun i j _ _ _ b hb => by rw [rs0_v] at hb; cases hb⟩⟩
 ·unfold pbox
  rw [rs0_v, rs0_v, rs0_v, rs0_v, rs0_v, rs0_v]
  exact heap_block (Kp.alloc _ _) (heap_at _ _ _ (by simp))
 ·rw [rs0_v, rs0_v]
  exact heap_at _ _ _ (by simp)
theorem SRd.start : SRd [] rs0 [] := by
 refine ⟨fun u hu => ?_, rfl, rfl, rfl, rfl⟩
 have : rs0 u = ⟨31, 2, .slice none 0 0, 0, []⟩ := if_pos hu
 rw [this]
 rfl
theorem ReadsO.start (w : World) (base n : Nat) (rs : Nat → RowD) : ReadsO w base n rs [] := fun p hp => by cases hp
noncomputable def okAll (l : List LF) : Bool := l.all fun f => startsB (famR f) && endsB (famR f)
theorem okAll_take {l : List LF} {k : Nat} (h : k < l.length) (g : okAll (l.take k) = true) (h1 : startsB (famR (lat l k)) = true) (h2 : endsB (famR (lat l k)) = true) : okAll (l.take (k + 1)) = true := by
 unfold okAll at *
 rw [take_lat l k h, List.all_append, g]
 simp [h1, h2]
theorem okAll_no {l : List LF} {k : Nat} (h : k < l.length) (g : (startsB (famR (lat l k)) && endsB (famR (lat l k))) = false) : okAll l = false := by
 unfold okAll
 rw [List.all_eq_false]
 exact ⟨_, lat_mem h, by rw [g]; simp⟩
theorem okAll_iff {l : List LF} (h : okAll l = true) : ∀ f ∈ l, startsB (famR f) = true ∧ endsB (famR f) = true := by
 intro f hf
 have := List.all_eq_true.1 h f hf
 simpa using this
def LooAt (w : World) (v : Value) (l : List LO) : Prop := (∃ c, v = .slice none 0 c ∧ l = []) ∨ ∃ b c, v = .slice (some ⟨b, 0, none⟩) l.length c ∧ ∀ i, i < l.length → ∃ ua ub, w.cell? ⟨b, i * 3, none⟩ = some (.bool (l.getD i (false, [], [])).1) ∧ w.cell? ⟨b, i * 3 + 1, none⟩ = some ua ∧ w.cell? ⟨b, i * 3 + 2, none⟩ = some ub ∧ RunsAt w ua (l.getD i (false, [], [])).2.1 ∧ RunsAt w ub (l.getD i (false, [], [])).2.2
def FdAt (w : World) (v : Value) (F : FdD) : Prop := ∃ vl vo, v = .agg #[vl, vo] ∧ SsAt w vl F.ls ∧ LooAt w vo F.lo
theorem LooAt.kp {w w' : World} {v : Value} {l : List LO} (h : LooAt w v l) (k : Kp w w') : LooAt w' v l := by
 rcases h with h | ⟨b, c, e, g⟩
 ·exact .inl h
 ·refine .inr ⟨b, c, e, fun i hi => ?_⟩
  obtain ⟨ua, ub, h1, h2, h3, h4, h5⟩ := g i hi
  exact ⟨ua, ub, cell_up k h1, cell_up k h2, cell_up k h3, h4.kp k, h5.kp k⟩
theorem FdAt.kp {w w' : World} {v : Value} {F : FdD} (h : FdAt w v F) (k : Kp w w') : FdAt w' v F := by
 obtain ⟨vl, vo, e, h1, h2⟩ := h
 exact ⟨vl, vo, e, h1.kp k, h2.kp k⟩
open Go.RowKit Go.Shelf
theorem own_sliceK {w : World} {base : Nat} {e : TypeId} {size : Nat} {v : Value} {n : Nat} {xs : List Value} (h : w.ownsRow base e size v n xs) : ∃ ad c, v = .slice ad n c := by
 rcases h.2 with ⟨rfl, rfl⟩ | ⟨g, cap, _, rfl, _⟩
 ·exact ⟨_, _, rfl⟩
 ·exact ⟨_, _, rfl⟩
theorem grown_refl (w : World) (row : Option Nat) : w.grownBy w row := ⟨rfl, rfl, rfl, Nat.le_refl _, fun _ _ _ => rfl⟩
theorem run_index_sl {t e : TypeId} {n : Nat} {cs : Array Value} {k : Nat} {u : Value} {i : TypeInfo} (w : World) (h : Tryz.prog.underlying t = some (.array n e)) (hk : k < n) (ha : ∀ w, (isAgg e).run Tryz.prog w = .ok false w) (hi : Tryz.prog.info? e = some i) (hs : Tryz.prog.cellsOf e = 1) (hc : cs[k]? = some u) :
  (Instr.index t (.agg cs) (.int .i64 k)).run Tryz.prog w = .ok u w := by
 simp [Instr.index, run_underlying h, asIntOf, hk, run_sizeOf w hi, hs, part, ha, hc]
theorem wpList_index_sl {ops : Array Oper} {rest : List Oper} {o : Oper} {a : Act} {w : World} {Q : Exit → Act → World → Prop} (hgd : o.guard = none) (t e : TypeId) (x y : Operand) (ho : o.op = .index t x y) (n : Nat) (cs : Array Value) (k : Nat) (u : Value) (i : TypeInfo)
  (hx : a.eval x = .agg cs) (hy : a.eval y = .int .i64 k) (h : Tryz.prog.underlying t = some (.array n e)) (hk : k < n) (ha : ∀ w, (isAgg e).run Tryz.prog w = .ok false w) (hi : Tryz.prog.info? e = some i) (hs : Tryz.prog.cellsOf e = 1) (hc : cs[k]? = some u)
  (g : wpList Tryz.prog ops Q rest (a.put o.dst u) w) : wpList Tryz.prog ops Q (o :: rest) a w := by
 refine wpList_plain hgd fun K hK => ?_
 unfold Oper.wp execOp
 simp only [ho, hx, hy, Sem.run_bind, Sem.run_pure, Result.andThen_ok, run_index_sl w h hk ha hi hs hc]
 exact hK _ _ g
theorem prs_info : ∃ i, Tryz.prog.info? 77 = some i := Option.isSome_iff_exists.1 (by kernel_rfl)
theorem prs_cells : Tryz.prog.cellsOf 77 = 1 := by kernel_rfl
theorem six_info : (Tryz.prog.info? 78).map (·.size) = some 6 := by kernel_rfl
theorem psortV {base n : Nat} {v : Value} (L : List R) (w : World) (h : w.ownsRow base 31 2 v n (cellsR L)) (hl : L.length = n) (hn : n ≤ 1000000) :
  Calls Tryz.prog 54 #[v, .func (.func 55) #[] #[]] w fun ex w' => ∃ L' : List R, ex = .returned (.tuple #[]) ∧ L'.length = n ∧ (∀ p, p ∈ L' ↔ p ∈ L) ∧ (L'.Pairwise fun a b => a.1 ≤ b.1) ∧ w'.ownsRow base 31 2 v n (cellsR L') ∧ w.grownBy w' v.ownBlock := by
 rcases h.2 with ⟨rfl, rfl⟩ | ⟨g, cap, cur, rfl, _⟩
 ·refine (psort_nil w).mono ?_
  rintro e w' ⟨rfl, rfl⟩
  have : L = [] := List.length_eq_zero_iff.1 hl
  subst this
  exact ⟨[], rfl, rfl, fun _ => Iff.rfl, List.Pairwise.nil, h, grown_refl _ _⟩
 ·subst hl
  refine (psort_any L w h hn).mono ?_
  rintro e w' ⟨rfl, L', h1, h2, h3, h4, h5⟩
  exact ⟨L', rfl, h1, h2, h3, h4, h5⟩
theorem compact_nil (w : World) : Calls Tryz.prog 57 #[.slice none 0 0] w fun e w' => e = .returned (.slice none 0 0) ∧ w' = w := by
 go_enter Tryz.func57, Tryz.ntmps57
 go_wp2
 go_ret
 exact ⟨rfl, rfl⟩
theorem compactV {base n : Nat} {v : Value} (L : List R) (w : World) (h : w.ownsRow base 31 2 v n (cellsR L)) (hl : L.length = n) (hr : riseP L) (hn : n ≤ 1000000) :
  Calls Tryz.prog 57 #[v] w fun ex w' => ∃ (v' : Value) (L' : List R), ex = .returned v' ∧ L'.length ≤ n ∧ (∀ p, p ∈ L' ↔ p ∈ L) ∧ riseP L' ∧ w'.ownsRow base 31 2 v' L'.length (cellsR L') ∧ v'.ownBlock = v.ownBlock ∧ w.grownBy w' v.ownBlock := by
 rcases h.2 with ⟨rfl, rfl⟩ | ⟨g, cap, cur, rfl, _⟩
 ·refine (compact_nil w).mono ?_
  rintro e w' ⟨rfl, rfl⟩
  have : L = [] := List.length_eq_zero_iff.1 hl
  subst this
  exact ⟨_, [], rfl, Nat.le_refl _, fun _ => Iff.rfl, hr, h, rfl, grown_refl _ _⟩
 ·subst hl
  refine (compact_any L w h hr hn).mono ?_
  rintro e w' ⟨v', rfl, L', rfl, h1, h2, h3, h4, h5⟩
  exact ⟨_, L', rfl, h1, h2, h3, h4, rfl, h5⟩
theorem compactW {P : Prop} {base n : Nat} {v : Value} (L : List R) (w : World) (hP : P) (h : w.ownsRow base 31 2 v n (cellsR L)) (hl : L.length = n) (hr : riseP L) (hn : n ≤ 1000000) :
  Calls Tryz.prog 57 #[v] w fun ex w' => ∃ (v' : Value) (L' : List R), ex = .returned v' ∧ L'.length ≤ n ∧ (∀ p, p ∈ L' ↔ p ∈ L) ∧ riseP L' ∧ w'.ownsRow base 31 2 v' L'.length (cellsR L') ∧ v'.ownBlock = v.ownBlock ∧ w.grownBy w' v.ownBlock ∧ P :=
 (compactV L w h hl hr hn).mono fun e w' ⟨v', L', h1, h2, h3, h4, h5, h6, h7⟩ => ⟨v', L', h1, h2, h3, h4, h5, h6, h7, hP⟩
theorem putD_v (rs : Nat → RowD) (i : Nat) (r : RowD) : (putD rs i r i).v = r.v := by rw [putD_at]
theorem grown_row {rs : Nat → RowD} {i : Nat} {v : Value} {w w' : World} (h : (rs i).v = v) (g : w.grownBy w' v.ownBlock) : w.grownBy w' (rs i).v.ownBlock := by rw [h]; exact g
theorem putD_twice (rs : Nat → RowD) (i : Nat) (a b : RowD) : putD (putD rs i a) i b = putD rs i b := by
 funext x
 by_cases e : x = i
 ·subst e; rw [putD_at, putD_at]
 ·rw [putD_ne _ _ e, putD_ne _ _ e, putD_ne _ _ e]
structure SLx (W : World) (rs : Nat → RowD) (w : World) : Prop where
 kp : Kp W w
 b2 : w.heap[W.heap.size]? = some (.cells #[.slice none 0 0, .slice none 0 0] 49 (0, 0))
 b6 : w.heap[W.heap.size + 2]? = some (.cells #[(rs 8).v, (rs 7).v] 49 (0, 0))
 sz : W.heap.size + 3 ≤ w.heap.size
 rws : Rws w (W.heap.size + 3) 9 rs
theorem SBx.slx {W w : World} {rs : Nat → RowD} (h : SBx W rs w) : SLx W rs w := ⟨h.kp, h.b2, h.b6, h.sz, h.rws⟩
theorem SLx.go {W w w' : World} {rs : Nat → RowD} (h : SLx W rs w) (k : Kp w w') : SLx W rs w' :=
 ⟨h.kp.trans k, heap_block k h.b2, heap_block k h.b6, Nat.le_trans h.sz k.size, h.rws.kp k⟩
theorem SLx.far {W w : World} {rs : Nat → RowD} (h : SLx W rs w) {i : Nat} (hi : i < 9) {k : Nat} (hk : k < W.heap.size + 3) : (rs i).v.ownBlock ≠ some k := fun e => by
 have := (h.rws.lt hi k e).1
 omega
theorem SLx.putP {W w w' : World} {rs : Nat → RowD} (h : SLx W rs w) {i : Nat} (hi : i < 6) {r : RowD} (own : w'.ownsRow (W.heap.size + 3) r.t r.k r.v r.n r.xs) (g : w.grownBy w' (rs i).v.ownBlock) (at_ : r.v.ownBlock = (rs i).v.ownBlock) : SLx W (putD rs i r) w' := by
 have k1 : Kp W w' := h.kp.grown g fun j hj => by have := (h.rws.lt (by omega) j hj).1; omega
 have s1 := g.size
 refine ⟨k1, ?_, ?_, ?_, ?_⟩
 ·exact grown_heap g h.b2 (h.far (by omega) (by omega))
 ·rw [putD_ne _ _ (by omega), putD_ne _ _ (by omega)]; exact grown_heap g h.b6 (h.far (by omega) (by omega))
 ·have := h.sz; omega
 ·exact h.rws.put (by omega) own g (.inl at_)
theorem SLx.putL {W w w' : World} {rs : Nat → RowD} (h : SLx W rs w) {r : RowD} (own : w'.ownsRow (W.heap.size + 3) r.t r.k r.v r.n r.xs) (g : w.grownBy w' (rs 8).v.ownBlock) (at_ : r.v.ownBlock = (rs 8).v.ownBlock ∨ r.v.ownBlock = none ∨ ∃ b, r.v.ownBlock = some b ∧ w.heap.size ≤ b) :
  SLx W (putD rs 8 r) (w'.setCell ⟨W.heap.size + 2, 0, none⟩ r.v) := by
 have k1 : Kp W w' := h.kp.grown g fun j hj => by have := (h.rws.lt (by omega) j hj).1; omega
 have s1 := g.size
 refine ⟨kp_setCell2 k1 (by omega) _, ?_, ?_, ?_, ?_⟩
 ·rw [bx_other1 (by omega)]; exact grown_heap g h.b2 (h.far (by omega) (by omega))
 ·exact bx_heap1 (grown_heap g h.b6 (h.far (by omega) (by omega))) _ _
 ·have := h.sz; simp [World.setCell]; omega
 ·exact (h.rws.put (by omega) own g at_).setCell (by simp) _
noncomputable def loL (l : List LF) : List LO := lsL l ++ (if (dyL l).length = 0 then [] else [(true, nf (dyL l), nf (dyL l))])
structure SRe (l : List LF) (vs : Nat → Value) (k : Nat) (rs : Nat → RowD) (Ls : Nat → List R) (m : List OV) : Prop where
 pr : ∀ u : Nat, k ≤ u → u < 6 → rs u = ⟨31, 2, vs u, (prL l u).length, cellsR (prL l u)⟩
 dn : ∀ u : Nat, u < k → rs u = ⟨31, 2, (rs u).v, (Ls u).length, cellsR (Ls u)⟩ ∧ (∀ p, p ∈ Ls u ↔ p ∈ prL l u) ∧ riseP (Ls u) ∧ (Ls u).length ≤ (prL l u).length
 lo : rs 7 = ⟨80, 3, (rs 7).v, m.length, cellsO m⟩
 li : rs 8 = ⟨87, 1, (rs 8).v, k, (List.range k).map fun u => (rs u).v⟩
 ms : m.map Prod.fst = loL l
theorem riseP_sorted {l : List LF} {u : Int} {L : List R} (hm : ∀ p, p ∈ L ↔ p ∈ prL l u) (hs : L.Pairwise fun a b => a.1 ≤ b.1) : riseP L := by
 unfold riseP
 exact List.Pairwise.imp_of_mem (fun ha hb h => ⟨h, prL_rise ((hm _).1 ha) ((hm _).1 hb) h⟩) hs
theorem SRe.start0 {l : List LF} {rs : Nat → RowD} {m : List OV} (h : SRd l rs m) (hd : (dyL l).length = 0) : SRe l (fun u => (rs u).v) 0 rs (fun _ => []) m :=
 ⟨fun u _ h6 => h.pr u h6, fun u hu => by omega, h.lo, by rw [h.li]; rfl, by rw [h.ms]; unfold loL; rw [if_pos hd]; simp⟩
theorem SRe.start1 {l : List LF} {rs : Nat → RowD} {m : List OV} (h : SRd l rs m) (hd : ¬ (dyL l).length = 0) (r6 : RowD) (v v1 v2 : Value) :
  SRe l (fun u => (rs u).v) 0 (putD (putD rs 6 r6) 7 ⟨80, 3, v, (m ++ [((true, nf (dyL l), nf (dyL l)), (v1, v2))]).length, cellsO (m ++ [((true, nf (dyL l), nf (dyL l)), (v1, v2))])⟩) (fun _ => []) (m ++ [((true, nf (dyL l), nf (dyL l)), (v1, v2))]) := by
 refine ⟨fun u _ h6 => ?_, fun u hu => by omega, by rw [putD_at], ?_, ?_⟩
 ·rw [putD_ne _ _ (by omega), putD_ne _ _ (by omega)]; exact h.pr u h6
 ·rw [putD_ne _ _ (by omega), putD_ne _ _ (by omega), h.li]; rfl
 ·unfold loL
  rw [List.map_append, h.ms, if_neg hd]
  rfl
theorem SRe.next {l : List LF} {vs : Nat → Value} {k : Nat} {rs : Nat → RowD} {Ls : Nat → List R} {m : List OV} (h : SRe l vs k rs Ls m) (hk : k < 6) {v v8 : Value} {L : List R} (hm : ∀ p, p ∈ L ↔ p ∈ prL l k) (hr : riseP L) (hl : L.length ≤ (prL l k).length) :
  SRe l vs (k + 1) (putD (putD rs k ⟨31, 2, v, L.length, cellsR L⟩) 8 ⟨87, 1, v8, k + 1, ((List.range k).map fun u => (rs u).v) ++ [v]⟩) (fun u => if u = k then L else Ls u) m := by
 refine ⟨fun u h1 h2 => ?_, fun u hu => ?_, ?_, ?_, h.ms⟩
 ·rw [putD_ne _ _ (by omega), putD_ne _ _ (by omega)]
  exact h.pr u (by omega) h2
 ·rw [putD_ne _ _ (by omega)]
  by_cases e : u = k
  ·subst e
   rw [putD_at, if_pos rfl]
   exact ⟨rfl, hm, hr, hl⟩
  ·rw [putD_ne _ _ e, if_neg e]
   exact h.dn u (by omega)
 ·rw [putD_ne _ _ (by omega), putD_ne _ _ (by omega)]
  exact h.lo
 ·rw [putD_at, List.range_succ, List.map_append]
  have e1 : ((List.range k).map fun u => (rs u).v) = (List.range k).map fun u => (putD (putD rs k ⟨31, 2, v, L.length, cellsR L⟩) 8 ⟨87, 1, v8, k + 1, ((List.range k).map fun u => (rs u).v) ++ [v]⟩ u).v := by
   apply List.map_congr_left
   intro u hu
   have := List.mem_range.1 hu
   rw [putD_ne _ _ (by omega), putD_ne _ _ (by omega)]
  rw [← e1]
  simp only [List.map_cons, List.map_nil]
  rw [putD_ne _ _ (by omega), putD_at]
noncomputable def fdOf (l : List LF) (Ls : Nat → List R) : FdD := ⟨(List.range 6).map Ls, loL l⟩
theorem dyL_pos {l : List LF} (hd : ¬ (dyL l).length = 0) : 0 < (nf (dyL l)).length := by
 have : ∃ r, r ∈ dyL l := by
  cases h : dyL l with
  | nil => rw [h] at hd; simp at hd
  | cons r _ => exact ⟨r, by simp⟩
 obtain ⟨r, hr⟩ := this
 obtain ⟨f, hf, hr2⟩ := List.mem_flatMap.1 hr
 have sn : sane (dyF f) := by
  unfold dyF
  split
  ·exact starts_sane (famR_ok f)
  ·exact trivial
 obtain ⟨i, hi, e⟩ := List.getElem_of_mem hr2
 have m1 := (memR_at sn hi).1
 have m2 : memR (dyL l) (at_ (dyF f) i).1 := by
  obtain ⟨q, hq, h1⟩ := m1
  exact ⟨q, List.mem_flatMap.2 ⟨f, hf, hq⟩, h1⟩
 exact mem_pos ((nf_mem _ _).2 m2)
theorem fdOf_has {l : List LF} {vs : Nat → Value} {rs : Nat → RowD} {Ls : Nat → List R} {m : List OV} (h : SRe l vs 6 rs Ls m) (hb : okAll l = true) (S T : Int) : fdP (fdOf l Ls) S T ↔ hasL l S T = true := by
 rw [has_parts (okAll_iff hb)]
 unfold fdP fdOf loL
 simp only [List.mem_map, List.mem_range, List.mem_append]
 constructor
 ·rintro (⟨L, ⟨u, hu, rfl⟩, g⟩ | ⟨x, hx | hx, g⟩)
  ·exact .inr (.inl ⟨u, hu, ((h.dn u hu).2.1 _).1 g⟩)
  ·exact .inr (.inr ⟨x, hx, g⟩)
  ·split at hx
   ·cases hx
   ·rw [List.mem_singleton.1 hx] at g
    obtain ⟨rfl, g2⟩ := ls_t g
    exact .inl ⟨rfl, (nf_mem _ _).1 g2⟩
 ·rintro (⟨rfl, g⟩ | ⟨u, hu, g⟩ | ⟨x, hx, g⟩)
  ·refine .inr ⟨(true, nf (dyL l), nf (dyL l)), .inr ?_, ls_mkt ((nf_mem _ _).2 g)⟩
   rw [if_neg (fun e => by have := mem_pos g; omega)]
   simp
  ·exact .inl ⟨Ls u, ⟨u, hu, rfl⟩, ((h.dn u hu).2.1 _).2 g⟩
  ·exact .inr ⟨x, .inl hx, g⟩
theorem fdOf_ok {l : List LF} {vs : Nat → Value} {rs : Nat → RowD} {Ls : Nat → List R} {m : List OV} (h : SRe l vs 6 rs Ls m) (hb : okAll l = true) (hn : l.length ≤ 100) : FdOk (fdOf l Ls) := by
 have ob := okAll_iff hb
 refine ⟨?_, ?_, ?_, ?_, by simp [fdOf], ?_⟩
 ·intro L hL
  simp only [fdOf, List.mem_map, List.mem_range] at hL
  obtain ⟨u, hu, rfl⟩ := hL
  exact (h.dn u hu).2.2.1
 ·intro L hL S T hp
  simp only [fdOf, List.mem_map, List.mem_range] at hL
  obtain ⟨u, hu, rfl⟩ := hL
  exact prL_bd (((h.dn u hu).2.1 _).1 hp)
 ·intro L hL
  simp only [fdOf, List.mem_map, List.mem_range] at hL
  obtain ⟨u, hu, rfl⟩ := hL
  have := (h.dn u hu).2.2.2
  have := len_prL u l fun f hf => (ob f hf).1
  omega
 ·intro x hx
  simp only [fdOf, loL, List.mem_append] at hx
  rcases hx with hx | hx
  ·have := ls_span ob x hx
   exact ⟨this.1, by omega, by omega⟩
  ·split at hx
   ·cases hx
   ·rename_i hd
    rw [List.mem_singleton.1 hx]
    have a := nf_len (dyL l)
    have b := len_dyL l
    exact ⟨ls_days (fun f hf => (ob f hf).1) (dyL_pos hd), by simp only; omega, by simp only; omega⟩
 ·have := len_lsL l
  simp only [fdOf, loL, List.length_append]
  split <;> simp <;> omega
theorem cellsO_at : ∀ (m : List OV) (i : Nat) (h : i < m.length), (cellsO m)[i * 3]? = some (.bool (m[i]'h).1.1) ∧ (cellsO m)[i * 3 + 1]? = some (m[i]'h).2.1 ∧ (cellsO m)[i * 3 + 2]? = some (m[i]'h).2.2
 | [], i, h => by simp at h
 | p :: m, 0, h => ⟨rfl, rfl, rfl⟩
 | p :: m, i + 1, h => by
  have e : cellsO (p :: m) = .bool p.1.1 :: p.2.1 :: p.2.2 :: cellsO m := rfl
  obtain ⟨a, b, c⟩ := cellsO_at m i (by simpa using h)
  rw [e, show (i + 1) * 3 = i * 3 + 1 + 1 + 1 by omega]
  exact ⟨a, b, c⟩
theorem fdOf_at {W w : World} {l : List LF} {vs : Nat → Value} {rs : Nat → RowD} {Ls : Nat → List R} {m : List OV} (h : SRe l vs 6 rs Ls m) (r : Rws w (W.heap.size + 3) 9 rs) (ro : ReadsO w (W.heap.size + 3) 9 rs m) : FdAt w (.agg #[(rs 8).v, (rs 7).v]) (fdOf l Ls) := by
 refine ⟨_, _, rfl, ?_, ?_⟩
 ·have o8 := r.own 8 (by decide)
  rw [h.li] at o8
  simp only at o8
  obtain ⟨g, cap, ev, hg, _⟩ := o8.form (by decide)
  rw [ev] at o8 ⊢
  refine ⟨g, cap, by simp [fdOf], fun i hi => ?_⟩
  simp only [fdOf, List.length_map, List.length_range] at hi
  have c := o8.cellAt i (by omega)
  have ow := r.own i (by omega)
  rw [(h.dn i hi).1] at ow
  refine ⟨(rs i).v, ?_, ?_⟩
  ·rw [c, List.getElem?_map, List.getElem?_range hi]
   rfl
  ·have e : ((fdOf l Ls).ls.getD i []) = Ls i := by
    simp [fdOf, List.getD_eq_getElem?_getD, List.getElem?_range hi]
   rw [e]
   exact runsAt_own ow
 ·have o7 := r.own 7 (by decide)
  rw [h.lo] at o7
  simp only at o7
  have el : (fdOf l Ls).lo.length = m.length := by show (loL l).length = _; rw [← h.ms]; simp
  by_cases h0 : m.length = 0
  ·obtain ⟨ad, c, e⟩ := own_sliceK o7
   rcases o7.2 with ⟨e2, _⟩ | ⟨g, cap, cur, e2, _⟩
   ·rw [e2]
    exact .inl ⟨0, rfl, List.length_eq_zero_iff.1 (by rw [el]; exact h0)⟩
   ·rw [e2]
    exact .inr ⟨g, cap, by rw [el], fun i hi => by rw [el, h0] at hi; omega⟩
  ·obtain ⟨g, cap, ev, hg, _⟩ := o7.form (by omega)
   rw [ev] at o7 ⊢
   refine .inr ⟨g, cap, by rw [el], fun i hi => ?_⟩
   rw [el] at hi
   have em : (fdOf l Ls).lo.getD i (false, [], []) = (m[i]'hi).1 := by
    show (loL l).getD i (false, [], []) = _
    rw [← h.ms]
    simp [List.getD_eq_getElem?_getD, hi]
   obtain ⟨p1, p2⟩ := ro _ (List.getElem_mem hi)
   rw [em]
   obtain ⟨q0, q1, q2⟩ := cellsO_at m i hi
   refine ⟨_, _, ?_, ?_, ?_, p1.own.runs, p2.own.runs⟩
   ·rw [o7.cellAt (i * 3) (by omega)]; exact q0
   ·rw [o7.cellAt (i * 3 + 1) (by omega)]; exact q1
   ·rw [o7.cellAt (i * 3 + 2) (by omega)]; exact q2
end Go.Proofs.YtcooaoponkkpeaaGreatDoor
