import Derived.Test.YtjdnejglapnbbaaGreatDoorRlS
import Derived.Test.YtjdnejglapnbbaaGreatDoorGJe
namespace Go.Proofs.YtjdnejglapnbbaaGreatDoor
open Go.RowKit Go.Shelf
set_option linter.unusedVariables false
set_option linter.unusedSimpArgs false
theorem own_sliceK {w : World} {base : Nat} {e : TypeId} {size : Nat} {v : Value} {n : Nat} {xs : List Value} (h : w.ownsRow base e size v n xs) : ∃ ad c, v = .slice ad n c := by
 rcases h.2 with ⟨rfl, rfl⟩ | ⟨g, cap, _, rfl, _⟩
 ·exact ⟨_, _, rfl⟩
 ·exact ⟨_, _, rfl⟩
theorem grown_refl (w : World) (row : Option Nat) : w.grownBy w row := ⟨rfl, rfl, rfl, Nat.le_refl _, fun _ _ _ => rfl⟩
theorem run_index_sl {t e : TypeId} {n : Nat} {cs : Array Value} {k : Nat} {u : Value} {i : TypeInfo} (w : World) (h : Tryz.prog.underlying t = some (.array n e)) (hk : k < n) (ha : ∀ w, (isAgg e).run Tryz.prog w = .ok false w) (hi : Tryz.prog.info? e = some i) (hs : Tryz.prog.cellsOf e = 1) (hc : cs[k]? = some u) :
  (Instr.index t (.agg cs) (.int .i64 k)).run Tryz.prog w = .ok u w := by
 simp [Instr.index, run_underlying h, asIntOf, hk, run_sizeOf w hi, hs, part, ha, hc]
theorem wpList_index_sl {ops : Array Oper} {rest : List Oper} {o : Oper} {a : Act} {w : World} {Q : Exit → Act → World → Prop} (hgd : o.guard = none) (t e : TypeId) (x y : Operand) (ho : o.op = .index t x y) (n : Nat) (cs : Array Value) (k : Nat) (u : Value) (i : TypeInfo)
  (hx : a.eval x = .agg cs) (hy : a.eval y = .int .i64 k) (h : Tryz.prog.underlying t = some (.array n e)) (hk : k < n) (ha : ∀ w, (isAgg e).run Tryz.prog w = .ok false w) (hi : Tryz.prog.info? e = some i) (hs : Tryz.prog.cellsOf e = 1) (hc : cs[k]? = some u)
  (g : wpList Tryz.prog ops Q rest (a.put o.dst u) w) : wpList Tryz.prog ops Q (o :: rest) a w := by
 refine wpList_plain hgd fun K hK => ?_
 unfold Oper.wp execOp
 simp only [ho, hx, hy, Sem.run_bind, Sem.run_pure, Result.andThen_ok, run_index_sl w h hk ha hi hs hc]
 exact hK _ _ g
theorem prs_info : ∃ i, Tryz.prog.info? 49 = some i := Option.isSome_iff_exists.1 (by kernel_rfl)
theorem prs_cells : Tryz.prog.cellsOf 49 = 1 := by kernel_rfl
theorem six_info : (Tryz.prog.info? 109).map (·.size) = some 6 := by kernel_rfl
theorem psortV {base n : Nat} {v : Value} (L : List R) (w : World) (h : w.ownsRow base 35 2 v n (cellsR L)) (hl : L.length = n) (hn : n ≤ 1000000) :
  Calls Tryz.prog 86 #[v, .func (.func 87) #[] #[]] w fun ex w' => ∃ L' : List R, ex = .returned (.tuple #[]) ∧ L'.length = n ∧ (∀ p, p ∈ L' ↔ p ∈ L) ∧ (L'.Pairwise fun a b => a.1 ≤ b.1) ∧ w'.ownsRow base 35 2 v n (cellsR L') ∧ w.grownBy w' v.ownBlock := by
 rcases h.2 with ⟨rfl, rfl⟩ | ⟨g, cap, cur, rfl, _⟩
 ·refine (psort_nil w).mono ?_
  rintro e w' ⟨rfl, rfl⟩
  have : L = [] := List.length_eq_zero_iff.1 hl
  subst this
  exact ⟨[], rfl, rfl, fun _ => Iff.rfl, List.Pairwise.nil, h, grown_refl _ _⟩
 ·subst hl
  refine (psort_any L w h hn).mono ?_
  rintro e w' ⟨rfl, L', h1, h2, h3, h4, h5⟩
  exact ⟨L', rfl, h1, h2, h3, h4, h5⟩
theorem compact_nil (w : World) : Calls Tryz.prog 89 #[.slice none 0 0] w fun e w' => e = .returned (.slice none 0 0) ∧ w' = w := by
 go_enter Tryz.func89, Tryz.ntmps89
 go_wp2
 go_ret
 exact ⟨rfl, rfl⟩
theorem compactV {base n : Nat} {v : Value} (L : List R) (w : World) (h : w.ownsRow base 35 2 v n (cellsR L)) (hl : L.length = n) (hr : riseP L) (hn : n ≤ 1000000) :
  Calls Tryz.prog 89 #[v] w fun ex w' => ∃ (v' : Value) (L' : List R), ex = .returned v' ∧ L'.length ≤ n ∧ (∀ p, p ∈ L' ↔ p ∈ L) ∧ riseP L' ∧ w'.ownsRow base 35 2 v' L'.length (cellsR L') ∧ v'.ownBlock = v.ownBlock ∧ w.grownBy w' v.ownBlock := by
 rcases h.2 with ⟨rfl, rfl⟩ | ⟨g, cap, cur, rfl, _⟩
 ·refine (compact_nil w).mono ?_
  rintro e w' ⟨rfl, rfl⟩
  have : L = [] := List.length_eq_zero_iff.1 hl
  subst this
  exact ⟨_, [], rfl, Nat.le_refl _, fun _ => Iff.rfl, hr, h, rfl, grown_refl _ _⟩
 ·subst hl
  refine (compact_any L w h hr hn).mono ?_
  rintro e w' ⟨v', rfl, L', rfl, h1, h2, h3, h4, h5⟩
  exact ⟨_, L', rfl, h1, h2, h3, h4, rfl, h5⟩
theorem compactW {P : Prop} {base n : Nat} {v : Value} (L : List R) (w : World) (hP : P) (h : w.ownsRow base 35 2 v n (cellsR L)) (hl : L.length = n) (hr : riseP L) (hn : n ≤ 1000000) :
  Calls Tryz.prog 89 #[v] w fun ex w' => ∃ (v' : Value) (L' : List R), ex = .returned v' ∧ L'.length ≤ n ∧ (∀ p, p ∈ L' ↔ p ∈ L) ∧ riseP L' ∧ w'.ownsRow base 35 2 v' L'.length (cellsR L') ∧ v'.ownBlock = v.ownBlock ∧ w.grownBy w' v.ownBlock ∧ P :=
 (compactV L w h hl hr hn).mono fun e w' ⟨v', L', h1, h2, h3, h4, h5, h6, h7⟩ => ⟨v', L', h1, h2, h3, h4, h5, h6, h7, hP⟩
theorem putD_v (rs : Nat → RowD) (i : Nat) (r : RowD) : (putD rs i r i).v = r.v := by rw [putD_at]
theorem grown_row {rs : Nat → RowD} {i : Nat} {v : Value} {w w' : World} (h : (rs i).v = v) (g : w.grownBy w' v.ownBlock) : w.grownBy w' (rs i).v.ownBlock := by rw [h]; exact g
theorem putD_twice (rs : Nat → RowD) (i : Nat) (a b : RowD) : putD (putD rs i a) i b = putD rs i b := by
 funext x
 by_cases e : x = i
 ·subst e; rw [putD_at, putD_at]
 ·rw [putD_ne _ _ e, putD_ne _ _ e, putD_ne _ _ e]
structure SLx (W : World) (rs : Nat → RowD) (w : World) : Prop where
 kp : Kp W w
 b2 : w.heap[W.heap.size]? = some (.cells #[.slice none 0 0, .slice none 0 0] 61 (0, 0))
 b6 : w.heap[W.heap.size + 2]? = some (.cells #[(rs 8).v, (rs 7).v] 61 (0, 0))
 sz : W.heap.size + 3 ≤ w.heap.size
 rws : Rws w (W.heap.size + 3) 9 rs
theorem SBx.slx {W w : World} {rs : Nat → RowD} (h : SBx W rs w) : SLx W rs w := ⟨h.kp, h.b2, h.b6, h.sz, h.rws⟩
theorem SLx.go {W w w' : World} {rs : Nat → RowD} (h : SLx W rs w) (k : Kp w w') : SLx W rs w' :=
 ⟨h.kp.trans k, heap_block k h.b2, heap_block k h.b6, Nat.le_trans h.sz k.size, h.rws.kp k⟩
theorem SLx.far {W w : World} {rs : Nat → RowD} (h : SLx W rs w) {i : Nat} (hi : i < 9) {k : Nat} (hk : k < W.heap.size + 3) : (rs i).v.ownBlock ≠ some k := fun e => by
 have := (h.rws.lt hi k e).1
 omega
theorem SLx.putP {W w w' : World} {rs : Nat → RowD} (h : SLx W rs w) {i : Nat} (hi : i < 6) {r : RowD} (own : w'.ownsRow (W.heap.size + 3) r.t r.k r.v r.n r.xs) (g : w.grownBy w' (rs i).v.ownBlock) (at_ : r.v.ownBlock = (rs i).v.ownBlock) : SLx W (putD rs i r) w' := by
 have k1 : Kp W w' := h.kp.grown g fun j hj => by have := (h.rws.lt (by omega) j hj).1; omega
 have s1 := g.size
 refine ⟨k1, ?_, ?_, ?_, ?_⟩
 ·exact grown_heap g h.b2 (h.far (by omega) (by omega))
 ·rw [putD_ne _ _ (by omega), putD_ne _ _ (by omega)]; exact grown_heap g h.b6 (h.far (by omega) (by omega))
 ·have := h.sz; omega
 ·exact h.rws.put (by omega) own g (.inl at_)
theorem SLx.putL {W w w' : World} {rs : Nat → RowD} (h : SLx W rs w) {r : RowD} (own : w'.ownsRow (W.heap.size + 3) r.t r.k r.v r.n r.xs) (g : w.grownBy w' (rs 8).v.ownBlock) (at_ : r.v.ownBlock = (rs 8).v.ownBlock ∨ r.v.ownBlock = none ∨ ∃ b, r.v.ownBlock = some b ∧ w.heap.size ≤ b) :
  SLx W (putD rs 8 r) (w'.setCell ⟨W.heap.size + 2, 0, none⟩ r.v) := by
 have k1 : Kp W w' := h.kp.grown g fun j hj => by have := (h.rws.lt (by omega) j hj).1; omega
 have s1 := g.size
 refine ⟨kp_setCell2 k1 (by omega) _, ?_, ?_, ?_, ?_⟩
 ·rw [bx_other1 (by omega)]; exact grown_heap g h.b2 (h.far (by omega) (by omega))
 ·exact bx_heap1 (grown_heap g h.b6 (h.far (by omega) (by omega))) _ _
 ·have := h.sz; simp [World.setCell]; omega
 ·exact (h.rws.put (by omega) own g at_).setCell (by simp) _
noncomputable def loL (l : List LF) : List LO := lsL l ++ (if (dyL l).length = 0 then [] else [(true, nf (dyL l), nf (dyL l))])
structure SRe (l : List LF) (vs : Nat → Value) (k : Nat) (rs : Nat → RowD) (Ls : Nat → List R) (m : List OV) : Prop where
 pr : ∀ u : Nat, k ≤ u → u < 6 → rs u = ⟨35, 2, vs u, (prL l u).length, cellsR (prL l u)⟩
 dn : ∀ u : Nat, u < k → rs u = ⟨35, 2, (rs u).v, (Ls u).length, cellsR (Ls u)⟩ ∧ (∀ p, p ∈ Ls u ↔ p ∈ prL l u) ∧ riseP (Ls u) ∧ (Ls u).length ≤ (prL l u).length
 lo : rs 7 = ⟨111, 3, (rs 7).v, m.length, cellsO m⟩
 li : rs 8 = ⟨118, 1, (rs 8).v, k, (List.range k).map fun u => (rs u).v⟩
 ms : m.map Prod.fst = loL l
theorem riseP_sorted {l : List LF} {u : Int} {L : List R} (hm : ∀ p, p ∈ L ↔ p ∈ prL l u) (hs : L.Pairwise fun a b => a.1 ≤ b.1) : riseP L := by
 unfold riseP
 exact List.Pairwise.imp_of_mem (fun ha hb h => ⟨h, prL_rise ((hm _).1 ha) ((hm _).1 hb) h⟩) hs
theorem SRe.start0 {l : List LF} {rs : Nat → RowD} {m : List OV} (h : SRd l rs m) (hd : (dyL l).length = 0) : SRe l (fun u => (rs u).v) 0 rs (fun _ => []) m :=
 ⟨fun u _ h6 => h.pr u h6, fun u hu => by omega, h.lo, by rw [h.li]; rfl, by rw [h.ms]; unfold loL; rw [if_pos hd]; simp⟩
theorem SRe.start1 {l : List LF} {rs : Nat → RowD} {m : List OV} (h : SRd l rs m) (hd : ¬ (dyL l).length = 0) (r6 : RowD) (v v1 v2 : Value) :
  SRe l (fun u => (rs u).v) 0 (putD (putD rs 6 r6) 7 ⟨111, 3, v, (m ++ [((true, nf (dyL l), nf (dyL l)), (v1, v2))]).length, cellsO (m ++ [((true, nf (dyL l), nf (dyL l)), (v1, v2))])⟩) (fun _ => []) (m ++ [((true, nf (dyL l), nf (dyL l)), (v1, v2))]) := by
 refine ⟨fun u _ h6 => ?_, fun u hu => by omega, by rw [putD_at], ?_, ?_⟩
 ·rw [putD_ne _ _ (by omega), putD_ne _ _ (by omega)]; exact h.pr u h6
 ·rw [putD_ne _ _ (by omega), putD_ne _ _ (by omega), h.li]; rfl
 ·unfold loL
  rw [List.map_append, h.ms, if_neg hd]
  rfl
theorem SRe.next {l : List LF} {vs : Nat → Value} {k : Nat} {rs : Nat → RowD} {Ls : Nat → List R} {m : List OV} (h : SRe l vs k rs Ls m) (hk : k < 6) {v v8 : Value} {L : List R} (hm : ∀ p, p ∈ L ↔ p ∈ prL l k) (hr : riseP L) (hl : L.length ≤ (prL l k).length) :
  SRe l vs (k + 1) (putD (putD rs k ⟨35, 2, v, L.length, cellsR L⟩) 8 ⟨118, 1, v8, k + 1, ((List.range k).map fun u => (rs u).v) ++ [v]⟩) (fun u => if u = k then L else Ls u) m := by
 refine ⟨fun u h1 h2 => ?_, fun u hu => ?_, ?_, ?_, h.ms⟩
 ·rw [putD_ne _ _ (by omega), putD_ne _ _ (by omega)]
  exact h.pr u (by omega) h2
 ·rw [putD_ne _ _ (by omega)]
  by_cases e : u = k
  ·subst e
   rw [putD_at, if_pos rfl]
   exact ⟨rfl, hm, hr, hl⟩
  ·rw [putD_ne _ _ e, if_neg e]
   exact h.dn u (by omega)
 ·rw [putD_ne _ _ (by omega), putD_ne _ _ (by omega)]
  exact h.lo
 ·rw [putD_at, List.range_succ, List.map_append]
  have e1 : ((List.range k).map fun u => (rs u).v) = (List.range k).map fun u => (putD (putD rs k ⟨35, 2, v, L.length, cellsR L⟩) 8 ⟨118, 1, v8, k + 1, ((List.range k).map fun u => (rs u).v) ++ [v]⟩ u).v := by
   apply List.map_congr_left
   intro u hu
   have := List.mem_range.1 hu
   rw [putD_ne _ _ (by omega), putD_ne _ _ (by omega)]
  rw [← e1]
  simp only [List.map_cons, List.map_nil]
  rw [putD_ne _ _ (by omega), putD_at]
noncomputable def fdOf (l : List LF) (Ls : Nat → List R) : FdD := ⟨(List.range 6).map Ls, loL l⟩
theorem dyL_pos {l : List LF} (hd : ¬ (dyL l).length = 0) : 0 < (nf (dyL l)).length := by
 have : ∃ r, r ∈ dyL l := by
  cases h : dyL l with
  | nil => rw [h] at hd; simp at hd
  | cons r _ => exact ⟨r, by simp⟩
 obtain ⟨r, hr⟩ := this
 obtain ⟨f, hf, hr2⟩ := List.mem_flatMap.1 hr
 have sn : sane (dyF f) := by
  unfold dyF
  split
  ·exact starts_sane (famR_ok f)
  ·exact trivial
 obtain ⟨i, hi, e⟩ := List.getElem_of_mem hr2
 have m1 := (memR_at sn hi).1
 have m2 : memR (dyL l) (at_ (dyF f) i).1 := by
  obtain ⟨q, hq, h1⟩ := m1
  exact ⟨q, List.mem_flatMap.2 ⟨f, hf, hq⟩, h1⟩
 exact mem_pos ((nf_mem _ _).2 m2)
theorem fdOf_has {l : List LF} {vs : Nat → Value} {rs : Nat → RowD} {Ls : Nat → List R} {m : List OV} (h : SRe l vs 6 rs Ls m) (hb : okAll l = true) (S T : Int) : fdP (fdOf l Ls) S T ↔ hasL l S T = true := by
 rw [has_parts (okAll_iff hb)]
 unfold fdP fdOf loL
 simp only [List.mem_map, List.mem_range, List.mem_append]
 constructor
 ·rintro (⟨L, ⟨u, hu, rfl⟩, g⟩ | ⟨x, hx | hx, g⟩)
  ·exact .inr (.inl ⟨u, hu, ((h.dn u hu).2.1 _).1 g⟩)
  ·exact .inr (.inr ⟨x, hx, g⟩)
  ·split at hx
   ·cases hx
   ·rw [List.mem_singleton.1 hx] at g
    obtain ⟨rfl, g2⟩ := ls_t g
    exact .inl ⟨rfl, (nf_mem _ _).1 g2⟩
 ·rintro (⟨rfl, g⟩ | ⟨u, hu, g⟩ | ⟨x, hx, g⟩)
  ·refine .inr ⟨(true, nf (dyL l), nf (dyL l)), .inr ?_, ls_mkt ((nf_mem _ _).2 g)⟩
   rw [if_neg (fun e => by have := mem_pos g; omega)]
   simp
  ·exact .inl ⟨Ls u, ⟨u, hu, rfl⟩, ((h.dn u hu).2.1 _).2 g⟩
  ·exact .inr ⟨x, .inl hx, g⟩
theorem fdOf_ok {l : List LF} {vs : Nat → Value} {rs : Nat → RowD} {Ls : Nat → List R} {m : List OV} (h : SRe l vs 6 rs Ls m) (hb : okAll l = true) (hn : l.length ≤ 100) : FdOk (fdOf l Ls) := by
 have ob := okAll_iff hb
 refine ⟨?_, ?_, ?_, ?_, by simp [fdOf], ?_⟩
 ·intro L hL
  simp only [fdOf, List.mem_map, List.mem_range] at hL
  obtain ⟨u, hu, rfl⟩ := hL
  exact (h.dn u hu).2.2.1
 ·intro L hL S T hp
  simp only [fdOf, List.mem_map, List.mem_range] at hL
  obtain ⟨u, hu, rfl⟩ := hL
  exact prL_bd (((h.dn u hu).2.1 _).1 hp)
 ·intro L hL
  simp only [fdOf, List.mem_map, List.mem_range] at hL
  obtain ⟨u, hu, rfl⟩ := hL
  have := (h.dn u hu).2.2.2
  have := len_prL u l fun f hf => (ob f hf).1
  omega
 ·intro x hx
  simp only [fdOf, loL, List.mem_append] at hx
  rcases hx with hx | hx
  ·have := ls_span ob x hx
   exact ⟨this.1, by omega, by omega⟩
  ·split at hx
   ·cases hx
   ·rename_i hd
    rw [List.mem_singleton.1 hx]
    have a := nf_len (dyL l)
    have b := len_dyL l
    exact ⟨ls_days (fun f hf => (ob f hf).1) (dyL_pos hd), by simp only; omega, by simp only; omega⟩
 ·have := len_lsL l
  simp only [fdOf, loL, List.length_append]
  split <;> simp <;> omega
theorem cellsO_at : ∀ (m : List OV) (i : Nat) (h : i < m.length), (cellsO m)[i * 3]? = some (.bool (m[i]'h).1.1) ∧ (cellsO m)[i * 3 + 1]? = some (m[i]'h).2.1 ∧ (cellsO m)[i * 3 + 2]? = some (m[i]'h).2.2
 | [], i, h => by simp at h
 | p :: m, 0, h => ⟨rfl, rfl, rfl⟩
 | p :: m, i + 1, h => by
  have e : cellsO (p :: m) = .bool p.1.1 :: p.2.1 :: p.2.2 :: cellsO m := rfl
  obtain ⟨a, b, c⟩ := cellsO_at m i (by simpa using h)
  rw [e, show (i + 1) * 3 = i * 3 + 1 + 1 + 1 by omega]
  exact ⟨a, b, c⟩
theorem fdOf_at {W w : World} {l : List LF} {vs : Nat → Value} {rs : Nat → RowD} {Ls : Nat → List R} {m : List OV} (h : SRe l vs 6 rs Ls m) (r : Rws w (W.heap.size + 3) 9 rs) (ro : ReadsO w (W.heap.size + 3) 9 rs m) : FdAt w (.agg #[(rs 8).v, (rs 7).v]) (fdOf l Ls) := by
 refine ⟨_, _, rfl, ?_, ?_⟩
 ·have o8 := r.own 8 (by decide)
  rw [h.li] at o8
  simp only at o8
  obtain ⟨g, cap, ev, hg, _⟩ := o8.form (by decide)
  rw [ev] at o8 ⊢
  refine ⟨g, cap, by simp [fdOf], fun i hi => ?_⟩
  simp only [fdOf, List.length_map, List.length_range] at hi
  have c := o8.cellAt i (by omega)
  have ow := r.own i (by omega)
  rw [(h.dn i hi).1] at ow
  refine ⟨(rs i).v, ?_, ?_⟩
  ·rw [c, List.getElem?_map, List.getElem?_range hi]
   rfl
  ·have e : ((fdOf l Ls).ls.getD i []) = Ls i := by
    simp [fdOf, List.getD_eq_getElem?_getD, List.getElem?_range hi]
   rw [e]
   exact runsAt_own ow
 ·have o7 := r.own 7 (by decide)
  rw [h.lo] at o7
  simp only at o7
  have el : (fdOf l Ls).lo.length = m.length := by show (loL l).length = _; rw [← h.ms]; simp
  by_cases h0 : m.length = 0
  ·obtain ⟨ad, c, e⟩ := own_sliceK o7
   rcases o7.2 with ⟨e2, _⟩ | ⟨g, cap, cur, e2, _⟩
   ·rw [e2]
    exact .inl ⟨0, rfl, List.length_eq_zero_iff.1 (by rw [el]; exact h0)⟩
   ·rw [e2]
    exact .inr ⟨g, cap, by rw [el], fun i hi => by rw [el, h0] at hi; omega⟩
  ·obtain ⟨g, cap, ev, hg, _⟩ := o7.form (by omega)
   rw [ev] at o7 ⊢
   refine .inr ⟨g, cap, by rw [el], fun i hi => ?_⟩
   rw [el] at hi
   have em : (fdOf l Ls).lo.getD i (false, [], []) = (m[i]'hi).1 := by
    show (loL l).getD i (false, [], []) = _
    rw [← h.ms]
    simp [List.getD_eq_getElem?_getD, hi]
   obtain ⟨p1, p2⟩ := ro _ (List.getElem_mem hi)
   rw [em]
   obtain ⟨q0, q1, q2⟩ := cellsO_at m i hi
   refine ⟨_, _, ?_, ?_, ?_, p1.own.runs, p2.own.runs⟩
   ·rw [o7.cellAt (i * 3) (by omega)]; exact q0
   ·rw [o7.cellAt (i * 3 + 1) (by omega)]; exact q1
   ·rw [o7.cellAt (i * 3 + 2) (by omega)]; exact q2
end Go.Proofs.YtjdnejglapnbbaaGreatDoor
