import Derived.Test.YtajllgjfndfdjaaGreatDoorGCnA
import Derived.Test.YtajllgjfndfdjaaGreatDoorGPrA
import Derived.Test.YtajllgjfndfdjaaGreatDoorGTr
namespace Go.Proofs.YtajllgjfndfdjaaGreatDoor
set_option linter.unusedVariables false
set_option linter.unusedSimpArgs false
theorem canF_yes {n : ND} (h : saneN saneP n = true) : canF n = canN n := by unfold canF; rw [if_pos h]
theorem canF_no {n : ND} (h : saneN saneP n = false) : canF n = nd0 := by unfold canF; rw [h]; rfl
open Go.RowKit Go.Shelf
theorem set8 {w : World} {B : Nat} {t : TypeId} {fr : Nat × Nat} {a0 a1 a2 a3 a4 a5 a6 a7 : Value} (b0 b1 b2 b3 b4 b5 b6 b7 : Value) (h : w.heap[B]? = some (.cells #[a0, a1, a2, a3, a4, a5, a6, a7] t fr)) :
  (w.setCells B 0 [b0, b1, b2, b3, b4, b5, b6, b7]).heap[B]? = some (.cells #[b0, b1, b2, b3, b4, b5, b6, b7] t fr) := by
 have := ch_heap (ch_heap (ch_heap (ch_heap (ch_heap (ch_heap (ch_heap (ch_heap h 0 b0) 1 b1) 2 b2) 3 b3) 4 b4) 5 b5) 6 b6) 7 b7
 simpa [World.setCells] using this
theorem own_other {w : World} {base : Nat} {e : TypeId} {size : Nat} {v : Value} {n : Nat} {xs : List Value} {B : Nat} (h : w.ownsRow base e size v n xs) (hn : ∀ j, v.ownBlock = some j → j ≠ B) : ∀ (cs : List Value) (o : Nat), (w.setCells B o cs).ownsRow base e size v n xs
 | [], _ => h
 | c :: cs, o => own_other (w := w.setCell ⟨B, o, none⟩ c) (h.kept (setCell_grown w B o c) (by
   cases hv : v.ownBlock with
   | none => exact .inl rfl
   | some k => exact .inr fun e => by cases e; exact hn _ hv rfl)) hn cs (o + 1)
theorem own_srcN {w : World} {base : Nat} {e : TypeId} {v : Value} {m : List NV} (h : w.ownsRow base e 8 v m.length (cellsN m)) : SrcAt w v m.length (cellsN m) := by
 rcases h.2 with ⟨e1, h0⟩ | ⟨g, cp, cur, rfl, _⟩
 ·have : m = [] := List.length_eq_zero_iff.1 h0
  subst this
  exact .inl ⟨_, _, e1, rfl, rfl⟩
 ·refine .inr ⟨_, _, rfl, fun j u hu => ?_⟩
  have hj : j < m.length * 8 := by
   have := (List.getElem?_eq_some_iff.1 hu).1
   rwa [cellsN_length] at this
  rw [Addr.add_lit, Nat.zero_add, h.cellAt _ hj]
  exact hu
def CanAt (w0 w : World) (base : Nat) (c : ND) (v : Value) : Prop := (¬ c.k = 2 → NodesAt w0 v c.l) ∧ (c.k = 2 → RowsN w0 w base v c.l)
theorem CanAt.nodes {w0 w : World} {base : Nat} {c : ND} {v : Value} (h : CanAt w0 w base c v) (k : Kp w0 w) : NodesAt w v c.l := by
 by_cases hk : c.k = 2
 ·exact (h.2 hk).nodes k
 ·exact (h.1 hk).kp k
set_option maxHeartbeats 16000000 in
set_option maxRecDepth 100000 in
theorem cflat_any (w0 : World) (v : Value) (l : List ND) (hh : ∃ ad cp, v = .slice ad l.length cp ∧ (0 < l.length → ∃ b off, ad = some ⟨b, off, none⟩ ∧ ∀ i, i < l.length → ∃ vi, RowN w0 b (off + i * 8) (nth l i) vi ∧ NodesAt w0 vi (nth l i).l ∧ (fun v l => NodesAt w0 v l → ∀ (k : Int) (p : PT) (a t : Bool) (w : World), Kp w0 w → Calls Tryz.prog 8 #[ndV (.mk k p a t l) v] w fun e w' => ∃ v' : Value, e = .returned (ndV (canF (.mk k p a t l)) v') ∧ CanAt w0 w' w.heap.size (canF (.mk k p a t l)) v' ∧ Kp w w') vi (nth l i).l)) : ∀ (w : World), Kp w0 w → Sns l → cntL l ≤ 64 →
  Calls Tryz.prog 22 #[v] w fun e w' => ∃ v' : Value, e = .returned v' ∧ RowsN w0 w' w.heap.size v' (flL l) ∧ Kp w w' := by
 obtain ⟨ad0, cp0, rfl, hrow⟩ := hh
 intro w k0 hs hc
 obtain ⟨i0, hi, hz0, hz1, hz2⟩ := info_parts infoNode
 have ll : l.length ≤ 64 := by have := len_cntL l; omega
 have HR := Lib.hid hrow
 have K0 := Lib.hid k0
 have SN := Lib.hid (fun i (hi : i < l.length) => hs _ (nth_mem hi))
 have TK := Lib.hid (fun i (hi : i < l.length) => flL_take hi)
 have T0 := Lib.hid (show flL (l.take 0) = [] by rw [List.take_zero]; rfl)
 have TL := Lib.hid (show l.take l.length = l from List.take_length)
 have LB := Lib.hid (fun i => show (flL (l.take i)).length ≤ 64 by
  have g : ∀ m : List ND, Sns m → (flL m).length ≤ cntL m := by
   intro m
   induction m with
   | nil => intro _; simp [flL]
   | cons x m ih =>
    intro h
    have a := ih fun y hy => h y (by simp [hy])
    have b := parts_len (h x (by simp))
    unfold flL at a ⊢
    simp only [List.flatMap_cons, List.length_append, cntL]
    omega
  have a := g (l.take i) (fun y hy => hs y (List.mem_of_mem_take hy))
  have c := cntL_append (l.take i) (l.drop i)
  rw [List.take_append_drop] at c
  omega)
 have LP := Lib.hid (fun i (hi : i < l.length) => show (partsN (canN (nth l i))).length ≤ 64 by
  have a := parts_len (hs _ (nth_mem hi))
  have b := (cn_right (hs _ (nth_mem hi))).2
  omega)
 obtain ⟨FL, hFL⟩ : ∃ x, flL l = x := ⟨_, rfl⟩
 rw [hFL]
 have HFL := Lib.hid hFL
 have KW := Lib.hid (Kp.refl w)
 clear hrow k0 hs hc hFL
 go_enter Tryz.func22, Tryz.ntmps22
 go_wp2
 go_loopw [3, 8] (fun s i ws => ∃ (j : Nat) (ms : List NV), j ≤ l.length ∧ i = .int .i64 j ∧ Hid (ms.map Prod.fst = flL (l.take j)) ∧ Hid (ReadsN w0 ms) ∧ Hid (ws.ownsRow w.heap.size 26 8 s ms.length (cellsN ms)) ∧ Hid (Kp w ws)) (fun _ i _ => l.length - (intOf i).toNat)
 case atStart => exact ⟨0, [], Nat.zero_le _, rfl, Lib.hid T0.out.symm, Lib.hid (by intro p hp; cases hp), Lib.hid (World.ownsRow_nil _ _ _ _), KW⟩
 case round =>
  obtain ⟨j, ms, hj, rfl, MJ, RJ, OJ, KJ⟩ := hrel
  obtain ⟨sad, scp, rfl⟩ := own_slice8 OJ.out
  by_cases hlt : j < l.length
  ·obtain ⟨bk, off, rfl, hall⟩ := HR.out (by omega)
   obtain ⟨vi, hrow, hsub, ih⟩ := hall j hlt
   have kw0 : Kp w0 wr := K0.out.trans KJ.out
   obtain ⟨e0, e1, e2, e3, e4, e5, e6, e7⟩ := hrow.kp kw0
   have sj := SN.out j hlt
   have tk := TK.out j hlt
   have lp := LP.out j hlt
   have lb := LB.out j
   obtain ⟨x, hx⟩ : ∃ x, nth l j = x := ⟨_, rfl⟩
   rw [hx] at e0 e1 e2 e3 e4 e5 e6 sj tk lp hsub ih
   have NL := Lib.hid (show ms.length ≤ 64 by have a := congrArg List.length MJ.out; rw [List.length_map] at a; omega)
   have IX := fun w1 (k1 : Kp w0 w1) => ih hsub x.k x.p x.a x.t w1 k1
   rw [← eta_nd x, canF_yes sj] at IX
   obtain ⟨c, hcx⟩ : ∃ c, canN x = c := ⟨_, rfl⟩
   rw [hcx] at IX tk lp
   have TKH := Lib.hid tk
   have LPH := Lib.hid lp
   clear hall hrow ih hx sj tk lp lb hcx
   obtain ⟨k1, ⟨pk1, y1, m1, q1⟩, a1, t1, l1⟩ := x
   simp only [ND.k, ND.p, ND.a, ND.t, ND.l] at e0 e1 e2 e3 e4 e5 e6 hsub
   obtain ⟨ad1, cp1, rfl⟩ := hsub.slice
   obtain ⟨n1, hn1⟩ : ∃ n, l1.length = n := ⟨_, rfl⟩
   rw [hn1] at e7
   (try unfold ndV at IX)
   simp only [ND.k, ND.p, ND.a, ND.t, ND.l, hn1] at IX
   obtain ⟨W5, hW5⟩ : ∃ x, x = wr.alloc (.cells #[.int .i64 k1, .int .i64 pk1, .string y1, .string m1, .string q1, .bool a1, .bool t1, .slice ad1 n1 cp1] 26) := ⟨_, rfl⟩
   have k5 : Kp wr W5 := by rw [hW5]; exact Kp.alloc _ _
   have g5 : W5.heap[wr.heap.size]? = some (.cells #[.int .i64 k1, .int .i64 pk1, .string y1, .string m1, .string q1, .bool a1, .bool t1, .slice ad1 n1 cp1] 26 (0, 0)) := by rw [hW5]; exact heap_at _ _ _ rfl
   have IXH := Lib.hid (IX W5 (kw0.trans k5))
   have HW5 := Lib.hid hW5
   have KJ5 := Lib.hid (KJ.out.trans k5)
   have OJ5 := Lib.hid (own_kp OJ.out k5)
   have LTJ := Lib.hid (fun j (hj : _ = some j) => (OJ.out.lt j hj).2)
   have G5 := Lib.hid g5
   have Z5 := Lib.hid (show wr.heap.size < W5.heap.size from (Array.getElem?_eq_some_iff.1 g5).1)
   have bw := Below.size KJ.out
   have z1 : (j : Int) < (l.length : Int) := by omega
   have z3 : (0 : Int) ≤ (j : Int) := by omega
   have HLT := Lib.hid hlt
   have hbk := World.block_lt_of_cell? _ _ e0
   simp only at hbk
   clear hsub IX kw0 k5 g5 hW5 hn1
   go_wp2_with fail
   rw [← HW5.out]
   obtain ⟨x0, x1, x2, x3, x4, x5, x6, x7⟩ := row8 G5.out
   go_wp2_with fail
   refine IXH.out.mono ?_
   rintro e w6 ⟨v6, rfl, ca6, k6⟩
   clear e0 e1 e2 e3 e4 e5 e6 e7 x0 x1 x2 x3 x4 x5 x6 x7
   obtain ⟨ad2, n2, cp2, hv6⟩ : ∃ ad n c, v6 = .slice ad n c := by
    obtain ⟨a, b, e⟩ := (ca6.nodes (K0.out.trans (KJ5.out.trans k6))).slice
    exact ⟨a, _, b, e⟩
   subst hv6
   obtain ⟨k2, ⟨pk2, y2, m2, q2⟩, a2, t2, l2⟩ := c
   (try unfold ndV)
   (try simp only [ND.k, ND.p, ND.a, ND.t, ND.l])
   (try dsimp only)
   have G6 := heap_block k6 G5.out
   have o6 := own_kp OJ5.out k6
   have c0 := (row8 G6)
   obtain ⟨W7, hW7⟩ : ∃ x, x = ((((((((w6.setCell ⟨wr.heap.size, 0, none⟩ (.int .i64 k2)).setCell ⟨wr.heap.size, 1, none⟩ (.int .i64 pk2)).setCell ⟨wr.heap.size, 2, none⟩ (.string y2)).setCell ⟨wr.heap.size, 3, none⟩ (.string m2)).setCell ⟨wr.heap.size, 4, none⟩ (.string q2)).setCell ⟨wr.heap.size, 5, none⟩ (.bool a2)).setCell ⟨wr.heap.size, 6, none⟩ (.bool t2)).setCell ⟨wr.heap.size, 7, none⟩ (.slice ad2 n2 cp2)) := ⟨_, rfl⟩
   have g7 : W7.heap[wr.heap.size]? = some (.cells #[.int .i64 k2, .int .i64 pk2, .string y2, .string m2, .string q2, .bool a2, .bool t2, .slice ad2 n2 cp2] 26 (0, 0)) := by rw [hW7]; exact set8 (.int .i64 k2) (.int .i64 pk2) (.string y2) (.string m2) (.string q2) (.bool a2) (.bool t2) (.slice ad2 n2 cp2) G6
   have k7 : Kp w W7 := by rw [hW7]; exact kp_sets bw [.int .i64 k2, .int .i64 pk2, .string y2, .string m2, .string q2, .bool a2, .bool t2, .slice ad2 n2 cp2] 0 (KJ5.out.trans k6)
   have o7 : W7.ownsRow w.heap.size 26 8 (.slice sad ms.length scp) ms.length (cellsN ms) := by rw [hW7]; exact own_other o6 (fun j hj e => by have := LTJ.out j hj; omega) [.int .i64 k2, .int .i64 pk2, .string y2, .string m2, .string q2, .bool a2, .bool t2, .slice ad2 n2 cp2] 0
   have ca7 : CanAt w0 W7 W5.heap.size (.mk k2 ⟨pk2, y2, m2, q2⟩ a2 t2 l2) (.slice ad2 n2 cp2) := ⟨ca6.1, fun h => by
    obtain ⟨m9, h1, h2, h3⟩ := ca6.2 h
    refine ⟨m9, h1, h2, ?_⟩
    rw [hW7]
    exact own_other h3 (fun j hj e => by have := (h3.lt j hj).1; have := Z5.out; omega) [.int .i64 k2, .int .i64 pk2, .string y2, .string m2, .string q2, .bool a2, .bool t2, .slice ad2 n2 cp2] 0⟩
   have z_0 : w6.frozen? ⟨wr.heap.size, 0, none⟩ = false := by simp [World.frozen?, G6]
   have z_1 : w6.frozen? ⟨wr.heap.size, 1, none⟩ = false := by simp [World.frozen?, G6]
   have z_2 : w6.frozen? ⟨wr.heap.size, 2, none⟩ = false := by simp [World.frozen?, G6]
   have z_3 : w6.frozen? ⟨wr.heap.size, 3, none⟩ = false := by simp [World.frozen?, G6]
   have z_4 : w6.frozen? ⟨wr.heap.size, 4, none⟩ = false := by simp [World.frozen?, G6]
   have z_5 : w6.frozen? ⟨wr.heap.size, 5, none⟩ = false := by simp [World.frozen?, G6]
   have z_6 : w6.frozen? ⟨wr.heap.size, 6, none⟩ = false := by simp [World.frozen?, G6]
   have z_7 : w6.frozen? ⟨wr.heap.size, 7, none⟩ = false := by simp [World.frozen?, G6]
   have HW7 := Lib.hid hW7
   have K7 := Lib.hid k7
   have O7 := Lib.hid o7
   have CA7 := Lib.hid ca7
   have G7 := Lib.hid g7
   have Z7 := Lib.hid (show wr.heap.size < W7.heap.size from (Array.getElem?_eq_some_iff.1 g7).1)
   obtain ⟨x0, x1, x2, x3, x4, x5, x6, x7⟩ := c0
   clear G6 o6 hW7 g7 k7 o7 ca7 ca6
   have Z8 := Lib.hid (show W7.heap.size = w6.heap.size by rw [HW7.out]; simp [World.setCell])
   by_cases hk2 : k2 = 2
   ·subst hk2
    obtain ⟨m9, h91, h92, h93⟩ := CA7.out.2 rfl
    obtain ⟨adx, cpx, hvx⟩ := own_slice8 h93
    cases hvx
    have SR9 := Lib.hid (own_srcN h93)
    have L9 := Lib.hid (cellsN_length m9)
    have ONE9 := Lib.hid (cellsN_one h92)
    have M9 := Lib.hid h91
    have R9 := Lib.hid h92
    have P9 := Lib.hid (show partsN (.mk 2 ⟨pk2, y2, m2, q2⟩ a2 t2 l2) = l2 from if_pos rfl)
    have c9 : m9.length = l2.length := by
     rw [← List.length_map (f := Prod.fst), h91]
     rfl
    have N9 := Lib.hid (show m9.length ≤ 64 from by
     have a := LPH.out
     rw [P9.out] at a
     rw [c9]
     exact a)
    clear c9
    clear h91 h92 h93
    go_wp2_with (at_builtin; refine Hid.out ?_)
    refine Lib.hid ?_
    rw [← HW7.out]
    refine wpList_app rfl (.tmp 17) (.tmp 19) 24 rfl w.heap.size 26 i0 (.agg #[.int .i64 0, .int .i64 0, .string ⟨#[]⟩, .string ⟨#[]⟩, .string ⟨#[]⟩, .bool false, .bool false, .slice none 0 0]) 8 96 Tryz.underlying24 hi hz0 hz1 hz2 rfl (by decide) _ _ _ rfl O7.out _ _ _ rfl SR9.out L9.out ONE9.out (by have a := NL.out; have b := N9.out; unfold maxLen; omega) (by have a := NL.out; have b := N9.out; omega) (Below.size K7.out) ?_
    intro v8 w8 own8 grow8 at8
    have K8 := Lib.hid (K7.out.grown grow8 (fun j hj => (O7.out.lt j hj).1)); have O8 := Lib.hid own8; clear grow8 at8 own8
    go_wp2
    go_roundw
    case rel => exact ⟨j + 1, ms ++ m9, HLT.out, by go_num, Lib.hid (by rw [List.map_append, MJ.out, M9.out, TKH.out, P9.out]; rfl), Lib.hid (RJ.out.append R9.out), Lib.hid (by rw [List.length_append, cellsN_append]; exact O8.out), K8⟩
    case measure => have := HLT.out; simp [intOf]; omega
   ·have qk : (k2 == 2) = false := beq_eq_false_iff_ne.2 hk2
    have P9 := Lib.hid (show partsN (.mk k2 ⟨pk2, y2, m2, q2⟩ a2 t2 l2) = [.mk k2 ⟨pk2, y2, m2, q2⟩ a2 t2 l2] from if_neg hk2)
    have R9 := Lib.hid (show ReadsN w0 [((.mk k2 ⟨pk2, y2, m2, q2⟩ a2 t2 l2 : ND), Value.slice ad2 n2 cp2)] by
     intro p hp
     rw [List.mem_singleton.1 hp]
     exact CA7.out.1 hk2)
    have SR9 := Lib.hid (one_srcN (w := W7) rfl (.mk k2 ⟨pk2, y2, m2, q2⟩ a2 t2 l2) (.slice ad2 n2 cp2) 26)
    simp only [ND.k, ND.p, ND.a, ND.t] at SR9
    rw [Z8.out] at SR9
    have L9 := Lib.hid (cellsN_length [((.mk k2 ⟨pk2, y2, m2, q2⟩ a2 t2 l2 : ND), Value.slice ad2 n2 cp2)])
    have ONE9 := Lib.hid (cellsN_one R9.out)
    have O7A := Lib.hid (own_kp O7.out (Kp.alloc W7 (.cells #[.int .i64 k2, .int .i64 pk2, .string y2, .string m2, .string q2, .bool a2, .bool t2, .slice ad2 n2 cp2] 26)))
    have K7A := Lib.hid (K7.out.trans (Kp.alloc W7 (.cells #[.int .i64 k2, .int .i64 pk2, .string y2, .string m2, .string q2, .bool a2, .bool t2, .slice ad2 n2 cp2] 26)))
    clear hk2
    go_wp2_with (at_builtin; refine Hid.out ?_)
    refine Lib.hid ?_
    rw [← HW7.out]
    refine wpList_app rfl (.tmp 21) (.tmp 23) 24 rfl w.heap.size 26 i0 (.agg #[.int .i64 0, .int .i64 0, .string ⟨#[]⟩, .string ⟨#[]⟩, .string ⟨#[]⟩, .bool false, .bool false, .slice none 0 0]) 8 96 Tryz.underlying24 hi hz0 hz1 hz2 rfl (by decide) _ _ _ rfl O7A.out _ _ _ rfl SR9.out L9.out ONE9.out (by have a := NL.out; have b := (show (1 : Nat) ≤ 64 by decide); unfold maxLen; omega) (by have a := NL.out; have b := (show (1 : Nat) ≤ 64 by decide); omega) (Below.size K7A.out) ?_
    intro v8 w8 own8 grow8 at8
    have K8 := Lib.hid (K7A.out.grown grow8 (fun j hj => (O7A.out.lt j hj).1)); have O8 := Lib.hid own8; clear grow8 at8 own8
    go_wp2
    go_roundw
    case rel => exact ⟨j + 1, ms ++ [((.mk k2 ⟨pk2, y2, m2, q2⟩ a2 t2 l2 : ND), Value.slice ad2 n2 cp2)], HLT.out, by go_num, Lib.hid (by rw [List.map_append, MJ.out, TKH.out, P9.out]; rfl), Lib.hid (RJ.out.append R9.out), Lib.hid (by rw [List.length_append, cellsN_append]; exact O8.out), K8⟩
    case measure => have := HLT.out; simp [intOf]; omega
  ·obtain rfl : j = l.length := by omega
   have mj := MJ.out
   rw [TL.out, HFL.out] at mj
   have MF := Lib.hid mj
   clear mj
   go_wp2
   go_ret
   exact ⟨_, rfl, ⟨ms, MF.out, RJ.out, OJ.out⟩, KJ.out⟩
theorem sns_list {p : PT} {a t : Bool} {l : List ND} (h : saneN saneP (.mk 2 p a t l) = true) : Sns l ∧ cntL l ≤ 64 := by
 have h0 := h
 unfold saneN at h
 simp only [Bool.and_eq_true, decide_eq_true_eq] at h
 obtain ⟨h1, h2, h3⟩ := h
 simp only [cntN, depN] at h1 h2
 refine ⟨fun x hx => ?_, by omega⟩
 have r : rightN saneP x = true := by
  rcases rightN_kind h3 with ⟨p', a', t', e', hp⟩ | ⟨x', z, e', hx, hz⟩ | ⟨x', l', e', hl⟩ <;> injection e' with e1 e2 e3 e4 e5
  ·omega
  ·omega
  ·rw [rightL_all] at hl
   rw [e5] at hx
   exact List.all_eq_true.1 hl x hx
 have ca : ∀ (l : List ND), x ∈ l → cntN x ≤ cntL l ∧ depN x ≤ depL l := by
  intro l
  induction l with
  | nil => intro h; cases h
  | cons y l ih =>
   intro h
   simp only [cntL, depL]
   rcases List.mem_cons.1 h with rfl | h
   ·omega
   ·have := ih h; omega
 have := ca l hx
 unfold saneN
 rw [r, decide_eq_true (by omega), decide_eq_true (by omega)]
 rfl
theorem flL_sns {l : List ND} {p : PT} {a t : Bool} (h : saneN saneP (.mk 2 p a t l) = true) : Sns (flL l) ∧ (flL l).length ≤ 64 ∧ cnS (flL l) = cnS (flRL l) := by
 obtain ⟨sn, c64⟩ := sns_list h
 have fs : Sns (flRL l) := by have := flR_sns h; rwa [flR_2] at this
 have hs : Sns (flL l) := fun y hy => fs y ((flL_mem sn y).1 hy)
 have g : ∀ m : List ND, Sns m → (flL m).length ≤ cntL m := by
  intro m
  induction m with
  | nil => intro _; simp [flL]
  | cons x m ih =>
   intro h
   have a := ih fun y hy => h y (by simp [hy])
   have b := parts_len (h x (by simp))
   unfold flL at a ⊢
   simp only [List.flatMap_cons, List.length_append, cntL]
   omega
 have := g l sn
 exact ⟨hs, by omega, cnS_ext hs fs (flL_mem sn)⟩
theorem can_2 {p : PT} {a t : Bool} {l : List ND} (h : saneN saneP (.mk 2 p a t l) = true) : canF (.mk 2 p a t l) = wrapC (cnS (flL l)) := by
 rw [canF_yes h, (flL_sns h).2.2]
 unfold canN
 rw [flR_2]
 exact if_pos rfl
theorem can_1 {k : Int} {p : PT} {a t : Bool} {l : List ND} (h : saneN saneP (.mk k p a t l) = true) (hk : ¬ k = 2) : canF (.mk k p a t l) = .mk k p a t l := by
 rw [canF_yes h]
 unfold canN
 exact if_neg hk
theorem cn_nolist {p : PT} {a t : Bool} {l : List ND} (h : saneN saneP (.mk 2 p a t l) = true) : ∀ x ∈ cnS (flL l), ¬ x.k = 2 := by
 intro x hx
 have hs := flL_sns h
 rw [cnS_mem hs.1, flL_mem (sns_list h).1] at hx
 have := (flR_facts (cn_right h).1).2.2 x (by rw [flR_2]; exact hx)
 exact this.2
set_option maxHeartbeats 16000000 in
set_option maxRecDepth 100000 in
theorem ccanon_no (w0 : World) (T : TabSH w0) (v : Value) (l : List ND) (k : Int) (p : PT) (a t : Bool) (w : World) (k0 : Kp w0 w) (NA : NodesAt w0 v l) (hs : saneN saneP (.mk k p a t l) = false) :
  Calls Tryz.prog 8 #[ndV (.mk k p a t l) v] w fun e w' => ∃ v' : Value, e = .returned (ndV nd0 v') ∧ CanAt w0 w' w.heap.size nd0 v' ∧ Kp w w' := by
 obtain ⟨ad0, cp0, rfl⟩ := NA.slice
 obtain ⟨pk, y, m, q⟩ := p
 have CZ := Lib.hid (show CanAt w0 w w.heap.size nd0 (.slice none 0 0) from ⟨fun _ => .none _ _, fun h => by simp [nd0, ND.k] at h⟩)
 have CS := Lib.hid (fun w1 (qq : Kp w w1) => tSaneG_any (.mk k ⟨pk, y, m, q⟩ a t l) (.slice ad0 l.length cp0) w1 (NA.kp (k0.trans qq)) (T.kp (k0.trans qq)))
 rw [hs] at CS
 clear hs
 unfold nd0 ndV at *
 simp only [ND.k, ND.p, ND.a, ND.t, ND.l] at *
 obtain ⟨W0, hW⟩ : ∃ x, x = (w.alloc (.cells #[.int .i64 k, .int .i64 pk, .string y, .string m, .string q, .bool a, .bool t, .slice ad0 l.length cp0] 26)).alloc (.cells #[.int .i64 0, .int .i64 0, .string ⟨#[]⟩, .string ⟨#[]⟩, .string ⟨#[]⟩, .bool false, .bool false, .slice none 0 0] 26) := ⟨_, rfl⟩
 have kw : Kp w W0 := by rw [hW]; exact (Kp.alloc _ _).trans (Kp.alloc _ _)
 have gB : W0.heap[w.heap.size]? = some (.cells #[.int .i64 k, .int .i64 pk, .string y, .string m, .string q, .bool a, .bool t, .slice ad0 l.length cp0] 26 (0, 0)) := by rw [hW]; exact heap_block (Kp.alloc _ _) (heap_at _ _ _ rfl)
 have gQ : W0.heap[w.heap.size + 1]? = some (.cells #[.int .i64 0, .int .i64 0, .string ⟨#[]⟩, .string ⟨#[]⟩, .string ⟨#[]⟩, .bool false, .bool false, .slice none 0 0] 26 (0, 0)) := by rw [hW]; exact heap_at _ _ _ (by simp)
 have GB := Lib.hid (fun w1 (qq : Kp W0 w1) => heap_block qq gB)
 have GQ := Lib.hid (fun w1 (qq : Kp W0 w1) => heap_block qq gQ)
 have KW := Lib.hid kw
 have HW := Lib.hid hW
 have K00 := Lib.hid k0
 clear hW gB gQ kw
 go_enter Tryz.func8, Tryz.ntmps8
 go_wp2_with fail
 rw [← HW.out]
 obtain ⟨x0, x1, x2, x3, x4, x5, x6, x7⟩ := row8 (GB.out _ (Kp.refl _))
 go_wp2_with fail
 refine (CS.out _ KW.out).mono ?_
 rintro e w1 ⟨rfl, kk⟩
 have K1 := Lib.hid kk
 have gq1 := GQ.out _ kk
 clear kk x0 x1 x2 x3 x4 x5 x6 x7
 obtain ⟨x0, x1, x2, x3, x4, x5, x6, x7⟩ := row8 (GB.out _ K1.out)
 obtain ⟨F, hF⟩ : ∃ x, x = ((((((((w1.setCell ⟨w.heap.size + 1, 0, none⟩ (.int .i64 0)).setCell ⟨w.heap.size + 1, 1, none⟩ (.int .i64 0)).setCell ⟨w.heap.size + 1, 2, none⟩ (.string ⟨#[]⟩)).setCell ⟨w.heap.size + 1, 3, none⟩ (.string ⟨#[]⟩)).setCell ⟨w.heap.size + 1, 4, none⟩ (.string ⟨#[]⟩)).setCell ⟨w.heap.size + 1, 5, none⟩ (.bool false)).setCell ⟨w.heap.size + 1, 6, none⟩ (.bool false)).setCell ⟨w.heap.size + 1, 7, none⟩ (.slice none 0 0)) := ⟨_, rfl⟩
 have gF : F.heap[w.heap.size + 1]? = some (.cells #[.int .i64 0, .int .i64 0, .string ⟨#[]⟩, .string ⟨#[]⟩, .string ⟨#[]⟩, .bool false, .bool false, .slice none 0 0] 26 (0, 0)) := by rw [hF]; exact set8 (.int .i64 0) (.int .i64 0) (.string ⟨#[]⟩) (.string ⟨#[]⟩) (.string ⟨#[]⟩) (.bool false) (.bool false) (.slice none 0 0) gq1
 have kF : Kp w F := by rw [hF]; exact kp_sets (Nat.le_succ _) [.int .i64 0, .int .i64 0, .string ⟨#[]⟩, .string ⟨#[]⟩, .string ⟨#[]⟩, .bool false, .bool false, .slice none 0 0] 0 (KW.out.trans K1.out)
 have frz : ∀ i, w1.frozen? ⟨w.heap.size + 1, i, none⟩ = false := fun i => by simp [World.frozen?, gq1]
 obtain ⟨q0, q1, q2, q3, q4, q5, q6, q7⟩ := row8 gq1
 have HF := Lib.hid hF
 have KF := Lib.hid kF
 have GF := Lib.hid gF
 clear hF kF gF
 go_wp2
 rw [← HF.out]
 obtain ⟨y0, y1, y2, y3, y4, y5, y6, y7⟩ := row8 GF.out
 refine bodyPost_ret (v := .agg #[.int .i64 0, .int .i64 0, .string ⟨#[]⟩, .string ⟨#[]⟩, .string ⟨#[]⟩, .bool false, .bool false, .slice none 0 0]) (by simp [results, Tryz.results8, go_sem, y0, y1, y2, y3, y4, y5, y6, y7]) rfl ?_
 exact ⟨_, rfl, ⟨CZ.out.1, fun h => by simp [ND.k] at h⟩, KF.out⟩
set_option maxHeartbeats 16000000 in
set_option maxRecDepth 100000 in
theorem ccanon_one (w0 : World) (T : TabSH w0) (v : Value) (l : List ND) (k : Int) (p : PT) (a t : Bool) (w : World) (k0 : Kp w0 w) (NA : NodesAt w0 v l) (hs : saneN saneP (.mk k p a t l) = true) (hk : ¬ k = 2) :
  Calls Tryz.prog 8 #[ndV (.mk k p a t l) v] w fun e w' => ∃ v' : Value, e = .returned (ndV (.mk k p a t l) v') ∧ CanAt w0 w' w.heap.size (.mk k p a t l) v' ∧ Kp w w' := by
 obtain ⟨ad0, cp0, rfl⟩ := NA.slice
 obtain ⟨pk, y, m, q⟩ := p
 have CA := Lib.hid (fun wx => show CanAt w0 wx w.heap.size (.mk k ⟨pk, y, m, q⟩ a t l) (.slice ad0 l.length cp0) from ⟨fun _ => NA, fun h => absurd h hk⟩)
 have CS := Lib.hid (fun w1 (qq : Kp w w1) => tSaneG_any (.mk k ⟨pk, y, m, q⟩ a t l) (.slice ad0 l.length cp0) w1 (NA.kp (k0.trans qq)) (T.kp (k0.trans qq)))
 rw [hs] at CS
 clear hs
 unfold ndV at *
 simp only [ND.k, ND.p, ND.a, ND.t, ND.l] at *
 obtain ⟨W0, hW⟩ : ∃ x, x = (w.alloc (.cells #[.int .i64 k, .int .i64 pk, .string y, .string m, .string q, .bool a, .bool t, .slice ad0 l.length cp0] 26)).alloc (.cells #[.int .i64 0, .int .i64 0, .string ⟨#[]⟩, .string ⟨#[]⟩, .string ⟨#[]⟩, .bool false, .bool false, .slice none 0 0] 26) := ⟨_, rfl⟩
 have kw : Kp w W0 := by rw [hW]; exact (Kp.alloc _ _).trans (Kp.alloc _ _)
 have gB : W0.heap[w.heap.size]? = some (.cells #[.int .i64 k, .int .i64 pk, .string y, .string m, .string q, .bool a, .bool t, .slice ad0 l.length cp0] 26 (0, 0)) := by rw [hW]; exact heap_block (Kp.alloc _ _) (heap_at _ _ _ rfl)
 have gQ : W0.heap[w.heap.size + 1]? = some (.cells #[.int .i64 0, .int .i64 0, .string ⟨#[]⟩, .string ⟨#[]⟩, .string ⟨#[]⟩, .bool false, .bool false, .slice none 0 0] 26 (0, 0)) := by rw [hW]; exact heap_at _ _ _ (by simp)
 have GB := Lib.hid (fun w1 (qq : Kp W0 w1) => heap_block qq gB)
 have GQ := Lib.hid (fun w1 (qq : Kp W0 w1) => heap_block qq gQ)
 have KW := Lib.hid kw
 have HW := Lib.hid hW
 have K00 := Lib.hid k0
 clear hW gB gQ kw
 have qk : (k == 2) = false := beq_eq_false_iff_ne.2 hk
 have qk2 : (k != 2) = true := by simp [hk]
 clear hk NA
 go_enter Tryz.func8, Tryz.ntmps8
 go_wp2_with fail
 rw [← HW.out]
 obtain ⟨x0, x1, x2, x3, x4, x5, x6, x7⟩ := row8 (GB.out _ (Kp.refl _))
 go_wp2_with fail
 refine (CS.out _ KW.out).mono ?_
 rintro e w1 ⟨rfl, kk⟩
 have K1 := Lib.hid kk
 have gq1 := GQ.out _ kk
 clear kk x0 x1 x2 x3 x4 x5 x6 x7
 obtain ⟨x0, x1, x2, x3, x4, x5, x6, x7⟩ := row8 (GB.out _ K1.out)
 obtain ⟨F, hF⟩ : ∃ x, x = ((((((((w1.setCell ⟨w.heap.size + 1, 0, none⟩ (.int .i64 k)).setCell ⟨w.heap.size + 1, 1, none⟩ (.int .i64 pk)).setCell ⟨w.heap.size + 1, 2, none⟩ (.string y)).setCell ⟨w.heap.size + 1, 3, none⟩ (.string m)).setCell ⟨w.heap.size + 1, 4, none⟩ (.string q)).setCell ⟨w.heap.size + 1, 5, none⟩ (.bool a)).setCell ⟨w.heap.size + 1, 6, none⟩ (.bool t)).setCell ⟨w.heap.size + 1, 7, none⟩ (.slice ad0 l.length cp0)) := ⟨_, rfl⟩
 have gF : F.heap[w.heap.size + 1]? = some (.cells #[.int .i64 k, .int .i64 pk, .string y, .string m, .string q, .bool a, .bool t, .slice ad0 l.length cp0] 26 (0, 0)) := by rw [hF]; exact set8 (.int .i64 k) (.int .i64 pk) (.string y) (.string m) (.string q) (.bool a) (.bool t) (.slice ad0 l.length cp0) gq1
 have kF : Kp w F := by rw [hF]; exact kp_sets (Nat.le_succ _) [.int .i64 k, .int .i64 pk, .string y, .string m, .string q, .bool a, .bool t, .slice ad0 l.length cp0] 0 (KW.out.trans K1.out)
 have frz : ∀ i, w1.frozen? ⟨w.heap.size + 1, i, none⟩ = false := fun i => by simp [World.frozen?, gq1]
 obtain ⟨q0, q1, q2, q3, q4, q5, q6, q7⟩ := row8 gq1
 have HF := Lib.hid hF
 have KF := Lib.hid kF
 have GF := Lib.hid gF
 clear hF kF gF
 go_wp2
 rw [← HF.out]
 obtain ⟨y0, y1, y2, y3, y4, y5, y6, y7⟩ := row8 GF.out
 refine bodyPost_ret (v := .agg #[.int .i64 k, .int .i64 pk, .string y, .string m, .string q, .bool a, .bool t, .slice ad0 l.length cp0]) (by simp [results, Tryz.results8, go_sem, y0, y1, y2, y3, y4, y5, y6, y7]) rfl ?_
 exact ⟨_, rfl, CA.out _, KF.out⟩
set_option maxHeartbeats 16000000 in
set_option maxRecDepth 100000 in
theorem ccanon_list (w0 : World) (T : TabSH w0) (v : Value) (l : List ND) (p : PT) (a t : Bool) (w : World) (k0 : Kp w0 w) (NA : NodesAt w0 v l) (hs : saneN saneP (.mk 2 p a t l) = true)
  (FL : ∀ (w : World), Kp w0 w → Sns l → cntL l ≤ 64 → Calls Tryz.prog 22 #[v] w fun e w' => ∃ v' : Value, e = .returned v' ∧ RowsN w0 w' w.heap.size v' (flL l) ∧ Kp w w') :
  Calls Tryz.prog 8 #[ndV (.mk 2 p a t l) v] w fun e w' => ∃ v' : Value, e = .returned (ndV (wrapC (cnS (flL l))) v') ∧ CanAt w0 w' w.heap.size (wrapC (cnS (flL l))) v' ∧ Kp w w' := by
 obtain ⟨ad0, cp0, rfl⟩ := NA.slice
 obtain ⟨pk, y, m, q⟩ := p
 obtain ⟨sn, c64⟩ := sns_list hs
 obtain ⟨sf, lf, hcut⟩ := flL_sns hs
 clear hcut
 have nl := cn_nolist hs
 have FLH := Lib.hid (fun w1 (qq : Kp w w1) => FL w1 (k0.trans qq) sn c64)
 have SO := Lib.hid (fun v base w1 (qq : Kp w w1) (h : RowsN w0 w1 base v (flL l)) (bb : base ≤ w1.heap.size) => csorted_any w0 T (flL l) v base w1 (k0.trans qq) h bb sf lf)
 have ne : (cnS (flL l)).length ≤ 64 := by
  have a := cnS_cnt sf
  have b := len_cntL (cnS (flL l))
  have c := (cn_right ((can_sane hs).1)).2
  have g : ∀ m : List ND, Sns m → cntL (flL m) ≤ cntL m := by
   intro m
   induction m with
   | nil => intro _; simp [flL, cntL]
   | cons x m ih =>
    intro h
    have a := ih fun y hy => h y (by simp [hy])
    have cs := can_sane (h x (by simp))
    have b : cntL (partsN (canN x)) ≤ cntN x := by
     unfold partsN
     split
     ·have e : cntN (canN x) = cntL (canN x).l + 1 := by rw [eta_nd (canN x)]; rfl
      omega
     ·simp only [cntL]; omega
    unfold flL at a ⊢
    simp only [List.flatMap_cons, cntL_append, cntL]
    omega
  have := g l sn
  omega
 generalize cnS (flL l) = E at *
 obtain ⟨C, hC⟩ : ∃ x, wrapC E = x := ⟨_, rfl⟩
 rw [hC]
 have HC := Lib.hid hC
 clear hC
 have NL := Lib.hid nl
 have NE := Lib.hid ne
 clear sn c64 sf lf nl ne FL
 have CS := Lib.hid (fun w1 (qq : Kp w w1) => tSaneG_any (.mk 2 ⟨pk, y, m, q⟩ a t l) (.slice ad0 l.length cp0) w1 (NA.kp (k0.trans qq)) (T.kp (k0.trans qq)))
 rw [hs] at CS
 clear hs
 unfold ndV at *
 simp only [ND.k, ND.p, ND.a, ND.t, ND.l] at CS ⊢
 obtain ⟨W0, hW⟩ : ∃ x, x = (w.alloc (.cells #[.int .i64 2, .int .i64 pk, .string y, .string m, .string q, .bool a, .bool t, .slice ad0 l.length cp0] 26)).alloc (.cells #[.int .i64 0, .int .i64 0, .string ⟨#[]⟩, .string ⟨#[]⟩, .string ⟨#[]⟩, .bool false, .bool false, .slice none 0 0] 26) := ⟨_, rfl⟩
 have kw : Kp w W0 := by rw [hW]; exact (Kp.alloc _ _).trans (Kp.alloc _ _)
 have gB : W0.heap[w.heap.size]? = some (.cells #[.int .i64 2, .int .i64 pk, .string y, .string m, .string q, .bool a, .bool t, .slice ad0 l.length cp0] 26 (0, 0)) := by rw [hW]; exact heap_block (Kp.alloc _ _) (heap_at _ _ _ rfl)
 have gQ : W0.heap[w.heap.size + 1]? = some (.cells #[.int .i64 0, .int .i64 0, .string ⟨#[]⟩, .string ⟨#[]⟩, .string ⟨#[]⟩, .bool false, .bool false, .slice none 0 0] 26 (0, 0)) := by rw [hW]; exact heap_at _ _ _ (by simp)
 have GB := Lib.hid (fun w1 (qq : Kp W0 w1) => heap_block qq gB)
 have GQ := Lib.hid (fun w1 (qq : Kp W0 w1) => heap_block qq gQ)
 have KW := Lib.hid kw
 have HW := Lib.hid hW
 have K00 := Lib.hid k0
 clear hW gB gQ kw
 clear NA
 go_enter Tryz.func8, Tryz.ntmps8
 go_wp2_with fail
 rw [← HW.out]
 obtain ⟨x0, x1, x2, x3, x4, x5, x6, x7⟩ := row8 (GB.out _ (Kp.refl _))
 go_wp2_with fail
 refine (CS.out _ KW.out).mono ?_
 rintro e w1 ⟨rfl, kk⟩
 have K1 := Lib.hid kk
 have gq1 := GQ.out _ kk
 clear kk x0 x1 x2 x3 x4 x5 x6 x7
 obtain ⟨x0, x1, x2, x3, x4, x5, x6, x7⟩ := row8 (GB.out _ K1.out)
 go_wp2_with fail
 refine (FLH.out _ (KW.out.trans K1.out)).mono ?_
 rintro e w2 ⟨v2, rfl, rw2, kk⟩
 have K2 := Lib.hid (K1.out.trans kk)
 have RW2 := Lib.hid rw2
 have B2 := Lib.hid kk.size
 obtain ⟨ad2, cp2, hv2⟩ : ∃ ad c, v2 = .slice ad (flL l).length c := by
  obtain ⟨m9, h1, _, h3⟩ := rw2
  obtain ⟨ad, c, e⟩ := own_slice8 h3
  exact ⟨ad, c, by rw [e, ← h1, List.length_map]⟩
 obtain ⟨n2, hn2⟩ : ∃ n, (flL l).length = n := ⟨_, rfl⟩
 rw [hn2] at hv2
 subst hv2
 clear rw2 kk hn2 x0 x1 x2 x3 x4 x5 x6 x7
 go_wp2_with fail
 refine (SO.out _ _ _ (KW.out.trans K2.out) RW2.out B2.out).mono ?_
 rintro e w3 ⟨v3, rfl, rw3, kk⟩
 have K3 := Lib.hid (K2.out.trans kk)
 have gq3 := GQ.out _ K3.out
 have bq : w.heap.size + 2 ≤ w2.heap.size := by have a := K2.out.size; have b := (Array.getElem?_eq_some_iff.1 (GQ.out W0 (Kp.refl _))).1; omega
 obtain ⟨ms, hms, hrd, own3⟩ := rw3
 obtain ⟨ad3, cp3, rfl⟩ := own_slice8 own3
 have LM := Lib.hid (show ms.length ≤ 64 by have a := congrArg List.length hms; rw [List.length_map] at a; have := NE.out; omega)
 have lm := LM.out
 by_cases h1 : ms.length = 1
 ·obtain ⟨g, cap, ev, hrow⟩ := own_rowN own3 (i := 0) (by omega)
  cases ev
  have e1 : E.length = 1 := by rw [← hms, List.length_map]; exact h1
  have en : wrapC E = (nvAt ms 0).1 := by
   unfold wrapC
   rw [if_pos e1, ← hms]
   unfold nth nvAt
   match ms, h1 with
   | [x], _ => rfl
  have nk := NL.out (nvAt ms 0).1 (by rw [← hms]; exact List.mem_map_of_mem (nvAt_mem (by omega)))
  have rx := hrd _ (nvAt_mem (m := ms) (i := 0) (by omega))
  have eC := HC.out
  rw [en] at eC
  obtain ⟨x, hx⟩ : ∃ x, nvAt ms 0 = x := ⟨_, rfl⟩
  rw [hx] at hrow nk rx eC
  obtain ⟨xn, xv⟩ := x
  simp only at hrow nk rx eC
  subst eC
  have CA := Lib.hid (fun wx => show CanAt w0 wx w.heap.size xn xv from ⟨fun _ => rx, fun h => absurd h nk⟩)
  obtain ⟨adz, nz, cpz, hxv⟩ : ∃ ad n cp, xv = .slice ad n cp := by obtain ⟨a, c, e⟩ := rx.slice; exact ⟨a, _, c, e⟩
  subst hxv
  clear en nk rx hx e1 hms hrd own3 kk
  obtain ⟨kz, ⟨pkz, yz, mz, qz⟩, az, tz, lz⟩ := xn
  unfold RowN at hrow
  simp only [ND.k, ND.p, ND.a, ND.t, ND.l, Nat.zero_mul] at hrow
  obtain ⟨e0, e1, e2, e3, e4, e5, e6, e7⟩ := hrow
  simp only [h1]
  obtain ⟨F, hF⟩ : ∃ x, x = ((((((((w3.setCell ⟨w.heap.size + 1, 0, none⟩ (.int .i64 kz)).setCell ⟨w.heap.size + 1, 1, none⟩ (.int .i64 pkz)).setCell ⟨w.heap.size + 1, 2, none⟩ (.string yz)).setCell ⟨w.heap.size + 1, 3, none⟩ (.string mz)).setCell ⟨w.heap.size + 1, 4, none⟩ (.string qz)).setCell ⟨w.heap.size + 1, 5, none⟩ (.bool az)).setCell ⟨w.heap.size + 1, 6, none⟩ (.bool tz)).setCell ⟨w.heap.size + 1, 7, none⟩ (.slice adz nz cpz)) := ⟨_, rfl⟩
  have gF : F.heap[w.heap.size + 1]? = some (.cells #[.int .i64 kz, .int .i64 pkz, .string yz, .string mz, .string qz, .bool az, .bool tz, .slice adz nz cpz] 26 (0, 0)) := by rw [hF]; exact set8 (.int .i64 kz) (.int .i64 pkz) (.string yz) (.string mz) (.string qz) (.bool az) (.bool tz) (.slice adz nz cpz) gq3
  have kF : Kp w F := by rw [hF]; exact kp_sets (Nat.le_succ _) [.int .i64 kz, .int .i64 pkz, .string yz, .string mz, .string qz, .bool az, .bool tz, .slice adz nz cpz] 0 (KW.out.trans K3.out)
  have frz : ∀ i, w3.frozen? ⟨w.heap.size + 1, i, none⟩ = false := fun i => by simp [World.frozen?, gq3]
  obtain ⟨q0, q1, q2, q3, q4, q5, q6, q7⟩ := row8 gq3
  have HF := Lib.hid hF
  have KF := Lib.hid kF
  have GF := Lib.hid gF
  clear hF kF gF
  go_wp2
  rw [← HF.out]
  obtain ⟨y0, y1, y2, y3, y4, y5, y6, y7⟩ := row8 GF.out
  refine bodyPost_ret (v := .agg #[.int .i64 kz, .int .i64 pkz, .string yz, .string mz, .string qz, .bool az, .bool tz, .slice adz nz cpz]) (by simp [results, Tryz.results8, go_sem, y0, y1, y2, y3, y4, y5, y6, y7]) rfl ?_
  exact ⟨_, rfl, CA.out _, KF.out⟩
 ·have en : wrapC E = .mk 2 pz false false E := by unfold wrapC; rw [if_neg (by rw [← hms, List.length_map]; exact h1)]
  have eC := HC.out
  rw [en] at eC
  subst eC
  have CO := Lib.hid (oneOf_any (.slice ad3 ms.length cp3) E w3 ⟨_, _, by rw [← hms, List.length_map]⟩)
  have RW := Lib.hid (show RowsN w0 w3 w2.heap.size (.slice ad3 ms.length cp3) E from ⟨ms, hms, hrd, own3⟩)
  have q1 : ((ms.length : Int) == 1) = false := beq_eq_false_iff_ne.2 (by omega)
  unfold ndV at CO
  simp only [ND.k, ND.p, ND.a, ND.t, ND.l] at CO
  clear en hms hrd own3 kk h1
  go_wp2_with fail
  refine CO.out.mono ?_
  rintro e w4 ⟨rfl, kk⟩
  have K4 := Lib.hid (K3.out.trans kk)
  have gq4 := GQ.out _ K4.out
  have RW4 := Lib.hid (RW.out.kp kk)
  clear kk gq3
  obtain ⟨F, hF⟩ : ∃ x, x = ((((((((w4.setCell ⟨w.heap.size + 1, 0, none⟩ (.int .i64 2)).setCell ⟨w.heap.size + 1, 1, none⟩ (.int .i64 0)).setCell ⟨w.heap.size + 1, 2, none⟩ (.string ⟨#[]⟩)).setCell ⟨w.heap.size + 1, 3, none⟩ (.string ⟨#[]⟩)).setCell ⟨w.heap.size + 1, 4, none⟩ (.string ⟨#[]⟩)).setCell ⟨w.heap.size + 1, 5, none⟩ (.bool false)).setCell ⟨w.heap.size + 1, 6, none⟩ (.bool false)).setCell ⟨w.heap.size + 1, 7, none⟩ (.slice ad3 ms.length cp3)) := ⟨_, rfl⟩
  have gF : F.heap[w.heap.size + 1]? = some (.cells #[.int .i64 2, .int .i64 0, .string ⟨#[]⟩, .string ⟨#[]⟩, .string ⟨#[]⟩, .bool false, .bool false, .slice ad3 ms.length cp3] 26 (0, 0)) := by rw [hF]; exact set8 (.int .i64 2) (.int .i64 0) (.string ⟨#[]⟩) (.string ⟨#[]⟩) (.string ⟨#[]⟩) (.bool false) (.bool false) (.slice ad3 ms.length cp3) gq4
  have kF : Kp w F := by rw [hF]; exact kp_sets (Nat.le_succ _) [.int .i64 2, .int .i64 0, .string ⟨#[]⟩, .string ⟨#[]⟩, .string ⟨#[]⟩, .bool false, .bool false, .slice ad3 ms.length cp3] 0 (KW.out.trans K4.out)
  have frz : ∀ i, w4.frozen? ⟨w.heap.size + 1, i, none⟩ = false := fun i => by simp [World.frozen?, gq4]
  obtain ⟨q0, q1, q2, q3, q4, q5, q6, q7⟩ := row8 gq4
  have HF := Lib.hid hF
  have RWF := Lib.hid (show RowsN w0 F w.heap.size (.slice ad3 ms.length cp3) E by
   obtain ⟨m9, h1, h2, h3⟩ := RW4.out
   refine ⟨m9, h1, h2, own_mono (base := w2.heap.size) ?_ (by omega)⟩
   rw [hF]
   exact own_other h3 (fun j hj e => by have := (h3.lt j hj).1; omega) [.int .i64 2, .int .i64 0, .string ⟨#[]⟩, .string ⟨#[]⟩, .string ⟨#[]⟩, .bool false, .bool false, .slice ad3 ms.length cp3] 0)
  have KF := Lib.hid kF
  have GF := Lib.hid gF
  clear hF kF gF
  go_wp2
  rw [← HF.out]
  obtain ⟨y0, y1, y2, y3, y4, y5, y6, y7⟩ := row8 GF.out
  refine bodyPost_ret (v := .agg #[.int .i64 2, .int .i64 0, .string ⟨#[]⟩, .string ⟨#[]⟩, .string ⟨#[]⟩, .bool false, .bool false, .slice ad3 ms.length cp3]) (by simp [results, Tryz.results8, go_sem, y0, y1, y2, y3, y4, y5, y6, y7]) rfl ?_
  exact ⟨_, rfl, ⟨fun h => by simp [ND.k] at h, fun _ => RWF.out⟩, KF.out⟩
theorem canon_any (w0 : World) (T : TabSH w0) {v : Value} {l : List ND} (h : NodesAt w0 v l) : NodesAt w0 v l → ∀ (k : Int) (p : PT) (a t : Bool) (w : World), Kp w0 w → Calls Tryz.prog 8 #[ndV (.mk k p a t l) v] w fun e w' => ∃ v' : Value, e = .returned (ndV (canF (.mk k p a t l)) v') ∧ CanAt w0 w' w.heap.size (canF (.mk k p a t l)) v' ∧ Kp w w' := by
 refine @NodesAt.ind w0 (fun v l => NodesAt w0 v l → ∀ (k : Int) (p : PT) (a t : Bool) (w : World), Kp w0 w → Calls Tryz.prog 8 #[ndV (.mk k p a t l) v] w fun e w' => ∃ v' : Value, e = .returned (ndV (canF (.mk k p a t l)) v') ∧ CanAt w0 w' w.heap.size (canF (.mk k p a t l)) v' ∧ Kp w w') ?_ v l h
 intro v l hh NA k p a t w k0
 rcases Bool.eq_false_or_eq_true (saneN saneP (.mk k p a t l)) with hs | hs
 ·by_cases hk : k = 2
  ·subst hk
   rw [can_2 hs]
   exact ccanon_list w0 T v l p a t w k0 NA hs (cflat_any w0 v l hh)
  ·rw [can_1 hs hk]
   exact ccanon_one w0 T v l k p a t w k0 NA hs hk
 ·rw [canF_no hs]
  exact ccanon_no w0 T v l k p a t w k0 NA hs
theorem ccan_own (n : ND) (u : Value) (w0 w : World) (h : NodesAt w0 u n.l) (kk : Kp w0 w) (T : TabSH w0) :
  Calls Tryz.prog 8 #[ndV n u] w fun e w' => ∃ v' : Value, e = .returned (ndV (canF n) v') ∧ CanAt w0 w' w.heap.size (canF n) v' ∧ Kp w w' := by
 have := canon_any w0 T h h n.k n.p n.a n.t w kk
 rwa [← eta_nd n] at this
theorem ccan_any (n : ND) (u : Value) (w : World) (h : NodesAt w u n.l) (T : TabSH w) :
  Calls Tryz.prog 8 #[ndV n u] w fun e w' => ∃ v' : Value, e = .returned (ndV (canF n) v') ∧ NodesAt w' v' (canF n).l ∧ Kp w w' := by
 refine (ccan_own n u w w h (Kp.refl w) T).mono ?_
 rintro e w' ⟨v', rfl, hv, kk⟩
 exact ⟨v', rfl, hv.nodes kk, kk⟩
def cells1 (x : ND) (vx : Value) : Array Value := #[.int .i64 x.k, .int .i64 x.p.k, .string x.p.y, .string x.p.m, .string x.p.d, .bool x.a, .bool x.t, vx]
end Go.Proofs.YtajllgjfndfdjaaGreatDoor
