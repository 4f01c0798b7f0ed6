/-
  Joined: CovE, CovF, L17A.
-/
import Derived.Test.YtfphmhdgnokopaaGreatDoorGCovA
import Derived.Test.YtfphmhdgnokopaaGreatDoorGEnvB
import Derived.Test.YtfphmhdgnokopaaGreatDoorGLeafA
import Derived.Test.YtfphmhdgnokopaaGreatDoorGSetA
namespace Go.Proofs.YtfphmhdgnokopaaGreatDoor
open Go.RowKit
set_option linter.unusedVariables false
set_option linter.unusedSimpArgs false
theorem own_block_ne {w : World} {base : Nat} {e t : TypeId} {size n B : Nat} {v : Value} {y : Array Value} {xs : List Value} {fr : Nat × Nat} (h : w.ownsRow base e size v n xs) (hB : w.heap[B]? = some (.cells y t fr)) (ht : (t == e) = false) : ∀ j, v.ownBlock = some j → j ≠ B := by
  intro j hj e1
  subst e1
  rcases h.2 with ⟨rfl, _⟩ | ⟨g, cap, cur, rfl, hb, hg, rest⟩
  · cases hj
  · cases hj
    rw [hB] at hg
    cases hg
    simp at ht
theorem own_setB {w : World} {base : Nat} {e t : TypeId} {size n B : Nat} {v y x : Value} {xs : List Value} {fr : Nat × Nat} (h : w.ownsRow base e size v n xs) (hB : w.heap[B]? = some (.cells #[y] t fr)) (ht : (t == e) = false) : (w.setCell ⟨B, 0, none⟩ x).ownsRow base e size v n xs := by
  have hn := own_block_ne h hB ht
  refine ⟨h.1, ?_⟩
  rcases h.2 with h2 | ⟨g, cap, cur, e1, hb, hg, rest⟩
  · exact .inl h2
  · exact .inr ⟨g, cap, cur, e1, hb, (set1_other (hn g (by rw [e1]; rfl)) _ _).trans hg, rest⟩
theorem step_app {P : Program} {w : World} {ops : Array Oper} {o : Oper} {a : Act} {K : Act → World → Prop} {Q : Exit → Act → World → Prop} {E : Prop} (hgd : o.guard = none) (s x : Operand) (t : TypeId)
    (ho : o.op = .call { callee := .builtin .append, args := #[s, x], argTypes := #[t, t] })
    (base : Nat) (e : TypeId) (i : TypeInfo) (z : Value) (size bytes : Nat) (ht : P.underlying t = some (.slice e)) (hi : P.info? e = some i) (hz : i.zero = some z)
    (hsize : i.size = size) (hby : i.bytes = bytes) (hzs : z.cells.size = size) (hsz : 0 < size)
    (v : Value) (n : Nat) (xs : List Value) (hs : a.eval s = v) (hown : w.ownsRow base e size v n xs)
    (sv : Value) (m : Nat) (news : List Value) (hx : a.eval x = sv) (hsrc : SrcAt w sv m news) (hl : news.length = m * size) (h1 : ∀ u ∈ news, u.oneCell' = true)
    (h63 : n + m ≤ maxLen) (hbytes : (n + m) * bytes ≤ 140737488355328) (hbase : base ≤ w.heap.size)
    (h : ∀ v' w', w'.ownsRow base e size v' (n + m) (xs ++ news) → w.grownBy w' v.ownBlock → K (a.put o.dst v') w') :
    if Region.wanted o (yielded ops a.tmps) = true then Oper.wp P o a w K Q else E := by
  have hw : Region.wanted o (yielded ops a.tmps) = true := by simp [Region.wanted, hgd]
  rw [if_pos hw]
  have : ∃ v' w', (Builtin.append_ #[t, t] o.type #[v, sv]).run P w = .ok v' w' ∧ w'.ownsRow base e size v' (n + m) (xs ++ news) ∧ w.grownBy w' v.ownBlock := by
    rcases hsrc with ⟨ad, cp, rfl, rfl, rfl⟩ | ⟨ad, c, rfl, hn⟩
    · exact ⟨v, w, run_append_zero w base t o.type e i size ht hi v n xs hown ad cp, by simpa using hown, ⟨rfl, rfl, rfl, Nat.le_refl _, fun _ _ _ => rfl⟩⟩
    · obtain ⟨v', w', hr, h2, h3, _, h5⟩ := run_append_own_at (P := P) w base t o.type e i z size bytes ht hi hz hsize hby hzs hsz v n xs hown ad m c news hl hn h1 h63 hbytes hbase
      exact ⟨v', w', hr, h2, h3⟩
  obtain ⟨v', w', hr, h2, h3⟩ := this
  unfold Oper.wp execOp
  simp only [ho, resolve, invoke, builtin, Sem.run_bind, Sem.run_pure, Result.andThen_ok, List.map_toArray, List.map_cons, List.map_nil, hs, hx, hr]
  exact h v' w' h2 h3
/-- the days collected so far lie in a box -/
def DJ (w0 : World) (B : Nat) (D : List R) (w : World) : Prop :=
  Kp w0 w ∧ w0.heap.size ≤ B ∧ ∃ va, w.heap[B]? = some (.cells #[va] 22 (0, 0)) ∧ w.ownsRow w0.heap.size 51 2 va D.length (cellsR D)
theorem DJ.kp {w0 w w' : World} {B : Nat} {D : List R} (h : DJ w0 B D w) (k : Kp w w') : DJ w0 B D w' := by
  obtain ⟨h1, h2, va, h3, h4⟩ := h
  exact ⟨h1.trans k, h2, va, heap_block k h3, own_kp h4 k⟩
abbrev dC0 : Oper := { dst := some 3, op := Go.Op.load 22 (Go.Operand.tmp 1), type := 22, pos := "cover.go:29", after := #[], guard := none }
abbrev dC1 : Oper := { dst := some 4, op := Go.Op.load 24 (Go.Operand.tmp 2), type := 24, pos := "cover.go:29", after := #[], guard := none }
abbrev dC2 : Oper := { dst := some 5, op := Go.Op.call { callee := Go.Callee.value (Go.Operand.func 92), args := #[Go.Operand.tmp 4], argTypes := #[24] }, type := 22, pos := "cover.go:29", after := #[{ on := 1, ground := Go.Ground.data }], guard := none }
abbrev dC3 : Oper := { dst := some 6, op := Go.Op.call { callee := Go.Callee.builtin Go.Builtin.append, args := #[Go.Operand.tmp 3, Go.Operand.tmp 5], argTypes := #[22, 22] }, type := 22, pos := "cover.go:29", after := #[{ on := 0, ground := Go.Ground.data }, { on := 2, ground := Go.Ground.data }, { on := 2, ground := Go.Ground.chain }], guard := none }
abbrev dC4 : Oper := { dst := none, op := Go.Op.store 22 (Go.Operand.tmp 1) (Go.Operand.tmp 6), type := 0, pos := "cover.go:29", after := #[{ on := 3, ground := Go.Ground.data }, { on := 3, ground := Go.Ground.chain }, { on := 0, ground := Go.Ground.phase }, { on := 1, ground := Go.Ground.phase }, { on := 2, ground := Go.Ground.phase }, { on := 3, ground := Go.Ground.phase }], guard := none }
set_option maxHeartbeats 16000000 in
set_option maxRecDepth 100000 in
theorem dclo_any (w0 w : World) (B : Nat) (D : List R) (F : Fam) (va vb : Value) (h : DJ w0 B D w) (hF : FOK F) (h0 : emptyF F = false) (ok : LeafOk w (lfOf F) va vb) (T : Tabs w) (hn : D.length + (dayR F).length ≤ 1000000) :
    Calls Tryz.prog 91 #[leafV (lfOf F) va vb, .pointer (some ⟨B, 0, none⟩)] w fun e w' => e = .returned (.tuple #[]) ∧ DJ w0 B (D ++ dayR F) w' := by
  obtain ⟨kp0, hB0, v0, bx, own⟩ := h
  obtain ⟨ad, c0, rfl⟩ := own_slice own
  obtain ⟨i0, hi, hz0, hz1, hz2⟩ := info_parts infoR
  have CD0 := Lib.hid (fun w1 (kk : Kp w w1) => cdays_any F va vb w1 hF h0 (ok.kp kk) (T.kp kk))
  obtain ⟨aa, ca, rfl⟩ := ok.a.slice
  obtain ⟨ab, cb, rfl⟩ := ok.b.slice
  generalize lfOf F = g at *
  obtain ⟨sp, u, a, b⟩ := g
  simp only [leafV] at CD0 ⊢
  generalize dayR F = E at *
  have gB := (Array.getElem?_eq_some_iff.1 bx).1
  obtain ⟨V, hV⟩ : ∃ x, x = w.alloc (.cells #[.bool sp, .int .i64 u, .slice aa a.length ca, .slice ab b.length cb] 24) := ⟨_, rfl⟩
  have kv : Kp w V := by rw [hV]; exact Kp.alloc _ _
  have hgq : V.heap[w.heap.size]? = some (.cells #[.bool sp, .int .i64 u, .slice aa a.length ca, .slice ab b.length cb] 24 (0, 0)) := by rw [hV]; exact heap_at _ _ _ rfl
  have q0 : V.cell? ⟨w.heap.size, 0, none⟩ = some (.bool sp) := by simp [World.cell?, hgq]
  have q1 : V.cell? ⟨w.heap.size, 1, none⟩ = some (.int .i64 u) := by simp [World.cell?, hgq]
  have q2 : V.cell? ⟨w.heap.size, 2, none⟩ = some (.slice aa a.length ca) := by simp [World.cell?, hgq]
  have q3 : V.cell? ⟨w.heap.size, 3, none⟩ = some (.slice ab b.length cb) := by simp [World.cell?, hgq]
  have bxV := heap_block kv bx
  have ownV := own_kp own kv
  have cB : V.cell? ⟨B, 0, none⟩ = some (.slice ad D.length c0) := by simp [World.cell?, bxV]
  have HS := Lib.hid (fun w' (k : Kp V w') => show w'.cell? ⟨w.heap.size, 0, none⟩ = some (.bool sp) ∧ w'.cell? ⟨w.heap.size, 1, none⟩ = some (.int .i64 u) ∧ w'.cell? ⟨w.heap.size, 2, none⟩ = some (.slice aa a.length ca) ∧ w'.cell? ⟨w.heap.size, 3, none⟩ = some (.slice ab b.length cb) from ⟨cell_up k q0, cell_up k q1, cell_up k q2, cell_up k q3⟩)
  have CD := Lib.hid (fun w1 (kk : Kp V w1) => CD0.out w1 (kv.trans kk))
  have KV0 := Lib.hid kv
  have HVV := Lib.hid hV
  have neB : (⟨B, 0, none⟩ : Addr).block ≠ w.heap.size := by simp only; omega
  have BL := Lib.hid hgq
  clear CD0 ok T hF h0 hV kv hgq q0 q1 q2 q3 own bx
  go_enter Tryz.func91, Tryz.ntmps91
  go_wp2_with fail
  rw [← HVV.out]
  refine wp_region_held_drew (S := fun w' => w'.cell? ⟨w.heap.size, 0, none⟩ = some (.bool sp) ∧ w'.cell? ⟨w.heap.size, 1, none⟩ = some (.int .i64 u) ∧ w'.cell? ⟨w.heap.size, 2, none⟩ = some (.slice aa a.length ca) ∧ w'.cell? ⟨w.heap.size, 3, none⟩ = some (.slice ab b.length cb)) (by kernel_rfl) ?_ (fun hHeld0 => ?_)
  · (try dsimp only); first | exact HS.out _ (Kp.drew _) | exact hS | exact hS6 | exact ⟨by rw [World.cell?_setCell_far _ _ _ _ neB]; exact hS6.1, by rw [World.cell?_setCell_far _ _ _ _ neB]; exact hS6.2.1, by rw [World.cell?_setCell_far _ _ _ _ neB]; exact hS6.2.2.1, by rw [World.cell?_setCell_far _ _ _ _ neB]; exact hS6.2.2.2⟩
  refine tkW (v := ?_) 1 dC1 rfl (by kernel_rfl) (by kernel_rfl) (by kernel_rfl) (fun _ _ _ h => h) (by rfl) ?_ (by assumption) ?_
  rotate_left
  · intro w hSw; (try dsimp only at hSw); go_simp; (try with_reducible rfl)
  (try simp only [Act.put, dC1, List.setIfInBounds_toArray, List.set_cons_zero, List.set_cons_succ])
  refine tkE2 0 2 dC0 dC2 rfl rfl (by kernel_rfl) (fun K hK => ?_) (fun K hK => ?_)
  · go_simp
    skip
    (try go_wp2_with fail)
    refine hK.out _ _ ?_ (fun hHeld1 => ?_)
    · (try dsimp only); first | exact HS.out _ (Kp.drew _) | exact hS | exact hS6 | exact ⟨by rw [World.cell?_setCell_far _ _ _ _ neB]; exact hS6.1, by rw [World.cell?_setCell_far _ _ _ _ neB]; exact hS6.2.1, by rw [World.cell?_setCell_far _ _ _ _ neB]; exact hS6.2.2.1, by rw [World.cell?_setCell_far _ _ _ _ neB]; exact hS6.2.2.2⟩
    clear hK K hHeld0
    (try simp only [Act.put, dC0, List.setIfInBounds_toArray, List.set_cons_zero, List.set_cons_succ])
    refine tkE 2 dC2 rfl (by kernel_rfl) (fun K hK => ?_)
    go_simp
    (refine (CD.out _ (Kp.drew _)).mono ?_; rintro e w5 ⟨v5, rfl, r5, k5⟩; obtain ⟨ad5, c5, rfl⟩ := r5.slice; have k5' := (Kp.drew V).trans k5; have cB5 := cell_up k5' cB; have R5 := Lib.hid r5; have K5 := Lib.hid k5'; have hS := HS.out _ k5'; have bx5 := heap_block k5' bxV; have bl5 := heap_block k5' BL.out; have own5 := own_kp ownV k5'; clear r5 k5 k5')
    (try go_wp2_with fail)
    refine hK.out _ _ ?_ (fun hHeld2 => ?_)
    · (try dsimp only); first | exact HS.out _ (Kp.drew _) | exact hS | exact hS6 | exact ⟨by rw [World.cell?_setCell_far _ _ _ _ neB]; exact hS6.1, by rw [World.cell?_setCell_far _ _ _ _ neB]; exact hS6.2.1, by rw [World.cell?_setCell_far _ _ _ _ neB]; exact hS6.2.2.1, by rw [World.cell?_setCell_far _ _ _ _ neB]; exact hS6.2.2.2⟩
    clear hK K hHeld1
    (try simp only [Act.put, dC2, List.setIfInBounds_toArray, List.set_cons_zero, List.set_cons_succ])
    refine tkE 3 dC3 rfl (by kernel_rfl) (fun K hK => ?_)
    (refine step_app rfl (.tmp 3) (.tmp 5) 22 rfl w0.heap.size 51 i0 (.agg #[.int .i64 0, .int .i64 0]) 2 16 Tryz.underlying22 hi hz0 hz1 hz2 rfl (by decide) _ _ _ (by simp [Act.eval, Act.put]) own5 _ _ _ (by simp [Act.eval, Act.put]) R5.out.src (cellsR_length _) (cells_one _) (by unfold maxLen; omega) (by omega) (Nat.le_trans kp0.size (Nat.le_trans KV0.out.size K5.out.size)) ?_; intro v6 w6 own6 grow6; obtain ⟨ad6, c6, rfl⟩ := own_slice own6; have lt5 := (Array.getElem?_eq_some_iff.1 bx5).1; have ne5 := own_block_ne own5 bx5 (by kernel_rfl); have bx6 : w6.heap[B]? = some (.cells #[.slice ad D.length c0] 22 (0, 0)) := (grow6.block B lt5 (fun c => ne5 B c.symm rfl)).trans bx5; have hS6 : w6.cell? ⟨w.heap.size, 0, none⟩ = some (.bool sp) ∧ w6.cell? ⟨w.heap.size, 1, none⟩ = some (.int .i64 u) ∧ w6.cell? ⟨w.heap.size, 2, none⟩ = some (.slice aa a.length ca) ∧ w6.cell? ⟨w.heap.size, 3, none⟩ = some (.slice ab b.length cb) := (by have ltb := (Array.getElem?_eq_some_iff.1 bl5).1; have neb := own_block_ne own5 bl5 (by kernel_rfl); exact ⟨(grown_cell grow6 ltb neb).trans hS.1, (grown_cell grow6 ltb neb).trans hS.2.1, (grown_cell grow6 ltb neb).trans hS.2.2.1, (grown_cell grow6 ltb neb).trans hS.2.2.2⟩); have cB6 : w6.cell? ⟨B, 0, none⟩ = some (.slice ad D.length c0) := (by simp [World.cell?, bx6]); have fB6 : w6.frozen? ⟨B, 0, none⟩ = false := (by simp [World.frozen?, bx6]))
    (try go_wp2_with fail)
    refine hK.out _ _ ?_ (fun hHeld3 => ?_)
    · (try dsimp only); first | exact HS.out _ (Kp.drew _) | exact hS | exact hS6 | exact ⟨by rw [World.cell?_setCell_far _ _ _ _ neB]; exact hS6.1, by rw [World.cell?_setCell_far _ _ _ _ neB]; exact hS6.2.1, by rw [World.cell?_setCell_far _ _ _ _ neB]; exact hS6.2.2.1, by rw [World.cell?_setCell_far _ _ _ _ neB]; exact hS6.2.2.2⟩
    clear hK K hHeld2
    (try simp only [Act.put, dC3, List.setIfInBounds_toArray, List.set_cons_zero, List.set_cons_succ])
    refine tkE 4 dC4 rfl (by kernel_rfl) (fun K hK => ?_)
    go_simp
    skip
    (try go_wp2_with fail)
    refine hK.out _ _ ?_ (fun hHeld4 => ?_)
    · (try dsimp only); first | exact HS.out _ (Kp.drew _) | exact hS | exact hS6 | exact ⟨by rw [World.cell?_setCell_far _ _ _ _ neB]; exact hS6.1, by rw [World.cell?_setCell_far _ _ _ _ neB]; exact hS6.2.1, by rw [World.cell?_setCell_far _ _ _ _ neB]; exact hS6.2.2.1, by rw [World.cell?_setCell_far _ _ _ _ neB]; exact hS6.2.2.2⟩
    clear hK K hHeld3
    (try simp only [Act.put, dC4, List.setIfInBounds_toArray, List.set_cons_zero, List.set_cons_succ])
    refine wpAnyH_done (by kernel_rfl) ?_ _
    have O6 : w6.ownsRow w0.heap.size 51 2 (.slice ad6 (D.length + E.length) c6) (D ++ E).length (cellsR (D ++ E)) := own_len own6
    have K6 : Kp w0 w6 := (kp0.trans (KV0.out.trans K5.out)).grown grow6 (fun j hj => (own5.lt j hj).1)
    have DF : DJ w0 B (D ++ E) (w6.setCell ⟨B, 0, none⟩ (.slice ad6 (D.length + E.length) c6)) := ⟨Below.setCell K6 (p := ⟨B, 0, none⟩) hB0 _, hB0, _, set1_heap bx6 0 _, own_setB O6 bx6 (by kernel_rfl)⟩
    have DH := Lib.hid DF
    go_wp2
    go_end0
    exact ⟨rfl, DH.out⟩
  · go_simp
    (refine (CD.out _ (Kp.drew _)).mono ?_; rintro e w5 ⟨v5, rfl, r5, k5⟩; obtain ⟨ad5, c5, rfl⟩ := r5.slice; have k5' := (Kp.drew V).trans k5; have cB5 := cell_up k5' cB; have R5 := Lib.hid r5; have K5 := Lib.hid k5'; have hS := HS.out _ k5'; have bx5 := heap_block k5' bxV; have bl5 := heap_block k5' BL.out; have own5 := own_kp ownV k5'; clear r5 k5 k5')
    (try go_wp2_with fail)
    refine hK.out _ _ ?_ (fun hHeld1 => ?_)
    · (try dsimp only); first | exact HS.out _ (Kp.drew _) | exact hS | exact hS6 | exact ⟨by rw [World.cell?_setCell_far _ _ _ _ neB]; exact hS6.1, by rw [World.cell?_setCell_far _ _ _ _ neB]; exact hS6.2.1, by rw [World.cell?_setCell_far _ _ _ _ neB]; exact hS6.2.2.1, by rw [World.cell?_setCell_far _ _ _ _ neB]; exact hS6.2.2.2⟩
    clear hK K hHeld0
    (try simp only [Act.put, dC2, List.setIfInBounds_toArray, List.set_cons_zero, List.set_cons_succ])
    refine tkE 0 dC0 rfl (by kernel_rfl) (fun K hK => ?_)
    go_simp
    skip
    (try go_wp2_with fail)
    refine hK.out _ _ ?_ (fun hHeld2 => ?_)
    · (try dsimp only); first | exact HS.out _ (Kp.drew _) | exact hS | exact hS6 | exact ⟨by rw [World.cell?_setCell_far _ _ _ _ neB]; exact hS6.1, by rw [World.cell?_setCell_far _ _ _ _ neB]; exact hS6.2.1, by rw [World.cell?_setCell_far _ _ _ _ neB]; exact hS6.2.2.1, by rw [World.cell?_setCell_far _ _ _ _ neB]; exact hS6.2.2.2⟩
    clear hK K hHeld1
    (try simp only [Act.put, dC0, List.setIfInBounds_toArray, List.set_cons_zero, List.set_cons_succ])
    refine tkE 3 dC3 rfl (by kernel_rfl) (fun K hK => ?_)
    (refine step_app rfl (.tmp 3) (.tmp 5) 22 rfl w0.heap.size 51 i0 (.agg #[.int .i64 0, .int .i64 0]) 2 16 Tryz.underlying22 hi hz0 hz1 hz2 rfl (by decide) _ _ _ (by simp [Act.eval, Act.put]) own5 _ _ _ (by simp [Act.eval, Act.put]) R5.out.src (cellsR_length _) (cells_one _) (by unfold maxLen; omega) (by omega) (Nat.le_trans kp0.size (Nat.le_trans KV0.out.size K5.out.size)) ?_; intro v6 w6 own6 grow6; obtain ⟨ad6, c6, rfl⟩ := own_slice own6; have lt5 := (Array.getElem?_eq_some_iff.1 bx5).1; have ne5 := own_block_ne own5 bx5 (by kernel_rfl); have bx6 : w6.heap[B]? = some (.cells #[.slice ad D.length c0] 22 (0, 0)) := (grow6.block B lt5 (fun c => ne5 B c.symm rfl)).trans bx5; have hS6 : w6.cell? ⟨w.heap.size, 0, none⟩ = some (.bool sp) ∧ w6.cell? ⟨w.heap.size, 1, none⟩ = some (.int .i64 u) ∧ w6.cell? ⟨w.heap.size, 2, none⟩ = some (.slice aa a.length ca) ∧ w6.cell? ⟨w.heap.size, 3, none⟩ = some (.slice ab b.length cb) := (by have ltb := (Array.getElem?_eq_some_iff.1 bl5).1; have neb := own_block_ne own5 bl5 (by kernel_rfl); exact ⟨(grown_cell grow6 ltb neb).trans hS.1, (grown_cell grow6 ltb neb).trans hS.2.1, (grown_cell grow6 ltb neb).trans hS.2.2.1, (grown_cell grow6 ltb neb).trans hS.2.2.2⟩); have cB6 : w6.cell? ⟨B, 0, none⟩ = some (.slice ad D.length c0) := (by simp [World.cell?, bx6]); have fB6 : w6.frozen? ⟨B, 0, none⟩ = false := (by simp [World.frozen?, bx6]))
    (try go_wp2_with fail)
    refine hK.out _ _ ?_ (fun hHeld3 => ?_)
    · (try dsimp only); first | exact HS.out _ (Kp.drew _) | exact hS | exact hS6 | exact ⟨by rw [World.cell?_setCell_far _ _ _ _ neB]; exact hS6.1, by rw [World.cell?_setCell_far _ _ _ _ neB]; exact hS6.2.1, by rw [World.cell?_setCell_far _ _ _ _ neB]; exact hS6.2.2.1, by rw [World.cell?_setCell_far _ _ _ _ neB]; exact hS6.2.2.2⟩
    clear hK K hHeld2
    (try simp only [Act.put, dC3, List.setIfInBounds_toArray, List.set_cons_zero, List.set_cons_succ])
    refine tkE 4 dC4 rfl (by kernel_rfl) (fun K hK => ?_)
    go_simp
    skip
    (try go_wp2_with fail)
    refine hK.out _ _ ?_ (fun hHeld4 => ?_)
    · (try dsimp only); first | exact HS.out _ (Kp.drew _) | exact hS | exact hS6 | exact ⟨by rw [World.cell?_setCell_far _ _ _ _ neB]; exact hS6.1, by rw [World.cell?_setCell_far _ _ _ _ neB]; exact hS6.2.1, by rw [World.cell?_setCell_far _ _ _ _ neB]; exact hS6.2.2.1, by rw [World.cell?_setCell_far _ _ _ _ neB]; exact hS6.2.2.2⟩
    clear hK K hHeld3
    (try simp only [Act.put, dC4, List.setIfInBounds_toArray, List.set_cons_zero, List.set_cons_succ])
    refine wpAnyH_done (by kernel_rfl) ?_ _
    have O6 : w6.ownsRow w0.heap.size 51 2 (.slice ad6 (D.length + E.length) c6) (D ++ E).length (cellsR (D ++ E)) := own_len own6
    have K6 : Kp w0 w6 := (kp0.trans (KV0.out.trans K5.out)).grown grow6 (fun j hj => (own5.lt j hj).1)
    have DF : DJ w0 B (D ++ E) (w6.setCell ⟨B, 0, none⟩ (.slice ad6 (D.length + E.length) c6)) := ⟨Below.setCell K6 (p := ⟨B, 0, none⟩) hB0 _, hB0, _, set1_heap bx6 0 _, own_setB O6 bx6 (by kernel_rfl)⟩
    have DH := Lib.hid DF
    go_wp2
    go_end0
    exact ⟨rfl, DH.out⟩
end Go.Proofs.YtfphmhdgnokopaaGreatDoor

namespace Go.Proofs.YtfphmhdgnokopaaGreatDoor
open Go.RowKit
set_option linter.unusedVariables false
set_option linter.unusedSimpArgs false
set_option maxHeartbeats 16000000 in
set_option maxRecDepth 100000 in
theorem covDays_any (v : Value) (l : List LF) (w : World) (hv : LeavesAt w v l) (hl : LsOk l) (hn : l.length ≤ 100) (T : Tabs w) :
    Calls Tryz.prog 42 #[v] w fun e w' => ∃ v' : Value, e = .returned (.tuple #[v', .int .i64 (if 400 < (posR l).length then 8 else 0)]) ∧ RunsAt w' v' (if 400 < (posR l).length then [] else posR l) ∧ Kp w w' := by
  obtain ⟨W0, hW⟩ : ∃ x, x = w.alloc (.cells #[.slice none 0 0] 22) := ⟨_, rfl⟩
  have k0 : Kp w W0 := by rw [hW]; exact Kp.alloc _ _
  have g0 : W0.heap[w.heap.size]? = some (.cells #[.slice none 0 0] 22 (0, 0)) := by rw [hW]; exact heap_at _ _ _ rfl
  have J0 : DJ w w.heap.size (allR []) W0 := ⟨k0, Nat.le_refl _, .slice none 0 0, g0, ⟨rfl, .inl ⟨rfl, rfl⟩⟩⟩
  have lf := filter_len l
  have CE := ceach_any 91 #[.pointer (some ⟨w.heap.size, 0, none⟩)] (fun pre w' => DJ w w.heap.size (allR pre) w') v l w W0 (enters_of Tryz.func91 (by kernel_rfl) rfl)
    (fun pre w1 j => j.1) (fun pre w1 w2 j k => j.kp k) J0
    (fun pre f va vb w1 j hf hb hp ok => by
      have hq := allR_len (prefix_ok (filter_ok hl) ((List.prefix_append pre [f]).trans hp))
      have hr := hp.length_le
      rw [List.length_append, List.length_singleton] at hr
      have hd := dayR_len (famR_len (hl f hf).2.2.1 (hl f hf).2.2.2)
      refine (dclo_any w w1 w.heap.size (allR pre) (famR f) va vb j (famR_ok f) (full_ne hb) ok (T.kp j.1) (by omega)).mono ?_
      rintro e w2 ⟨rfl, j2⟩
      exact ⟨rfl, by rw [allR_snoc]; exact j2⟩)
    hv hl T
  have al := allR_len (filter_ok hl)
  have ai := allR_i64 (filter_full l)
  have CE := Lib.hid CE
  have CM := Lib.hid (fun v w1 (h : RunsAt w1 v (allR (l.filter fullB))) => make_any v _ w1 h ai (by omega))
  have pi := sane_i64 (posR_sane l)
  have pl := posR_len hl
  have CW := Lib.hid (fun v w1 (h : RunsAt w1 v (posR l)) => wide_any v (posR l) w1 h pi (by omega))
  rw [nf_of_sane (posR_sane l)] at CW
  rw [show nf (allR (l.filter fullB)) = posR l from rfl] at CM
  generalize allR (l.filter fullB) = D at *
  generalize posR l = L at *
  obtain ⟨en, hen⟩ : ∃ x : Int, (if 400 < L.length then (8 : Int) else 0) = x := ⟨_, rfl⟩
  obtain ⟨RL, hrl⟩ : ∃ x : List R, (if 400 < L.length then [] else L) = x := ⟨_, rfl⟩
  rw [hen, hrl]
  have HEN := Lib.hid hen
  have HRL := Lib.hid hrl
  clear hen hrl
  have K0 := Lib.hid k0
  have HW := Lib.hid hW
  clear hW k0 g0 J0 hv hl T al ai pi pl lf
  go_enter Tryz.func42, Tryz.ntmps42
  go_wp2_with fail
  rw [← HW.out]
  refine (CE.out).mono ?_
  rintro e w1 ⟨rfl, kj, _, va, bx, own⟩
  have R1 := Lib.hid (runsAt_own own)
  obtain ⟨a1, c1, rfl⟩ := own_slice own
  have q1 : w1.cell? ⟨w.heap.size, 0, none⟩ = some (.slice a1 D.length c1) := by simp [World.cell?, bx]
  have BX := Lib.hid bx
  have KJ := Lib.hid kj
  clear bx own kj
  go_wp2_with fail
  refine (CM.out _ _ R1.out).mono ?_
  rintro e w2 ⟨v2, rfl, own2, kk⟩
  obtain ⟨a2, c2, rfl⟩ := own_slice own2
  have bx2 := heap_block kk BX.out
  have R3 := Lib.hid (runsAt_own (own_setB own2 bx2 (y := .slice a1 D.length c1) (x := .slice a2 L.length c2) (by kernel_rfl)))
  have q2 : w2.cell? ⟨w.heap.size, 0, none⟩ = some (.slice a1 D.length c1) := by simp [World.cell?, bx2]
  have f2 : w2.frozen? ⟨w.heap.size, 0, none⟩ = false := by simp [World.frozen?, bx2]
  obtain ⟨w3, hw3⟩ : ∃ x, x = w2.setCell ⟨w.heap.size, 0, none⟩ (.slice a2 L.length c2) := ⟨_, rfl⟩
  have R3' := Lib.hid (show RunsAt w3 (.slice a2 L.length c2) L by rw [hw3]; exact R3.out)
  have K3 := Lib.hid (show Kp w w3 by rw [hw3]; exact Below.setCell (KJ.out.trans kk) (p := ⟨w.heap.size, 0, none⟩) (Nat.le_refl _) _)
  have B3 := Lib.hid (show w3.heap[w.heap.size]? = some (.cells #[.slice a2 L.length c2] 22 (0, 0)) by rw [hw3]; exact set1_heap bx2 0 _)
  have HW3 := Lib.hid hw3
  clear kk own2 bx2 R3 hw3 q1
  have Z3 := Lib.hid (Kp.refl w3)
  go_wp2_with fail
  rw [← HW3.out]
  clear q2 f2
  have q3 : w3.cell? ⟨w.heap.size, 0, none⟩ = some (.slice a2 L.length c2) := by simp [World.cell?, B3.out]
  go_wp2_with fail
  refine (CW.out _ _ R3'.out).mono ?_
  rintro e w4 ⟨rfl, kk⟩
  have R4 := Lib.hid (R3'.out.kp kk)
  have K4 := Lib.hid (K3.out.trans kk)
  have q4 := cell_up kk q3
  clear kk q3
  by_cases h : 400 < L.length
  · rw [decide_eq_true h]
    have hen := HEN.out
    have hrl := HRL.out
    rw [if_pos h] at hen hrl
    subst hen hrl
    clear h HEN HRL
    go_wp2
    exact bodyPost_ret (results_tmp2 rfl _ _ _) rfl ⟨_, rfl, .inl ⟨_, _, rfl, rfl⟩, K4.out⟩
  · rw [decide_eq_false h]
    have hen := HEN.out
    have hrl := HRL.out
    rw [if_neg h] at hen hrl
    subst hen hrl
    clear h HEN HRL
    go_wp2
    exact bodyPost_ret (results_tmp2 rfl _ _ _) rfl ⟨_, rfl, R4.out, K4.out⟩
end Go.Proofs.YtfphmhdgnokopaaGreatDoor

namespace Go.Proofs.YtfphmhdgnokopaaGreatDoor
open Go.RowKit
set_option linter.unusedVariables false
set_option linter.unusedSimpArgs false
def ex17 : LF := ⟨true, 0, [(724641, 724641)], [(724700, 724700), (724731, 724731), (724761, 724761)]⟩
theorem ex17_leaf : leafB ex17 = true := by decide +kernel
theorem ex17_fam : famR ex17 = .span [(724641, 724641)] [(724700, 724700), (724731, 724731), (724761, 724761)] := by
  have e1 : interR ex17.a [(0, greatR ex17.b)] = [(724641, 724641)] := by decide +kernel
  have e2 : interR ex17.b [(leastR ex17.a, 3652424)] = [(724700, 724700), (724731, 724731), (724761, 724761)] := by decide +kernel
  rw [famR_span ex17_leaf rfl (by decide), e1, e2]
theorem ex17_full : fullB ex17 = true := by unfold fullB; rw [ex17_fam]; rfl
theorem ex17_any : anyB [ex17] = true := by unfold anyB; simp [ex17_full]
theorem ex17_pos : posR [ex17] = [(724641, 724761)] := by
  have e : [ex17].filter fullB = [ex17] := by simp [List.filter, ex17_full]
  have e2 : allR [ex17] = [(724641, 724761)] := by
    unfold allR
    simp only [List.flatMap_cons, List.flatMap_nil, List.append_nil, ex17_fam]
    rfl
  unfold posR
  rw [e, e2]
  decide +kernel
theorem ex17_sure : sureR [ex17] = [(724641, 724700)] := by
  have e1 : envF dGS max [ex17] = (724641, 0) := by simp [envF, envS, ex17_fam, emptyF, dGS, greatR, at_]
  have e2 : envF dLE min [ex17] = (724700, 0) := by simp [envF, envS, ex17_fam, emptyF, dLE, leastR, at_]
  unfold sureR
  rw [if_pos ex17_any, e1, e2]
  decide +kernel
theorem ex17_p : posB [ex17] 724750 = true := by
  rw [← posR_has, ex17_pos]; decide +kernel
theorem ex17_c : cerB [ex17] 724641 = true := by
  unfold cerB; rw [ex17_any, ex17_sure]; decide +kernel
theorem one_read {w : World} {v : Value} {lo hi' : Int} (h : RunsAt w v [(lo, hi')]) : ∃ b off c, v = .slice (some ⟨b, off, none⟩) 1 c ∧ w.cell? ⟨b, off, none⟩ = some (.int .i64 lo) ∧ w.cell? ⟨b, off + 1, none⟩ = some (.int .i64 hi') := by
  rcases h with ⟨_, _, _, e⟩ | ⟨b, off, c, rfl, _, _, hx⟩
  · cases e
  · have := hx 0 (by simp)
    exact ⟨b, off, c, rfl, by simpa [at_] using this.1, by simpa [at_] using this.2⟩
set_option maxHeartbeats 16000000 in
set_option maxRecDepth 100000 in
theorem awake17 (w : World) (T : Tabs w) : Calls Tryz.prog 41 #[] w fun e w' => e = .returned (.bool true) ∧ Kp w w' := by
  obtain ⟨W0, hW⟩ : ∃ W0, W0 = ((w.alloc (.cells #[.int .i64 724641, .int .i64 724641] 51)).alloc (.cells #[.int .i64 724700, .int .i64 724700, .int .i64 724731, .int .i64 724731, .int .i64 724761, .int .i64 724761] 51)).alloc (.cells #[.bool true, .int .i64 0, .slice (some ⟨w.heap.size, 0, none⟩) 1 1, .slice (some ⟨w.heap.size + 1, 0, none⟩) 3 3] 24) := ⟨_, rfl⟩
  have k0 : Kp w W0 := by rw [hW]; exact ((Kp.alloc _ _).trans (Kp.alloc _ _)).trans (Kp.alloc _ _)
  have hg : W0.heap[w.heap.size + 1 + 1]? = some (.cells #[.bool true, .int .i64 0, .slice (some ⟨w.heap.size, 0, none⟩) 1 1, .slice (some ⟨w.heap.size + 1, 0, none⟩) 3 3] 24 (0, 0)) := by rw [hW]; exact heap_at _ _ _ (by simp)
  have r2 := lit_at (w.alloc (.cells #[.int .i64 724641, .int .i64 724641] 51)) [(724700, 724700), (724731, 724731), (724761, 724761)] #[.int .i64 724700, .int .i64 724700, .int .i64 724731, .int .i64 724731, .int .i64 724761, .int .i64 724761] 51 rfl (by unfold maxLen; simp)
  simp only [World.size_alloc] at r2
  have r1 : RunsAt W0 (.slice (some ⟨w.heap.size, 0, none⟩) 1 1) [(724641, 724641)] := by rw [hW]; exact ((one_at w 724641 724641 51).kp (Kp.alloc _ _)).kp (Kp.alloc _ _)
  have r2' : RunsAt W0 (.slice (some ⟨w.heap.size + 1, 0, none⟩) 3 3) [(724700, 724700), (724731, 724731), (724761, 724761)] := by rw [hW]; exact r2.kp (Kp.alloc _ _)
  have hv : LeavesAt W0 (.slice (some ⟨w.heap.size + 1 + 1, 0, none⟩) 1 1) [ex17] := by
    refine .inr ⟨w.heap.size + 1 + 1, 0, 1, rfl, Nat.le_refl _, by unfold maxLen; omega, fun i hi => ?_⟩
    have hi2 : i < 1 := hi
    obtain rfl : i = 0 := by omega
    exact ⟨_, _, by first | (simp [World.cell?, hg]; done) | (simp [World.cell?, hg]; rfl), by first | (simp [World.cell?, hg]; done) | (simp [World.cell?, hg]; rfl), by first | (simp [World.cell?, hg]; done) | (simp [World.cell?, hg]; rfl), by first | (simp [World.cell?, hg]; done) | (simp [World.cell?, hg]; rfl), r1, r2'⟩
  have i1 : I64R [(724641, 724641)] := i64_one (by decide) (by decide) (by decide) (by decide)
  have i2 : I64R [(724700, 724700), (724731, 724731), (724761, 724761)] := by
    intro r hr
    simp only [List.mem_cons, List.not_mem_nil, or_false] at hr
    rcases hr with rfl | rfl | rfl <;> decide
  have ls : LsOk [ex17] := by
    intro f hf
    rcases List.mem_cons.1 hf with rfl | hf
    · exact ⟨i1, i2, by decide, by decide⟩
    · cases hf
  have C1 := Lib.hid (fun w1 (kk : Kp W0 w1) => covDays_any _ _ w1 (hv.kp kk) ls (by decide) (T.kp (k0.trans kk)))
  have C2 := Lib.hid (fun w1 (kk : Kp W0 w1) => sure_any _ _ w1 (hv.kp kk) ls (T.kp (k0.trans kk)))
  have C3 := Lib.hid (fun w1 (kk : Kp W0 w1) => possible_any _ _ 724750 w1 (hv.kp kk) ls (T.kp (k0.trans kk)))
  have C4 := Lib.hid (fun w1 (kk : Kp W0 w1) => certain_any _ _ 724641 w1 (hv.kp kk) ls (T.kp (k0.trans kk)) (by decide) (by decide))
  rw [ex17_pos, if_neg (by decide), if_neg (by decide)] at C1
  rw [ex17_any, if_pos rfl, ex17_sure] at C2
  rw [ex17_p] at C3
  rw [ex17_c] at C4
  have K0 := Lib.hid k0
  have HW := Lib.hid hW
  have J0 := Lib.hid (Kp.refl W0)
  clear hW k0 hg r1 r2 r2' hv i1 i2 ls T
  go_enter Tryz.func41, Tryz.ntmps41
  go_wp2_with fail
  rw [← HW.out]
  refine (C1.out _ (by first | with_reducible exact J0.out | with_reducible exact J0.out.trans (Kp.alloc _ _) | with_reducible exact (J0.out.trans (Kp.alloc _ _)).trans (Kp.alloc _ _) | with_reducible exact ((J0.out.trans (Kp.alloc _ _)).trans (Kp.alloc _ _)).trans (Kp.alloc _ _) | with_reducible exact J0.out.trans (Kp.drew _) | with_reducible exact J0.out.trans (Kp.drewN _ _))).mono ?_
  rintro e w1 ⟨v1, rfl, r1, kk⟩
  obtain ⟨b1, o1, c1, rfl, x1, y1⟩ := one_read r1
  have J1 := Lib.hid ((show Kp W0 _ from (by first | with_reducible exact J0.out | with_reducible exact J0.out.trans (Kp.alloc _ _) | with_reducible exact (J0.out.trans (Kp.alloc _ _)).trans (Kp.alloc _ _) | with_reducible exact ((J0.out.trans (Kp.alloc _ _)).trans (Kp.alloc _ _)).trans (Kp.alloc _ _) | with_reducible exact J0.out.trans (Kp.drew _) | with_reducible exact J0.out.trans (Kp.drewN _ _))).trans kk)
  have Z1 := Lib.hid (Kp.refl w1)
  clear kk r1
  go_wp2_with fail
  refine (C2.out _ (by first | with_reducible exact J1.out | with_reducible exact J1.out.trans (Kp.alloc _ _) | with_reducible exact (J1.out.trans (Kp.alloc _ _)).trans (Kp.alloc _ _) | with_reducible exact ((J1.out.trans (Kp.alloc _ _)).trans (Kp.alloc _ _)).trans (Kp.alloc _ _) | with_reducible exact J1.out.trans (Kp.drew _) | with_reducible exact J1.out.trans (Kp.drewN _ _))).mono ?_
  rintro e w2 ⟨v2, rfl, r2, kk⟩
  obtain ⟨b2, o2, c2, rfl, x2, y2⟩ := one_read r2
  have J2 := Lib.hid ((show Kp W0 _ from (by first | with_reducible exact J1.out | with_reducible exact J1.out.trans (Kp.alloc _ _) | with_reducible exact (J1.out.trans (Kp.alloc _ _)).trans (Kp.alloc _ _) | with_reducible exact ((J1.out.trans (Kp.alloc _ _)).trans (Kp.alloc _ _)).trans (Kp.alloc _ _) | with_reducible exact J1.out.trans (Kp.drew _) | with_reducible exact J1.out.trans (Kp.drewN _ _))).trans kk)
  have z1 := (show Kp w1 _ from (by first | with_reducible exact Z1.out | with_reducible exact Z1.out.trans (Kp.alloc _ _) | with_reducible exact (Z1.out.trans (Kp.alloc _ _)).trans (Kp.alloc _ _) | with_reducible exact ((Z1.out.trans (Kp.alloc _ _)).trans (Kp.alloc _ _)).trans (Kp.alloc _ _) | with_reducible exact Z1.out.trans (Kp.drew _) | with_reducible exact Z1.out.trans (Kp.drewN _ _))).trans kk
  replace x1 := cell_up z1 x1
  replace y1 := cell_up z1 y1
  clear kk r2 z1
  go_wp2_with fail
  refine (C3.out _ (by first | with_reducible exact J2.out | with_reducible exact J2.out.trans (Kp.alloc _ _) | with_reducible exact (J2.out.trans (Kp.alloc _ _)).trans (Kp.alloc _ _) | with_reducible exact ((J2.out.trans (Kp.alloc _ _)).trans (Kp.alloc _ _)).trans (Kp.alloc _ _) | with_reducible exact J2.out.trans (Kp.drew _) | with_reducible exact J2.out.trans (Kp.drewN _ _))).mono ?_
  rintro e w3 ⟨rfl, kk⟩
  have J3 := Lib.hid ((show Kp W0 _ from (by first | with_reducible exact J2.out | with_reducible exact J2.out.trans (Kp.alloc _ _) | with_reducible exact (J2.out.trans (Kp.alloc _ _)).trans (Kp.alloc _ _) | with_reducible exact ((J2.out.trans (Kp.alloc _ _)).trans (Kp.alloc _ _)).trans (Kp.alloc _ _) | with_reducible exact J2.out.trans (Kp.drew _) | with_reducible exact J2.out.trans (Kp.drewN _ _))).trans kk)
  clear kk x1 y1 x2 y2
  go_wp2_with fail
  refine (C4.out _ (by first | with_reducible exact J3.out | with_reducible exact J3.out.trans (Kp.alloc _ _) | with_reducible exact (J3.out.trans (Kp.alloc _ _)).trans (Kp.alloc _ _) | with_reducible exact ((J3.out.trans (Kp.alloc _ _)).trans (Kp.alloc _ _)).trans (Kp.alloc _ _) | with_reducible exact J3.out.trans (Kp.drew _) | with_reducible exact J3.out.trans (Kp.drewN _ _))).mono ?_
  rintro e w4 ⟨rfl, kk⟩
  have J4 := Lib.hid ((show Kp W0 _ from (by first | with_reducible exact J3.out | with_reducible exact J3.out.trans (Kp.alloc _ _) | with_reducible exact (J3.out.trans (Kp.alloc _ _)).trans (Kp.alloc _ _) | with_reducible exact ((J3.out.trans (Kp.alloc _ _)).trans (Kp.alloc _ _)).trans (Kp.alloc _ _) | with_reducible exact J3.out.trans (Kp.drew _) | with_reducible exact J3.out.trans (Kp.drewN _ _))).trans kk)
  clear kk
  go_wp2
  go_ret
  exact ⟨rfl, K0.out.trans J4.out⟩
theorem none_no {l : List LF} {k : Nat} (h : k < l.length) (g : emptyF (famR (lat l k)) = false) : anyB l = true := by
  unfold anyB
  exact any_yes h (by unfold fullB; rw [g]; rfl)
theorem none_yes {l : List LF} (h : ∀ i, i < l.length → emptyF (famR (lat l i)) = true) : anyB l = false := by
  unfold anyB
  exact any_no fun i hi => by unfold fullB; rw [h i hi]; rfl
set_option maxHeartbeats 16000000 in
set_option maxRecDepth 100000 in
theorem none_any (v : Value) (l : List LF) (w : World) (hv : LeavesAt w v l) (hl : LsOk l) (T : Tabs w) :
    Calls Tryz.prog 52 #[v] w fun e w' => e = .returned (.bool (!anyB l)) ∧ Kp w w' := by
  have hm := hv.len
  unfold maxLen at hm
  obtain ⟨ad, cp, rfl⟩ := hv.slice
  have HV := Lib.hid hv
  have HL := Lib.hid hl
  have TT := Lib.hid T
  have NO := Lib.hid (fun k (h : k < l.length) g => none_no (l := l) h g)
  have YES := Lib.hid (fun h => none_yes (l := l) h)
  have Z0 := Lib.hid (Kp.refl w)
  clear hv hl T
  generalize anyB l = r at *
  go_enter Tryz.func52, Tryz.ntmps52
  go_wp2
  go_loopw [3] (fun i wr => ∃ k : Nat, k ≤ l.length ∧ i = .int .i64 k ∧ Hid (∀ i, i < k → emptyF (famR (lat l i)) = true) ∧ Hid (Kp w wr)) (fun i _ => l.length - (intOf i).toNat)
  case atStart => exact ⟨0, Nat.zero_le _, rfl, Lib.hid (fun i h => by omega), Z0⟩
  case round =>
    obtain ⟨k, hk, rfl, FA, J⟩ := hrel
    by_cases hlt : k < l.length
    · rcases HV.out.kp J.out with ⟨_, _, _, e⟩ | ⟨b0, off, cap, ev, hc, hmx, hx⟩
      · rw [e] at hlt; simp at hlt
      cases ev
      obtain ⟨va, vb, d0, d1, d2, d3, ra, rb⟩ := hx k hlt
      have LOK := HL.out _ (lat_mem hlt)
      obtain ⟨f, hf⟩ : ∃ f, lat l k = f := ⟨_, rfl⟩
      rw [hf] at d0 d1 ra rb
      (try rw [hf] at LOK)
      obtain ⟨sp, u, a, b⟩ := f
      simp only at d0 d1 ra rb
      (try simp only at LOK)
      obtain ⟨aa, ca, rfl⟩ := ra.slice
      obtain ⟨ab, cb, rfl⟩ := rb.slice
      have HF := Lib.hid hf
      have z1 : (k : Int) < (l.length : Int) := by omega
      have z2 : (0 : Int) ≤ (k : Int) := by omega
      clear hx hc hmx hf
      have ok : LeafOk wr ⟨sp, u, a, b⟩ _ _ := ⟨ra, rb, LOK.1, LOK.2.1, LOK.2.2.1, LOK.2.2.2⟩
      have C := Lib.hid (fun w1 (kk : Kp wr w1) => leafEmpty_any ⟨sp, u, a, b⟩ _ _ w1 (ok.kp kk) (TT.out.kp (J.out.trans kk)).2)
      simp only [leafV] at C
      have N := Lib.hid (fun g => NO.out k hlt (show emptyF (famR (lat l k)) = false by rw [HF.out]; exact g))
      have Y := Lib.hid (fun (g : emptyF (famR ⟨sp, u, a, b⟩) = true) => (by rw [HF.out]; exact g : emptyF (famR (lat l k)) = true))
      generalize emptyF (famR ⟨sp, u, a, b⟩) = fb at *
      have KR := Lib.hid (Kp.refl wr)
      clear ra rb NO ok
      cases fb with
      | false =>
        have hr := N.out (by first | rfl | trivial)
        subst hr
        go_wp2_with fail
        refine (C.out _ (by first | with_reducible exact KR.out | with_reducible exact KR.out.trans (Kp.alloc _ _) | with_reducible exact (KR.out.trans (Kp.alloc _ _)).trans (Kp.alloc _ _) | with_reducible exact ((KR.out.trans (Kp.alloc _ _)).trans (Kp.alloc _ _)).trans (Kp.alloc _ _) | with_reducible exact KR.out.trans (Kp.drew _) | with_reducible exact KR.out.trans (Kp.drewN _ _))).mono ?_
        rintro e w1 ⟨rfl, kk⟩
        have J1 := Lib.hid (J.out.trans ((show Kp wr _ from (by first | with_reducible exact KR.out | with_reducible exact KR.out.trans (Kp.alloc _ _) | with_reducible exact (KR.out.trans (Kp.alloc _ _)).trans (Kp.alloc _ _) | with_reducible exact ((KR.out.trans (Kp.alloc _ _)).trans (Kp.alloc _ _)).trans (Kp.alloc _ _) | with_reducible exact KR.out.trans (Kp.drew _) | with_reducible exact KR.out.trans (Kp.drewN _ _))).trans kk))
        go_wp2
        go_ret
        exact ⟨rfl, J1.out⟩
      | true =>
        go_wp2_with fail
        refine (C.out _ (by first | with_reducible exact KR.out | with_reducible exact KR.out.trans (Kp.alloc _ _) | with_reducible exact (KR.out.trans (Kp.alloc _ _)).trans (Kp.alloc _ _) | with_reducible exact ((KR.out.trans (Kp.alloc _ _)).trans (Kp.alloc _ _)).trans (Kp.alloc _ _) | with_reducible exact KR.out.trans (Kp.drew _) | with_reducible exact KR.out.trans (Kp.drewN _ _))).mono ?_
        rintro e w1 ⟨rfl, kk⟩
        have J1 := Lib.hid (J.out.trans ((show Kp wr _ from (by first | with_reducible exact KR.out | with_reducible exact KR.out.trans (Kp.alloc _ _) | with_reducible exact (KR.out.trans (Kp.alloc _ _)).trans (Kp.alloc _ _) | with_reducible exact ((KR.out.trans (Kp.alloc _ _)).trans (Kp.alloc _ _)).trans (Kp.alloc _ _) | with_reducible exact KR.out.trans (Kp.drew _) | with_reducible exact KR.out.trans (Kp.drewN _ _))).trans kk))
        clear kk
        go_wp2
        go_roundw
        case rel => exact ⟨k + 1, by omega, by go_num, Lib.hid (fun i hi => by
          by_cases c : i < k
          · exact FA.out i c
          · obtain rfl : i = k := by omega
            exact Y.out (by first | rfl | trivial)), J1⟩
        case measure => simp [intOf]; omega
    · obtain rfl : k = l.length := by omega
      have hr := YES.out FA.out
      subst hr
      go_wp2
      go_ret
      exact ⟨rfl, J.out⟩
end Go.Proofs.YtfphmhdgnokopaaGreatDoor
