/-
  Contracts of package narrow: together, unitLeaves; slices.Clone of runs.
-/
import Derived.Test.YtjdnejglapnbbaaGreatDoorNwA
import Derived.Test.YtjdnejglapnbbaaGreatDoorGBa
import Derived.Test.YtjdnejglapnbbaaGreatDoorGLeafA
import Derived.LoopTactic
namespace Go.Proofs.YtjdnejglapnbbaaGreatDoor
open Go.RowKit
set_option linter.unusedVariables false
set_option linter.unusedSimpArgs false
theorem step_appS {P : Program} {w : World} {ops : Array Oper} {o : Oper} {a : Act} {K : Act → World → Prop} {Q : Exit → Act → World → Prop} {E : Prop} (hgd : o.guard = none) (s x : Operand) (t : TypeId)
    (ho : o.op = .call { callee := .builtin .append, args := #[s, x], argTypes := #[t, t] })
    (base : Nat) (e : TypeId) (i : TypeInfo) (z : Value) (size bytes : Nat) (ht : P.underlying t = some (.slice e)) (hi : P.info? e = some i) (hz : i.zero = some z)
    (hsize : i.size = size) (hby : i.bytes = bytes) (hzs : z.cells.size = size) (hsz : 0 < size)
    (v : Value) (n : Nat) (xs : List Value) (hs : a.eval s = v) (hown : w.ownsRow base e size v n xs)
    (sv : Value) (m : Nat) (news : List Value) (hx : a.eval x = sv) (hsrc : SrcAt w sv m news) (hl : news.length = m * size) (h1 : ∀ u ∈ news, u.oneCell' = true)
    (h63 : n + m ≤ maxLen) (hbytes : (n + m) * bytes ≤ 140737488355328) (hbase : base ≤ w.heap.size)
    (h : ∀ v' w', w'.ownsRow base e size v' (n + m) (xs ++ news) → w.grownBy w' v.ownBlock → (v'.ownBlock = v.ownBlock ∨ v'.ownBlock = some w.heap.size) → K (a.put o.dst v') w') : if Region.wanted o (yielded ops a.tmps) = true then Oper.wp P o a w K Q else E := by
  rw [if_pos (by simp [Region.wanted, hgd])]
  have : ∃ v' w', (Builtin.append_ #[t, t] o.type #[v, sv]).run P w = .ok v' w' ∧ w'.ownsRow base e size v' (n + m) (xs ++ news) ∧ w.grownBy w' v.ownBlock ∧ (v'.ownBlock = v.ownBlock ∨ v'.ownBlock = some w.heap.size) := by
    rcases hsrc with ⟨ad, cp, rfl, rfl, rfl⟩ | ⟨ad, c, rfl, hn⟩
    · exact ⟨v, w, run_append_zero w base t o.type e i size ht hi v n xs hown ad cp, by simpa using hown, ⟨rfl, rfl, rfl, Nat.le_refl _, fun _ _ _ => rfl⟩, .inl rfl⟩
    · obtain ⟨v', w', hr, h2, h3, _, h5⟩ := run_append_own_at (P := P) w base t o.type e i z size bytes ht hi hz hsize hby hzs hsz v n xs hown ad m c news hl hn h1 h63 hbytes hbase
      exact ⟨v', w', hr, h2, h3, h5⟩
  obtain ⟨v', w', hr, h2, h3, h4⟩ := this
  unfold Oper.wp execOp
  simp only [ho, resolve, invoke, builtin, Sem.run_bind, Sem.run_pure, Result.andThen_ok, List.map_toArray, List.map_cons, List.map_nil, hs, hx, hr]
  exact h v' w' h2 h3 h4
theorem grown_up {w w1 : World} {row : Option Nat} (g : w.grownBy w1 row) {B o : Nat} {x : Value} (c : w.cell? ⟨B, o, none⟩ = some x) (hn : row ≠ some B) : w1.cell? ⟨B, o, none⟩ = some x :=
  (grown_cell g (World.block_lt_of_cell? _ _ c) (fun j hj e => hn (by rw [hj, e]))).trans c
theorem own_below {w : World} {base : Nat} {e : TypeId} {size : Nat} {v : Value} {n : Nat} {xs : List Value} (h : w.ownsRow base e size v n xs) {B : Nat} (hB : B < base) : v.ownBlock ≠ some B := fun q => by
  have := (h.lt _ q).1
  omega
theorem own_above {w : World} {base : Nat} {e : TypeId} {size : Nat} {v : Value} {n : Nat} {xs : List Value} (h : w.ownsRow base e size v n xs) {B : Nat} (hB : w.heap.size ≤ B) : v.ownBlock ≠ some B := fun q => by
  have := (h.lt _ q).2
  omega
theorem cell_lt {w : World} {B o : Nat} {x : Value} (c : w.cell? ⟨B, o, none⟩ = some x) : B < w.heap.size := World.block_lt_of_cell? _ _ c
/-- each start with the end at its place -/
def togN (s t : List R) (n : Nat) : List R := (List.range n).map fun i => ((at_ s i).1, (at_ t i).2)
theorem tog_next (s t : List R) (n : Nat) : togN s t (n + 1) = togN s t n ++ [((at_ s n).1, (at_ t n).2)] := by simp [togN, List.range_succ]
theorem tog_len (s t : List R) (n : Nat) : (togN s t n).length = n := by simp [togN]
abbrev nwtA0 : Oper := { dst := some 15, op := Go.Op.move (Go.Operand.tmp 5), type := 38, pos := "bounds.go:43", after := #[], guard := none }
abbrev nwtA1 : Oper := { dst := some 16, op := Go.Op.fieldAddr 53 (Go.Operand.tmp 7) 0, type := 0, pos := "bounds.go:43", after := #[], guard := none }
abbrev nwtA2 : Oper := { dst := some 17, op := Go.Op.load 3 (Go.Operand.tmp 16), type := 3, pos := "bounds.go:43", after := #[{ on := 1, ground := Go.Ground.data }], guard := none }
abbrev nwtA3 : Oper := { dst := some 18, op := Go.Op.move (Go.Operand.tmp 1), type := 38, pos := "bounds.go:43", after := #[], guard := none }
abbrev nwtA4 : Oper := { dst := some 19, op := Go.Op.move (Go.Operand.tmp 6), type := 3, pos := "bounds.go:43", after := #[], guard := none }
abbrev nwtA5 : Oper := { dst := some 20, op := Go.Op.indexAddr 38 (Go.Operand.tmp 18) (Go.Operand.tmp 19), type := 0, pos := "bounds.go:43", after := #[{ on := 3, ground := Go.Ground.data }, { on := 4, ground := Go.Ground.data }], guard := none }
abbrev nwtA6 : Oper := { dst := some 21, op := Go.Op.fieldAddr 53 (Go.Operand.tmp 20) 1, type := 0, pos := "bounds.go:43", after := #[{ on := 5, ground := Go.Ground.data }], guard := none }
abbrev nwtA7 : Oper := { dst := some 22, op := Go.Op.load 3 (Go.Operand.tmp 21), type := 3, pos := "bounds.go:43", after := #[{ on := 6, ground := Go.Ground.data }], guard := none }
abbrev nwtA8 : Oper := { dst := some 23, op := Go.Op.build 53 #[(0, Go.Operand.tmp 17), (1, Go.Operand.tmp 22)], type := 53, pos := "bounds.go:43", after := #[{ on := 2, ground := Go.Ground.data }, { on := 7, ground := Go.Ground.data }], guard := none }
abbrev nwtA9 : Oper := { dst := some 24, op := Go.Op.buildSlice 38 1 #[(0, Go.Operand.tmp 23)], type := 38, pos := "bounds.go:43", after := #[{ on := 8, ground := Go.Ground.data }], guard := none }
abbrev nwtA10 : Oper := { dst := some 25, op := Go.Op.call { callee := Go.Callee.builtin Go.Builtin.append, args := #[Go.Operand.tmp 15, Go.Operand.tmp 24], argTypes := #[38, 38] }, type := 38, pos := "bounds.go:43", after := #[{ on := 0, ground := Go.Ground.data }, { on := 9, ground := Go.Ground.data }], guard := none }
abbrev nwtA11 : Oper := { dst := some 5, op := Go.Op.assign (Go.Operand.tmp 25), type := 38, pos := "bounds.go:43", after := #[{ on := 10, ground := Go.Ground.data }, { on := 10, ground := Go.Ground.chain }, { on := 0, ground := Go.Ground.phase }, { on := 1, ground := Go.Ground.phase }, { on := 2, ground := Go.Ground.phase }, { on := 3, ground := Go.Ground.phase }, { on := 4, ground := Go.Ground.phase }, { on := 5, ground := Go.Ground.phase }, { on := 6, ground := Go.Ground.phase }, { on := 7, ground := Go.Ground.phase }, { on := 8, ground := Go.Ground.phase }, { on := 9, ground := Go.Ground.phase }, { on := 10, ground := Go.Ground.phase }], guard := none }
set_option maxHeartbeats 16000000 in
set_option maxRecDepth 100000 in
theorem nwTogether_any (va vb : Value) (s t : List R) (w : World) (hv : RunsAt w va s) (hu : RunsAt w vb t) (hn : s.length ≤ 1000000) (hl : s.length ≤ t.length) :
    Calls Tryz.prog 118 #[va, vb] w fun e w' => ∃ v', e = .returned v' ∧ OwnR w' w.heap.size v' (togN s t s.length) ∧ Kp w w' := by
  obtain ⟨h0, hi, hz0, hz1, hz2⟩ := info_parts infoR
  have hmt := hu.len
  unfold maxLen at hmt
  obtain ⟨ad, ca, rfl⟩ := hv.slice
  obtain ⟨ae, cb, rfl⟩ := hu.slice
  have HV := Lib.hid hv
  have HU := Lib.hid hu
  clear hv hu
  go_enter Tryz.func118, Tryz.ntmps118
  go_wp2_with fail
  go_loopw [5, 10] (fun v i wr => ∃ k : Nat, k ≤ s.length ∧ i = .int .i64 k ∧ Hid (OwnR wr w.heap.size v (togN s t k)) ∧ Hid (Kp w wr)) (fun _ i _ => s.length - (intOf i).toNat)
  case atStart => exact ⟨0, Nat.zero_le _, rfl, Lib.hid (World.ownsRow_nil _ _ _ _), Lib.hid (Kp.refl _)⟩
  case round =>
    obtain ⟨k, hk, rfl, O5, J⟩ := hrel
    have e5 := tog_len s t k
    have o5 := O5.out
    unfold OwnR at o5
    obtain ⟨a5, l5, rfl⟩ := own_slice o5
    by_cases hlt : k < s.length
    · have q2 : decide ((k : Int) < (s.length : Int)) = true := decide_eq_true (by omega)
      have q3 : decide (k < s.length) = true := decide_eq_true hlt
      rcases (HV.out.kp J.out) with ⟨_, _, _, e⟩ | ⟨b1, off1, cap1, ev, hc1, hm1, hx1⟩
      · rw [e] at hlt; simp at hlt
      obtain ⟨r1, r2⟩ := hx1 k hlt
      cases ev
      have hlt2 : k < t.length := by omega
      have HU2 := HU.out
      rcases HU2 with ⟨_, _, _, e⟩ | ⟨b2, off2, cap2, ev, hc2, hm2, hx2⟩
      · rw [e] at hlt2; simp at hlt2
      obtain ⟨r3, r4⟩ := hx2 k hlt2
      cases ev
      have lb2 := cell_lt r4
      have r4 := cell_up J.out r4
      obtain ⟨lo, elo⟩ : ∃ x, (at_ s k).1 = x := ⟨_, rfl⟩
      obtain ⟨hi0, ehi0⟩ : ∃ x, (at_ s k).2 = x := ⟨_, rfl⟩
      obtain ⟨hi', ehi⟩ : ∃ x, (at_ t k).2 = x := ⟨_, rfl⟩
      rw [elo] at r1
      rw [ehi0] at r2
      rw [ehi] at r4
      have NX := Lib.hid (show togN s t (k + 1) = togN s t k ++ [(lo, hi')] by rw [tog_next, elo, ehi])
      have z1 : (0 : Int) ≤ (k : Int) := by omega
      have z2 : (k : Int) < s.length := by omega
      have z3 : (k : Int) < t.length := by omega
      have kkVV : Kp wr (wr.alloc (.cells #[.int .i64 lo, .int .i64 hi0] 53)) := Kp.alloc _ _
      have NEV := Lib.hid (own_above o5 (B := wr.heap.size) (Nat.le_refl _))
      have NEB := Lib.hid (own_below o5 (B := b2) lb2)
      generalize togN s t k = X at *
      obtain ⟨n5, hn5⟩ : ∃ x, X.length = x := ⟨_, rfl⟩
      rw [hn5] at o5 e5 NEV NEB ⊢
      have HN5 := Lib.hid hn5
      have e6 : n5 ≤ 1000000 := by omega
      clear e5 hx1 hc1 hx2 hc2 hm2 r3 elo ehi0 ehi hn5
      obtain ⟨V, hVv⟩ : ∃ x, x = wr.alloc (.cells #[.int .i64 lo, .int .i64 hi0] 53) := ⟨_, rfl⟩
      have kav : Kp wr V := by rw [hVv]; exact Kp.alloc _ _
      have gqv0 : V.heap[wr.heap.size]? = some (.cells #[.int .i64 lo, .int .i64 hi0] 53 (0, 0)) := by rw [hVv]; exact heap_at _ _ _ (by first | rfl | simp)
      rw [← hVv] at kkVV
      have KSv := Lib.hid (fun w' (kq : Kp V w') => show w'.cell? ⟨wr.heap.size, 0, none⟩ = some (.int .i64 lo) ∧ w'.cell? ⟨wr.heap.size, 1, none⟩ = some (.int .i64 hi0) ∧ w'.cell? ⟨b2, off2 + k * 2 + 1, none⟩ = some (.int .i64 hi') ∧ Kp V w' from ⟨(row2 (heap_block kq gqv0)).1, (row2 (heap_block kq gqv0)).2, cell_up kq (cell_up kkVV r4), kq⟩)
      have GQv0 := Lib.hid gqv0
      have HVv := Lib.hid hVv
      have KV := Lib.hid kav
      clear hVv kav gqv0
      have kkV : Kp V V := Kp.refl _
      have KCv := Lib.hid (fun w' (kq : Kp V w') => show w'.cell? ⟨wr.heap.size, 0, none⟩ = some (.int .i64 lo) ∧ w'.cell? ⟨wr.heap.size, 1, none⟩ = some (.int .i64 hi0) ∧ w'.cell? ⟨b2, off2 + k * 2 + 1, none⟩ = some (.int .i64 hi') from ⟨(KSv.out w' kq).1, (KSv.out w' kq).2.1, (KSv.out w' kq).2.2.1⟩)
      have OW := Lib.hid (own_kp o5 KV.out)
      have KWV := Lib.hid (J.out.trans KV.out)
      have bs := Below.size KWV.out
      clear O5 o5
      go_upto_region 5 with fail
      rw [← HVv.out]
      clear HVv r1 r2
      refine wp_region_held_drew (S := fun w' => w'.cell? ⟨wr.heap.size, 0, none⟩ = some (.int .i64 lo) ∧ w'.cell? ⟨wr.heap.size, 1, none⟩ = some (.int .i64 hi0) ∧ w'.cell? ⟨b2, off2 + k * 2 + 1, none⟩ = some (.int .i64 hi')) (by kernel_rfl) ?_ (fun hHeld0 => ?_)
      · (try dsimp only); exact KCv.out _ (by first | with_reducible exact kkV | ((repeat (first | with_reducible refine Kp.trans ?_ (Kp.drew _) | with_reducible refine Kp.trans ?_ (Kp.alloc _ _))); with_reducible exact kkV))
      refine tkW (v := ?_) 0 nwtA0 rfl (by kernel_rfl) (by kernel_rfl) (by kernel_rfl) (fun _ _ _ h => h) (by rfl) ?_ (by assumption) ?_
      rotate_left
      · intro w hSw; (try dsimp only at hSw); go_simp; (try with_reducible rfl)
      (try simp only [Act.put, nwtA0, List.setIfInBounds_toArray, List.set_cons_zero, List.set_cons_succ])
      refine tkW (v := ?_) 1 nwtA1 rfl (by kernel_rfl) (by kernel_rfl) (by kernel_rfl) (fun _ _ _ h => h) (by rfl) ?_ (by assumption) ?_
      rotate_left
      · intro w hSw; (try dsimp only at hSw); go_simp; (try with_reducible rfl)
      (try simp only [Act.put, nwtA1, List.setIfInBounds_toArray, List.set_cons_zero, List.set_cons_succ])
      refine tkW (v := ?_) 2 nwtA2 rfl (by kernel_rfl) (by kernel_rfl) (by kernel_rfl) (fun _ _ _ h => h) (by rfl) ?_ (by assumption) ?_
      rotate_left
      · intro w hSw; (try dsimp only at hSw); go_simp; (try with_reducible rfl)
      (try simp only [Act.put, nwtA2, List.setIfInBounds_toArray, List.set_cons_zero, List.set_cons_succ])
      refine tkW (v := ?_) 3 nwtA3 rfl (by kernel_rfl) (by kernel_rfl) (by kernel_rfl) (fun _ _ _ h => h) (by rfl) ?_ (by assumption) ?_
      rotate_left
      · intro w hSw; (try dsimp only at hSw); go_simp; (try with_reducible rfl)
      (try simp only [Act.put, nwtA3, List.setIfInBounds_toArray, List.set_cons_zero, List.set_cons_succ])
      refine tkW (v := ?_) 4 nwtA4 rfl (by kernel_rfl) (by kernel_rfl) (by kernel_rfl) (fun _ _ _ h => h) (by rfl) ?_ (by assumption) ?_
      rotate_left
      · intro w hSw; (try dsimp only at hSw); go_simp; (try with_reducible rfl)
      (try simp only [Act.put, nwtA4, List.setIfInBounds_toArray, List.set_cons_zero, List.set_cons_succ])
      refine tkW (v := ?_) 5 nwtA5 rfl (by kernel_rfl) (by kernel_rfl) (by kernel_rfl) (fun _ _ _ h => h) (by rfl) ?_ (by assumption) ?_
      rotate_left
      · intro w hSw; (try dsimp only at hSw); go_simp; (try with_reducible rfl)
      (try simp only [Act.put, nwtA5, List.setIfInBounds_toArray, List.set_cons_zero, List.set_cons_succ])
      refine tkW (v := ?_) 6 nwtA6 rfl (by kernel_rfl) (by kernel_rfl) (by kernel_rfl) (fun _ _ _ h => h) (by rfl) ?_ (by assumption) ?_
      rotate_left
      · intro w hSw; (try dsimp only at hSw); go_simp; (try with_reducible rfl)
      (try simp only [Act.put, nwtA6, List.setIfInBounds_toArray, List.set_cons_zero, List.set_cons_succ])
      refine tkW (v := ?_) 7 nwtA7 rfl (by kernel_rfl) (by kernel_rfl) (by kernel_rfl) (fun _ _ _ h => h) (by rfl) ?_ (by assumption) ?_
      rotate_left
      · intro w hSw; (try dsimp only at hSw); go_simp; (try with_reducible rfl)
      (try simp only [Act.put, nwtA7, List.setIfInBounds_toArray, List.set_cons_zero, List.set_cons_succ])
      refine tkW (v := ?_) 8 nwtA8 rfl (by kernel_rfl) (by kernel_rfl) (by kernel_rfl) (fun _ _ _ h => h) (by rfl) ?_ (by assumption) ?_
      rotate_left
      · intro w hSw; (try dsimp only at hSw); go_simp; (try with_reducible rfl)
      (try simp only [Act.put, nwtA8, List.setIfInBounds_toArray, List.set_cons_zero, List.set_cons_succ])
      refine tkE 9 nwtA9 rfl (by kernel_rfl) (fun K hK => ?_)
      go_simp
      skip
      (try go_wp2_with fail)
      refine hK.out _ _ ?_ (fun hHeld1 => ?_)
      · (try dsimp only); exact KCv.out _ (by first | with_reducible exact kkV | ((repeat (first | with_reducible refine Kp.trans ?_ (Kp.drew _) | with_reducible refine Kp.trans ?_ (Kp.alloc _ _))); with_reducible exact kkV))
      clear hK K hHeld0
      (try simp only [Act.put, nwtA9, List.setIfInBounds_toArray, List.set_cons_zero, List.set_cons_succ])
      refine tkE 10 nwtA10 rfl (by kernel_rfl) (fun K hK => ?_)
      (refine step_appS rfl (.tmp 15) (.tmp 24) 38 rfl w.heap.size 53 h0 _ 2 16 Tryz.underlying38 hi hz0 hz1 hz2 rfl (by decide) (.slice a5 n5 l5) (n5) (cellsR X) (by simp [Act.eval, Act.put]) (own_kp OW.out (show Kp V _ from (by first | with_reducible exact kkV | ((repeat (first | with_reducible refine Kp.trans ?_ (Kp.drew _) | with_reducible refine Kp.trans ?_ (Kp.alloc _ _))); with_reducible exact kkV)))) (.slice (some ⟨V.heap.size, 0, none⟩) 1 1) (1) ([.int .i64 lo, .int .i64 hi']) (by simp [Act.eval, Act.put]) (.inr ⟨_, _, rfl, World.news_of_block (heap_at _ _ _ rfl)⟩) (by simp) (by (intro u hu; simp at hu; rcases hu with rfl | rfl <;> rfl)) (by (try simp only [List.length_append, List.length_cons, List.length_nil]); unfold maxLen; omega) (by (try simp only [List.length_append, List.length_cons, List.length_nil]); omega) (Nat.le_trans bs (Below.size (show Kp V _ from (by first | with_reducible exact kkV | ((repeat (first | with_reducible refine Kp.trans ?_ (Kp.drew _) | with_reducible refine Kp.trans ?_ (Kp.alloc _ _))); with_reducible exact kkV))))) ?_; intro v7 w7 hown hgrow hat; have SG := Lib.hid (show w7.cell? ⟨wr.heap.size, 0, none⟩ = some (.int .i64 lo) ∧ w7.cell? ⟨wr.heap.size, 1, none⟩ = some (.int .i64 hi0) ∧ w7.cell? ⟨b2, off2 + k * 2 + 1, none⟩ = some (.int .i64 hi') from ⟨grown_up hgrow (KCv.out _ (by first | with_reducible exact kkV | ((repeat (first | with_reducible refine Kp.trans ?_ (Kp.drew _) | with_reducible refine Kp.trans ?_ (Kp.alloc _ _))); with_reducible exact kkV))).1 NEV.out, grown_up hgrow (KCv.out _ (by first | with_reducible exact kkV | ((repeat (first | with_reducible refine Kp.trans ?_ (Kp.drew _) | with_reducible refine Kp.trans ?_ (Kp.alloc _ _))); with_reducible exact kkV))).2.1 NEV.out, grown_up hgrow (KCv.out _ (by first | with_reducible exact kkV | ((repeat (first | with_reducible refine Kp.trans ?_ (Kp.drew _) | with_reducible refine Kp.trans ?_ (Kp.alloc _ _))); with_reducible exact kkV))).2.2 NEB.out⟩); have SGU := Lib.hid (fun w' (kq : Kp w7 w') => show w'.cell? ⟨wr.heap.size, 0, none⟩ = some (.int .i64 lo) ∧ w'.cell? ⟨wr.heap.size, 1, none⟩ = some (.int .i64 hi0) ∧ w'.cell? ⟨b2, off2 + k * 2 + 1, none⟩ = some (.int .i64 hi') from ⟨cell_up kq SG.out.1, cell_up kq SG.out.2.1, cell_up kq SG.out.2.2⟩); have KG := Lib.hid (Kp.grown (show Kp w _ from KWV.out.trans (by first | with_reducible exact kkV | ((repeat (first | with_reducible refine Kp.trans ?_ (Kp.drew _) | with_reducible refine Kp.trans ?_ (Kp.alloc _ _))); with_reducible exact kkV))) hgrow (fun j hj => (OW.out.lt j hj).1)); have HO := Lib.hid hown; clear hown hgrow hat)
      (try go_wp2_with fail)
      refine hK.out _ _ ?_ (fun hHeld2 => ?_)
      · (try dsimp only); exact SGU.out _ (by first | with_reducible exact (Kp.refl w7) | ((repeat (first | with_reducible refine Kp.trans ?_ (Kp.drew _) | with_reducible refine Kp.trans ?_ (Kp.alloc _ _))); with_reducible exact (Kp.refl w7)))
      clear hK K hHeld1
      (try simp only [Act.put, nwtA10, List.setIfInBounds_toArray, List.set_cons_zero, List.set_cons_succ])
      refine tkW (v := ?_) 11 nwtA11 rfl (by kernel_rfl) (by kernel_rfl) (by kernel_rfl) (fun _ _ _ h => h) (by rfl) ?_ (by assumption) ?_
      rotate_left
      · intro w hSw; (try dsimp only at hSw); go_simp; (try with_reducible rfl)
      (try simp only [Act.put, nwtA11, List.setIfInBounds_toArray, List.set_cons_zero, List.set_cons_succ])
      refine wpAnyH_done (by kernel_rfl) ?_ _
      go_wp2
      go_roundw
      case rel => exact ⟨k + 1, by omega, by go_num, Lib.hid (by rw [NX.out]; have h := HO.out; rw [← HN5.out] at h; exact own_snoc (own_kp h (by first | with_reducible exact (Kp.refl w7) | ((repeat (first | with_reducible refine Kp.trans ?_ (Kp.drew _) | with_reducible refine Kp.trans ?_ (Kp.alloc _ _))); with_reducible exact (Kp.refl w7))))), Lib.hid (KG.out.trans (by first | with_reducible exact (Kp.refl w7) | ((repeat (first | with_reducible refine Kp.trans ?_ (Kp.drew _) | with_reducible refine Kp.trans ?_ (Kp.alloc _ _))); with_reducible exact (Kp.refl w7))))⟩
      case measure => simp [intOf]; omega
    · have q2 : decide ((k : Int) < (s.length : Int)) = false := decide_eq_false (by omega)
      have q3 : decide (k < s.length) = false := decide_eq_false (by omega)
      obtain rfl : k = s.length := by omega
      go_wp2
      go_ret
      exact ⟨_, rfl, O5.out, J.out⟩
set_option maxHeartbeats 16000000 in
set_option maxRecDepth 100000 in
theorem nwClone_any (b o n c : Nat) (l : List R) (w : World) (hv : RunsAt w (.slice (some ⟨b, o, none⟩) n c) l) (h0 : 0 < l.length) (hn : l.length ≤ 1000000) :
    Calls Tryz.prog 191 #[.slice (some ⟨b, o, none⟩) n c] w fun e w' => ∃ v', e = .returned v' ∧ OwnR w' w.heap.size v' l ∧ Kp w w' := by
  obtain ⟨i0, hi, hz0, hz1, hz2⟩ := info_parts infoR
  obtain ⟨_, _, e⟩ := hv.slice
  cases e
  have own0 : (w.alloc (.cells #[] 53)).ownsRow w.heap.size 53 2 (.slice (some ⟨w.heap.size, 0, none⟩) 0 0) 0 (cellsR []) :=
    ⟨rfl, .inr ⟨w.heap.size, 0, #[], rfl, Nat.le_refl _, heap_at _ _ _ rfl, Nat.le_refl _, by decide, rfl, rfl⟩⟩
  have SV := Lib.hid (hv.kp (Kp.alloc w (.cells #[] 53))).src
  clear hv
  have hbo : ∀ w, Sem.run Tryz.prog (binOp .eql 38 (.slice (some ⟨b, o, none⟩) l.length c) (.slice none 0 0)) w = .ok (.bool false) w := fun w => by kernel_rfl
  go_enter Tryz.func191, Tryz.ntmps191
  go_wp2_with (at_builtin; refine wpList_app rfl (.tmp 5) (.tmp 6) 38 rfl w.heap.size 53 i0 (.agg #[.int .i64 0, .int .i64 0]) 2 16 Tryz.underlying38 hi hz0 hz1 hz2 rfl (by decide) _ _ _ rfl own0 _ _ _ rfl SV.out (cellsR_length _) (cells_one _) (by unfold maxLen; omega) (by omega) (by simp) ?_; intro v1 w1 own1 hgrow1 hat1)
  go_ret
  exact ⟨_, rfl, own_len (l := []) own1, (Kp.alloc _ _).grown hgrow1 (fun j hj => (own0.lt j hj).1)⟩
theorem runs_drop {w : World} {b o n c k : Nat} {l : List R} (h : RunsAt w (.slice (some ⟨b, o, none⟩) n c) l) (hk : k ≤ l.length) {x : Option Addr} (hx : k < l.length → x = some ⟨b, o + k * 2, none⟩) : RunsAt w (.slice x (n - k) (c - k)) (l.drop k) := by
  have hn : l.length = n := by obtain ⟨_, _, e⟩ := h.slice; cases e; rfl
  by_cases e : k = l.length
  · refine .inl ⟨x, c - k, ?_, List.drop_eq_nil_of_le (by omega)⟩
    rw [show n - k = 0 by omega]
  · rcases h with ⟨_, _, e1, e2⟩ | ⟨b', o', cap, ev, hc, hm, hx'⟩
    · rw [e2] at e hk; simp at e hk; omega
    cases ev
    rw [hx (by omega)]
    refine .inr ⟨b, o + k * 2, c - k, by rw [List.length_drop], by rw [List.length_drop]; omega, by omega, fun i hi => ?_⟩
    rw [List.length_drop] at hi
    have := hx' (k + i) (by omega)
    rw [show at_ (l.drop k) i = at_ l (k + i) by unfold at_; simp [List.getD_eq_getElem?_getD, List.getElem?_drop]]
    rw [show o + k * 2 + i * 2 = o + (k + i) * 2 by omega]
    exact this
theorem runs_take {w : World} {b o n c k : Nat} {l : List R} (h : RunsAt w (.slice (some ⟨b, o, none⟩) n c) l) (hk : k ≤ l.length) : RunsAt w (.slice (some ⟨b, o, none⟩) k c) (l.take k) := by
  have hn : l.length = n := by obtain ⟨_, _, e⟩ := h.slice; cases e; rfl
  rcases h with ⟨_, _, e1, e2⟩ | ⟨b', o', cap, ev, hc, hm, hx'⟩
  · cases e1
    rw [e2] at hk
    have : k = 0 := by simpa using hk
    subst this
    exact .inl ⟨_, _, rfl, by simp⟩
  cases ev
  have hl : (l.take k).length = k := by rw [List.length_take]; omega
  refine .inr ⟨b, o, c, by rw [hl], by rw [hl]; omega, hm, fun i hi => ?_⟩
  rw [hl] at hi
  have := hx' i (by omega)
  rw [show at_ (l.take k) i = at_ l i by unfold at_; simp [List.getD_eq_getElem?_getD, List.getElem?_take, hi]]
  exact this
theorem runs_some {w : World} {v : Value} {l : List R} (h : RunsAt w v l) (h0 : 0 < l.length) : ∃ b o c, v = .slice (some ⟨b, o, none⟩) l.length c ∧ l.length ≤ c ∧ c ≤ maxLen := by
  rcases h with ⟨_, _, _, e⟩ | ⟨b, o, c, e, hc, hm, _⟩
  · rw [e] at h0; simp at h0
  · exact ⟨b, o, c, e, hc, hm⟩
theorem chunk_cut (k : Int) (s : List R) (j : Nat) (h : 0 < (s.drop (400 * j)).length) : (chunkR k s j).a = (s.drop (400 * j)).take (min (s.drop (400 * j)).length 400) := by
  unfold chunkR
  simp only
  by_cases c : (s.drop (400 * j)).length ≤ 400
  · rw [Nat.min_eq_left c, List.take_length, List.take_of_length_le c]
  · rw [Nat.min_eq_right (by omega)]
set_option maxHeartbeats 16000000 in
set_option maxRecDepth 100000 in
theorem nwUnitLeaves_any (kd : Int) (v : Value) (s : List R) (w : World) (hv : RunsAt w v s) (hn : s.length ≤ 1000000) :
    Calls Tryz.prog 121 #[.int .i64 kd, v] w fun e w' => ∃ v' m, e = .returned v' ∧ m.map Prod.fst = chunksR kd s ∧ OwnV w' w.heap.size m ∧ w'.ownsRow w.heap.size 47 4 v' m.length (cellsV m) ∧ Kp w w' := by
  obtain ⟨i0, hi, hz0, hz1, hz2⟩ := info_parts infoLeaf
  have HV := Lib.hid hv
  have CL := Lib.hid (fun b o n c l w1 (h : RunsAt w1 (.slice (some ⟨b, o, none⟩) n c) l) (h0 : 0 < l.length) (hn : l.length ≤ 1000000) => nwClone_any b o n c l w1 h h0 hn)
  obtain ⟨ad, cp, rfl⟩ := hv.slice
  clear hv
  go_enter Tryz.func121, Tryz.ntmps121
  go_wp2
  go_loopw [1, 5] (fun sv v wr => ∃ (j : Nat) (ad1 : Option Addr) (c1 : Nat) (m : List (LF × VV)) (q : List R), Hid (q = s.drop (400 * j)) ∧ q.length ≤ 1000000 ∧ sv = .slice ad1 q.length c1 ∧ Hid (RunsAt w (.slice ad1 q.length c1) q) ∧ Hid (400 * j < s.length + 400) ∧ Hid (m.map Prod.fst = chunksN kd s j) ∧ Hid (j ≤ 10000) ∧ Hid (OwnV wr w.heap.size m) ∧ Hid (wr.ownsRow w.heap.size 47 4 v m.length (cellsV m)) ∧ Hid (Kp w wr)) (fun sv _ _ => match sv with | .slice _ n _ => n | _ => 0)
  case atStart => exact ⟨0, _, _, [], s, Lib.hid (by simp), hn, rfl, HV, Lib.hid (by omega), Lib.hid (by simp [chunksN]), Lib.hid (by omega), Lib.hid (fun p hp => by cases hp), Lib.hid (World.ownsRow_nil _ _ _ _), Lib.hid (Kp.refl _)⟩
  case round =>
    obtain ⟨j, ad1, c1, m, q, HQ, hq, rfl, RQ, HJ, HM, J4, OV, OW, J⟩ := hrel
    obtain ⟨a5, l5, rfl⟩ := own_slice4 OW.out
    have ml : m.length = j := by have := congrArg List.length HM.out; simpa [chunksN] using this
    have ql : q.length = s.length - 400 * j := by rw [HQ.out, List.length_drop]
    have hj := HJ.out
    by_cases h : 0 < q.length
    · obtain ⟨b1, o1, c2, e1, hc, hm2⟩ := runs_some RQ.out h
      cases e1
      unfold maxLen at hm2
      obtain ⟨nn, hnn⟩ : ∃ x, x = min q.length 400 := ⟨_, rfl⟩
      have mn : min (q.length : Int) 400 = (nn : Int) := by omega
      have g1 : decide ((q.length : Int) > 0) = true := decide_eq_true (by omega)
      have g2 : decide ((0 : Int) < (q.length : Int)) = true := decide_eq_true (by omega)
      have g3 : decide (0 < q.length) = true := decide_eq_true h
      have n0 : (0 : Int) ≤ (nn : Int) := by omega
      have n1 : (nn : Int) ≤ (q.length : Int) := by omega
      have n2 : (nn : Int) ≤ (c1 : Int) := by omega
      have n3 : nn ≤ q.length := by omega
      have n4 : nn ≤ c1 := by omega
      have CLN := Lib.hid (fun w1 (kk : Kp wr w1) => CL.out b1 o1 nn c1 (q.take nn) w1 ((runs_take RQ.out n3).kp (J.out.trans kk)) (by rw [List.length_take]; omega) (by rw [List.length_take]; omega))
      have CHK := Lib.hid (show chunkR kd s j = ⟨false, kd, q.take nn, []⟩ by
        have := chunk_cut kd s j (by rw [← HQ.out]; exact h)
        rw [← HQ.out, ← hnn] at this
        unfold chunkR at this ⊢
        simp only at this
        rw [this])
      have m1 : m.length ≤ 10000 := by omega
      have DQ := Lib.hid (show q.drop nn = s.drop (400 * (j + 1)) by
        rw [HQ.out, List.drop_drop]
        by_cases c : q.length ≤ 400
        · rw [List.drop_eq_nil_of_le (by omega), List.drop_eq_nil_of_le (by omega)]
        · congr 1
          omega)
      have DL : (q.drop nn).length = q.length - nn := List.length_drop
      have nj : 400 * (j + 1) < s.length + 400 ∧ j + 1 ≤ 10000 := ⟨by omega, by omega⟩
      have NJ := Lib.hid nj
      have n5 : 0 < nn := by omega
      have ML := Lib.hid ml
      have RQ2 := Lib.hid (fun x hx => runs_drop (x := x) RQ.out n3 hx)
      clear hnn ml ql hj HJ nj
      go_wp2_with fail
      refine (CLN.out _ (Kp.refl _)).mono ?_
      rintro e w1 ⟨vc, rfl, oc, kc⟩
      obtain ⟨ac, lc, rfl⟩ := own_slice oc
      have LT : (q.take nn).length = nn := by rw [List.length_take]; omega
      have HLT := Lib.hid LT
      rw [LT] at oc ⊢
      have OC := Lib.hid (own_mono oc (Below.size J.out))
      have KC := Lib.hid kc
      have OW1 := Lib.hid (own_kp OW.out kc)
      have OV1 := Lib.hid (OV.out.kp kc)
      generalize q.take nn = tq at *
      clear oc kc CLN LT
      go_wp2_with (at_builtin; refine Hid.out ?_)
      refine Lib.hid ?_
      refine wpList_app rfl (.tmp 13) (.tmp 20) 22 rfl w.heap.size 47 i0 (.agg #[.bool false, .int .i64 0, .slice none 0 0, .slice none 0 0]) 4 64 Tryz.underlying22 hi hz0 hz1 hz2 rfl (by decide) _ m.length (cellsV m) rfl (own_kp OW1.out (Kp.alloc _ _)) _ 1 (cellsV [(⟨false, kd, tq, []⟩, (.slice ac nn lc, .slice none 0 0))]) rfl (own_srcV (own_leaf _ ⟨false, kd, tq, []⟩ (.slice ac nn lc) (.slice none 0 0))) (by rfl) (by intro u hu; simp [cellsV] at hu; rcases hu with rfl | rfl | rfl | rfl <;> rfl) (by unfold maxLen; omega) (by omega) (Below.size (J.out.trans (KC.out.trans (Kp.alloc _ _)))) ?_
      intro v7 w7 hown hgrow hat
      have KG := Lib.hid (Kp.grown (J.out.trans (KC.out.trans (Kp.alloc _ _))) hgrow (fun j hj => (OW1.out.lt j hj).1))
      have OV7 := Lib.hid ((((OV1.out.append (show OwnV w1 w.heap.size [(⟨false, kd, tq, []⟩, (.slice ac nn lc, .slice none 0 0))] from fun p hp => by rw [List.mem_singleton.1 hp]; exact ⟨OC.out, World.ownsRow_nil _ _ _ _⟩)).kp (Kp.alloc _ _)).grown hgrow (own_kp OW1.out (Kp.alloc _ _))))
      have OW7 := Lib.hid hown
      clear hown hgrow hat
      have MF := Lib.hid (show (m ++ [((⟨false, kd, tq, []⟩ : LF), ((.slice ac nn lc, .slice none 0 0) : VV))]).map Prod.fst = chunksN kd s (j + 1) by rw [List.map_append, HM.out, chunks_next, CHK.out]; rfl)
      have CV := Lib.hid (show cellsV m ++ cellsV [((⟨false, kd, tq, []⟩ : LF), ((.slice ac nn lc, .slice none 0 0) : VV))] = cellsV (m ++ [((⟨false, kd, tq, []⟩ : LF), ((.slice ac nn lc, .slice none 0 0) : VV))]) from (cellsV_append _ _).symm)
      have HDL := Lib.hid DL
      clear DL
      by_cases hcn : c1 = nn
      · have hq2 : q.length = nn := by omega
        have RZ := Lib.hid (show RunsAt w (.slice (some ⟨b1, o1, none⟩) (q.length - nn) 0) (q.drop nn) from by have h := RQ2.out (some ⟨b1, o1, none⟩) (fun h => by omega); rwa [show c1 - nn = 0 by omega] at h)
        clear hq2
        go_wp2
        go_roundw
        case rel => exact ⟨j + 1, _, _, m ++ [((⟨false, kd, tq, []⟩ : LF), ((.slice ac nn lc, .slice none 0 0) : VV))], q.drop nn, DQ, by rw [HDL.out]; omega, by rw [HDL.out], Lib.hid (by rw [HDL.out]; exact RZ.out), Lib.hid NJ.out.1, MF, Lib.hid NJ.out.2, OV7, Lib.hid (by rw [← CV.out, List.length_append]; exact OW7.out), KG⟩
        case measure => show q.length - nn < q.length; omega
      · go_wp2
        go_roundw
        case rel => exact ⟨j + 1, _, _, m ++ [((⟨false, kd, tq, []⟩ : LF), ((.slice ac nn lc, .slice none 0 0) : VV))], q.drop nn, DQ, by rw [HDL.out]; omega, by rw [HDL.out], Lib.hid (by rw [HDL.out]; exact RQ2.out _ (fun _ => rfl)), Lib.hid NJ.out.1, MF, Lib.hid NJ.out.2, OV7, Lib.hid (by rw [← CV.out, List.length_append]; exact OW7.out), KG⟩
        case measure => show q.length - nn < q.length; omega
    · have h0 : q.length = 0 := by omega
      have g1 : decide ((q.length : Int) > 0) = false := decide_eq_false (by omega)
      have g2 : decide ((0 : Int) < (q.length : Int)) = false := decide_eq_false (by omega)
      have g3 : decide (0 < q.length) = false := decide_eq_false (by omega)
      have EJ := Lib.hid (show m.map Prod.fst = chunksR kd s from by rw [HM.out]; unfold chunksR; rw [show (s.length + 399) / 400 = j by omega])
      clear ml ql hj h0 h
      go_wp2
      go_ret
      exact ⟨_, m, rfl, EJ.out, OV.out, OW.out, J.out⟩
end Go.Proofs.YtjdnejglapnbbaaGreatDoor
