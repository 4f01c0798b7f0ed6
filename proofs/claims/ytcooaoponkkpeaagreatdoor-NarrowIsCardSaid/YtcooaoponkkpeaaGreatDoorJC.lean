import Derived.Test.YtcooaoponkkpeaaGreatDoorJP
import Derived.Test.YtcooaoponkkpeaaGreatDoorGBa
import Derived.Test.YtcooaoponkkpeaaGreatDoorGLeafA
import Derived.LoopTactic
import Derived.Test.YtcooaoponkkpeaaGreatDoorGSoC
import Derived.Shelf.SlSortCmp.WholeK
import Derived.Shelf.SlSortCmp.NoneTotal
import Derived.Shelf.SlicesG.Cmp
import Derived.Shelf.Lay
import Derived.Ground.SlsfProg
import Derived.Ground.SlgcProg
set_option maxHeartbeats 16000000
set_option maxRecDepth 100000
namespace Go.Proofs.YtcooaoponkkpeaaGreatDoor
open Go.RowKit
set_option linter.unusedVariables false
set_option linter.unusedSimpArgs false
theorem step_appS {P : Program} {w : World} {ops : Array Oper} {o : Oper} {a : Act} {K : Act → World → Prop} {Q : Exit → Act → World → Prop} {E : Prop} (hgd : o.guard = none) (s x : Operand) (t : TypeId)
  (ho : o.op = .call { callee := .builtin .append, args := #[s, x], argTypes := #[t, t] })
  (base : Nat) (e : TypeId) (i : TypeInfo) (z : Value) (size bytes : Nat) (ht : P.underlying t = some (.slice e)) (hi : P.info? e = some i) (hz : i.zero = some z)
  (hsize : i.size = size) (hby : i.bytes = bytes) (hzs : z.cells.size = size) (hsz : 0 < size)
  (v : Value) (n : Nat) (xs : List Value) (hs : a.eval s = v) (hown : w.ownsRow base e size v n xs)
  (sv : Value) (m : Nat) (news : List Value) (hx : a.eval x = sv) (hsrc : SrcAt w sv m news) (hl : news.length = m * size) (h1 : ∀ u ∈ news, u.oneCell' = true)
  (h63 : n + m ≤ maxLen) (hbytes : (n + m) * bytes ≤ 140737488355328) (hbase : base ≤ w.heap.size)
  (h : ∀ v' w', w'.ownsRow base e size v' (n + m) (xs ++ news) → w.grownBy w' v.ownBlock → (v'.ownBlock = v.ownBlock ∨ v'.ownBlock = some w.heap.size) → K (a.put o.dst v') w') : if Region.wanted o (yielded ops a.tmps) = true then Oper.wp P o a w K Q else E := by
 rw [if_pos (by simp [Region.wanted, hgd])]
 have : ∃ v' w', (Builtin.append_ #[t, t] o.type #[v, sv]).run P w = .ok v' w' ∧ w'.ownsRow base e size v' (n + m) (xs ++ news) ∧ w.grownBy w' v.ownBlock ∧ (v'.ownBlock = v.ownBlock ∨ v'.ownBlock = some w.heap.size) := by
  rcases hsrc with ⟨ad, cp, rfl, rfl, rfl⟩ | ⟨ad, c, rfl, hn⟩
  ·exact ⟨v, w, run_append_zero w base t o.type e i size ht hi v n xs hown ad cp, by simpa using hown, ⟨rfl, rfl, rfl, Nat.le_refl _, fun _ _ _ => rfl⟩, .inl rfl⟩
  ·obtain ⟨v', w', hr, h2, h3, _, h5⟩ := run_append_own_at (P := P) w base t o.type e i z size bytes ht hi hz hsize hby hzs hsz v n xs hown ad m c news hl hn h1 h63 hbytes hbase
   exact ⟨v', w', hr, h2, h3, h5⟩
 obtain ⟨v', w', hr, h2, h3, h4⟩ := this
 unfold Oper.wp execOp
 simp only [ho, resolve, invoke, builtin, Sem.run_bind, Sem.run_pure, Result.andThen_ok, List.map_toArray, List.map_cons, List.map_nil, hs, hx, hr]
 exact h v' w' h2 h3 h4
theorem grown_up {w w1 : World} {row : Option Nat} (g : w.grownBy w1 row) {B o : Nat} {x : Value} (c : w.cell? ⟨B, o, none⟩ = some x) (hn : row ≠ some B) : w1.cell? ⟨B, o, none⟩ = some x :=
 (grown_cell g (World.block_lt_of_cell? _ _ c) (fun j hj e => hn (by rw [hj, e]))).trans c
theorem own_below {w : World} {base : Nat} {e : TypeId} {size : Nat} {v : Value} {n : Nat} {xs : List Value} (h : w.ownsRow base e size v n xs) {B : Nat} (hB : B < base) : v.ownBlock ≠ some B := fun q => by
 have := (h.lt _ q).1
 omega
theorem own_above {w : World} {base : Nat} {e : TypeId} {size : Nat} {v : Value} {n : Nat} {xs : List Value} (h : w.ownsRow base e size v n xs) {B : Nat} (hB : w.heap.size ≤ B) : v.ownBlock ≠ some B := fun q => by
 have := (h.lt _ q).2
 omega
theorem cell_lt {w : World} {B o : Nat} {x : Value} (c : w.cell? ⟨B, o, none⟩ = some x) : B < w.heap.size := World.block_lt_of_cell? _ _ c
def togN (s t : List R) (n : Nat) : List R := (List.range n).map fun i => ((at_ s i).1, (at_ t i).2)
theorem tog_next (s t : List R) (n : Nat) : togN s t (n + 1) = togN s t n ++ [((at_ s n).1, (at_ t n).2)] := by simp [togN, List.range_succ]
theorem tog_len (s t : List R) (n : Nat) : (togN s t n).length = n := by simp [togN]
abbrev nwtA0 : Oper := ⟨some 15, .move (.tmp 5), 34, "bounds.go:43", #[], none⟩
abbrev nwtA1 : Oper := ⟨some 16, .fieldAddr 42 (.tmp 7) 0, 0, "bounds.go:43", #[], none⟩
abbrev nwtA2 : Oper := ⟨some 17, .load 3 (.tmp 16), 3, "bounds.go:43", #[⟨1, .data⟩], none⟩
abbrev nwtA3 : Oper := ⟨some 18, .move (.tmp 1), 34, "bounds.go:43", #[], none⟩
abbrev nwtA4 : Oper := ⟨some 19, .move (.tmp 6), 3, "bounds.go:43", #[], none⟩
abbrev nwtA5 : Oper := ⟨some 20, .indexAddr 34 (.tmp 18) (.tmp 19), 0, "bounds.go:43", #[⟨3, .data⟩, ⟨4, .data⟩], none⟩
abbrev nwtA6 : Oper := ⟨some 21, .fieldAddr 42 (.tmp 20) 1, 0, "bounds.go:43", #[⟨5, .data⟩], none⟩
abbrev nwtA7 : Oper := ⟨some 22, .load 3 (.tmp 21), 3, "bounds.go:43", #[⟨6, .data⟩], none⟩
abbrev nwtA8 : Oper := ⟨some 23, .build 42 #[(0, .tmp 17), (1, .tmp 22)], 42, "bounds.go:43", #[⟨2, .data⟩, ⟨7, .data⟩], none⟩
abbrev nwtA9 : Oper := ⟨some 24, .buildSlice 34 1 #[(0, .tmp 23)], 34, "bounds.go:43", #[⟨8, .data⟩], none⟩
abbrev nwtA10 : Oper := ⟨some 25, .call ⟨.builtin .append, #[.tmp 15, .tmp 24], #[34, 34]⟩, 34, "bounds.go:43", #[⟨0, .data⟩, ⟨9, .data⟩], none⟩
abbrev nwtA11 : Oper := ⟨some 5, .assign (.tmp 25), 34, "bounds.go:43", #[⟨10, .data⟩, ⟨10, .chain⟩, ⟨0, .phase⟩, ⟨1, .phase⟩, ⟨2, .phase⟩, ⟨3, .phase⟩, ⟨4, .phase⟩, ⟨5, .phase⟩, ⟨6, .phase⟩, ⟨7, .phase⟩, ⟨8, .phase⟩, ⟨9, .phase⟩, ⟨10, .phase⟩], none⟩
theorem nwTogether_any (va vb : Value) (s t : List R) (w : World) (hv : RunsAt w va s) (hu : RunsAt w vb t) (hn : s.length ≤ 1000000) (hl : s.length ≤ t.length) :
  Calls Tryz.prog 73 #[va, vb] w fun e w' => ∃ v', e = .returned v' ∧ OwnR w' w.heap.size v' (togN s t s.length) ∧ Kp w w' := by
 obtain ⟨h0, hi, hz0, hz1, hz2⟩ := info_parts infoR
 have hmt := hu.len
 unfold maxLen at hmt
 obtain ⟨ad, ca, rfl⟩ := hv.slice
 obtain ⟨ae, cb, rfl⟩ := hu.slice
 have HV := Hd hv
 have HU := Hd hu
 clear hv hu
 go_enter Tryz.func73, Tryz.ntmps73
 go_wp2_with fail
 go_loopw [5, 10] (fun v i wr => ∃ k : Nat, k ≤ s.length ∧ i = .int .i64 k ∧ Hid (OwnR wr w.heap.size v (togN s t k)) ∧ Hid (Kp w wr)) (fun _ i _ => s.length - (intOf i).toNat)
 case atStart => exact ⟨0, Nat.zero_le _, rfl, Hd (World.ownsRow_nil _ _ _ _), Hd (Kp.refl _)⟩
 case round =>
  obtain ⟨k, hk, rfl, O5, J⟩ := hrel
  have e5 := tog_len s t k
  have o5 := O5.out
  unfold OwnR at o5
  obtain ⟨a5, l5, rfl⟩ := own_slice o5
  by_cases hlt : k < s.length
  ·have q2 : decide ((k : Int) < (s.length : Int)) = true := dT
   have q3 : decide (k < s.length) = true := decide_eq_true hlt
   rcases (HV.out.kp J.out) with ⟨_, _, _, e⟩ | ⟨b1, off1, cap1, ev, hc1, hm1, hx1⟩
   ·rw [e] at hlt; simp at hlt
   obtain ⟨r1, r2⟩ := hx1 k hlt
   cases ev
   have hlt2 : k < t.length := by omega
   have HU2 := HU.out
   rcases HU2 with ⟨_, _, _, e⟩ | ⟨b2, off2, cap2, ev, hc2, hm2, hx2⟩
   ·rw [e] at hlt2; simp at hlt2
   obtain ⟨r3, r4⟩ := hx2 k hlt2
   cases ev
   have lb2 := cell_lt r4
   have r4 := cell_up J.out r4
   obtain ⟨lo, elo⟩ : ∃ x, (at_ s k).1 = x := ⟨_, rfl⟩
   obtain ⟨hi0, ehi0⟩ : ∃ x, (at_ s k).2 = x := ⟨_, rfl⟩
   obtain ⟨hi', ehi⟩ : ∃ x, (at_ t k).2 = x := ⟨_, rfl⟩
   rw [elo] at r1
   rw [ehi0] at r2
   rw [ehi] at r4
   have NX := Hd (show togN s t (k + 1) = togN s t k ++ [(lo, hi')] by rw [tog_next, elo, ehi])
   have z1 : (0 : Int) ≤ (k : Int) := by omega
   have z2 : (k : Int) < s.length := by omega
   have z3 : (k : Int) < t.length := by omega
   have kkVV : Kp wr (wr.alloc (.cells #[.int .i64 lo, .int .i64 hi0] 42)) := Kp.alloc _ _
   have NEV := Hd (own_above o5 (B := wr.heap.size) (Nat.le_refl _))
   have NEB := Hd (own_below o5 (B := b2) lb2)
   generalize togN s t k = X at *
   obtain ⟨n5, hn5⟩ : ∃ x, X.length = x := ⟨_, rfl⟩
   rw [hn5] at o5 e5 NEV NEB ⊢
   have HN5 := Hd hn5
   have e6 : n5 ≤ 1000000 := by omega
   clear e5 hx1 hc1 hx2 hc2 hm2 r3 elo ehi0 ehi hn5
   obtain ⟨V, hVv⟩ : ∃ x, x = wr.alloc (.cells #[.int .i64 lo, .int .i64 hi0] 42) := ⟨_, rfl⟩
   have kav : Kp wr V := by rw [hVv]; exact Kp.alloc _ _
   have gqv0 : V.heap[wr.heap.size]? = some (.cells #[.int .i64 lo, .int .i64 hi0] 42 (0, 0)) := by rw [hVv]; exact heap_at _ _ _ (by first | rfl | simp)
   rw [← hVv] at kkVV
   have KSv := Hd (fun w' (kq : Kp V w') => show w'.cell? ⟨wr.heap.size, 0, none⟩ = some (.int .i64 lo) ∧ w'.cell? ⟨wr.heap.size, 1, none⟩ = some (.int .i64 hi0) ∧ w'.cell? ⟨b2, off2 + k * 2 + 1, none⟩ = some (.int .i64 hi') ∧ Kp V w' from ⟨(row2 (heap_block kq gqv0)).1, (row2 (heap_block kq gqv0)).2, cell_up kq (cell_up kkVV r4), kq⟩)
   have GQv0 := Hd gqv0
   have HVv := Hd hVv
   have KV := Hd kav
   clear hVv kav gqv0
   have kkV : Kp V V := Kp.refl _
   have KCv := Hd (fun w' (kq : Kp V w') => show w'.cell? ⟨wr.heap.size, 0, none⟩ = some (.int .i64 lo) ∧ w'.cell? ⟨wr.heap.size, 1, none⟩ = some (.int .i64 hi0) ∧ w'.cell? ⟨b2, off2 + k * 2 + 1, none⟩ = some (.int .i64 hi') from ⟨(KSv.out w' kq).1, (KSv.out w' kq).2.1, (KSv.out w' kq).2.2.1⟩)
   have OW := Hd (own_kp o5 KV.out)
   have KWV := Hd (J.out.trans KV.out)
   have bs := Below.size KWV.out
   clear O5 o5
   go_upto_region 5 with fail
   rw [← HVv.out]
   clear HVv r1 r2
   refine wp_region_held_drew (S := fun w' => w'.cell? ⟨wr.heap.size, 0, none⟩ = some (.int .i64 lo) ∧ w'.cell? ⟨wr.heap.size, 1, none⟩ = some (.int .i64 hi0) ∧ w'.cell? ⟨b2, off2 + k * 2 + 1, none⟩ = some (.int .i64 hi')) (by kernel_rfl) ?_ (fun hHeld0 => ?_)
   ·(try dsimp only); exact KCv.out _ (ky kkV)
   refine tkv 0 nwtA0 ?_
   (try simp only [Act.put, nwtA0, xA, xB, xC])
   refine tkv 1 nwtA1 ?_
   (try simp only [Act.put, nwtA1, xA, xB, xC])
   refine tkv 2 nwtA2 ?_
   (try simp only [Act.put, nwtA2, xA, xB, xC])
   refine tkv 3 nwtA3 ?_
   (try simp only [Act.put, nwtA3, xA, xB, xC])
   refine tkv 4 nwtA4 ?_
   (try simp only [Act.put, nwtA4, xA, xB, xC])
   refine tkv 5 nwtA5 ?_
   (try simp only [Act.put, nwtA5, xA, xB, xC])
   refine tkv 6 nwtA6 ?_
   (try simp only [Act.put, nwtA6, xA, xB, xC])
   refine tkv 7 nwtA7 ?_
   (try simp only [Act.put, nwtA7, xA, xB, xC])
   refine tkv 8 nwtA8 ?_
   (try simp only [Act.put, nwtA8, xA, xB, xC])
   refine tkE 9 nwtA9 rfl (by kernel_rfl) (fun K hK => ?_)
   go_simp
   skip
   (try go_wp2_with fail)
   refine hK.out _ _ ?_ (fun hHeld1 => ?_)
   ·(try dsimp only); exact KCv.out _ (ky kkV)
   clear hK K hHeld0
   (try simp only [Act.put, nwtA9, xA, xB, xC])
   refine tkE 10 nwtA10 rfl (by kernel_rfl) (fun K hK => ?_)
   (refine step_appS rfl (.tmp 15) (.tmp 24) 34 rfl w.heap.size 42 h0 _ 2 16 Tryz.underlying34 hi hz0 hz1 hz2 rfl (by decide) (.slice a5 n5 l5) (n5) (cellsR X) (by simp [Act.eval, Act.put]) (own_kp OW.out (show Kp V _ from (ky kkV))) (.slice (some ⟨V.heap.size, 0, none⟩) 1 1) (1) ([.int .i64 lo, .int .i64 hi']) (by simp [Act.eval, Act.put]) (.inr ⟨_, _, rfl, World.news_of_block (heap_at _ _ _ rfl)⟩) (by simp) (by (intro u hu; simp at hu; rcases hu with rfl | rfl <;> rfl)) (by (try simp only [List.length_append, List.length_cons, List.length_nil]); unfold maxLen; omega) (by (try simp only [List.length_append, List.length_cons, List.length_nil]); omega) (Nat.le_trans bs (Below.size (show Kp V _ from (ky kkV)))) ?_; intro v7 w7 hown hgrow hat; have SG := Hd (show w7.cell? ⟨wr.heap.size, 0, none⟩ = some (.int .i64 lo) ∧ w7.cell? ⟨wr.heap.size, 1, none⟩ = some (.int .i64 hi0) ∧ w7.cell? ⟨b2, off2 + k * 2 + 1, none⟩ = some (.int .i64 hi') from ⟨grown_up hgrow (KCv.out _ (ky kkV)).1 NEV.out, grown_up hgrow (KCv.out _ (ky kkV)).2.1 NEV.out, grown_up hgrow (KCv.out _ (ky kkV)).2.2 NEB.out⟩); have SGU := Hd (fun w' (kq : Kp w7 w') => show w'.cell? ⟨wr.heap.size, 0, none⟩ = some (.int .i64 lo) ∧ w'.cell? ⟨wr.heap.size, 1, none⟩ = some (.int .i64 hi0) ∧ w'.cell? ⟨b2, off2 + k * 2 + 1, none⟩ = some (.int .i64 hi') from ⟨cell_up kq SG.out.1, cell_up kq SG.out.2.1, cell_up kq SG.out.2.2⟩); have KG := Hd (Kp.grown (show Kp w _ from KWV.out.trans (ky kkV)) hgrow (fun j hj => (OW.out.lt j hj).1)); have HO := Hd hown; clear hown hgrow hat)
   (try go_wp2_with fail)
   refine hK.out _ _ ?_ (fun hHeld2 => ?_)
   ·(try dsimp only); exact SGU.out _ (ky (Kp.refl w7))
   clear hK K hHeld1
   (try simp only [Act.put, nwtA10, xA, xB, xC])
   refine tkv 11 nwtA11 ?_
   (try simp only [Act.put, nwtA11, xA, xB, xC])
   refine wpAnyH_done (by kernel_rfl) ?_ _
   go_wp2
   go_roundw
   case rel => exact ⟨k + 1, by omega, by go_num, Hd (by rw [NX.out]; have h := HO.out; rw [← HN5.out] at h; exact own_snoc (own_kp h (ky (Kp.refl w7)))), Hd (KG.out.trans (ky (Kp.refl w7)))⟩
   case measure => simp [intOf]; omega
  ·have q2 : decide ((k : Int) < (s.length : Int)) = false := dF
   have q3 : decide (k < s.length) = false := dF
   obtain rfl : k = s.length := by omega
   go_wp2
   go_ret
   exact ⟨_, rfl, O5.out, J.out⟩
theorem nwClone_any (b o n c : Nat) (l : List R) (w : World) (hv : RunsAt w (.slice (some ⟨b, o, none⟩) n c) l) (h0 : 0 < l.length) (hn : l.length ≤ 1000000) :
  Calls Tryz.prog 135 #[.slice (some ⟨b, o, none⟩) n c] w fun e w' => ∃ v', e = .returned v' ∧ OwnR w' w.heap.size v' l ∧ Kp w w' := by
 obtain ⟨i0, hi, hz0, hz1, hz2⟩ := info_parts infoR
 obtain ⟨_, _, e⟩ := hv.slice
 cases e
 have own0 : (w.alloc (.cells #[] 42)).ownsRow w.heap.size 42 2 (.slice (some ⟨w.heap.size, 0, none⟩) 0 0) 0 (cellsR []) :=
  ⟨rfl, .inr ⟨w.heap.size, 0, #[], rfl, Nat.le_refl _, heap_at _ _ _ rfl, Nat.le_refl _, by decide, rfl, rfl⟩⟩
 have SV := Hd (hv.kp (Kp.alloc w (.cells #[] 42))).src
 clear hv
 have hbo : ∀ w, Sem.run Tryz.prog (binOp .eql 34 (.slice (some ⟨b, o, none⟩) l.length c) (.slice none 0 0)) w = .ok (.bool false) w := fun w => by kernel_rfl
 go_enter Tryz.func135, Tryz.ntmps135
 go_wp2_with (at_builtin; refine wpList_app rfl (.tmp 5) (.tmp 6) 34 rfl w.heap.size 42 i0 (.agg #[.int .i64 0, .int .i64 0]) 2 16 Tryz.underlying34 hi hz0 hz1 hz2 rfl (by decide) _ _ _ rfl own0 _ _ _ rfl SV.out (cellsR_length _) (cells_one _) (by unfold maxLen; omega) (by omega) (by simp) ?_; intro v1 w1 own1 hgrow1 hat1)
 go_ret
 exact ⟨_, rfl, own_len (l := []) own1, (Kp.alloc _ _).grown hgrow1 (fun j hj => (own0.lt j hj).1)⟩
theorem runs_drop {w : World} {b o n c k : Nat} {l : List R} (h : RunsAt w (.slice (some ⟨b, o, none⟩) n c) l) (hk : k ≤ l.length) {x : Option Addr} (hx : k < l.length → x = some ⟨b, o + k * 2, none⟩) : RunsAt w (.slice x (n - k) (c - k)) (l.drop k) := by
 have hn : l.length = n := by obtain ⟨_, _, e⟩ := h.slice; cases e; rfl
 by_cases e : k = l.length
 ·refine .inl ⟨x, c - k, ?_, List.drop_eq_nil_of_le (by omega)⟩
  rw [show n - k = 0 by omega]
 ·rcases h with ⟨_, _, e1, e2⟩ | ⟨b', o', cap, ev, hc, hm, hx'⟩
  ·rw [e2] at e hk; simp at e hk; omega
  cases ev
  rw [hx (by omega)]
  refine .inr ⟨b, o + k * 2, c - k, by rw [List.length_drop], by rw [List.length_drop]; omega, by omega, fun i hi => ?_⟩
  rw [List.length_drop] at hi
  have := hx' (k + i) (by omega)
  rw [show at_ (l.drop k) i = at_ l (k + i) by unfold at_; simp [List.getD_eq_getElem?_getD, List.getElem?_drop]]
  rw [show o + k * 2 + i * 2 = o + (k + i) * 2 by omega]
  exact this
theorem runs_take {w : World} {b o n c k : Nat} {l : List R} (h : RunsAt w (.slice (some ⟨b, o, none⟩) n c) l) (hk : k ≤ l.length) : RunsAt w (.slice (some ⟨b, o, none⟩) k c) (l.take k) := by
 have hn : l.length = n := by obtain ⟨_, _, e⟩ := h.slice; cases e; rfl
 rcases h with ⟨_, _, e1, e2⟩ | ⟨b', o', cap, ev, hc, hm, hx'⟩
 ·cases e1
  rw [e2] at hk
  have : k = 0 := by simpa using hk
  subst this
  exact .inl ⟨_, _, rfl, by simp⟩
 cases ev
 have hl : (l.take k).length = k := by rw [List.length_take]; omega
 refine .inr ⟨b, o, c, by rw [hl], by rw [hl]; omega, hm, fun i hi => ?_⟩
 rw [hl] at hi
 have := hx' i (by omega)
 rw [show at_ (l.take k) i = at_ l i by unfold at_; simp [List.getD_eq_getElem?_getD, List.getElem?_take, hi]]
 exact this
theorem runs_some {w : World} {v : Value} {l : List R} (h : RunsAt w v l) (h0 : 0 < l.length) : ∃ b o c, v = .slice (some ⟨b, o, none⟩) l.length c ∧ l.length ≤ c ∧ c ≤ maxLen := by
 rcases h with ⟨_, _, _, e⟩ | ⟨b, o, c, e, hc, hm, _⟩
 ·rw [e] at h0; simp at h0
 ·exact ⟨b, o, c, e, hc, hm⟩
theorem chunk_cut (k : Int) (s : List R) (j : Nat) (h : 0 < (s.drop (400 * j)).length) : (chunkR k s j).a = (s.drop (400 * j)).take (min (s.drop (400 * j)).length 400) := by
 unfold chunkR
 simp only
 by_cases c : (s.drop (400 * j)).length ≤ 400
 ·rw [Nat.min_eq_left c, List.take_length, List.take_of_length_le c]
 ·rw [Nat.min_eq_right (by omega)]
theorem nwUnitLeaves_any (kd : Int) (v : Value) (s : List R) (w : World) (hv : RunsAt w v s) (hn : s.length ≤ 1000000) :
  Calls Tryz.prog 76 #[.int .i64 kd, v] w fun e w' => ∃ v' m, e = .returned v' ∧ m.map Prod.fst = chunksR kd s ∧ OwnV w' w.heap.size m ∧ w'.ownsRow w.heap.size 44 4 v' m.length (cellsV m) ∧ Kp w w' := by
 obtain ⟨i0, hi, hz0, hz1, hz2⟩ := info_parts infoLeaf
 have HV := Hd hv
 have CL := Hd (fun b o n c l w1 (h : RunsAt w1 (.slice (some ⟨b, o, none⟩) n c) l) (h0 : 0 < l.length) (hn : l.length ≤ 1000000) => nwClone_any b o n c l w1 h h0 hn)
 obtain ⟨ad, cp, rfl⟩ := hv.slice
 clear hv
 go_enter Tryz.func76, Tryz.ntmps76
 go_wp2
 go_loopw [1, 5] (fun sv v wr => ∃ (j : Nat) (ad1 : Option Addr) (c1 : Nat) (m : List (LF × VV)) (q : List R), Hid (q = s.drop (400 * j)) ∧ q.length ≤ 1000000 ∧ sv = .slice ad1 q.length c1 ∧ Hid (RunsAt w (.slice ad1 q.length c1) q) ∧ Hid (400 * j < s.length + 400) ∧ Hid (m.map Prod.fst = chunksN kd s j) ∧ Hid (j ≤ 10000) ∧ Hid (OwnV wr w.heap.size m) ∧ Hid (wr.ownsRow w.heap.size 44 4 v m.length (cellsV m)) ∧ Hid (Kp w wr)) (fun sv _ _ => match sv with | .slice _ n _ => n | _ => 0)
 case atStart => exact ⟨0, _, _, [], s, Hd (by simp), hn, rfl, HV, Hd (by omega), Hd (by simp [chunksN]), Hd (by omega), Hd (fun p hp => by cases hp), Hd (World.ownsRow_nil _ _ _ _), Hd (Kp.refl _)⟩
 case round =>
  obtain ⟨j, ad1, c1, m, q, HQ, hq, rfl, RQ, HJ, HM, J4, OV, OW, J⟩ := hrel
  obtain ⟨a5, l5, rfl⟩ := own_slice4 OW.out
  have ml : m.length = j := by have := congrArg List.length HM.out; simpa [chunksN] using this
  have ql : q.length = s.length - 400 * j := by rw [HQ.out, List.length_drop]
  have hj := HJ.out
  by_cases h : 0 < q.length
  ·obtain ⟨b1, o1, c2, e1, hc, hm2⟩ := runs_some RQ.out h
   cases e1
   unfold maxLen at hm2
   obtain ⟨nn, hnn⟩ : ∃ x, x = min q.length 400 := ⟨_, rfl⟩
   have mn : min (q.length : Int) 400 = (nn : Int) := by omega
   have g1 : decide ((q.length : Int) > 0) = true := dT
   have g2 : decide ((0 : Int) < (q.length : Int)) = true := dT
   have g3 : decide (0 < q.length) = true := decide_eq_true h
   have n0 : (0 : Int) ≤ (nn : Int) := by omega
   have n1 : (nn : Int) ≤ (q.length : Int) := by omega
   have n2 : (nn : Int) ≤ (c1 : Int) := by omega
   have n3 : nn ≤ q.length := by omega
   have n4 : nn ≤ c1 := by omega
   have CLN := Hd (fun w1 (kk : Kp wr w1) => CL.out b1 o1 nn c1 (q.take nn) w1 ((runs_take RQ.out n3).kp (J.out.trans kk)) (by rw [List.length_take]; omega) (by rw [List.length_take]; omega))
   have CHK := Hd (show chunkR kd s j = ⟨false, kd, q.take nn, []⟩ by
    have := chunk_cut kd s j (by rw [← HQ.out]; exact h)
    rw [← HQ.out, ← hnn] at this
    unfold chunkR at this ⊢
    simp only at this
    rw [this])
   have m1 : m.length ≤ 10000 := by omega
   have DQ := Hd (show q.drop nn = s.drop (400 * (j + 1)) by
    rw [HQ.out, List.drop_drop]
    by_cases c : q.length ≤ 400
    ·rw [List.drop_eq_nil_of_le (by omega), List.drop_eq_nil_of_le (by omega)]
    ·congr 1
     omega)
   have DL : (q.drop nn).length = q.length - nn := List.length_drop
   have nj : 400 * (j + 1) < s.length + 400 ∧ j + 1 ≤ 10000 := ⟨by omega, by omega⟩
   have NJ := Hd nj
   have n5 : 0 < nn := by omega
   have ML := Hd ml
   have RQ2 := Hd (fun x hx => runs_drop (x := x) RQ.out n3 hx)
   clear hnn ml ql hj HJ nj
   go_wp2_with fail
   refine (CLN.out _ (Kp.refl _)).mono ?_
   rintro e w1 ⟨vc, rfl, oc, kc⟩
   obtain ⟨ac, lc, rfl⟩ := own_slice oc
   have LT : (q.take nn).length = nn := by rw [List.length_take]; omega
   have HLT := Hd LT
   rw [LT] at oc ⊢
   have OC := Hd (own_mono oc (Below.size J.out))
   have KC := Hd kc
   have OW1 := Hd (own_kp OW.out kc)
   have OV1 := Hd (OV.out.kp kc)
   generalize q.take nn = tq at *
   clear oc kc CLN LT
   go_wp2_with (at_builtin; refine Hid.out ?_)
   refine Hd ?_
   refine wpList_app rfl (.tmp 13) (.tmp 20) 22 rfl w.heap.size 44 i0 (.agg #[.bool false, .int .i64 0, .slice none 0 0, .slice none 0 0]) 4 64 Tryz.underlying22 hi hz0 hz1 hz2 rfl (by decide) _ m.length (cellsV m) rfl (own_kp OW1.out (Kp.alloc _ _)) _ 1 (cellsV [(⟨false, kd, tq, []⟩, (.slice ac nn lc, .slice none 0 0))]) rfl (own_srcV (own_leaf _ ⟨false, kd, tq, []⟩ (.slice ac nn lc) (.slice none 0 0))) (by rfl) (by intro u hu; simp [cellsV] at hu; rcases hu with rfl | rfl | rfl | rfl <;> rfl) (by unfold maxLen; omega) (by omega) (Below.size (J.out.trans (KC.out.trans (Kp.alloc _ _)))) ?_
   intro v7 w7 hown hgrow hat
   have KG := Hd (Kp.grown (J.out.trans (KC.out.trans (Kp.alloc _ _))) hgrow (fun j hj => (OW1.out.lt j hj).1))
   have OV7 := Hd ((((OV1.out.append (show OwnV w1 w.heap.size [(⟨false, kd, tq, []⟩, (.slice ac nn lc, .slice none 0 0))] from fun p hp => by rw [List.mem_singleton.1 hp]; exact ⟨OC.out, World.ownsRow_nil _ _ _ _⟩)).kp (Kp.alloc _ _)).grown hgrow (own_kp OW1.out (Kp.alloc _ _))))
   have OW7 := Hd hown
   clear hown hgrow hat
   have MF := Hd (show (m ++ [((⟨false, kd, tq, []⟩ : LF), ((.slice ac nn lc, .slice none 0 0) : VV))]).map Prod.fst = chunksN kd s (j + 1) by rw [List.map_append, HM.out, chunks_next, CHK.out]; rfl)
   have CV := Hd (show cellsV m ++ cellsV [((⟨false, kd, tq, []⟩ : LF), ((.slice ac nn lc, .slice none 0 0) : VV))] = cellsV (m ++ [((⟨false, kd, tq, []⟩ : LF), ((.slice ac nn lc, .slice none 0 0) : VV))]) from (cellsV_append _ _).symm)
   have HDL := Hd DL
   clear DL
   by_cases hcn : c1 = nn
   ·have hq2 : q.length = nn := by omega
    have RZ := Hd (show RunsAt w (.slice (some ⟨b1, o1, none⟩) (q.length - nn) 0) (q.drop nn) from by have h := RQ2.out (some ⟨b1, o1, none⟩) (fun h => by omega); rwa [show c1 - nn = 0 by omega] at h)
    clear hq2
    go_wp2
    go_roundw
    case rel => exact ⟨j + 1, _, _, m ++ [((⟨false, kd, tq, []⟩ : LF), ((.slice ac nn lc, .slice none 0 0) : VV))], q.drop nn, DQ, by rw [HDL.out]; omega, by rw [HDL.out], Hd (by rw [HDL.out]; exact RZ.out), Hd NJ.out.1, MF, Hd NJ.out.2, OV7, Hd (by rw [← CV.out, List.length_append]; exact OW7.out), KG⟩
    case measure => show q.length - nn < q.length; omega
   ·go_wp2
    go_roundw
    case rel => exact ⟨j + 1, _, _, m ++ [((⟨false, kd, tq, []⟩ : LF), ((.slice ac nn lc, .slice none 0 0) : VV))], q.drop nn, DQ, by rw [HDL.out]; omega, by rw [HDL.out], Hd (by rw [HDL.out]; exact RQ2.out _ (fun _ => rfl)), Hd NJ.out.1, MF, Hd NJ.out.2, OV7, Hd (by rw [← CV.out, List.length_append]; exact OW7.out), KG⟩
    case measure => show q.length - nn < q.length; omega
  ·have h0 : q.length = 0 := by omega
   have g1 : decide ((q.length : Int) > 0) = false := dF
   have g2 : decide ((0 : Int) < (q.length : Int)) = false := dF
   have g3 : decide (0 < q.length) = false := dF
   have EJ := Hd (show m.map Prod.fst = chunksR kd s from by rw [HM.out]; unfold chunksR; rw [show (s.length + 399) / 400 = j by omega])
   clear ml ql hj h0 h
   go_wp2
   go_ret
   exact ⟨_, m, rfl, EJ.out, OV.out, OW.out, J.out⟩
end Go.Proofs.YtcooaoponkkpeaaGreatDoor
namespace Go.Proofs
open Go.Shelf
shelf_lay_g SlLaysF0.n6 Slsf 6 at Tryz 104 as Tryz.sortRn
shelf_lay_g SlLaysC2.n5 Slgc 5 at Tryz 56 as Tryz.cmpRn
end Go.Proofs
namespace Go.Proofs.YtcooaoponkkpeaaGreatDoor
open Go.RowKit Go.Sort Go.Shelf Go.Lib
set_option linter.unusedVariables false
set_option linter.unusedSimpArgs false
def Grw (W w' : World) : Prop := ∃ q os, w' = grow (W.drewN q) os
theorem Grw.refl (W : World) : Grw W W := ⟨0, #[], by rw [grow_empty]; rfl⟩
theorem Grw.alloc {W w' : World} (h : Grw W w') (o : Obj) : Grw W (w'.alloc o) := by
 obtain ⟨q, os, rfl⟩ := h
 exact ⟨q, _, by rw [alloc_eq_grow, grow_grow]⟩
theorem Grw.drew {W w' : World} (h : Grw W w') : Grw W w'.drew := by
 obtain ⟨q, os, rfl⟩ := h
 exact ⟨q + 1, os, by rw [drew_grow]; rfl⟩
theorem Grw.drewN {W w' : World} (h : Grw W w') (n : Nat) : Grw W (w'.drewN n) := by
 induction n with
 | zero => exact h
 | succ n ih => exact ih.drew
def cmpL (x y : R) : Int := if Lib.compareInt x.1 y.1 = 0 then Lib.compareInt y.2 x.2 else Lib.compareInt x.1 y.1
theorem cmpI_cases (x y : Int) : (x < y ∧ Lib.compareInt x y = -1) ∨ (x = y ∧ Lib.compareInt x y = 0) ∨ (y < x ∧ Lib.compareInt x y = 1) := by
 unfold Lib.compareInt
 by_cases h1 : x < y
 ·simp [h1]
 ·by_cases h2 : y < x
  ·simp [h1, h2]
  ·right; left; simp [h1, h2]; omega
theorem ltL (x y : R) : ltOf cmpL x y = decide (x.1 < y.1 ∨ x.1 = y.1 ∧ y.2 < x.2) := by
 unfold ltOf cmpL
 rcases cmpI_cases x.1 y.1 with ⟨h, e⟩ | ⟨h, e⟩ | ⟨h, e⟩
 ·rw [e]; simp [h]
 ·rw [e]
  rcases cmpI_cases y.2 x.2 with ⟨g, e2⟩ | ⟨g, e2⟩ | ⟨g, e2⟩
  ·rw [e2]; simp [h, g]
  ·rw [e2]; simp [h, g]
  ·rw [e2]; simp [h]; omega
 ·rw [e]; simp; omega
theorem swoL : SWO (ltOf cmpL) where
 irrefl x := by rw [ltL]; simp
 trans x y z h1 h2 := by rw [ltL] at *; simp at *; omega
 ntrans x y z h1 h2 := by rw [ltL] at *; simp at *; omega
theorem orN_any (b : Nat) (x y : Int) (w : World) (hx : w.cell? ⟨b, 0, none⟩ = some (.int .i64 x)) (hy : w.cell? ⟨b, 1, none⟩ = some (.int .i64 y)) :
  Calls Tryz.prog 134 #[.slice (some ⟨b, 0, none⟩) 2 2] w fun e w' => e = .returned (.int .i64 (if x = 0 then y else x)) ∧ w = w' := by
 obtain ⟨r, hr⟩ : ∃ r : Int, (if x = 0 then y else x) = r := ⟨_, rfl⟩
 rw [hr]
 have HR := Hd hr
 clear hr
 go_enter Tryz.func134, Tryz.ntmps134
 go_wp2
 go_loopw [8] (fun i wr => ∃ k : Nat, k ≤ 2 ∧ i = .int .i64 k ∧ wr = w ∧ Hid (1 ≤ k → x = 0) ∧ Hid (2 ≤ k → y = 0)) (fun i _ => 2 - (intOf i).toNat)
 case atStart => exact ⟨0, by omega, rfl, rfl, Hd (fun h => by omega), Hd (fun h => by omega)⟩
 case round =>
  obtain ⟨k, hk, rfl, rfl, H1, H2⟩ := hrel
  obtain rfl | rfl | rfl : k = 0 ∨ k = 1 ∨ k = 2 := by omega
  ·by_cases h : x = 0
   ·have q : (x != 0) = false := by simp [h]
    have h' := Hd h
    clear h
    go_wp2
    go_roundw
    case rel => exact ⟨1, by omega, by rfl, by first | rfl | trivial, Hd (fun _ => h'.out), Hd (fun h => by omega)⟩
    case measure => simp [intOf]
   ·have q : (x != 0) = true := by simp [h]
    have e := HR.out
    rw [if_neg h] at e
    subst e
    clear h
    go_wp2
    go_ret
    exact ⟨rfl, rfl⟩
  ·have h0 := H1.out (by omega)
   have e := HR.out
   rw [if_pos h0] at e
   by_cases h : y = 0
   ·have q : (y != 0) = false := by simp [h]
    have h' := Hd h
    have H0 := Hd h0
    clear h h0 e
    go_wp2
    go_roundw
    case rel => exact ⟨2, by omega, by rfl, by first | rfl | trivial, Hd (fun _ => H0.out), Hd (fun _ => h'.out)⟩
    case measure => simp [intOf]
   ·have q : (y != 0) = true := by simp [h]
    subst e
    clear h h0
    go_wp2
    go_ret
    exact ⟨rfl, rfl⟩
  ·have h0 := H1.out (by omega)
   have h1 := H2.out (by omega)
   have e := HR.out
   rw [if_pos h0, h1] at e
   subst e
   clear h0 h1
   go_wp2
   go_ret
   exact ⟨rfl, rfl⟩
abbrev nwlA0 : Oper := ⟨some 5, .fieldAddr 42 (.tmp 2) 0, 0, "bounds.go:50", #[], none⟩
abbrev nwlA1 : Oper := ⟨some 6, .load 3 (.tmp 5), 3, "bounds.go:50", #[⟨0, .data⟩], none⟩
abbrev nwlA2 : Oper := ⟨some 7, .fieldAddr 42 (.tmp 3) 0, 0, "bounds.go:50", #[], none⟩
abbrev nwlA3 : Oper := ⟨some 8, .load 3 (.tmp 7), 3, "bounds.go:50", #[⟨2, .data⟩], none⟩
abbrev nwlA4 : Oper := ⟨some 9, .call ⟨.value (.func 56), #[.tmp 6, .tmp 8], #[3, 3]⟩, 3, "bounds.go:50", #[⟨1, .data⟩, ⟨3, .data⟩], none⟩
abbrev nwlA5 : Oper := ⟨some 10, .fieldAddr 42 (.tmp 3) 1, 0, "bounds.go:50", #[], none⟩
abbrev nwlA6 : Oper := ⟨some 11, .load 3 (.tmp 10), 3, "bounds.go:50", #[⟨5, .data⟩], none⟩
abbrev nwlA7 : Oper := ⟨some 12, .fieldAddr 42 (.tmp 2) 1, 0, "bounds.go:50", #[], none⟩
abbrev nwlA8 : Oper := ⟨some 13, .load 3 (.tmp 12), 3, "bounds.go:50", #[⟨7, .data⟩], none⟩
abbrev nwlA9 : Oper := ⟨some 14, .call ⟨.value (.func 56), #[.tmp 11, .tmp 13], #[3, 3]⟩, 3, "bounds.go:50", #[⟨6, .data⟩, ⟨8, .data⟩, ⟨4, .chain⟩], none⟩
abbrev nwlA10 : Oper := ⟨some 15, .buildSlice 117 2 #[(0, .tmp 9), (1, .tmp 14)], 117, "bounds.go:50", #[⟨4, .data⟩, ⟨9, .data⟩], none⟩
abbrev nwlA11 : Oper := ⟨some 16, .call ⟨.value (.func 134), #[.tmp 15], #[117]⟩, 3, "bounds.go:50", #[⟨10, .data⟩, ⟨9, .chain⟩], none⟩
abbrev nwlA12 : Oper := ⟨some 4, .assign (.tmp 16), 3, "bounds.go:50", #[⟨11, .data⟩, ⟨11, .chain⟩, ⟨0, .phase⟩, ⟨1, .phase⟩, ⟨2, .phase⟩, ⟨3, .phase⟩, ⟨4, .phase⟩, ⟨5, .phase⟩, ⟨6, .phase⟩, ⟨7, .phase⟩, ⟨8, .phase⟩, ⟨9, .phase⟩, ⟨10, .phase⟩, ⟨11, .phase⟩], none⟩
theorem clo_long (x y : R) (W : World) : Calls Tryz.prog 133 #[.agg #[.int .i64 x.1, .int .i64 x.2], .agg #[.int .i64 y.1, .int .i64 y.2]] W fun e w' => e = .returned (.int .i64 (cmpL x y)) ∧ ∃ q os', w' = grow (W.drewN q) os' := by
 obtain ⟨a, b⟩ := x
 obtain ⟨c, d⟩ := y
 have hcon := fun (p q : Int) (W' : World) => AnyG.cmp_Compare_int Tryz.cmpRn p q W'
 change ∀ p q W', Calls Tryz.prog 56 _ _ _ at hcon
 have E := Hd (show cmpL (a, b) (c, d) = if Lib.compareInt a c = 0 then Lib.compareInt d b else Lib.compareInt a c from rfl)
 have C1 := Hd (hcon a c)
 have C2 := Hd (hcon d b)
 simp only
 generalize Lib.compareInt a c = p at *
 generalize Lib.compareInt d b = q at *
 generalize cmpL (a, b) (c, d) = r at *
 have OR0 := fun B w hx hy => orN_any B p q w hx hy
 rw [← E.out] at OR0
 have OR := Hd OR0
 clear hcon OR0 E
 obtain ⟨v0, hV⟩ : ∃ x, x = (W.alloc (.cells #[.int .i64 a, .int .i64 b] 42)).alloc (.cells #[.int .i64 c, .int .i64 d] 42) := ⟨_, rfl⟩
 have ka : Kp W v0 := by rw [hV]; exact (Kp.alloc _ _).trans (Kp.alloc _ _)
 have gq0 : v0.heap[W.heap.size]? = some (.cells #[.int .i64 a, .int .i64 b] 42 (0, 0)) := by rw [hV]; exact heap_block (Kp.alloc _ _) (heap_at _ _ _ (by first | rfl | simp))
 have gq1 : v0.heap[W.heap.size + 1]? = some (.cells #[.int .i64 c, .int .i64 d] 42 (0, 0)) := by rw [hV]; exact heap_at _ _ _ (by first | rfl | simp)
 have KS := Hd (fun w' (kq : Kp v0 w') => show w'.cell? ⟨W.heap.size, 0, none⟩ = some (.int .i64 a) ∧ w'.cell? ⟨W.heap.size, 1, none⟩ = some (.int .i64 b) ∧ w'.cell? ⟨W.heap.size + 1, 0, none⟩ = some (.int .i64 c) ∧ w'.cell? ⟨W.heap.size + 1, 1, none⟩ = some (.int .i64 d) ∧ Kp v0 w' from ⟨(row2 (heap_block kq gq0)).1, (row2 (heap_block kq gq0)).2, (row2 (heap_block kq gq1)).1, (row2 (heap_block kq gq1)).2, kq⟩)
 have GQ0 := Hd gq0
 have GQ1 := Hd gq1
 have HV := Hd hV
 have KA := Hd ka
 clear hV ka gq0 gq1
 have kkv0 : Kp v0 v0 := Kp.refl _
 have GV := Hd (show Grw W v0 by rw [HV.out]; exact ((Grw.refl W).alloc _).alloc _)
 go_enter Tryz.func133, Tryz.ntmps133
 go_upto_region 1 with fail
 rw [← HV.out]
 clear HV
 refine wp_region_held_drew (S := fun w' => w'.cell? ⟨W.heap.size, 0, none⟩ = some (.int .i64 a) ∧ w'.cell? ⟨W.heap.size, 1, none⟩ = some (.int .i64 b) ∧ w'.cell? ⟨W.heap.size + 1, 0, none⟩ = some (.int .i64 c) ∧ w'.cell? ⟨W.heap.size + 1, 1, none⟩ = some (.int .i64 d) ∧ Kp v0 w') (by kernel_rfl) ?_ (fun hHeld0 => ?_)
 ·(try dsimp only); exact KS.out _ (ky kkv0)
 refine tkv 0 nwlA0 ?_
 (try simp only [Act.put, nwlA0, xA, xB, xC])
 refine tkv 1 nwlA1 ?_
 (try simp only [Act.put, nwlA1, xA, xB, xC])
 refine tkv 2 nwlA2 ?_
 (try simp only [Act.put, nwlA2, xA, xB, xC])
 refine tkv 3 nwlA3 ?_
 (try simp only [Act.put, nwlA3, xA, xB, xC])
 refine tkv 5 nwlA5 ?_
 (try simp only [Act.put, nwlA5, xA, xB, xC])
 refine tkv 6 nwlA6 ?_
 (try simp only [Act.put, nwlA6, xA, xB, xC])
 refine tkv 7 nwlA7 ?_
 (try simp only [Act.put, nwlA7, xA, xB, xC])
 refine tkv 8 nwlA8 ?_
 (try simp only [Act.put, nwlA8, xA, xB, xC])
 refine tkE 4 nwlA4 rfl (by kernel_rfl) (fun K hK => ?_)
 go_simp
 (refine (C1.out _).mono ?_; rintro e w' ⟨rfl, rfl⟩)
 (try go_wp2_with fail)
 refine hK.out _ _ ?_ (fun hHeld1 => ?_)
 ·(try dsimp only); exact KS.out _ (ky kkv0)
 clear hK K hHeld0
 (try simp only [Act.put, nwlA4, xA, xB, xC])
 refine tkE 9 nwlA9 rfl (by kernel_rfl) (fun K hK => ?_)
 go_simp
 (refine (C2.out _).mono ?_; rintro e w' ⟨rfl, rfl⟩)
 (try go_wp2_with fail)
 refine hK.out _ _ ?_ (fun hHeld2 => ?_)
 ·(try dsimp only); exact KS.out _ (ky kkv0)
 clear hK K hHeld1
 (try simp only [Act.put, nwlA9, xA, xB, xC])
 refine tkE 10 nwlA10 rfl (by kernel_rfl) (fun K hK => ?_)
 go_simp
 skip
 (try go_wp2_with fail)
 refine hK.out _ _ ?_ (fun hHeld3 => ?_)
 ·(try dsimp only); exact KS.out _ (ky kkv0)
 clear hK K hHeld2
 (try simp only [Act.put, nwlA10, xA, xB, xC])
 refine tkE 11 nwlA11 rfl (by kernel_rfl) (fun K hK => ?_)
 go_simp
 (refine (OR.out _ _ (by simp) (by simp)).mono ?_; rintro e w' ⟨rfl, rfl⟩)
 (try go_wp2_with fail)
 refine hK.out _ _ ?_ (fun hHeld4 => ?_)
 ·(try dsimp only); exact KS.out _ (ky kkv0)
 clear hK K hHeld3
 (try simp only [Act.put, nwlA11, xA, xB, xC])
 refine tkv 12 nwlA12 ?_
 (try simp only [Act.put, nwlA12, xA, xB, xC])
 refine wpAnyH_done (by kernel_rfl) ?_ _
 go_wp2
 go_ret
 refine ⟨rfl, ?_⟩
 exact (show Grw W _ from by (repeat (first | refine Grw.drew ?_ | refine Grw.alloc ?_ _ | refine Grw.drewN ?_ _)); exact GV.out)
theorem own_sortedN {w : World} {base b cap n : Nat} {e : TypeId} {L : List R} (h : w.ownsRow base e 2 (.slice (some ⟨b, 0, none⟩) n cap) n (cellsR L)) {d : Array R} (hs : d.size = n) (m : Nat) (os : Array Obj) :
  (sortWorldK encR 2 w b 0 m d os).ownsRow base e 2 (.slice (some ⟨b, 0, none⟩) n cap) n (cellsR d.toList) ∧ w.grownBy (sortWorldK encR 2 w b 0 m d os) (some b) := by
 have hb : b < w.heap.size := (h.lt b rfl).2
 rcases h.2 with ⟨h', _⟩ | ⟨g', cap', cur, h', h1, h2, h3, h4, h5, h6⟩
 ·cases h'
 ·simp only [Value.slice.injEq, Option.some.injEq, Addr.mk.injEq, and_true, true_and] at h'
  obtain ⟨rfl, rfl⟩ := h'
  refine ⟨⟨by rw [cellsR_length, Array.length_toList, hs], .inr ⟨b, cap, putCells id 0 (flatK encR 2 d) cur, rfl, h1, ?_, h3, h4, ?_, ?_⟩⟩, ⟨rfl, rfl, rfl, ?_, fun k hk hne => ?_⟩⟩
  ·simp only [sortWorldK, grow, putRowK, putRow, mapBlock, Sort.ahead]
   rw [Array.getElem?_append_left (by simpa using hb), Array.getElem?_modify, if_pos rfl, h2]
   rfl
  ·simp [putCells, h5]
  ·apply List.ext_getElem?
   intro j
   by_cases hj : j < n * 2
   ·have hc : j < cur.size := by rw [h5]; omega
    rw [List.getElem?_take_of_lt hj, cells_idx _ j (by simpa [hs] using hj)]
    have e1 : (flatK encR 2 d)[j]! = (encR d[j / 2]!)[j % 2]! := get_flatK _ _ _ _ (by rw [hs]; exact hj)
    have hj2 : j / 2 < d.size := by omega
    have e2 : at_ d.toList (j / 2) = d[j / 2]! := by unfold at_; simp [List.getD, hj2]
    have e3 : (putCells id 0 (flatK encR 2 d) cur)[j]? = some ((flatK encR 2 d)[j]!) := by
     unfold putCells
     rw [Array.getElem?_mapIdx, Array.getElem?_eq_getElem hc]
     simp only [Option.map_some, Nat.zero_le, Nat.zero_add, size_flatK, hs, true_and, Nat.sub_zero, id_eq]
     rw [if_pos hj]
    rw [Array.getElem?_toList, e3, e1, e2]
    have : j % 2 = 0 ∨ j % 2 = 1 := by omega
    rcases this with q | q <;> rw [q] <;> rfl
   ·rw [List.getElem?_eq_none (by rw [List.length_take]; omega), List.getElem?_eq_none (by rw [cellsR_length, Array.length_toList, hs]; omega)]
  ·simp [sortWorldK, grow, putRowK, putRow, mapBlock, Sort.ahead]
  ·simp only [sortWorldK, grow, putRowK, putRow, mapBlock, Sort.ahead]
   have hne' : b ≠ k := fun e => hne (by rw [e])
   rw [Array.getElem?_append_left (by simpa using hk), Array.getElem?_modify, if_neg hne']
theorem nsort_any {base b cap : Nat} {e : TypeId} (L : List R) (w : World) (h : w.ownsRow base e 2 (.slice (some ⟨b, 0, none⟩) L.length cap) L.length (cellsR L)) (hn : L.length ≤ 1000000) :
  Calls Tryz.prog 104 #[.slice (some ⟨b, 0, none⟩) L.length cap, .func (.func 133) #[] #[]] w fun ex w' => ex = .returned (.tuple #[]) ∧ ∃ L' : List R, L'.length = L.length ∧ (∀ p, p ∈ L' ↔ p ∈ L) ∧ L'.Pairwise leLo ∧ w'.ownsRow base e 2 (.slice (some ⟨b, 0, none⟩) L.length cap) L.length (cellsR L') ∧ w.grownBy w' (some b) := by
 have eg : ∀ args w, (callFunc 133 args).run Tryz.prog w = .ok (.enter 133 args) w := enters_of Tryz.func133 (by kernel_rfl) rfl
 have hb : b < w.heap.size := (h.lt b rfl).2
 have hH : HoldsK encR 2 w b 0 L.toArray := holds_row h
 have hcon := AnyQ.slices_SortFunc Tryz.sortRn 2 Tryz.isAgg42 Tryz.sizeOf42 encR lenR oneR cmpL swoL 133 #[] b 0 cap L.toArray w eg (fun _ _ _ _ x y => clo_long x y _) hH hb (by simp; omega)
 change Calls Tryz.prog 104 _ _ _ at hcon
 refine hcon.mono ?_
 rintro ex w' ⟨rfl, d', n, os, hp, hs, rfl⟩
 have sz : d'.size = L.length := by rw [hp.1]; simp
 obtain ⟨o1, g1⟩ := own_sortedN h sz n os
 have pm : d'.toList.Perm L := by
  have := hp.2.2
  rw [Array.extract_eq_self_of_le (by simp [sz]), Array.extract_eq_self_of_le (by simp)] at this
  simpa using this
 refine ⟨rfl, d'.toList, by simpa using sz, fun p => pm.mem_iff, ?_, o1, g1⟩
 rw [List.pairwise_iff_getElem]
 intro i j hi hj hij
 have hi2 : i < d'.size := by simpa using hi
 have hj2 : j < d'.size := by simpa using hj
 have := hs i j (Nat.zero_le _) hij (by simp; omega)
 rw [ltL, decide_eq_false_iff_not, getElem!_pos d' i hi2, getElem!_pos d' j hj2] at this
 simp only [Array.getElem_toList]
 unfold leLo
 omega
theorem nsort_nil (w : World) : Calls Tryz.prog 104 #[.slice none 0 0, .func (.func 133) #[] #[]] w fun e w' => e = .returned (.tuple #[]) ∧ w' = w := by
 have hcon := AnyF.slices_SortFunc_none Tryz.sortRn none 0 (.func (.func 133) #[] #[]) w
 change Calls Tryz.prog 104 _ _ _ at hcon
 exact hcon
theorem nsort_row {base : Nat} {e : TypeId} {v : Value} (L : List R) (w : World) (h : w.ownsRow base e 2 v L.length (cellsR L)) (hn : L.length ≤ 1000000) :
  Calls Tryz.prog 104 #[v, .func (.func 133) #[] #[]] w fun ex w' => ex = .returned (.tuple #[]) ∧ ∃ L' : List R, L'.length = L.length ∧ (∀ p, p ∈ L' ↔ p ∈ L) ∧ L'.Pairwise leLo ∧ w'.ownsRow base e 2 v L.length (cellsR L') ∧ w.grownBy w' v.ownBlock := by
 rcases h.2 with ⟨rfl, h0⟩ | ⟨g, cap, cur, rfl, _⟩
 ·have : L = [] := List.length_eq_zero_iff.1 h0
  subst this
  refine (nsort_nil w).mono ?_
  rintro ex w' ⟨rfl, rfl⟩
  exact ⟨rfl, [], rfl, fun p => Iff.rfl, List.Pairwise.nil, h, ⟨rfl, rfl, rfl, Nat.le_refl _, fun _ _ _ => rfl⟩⟩
 ·exact nsort_any L w h hn
open Go.RowKit
theorem grown_kp {w w1 w' : World} {row : Option Nat} (g : w.grownBy w1 row) (k : Kp w1 w') : w.grownBy w' row :=
 ⟨k.os.trans g.os, k.tape.trans g.tape, k.output.trans g.output, Nat.le_trans g.size k.size, fun j hj hn => (k.block j (Nat.lt_of_lt_of_le hj g.size)).trans (g.block j hj hn)⟩
theorem long_next {L : List R} {k : Nat} (h : k < L.length) : longR (L.take (k + 1)) = lgS (longR (L.take k)) (at_ L k) := by rw [take_at L k h, long_snoc]
abbrev nwmA0 : Oper := ⟨some 14, .move (.tmp 3), 34, "bounds.go:53", #[], none⟩
abbrev nwmA1 : Oper := ⟨some 15, .call ⟨.builtin .len, #[.tmp 14], #[34]⟩, 3, "bounds.go:53", #[⟨0, .data⟩], none⟩
abbrev nwmA2 : Oper := ⟨some 16, .binOp .eql 3 (.tmp 15) (.const (.int .i64 0)) 3, 4, "bounds.go:53", #[⟨1, .data⟩], none⟩
abbrev nwmA3 : Oper := ⟨some 17, .move (.tmp 16), 4, "bounds.go:53", #[⟨2, .data⟩], none⟩
abbrev nwmA4 : Oper := ⟨some 18, .fieldAddr 42 (.tmp 5) 1, 0, "bounds.go:53", #[⟨3, .guard⟩], some (3, false)⟩
abbrev nwmA5 : Oper := ⟨some 19, .load 3 (.tmp 18), 3, "bounds.go:53", #[⟨4, .data⟩, ⟨3, .guard⟩], some (3, false)⟩
abbrev nwmA6 : Oper := ⟨some 20, .move (.tmp 3), 34, "bounds.go:53", #[⟨3, .guard⟩], some (3, false)⟩
abbrev nwmA7 : Oper := ⟨some 21, .move (.tmp 3), 34, "bounds.go:53", #[⟨3, .guard⟩], some (3, false)⟩
abbrev nwmA8 : Oper := ⟨some 22, .call ⟨.builtin .len, #[.tmp 21], #[34]⟩, 3, "bounds.go:53", #[⟨7, .data⟩, ⟨3, .guard⟩], some (3, false)⟩
abbrev nwmA9 : Oper := ⟨some 23, .binOp .sub 3 (.tmp 22) (.const (.int .i64 1)) 3, 3, "bounds.go:53", #[⟨8, .data⟩, ⟨3, .guard⟩], some (3, false)⟩
abbrev nwmA10 : Oper := ⟨some 24, .indexAddr 34 (.tmp 20) (.tmp 23), 0, "bounds.go:53", #[⟨6, .data⟩, ⟨9, .data⟩, ⟨3, .guard⟩], some (3, false)⟩
abbrev nwmA11 : Oper := ⟨some 25, .fieldAddr 42 (.tmp 24) 1, 0, "bounds.go:53", #[⟨10, .data⟩, ⟨3, .guard⟩], some (3, false)⟩
abbrev nwmA12 : Oper := ⟨some 26, .load 3 (.tmp 25), 3, "bounds.go:53", #[⟨11, .data⟩, ⟨3, .guard⟩], some (3, false)⟩
abbrev nwmA13 : Oper := ⟨some 27, .binOp .gtr 3 (.tmp 19) (.tmp 26) 3, 4, "bounds.go:53", #[⟨5, .data⟩, ⟨12, .data⟩, ⟨3, .guard⟩], some (3, false)⟩
abbrev nwmA14 : Oper := ⟨some 28, .pick (.tmp 17) (.const (.bool true)) (.tmp 27), 4, "bounds.go:53", #[⟨3, .data⟩, ⟨13, .data⟩], none⟩
theorem nwLong_any {base : Nat} (v : Value) (L : List R) (w : World) (h : OwnR w base v L) (hn : L.length ≤ 1000000) :
  Calls Tryz.prog 74 #[v] w fun e w' => ∃ v' L' K, e = .returned v' ∧ (∀ p, p ∈ L' ↔ p ∈ L) ∧ L'.length = L.length ∧ OwnR w' base v L' ∧ KeptOk L K ∧ OwnR w' w.heap.size v' K ∧ w.grownBy w' v.ownBlock := by
 obtain ⟨i0, hi, hz0, hz1, hz2⟩ := info_parts infoR
 have SO := Hd (nsort_row L w h hn)
 unfold OwnR at h
 obtain ⟨ad, ca, rfl⟩ := own_slice h
 clear h
 go_enter Tryz.func74, Tryz.ntmps74
 go_wp2_with fail
 refine (SO.out).mono ?_
 rintro e w1 ⟨rfl, L', h1, h2, h3, h4, h5⟩
 have h4' : OwnR w1 base (.slice ad L.length ca) L' := by unfold OwnR; rw [h1]; exact h4
 have RV := Hd (runsAt_own h4')
 have RET := Hd (fun v' w' (hK : OwnR w' w1.heap.size v' (longR L')) (k : Kp w1 w') => show ∃ K, KeptOk L K ∧ OwnR w' base (.slice ad L.length ca) L' ∧ OwnR w' w.heap.size v' K ∧ w.grownBy w' (Value.slice ad L.length ca).ownBlock from
  ⟨longR L', (long_ok L' h3).1.perm h2 h1, own_kp h4' k, own_mono hK h5.size, grown_kp h5 k⟩)
 have H1 := Hd h1
 have H2 := Hd h2
 have hn' : L'.length ≤ 1000000 := by omega
 rw [← h1]
 clear SO h2 h3 h4 h4' h5 h1 hn
 go_wp2_with fail
 go_loopw [3, 10] (fun v i wr => ∃ k : Nat, k ≤ L'.length ∧ i = .int .i64 k ∧ Hid (OwnR wr w1.heap.size v (longR (L'.take k))) ∧ Hid (Kp w1 wr)) (fun _ i _ => L'.length - (intOf i).toNat)
 case atStart => exact ⟨0, Nat.zero_le _, rfl, Hd (by rw [List.take_zero]; exact World.ownsRow_nil _ _ _ _), Hd (Kp.refl _)⟩
 case round =>
  obtain ⟨k, hk, rfl, O5, J⟩ := hrel
  have o5 := O5.out
  unfold OwnR at o5
  obtain ⟨a5, l5, rfl⟩ := own_slice o5
  by_cases hlt : k < L'.length
  ·have q2 : decide ((k : Int) < (L'.length : Int)) = true := dT
   have q3 : decide (k < L'.length) = true := decide_eq_true hlt
   have RW := RV.out.kp J.out
   rcases RW with ⟨_, _, _, e⟩ | ⟨b1, off1, cap1, ev, hc1, hm1, hx1⟩
   ·rw [e] at hlt; simp at hlt
   obtain ⟨r1, r2⟩ := hx1 k hlt
   rw [← H1.out] at ev
   cases ev
   have n5b := long_len (L'.take k)
   have n5c : (L'.take k).length ≤ k := List.length_take_le _ _
   obtain ⟨lo, hi', elo⟩ : ∃ x y, at_ L' k = (x, y) := ⟨_, _, rfl⟩
   rw [elo] at r1 r2
   simp only at r1 r2
   have z1 : (0 : Int) ≤ (k : Int) := by omega
   have z2 : (k : Int) < L'.length := by omega
   have kkVV : Kp wr (wr.alloc (.cells #[.int .i64 lo, .int .i64 hi'] 42)) := Kp.alloc _ _
   obtain ⟨X, eX⟩ : ∃ X, longR (L'.take k) = X := ⟨_, rfl⟩
   rw [eX] at o5 n5b ⊢
   obtain ⟨n5, hn5⟩ : ∃ x, X.length = x := ⟨_, rfl⟩
   rw [hn5] at o5 n5b ⊢
   have HN5 := Hd hn5
   clear hx1 hc1 RET
   rcases snoc_cases X with hX | ⟨bb, q, hX⟩
   ·have hz : n5 = 0 := by rw [← hn5, hX]; rfl
    have g1 : ((n5 : Int) == 0) = true := by rw [hz]; rfl
    have NX := Hd (show longR (L'.take (k + 1)) = X ++ [(lo, hi')] by rw [long_next hlt, elo, eX, hX]; rfl)
    clear hX eX elo hn5 hz
    obtain ⟨V, hVv⟩ : ∃ x, x = wr.alloc (.cells #[.int .i64 lo, .int .i64 hi'] 42) := ⟨_, rfl⟩
    have kav : Kp wr V := by rw [hVv]; exact Kp.alloc _ _
    have gqv0 : V.heap[wr.heap.size]? = some (.cells #[.int .i64 lo, .int .i64 hi'] 42 (0, 0)) := by rw [hVv]; exact heap_at _ _ _ (by first | rfl | simp)
    rw [← hVv] at kkVV
    have KSv := Hd (fun w' (kq : Kp V w') => show w'.cell? ⟨wr.heap.size, 0, none⟩ = some (.int .i64 lo) ∧ w'.cell? ⟨wr.heap.size, 1, none⟩ = some (.int .i64 hi') ∧ Kp V w' from ⟨(row2 (heap_block kq gqv0)).1, (row2 (heap_block kq gqv0)).2, kq⟩)
    have GQv0 := Hd gqv0
    have HVv := Hd hVv
    have KV := Hd kav
    clear hVv kav gqv0
    have kkV : Kp V V := Kp.refl _
    have OW := Hd (own_kp o5 KV.out)
    have KWV := Hd (J.out.trans KV.out)
    have bs := Below.size KWV.out
    clear O5 o5
    go_upto_region 6 with fail
    rw [← HVv.out]
    clear HVv r1 r2
    refine wp_region_held_drew (S := fun w' => w'.cell? ⟨wr.heap.size, 0, none⟩ = some (.int .i64 lo) ∧ w'.cell? ⟨wr.heap.size, 1, none⟩ = some (.int .i64 hi') ∧ Kp V w') (by kernel_rfl) ?_ (fun hHeld0 => ?_)
    ·(try dsimp only); exact KSv.out _ (ky kkV)
    refine tkv 0 nwmA0 ?_
    (try simp only [Act.put, nwmA0, xA, xB, xC])
    refine tkv 1 nwmA1 ?_
    (try simp only [Act.put, nwmA1, xA, xB, xC])
    refine tkv 2 nwmA2 ?_
    (try simp only [Act.put, nwmA2, xA, xB, xC])
    refine tkv 3 nwmA3 ?_
    (try simp only [Act.put, nwmA3, xA, xB, xC])
    refine tkn 4 nwmA4 ?_
    (try simp only [Act.put, nwmA4, xA, xB, xC])
    refine tkn 5 nwmA5 ?_
    (try simp only [Act.put, nwmA5, xA, xB, xC])
    refine tkn 6 nwmA6 ?_
    (try simp only [Act.put, nwmA6, xA, xB, xC])
    refine tkn 7 nwmA7 ?_
    (try simp only [Act.put, nwmA7, xA, xB, xC])
    refine tkn 8 nwmA8 ?_
    (try simp only [Act.put, nwmA8, xA, xB, xC])
    refine tkn 9 nwmA9 ?_
    (try simp only [Act.put, nwmA9, xA, xB, xC])
    refine tkn 10 nwmA10 ?_
    (try simp only [Act.put, nwmA10, xA, xB, xC])
    refine tkn 11 nwmA11 ?_
    (try simp only [Act.put, nwmA11, xA, xB, xC])
    refine tkn 12 nwmA12 ?_
    (try simp only [Act.put, nwmA12, xA, xB, xC])
    refine tkn 13 nwmA13 ?_
    (try simp only [Act.put, nwmA13, xA, xB, xC])
    refine tkv 14 nwmA14 ?_
    (try simp only [Act.put, nwmA14, xA, xB, xC])
    refine wpAnyH_done (by kernel_rfl) ?_ _
    obtain ⟨xv0, xv1, _⟩ := KSv.out _ (Kp.refl V)
    go_wp2_with (at_builtin; refine wpList_app rfl (.tmp 29) (.tmp 31) 34 rfl w1.heap.size 42 i0 (.agg #[.int .i64 0, .int .i64 0]) 2 16 Tryz.underlying34 hi hz0 hz1 hz2 rfl (by decide) _ n5 (cellsR X) rfl (own_kp OW.out (ky (Kp.refl V))) _ 1 [.int .i64 lo, .int .i64 hi'] rfl (one_src _ _ _ _) (by simp) (by intro u hu; simp at hu; rcases hu with rfl | rfl <;> rfl) (by unfold maxLen; omega) (by omega) (Nat.le_trans bs (Below.size (show Kp V _ from (ky (Kp.refl V))))) ?_; intro v7 w7 hown hgrow hat)
    go_roundw
    case rel => exact ⟨k + 1, by omega, by go_num, Hd (by rw [NX.out]; have h := hown; rw [← HN5.out] at h; exact own_snoc h), Hd (Kp.grown (show Kp w1 _ from KWV.out.trans (ky (Kp.refl V))) hgrow (fun j hj => (OW.out.lt j hj).1))⟩
    case measure => simp [intOf]; omega
   ·have hz : n5 = bb.length + 1 := by rw [← hn5, hX]; simp
    have g1 : ((n5 : Int) == 0) = false := by rw [beq_eq_false_iff_ne]; omega
    obtain ⟨g, cp5, e5, gb, gl⟩ := World.ownsRow.form o5 (by omega)
    cases e5
    have cq : wr.cell? ⟨g, bb.length * 2 + 1, none⟩ = some (.int .i64 q.2) := by
     rw [o5.cellAt _ (by omega), hX, cellsR_append, List.getElem?_append_right (by rw [cellsR_length]; omega), cellsR_length]
     simp [cellsR]
    have nx := long_next hlt
    rw [elo, eX] at nx
    unfold lgS at nx
    rw [if_neg (by rw [hX]; simp), show (X.getLastD (0, 0)) = q by rw [hX]; simp] at nx
    obtain ⟨m5, em⟩ : ∃ x, bb.length = x := ⟨_, rfl⟩
    rw [em] at cq hz
    obtain ⟨y1, y2⟩ := q
    simp only at cq nx
    have ws : IntKind.i64.wrap ((n5 : Int) - 1) = (m5 : Int) := by rw [IntKind.wrap_i64]; omega
    have z3 : (0 : Int) ≤ (m5 : Int) := by omega
    have z4 : (m5 : Int) < (n5 : Int) := by omega
    by_cases c : y2 < hi'
    ·rw [if_pos c] at nx
     have NX := Hd nx
     have u1 : decide (hi' > y2) = true := decide_eq_true c
     have u2 : decide (y2 < hi') = true := decide_eq_true c
     clear hX eX elo hn5 nx c em hz
     obtain ⟨V, hVv⟩ : ∃ x, x = wr.alloc (.cells #[.int .i64 lo, .int .i64 hi'] 42) := ⟨_, rfl⟩
     have kav : Kp wr V := by rw [hVv]; exact Kp.alloc _ _
     have gqv0 : V.heap[wr.heap.size]? = some (.cells #[.int .i64 lo, .int .i64 hi'] 42 (0, 0)) := by rw [hVv]; exact heap_at _ _ _ (by first | rfl | simp)
     rw [← hVv] at kkVV
     have KSv := Hd (fun w' (kq : Kp V w') => show w'.cell? ⟨wr.heap.size, 0, none⟩ = some (.int .i64 lo) ∧ w'.cell? ⟨wr.heap.size, 1, none⟩ = some (.int .i64 hi') ∧ w'.cell? ⟨g, m5 * 2 + 1, none⟩ = some (.int .i64 y2) ∧ Kp V w' from ⟨(row2 (heap_block kq gqv0)).1, (row2 (heap_block kq gqv0)).2, cell_up kq (cell_up kkVV cq), kq⟩)
     have GQv0 := Hd gqv0
     have HVv := Hd hVv
     have KV := Hd kav
     clear hVv kav gqv0
     have kkV : Kp V V := Kp.refl _
     have OW := Hd (own_kp o5 KV.out)
     have KWV := Hd (J.out.trans KV.out)
     have bs := Below.size KWV.out
     clear O5 o5
     go_upto_region 6 with fail
     rw [← HVv.out]
     clear HVv r1 r2 cq
     refine wp_region_held_drew (S := fun w' => w'.cell? ⟨wr.heap.size, 0, none⟩ = some (.int .i64 lo) ∧ w'.cell? ⟨wr.heap.size, 1, none⟩ = some (.int .i64 hi') ∧ w'.cell? ⟨g, m5 * 2 + 1, none⟩ = some (.int .i64 y2) ∧ Kp V w') (by kernel_rfl) ?_ (fun hHeld0 => ?_)
     ·(try dsimp only); exact KSv.out _ (ky kkV)
     refine tkv 0 nwmA0 ?_
     (try simp only [Act.put, nwmA0, xA, xB, xC])
     refine tkv 1 nwmA1 ?_
     (try simp only [Act.put, nwmA1, xA, xB, xC])
     refine tkv 2 nwmA2 ?_
     (try simp only [Act.put, nwmA2, xA, xB, xC])
     refine tkv 3 nwmA3 ?_
     (try simp only [Act.put, nwmA3, xA, xB, xC])
     refine tkv 4 nwmA4 ?_
     (try simp only [Act.put, nwmA4, xA, xB, xC])
     refine tkv 5 nwmA5 ?_
     (try simp only [Act.put, nwmA5, xA, xB, xC])
     refine tkv 6 nwmA6 ?_
     (try simp only [Act.put, nwmA6, xA, xB, xC])
     refine tkv 7 nwmA7 ?_
     (try simp only [Act.put, nwmA7, xA, xB, xC])
     refine tkv 8 nwmA8 ?_
     (try simp only [Act.put, nwmA8, xA, xB, xC])
     refine tkv 9 nwmA9 ?_
     (try simp only [Act.put, nwmA9, xA, xB, xC])
     refine tkv 10 nwmA10 ?_
     (try simp only [Act.put, nwmA10, xA, xB, xC])
     refine tkv 11 nwmA11 ?_
     (try simp only [Act.put, nwmA11, xA, xB, xC])
     refine tkv 12 nwmA12 ?_
     (try simp only [Act.put, nwmA12, xA, xB, xC])
     refine tkv 13 nwmA13 ?_
     (try simp only [Act.put, nwmA13, xA, xB, xC])
     refine tkv 14 nwmA14 ?_
     (try simp only [Act.put, nwmA14, xA, xB, xC])
     refine wpAnyH_done (by kernel_rfl) ?_ _
     obtain ⟨xv0, xv1, xv2, _⟩ := KSv.out _ (Kp.refl V)
     go_wp2_with (at_builtin; refine wpList_app rfl (.tmp 29) (.tmp 31) 34 rfl w1.heap.size 42 i0 (.agg #[.int .i64 0, .int .i64 0]) 2 16 Tryz.underlying34 hi hz0 hz1 hz2 rfl (by decide) _ n5 (cellsR X) rfl (own_kp OW.out (ky (Kp.refl V))) _ 1 [.int .i64 lo, .int .i64 hi'] rfl (one_src _ _ _ _) (by simp) (by intro u hu; simp at hu; rcases hu with rfl | rfl <;> rfl) (by unfold maxLen; omega) (by omega) (Nat.le_trans bs (Below.size (show Kp V _ from (ky (Kp.refl V))))) ?_; intro v7 w7 hown hgrow hat)
     go_roundw
     case rel => exact ⟨k + 1, by omega, by go_num, Hd (by rw [NX.out]; have h := hown; rw [← HN5.out] at h; exact own_snoc h), Hd (Kp.grown (show Kp w1 _ from KWV.out.trans (ky (Kp.refl V))) hgrow (fun j hj => (OW.out.lt j hj).1))⟩
     case measure => simp [intOf]; omega
    ·rw [if_neg c] at nx
     have NX := Hd nx
     have u1 : decide (hi' > y2) = false := decide_eq_false c
     have u2 : decide (y2 < hi') = false := decide_eq_false c
     clear hX eX elo hn5 nx c em hz
     obtain ⟨V, hVv⟩ : ∃ x, x = wr.alloc (.cells #[.int .i64 lo, .int .i64 hi'] 42) := ⟨_, rfl⟩
     have kav : Kp wr V := by rw [hVv]; exact Kp.alloc _ _
     have gqv0 : V.heap[wr.heap.size]? = some (.cells #[.int .i64 lo, .int .i64 hi'] 42 (0, 0)) := by rw [hVv]; exact heap_at _ _ _ (by first | rfl | simp)
     rw [← hVv] at kkVV
     have KSv := Hd (fun w' (kq : Kp V w') => show w'.cell? ⟨wr.heap.size, 0, none⟩ = some (.int .i64 lo) ∧ w'.cell? ⟨wr.heap.size, 1, none⟩ = some (.int .i64 hi') ∧ w'.cell? ⟨g, m5 * 2 + 1, none⟩ = some (.int .i64 y2) ∧ Kp V w' from ⟨(row2 (heap_block kq gqv0)).1, (row2 (heap_block kq gqv0)).2, cell_up kq (cell_up kkVV cq), kq⟩)
     have GQv0 := Hd gqv0
     have HVv := Hd hVv
     have KV := Hd kav
     clear hVv kav gqv0
     have kkV : Kp V V := Kp.refl _
     have OW := Hd (own_kp o5 KV.out)
     have KWV := Hd (J.out.trans KV.out)
     have bs := Below.size KWV.out
     clear O5 o5
     go_upto_region 6 with fail
     rw [← HVv.out]
     clear HVv r1 r2 cq
     refine wp_region_held_drew (S := fun w' => w'.cell? ⟨wr.heap.size, 0, none⟩ = some (.int .i64 lo) ∧ w'.cell? ⟨wr.heap.size, 1, none⟩ = some (.int .i64 hi') ∧ w'.cell? ⟨g, m5 * 2 + 1, none⟩ = some (.int .i64 y2) ∧ Kp V w') (by kernel_rfl) ?_ (fun hHeld0 => ?_)
     ·(try dsimp only); exact KSv.out _ (ky kkV)
     refine tkv 0 nwmA0 ?_
     (try simp only [Act.put, nwmA0, xA, xB, xC])
     refine tkv 1 nwmA1 ?_
     (try simp only [Act.put, nwmA1, xA, xB, xC])
     refine tkv 2 nwmA2 ?_
     (try simp only [Act.put, nwmA2, xA, xB, xC])
     refine tkv 3 nwmA3 ?_
     (try simp only [Act.put, nwmA3, xA, xB, xC])
     refine tkv 4 nwmA4 ?_
     (try simp only [Act.put, nwmA4, xA, xB, xC])
     refine tkv 5 nwmA5 ?_
     (try simp only [Act.put, nwmA5, xA, xB, xC])
     refine tkv 6 nwmA6 ?_
     (try simp only [Act.put, nwmA6, xA, xB, xC])
     refine tkv 7 nwmA7 ?_
     (try simp only [Act.put, nwmA7, xA, xB, xC])
     refine tkv 8 nwmA8 ?_
     (try simp only [Act.put, nwmA8, xA, xB, xC])
     refine tkv 9 nwmA9 ?_
     (try simp only [Act.put, nwmA9, xA, xB, xC])
     refine tkv 10 nwmA10 ?_
     (try simp only [Act.put, nwmA10, xA, xB, xC])
     refine tkv 11 nwmA11 ?_
     (try simp only [Act.put, nwmA11, xA, xB, xC])
     refine tkv 12 nwmA12 ?_
     (try simp only [Act.put, nwmA12, xA, xB, xC])
     refine tkv 13 nwmA13 ?_
     (try simp only [Act.put, nwmA13, xA, xB, xC])
     refine tkv 14 nwmA14 ?_
     (try simp only [Act.put, nwmA14, xA, xB, xC])
     refine wpAnyH_done (by kernel_rfl) ?_ _
     obtain ⟨xv0, xv1, xv2, _⟩ := KSv.out _ (Kp.refl V)
     go_wp2
     go_roundw
     case rel => exact ⟨k + 1, by omega, by go_num, Hd (by rw [NX.out]; unfold OwnR; rw [HN5.out]; exact own_kp OW.out (show Kp V _ from (ky (Kp.refl V)))), Hd (KWV.out.trans (ky (Kp.refl V)))⟩
     case measure => simp [intOf]; omega
  ·have q2 : decide ((k : Int) < (L'.length : Int)) = false := dF
   have q3 : decide (k < L'.length) = false := dF
   obtain rfl : k = L'.length := by omega
   rw [List.take_length] at O5 ⊢
   go_wp2
   go_ret
   obtain ⟨K, k1, k2, k3, k4⟩ := RET.out _ _ O5.out J.out
   exact ⟨_, L', K, rfl, H2.out, H1.out, k2, k1, k3, k4⟩
end Go.Proofs.YtcooaoponkkpeaaGreatDoor
