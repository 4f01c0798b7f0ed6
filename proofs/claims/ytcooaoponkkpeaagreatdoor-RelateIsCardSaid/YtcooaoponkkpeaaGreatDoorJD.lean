import Derived.Test.YtcooaoponkkpeaaGreatDoorGSetA
import Derived.Test.YtcooaoponkkpeaaGreatDoorJI
import Derived.Test.YtcooaoponkkpeaaGreatDoorJB
import Derived.LoopTactic
set_option maxHeartbeats 16000000
set_option maxRecDepth 100000
namespace Go.Proofs.YtcooaoponkkpeaaGreatDoor
open Go.RowKit
set_option linter.unusedVariables false
set_option linter.unusedSimpArgs false
def cellsZ (l : List Int) : List Value := l.map (Value.int .i64)
theorem infoZ : (Tryz.prog.info? 3).map (fun i => (i.zero, i.size, i.bytes)) = some (some (.int .i64 0), 1, 8) := by kernel_rfl
theorem cellsZ_length (l : List Int) : (cellsZ l).length = l.length := by unfold cellsZ; simp
theorem cellsZ_append (a b : List Int) : cellsZ (a ++ b) = cellsZ a ++ cellsZ b := by unfold cellsZ; simp
theorem cellsZ_one (l : List Int) : ∀ u ∈ cellsZ l, u.oneCell' = true := by
 intro u hu
 unfold cellsZ at hu
 obtain ⟨n, _, rfl⟩ := List.mem_map.1 hu
 rfl
theorem cellsZ_at (l : List Int) {i : Nat} (h : i < l.length) : (cellsZ l)[i]? = some (.int .i64 (l.getD i 0)) := by
 unfold cellsZ; simp [List.getD, h]
theorem intsAt_ownZ {w : World} {base : Nat} {e : TypeId} {v : Value} {l : List Int} (h : w.ownsRow base e 1 v l.length (cellsZ l)) : IntsAt w v l := by
 rcases h.2 with ⟨e1, h0⟩ | ⟨g, cp, cur, e1, h2, h3, h4, h5, h6, h7⟩
 ·exact .inl ⟨_, _, e1, List.length_eq_zero_iff.1 h0⟩
 ·subst e1
  refine .inr ⟨g, 0, cp, rfl, h4, h5, fun i hi => ?_⟩
  rw [Nat.zero_add, h.cellAt i (by omega)]
  exact cellsZ_at l hi
theorem IntsAt.src {w : World} {v : Value} {l : List Int} (h : IntsAt w v l) : SrcAt w v l.length (cellsZ l) := by
 rcases h with ⟨ad, cp, rfl, rfl⟩ | ⟨b, off, cap, rfl, _, _, hx⟩
 ·exact .inl ⟨_, _, rfl, rfl, rfl⟩
 ·refine .inr ⟨_, _, rfl, fun j u hu => ?_⟩
  have hj : j < l.length := by
   have := (List.getElem?_eq_some_iff.1 hu).1
   rwa [cellsZ_length] at this
  rw [cellsZ_at l hj] at hu
  cases hu
  rw [Addr.add_lit]
  exact hx j hj
theorem one_srcZ (w : World) (x : Int) (t : TypeId) : SrcAt (w.alloc (.cells #[.int .i64 x] t)) (.slice (some ⟨w.heap.size, 0, none⟩) 1 1) 1 [.int .i64 x] := by
 refine .inr ⟨_, _, rfl, fun j u hu => ?_⟩
 match j, hu with
 | 0, hu => cases hu; simp [Addr.add]
theorem two_srcZ (w : World) (x y : Int) (t : TypeId) : SrcAt (w.alloc (.cells #[.int .i64 x, .int .i64 y] t)) (.slice (some ⟨w.heap.size, 0, none⟩) 2 2) 2 [.int .i64 x, .int .i64 y] := by
 refine .inr ⟨_, _, rfl, fun j u hu => ?_⟩
 match j, hu with
 | 0, hu => cases hu; simp [Addr.add]
 | 1, hu => cases hu; simp [Addr.add]
theorem own_lenZ {w : World} {base : Nat} {e : TypeId} {v : Value} {l m : List Int} (h : w.ownsRow base e 1 v (l.length + m.length) (cellsZ l ++ cellsZ m)) : w.ownsRow base e 1 v (l ++ m).length (cellsZ (l ++ m)) := by
 rw [cellsZ_append, List.length_append]; exact h
theorem own_snocZ {w : World} {base : Nat} {e : TypeId} {v : Value} {l : List Int} {x : Int} (h : w.ownsRow base e 1 v (l.length + 1) (cellsZ l ++ [.int .i64 x])) : w.ownsRow base e 1 v (l ++ [x]).length (cellsZ (l ++ [x])) := own_lenZ (m := [x]) h
theorem own_snoc2Z {w : World} {base : Nat} {e : TypeId} {v : Value} {l : List Int} {x y : Int} (h : w.ownsRow base e 1 v (l.length + 2) (cellsZ l ++ [.int .i64 x, .int .i64 y])) : w.ownsRow base e 1 v (l ++ [x, y]).length (cellsZ (l ++ [x, y])) := own_lenZ (m := [x, y]) h
theorem own_sliceZ {w : World} {base : Nat} {e : TypeId} {v : Value} {n : Nat} {xs : List Value} (h : w.ownsRow base e 1 v n xs) : ∃ ad c, v = .slice ad n c := by
 rcases h.2 with ⟨e1, h0⟩ | ⟨g, cp, cur, e1, _⟩
 ·subst h0; exact ⟨_, _, e1⟩
 ·exact ⟨_, _, e1⟩
theorem infoPr : (Tryz.prog.info? 31).map (fun i => (i.zero, i.size, i.bytes)) = some (some (.agg #[.int .i64 0, .int .i64 0]), 2, 16) := by kernel_rfl
theorem at_apart {v v' : Value} {H X : Nat} (h : ∀ j, v.ownBlock = some j → j ≠ X) (hX : X < H) (a : v'.ownBlock = v.ownBlock ∨ v'.ownBlock = some H) : ∀ j, v'.ownBlock = some j → j ≠ X := by
 intro j hj
 rcases a with a | a
 ·exact h j (by rw [← a]; exact hj)
 ·rw [a] at hj; cases hj; omega
theorem nums_in_len {s : List R} {j m : Nat} (h : j < s.length) (hm : m ≤ ((at_ s j).2 - (at_ s j).1 + 1).toNat) : (nums (s.take j) ++ upF (at_ s j).1 m).length ≤ (nums s).length := (nums_part s j m h hm).length_le
theorem numbers_any (v : Value) (s : List R) (w : World) (hv : RunsAt w v s) (hs : sane s) (hn : s.length ≤ 100000) (hc : (nums s).length ≤ 1000000) :
  Calls Tryz.prog 101 #[v] w fun e w' => ∃ v' : Value, e = .returned v' ∧ w'.ownsRow w.heap.size 3 1 v' (nums s).length (cellsZ (nums s)) ∧ Kp w w' := by
 obtain ⟨i0, hi, hz0, hz1, hz2⟩ := info_parts infoZ
 obtain ⟨ad, c, rfl⟩ := hv.slice
 have HV := Hd hv
 have HO := Hd (sane_ok hs)
 have NT := Hd (fun k (h : k < s.length) => nums_take s k h)
 have NL := Hd (fun k m (h : k < s.length) (hm : m ≤ ((at_ s k).2 - (at_ s k).1 + 1).toNat) => Nat.le_trans (nums_in_len h hm) hc)
 have NE := Hd (show nums (s.take s.length) = nums s by rw [List.take_length])
 clear hv hs hc
 go_enter Tryz.func101, Tryz.ntmps101
 go_wp2
 go_loopw [3, 9] (fun u i wr => ∃ k : Nat, k ≤ s.length ∧ i = .int .i64 k ∧ Hid (wr.ownsRow w.heap.size 3 1 u (nums (s.take k)).length (cellsZ (nums (s.take k)))) ∧ Hid (Kp w wr)) (fun _ i _ => s.length - (intOf i).toNat)
 case atStart => exact ⟨0, Nat.zero_le _, rfl, Hd (World.ownsRow_nil _ _ _ _), Hd (Kp.refl _)⟩
 case round =>
  obtain ⟨k, hk, rfl, O, K1⟩ := hrel
  obtain ⟨wo, hwo⟩ : ∃ x, x = wr := ⟨_, rfl⟩
  subst hwo
  obtain ⟨oad, oc, rfl⟩ := own_sliceZ O.out
  by_cases hlt : k < s.length
  ·rcases HV.out.kp K1.out with ⟨_, _, _, e⟩ | ⟨b, off, cap, ev, hc, hm, hx⟩
   ·rw [e] at hlt; simp at hlt
   cases ev
   obtain ⟨d1, d2⟩ := hx k hlt
   have ok := HO.out _ (at_mem hlt)
   unfold okR at ok
   have nt := NT.out k hlt
   have nl := NL.out k
   obtain ⟨r, hr⟩ : ∃ r, at_ s k = r := ⟨_, rfl⟩
   rw [hr] at d1 d2 ok nt nl
   obtain ⟨lo, hi'⟩ := r
   simp only at d1 d2 ok nl
   have NTH := Hd nt
   have NLH := Hd (fun m => nl m hlt)
   have HLT := Hd hlt
   obtain ⟨L, hL⟩ : ∃ z, nums (s.take k) = z := ⟨_, rfl⟩
   rw [hL] at O NTH NLH ⊢
   have z1 : (k : Int) < (s.length : Int) := by omega
   have z2 : (0 : Int) ≤ (k : Int) := by omega
   obtain ⟨ok1, ok2, ok3⟩ := ok
   have hmx : 0 ≤ hi' - lo + 1 := by omega
   have RN := Hd (show runF (lo, hi') = upF lo (hi' - lo + 1).toNat from rfl)
   have OB := Hd (fun j (hj : (Value.slice oad L.length oc).ownBlock = some j) => show j ≠ wo.heap.size by have := (O.out.lt j hj).2; omega)
   have bsz : b < wo.heap.size := World.block_lt_of_cell? _ _ d1
   have bsn : ¬ b = wo.heap.size := by omega
   have O1 := Hd (own_kp O.out (Kp.alloc wo (.cells #[.int .i64 lo, .int .i64 hi'] 42)))
   have K2 := Hd (K1.out.trans (Kp.alloc wo (.cells #[.int .i64 lo, .int .i64 hi'] 42)))
   obtain ⟨W1, hW⟩ : ∃ x, x = wo.alloc (.cells #[.int .i64 lo, .int .i64 hi'] 42) := ⟨_, rfl⟩
   have gB : W1.heap[wo.heap.size]? = some (.cells #[.int .i64 lo, .int .i64 hi'] 42 (0, 0)) := by rw [hW]; exact heap_at _ _ _ rfl
   rw [← hW] at O1 K2
   have c0 := (row2 gB).1
   have c1 := (row2 gB).2
   have LB : wo.heap.size < W1.heap.size := (Array.getElem?_eq_some_iff.1 gB).1
   have HW := Hd hW
   clear hx hr hc hm nt nl hL hW gB O hlt
   go_upto_region 5 with fail
   rw [← HW.out]
   go_wp2
   go_loopw [3, 6] (fun u n ws => ∃ m : Nat, (m : Int) ≤ hi' - lo + 1 ∧ n = .int .i64 (lo + m) ∧ Hid (ws.ownsRow w.heap.size 3 1 u (L ++ upF lo m).length (cellsZ (L ++ upF lo m))) ∧ Hid (Kp w ws) ∧ Hid (∀ j, u.ownBlock = some j → j ≠ wo.heap.size) ∧ Hid (ws.cell? ⟨wo.heap.size, 0, none⟩ = some (.int .i64 lo) ∧ ws.cell? ⟨wo.heap.size, 1, none⟩ = some (.int .i64 hi') ∧ wo.heap.size < ws.heap.size)) (fun _ n _ => (hi' - intOf n + 1).toNat)
   case atStart => exact ⟨0, by omega, by go_num, Hd (by simpa [upF] using O1.out), K2, OB, Hd ⟨c0, c1, LB⟩⟩
   case round =>
    obtain ⟨m, hm, rfl, O3, K3, B3, C3⟩ := hrel
    obtain ⟨oad3, oc3, rfl⟩ := own_sliceZ O3.out
    obtain ⟨e0, e1, e2⟩ := C3.out
    clear c0 c1
    have nlm := NLH.out m (by omega)
    by_cases hle : lo + (m : Int) ≤ hi'
    ·have q1 : decide (lo + (m : Int) ≤ hi') = true := decide_eq_true hle
     have ns := Below.size K3.out
     have wn : IntKind.i64.wrap (lo + (m : Int) + 1) = lo + (m : Int) + 1 := by rw [IntKind.wrap_i64]; omega
     have UP := Hd (upF_succ lo m)
     obtain ⟨q, hq⟩ : ∃ z, L ++ upF lo m = z := ⟨_, rfl⟩
     have UQ := Hd (show L ++ upF lo (m + 1) = q ++ [lo + (m : Int)] by rw [UP.out, ← hq, List.append_assoc])
     rw [hq] at O3 nlm B3 ⊢
     clear hq UP
     go_wp2_with (at_builtin; refine wpList_app rfl (.tmp 21) (.tmp 23) 117 rfl w.heap.size 3 i0 (.int .i64 0) 1 8 Tryz.underlying117 hi hz0 hz1 hz2 rfl (by decide) _ _ _ rfl (own_kp O3.out (Kp.alloc _ _)) _ _ _ rfl (one_srcZ _ _ _) rfl (by intro u hu; simp at hu; subst hu; rfl) (by unfold maxLen; omega) (by omega) (by simp; omega) ?_; intro v1 w1 hown1 hgrow1 hat1)
     go_roundw
     case rel =>
      have hs1 : wo.heap.size < (wr.alloc (.cells #[.int .i64 (lo + (m : Int))] 3)).heap.size := by simp; omega
      exact ⟨m + 1, by omega, by go_num, Hd (by rw [UQ.out]; exact own_snocZ hown1), Hd (Kp.grown (K3.out.trans (Kp.alloc _ _)) hgrow1 (fun j hj => (O3.out.lt j hj).1)), Hd (at_apart B3.out (by simp; omega) hat1),
       Hd ⟨(grown_cell hgrow1 hs1 (fun j hj => B3.out j hj)).trans ((Below.cell (p := ⟨wo.heap.size, 0, none⟩) (Kp.alloc _ _) e2).trans e0), (grown_cell hgrow1 hs1 (fun j hj => B3.out j hj)).trans ((Below.cell (p := ⟨wo.heap.size, 1, none⟩) (Kp.alloc _ _) e2).trans e1), by have := hgrow1.size; simp at this; omega⟩⟩
     case measure => simp [intOf]; omega
    ·have q1 : decide (lo + (m : Int) ≤ hi') = false := decide_eq_false hle
     have em : m = (hi' - lo + 1).toNat := by omega
     have OO := O3.out
     rw [em, ← RN.out, ← NTH.out] at OO
     have OF := Hd OO
     have len : (L ++ upF lo m).length = (nums (s.take (k + 1))).length := by rw [em, ← RN.out, NTH.out]
     rw [len]
     clear OO
     go_wp2
     go_roundw
     case rel => exact ⟨k + 1, by have := HLT.out; omega, by go_num, OF, K3⟩
     case measure => have := HLT.out; simp [intOf]; omega
  ·have q : decide ((k : Int) < s.length) = false := by simp; omega
   have ek : k = s.length := by omega
   subst ek
   rw [NE.out] at O ⊢
   go_wp2
   go_ret
   exact ⟨_, rfl, O.out, K1.out⟩
def OwnP (w : World) (base : Nat) (v : Value) (l : List R) : Prop := w.ownsRow base 31 2 v l.length (cellsR l)
theorem OwnP.runs {w : World} {base : Nat} {v : Value} {l : List R} (h : OwnP w base v l) : RunsAt w v l := runsAt_own h
theorem OwnP.slice {w : World} {base : Nat} {v : Value} {l : List R} (h : OwnP w base v l) : ∃ ad c, v = .slice ad l.length c := h.runs.slice
theorem sgl_take {l : List Int} {k : Nat} (h : k < l.length) : (l.take (k + 1)).map (fun x => (x, x)) = (l.take k).map (fun x => (x, x)) ++ [(l.getD k 0, l.getD k 0)] := by
 rw [List.take_succ_eq_append_getElem h, List.map_append]
 simp [List.getD, h]
def zipR (a b : List Int) : List R := a.zip b
theorem zip_take {a b : List Int} {k : Nat} (h : k < a.length) (h2 : k < b.length) : zipR (a.take (k + 1)) (b.take (k + 1)) = zipR (a.take k) (b.take k) ++ [(a.getD k 0, b.getD k 0)] := by
 unfold zipR
 rw [List.take_succ_eq_append_getElem h, List.take_succ_eq_append_getElem h2, List.zip_append (by simp; omega)]
 simp [List.getD, h, h2]
theorem zip_all : ∀ (l r : List Int), l.length ≤ r.length → zipR l (r.take l.length) = zipR l r
 | [], _, _ => rfl
 | x :: l, [], h => by simp at h
 | x :: l, y :: r, h => by
  have := zip_all l r (by simpa using h)
  unfold zipR at this ⊢
  rw [List.length_cons, List.take_succ_cons, List.zip_cons_cons, List.zip_cons_cons, this]
theorem zip_len (a b : List Int) (k : Nat) (h : k ≤ a.length) (h2 : k ≤ b.length) : (zipR (a.take k) (b.take k)).length = k := by
 unfold zipR; simp; omega
theorem singleDays_any (v : Value) (l : List Int) (w : World) (hv : IntsAt w v l) (hn : l.length ≤ 1000000) :
  Calls Tryz.prog 117 #[v] w fun e w' => ∃ v' : Value, e = .returned v' ∧ OwnP w' w.heap.size v' (l.map fun x => (x, x)) ∧ Kp w w' := by
 obtain ⟨i0, hi, hz0, hz1, hz2⟩ := info_parts infoPr
 obtain ⟨ad, c, rfl⟩ := hv.slice
 have HV := Hd hv
 have NE := Hd (show (l.take l.length).map (fun x => (x, x)) = l.map (fun x => (x, x)) by rw [List.take_length])
 have HN := Hd hn
 have NT := Hd (fun k (h : k < l.length) => sgl_take h)
 clear hv hn
 go_enter Tryz.func117, Tryz.ntmps117
 go_wp2
 go_loopw [3, 8] (fun u i wr => ∃ k : Nat, k ≤ l.length ∧ i = .int .i64 k ∧ Hid (OwnP wr w.heap.size u ((l.take k).map fun x => (x, x))) ∧ Hid (Kp w wr)) (fun _ i _ => l.length - (intOf i).toNat)
 case atStart => exact ⟨0, Nat.zero_le _, rfl, Hd (World.ownsRow_nil _ _ _ _), Hd (Kp.refl _)⟩
 case round =>
  obtain ⟨k, hk, rfl, O, K1⟩ := hrel
  obtain ⟨oad, oc, rfl⟩ := O.out.slice
  by_cases hlt : k < l.length
  ·have q1 : decide ((k : Int) < (l.length : Int)) = true := by simp; omega
   rcases HV.out.kp K1.out with ⟨_, _, _, e⟩ | ⟨b, off, cap, ev, hc, hm, hx⟩
   ·rw [e] at hlt; simp at hlt
   cases ev
   have d1 := hx k hlt
   have nt := NT.out k hlt
   have z2 : (0 : Int) ≤ (k : Int) := by omega
   have kb : k ≤ 1000000 := by have := HN.out; omega
   have hln : ((l.take k).map fun x => (x, x)).length ≤ 1000000 := by have := HN.out; simp; omega
   have NTH := Hd nt
   have HLT := Hd hlt
   have sz := K1.out.size
   obtain ⟨x, hx0⟩ : ∃ x, l.getD k 0 = x := ⟨_, rfl⟩
   rw [hx0] at d1 NTH
   obtain ⟨q, hq⟩ : ∃ z, (l.take k).map (fun x => (x, x)) = z := ⟨_, rfl⟩
   rw [hq] at O NTH hln ⊢
   clear hx nt hx0 hq hc hm
   go_wp2_with (at_builtin; refine wpList_app rfl (.tmp 12) (.tmp 16) 77 rfl w.heap.size 31 i0 (.agg #[.int .i64 0, .int .i64 0]) 2 16 Tryz.underlying77 hi hz0 hz1 hz2 rfl (by decide) _ _ _ rfl (own_kp O.out (Kp.alloc _ _)) _ _ _ rfl (one_src _ _ _ _) rfl (by intro z hz; simp at hz; first | (subst hz; rfl) | (rcases hz with hz | hz <;> subst hz <;> rfl)) (by unfold maxLen; omega) (by omega) (by simp; omega) ?_; intro v1 w1 hown1 hgrow1 hat1)
   go_roundw
   case rel => exact ⟨k + 1, by have := HLT.out; omega, by go_num, Hd (by rw [NTH.out]; exact own_snoc hown1), Hd (Kp.grown (K1.out.trans (Kp.alloc _ _)) hgrow1 (fun j hj => (O.out.lt j hj).1))⟩
   case measure => have := HLT.out; simp [intOf]; omega
  ·have q : decide ((k : Int) < l.length) = false := by simp; omega
   have ek : k = l.length := by omega
   subst ek
   rw [NE.out] at O ⊢
   go_wp2
   go_ret
   exact ⟨_, rfl, O.out, K1.out⟩
def inP (s : Int) (b : List Int) : List R := (b.filter fun t => decide (s ≤ t)).map fun t => (s, t)
def pairsL (a b : List Int) : List R := a.flatMap fun s => inP s b
theorem pairs_take {a : List Int} {k : Nat} (b : List Int) (h : k < a.length) : pairsL (a.take (k + 1)) b = pairsL (a.take k) b ++ inP (a.getD k 0) b := by
 unfold pairsL
 rw [List.take_succ_eq_append_getElem h, List.flatMap_append]
 simp [List.getD, h]
theorem in_take {b : List Int} {m : Nat} (s : Int) (h : m < b.length) : inP s (b.take (m + 1)) = inP s (b.take m) ++ (if decide (s ≤ b.getD m 0) = true then [(s, b.getD m 0)] else []) := by
 unfold inP
 rw [List.take_succ_eq_append_getElem h, List.filter_append, List.map_append]
 have e : b.getD m 0 = b[m] := by simp [List.getD, h]
 rw [e]
 congr 1
 by_cases q : s ≤ b[m] <;> simp [q]
theorem in_len (s : Int) (b : List Int) : (inP s b).length ≤ b.length := by
 unfold inP
 rw [List.length_map]
 exact List.length_filter_le _ _
theorem pairs_len : ∀ (a b : List Int), (pairsL a b).length ≤ a.length * b.length
 | [], _ => by simp [pairsL]
 | s :: a, b => by
  have := pairs_len a b
  have := in_len s b
  have e : (pairsL (s :: a) b).length = (inP s b).length + (pairsL a b).length := by unfold pairsL; rw [List.flatMap_cons, List.length_append]
  rw [e, List.length_cons, Nat.add_mul]
  omega
theorem pairs_bd {a b : List Int} (ha : a.length ≤ 1000) (hb : b.length ≤ 1000) (s : Int) (k m : Nat) : (pairsL (a.take k) b ++ inP s (b.take m)).length ≤ 1001000 := by
 have h1 := pairs_len (a.take k) b
 have h2 := in_len s (b.take m)
 have h3 : (a.take k).length * b.length ≤ 1000 * 1000 := Nat.mul_le_mul (by rw [List.length_take]; omega) hb
 rw [List.length_append]
 rw [List.length_take] at h2
 omega
theorem pairsOf_any (v u : Value) (l r : List Int) (w : World) (hv : IntsAt w v l) (hu : IntsAt w u r) (hn : l.length ≤ 1000) (hm : r.length ≤ 1000) :
  Calls Tryz.prog 118 #[v, u] w fun e w' => ∃ v' : Value, e = .returned v' ∧ OwnP w' w.heap.size v' (pairsL l r) ∧ Kp w w' := by
 obtain ⟨i0, hi, hz0, hz1, hz2⟩ := info_parts infoPr
 obtain ⟨ad, c, rfl⟩ := hv.slice
 obtain ⟨ad', c', rfl⟩ := hu.slice
 have HV := Hd hv
 have HU := Hd hu
 have NE := Hd (show pairsL (l.take l.length) r = pairsL l r by rw [List.take_length])
 have ME := Hd (fun s => show inP s (r.take r.length) = inP s r by rw [List.take_length])
 have HN := Hd hn
 have HM := Hd hm
 have BD := Hd (fun s k m => pairs_bd hn hm s k m)
 have NT := Hd (fun k (h : k < l.length) => pairs_take r h)
 have MT := Hd (fun s k (h : k < r.length) => in_take s h)
 clear hv hn hu hm
 go_enter Tryz.func118, Tryz.ntmps118
 go_wp2
 go_loopw [5, 12] (fun u i wr => ∃ k : Nat, k ≤ l.length ∧ i = .int .i64 k ∧ Hid (OwnP wr w.heap.size u (pairsL (l.take k) r)) ∧ Hid (Kp w wr)) (fun _ i _ => l.length - (intOf i).toNat)
 case atStart => exact ⟨0, Nat.zero_le _, rfl, Hd (World.ownsRow_nil _ _ _ _), Hd (Kp.refl _)⟩
 case round =>
  obtain ⟨k, hk, rfl, O, K1⟩ := hrel
  obtain ⟨wo, hwo⟩ : ∃ x, x = wr := ⟨_, rfl⟩
  subst hwo
  obtain ⟨oad, oc, rfl⟩ := O.out.slice
  by_cases hlt : k < l.length
  ·have q1 : decide ((k : Int) < (l.length : Int)) = true := by simp; omega
   rcases HV.out.kp K1.out with ⟨_, _, _, e⟩ | ⟨b, off, cap, ev, hc, hm, hx⟩
   ·rw [e] at hlt; simp at hlt
   cases ev
   have d1 := hx k hlt
   have nt := NT.out k hlt
   have z2 : (0 : Int) ≤ (k : Int) := by omega
   have NTH := Hd nt
   have HLT := Hd hlt
   obtain ⟨s, hx0⟩ : ∃ x, l.getD k 0 = x := ⟨_, rfl⟩
   rw [hx0] at d1 NTH
   have bd := Hd (fun m => BD.out s k m)
   have kb : k ≤ 1000 := by have := HN.out; omega
   obtain ⟨q, hq⟩ : ∃ z, pairsL (l.take k) r = z := ⟨_, rfl⟩
   rw [hq] at O NTH bd ⊢
   clear hx nt hx0 hq hc hm
   go_wp2
   go_loopw [5, 18] (fun u n ws => ∃ m : Nat, m ≤ r.length ∧ n = .int .i64 m ∧ Hid (OwnP ws w.heap.size u (q ++ inP s (r.take m))) ∧ Hid (Kp w ws)) (fun _ n _ => r.length - (intOf n).toNat)
   case atStart => exact ⟨0, Nat.zero_le _, rfl, Hd (by simpa [inP] using O.out), K1⟩
   case round =>
    obtain ⟨m, hmm, rfl, O3, K3⟩ := hrel
    obtain ⟨oad3, oc3, rfl⟩ := O3.out.slice
    by_cases hle : m < r.length
    ·have q2 : decide ((m : Int) < (r.length : Int)) = true := by simp; omega
     rcases HU.out.kp K3.out with ⟨_, _, _, e⟩ | ⟨b2, off2, cap2, ev, hc, hm, hx⟩
     ·rw [e] at hle; simp at hle
     cases ev
     have d2 := hx m hle
     have nt := MT.out s m hle
     have z3 : (0 : Int) ≤ (m : Int) := by omega
     have NSH := Hd nt
     have HLE := Hd hle
     obtain ⟨t, hx0⟩ : ∃ x, r.getD m 0 = x := ⟨_, rfl⟩
     rw [hx0] at d2 NSH
     have hln := bd.out m
     have mb : m ≤ 1000 := by have := HM.out; omega
     have sz := K3.out.size
     obtain ⟨p, hp⟩ : ∃ z, q ++ inP s (r.take m) = z := ⟨_, rfl⟩
     have UQ := Hd (show q ++ inP s (r.take (m + 1)) = p ++ (if decide (s ≤ t) = true then [(s, t)] else []) by rw [NSH.out, ← hp, List.append_assoc])
     rw [hp] at O3 hln ⊢
     clear hx nt hx0 hp hc hm NSH
     cases qd : decide (s ≤ t)
     ·go_wp2
      go_roundw
      case rel => exact ⟨m + 1, by have := HLE.out; omega, by go_num, Hd (by rw [UQ.out, qd]; simpa using O3.out), K3⟩
      case measure => have := HLE.out; simp [intOf]; omega
     ·go_wp2_with (at_builtin; refine wpList_app rfl (.tmp 25) (.tmp 29) 77 rfl w.heap.size 31 i0 (.agg #[.int .i64 0, .int .i64 0]) 2 16 Tryz.underlying77 hi hz0 hz1 hz2 rfl (by decide) _ _ _ rfl (own_kp O3.out (Kp.alloc _ _)) _ _ _ rfl (one_src _ _ _ _) rfl (by intro z hz; simp at hz; first | (subst hz; rfl) | (rcases hz with hz | hz <;> subst hz <;> rfl)) (by unfold maxLen; omega) (by omega) (by simp; omega) ?_; intro v1 w1 hown1 hgrow1 hat1)
      go_roundw
      case rel => exact ⟨m + 1, by have := HLE.out; omega, by go_num, Hd (by rw [UQ.out, qd, if_pos rfl]; exact own_snoc hown1), Hd (Kp.grown (K3.out.trans (Kp.alloc _ _)) hgrow1 (fun j hj => (O3.out.lt j hj).1))⟩
      case measure => have := HLE.out; simp [intOf]; omega
    ·have q2 : decide ((m : Int) < r.length) = false := by simp; omega
     have em : m = r.length := by omega
     subst em
     rw [ME.out s, ← NTH.out] at O3 ⊢
     go_wp2
     go_roundw
     case rel => exact ⟨k + 1, by have := HLT.out; omega, by go_num, O3, K3⟩
     case measure => have := HLT.out; simp [intOf]; omega
  ·have q : decide ((k : Int) < l.length) = false := by simp; omega
   have ek : k = l.length := by omega
   subst ek
   rw [NE.out] at O ⊢
   go_wp2
   go_ret
   exact ⟨_, rfl, O.out, K1.out⟩
theorem rtogether_any (v u : Value) (s t : List R) (w : World) (hv : RunsAt w v s) (hu : RunsAt w u t) (hs : sane s) (ht : sane t) (hn : s.length ≤ 100000) (hm : t.length ≤ 100000) (hc : (nums s).length ≤ 1000000) (hd : (nums t).length ≤ 1000000) (hl : (nums s).length ≤ (nums t).length) :
  Calls Tryz.prog 52 #[v, u] w fun e w' => ∃ v' : Value, e = .returned v' ∧ OwnP w' w.heap.size v' (zipR (nums s) (nums t)) ∧ Kp w w' := by
 obtain ⟨i0, hi, hz0, hz1, hz2⟩ := info_parts infoPr
 have C1 := Hd (numbers_any v s w hv hs hn hc)
 have C2 := Hd (fun w1 (k : Kp w w1) => numbers_any u t w1 (hu.kp k) ht hm hd)
 clear hv hu hs ht hn hm
 obtain ⟨l, hl0⟩ : ∃ l, nums s = l := ⟨_, rfl⟩
 obtain ⟨r, hr0⟩ : ∃ r, nums t = r := ⟨_, rfl⟩
 rw [hl0] at C1 hc hl ⊢
 rw [hr0] at C2 hd hl ⊢
 have HL := Hd hl
 have HC := Hd hc
 have NE := Hd (show zipR (l.take l.length) (r.take l.length) = zipR l r by rw [List.take_length]; exact zip_all l r hl)
 have ZT := Hd (fun k (h : k < l.length) => zip_take h (show k < r.length by omega))
 have ZL := Hd (fun k (h : k ≤ l.length) => zip_len l r k h (by omega))
 clear hl0 hr0 hl hc hd
 go_enter Tryz.func52, Tryz.ntmps52
 go_wp2_with fail
 refine (C1.out).mono ?_
 rintro e w1 ⟨v1, rfl, o1, k1⟩
 have O1 := Hd (intsAt_ownZ o1)
 have K1 := Hd k1
 obtain ⟨a1, b1, rfl⟩ := (intsAt_ownZ o1).slice
 clear o1 k1
 go_wp2_with fail
 refine (C2.out _ K1.out).mono ?_
 rintro e w2 ⟨v2, rfl, o2, k2⟩
 have O2 := Hd (intsAt_ownZ o2)
 have K2 := Hd k2
 obtain ⟨a2, b2, rfl⟩ := (intsAt_ownZ o2).slice
 clear o2 k2
 go_wp2
 go_loopw [5, 16] (fun u i wr => ∃ k : Nat, k ≤ l.length ∧ i = .int .i64 k ∧ Hid (OwnP wr w2.heap.size u (zipR (l.take k) (r.take k))) ∧ Hid (Kp w2 wr)) (fun _ i _ => l.length - (intOf i).toNat)
 case atStart => exact ⟨0, Nat.zero_le _, rfl, Hd (World.ownsRow_nil _ _ _ _), Hd (Kp.refl _)⟩
 case round =>
  obtain ⟨k, hk, rfl, O, K3⟩ := hrel
  obtain ⟨oad, oc, rfl⟩ := O.out.slice
  by_cases hlt : k < l.length
  ·have q1 : decide ((k : Int) < (l.length : Int)) = true := by simp; omega
   have hlt2 : k < r.length := by have := HL.out; omega
   rcases O1.out.kp (K2.out.trans K3.out) with ⟨_, _, _, e⟩ | ⟨b, off, cap, ev, hc, hm, hx⟩
   ·rw [e] at hlt; simp at hlt
   cases ev
   rcases O2.out.kp K3.out with ⟨_, _, _, e⟩ | ⟨b', off', cap', ev, hc', hm', hx'⟩
   ·rw [e] at hlt2; simp at hlt2
   cases ev
   have d1 := hx k hlt
   have d2 := hx' k hlt2
   have NTH := Hd (ZT.out k hlt)
   have z2 : (0 : Int) ≤ (k : Int) := by omega
   have z3 : (k : Int) < (r.length : Int) := by omega
   have kb : k ≤ 1000000 := by have := HC.out; omega
   have hln : (zipR (l.take k) (r.take k)).length ≤ 1000000 := by have := ZL.out k hk; omega
   have HLT := Hd hlt
   have K4 := Hd ((K1.out.trans K2.out).trans K3.out)
   have sz := K3.out.size
   obtain ⟨x, hx0⟩ : ∃ x, l.getD k 0 = x := ⟨_, rfl⟩
   obtain ⟨y, hy0⟩ : ∃ y, r.getD k 0 = y := ⟨_, rfl⟩
   rw [hx0] at d1 NTH
   rw [hy0] at d2 NTH
   obtain ⟨q, hq⟩ : ∃ z, zipR (l.take k) (r.take k) = z := ⟨_, rfl⟩
   rw [hq] at O NTH hln ⊢
   clear hx hx' hx0 hy0 hq hc hm hc' hm' hlt2
   go_wp2_with (at_builtin; refine wpList_app rfl (.tmp 21) (.tmp 28) 77 rfl w2.heap.size 31 i0 (.agg #[.int .i64 0, .int .i64 0]) 2 16 Tryz.underlying77 hi hz0 hz1 hz2 rfl (by decide) _ _ _ rfl (own_kp O.out (Kp.alloc _ _)) _ _ _ rfl (one_src _ _ _ _) rfl (by intro z hz; simp at hz; first | (subst hz; rfl) | (rcases hz with hz | hz <;> subst hz <;> rfl)) (by unfold maxLen; omega) (by omega) (by simp; omega) ?_; intro v1 w1 hown1 hgrow1 hat1)
   go_roundw
   case rel => exact ⟨k + 1, by have := HLT.out; omega, by go_num, Hd (by rw [NTH.out]; exact own_snoc hown1), Hd (Kp.grown (K3.out.trans (Kp.alloc _ _)) hgrow1 (fun j hj => (O.out.lt j hj).1))⟩
   case measure => have := HLT.out; simp [intOf]; omega
  ·have q : decide ((k : Int) < l.length) = false := by simp; omega
   have ek : k = l.length := by omega
   subst ek
   rw [NE.out] at O ⊢
   go_wp2
   go_ret
   exact ⟨_, rfl, own_mono O.out (K1.out.trans K2.out).size, (K1.out.trans K2.out).trans K3.out⟩
end Go.Proofs.YtcooaoponkkpeaaGreatDoor
