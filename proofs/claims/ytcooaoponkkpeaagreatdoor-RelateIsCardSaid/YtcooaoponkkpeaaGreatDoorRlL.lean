import Derived.Test.YtcooaoponkkpeaaGreatDoorJI2
import Derived.Test.YtcooaoponkkpeaaGreatDoorGLeafA
import Derived.LoopTactic
set_option maxHeartbeats 16000000
set_option maxRecDepth 100000
namespace Go.Proofs.YtcooaoponkkpeaaGreatDoor
open Go.RowKit Go.Shelf
set_option linter.unusedVariables false
set_option linter.unusedSimpArgs false
def askP (Q : Int → Int → Prop) (r : Nat) (p : R) : Prop := ∃ S T, Q S T ∧ inBx (wayB r p.1 p.2) S T
theorem ask_take {Q : Int → Int → Prop} {L : List R} {k r : Nat} (h : k < L.length) : (∃ p ∈ L.take (k + 1), askP Q r p) ↔ (∃ p ∈ L.take k, askP Q r p) ∨ askP Q r (at_ L k) := by
 rw [List.take_succ_eq_append_getElem h]
 have e : L[k] = at_ L k := by simp [at_, List.getD, h]
 rw [e]
 constructor
 ·rintro ⟨p, hp, q⟩
  rcases List.mem_append.1 hp with hp | hp
  ·exact .inl ⟨p, hp, q⟩
  ·rw [List.mem_singleton.1 hp] at q; exact .inr q
 ·rintro (⟨p, hp, q⟩ | q)
  ·exact ⟨p, List.mem_append.2 (.inl hp), q⟩
  ·exact ⟨_, List.mem_append.2 (.inr (by simp)), q⟩
theorem ask_step {Q : Int → Int → Prop} {m0 m j : Nat} {p : R} (hj : j ≤ 12) (h : ∀ r, r ≤ 12 → (m.testBit r = true ↔ m0.testBit r = true ∨ (r < j ∧ askP Q r p))) {b : Bool} (hb : m.testBit j = true ∨ (b = true ↔ askP Q j p)) :
  ∀ r, r ≤ 12 → ((if m.testBit j = false ∧ b = true then m ||| 2 ^ j else m).testBit r = true ↔ m0.testBit r = true ∨ (r < j + 1 ∧ askP Q r p)) := by
 intro r hr
 by_cases c : m.testBit j = false ∧ b = true
 ·rw [if_pos c, ak_bit, h r hr]
  have hq : askP Q j p := (hb.resolve_left (by rw [c.1]; simp)).1 c.2
  constructor
  ·rintro ((g | g) | rfl)
   ·exact .inl g
   ·exact .inr ⟨by omega, g.2⟩
   ·exact .inr ⟨by omega, hq⟩
  ·rintro (g | ⟨g, q⟩)
   ·exact .inl (.inl g)
   ·by_cases e : r = j
    ·exact .inr e
    ·exact .inl (.inr ⟨by omega, q⟩)
 ·rw [if_neg c, h r hr]
  constructor
  ·rintro (g | g)
   ·exact .inl g
   ·exact .inr ⟨by omega, g.2⟩
  ·rintro (g | ⟨g, q⟩)
   ·exact .inl g
   ·by_cases e : r = j
    ·subst e
     cases hm : m.testBit r with
     | true => exact (h r hr).1 hm
     | false =>
      have := hb.resolve_left (by rw [hm]; simp)
      exact absurd ⟨hm, this.2 q⟩ c
    ·exact .inr ⟨by omega, q⟩
def askT (q : Bool) (P : Prop) : Prop := q = true ↔ P
theorem ask_lt {m j : Nat} (hm : m < 8192) (hj : j ≤ 12) : m ||| 2 ^ j < 8192 := Nat.or_lt_two_pow (n := 13) hm (ak_lt hj)
theorem way_ok {k : Nat} {S T : Int} (h1 : 0 ≤ S) (h2 : S ≤ 4000000) (h3 : 0 ≤ T) (h4 : T ≤ 4000000) : bxOk (wayB k S T) := by
 unfold wayB bxOk i64x
 split <;> simp only <;> omega
abbrev asA0 : Oper := ⟨some 28, .move (.tmp 2), 3, "relate.go:67", #[], none⟩
abbrev asA1 : Oper := ⟨some 29, .move (.tmp 10), 3, "relate.go:67", #[], none⟩
abbrev asA2 : Oper := ⟨some 30, .binOp .shl 3 (.const (.int .i64 1)) (.tmp 29) 3, 3, "relate.go:67", #[⟨1, .data⟩], none⟩
abbrev asA3 : Oper := ⟨some 31, .binOp .and 3 (.tmp 28) (.tmp 30) 3, 3, "relate.go:67", #[⟨0, .data⟩, ⟨2, .data⟩], none⟩
abbrev asA4 : Oper := ⟨some 32, .binOp .eql 3 (.tmp 31) (.const (.int .i64 0)) 3, 4, "relate.go:67", #[⟨3, .data⟩], none⟩
abbrev asA5 : Oper := ⟨some 33, .move (.tmp 32), 4, "relate.go:67", #[⟨4, .data⟩], none⟩
abbrev asA6 : Oper := ⟨some 34, .move (.tmp 1), 126, "relate.go:67", #[⟨5, .guard⟩], some (5, true)⟩
abbrev asA7 : Oper := ⟨some 35, .move (.tmp 11), 129, "relate.go:67", #[⟨5, .guard⟩], some (5, true)⟩
abbrev asA8 : Oper := ⟨some 36, .load 31 (.tmp 9), 31, "relate.go:67", #[⟨5, .guard⟩], some (5, true)⟩
abbrev asA9 : Oper := ⟨some 37, .call ⟨.value (.tmp 35), #[.tmp 36], #[133]⟩, 132, "relate.go:67", #[⟨7, .data⟩, ⟨8, .data⟩, ⟨5, .chain⟩, ⟨5, .guard⟩], some (5, true)⟩
abbrev asA10 : Oper := { dst := some 38, op := Go.Op.makeFunc (Go.Fn.method "lustrum/relate.within") #[Go.Operand.tmp 34] #[], type := 130, pos := "relate.go:67", after := #[{ on := 6, ground := Go.Ground.data }, { on := 5, ground := Go.Ground.guard }], guard := some (5, true) }
abbrev asA11 : Oper := ⟨some 39, .nilCheck (.tmp 38), 130, "relate.go:67", #[⟨10, .data⟩, ⟨5, .guard⟩], some (5, true)⟩
abbrev asA12 : Oper := ⟨some 40, .move (.tmp 34), 126, "relate.go:67", #[⟨6, .data⟩, ⟨5, .guard⟩, ⟨10, .data⟩, ⟨11, .data⟩], some (5, true)⟩
abbrev asA13 : Oper := ⟨some 41, .call ⟨.invoke (.tmp 40) "lustrum/relate.within", #[.tmp 37], #[132]⟩, 4, "relate.go:67", #[⟨12, .data⟩, ⟨9, .data⟩, ⟨9, .chain⟩, ⟨5, .guard⟩], some (5, true)⟩
abbrev asA14 : Oper := ⟨some 42, .pick (.tmp 33) (.tmp 41) (.const (.bool false)), 4, "relate.go:67", #[⟨5, .data⟩, ⟨13, .data⟩], none⟩
theorem ask_loose (Q : Int → Int → Prop) (pv v : Value) (L : List R) (m : Nat) (w : World) (hv : RunsAt w v L) (hm : m < 8192) (hn : L.length ≤ 1000000) (hb : ∀ r ∈ L, 0 ≤ r.1 ∧ r.1 ≤ 4000000 ∧ 0 ≤ r.2 ∧ r.2 ≤ 4000000)
  (hw : ∀ b w1, Kp w w1 → bxOk b → Calls Tryz.prog 260 #[pv, bxV b] w1 fun e w' => ∃ q : Bool, e = .returned (.bool q) ∧ (q = true ↔ ∃ S T, Q S T ∧ inBx b S T) ∧ Kp w1 w') :
  Calls Tryz.prog 58 #[v, .iface 80 pv, .int .i64 m] w fun e w' => ∃ m' : Nat, e = .returned (.int .i64 m') ∧ m' < 8192 ∧ (∀ r, r ≤ 12 → (m'.testBit r = true ↔ m.testBit r = true ∨ ∃ p ∈ L, askP Q r p)) ∧ Kp w w' := by
 have NA : ∀ (f : Nat) (w : World), Sem.run Tryz.prog (nilAhead (f + 1) 80 pv "lustrum/relate.within") w = .ok (some false) w := fun f w => by kernel_rfl
 obtain ⟨ad, c, rfl⟩ := hv.slice
 have HV := Hd hv
 have HB := Hd hb
 have HN := Hd hn
 have HWI := Hd hw
 have HM := Hd hm
 clear hv hb hn hw hm
 go_enter Tryz.func58, Tryz.ntmps58
 go_wp2_with fail
 refine (boxesB_any w).mono ?_
 rintro e w1 ⟨vx, rfl, bx, k1⟩
 have BX := Hd bx
 obtain ⟨bb, rfl, -, -⟩ := bx
 have K1 := Hd k1
 clear k1
 go_wp2
 go_loopw [2, 15] (fun u i wr => ∃ k mk : Nat, k ≤ L.length ∧ u = .int .i64 mk ∧ i = .int .i64 k ∧ Hid (mk < 8192) ∧ Hid (∀ r, r ≤ 12 → (mk.testBit r = true ↔ m.testBit r = true ∨ ∃ p ∈ L.take k, askP Q r p)) ∧ Hid (Kp w1 wr)) (fun _ i _ => L.length - (intOf i).toNat)
 case atStart => exact ⟨0, m, Nat.zero_le _, rfl, rfl, HM, Hd (fun r hr => by simp), Hd (Kp.refl _)⟩
 case round =>
  obtain ⟨k, mk, hk, rfl, rfl, MK, BK, K2⟩ := hrel
  obtain ⟨wo, hwo⟩ : ∃ x, x = wr := ⟨_, rfl⟩
  subst hwo
  have kb : k ≤ 1000000 := by have := HN.out; omega
  by_cases hlt : k < L.length
  ·have q1 : decide ((k : Int) < (L.length : Int)) = true := dT
   have q1n : decide (k < L.length) = true := decide_eq_true hlt
   rcases HV.out.kp (K1.out.trans K2.out) with ⟨_, _, _, e⟩ | ⟨b, off, cap, ev, hc, hmx, hx⟩
   ·rw [e] at hlt; simp at hlt
   cases ev
   obtain ⟨d1, d2⟩ := hx k hlt
   obtain ⟨l1, l2, l3, l4⟩ := HB.out _ (at_mem hlt)
   have AT := Hd (fun r => ask_take (Q := Q) (r := r) hlt)
   have z2 : (0 : Int) ≤ (k : Int) := by omega
   have HLT := Hd hlt
   obtain ⟨p, hp⟩ : ∃ p, at_ L k = p := ⟨_, rfl⟩
   rw [hp] at d1 d2 l1 l2 l3 l4 AT
   obtain ⟨S, T⟩ := p
   simp only at d1 d2 l1 l2 l3 l4
   clear hx hp hc hmx hlt
   obtain ⟨W1, hW⟩ : ∃ x, x = wo.alloc (.cells #[.int .i64 S, .int .i64 T] 31) := ⟨_, rfl⟩
   have gB : W1.heap[wo.heap.size]? = some (.cells #[.int .i64 S, .int .i64 T] 31 (0, 0)) := by rw [hW]; exact heap_at _ _ _ rfl
   have KW := Hd (show Kp wo W1 by rw [hW]; exact Kp.alloc _ _)
   have HW := Hd hW
   have bsz : b < wo.heap.size := World.block_lt_of_cell? _ _ d1
   have bsn : ¬ b = wo.heap.size := by omega
   clear hW
   go_upto_region 5 with fail
   rw [← HW.out]
   clear HW d1 d2 bsz bsn
   by_cases hf : mk = 8191
   ·have qf : ((mk : Int) == 8191) = true := by rw [hf]; rfl
    go_wp2
    go_ret
    exact ⟨mk, rfl, MK.out, fun r hr => by rw [hf] at BK ⊢; exact ⟨fun _ => ((BK.out r hr).1 (ak_all hr)).imp id (fun ⟨p, hp, q⟩ => ⟨p, List.mem_of_mem_take hp, q⟩), fun _ => ak_all hr⟩, K1.out.trans (K2.out.trans KW.out)⟩
   ·have qf : ((mk : Int) == 8191) = false := by simp; omega
    clear hf
    go_wp2
    go_loopw [2, 23] (fun u i ws => ∃ j mj : Nat, j ≤ 13 ∧ u = .int .i64 mj ∧ i = .int .i64 j ∧ Hid (mj < 8192) ∧ Hid (∀ r, r ≤ 12 → (mj.testBit r = true ↔ mk.testBit r = true ∨ (r < j ∧ askP Q r (S, T)))) ∧ Hid (Kp W1 ws)) (fun _ i _ => 13 - (intOf i).toNat)
    case atStart => exact ⟨0, mk, by omega, rfl, rfl, MK, Hd (fun r hr => by simp), Hd (Kp.refl _)⟩
    case round =>
     obtain ⟨j, mj, hj, rfl, rfl, MJ, BJ, K3⟩ := hrel
     obtain ⟨wi, hwi⟩ : ∃ x, x = wr := ⟨_, rfl⟩
     subst hwi
     by_cases hjt : j < 13
     ·have q3 : decide ((j : Int) < 13) = true := dT
      obtain ⟨bx', eb, hbb, hfx⟩ := BX.out.kp (K2.out.trans (KW.out.trans K3.out))
      cases eb
      obtain ⟨g, hg, eg, hway⟩ := way_any hjt
      have df := hfx j hjt
      rw [hg] at df
      have z3 : (0 : Int) ≤ (j : Int) := by omega
      clear hfx hg hbb
      have gi := heap_block K3.out gB
      have KS := Hd (fun w' (kq : Kp wi w') => show w'.cell? ⟨wo.heap.size, 0, none⟩ = some (.int .i64 S) ∧ w'.cell? ⟨wo.heap.size, 1, none⟩ = some (.int .i64 T) ∧ Kp wi w' from ⟨(row2 (heap_block kq gi)).1, (row2 (heap_block kq gi)).2, kq⟩)
      have k00 : Kp wi wi := Kp.refl _
      have KWI := Hd (K1.out.trans (K2.out.trans (KW.out.trans K3.out)))
      have wp := ak_pow (x := j) (by omega)
      have A1 : bits .and .i64 (mj : Int) (IntKind.i64.wrap (2 ^ j)) = ((mj &&& 2 ^ j : Nat) : Int) := by rw [wp]; exact ak_and MJ.out (ak_lt (by omega))
      have A2 : bits .or .i64 (mj : Int) (IntKind.i64.wrap (2 ^ j)) = ((mj ||| 2 ^ j : Nat) : Int) := by rw [wp]; exact ak_or MJ.out (ak_lt (by omega))
      have A2w : bits .or .i64 (mj : Int) (wrap64 (2 ^ j)) = ((mj ||| 2 ^ j : Nat) : Int) := by
       have w64 : wrap64 ((2 : Int) ^ j) = IntKind.i64.wrap (2 ^ j) := by generalize (2 : Int) ^ j = y; rw [IntKind.wrap_i64]; unfold wrap64; omega
       rw [w64]
       exact A2
      have LT2 := Hd (ask_lt (j := j) MJ.out (by omega))
      obtain ⟨y, hy⟩ : ∃ y, mj ||| 2 ^ j = y := ⟨_, rfl⟩
      rw [hy] at A2 A2w LT2
      have HY := Hd hy
      clear hy
      have AZ := ak_zero mj j
      clear gi wp
      cases hbit : mj.testBit j with
      | true =>
       have nz : ¬ (mj &&& 2 ^ j = 0) := fun h => by rw [AZ.1 h] at hbit; cases hbit
       generalize mj &&& 2 ^ j = z at *
       have g1 : ((z : Int) == 0) = false := by simp; omega
       have g2 : (z == 0) = false := by simp; omega
       clear AZ
       go_upto_region 9 with fail
       refine wp_region_held_drew (S := fun w' => w'.cell? ⟨wo.heap.size, 0, none⟩ = some (.int .i64 S) ∧ w'.cell? ⟨wo.heap.size, 1, none⟩ = some (.int .i64 T) ∧ Kp wi w') (by kernel_rfl) ?_ (fun hHeld0 => ?_)
       ·(try dsimp only); exact KS.out _ (ky k00)
       refine tkv 0 asA0 ?_
       (try simp only [Act.put, asA0, xA, xB, xC])
       refine tkv 1 asA1 ?_
       (try simp only [Act.put, asA1, xA, xB, xC])
       refine tkv 2 asA2 ?_
       (try simp only [Act.put, asA2, xA, xB, xC])
       refine tkv 3 asA3 ?_
       (try simp only [Act.put, asA3, xA, xB, xC])
       refine tkv 4 asA4 ?_
       (try simp only [Act.put, asA4, xA, xB, xC])
       refine tkv 5 asA5 ?_
       (try simp only [Act.put, asA5, xA, xB, xC])
       refine tkn 6 asA6 ?_
       (try simp only [Act.put, asA6, xA, xB, xC])
       refine tkn 7 asA7 ?_
       (try simp only [Act.put, asA7, xA, xB, xC])
       refine tkn 8 asA8 ?_
       (try simp only [Act.put, asA8, xA, xB, xC])
       refine tkn 9 asA9 ?_
       (try simp only [Act.put, asA9, xA, xB, xC])
       refine tkn 10 asA10 ?_
       (try simp only [Act.put, asA10, xA, xB, xC])
       refine tkn 11 asA11 ?_
       (try simp only [Act.put, asA11, xA, xB, xC])
       refine tkn 12 asA12 ?_
       (try simp only [Act.put, asA12, xA, xB, xC])
       refine tkn 13 asA13 ?_
       (try simp only [Act.put, asA13, xA, xB, xC])
       refine tkv 14 asA14 ?_
       (try simp only [Act.put, asA14, xA, xB, xC])
       refine wpAnyH_done (by kernel_rfl) ?_ _
       go_wp2
       go_roundw
       case rel => exact ⟨j + 1, mj, by omega, by go_num, by go_num, MJ, Hd (fun r hr => by have h := ask_step (b := false) (by omega) BJ.out (.inl hbit) r hr; rwa [if_neg (by simp)] at h), Hd (K3.out.trans (Kp.drew _))⟩
       case measure => simp [intOf]; omega
      | false =>
       have nz := AZ.2 hbit
       generalize mj &&& 2 ^ j = z at *
       have g1 : ((z : Int) == 0) = true := by rw [nz]; rfl
       have g2 : (z == 0) = true := by rw [nz]; rfl
       clear AZ
       go_upto_region 9 with fail
       refine wp_region_held_drew (S := fun w' => w'.cell? ⟨wo.heap.size, 0, none⟩ = some (.int .i64 S) ∧ w'.cell? ⟨wo.heap.size, 1, none⟩ = some (.int .i64 T) ∧ Kp wi w') (by kernel_rfl) ?_ (fun hHeld0 => ?_)
       ·(try dsimp only); exact KS.out _ (ky k00)
       refine tkv 0 asA0 ?_
       (try simp only [Act.put, asA0, xA, xB, xC])
       refine tkv 1 asA1 ?_
       (try simp only [Act.put, asA1, xA, xB, xC])
       refine tkv 2 asA2 ?_
       (try simp only [Act.put, asA2, xA, xB, xC])
       refine tkv 3 asA3 ?_
       (try simp only [Act.put, asA3, xA, xB, xC])
       refine tkv 4 asA4 ?_
       (try simp only [Act.put, asA4, xA, xB, xC])
       refine tkv 5 asA5 ?_
       (try simp only [Act.put, asA5, xA, xB, xC])
       refine tkv 6 asA6 ?_
       (try simp only [Act.put, asA6, xA, xB, xC])
       refine tkv 7 asA7 ?_
       (try simp only [Act.put, asA7, xA, xB, xC])
       refine tkv 8 asA8 ?_
       (try simp only [Act.put, asA8, xA, xB, xC])
       refine tkv 10 asA10 ?_
       (try simp only [Act.put, asA10, xA, xB, xC])
       refine tkv 11 asA11 ?_
       (try simp only [Act.put, asA11, xA, xB, xC])
       refine tkv 12 asA12 ?_
       (try simp only [Act.put, asA12, xA, xB, xC])
       refine tkE 9 asA9 rfl (by kernel_rfl) (fun K hK => ?_)
       go_simp
       (refine (hway S T _ l1 l2 l3 l4).mono ?_; rintro e wq ⟨rfl, kq1⟩; have kkq : Kp wi wq := Kp.trans (show Kp wi _ from (ky k00)) kq1; clear kq1)
       (try go_wp2_with fail)
       refine hK.out _ _ ?_ (fun hHeld1 => ?_)
       ·(try dsimp only); exact KS.out _ (ky kkq)
       clear hK K hHeld0
       (try simp only [Act.put, asA9, xA, xB, xC])
       refine tkE 13 asA13 rfl (by kernel_rfl) (fun K hK => ?_)
       go_simp
       (refine (HWI.out _ _ (Kp.trans KWI.out (ky kkq)) (way_ok l1 l2 l3 l4)).mono ?_; rintro e wx ⟨q, rfl, hq, kq1⟩; have kkx : Kp wi wx := Kp.trans (show Kp wi _ from (ky kkq)) kq1; have HQ := Hd (show askT q (askP Q j (S, T)) from hq); clear kq1 hq)
       (try go_wp2_with fail)
       refine hK.out _ _ ?_ (fun hHeld2 => ?_)
       ·(try dsimp only); exact KS.out _ (ky kkx)
       clear hK K hHeld1
       (try simp only [Act.put, asA13, xA, xB, xC])
       refine tkv 14 asA14 ?_
       (try simp only [Act.put, asA14, xA, xB, xC])
       refine wpAnyH_done (by kernel_rfl) ?_ _
       cases q with
       | true =>
        go_wp2
        go_roundw
        case rel => exact ⟨j + 1, y, by omega, by go_num, by go_num, LT2, Hd (fun r hr => by have h := ask_step (by omega) BJ.out (.inr HQ.out) r hr; rwa [if_pos ⟨hbit, rfl⟩, HY.out] at h), Hd (K3.out.trans kkx)⟩
        case measure => simp [intOf]; omega
       | false =>
        go_wp2
        go_roundw
        case rel => exact ⟨j + 1, mj, by omega, by go_num, by go_num, MJ, Hd (fun r hr => by have h := ask_step (by omega) BJ.out (.inr HQ.out) r hr; rwa [if_neg (by simp)] at h), Hd (K3.out.trans kkx)⟩
        case measure => simp [intOf]; omega
     ·have q3 : decide ((j : Int) < 13) = false := dF
      have ej : j = 13 := by omega
      have BF := Hd (fun r (hr : r ≤ 12) => show mj.testBit r = true ↔ m.testBit r = true ∨ ∃ p ∈ L.take (k + 1), askP Q r p by
       rw [BJ.out r hr, BK.out r hr, AT.out r, or_assoc]
       exact ⟨fun h => h.imp id (fun h => h.imp id And.right), fun h => h.imp id (fun h => h.imp id (fun q => ⟨by omega, q⟩))⟩)
      have KF := Hd (K2.out.trans (KW.out.trans K3.out))
      go_wp2
      go_roundw
      case rel => exact ⟨k + 1, mj, by have := HLT.out; omega, by go_num, by go_num, MJ, BF, KF⟩
      case measure => have := HLT.out; simp [intOf]; omega
  ·have q1 : decide ((k : Int) < (L.length : Int)) = false := dF
   have ek : k = L.length := by omega
   have BF := Hd (fun r (hr : r ≤ 12) => show mk.testBit r = true ↔ m.testBit r = true ∨ ∃ p ∈ L, askP Q r p by
    have := BK.out r hr
    rwa [ek, List.take_length] at this)
   go_wp2
   go_ret
   exact ⟨mk, rfl, MK.out, BF.out, K1.out.trans K2.out⟩
theorem ask_listed (Q : Int → Int → Prop) (pv v : Value) (L : List R) (m : Nat) (w : World) (hv : RunsAt w v L) (hm : m < 8192) (hn : L.length ≤ 1000000) (hb : ∀ r ∈ L, 0 ≤ r.1 ∧ r.1 ≤ 4000000 ∧ 0 ≤ r.2 ∧ r.2 ≤ 4000000)
  (hw : ∀ b w1, Kp w w1 → bxOk b → Calls Tryz.prog 265 #[pv, bxV b] w1 fun e w' => ∃ q : Bool, e = .returned (.bool q) ∧ (q = true ↔ ∃ S T, Q S T ∧ inBx b S T) ∧ Kp w1 w') :
  Calls Tryz.prog 58 #[v, .iface 87 pv, .int .i64 m] w fun e w' => ∃ m' : Nat, e = .returned (.int .i64 m') ∧ m' < 8192 ∧ (∀ r, r ≤ 12 → (m'.testBit r = true ↔ m.testBit r = true ∨ ∃ p ∈ L, askP Q r p)) ∧ Kp w w' := by
 have NA : ∀ (f : Nat) (w : World), Sem.run Tryz.prog (nilAhead (f + 1) 87 pv "lustrum/relate.within") w = .ok (some false) w := fun f w => by kernel_rfl
 obtain ⟨ad, c, rfl⟩ := hv.slice
 have HV := Hd hv
 have HB := Hd hb
 have HN := Hd hn
 have HWI := Hd hw
 have HM := Hd hm
 clear hv hb hn hw hm
 go_enter Tryz.func58, Tryz.ntmps58
 go_wp2_with fail
 refine (boxesB_any w).mono ?_
 rintro e w1 ⟨vx, rfl, bx, k1⟩
 have BX := Hd bx
 obtain ⟨bb, rfl, -, -⟩ := bx
 have K1 := Hd k1
 clear k1
 go_wp2
 go_loopw [2, 15] (fun u i wr => ∃ k mk : Nat, k ≤ L.length ∧ u = .int .i64 mk ∧ i = .int .i64 k ∧ Hid (mk < 8192) ∧ Hid (∀ r, r ≤ 12 → (mk.testBit r = true ↔ m.testBit r = true ∨ ∃ p ∈ L.take k, askP Q r p)) ∧ Hid (Kp w1 wr)) (fun _ i _ => L.length - (intOf i).toNat)
 case atStart => exact ⟨0, m, Nat.zero_le _, rfl, rfl, HM, Hd (fun r hr => by simp), Hd (Kp.refl _)⟩
 case round =>
  obtain ⟨k, mk, hk, rfl, rfl, MK, BK, K2⟩ := hrel
  obtain ⟨wo, hwo⟩ : ∃ x, x = wr := ⟨_, rfl⟩
  subst hwo
  have kb : k ≤ 1000000 := by have := HN.out; omega
  by_cases hlt : k < L.length
  ·have q1 : decide ((k : Int) < (L.length : Int)) = true := dT
   have q1n : decide (k < L.length) = true := decide_eq_true hlt
   rcases HV.out.kp (K1.out.trans K2.out) with ⟨_, _, _, e⟩ | ⟨b, off, cap, ev, hc, hmx, hx⟩
   ·rw [e] at hlt; simp at hlt
   cases ev
   obtain ⟨d1, d2⟩ := hx k hlt
   obtain ⟨l1, l2, l3, l4⟩ := HB.out _ (at_mem hlt)
   have AT := Hd (fun r => ask_take (Q := Q) (r := r) hlt)
   have z2 : (0 : Int) ≤ (k : Int) := by omega
   have HLT := Hd hlt
   obtain ⟨p, hp⟩ : ∃ p, at_ L k = p := ⟨_, rfl⟩
   rw [hp] at d1 d2 l1 l2 l3 l4 AT
   obtain ⟨S, T⟩ := p
   simp only at d1 d2 l1 l2 l3 l4
   clear hx hp hc hmx hlt
   obtain ⟨W1, hW⟩ : ∃ x, x = wo.alloc (.cells #[.int .i64 S, .int .i64 T] 31) := ⟨_, rfl⟩
   have gB : W1.heap[wo.heap.size]? = some (.cells #[.int .i64 S, .int .i64 T] 31 (0, 0)) := by rw [hW]; exact heap_at _ _ _ rfl
   have KW := Hd (show Kp wo W1 by rw [hW]; exact Kp.alloc _ _)
   have HW := Hd hW
   have bsz : b < wo.heap.size := World.block_lt_of_cell? _ _ d1
   have bsn : ¬ b = wo.heap.size := by omega
   clear hW
   go_upto_region 5 with fail
   rw [← HW.out]
   clear HW d1 d2 bsz bsn
   by_cases hf : mk = 8191
   ·have qf : ((mk : Int) == 8191) = true := by rw [hf]; rfl
    go_wp2
    go_ret
    exact ⟨mk, rfl, MK.out, fun r hr => by rw [hf] at BK ⊢; exact ⟨fun _ => ((BK.out r hr).1 (ak_all hr)).imp id (fun ⟨p, hp, q⟩ => ⟨p, List.mem_of_mem_take hp, q⟩), fun _ => ak_all hr⟩, K1.out.trans (K2.out.trans KW.out)⟩
   ·have qf : ((mk : Int) == 8191) = false := by simp; omega
    clear hf
    go_wp2
    go_loopw [2, 23] (fun u i ws => ∃ j mj : Nat, j ≤ 13 ∧ u = .int .i64 mj ∧ i = .int .i64 j ∧ Hid (mj < 8192) ∧ Hid (∀ r, r ≤ 12 → (mj.testBit r = true ↔ mk.testBit r = true ∨ (r < j ∧ askP Q r (S, T)))) ∧ Hid (Kp W1 ws)) (fun _ i _ => 13 - (intOf i).toNat)
    case atStart => exact ⟨0, mk, by omega, rfl, rfl, MK, Hd (fun r hr => by simp), Hd (Kp.refl _)⟩
    case round =>
     obtain ⟨j, mj, hj, rfl, rfl, MJ, BJ, K3⟩ := hrel
     obtain ⟨wi, hwi⟩ : ∃ x, x = wr := ⟨_, rfl⟩
     subst hwi
     by_cases hjt : j < 13
     ·have q3 : decide ((j : Int) < 13) = true := dT
      obtain ⟨bx', eb, hbb, hfx⟩ := BX.out.kp (K2.out.trans (KW.out.trans K3.out))
      cases eb
      obtain ⟨g, hg, eg, hway⟩ := way_any hjt
      have df := hfx j hjt
      rw [hg] at df
      have z3 : (0 : Int) ≤ (j : Int) := by omega
      clear hfx hg hbb
      have gi := heap_block K3.out gB
      have KS := Hd (fun w' (kq : Kp wi w') => show w'.cell? ⟨wo.heap.size, 0, none⟩ = some (.int .i64 S) ∧ w'.cell? ⟨wo.heap.size, 1, none⟩ = some (.int .i64 T) ∧ Kp wi w' from ⟨(row2 (heap_block kq gi)).1, (row2 (heap_block kq gi)).2, kq⟩)
      have k00 : Kp wi wi := Kp.refl _
      have KWI := Hd (K1.out.trans (K2.out.trans (KW.out.trans K3.out)))
      have wp := ak_pow (x := j) (by omega)
      have A1 : bits .and .i64 (mj : Int) (IntKind.i64.wrap (2 ^ j)) = ((mj &&& 2 ^ j : Nat) : Int) := by rw [wp]; exact ak_and MJ.out (ak_lt (by omega))
      have A2 : bits .or .i64 (mj : Int) (IntKind.i64.wrap (2 ^ j)) = ((mj ||| 2 ^ j : Nat) : Int) := by rw [wp]; exact ak_or MJ.out (ak_lt (by omega))
      have A2w : bits .or .i64 (mj : Int) (wrap64 (2 ^ j)) = ((mj ||| 2 ^ j : Nat) : Int) := by
       have w64 : wrap64 ((2 : Int) ^ j) = IntKind.i64.wrap (2 ^ j) := by generalize (2 : Int) ^ j = y; rw [IntKind.wrap_i64]; unfold wrap64; omega
       rw [w64]
       exact A2
      have LT2 := Hd (ask_lt (j := j) MJ.out (by omega))
      obtain ⟨y, hy⟩ : ∃ y, mj ||| 2 ^ j = y := ⟨_, rfl⟩
      rw [hy] at A2 A2w LT2
      have HY := Hd hy
      clear hy
      have AZ := ak_zero mj j
      clear gi wp
      cases hbit : mj.testBit j with
      | true =>
       have nz : ¬ (mj &&& 2 ^ j = 0) := fun h => by rw [AZ.1 h] at hbit; cases hbit
       generalize mj &&& 2 ^ j = z at *
       have g1 : ((z : Int) == 0) = false := by simp; omega
       have g2 : (z == 0) = false := by simp; omega
       clear AZ
       go_upto_region 9 with fail
       refine wp_region_held_drew (S := fun w' => w'.cell? ⟨wo.heap.size, 0, none⟩ = some (.int .i64 S) ∧ w'.cell? ⟨wo.heap.size, 1, none⟩ = some (.int .i64 T) ∧ Kp wi w') (by kernel_rfl) ?_ (fun hHeld0 => ?_)
       ·(try dsimp only); exact KS.out _ (ky k00)
       refine tkv 0 asA0 ?_
       (try simp only [Act.put, asA0, xA, xB, xC])
       refine tkv 1 asA1 ?_
       (try simp only [Act.put, asA1, xA, xB, xC])
       refine tkv 2 asA2 ?_
       (try simp only [Act.put, asA2, xA, xB, xC])
       refine tkv 3 asA3 ?_
       (try simp only [Act.put, asA3, xA, xB, xC])
       refine tkv 4 asA4 ?_
       (try simp only [Act.put, asA4, xA, xB, xC])
       refine tkv 5 asA5 ?_
       (try simp only [Act.put, asA5, xA, xB, xC])
       refine tkn 6 asA6 ?_
       (try simp only [Act.put, asA6, xA, xB, xC])
       refine tkn 7 asA7 ?_
       (try simp only [Act.put, asA7, xA, xB, xC])
       refine tkn 8 asA8 ?_
       (try simp only [Act.put, asA8, xA, xB, xC])
       refine tkn 9 asA9 ?_
       (try simp only [Act.put, asA9, xA, xB, xC])
       refine tkn 10 asA10 ?_
       (try simp only [Act.put, asA10, xA, xB, xC])
       refine tkn 11 asA11 ?_
       (try simp only [Act.put, asA11, xA, xB, xC])
       refine tkn 12 asA12 ?_
       (try simp only [Act.put, asA12, xA, xB, xC])
       refine tkn 13 asA13 ?_
       (try simp only [Act.put, asA13, xA, xB, xC])
       refine tkv 14 asA14 ?_
       (try simp only [Act.put, asA14, xA, xB, xC])
       refine wpAnyH_done (by kernel_rfl) ?_ _
       go_wp2
       go_roundw
       case rel => exact ⟨j + 1, mj, by omega, by go_num, by go_num, MJ, Hd (fun r hr => by have h := ask_step (b := false) (by omega) BJ.out (.inl hbit) r hr; rwa [if_neg (by simp)] at h), Hd (K3.out.trans (Kp.drew _))⟩
       case measure => simp [intOf]; omega
      | false =>
       have nz := AZ.2 hbit
       generalize mj &&& 2 ^ j = z at *
       have g1 : ((z : Int) == 0) = true := by rw [nz]; rfl
       have g2 : (z == 0) = true := by rw [nz]; rfl
       clear AZ
       go_upto_region 9 with fail
       refine wp_region_held_drew (S := fun w' => w'.cell? ⟨wo.heap.size, 0, none⟩ = some (.int .i64 S) ∧ w'.cell? ⟨wo.heap.size, 1, none⟩ = some (.int .i64 T) ∧ Kp wi w') (by kernel_rfl) ?_ (fun hHeld0 => ?_)
       ·(try dsimp only); exact KS.out _ (ky k00)
       refine tkv 0 asA0 ?_
       (try simp only [Act.put, asA0, xA, xB, xC])
       refine tkv 1 asA1 ?_
       (try simp only [Act.put, asA1, xA, xB, xC])
       refine tkv 2 asA2 ?_
       (try simp only [Act.put, asA2, xA, xB, xC])
       refine tkv 3 asA3 ?_
       (try simp only [Act.put, asA3, xA, xB, xC])
       refine tkv 4 asA4 ?_
       (try simp only [Act.put, asA4, xA, xB, xC])
       refine tkv 5 asA5 ?_
       (try simp only [Act.put, asA5, xA, xB, xC])
       refine tkv 6 asA6 ?_
       (try simp only [Act.put, asA6, xA, xB, xC])
       refine tkv 7 asA7 ?_
       (try simp only [Act.put, asA7, xA, xB, xC])
       refine tkv 8 asA8 ?_
       (try simp only [Act.put, asA8, xA, xB, xC])
       refine tkv 10 asA10 ?_
       (try simp only [Act.put, asA10, xA, xB, xC])
       refine tkv 11 asA11 ?_
       (try simp only [Act.put, asA11, xA, xB, xC])
       refine tkv 12 asA12 ?_
       (try simp only [Act.put, asA12, xA, xB, xC])
       refine tkE 9 asA9 rfl (by kernel_rfl) (fun K hK => ?_)
       go_simp
       (refine (hway S T _ l1 l2 l3 l4).mono ?_; rintro e wq ⟨rfl, kq1⟩; have kkq : Kp wi wq := Kp.trans (show Kp wi _ from (ky k00)) kq1; clear kq1)
       (try go_wp2_with fail)
       refine hK.out _ _ ?_ (fun hHeld1 => ?_)
       ·(try dsimp only); exact KS.out _ (ky kkq)
       clear hK K hHeld0
       (try simp only [Act.put, asA9, xA, xB, xC])
       refine tkE 13 asA13 rfl (by kernel_rfl) (fun K hK => ?_)
       go_simp
       (refine (HWI.out _ _ (Kp.trans KWI.out (ky kkq)) (way_ok l1 l2 l3 l4)).mono ?_; rintro e wx ⟨q, rfl, hq, kq1⟩; have kkx : Kp wi wx := Kp.trans (show Kp wi _ from (ky kkq)) kq1; have HQ := Hd (show askT q (askP Q j (S, T)) from hq); clear kq1 hq)
       (try go_wp2_with fail)
       refine hK.out _ _ ?_ (fun hHeld2 => ?_)
       ·(try dsimp only); exact KS.out _ (ky kkx)
       clear hK K hHeld1
       (try simp only [Act.put, asA13, xA, xB, xC])
       refine tkv 14 asA14 ?_
       (try simp only [Act.put, asA14, xA, xB, xC])
       refine wpAnyH_done (by kernel_rfl) ?_ _
       cases q with
       | true =>
        go_wp2
        go_roundw
        case rel => exact ⟨j + 1, y, by omega, by go_num, by go_num, LT2, Hd (fun r hr => by have h := ask_step (by omega) BJ.out (.inr HQ.out) r hr; rwa [if_pos ⟨hbit, rfl⟩, HY.out] at h), Hd (K3.out.trans kkx)⟩
        case measure => simp [intOf]; omega
       | false =>
        go_wp2
        go_roundw
        case rel => exact ⟨j + 1, mj, by omega, by go_num, by go_num, MJ, Hd (fun r hr => by have h := ask_step (by omega) BJ.out (.inr HQ.out) r hr; rwa [if_neg (by simp)] at h), Hd (K3.out.trans kkx)⟩
        case measure => simp [intOf]; omega
     ·have q3 : decide ((j : Int) < 13) = false := dF
      have ej : j = 13 := by omega
      have BF := Hd (fun r (hr : r ≤ 12) => show mj.testBit r = true ↔ m.testBit r = true ∨ ∃ p ∈ L.take (k + 1), askP Q r p by
       rw [BJ.out r hr, BK.out r hr, AT.out r, or_assoc]
       exact ⟨fun h => h.imp id (fun h => h.imp id And.right), fun h => h.imp id (fun h => h.imp id (fun q => ⟨by omega, q⟩))⟩)
      have KF := Hd (K2.out.trans (KW.out.trans K3.out))
      go_wp2
      go_roundw
      case rel => exact ⟨k + 1, mj, by have := HLT.out; omega, by go_num, by go_num, MJ, BF, KF⟩
      case measure => have := HLT.out; simp [intOf]; omega
  ·have q1 : decide ((k : Int) < (L.length : Int)) = false := dF
   have ek : k = L.length := by omega
   have BF := Hd (fun r (hr : r ≤ 12) => show mk.testBit r = true ↔ m.testBit r = true ∨ ∃ p ∈ L, askP Q r p by
    have := BK.out r hr
    rwa [ek, List.take_length] at this)
   go_wp2
   go_ret
   exact ⟨mk, rfl, MK.out, BF.out, K1.out.trans K2.out⟩
end Go.Proofs.YtcooaoponkkpeaaGreatDoor
