/-
  Joined: PtU, PtV, PtW, PtY, PtX, L8A.
-/
import Derived.Test.YtinpglfclbnhlaaGreatDoorGPtJ
import Derived.Test.YtinpglfclbnhlaaGreatDoorGMask
import Derived.Test.YtinpglfclbnhlaaGreatDoorGLeafA
import Derived.Test.YtinpglfclbnhlaaGreatDoorGPtA
namespace Go.Proofs.YtinpglfclbnhlaaGreatDoor
open Go.RowKit Go.Shelf
set_option linter.unusedVariables false
set_option linter.unusedSimpArgs false
theorem sane_apt : ∀ {l : List R}, sane l → apt l
  | [], _ => List.Pairwise.nil
  | r :: t, h => by
    refine List.pairwise_cons.2 ⟨fun b hb => ?_, sane_apt (sane_tail h)⟩
    obtain ⟨o1, o2, o3⟩ := sane_ok (sane_tail h) b hb
    have := sane_beyond h b.1 ⟨b, hb, Int.le_refl _, o1, o2, by omega⟩
    omega
theorem sane_inn {l : List R} (h : sane l) {a b : Int} (g : ∀ n, memR l n → a ≤ n ∧ n ≤ b) : Inn a b l := by
  intro r hr
  obtain ⟨o1, o2, o3⟩ := sane_ok h r hr
  have g1 := g r.1 ⟨r, hr, Int.le_refl _, o1, by omega, by omega⟩
  have g2 := g r.2 ⟨r, hr, o1, Int.le_refl _, by omega, by omega⟩
  omega
theorem apt_len : ∀ {l : List R} {a b : Int}, apt l → Inn a b l → l.length ≤ (b - a + 1).toNat
  | [], a, b, _, _ => by simp
  | r :: t, a, b, h, i => by
    have hp := List.pairwise_cons.1 h
    obtain ⟨i1, i2, i3⟩ := i r (by simp)
    have := apt_len (l := t) (a := r.2 + 1) (b := b) hp.2 (fun q hq => by
      have := hp.1 q hq
      have := i q (by simp [hq])
      omega)
    simp only [List.length_cons]
    omega
theorem matR_sane (s : ByteArray) (most : Int) : sane (matR s most) := interR_sane _ _
theorem matR_inn (s : ByteArray) (most : Int) : Inn 1 most (matR s most) := sane_inn (matR_sane s most) fun n hn => by
  obtain ⟨_, r, hr, h1, h2, _⟩ := (interR_mem _ _ n).1 hn
  rw [List.mem_singleton.1 hr] at h1 h2
  exact ⟨h1, h2⟩
theorem matR_len (s : ByteArray) {most : Int} (h : most ≤ 100) : (matR s most).length ≤ 100 := by
  have := apt_len (sane_apt (matR_sane s most)) (matR_inn s most)
  omega
theorem setM_inn (s : ByteArray) : Inn 0 9999 (setM s) := fun r hr => by have := (setM_gd s).1 r hr; omega
theorem inn_i64 {a b : Int} (ha : -1000000000 ≤ a) (hb : b ≤ 1000000000) {l : List R} (h : Inn a b l) : I64R l := fun r hr => by have := h r hr; omega
set_option maxHeartbeats 4000000 in
set_option maxRecDepth 100000 in
/-- daysOfMonths -/
theorem domonths_any (fvm vk : Value) (months known : List R) (w : World) (hs : SeqR fvm months w) (rk : RunsAt w vk known)
    (hmi : Inn 0 119999 months) (hki : Inn 1 31 known) (hn : known.length ≤ 1000) (T : Tabs w) :
    Calls Tryz.prog 59 #[fvm, vk] w fun e w' => ∃ fv : Value, e = .returned fv ∧ SeqR fv (daysL months known) w' ∧ Kp w w' := by
  have hmf : ∀ (fn : Fn) (first cap : Array Value) (w : World), (Instr.makeFunc fn first cap).run Tryz.prog w = .ok (.func fn first cap) w := fun _ _ _ _ => rfl
  have SQ := Lib.hid (fun Bm Bk w1 (k : Kp w w1) a b => days_seq Bm Bk fvm vk months known w1 a b (hs.kp k) (rk.kp k) hmi hki hn (T.kp k))
  obtain ⟨adk, cpk, rfl⟩ := rk.slice
  obtain ⟨gf, lb, rfl, _, _⟩ := hs
  clear rk hmi hki hn T
  go_enter Tryz.func59, Tryz.ntmps59
  go_wp2
  go_ret
  refine ⟨_, rfl, SQ.out _ _ _ ((Kp.alloc _ _).trans (Kp.alloc _ _)) ?_ ?_, (Kp.alloc _ _).trans (Kp.alloc _ _)⟩
  · exact ((Boxed.new w 63 _).alloc _).cell
  · exact (Boxed.at' _ _ 28 _ (by simp)).cell
end Go.Proofs.YtinpglfclbnhlaaGreatDoor

namespace Go.Proofs.YtinpglfclbnhlaaGreatDoor
open Go.RowKit Go.Shelf
set_option linter.unusedVariables false
set_option linter.unusedSimpArgs false
def kn0 (known : List R) : Int × Int := at_ known 0
def dayL (years parts known : List R) : List R := if kn0 known = (1, 31) then partsL 12 years parts else daysL (partsL 12 years (longR parts (kn0 known).1)) known
def capR (L : List R) : List R := if (gn L).length ≤ 400 then gn L else []
def dayR (years parts known : List R) : List R := if kn0 known = (1, 31) then coverR 1 (capR (dayL years parts known)) else capR (dayL years parts known)
theorem gn_inn {l : List R} {a b : Int} (ha : -1000000000 ≤ a) (hb : b ≤ 1000000000) (h : Inn a b l) (ap : apt l) : Inn a b (gn l) := by
  rw [gn_nf (fun r hr => by have := h r hr; exact ⟨this.2.1, by omega, by omega⟩) ap]
  refine sane_inn (nf_sane _) fun n hn => ?_
  obtain ⟨r, hr, h1, h2, _⟩ := (nf_mem _ n).1 hn
  have := h r hr
  omega
theorem capR_inn {l : List R} {a b : Int} (ha : -1000000000 ≤ a) (hb : b ≤ 1000000000) (h : Inn a b l) (ap : apt l) : Inn a b (capR l) := by
  unfold capR
  split
  · exact gn_inn ha hb h ap
  · intro q hq; cases hq
theorem capR_len (l : List R) : (capR l).length ≤ 400 := by
  unfold capR
  split
  · assumption
  · simp
theorem longR_len {parts : List R} {d : Int} (h : Inn 1 12 parts) (ap : apt parts) : (longR parts d).length ≤ 100 := by
  have := apt_len (longR_apt (d := d) ap) (longR_in (d := d) h)
  omega
theorem gath_any (fv : Value) (L : List R) (w : World) (h : SeqR fv L w) (hb : Inn 0 100000000 L) :
    Calls Tryz.prog 39 #[fv] w fun e W' => ∃ v' : Value, e = .returned (.tuple #[v', .bool (decide ((gn L).length ≤ 400))]) ∧ W'.ownsRow w.heap.size 37 2 v' (capR L).length (cellsR (capR L)) ∧ Kp w W' := gathered_any fv L w h hb
abbrev dyA0 : Oper := { dst := some 15, op := Go.Op.fieldAddr 23 (Go.Operand.tmp 3) 2, type := 0, pos := "numbers.go:45", after := #[], guard := none }
abbrev dyA1 : Oper := { dst := some 16, op := Go.Op.load 9 (Go.Operand.tmp 15), type := 9, pos := "numbers.go:45", after := #[{ on := 0, ground := Go.Ground.data }], guard := none }
abbrev dyA2 : Oper := { dst := some 17, op := Go.Op.move (Go.Operand.tmp 6), type := 3, pos := "numbers.go:45", after := #[], guard := none }
abbrev dyA3 : Oper := { dst := some 18, op := Go.Op.call { callee := Go.Callee.value (Go.Operand.func 41), args := #[Go.Operand.tmp 16, Go.Operand.tmp 17], argTypes := #[9, 3] }, type := 28, pos := "numbers.go:45", after := #[{ on := 1, ground := Go.Ground.data }, { on := 2, ground := Go.Ground.data }], guard := none }
abbrev dyA4 : Oper := { dst := some 19, op := Go.Op.fieldAddr 23 (Go.Operand.tmp 3) 3, type := 0, pos := "numbers.go:45", after := #[], guard := none }
abbrev dyA5 : Oper := { dst := some 20, op := Go.Op.load 9 (Go.Operand.tmp 19), type := 9, pos := "numbers.go:45", after := #[{ on := 4, ground := Go.Ground.data }], guard := none }
abbrev dyA6 : Oper := { dst := some 21, op := Go.Op.call { callee := Go.Callee.value (Go.Operand.func 41), args := #[Go.Operand.tmp 20, Go.Operand.const (Go.Value.int Go.IntKind.i64 31)], argTypes := #[9, 3] }, type := 28, pos := "numbers.go:45", after := #[{ on := 5, ground := Go.Ground.data }, { on := 3, ground := Go.Ground.chain }], guard := none }
abbrev dyA7 : Oper := { dst := some 7, op := Go.Op.assign (Go.Operand.tmp 18), type := 28, pos := "numbers.go:45", after := #[{ on := 3, ground := Go.Ground.data }, { on := 6, ground := Go.Ground.chain }, { on := 0, ground := Go.Ground.phase }, { on := 1, ground := Go.Ground.phase }, { on := 2, ground := Go.Ground.phase }, { on := 3, ground := Go.Ground.phase }, { on := 4, ground := Go.Ground.textOnly Go.Departure.lateStores }, { on := 5, ground := Go.Ground.textOnly Go.Departure.lateStores }, { on := 6, ground := Go.Ground.textOnly Go.Departure.lateStoresUnsure }], guard := none }
abbrev dyA8 : Oper := { dst := some 8, op := Go.Op.assign (Go.Operand.tmp 21), type := 28, pos := "numbers.go:45", after := #[{ on := 6, ground := Go.Ground.data }, { on := 7, ground := Go.Ground.chain }, { on := 0, ground := Go.Ground.phase }, { on := 1, ground := Go.Ground.phase }, { on := 2, ground := Go.Ground.phase }, { on := 3, ground := Go.Ground.phase }, { on := 4, ground := Go.Ground.phase }, { on := 5, ground := Go.Ground.phase }, { on := 6, ground := Go.Ground.phase }, { on := 7, ground := Go.Ground.phase }], guard := none }
set_option maxHeartbeats 16000000 in
set_option maxRecDepth 100000 in
theorem pdays_any (vy : Value) (years : List R) (p : PT) (w : World) (ry : RunsAt w vy years) (hyi : Inn 0 9999 years) (ay0 : apt years) (hn1 : years.length ≤ 10000) (hm : 0 < (matR p.m 12).length) (hd : 0 < (matR p.d 31).length) (T : Tabs8 w) :
    Calls Tryz.prog 38 #[vy, ptV p] w fun e w' => ∃ v' : Value, e = .returned (.tuple #[v', .bool (decide ((gn (dayL years (matR p.m 12) (matR p.d 31))).length ≤ 400))]) ∧
      w'.ownsRow w.heap.size 37 2 v' (dayR years (matR p.m 12) (matR p.d 31)).length (cellsR (dayR years (matR p.m 12) (matR p.d 31))) ∧ Kp w w' := by
  obtain ⟨k, y, m, d, rfl⟩ := pt_dest p
  unfold ptV
  simp only at *
  obtain ⟨W0, hW⟩ : ∃ x, x = w.alloc (.cells #[.int .i64 k, .string y, .string m, .string d] 23) := ⟨_, rfl⟩
  have k0 : Kp w W0 := by rw [hW]; exact Kp.alloc _ _
  have hg : W0.heap[w.heap.size]? = some (.cells #[.int .i64 k, .string y, .string m, .string d] 23 (0, 0)) := by rw [hW]; exact heap_at _ _ _ rfl
  have HB := Lib.hid (fun w1 (q : Kp W0 w1) => show w1.cell? ⟨w.heap.size, 0, none⟩ = some (.int .i64 k) ∧ w1.cell? ⟨w.heap.size, 1, none⟩ = some (.string y) ∧ w1.cell? ⟨w.heap.size, 2, none⟩ = some (.string m) ∧ w1.cell? ⟨w.heap.size, 3, none⟩ = some (.string d) from ⟨cell_up q (by simp [World.cell?, hg]), cell_up q (by simp [World.cell?, hg]), cell_up q (by simp [World.cell?, hg]), cell_up q (by simp [World.cell?, hg])⟩)
  have HW := Lib.hid hW
  have K00 := Lib.hid k0
  have K0 := Lib.hid (Kp.refl W0)
  have t3 : w.cell? ⟨0, 3, none⟩ = some (.int .i64 12) := T.2.1.cell 3 (by omega)
  have t30 := World.block_lt_of_cell? _ _ t3
  have t31 := Nat.ne_of_lt t30
  simp only at t30 t31
  have CM1 := Lib.hid (fun w1 => matching_any m 12 w1 (by decide) (by decide))
  have CM2 := Lib.hid (fun w1 => matching_any d 31 w1 (by decide) (by decide))
  have RY := Lib.hid ry
  obtain ⟨ay, cy, rfl⟩ := ry.slice
  have ip := matR_inn m 12
  have ap := sane_apt (matR_sane m 12)
  have lp := matR_len m (most := 12) (by decide)
  have ik := matR_inn d 31
  have ak := sane_apt (matR_sane d 31)
  have lk := matR_len d (most := 31) (by decide)
  have TT := Lib.hid (fun w1 (q : Kp W0 w1) => T.1.kp (k0.trans q))
  generalize matR m 12 = parts at *
  generalize matR d 31 = known at *
  have RY2 := Lib.hid (fun w1 (q : Kp w w1) => RY.out.kp q)
  have HD := Lib.hid hd
  clear T ry hW k0 hg hm
  unfold dayR dayL
  by_cases hq : kn0 known = (1, 31)
  · simp only [if_pos hq]
    have CP := Lib.hid (fun v u w1 (rv : RunsAt w1 u parts) (hv : RunsAt w1 v years) => parts_any 12 (.inl rfl) v u years parts w1 hv rv hyi ip (by omega) (by omega))
    have CG := Lib.hid (fun fv w1 (h : SeqR fv (partsL 12 years parts) w1) (hb : Inn 0 100000000 (partsL 12 years parts)) => gath_any fv (partsL 12 years parts) w1 h hb)
    have CC := Lib.hid (fun v L w1 (hv : RunsAt w1 v L) (hi : Inn 0 119999 L) (hl : L.length ≤ 400) (q : Kp W0 w1) => cover_any 1 v L w1 hv (inn_i64 (by decide) (by decide) hi) (by omega) (TT.out w1 q))
    have PI := Lib.hid (partsL_in (years := years) (.inl rfl) ip hyi)
    have PA := Lib.hid (partsL_apt (years := years) (.inl rfl) ip hyi ap ay0)
    generalize partsL 12 years parts = PL at *
    have CI := Lib.hid (capR_inn (by decide) (by decide) PI.out PA.out)
    have CK := Lib.hid (capR_len PL)
    have GI := Lib.hid (fun (r : R) (hr : r ∈ PL) => (by have := PI.out r hr; omega : 0 ≤ r.1 ∧ r.1 ≤ r.2 ∧ r.2 ≤ 100000000))
    generalize capR PL = CR at *
    have CC := Lib.hid (fun v w1 (hv : RunsAt w1 v CR) (q : Kp W0 w1) => CC.out v CR w1 hv CI.out CK.out q)
    generalize coverR 1 CR = XR at *
    generalize decide ((gn PL).length ≤ 400) = bb at *
    go_enter Tryz.func38, Tryz.ntmps38
    go_wp2_with fail
    rw [← HW.out]
    obtain ⟨c0, c1, c2, c3⟩ := HB.out W0 (Kp.refl _)
    have KS := Lib.hid (fun w' (kq : Kp W0 w') => show w'.cell? ⟨w.heap.size, 0, none⟩ = some (.int .i64 k) ∧ w'.cell? ⟨w.heap.size, 1, none⟩ = some (.string y) ∧ w'.cell? ⟨w.heap.size, 2, none⟩ = some (.string m) ∧ w'.cell? ⟨w.heap.size, 3, none⟩ = some (.string d) ∧ Kp W0 w' from ⟨(HB.out w' (K0.out.trans kq)).1, (HB.out w' (K0.out.trans kq)).2.1, (HB.out w' (K0.out.trans kq)).2.2.1, (HB.out w' (K0.out.trans kq)).2.2.2, kq⟩)
    go_wp2_with fail
    refine wp_region_held_drew (S := fun w' => w'.cell? ⟨w.heap.size, 0, none⟩ = some (.int .i64 k) ∧ w'.cell? ⟨w.heap.size, 1, none⟩ = some (.string y) ∧ w'.cell? ⟨w.heap.size, 2, none⟩ = some (.string m) ∧ w'.cell? ⟨w.heap.size, 3, none⟩ = some (.string d) ∧ Kp W0 w') (by kernel_rfl) ?_ (fun hHeld0 => ?_)
    · (try dsimp only); exact KS.out _ (by first | assumption | exact Kp.drew _)
    refine tkW (v := ?_) 0 dyA0 rfl (by kernel_rfl) (by kernel_rfl) (by kernel_rfl) (fun _ _ _ h => h) (by rfl) ?_ (by assumption) ?_
    rotate_left
    · intro w hSw; (try dsimp only at hSw); go_simp; (try with_reducible rfl)
    (try simp only [Act.put, dyA0, List.setIfInBounds_toArray, List.set_cons_zero, List.set_cons_succ])
    refine tkW (v := ?_) 1 dyA1 rfl (by kernel_rfl) (by kernel_rfl) (by kernel_rfl) (fun _ _ _ h => h) (by rfl) ?_ (by assumption) ?_
    rotate_left
    · intro w hSw; (try dsimp only at hSw); go_simp; (try with_reducible rfl)
    (try simp only [Act.put, dyA1, List.setIfInBounds_toArray, List.set_cons_zero, List.set_cons_succ])
    refine tkW (v := ?_) 2 dyA2 rfl (by kernel_rfl) (by kernel_rfl) (by kernel_rfl) (fun _ _ _ h => h) (by rfl) ?_ (by assumption) ?_
    rotate_left
    · intro w hSw; (try dsimp only at hSw); go_simp; (try with_reducible rfl)
    (try simp only [Act.put, dyA2, List.setIfInBounds_toArray, List.set_cons_zero, List.set_cons_succ])
    refine tkW (v := ?_) 4 dyA4 rfl (by kernel_rfl) (by kernel_rfl) (by kernel_rfl) (fun _ _ _ h => h) (by rfl) ?_ (by assumption) ?_
    rotate_left
    · intro w hSw; (try dsimp only at hSw); go_simp; (try with_reducible rfl)
    (try simp only [Act.put, dyA4, List.setIfInBounds_toArray, List.set_cons_zero, List.set_cons_succ])
    refine tkW (v := ?_) 5 dyA5 rfl (by kernel_rfl) (by kernel_rfl) (by kernel_rfl) (fun _ _ _ h => h) (by rfl) ?_ (by assumption) ?_
    rotate_left
    · intro w hSw; (try dsimp only at hSw); go_simp; (try with_reducible rfl)
    (try simp only [Act.put, dyA5, List.setIfInBounds_toArray, List.set_cons_zero, List.set_cons_succ])
    refine tkE 3 dyA3 rfl (by kernel_rfl) (fun K hK => ?_)
    go_simp
    (refine (CM1.out _).mono ?_; rintro e wa ⟨va, rfl, owa, k1⟩; obtain ⟨aa, ca, rfl⟩ := own_slice owa; have RA := Lib.hid (runsAt_own owa); clear owa; have k2 := Kp.trans (show Kp W0 _ from (by first | assumption | exact Kp.drew _)) k1; clear k1)
    (try go_wp2_with fail)
    refine hK.out _ _ ?_ (fun hHeld1 => ?_)
    · (try dsimp only); exact KS.out _ (by first | assumption | exact Kp.drew _)
    clear hK K hHeld0
    (try simp only [Act.put, dyA3, List.setIfInBounds_toArray, List.set_cons_zero, List.set_cons_succ])
    refine tkE 6 dyA6 rfl (by kernel_rfl) (fun K hK => ?_)
    go_simp
    (refine (CM2.out _).mono ?_; rintro e wb ⟨vb, rfl, owb, k1⟩; obtain ⟨ab, cb, rfl⟩ := own_slice owb; have RB := Lib.hid (runsAt_own owb); have GA := Lib.hid (Kp.trans (show Kp wa _ from (by first | with_reducible exact Kp.refl _ | with_reducible exact Kp.alloc _ _ | with_reducible exact (Kp.alloc _ _).trans (Kp.alloc _ _) | with_reducible exact ((Kp.alloc _ _).trans (Kp.alloc _ _)).trans (Kp.alloc _ _) | with_reducible exact Kp.drew _ | with_reducible exact Kp.drewN _ _)) k1); clear owb; have k2 := Kp.trans (show Kp W0 _ from (by first | assumption | exact Kp.drew _)) k1; clear k1)
    (try go_wp2_with fail)
    refine hK.out _ _ ?_ (fun hHeld2 => ?_)
    · (try dsimp only); exact KS.out _ (by first | assumption | exact Kp.drew _)
    clear hK K hHeld1
    (try simp only [Act.put, dyA6, List.setIfInBounds_toArray, List.set_cons_zero, List.set_cons_succ])
    refine tkW (v := ?_) 7 dyA7 rfl (by kernel_rfl) (by kernel_rfl) (by kernel_rfl) (fun _ _ _ h => h) (by rfl) ?_ (by assumption) ?_
    rotate_left
    · intro w hSw; (try dsimp only at hSw); go_simp; (try with_reducible rfl)
    (try simp only [Act.put, dyA7, List.setIfInBounds_toArray, List.set_cons_zero, List.set_cons_succ])
    refine tkW (v := ?_) 8 dyA8 rfl (by kernel_rfl) (by kernel_rfl) (by kernel_rfl) (fun _ _ _ h => h) (by rfl) ?_ (by assumption) ?_
    rotate_left
    · intro w hSw; (try dsimp only at hSw); go_simp; (try with_reducible rfl)
    (try simp only [Act.put, dyA8, List.setIfInBounds_toArray, List.set_cons_zero, List.set_cons_succ])
    refine wpAnyH_done (by kernel_rfl) ?_ _
    have RAb := Lib.hid (RA.out.kp GA.out)
    have K2 := Lib.hid k2
    have RYb := Lib.hid (RY2.out _ (K00.out.trans k2))
    rcases RB.out with ⟨_, _, _, e⟩ | ⟨b9, off9, cap9, ev9, hc9, hm9, hx9⟩
    · exfalso; have := HD.out; rw [e] at this; simp at this
    cases ev9
    obtain ⟨e1, e2⟩ := hx9 0 HD.out
    rw [Nat.zero_mul, Nat.add_zero] at e1 e2
    have z0 : (0 : Int) < (known.length : Int) := by have := HD.out; omega
    clear hHeld2 hx9 hc9 hm9
    rw [show (at_ known 0).1 = 1 by rw [show at_ known 0 = (1, 31) from hq]] at e1
    rw [show (at_ known 0).2 = 31 by rw [show at_ known 0 = (1, 31) from hq]] at e2
    clear hq hyi ay0 hn1 ip ap lp ik ak lk
    go_wp2_with fail
    refine (CP.out _ _ _ RAb.out RYb.out).mono ?_
    rintro e w3 ⟨fv, rfl, sq, kk⟩
    have SQ := Lib.hid sq
    have K3 := Lib.hid (K2.out.trans kk)
    clear sq kk e1 e2
    go_wp2_with fail
    refine (CG.out fv _ SQ.out GI.out).mono ?_
    rintro e w4 ⟨v4, rfl, own4, kk⟩
    have K4 := Lib.hid (K3.out.trans kk)
    have R4 := Lib.hid (runsAt_own own4)
    obtain ⟨a4, c4, rfl⟩ := own_slice own4
    clear own4 kk
    go_wp2_with fail
    refine (CC.out _ _ R4.out K4.out).mono ?_
    rintro e w5 ⟨v5, rfl, own5, kk⟩
    have K5 := Lib.hid (K4.out.trans kk)
    have O5 := Lib.hid (own_mono own5 (Nat.le_trans K00.out.size K4.out.size))
    clear own5 kk
    go_wp2
    refine bodyPost_ret (results_tmp2 rfl _ _ _) rfl ?_
    exact ⟨_, rfl, O5.out, K00.out.trans K5.out⟩
  · simp only [if_neg hq]
    have LI := longR_in (d := (kn0 known).1) ip
    have LA := longR_apt (d := (kn0 known).1) ap
    have LL := longR_len (d := (kn0 known).1) ip ap
    have kb := ik (kn0 known) (by unfold kn0 at_; simp [List.getD, hd])
    have CL := Lib.hid (fun v w1 (hv : RunsAt w1 v parts) (q : Kp W0 w1) => long_any v parts (kn0 known).1 w1 hv ip ap (by omega) (by omega) (by omega) (TT.out w1 q))
    generalize longR parts (kn0 known).1 = LP at *
    have CP := Lib.hid (fun v u w1 (rv : RunsAt w1 u LP) (hv : RunsAt w1 v years) => parts_any 12 (.inl rfl) v u years LP w1 hv rv hyi LI (by omega) (by omega))
    have PI := partsL_in (years := years) (.inl rfl) LI hyi
    have PA := partsL_apt (years := years) (.inl rfl) LI hyi LA ay0
    generalize partsL 12 years LP = PL at *
    have CD := Lib.hid (fun fv u w1 (h : SeqR fv PL w1) (rv : RunsAt w1 u known) (q : Kp W0 w1) => domonths_any fv u PL known w1 h rv PI ik (by omega) (TT.out w1 q))
    have DI := daysL_in ik PI
    generalize daysL PL known = DL at *
    have CG := Lib.hid (fun fv w1 (h : SeqR fv DL w1) => gath_any fv DL w1 h (fun r hr => by have := DI r hr; omega))
    generalize capR DL = CR at *
    generalize decide ((gn DL).length ≤ 400) = bb at *
    go_enter Tryz.func38, Tryz.ntmps38
    go_wp2_with fail
    rw [← HW.out]
    obtain ⟨c0, c1, c2, c3⟩ := HB.out W0 (Kp.refl _)
    have KS := Lib.hid (fun w' (kq : Kp W0 w') => show w'.cell? ⟨w.heap.size, 0, none⟩ = some (.int .i64 k) ∧ w'.cell? ⟨w.heap.size, 1, none⟩ = some (.string y) ∧ w'.cell? ⟨w.heap.size, 2, none⟩ = some (.string m) ∧ w'.cell? ⟨w.heap.size, 3, none⟩ = some (.string d) ∧ Kp W0 w' from ⟨(HB.out w' (K0.out.trans kq)).1, (HB.out w' (K0.out.trans kq)).2.1, (HB.out w' (K0.out.trans kq)).2.2.1, (HB.out w' (K0.out.trans kq)).2.2.2, kq⟩)
    go_wp2_with fail
    refine wp_region_held_drew (S := fun w' => w'.cell? ⟨w.heap.size, 0, none⟩ = some (.int .i64 k) ∧ w'.cell? ⟨w.heap.size, 1, none⟩ = some (.string y) ∧ w'.cell? ⟨w.heap.size, 2, none⟩ = some (.string m) ∧ w'.cell? ⟨w.heap.size, 3, none⟩ = some (.string d) ∧ Kp W0 w') (by kernel_rfl) ?_ (fun hHeld0 => ?_)
    · (try dsimp only); exact KS.out _ (by first | assumption | exact Kp.drew _)
    refine tkW (v := ?_) 0 dyA0 rfl (by kernel_rfl) (by kernel_rfl) (by kernel_rfl) (fun _ _ _ h => h) (by rfl) ?_ (by assumption) ?_
    rotate_left
    · intro w hSw; (try dsimp only at hSw); go_simp; (try with_reducible rfl)
    (try simp only [Act.put, dyA0, List.setIfInBounds_toArray, List.set_cons_zero, List.set_cons_succ])
    refine tkW (v := ?_) 1 dyA1 rfl (by kernel_rfl) (by kernel_rfl) (by kernel_rfl) (fun _ _ _ h => h) (by rfl) ?_ (by assumption) ?_
    rotate_left
    · intro w hSw; (try dsimp only at hSw); go_simp; (try with_reducible rfl)
    (try simp only [Act.put, dyA1, List.setIfInBounds_toArray, List.set_cons_zero, List.set_cons_succ])
    refine tkW (v := ?_) 2 dyA2 rfl (by kernel_rfl) (by kernel_rfl) (by kernel_rfl) (fun _ _ _ h => h) (by rfl) ?_ (by assumption) ?_
    rotate_left
    · intro w hSw; (try dsimp only at hSw); go_simp; (try with_reducible rfl)
    (try simp only [Act.put, dyA2, List.setIfInBounds_toArray, List.set_cons_zero, List.set_cons_succ])
    refine tkW (v := ?_) 4 dyA4 rfl (by kernel_rfl) (by kernel_rfl) (by kernel_rfl) (fun _ _ _ h => h) (by rfl) ?_ (by assumption) ?_
    rotate_left
    · intro w hSw; (try dsimp only at hSw); go_simp; (try with_reducible rfl)
    (try simp only [Act.put, dyA4, List.setIfInBounds_toArray, List.set_cons_zero, List.set_cons_succ])
    refine tkW (v := ?_) 5 dyA5 rfl (by kernel_rfl) (by kernel_rfl) (by kernel_rfl) (fun _ _ _ h => h) (by rfl) ?_ (by assumption) ?_
    rotate_left
    · intro w hSw; (try dsimp only at hSw); go_simp; (try with_reducible rfl)
    (try simp only [Act.put, dyA5, List.setIfInBounds_toArray, List.set_cons_zero, List.set_cons_succ])
    refine tkE 3 dyA3 rfl (by kernel_rfl) (fun K hK => ?_)
    go_simp
    (refine (CM1.out _).mono ?_; rintro e wa ⟨va, rfl, owa, k1⟩; obtain ⟨aa, ca, rfl⟩ := own_slice owa; have RA := Lib.hid (runsAt_own owa); clear owa; have k2 := Kp.trans (show Kp W0 _ from (by first | assumption | exact Kp.drew _)) k1; clear k1)
    (try go_wp2_with fail)
    refine hK.out _ _ ?_ (fun hHeld1 => ?_)
    · (try dsimp only); exact KS.out _ (by first | assumption | exact Kp.drew _)
    clear hK K hHeld0
    (try simp only [Act.put, dyA3, List.setIfInBounds_toArray, List.set_cons_zero, List.set_cons_succ])
    refine tkE 6 dyA6 rfl (by kernel_rfl) (fun K hK => ?_)
    go_simp
    (refine (CM2.out _).mono ?_; rintro e wb ⟨vb, rfl, owb, k1⟩; obtain ⟨ab, cb, rfl⟩ := own_slice owb; have RB := Lib.hid (runsAt_own owb); have GA := Lib.hid (Kp.trans (show Kp wa _ from (by first | with_reducible exact Kp.refl _ | with_reducible exact Kp.alloc _ _ | with_reducible exact (Kp.alloc _ _).trans (Kp.alloc _ _) | with_reducible exact ((Kp.alloc _ _).trans (Kp.alloc _ _)).trans (Kp.alloc _ _) | with_reducible exact Kp.drew _ | with_reducible exact Kp.drewN _ _)) k1); clear owb; have k2 := Kp.trans (show Kp W0 _ from (by first | assumption | exact Kp.drew _)) k1; clear k1)
    (try go_wp2_with fail)
    refine hK.out _ _ ?_ (fun hHeld2 => ?_)
    · (try dsimp only); exact KS.out _ (by first | assumption | exact Kp.drew _)
    clear hK K hHeld1
    (try simp only [Act.put, dyA6, List.setIfInBounds_toArray, List.set_cons_zero, List.set_cons_succ])
    refine tkW (v := ?_) 7 dyA7 rfl (by kernel_rfl) (by kernel_rfl) (by kernel_rfl) (fun _ _ _ h => h) (by rfl) ?_ (by assumption) ?_
    rotate_left
    · intro w hSw; (try dsimp only at hSw); go_simp; (try with_reducible rfl)
    (try simp only [Act.put, dyA7, List.setIfInBounds_toArray, List.set_cons_zero, List.set_cons_succ])
    refine tkW (v := ?_) 8 dyA8 rfl (by kernel_rfl) (by kernel_rfl) (by kernel_rfl) (fun _ _ _ h => h) (by rfl) ?_ (by assumption) ?_
    rotate_left
    · intro w hSw; (try dsimp only at hSw); go_simp; (try with_reducible rfl)
    (try simp only [Act.put, dyA8, List.setIfInBounds_toArray, List.set_cons_zero, List.set_cons_succ])
    refine wpAnyH_done (by kernel_rfl) ?_ _
    have RAb := Lib.hid (RA.out.kp GA.out)
    have K2 := Lib.hid k2
    have RYb := Lib.hid (RY2.out _ (K00.out.trans k2))
    rcases RB.out with ⟨_, _, _, e⟩ | ⟨b9, off9, cap9, ev9, hc9, hm9, hx9⟩
    · exfalso; have := HD.out; rw [e] at this; simp at this
    cases ev9
    obtain ⟨e1, e2⟩ := hx9 0 HD.out
    rw [Nat.zero_mul, Nat.add_zero] at e1 e2
    have z0 : (0 : Int) < (known.length : Int) := by have := HD.out; omega
    clear hHeld2 hx9 hc9 hm9
    obtain ⟨qa, qb, eq⟩ : ∃ x y, at_ known 0 = (x, y) := ⟨_, _, rfl⟩
    have hq2 : ¬ (qa = 1 ∧ qb = 31) := fun h => hq (by show at_ known 0 = (1, 31); rw [eq, h.1, h.2])
    have CLq := CL
    rw [show kn0 known = (qa, qb) from eq] at CLq
    simp only at CLq
    rw [eq] at e1 e2
    simp only at e1 e2
    have CLH := Lib.hid CLq
    clear hq eq hyi ay0 hn1 ip ap lp ik ak lk LI LA LL kb PI PA DI CL CLq
    by_cases h1 : qa = 1
    · subst h1
      have q31 : (qb == 31) = false := beq_eq_false_iff_ne.2 (fun h => hq2 ⟨rfl, h⟩)
      clear hq2
      go_wp2_with fail
      refine (CLH.out.out _ _ RAb.out K2.out).mono ?_
      rintro e w3 ⟨v3, rfl, own3, kk⟩
      have K3 := Lib.hid (K2.out.trans kk)
      have R3 := Lib.hid (runsAt_own own3)
      have RY3 := Lib.hid (RYb.out.kp kk)
      have RB3 := Lib.hid (RB.out.kp kk)
      obtain ⟨a3, c3, rfl⟩ := own_slice own3
      clear own3 kk e1 e2
      go_wp2_with fail
      refine (CP.out _ _ _ R3.out RY3.out).mono ?_
      rintro e w4 ⟨fv, rfl, sq, kk⟩
      have SQ := Lib.hid sq
      have K4 := Lib.hid (K3.out.trans kk)
      have RB4 := Lib.hid (RB3.out.kp kk)
      clear sq kk
      go_wp2_with fail
      refine (CD.out fv _ _ SQ.out RB4.out K4.out).mono ?_
      rintro e w5 ⟨fu, rfl, sq, kk⟩
      have SU := Lib.hid sq
      have K5 := Lib.hid (K4.out.trans kk)
      clear sq kk
      go_wp2_with fail
      refine (CG.out fu _ SU.out).mono ?_
      rintro e w6 ⟨v6, rfl, own6, kk⟩
      have K6 := Lib.hid (K5.out.trans kk)
      have O6 := Lib.hid (own_mono own6 (Nat.le_trans K00.out.size K5.out.size))
      clear own6 kk
      go_wp2
      refine bodyPost_ret (results_tmp2 rfl _ _ _) rfl ?_
      exact ⟨_, rfl, O6.out, K00.out.trans K6.out⟩
    · have q1 : (qa == 1) = false := beq_eq_false_iff_ne.2 h1
      clear hq2 h1
      go_wp2_with fail
      refine (CLH.out.out _ _ RAb.out K2.out).mono ?_
      rintro e w3 ⟨v3, rfl, own3, kk⟩
      have K3 := Lib.hid (K2.out.trans kk)
      have R3 := Lib.hid (runsAt_own own3)
      have RY3 := Lib.hid (RYb.out.kp kk)
      have RB3 := Lib.hid (RB.out.kp kk)
      obtain ⟨a3, c3, rfl⟩ := own_slice own3
      clear own3 kk e1 e2
      go_wp2_with fail
      refine (CP.out _ _ _ R3.out RY3.out).mono ?_
      rintro e w4 ⟨fv, rfl, sq, kk⟩
      have SQ := Lib.hid sq
      have K4 := Lib.hid (K3.out.trans kk)
      have RB4 := Lib.hid (RB3.out.kp kk)
      clear sq kk
      go_wp2_with fail
      refine (CD.out fv _ _ SQ.out RB4.out K4.out).mono ?_
      rintro e w5 ⟨fu, rfl, sq, kk⟩
      have SU := Lib.hid sq
      have K5 := Lib.hid (K4.out.trans kk)
      clear sq kk
      go_wp2_with fail
      refine (CG.out fu _ SU.out).mono ?_
      rintro e w6 ⟨v6, rfl, own6, kk⟩
      have K6 := Lib.hid (K5.out.trans kk)
      have O6 := Lib.hid (own_mono own6 (Nat.le_trans K00.out.size K5.out.size))
      clear own6 kk
      go_wp2
      refine bodyPost_ret (results_tmp2 rfl _ _ _) rfl ?_
      exact ⟨_, rfl, O6.out, K00.out.trans K6.out⟩
end Go.Proofs.YtinpglfclbnhlaaGreatDoor

namespace Go.Proofs.YtinpglfclbnhlaaGreatDoor
open Go.RowKit Go.Shelf
set_option linter.unusedVariables false
set_option linter.unusedSimpArgs false
def numR (p : PT) : List R := if p.k = 0 then dayR (setM p.y) (matR p.m 12) (matR p.d 31) else if p.k = 1 then capR (partsL 12 (setM p.y) (matR p.m 12)) else if p.k = 2 then capR (partsL 4 (setM p.y) (matR p.m 4)) else setM p.y
def numB (p : PT) : Bool := if p.k = 0 then decide ((gn (dayL (setM p.y) (matR p.m 12) (matR p.d 31))).length ≤ 400) else if p.k = 1 then decide ((gn (partsL 12 (setM p.y) (matR p.m 12))).length ≤ 400) else if p.k = 2 then decide ((gn (partsL 4 (setM p.y) (matR p.m 4))).length ≤ 400) else !decide (400 < (nf (setM p.y)).length)
def setE (p : PT) : Int := if saneP p = true then (if numB p = true then (if edgB p.k (numR p) = true then 0 else 8) else 8) else 2
def setS (p : PT) : List R := if saneP p = true then (if numB p = true then (if edgB p.k (numR p) = true then numR p else []) else []) else []
theorem numR_len (p : PT) : (numR p).length ≤ 100000 := by
  unfold numR dayR
  have a := (setM_gd p.y).2
  have b := capR_len (partsL 12 (setM p.y) (matR p.m 12))
  have c := capR_len (partsL 4 (setM p.y) (matR p.m 4))
  have d := capR_len (dayL (setM p.y) (matR p.m 12) (matR p.d 31))
  have e : ∀ s : List R, s.length ≤ 400 → (coverR 1 s).length ≤ 400 := fun s h => by
    have := nf_len ((unitsR 1 s).map (cvF 1))
    have u := unitsR_len (k := 1) h
    unfold coverR
    rw [List.length_map] at this
    omega
  have e2 := e _ d
  repeat' split
  all_goals omega
set_option maxHeartbeats 16000000 in
set_option maxRecDepth 100000 in
theorem numbers_any (p : PT) (w : World) (hs : saneP p = true) (T : Tabs8 w) :
    Calls Tryz.prog 21 #[ptV p] w fun e w' => ∃ v' : Value, e = .returned (.tuple #[v', .bool (numB p)]) ∧ w'.ownsRow w.heap.size 37 2 v' (numR p).length (cellsR (numR p)) ∧ Kp w w' := by
  obtain ⟨k, y, m, d, rfl⟩ := pt_dest p
  unfold ptV
  obtain ⟨W0, hW⟩ : ∃ x, x = w.alloc (.cells #[.int .i64 k, .string y, .string m, .string d] 23) := ⟨_, rfl⟩
  have k0 : Kp w W0 := by rw [hW]; exact Kp.alloc _ _
  have hg : W0.heap[w.heap.size]? = some (.cells #[.int .i64 k, .string y, .string m, .string d] 23 (0, 0)) := by rw [hW]; exact heap_at _ _ _ rfl
  have HB := Lib.hid (fun w1 (q : Kp W0 w1) => show w1.cell? ⟨w.heap.size, 0, none⟩ = some (.int .i64 k) ∧ w1.cell? ⟨w.heap.size, 1, none⟩ = some (.string y) ∧ w1.cell? ⟨w.heap.size, 2, none⟩ = some (.string m) ∧ w1.cell? ⟨w.heap.size, 3, none⟩ = some (.string d) from ⟨cell_up q (by simp [World.cell?, hg]), cell_up q (by simp [World.cell?, hg]), cell_up q (by simp [World.cell?, hg]), cell_up q (by simp [World.cell?, hg])⟩)
  have HW := Lib.hid hW
  have K00 := Lib.hid k0
  have K0 := Lib.hid (Kp.refl W0)
  have TT := Lib.hid (fun w1 (q : Kp W0 w1) => T.kp (k0.trans q))
  clear hW k0 hg
  by_cases h0 : k = 0
  · subst h0
    have hm : 0 < (matR m 12).length := by simp [saneP, fitP, shp, -decide_eq_true_eq] at hs; simpa using hs.2.2.1.2
    have hd : 0 < (matR d 31).length := by simp [saneP, fitP, shp, -decide_eq_true_eq] at hs; simpa using hs.2.2.2.2
    simp only [numR, numB, if_pos]
    have CD := Lib.hid (fun v w1 (q : Kp W0 w1) (h : RunsAt w1 v (setM y)) => (show Calls Tryz.prog 38 #[v, .agg #[.int .i64 0, .string y, .string m, .string d]] w1 _ from pdays_any v (setM y) ⟨0, y, m, d⟩ w1 h (setM_inn y) (sane_apt (setM_sane y)) (setM_gd y).2 hm hd (TT.out _ q)))
    simp only at CD
    clear hs
    generalize decide ((gn (dayL (setM y) (matR m 12) (matR d 31))).length ≤ 400) = bb at *
    generalize dayR (setM y) (matR m 12) (matR d 31) = L at *
    have CS := Lib.hid (fun w1 => mset_any y w1)
    have yi := setM_inn y
    have ya := sane_apt (setM_sane y)
    have yl := (setM_gd y).2
    have yj := setM_i64 y
    generalize setM y = years at *
    go_enter Tryz.func21, Tryz.ntmps21
    go_wp2_with fail
    rw [← HW.out]
    obtain ⟨c0, c1, c2, c3⟩ := HB.out W0 (Kp.refl _)
    go_wp2_with fail
    refine (CS.out _).mono ?_
    rintro e w1 ⟨v1, rfl, own1, kk⟩
    have K1 := Lib.hid kk
    have R1 := Lib.hid (runsAt_own own1)
    have O1 := Lib.hid (own_mono own1 K00.out.size)
    obtain ⟨a1, b1, rfl⟩ := own_slice own1
    clear own1 kk c0 c1 c2 c3
    obtain ⟨c0, c1, c2, c3⟩ := HB.out w1 K1.out
    go_wp2_with fail
    refine (CD.out _ _ K1.out R1.out).mono ?_
    rintro e w2 ⟨v2, rfl, own2, kk⟩
    have K2 := Lib.hid (K1.out.trans kk)
    have O2 := Lib.hid (own_mono own2 (Nat.le_trans K00.out.size K1.out.size))
    clear own2 kk
    go_wp2
    refine bodyPost_ret (results_tmp2 rfl _ _ _) rfl ?_
    exact ⟨_, rfl, O2.out, K00.out.trans K2.out⟩
  by_cases h1 : k = 1
  · subst h1
    simp only [numR, numB, if_pos, if_neg (show ¬ (1 : Int) = 0 by decide)]
    have CM := Lib.hid (fun w1 => matching_any m 12 w1 (by decide) (by decide))
    have ip := matR_inn m 12
    have lp := matR_len m (most := 12) (by decide)
    generalize matR m 12 = parts at *
    have CP := Lib.hid (fun v u w1 (rv : RunsAt w1 u parts) (hv : RunsAt w1 v (setM y)) => parts_any 12 (.inl rfl) v u (setM y) parts w1 hv rv (setM_inn y) ip (by have := (setM_gd y).2; omega) (by omega))
    have PI := partsL_in (years := setM y) (.inl rfl) ip (setM_inn y)
    generalize partsL 12 (setM y) parts = PL at *
    have CG := Lib.hid (fun fv w1 (h : SeqR fv PL w1) => gath_any fv PL w1 h (fun r hr => by have := PI r hr; omega))
    generalize capR PL = L at *
    generalize decide ((gn PL).length ≤ 400) = bb at *
    clear hs ip PI lp
    have CS := Lib.hid (fun w1 => mset_any y w1)
    have yi := setM_inn y
    have ya := sane_apt (setM_sane y)
    have yl := (setM_gd y).2
    have yj := setM_i64 y
    generalize setM y = years at *
    go_enter Tryz.func21, Tryz.ntmps21
    go_wp2_with fail
    rw [← HW.out]
    obtain ⟨c0, c1, c2, c3⟩ := HB.out W0 (Kp.refl _)
    go_wp2_with fail
    refine (CS.out _).mono ?_
    rintro e w1 ⟨v1, rfl, own1, kk⟩
    have K1 := Lib.hid kk
    have R1 := Lib.hid (runsAt_own own1)
    have O1 := Lib.hid (own_mono own1 K00.out.size)
    obtain ⟨a1, b1, rfl⟩ := own_slice own1
    clear own1 kk c0 c1 c2 c3
    obtain ⟨c0, c1, c2, c3⟩ := HB.out w1 K1.out
    have t3 : w1.cell? ⟨0, 8, none⟩ = some (.int .i64 12) := (TT.out _ K1.out).2.1.cell 8 (by omega)
    have RY1 := R1
    go_wp2_with fail
    refine (CM.out _).mono ?_
    rintro e w2 ⟨v2, rfl, own2, kk⟩
    have K2 := Lib.hid (K1.out.trans kk)
    have RY2 := Lib.hid (RY1.out.kp kk)
    have R2 := Lib.hid (runsAt_own own2)
    obtain ⟨a2, b2, rfl⟩ := own_slice own2
    clear own2 kk c0 c1 c2 c3 t3
    go_wp2_with fail
    refine (CP.out _ _ _ R2.out RY2.out).mono ?_
    rintro e w3 ⟨fv, rfl, sq, kk⟩
    have SQ := Lib.hid sq
    have K3 := Lib.hid (K2.out.trans kk)
    clear sq kk
    go_wp2_with fail
    refine (CG.out fv _ SQ.out).mono ?_
    rintro e w4 ⟨v4, rfl, own4, kk⟩
    have K4 := Lib.hid (K3.out.trans kk)
    have O4 := Lib.hid (own_mono own4 (Nat.le_trans K00.out.size K3.out.size))
    clear own4 kk
    go_wp2
    refine bodyPost_ret (results_tmp2 rfl _ _ _) rfl ?_
    exact ⟨_, rfl, O4.out, K00.out.trans K4.out⟩
  by_cases h2 : k = 2
  · subst h2
    simp only [numR, numB, if_pos, if_neg (show ¬ (2 : Int) = 0 by decide), if_neg (show ¬ (2 : Int) = 1 by decide)]
    have CM := Lib.hid (fun w1 => matching_any m 4 w1 (by decide) (by decide))
    have ip := matR_inn m 4
    have lp := matR_len m (most := 4) (by decide)
    generalize matR m 4 = parts at *
    have CP := Lib.hid (fun v u w1 (rv : RunsAt w1 u parts) (hv : RunsAt w1 v (setM y)) => parts_any 4 (.inr rfl) v u (setM y) parts w1 hv rv (setM_inn y) ip (by have := (setM_gd y).2; omega) (by omega))
    have PI := partsL_in (years := setM y) (.inr rfl) ip (setM_inn y)
    generalize partsL 4 (setM y) parts = PL at *
    have CG := Lib.hid (fun fv w1 (h : SeqR fv PL w1) => gath_any fv PL w1 h (fun r hr => by have := PI r hr; omega))
    generalize capR PL = L at *
    generalize decide ((gn PL).length ≤ 400) = bb at *
    clear hs ip PI lp
    have CS := Lib.hid (fun w1 => mset_any y w1)
    have yi := setM_inn y
    have ya := sane_apt (setM_sane y)
    have yl := (setM_gd y).2
    have yj := setM_i64 y
    generalize setM y = years at *
    go_enter Tryz.func21, Tryz.ntmps21
    go_wp2_with fail
    rw [← HW.out]
    obtain ⟨c0, c1, c2, c3⟩ := HB.out W0 (Kp.refl _)
    go_wp2_with fail
    refine (CS.out _).mono ?_
    rintro e w1 ⟨v1, rfl, own1, kk⟩
    have K1 := Lib.hid kk
    have R1 := Lib.hid (runsAt_own own1)
    have O1 := Lib.hid (own_mono own1 K00.out.size)
    obtain ⟨a1, b1, rfl⟩ := own_slice own1
    clear own1 kk c0 c1 c2 c3
    obtain ⟨c0, c1, c2, c3⟩ := HB.out w1 K1.out
    have t3 : w1.cell? ⟨0, 13, none⟩ = some (.int .i64 4) := (TT.out _ K1.out).2.1.cell 13 (by omega)
    have RY1 := R1
    go_wp2_with fail
    refine (CM.out _).mono ?_
    rintro e w2 ⟨v2, rfl, own2, kk⟩
    have K2 := Lib.hid (K1.out.trans kk)
    have RY2 := Lib.hid (RY1.out.kp kk)
    have R2 := Lib.hid (runsAt_own own2)
    obtain ⟨a2, b2, rfl⟩ := own_slice own2
    clear own2 kk c0 c1 c2 c3 t3
    go_wp2_with fail
    refine (CP.out _ _ _ R2.out RY2.out).mono ?_
    rintro e w3 ⟨fv, rfl, sq, kk⟩
    have SQ := Lib.hid sq
    have K3 := Lib.hid (K2.out.trans kk)
    clear sq kk
    go_wp2_with fail
    refine (CG.out fv _ SQ.out).mono ?_
    rintro e w4 ⟨v4, rfl, own4, kk⟩
    have K4 := Lib.hid (K3.out.trans kk)
    have O4 := Lib.hid (own_mono own4 (Nat.le_trans K00.out.size K3.out.size))
    clear own4 kk
    go_wp2
    refine bodyPost_ret (results_tmp2 rfl _ _ _) rfl ?_
    exact ⟨_, rfl, O4.out, K00.out.trans K4.out⟩
  simp only [numR, numB, if_neg h0, if_neg h1, if_neg h2]
  have CW := Lib.hid (fun v w1 (h : RunsAt w1 v (setM y)) => wide_any v (setM y) w1 h (setM_i64 y) (by have := (setM_gd y).2; omega))
  generalize decide (400 < (nf (setM y)).length) = bb at *
  clear hs
  have q0 : (k == 0) = false := beq_eq_false_iff_ne.2 h0
  have q1 : (k == 1) = false := beq_eq_false_iff_ne.2 h1
  have q2 : (k == 2) = false := beq_eq_false_iff_ne.2 h2
  have CS := Lib.hid (fun w1 => mset_any y w1)
  have yi := setM_inn y
  have ya := sane_apt (setM_sane y)
  have yl := (setM_gd y).2
  have yj := setM_i64 y
  generalize setM y = years at *
  go_enter Tryz.func21, Tryz.ntmps21
  go_wp2_with fail
  rw [← HW.out]
  obtain ⟨c0, c1, c2, c3⟩ := HB.out W0 (Kp.refl _)
  go_wp2_with fail
  refine (CS.out _).mono ?_
  rintro e w1 ⟨v1, rfl, own1, kk⟩
  have K1 := Lib.hid kk
  have R1 := Lib.hid (runsAt_own own1)
  have O1 := Lib.hid (own_mono own1 K00.out.size)
  obtain ⟨a1, b1, rfl⟩ := own_slice own1
  clear own1 kk c0 c1 c2 c3
  obtain ⟨c0, c1, c2, c3⟩ := HB.out w1 K1.out
  go_wp2_with fail
  refine (CW.out _ _ R1.out).mono ?_
  rintro e w2 ⟨rfl, kk⟩
  have K2 := Lib.hid (K1.out.trans kk)
  have O2 := Lib.hid (own_kp O1.out kk)
  clear kk
  go_wp2
  refine bodyPost_ret (results_tmp2 rfl _ _ _) rfl ?_
  exact ⟨_, rfl, O2.out, K00.out.trans K2.out⟩
end Go.Proofs.YtinpglfclbnhlaaGreatDoor

namespace Go.Proofs.YtinpglfclbnhlaaGreatDoor
open Go.RowKit
set_option linter.unusedVariables false
set_option linter.unusedSimpArgs false
theorem inL_memR {l : List R} {a b : Int} (h : Inn a b l) (ha : -1000000000 ≤ a) (hb : b ≤ 1000000000) (n : Int) : memR l n ↔ inL l n := by
  constructor
  · rintro ⟨r, hr, h1, h2, _⟩
    exact ⟨r, hr, h1, h2⟩
  · rintro ⟨r, hr, h1, h2⟩
    have := h r hr
    exact ⟨r, hr, h1, h2, by omega, by omega⟩
theorem setM_in (s : ByteArray) (n : Int) : inL (setM s) n ↔ matchM s n = true := by
  rw [← setM_has, has_sane (setM_sane s)]
  exact Iff.rfl
theorem matR_in (s : ByteArray) {most : Int} (hm : most ≤ 100) (n : Int) : inL (matR s most) n ↔ matchM s n = true ∧ 1 ≤ n ∧ n ≤ most := by
  rw [← inL_memR (matR_inn s most) (by decide) (by omega)]
  unfold matR
  rw [interR_mem, inL_memR (setM_inn s) (by decide) (by decide), setM_in]
  constructor
  · rintro ⟨h, r, hr, h1, h2, _⟩
    rw [List.mem_singleton.1 hr] at h1 h2
    exact ⟨h, h1, h2⟩
  · rintro ⟨h, h1, h2⟩
    exact ⟨h, (1, most), by simp, h1, h2, by omega, by omega⟩
theorem capR_in {L : List R} {a b : Int} (h : Inn a b L) (ap : apt L) (ha : -1000000000 ≤ a) (hb : b ≤ 1000000000) (hc : (gn L).length ≤ 400) (n : Int) : inL (capR L) n ↔ inL L n := by
  rw [← inL_memR (capR_inn ha hb h ap) ha hb]
  unfold capR
  rw [if_pos hc, gn_nf (fun r hr => by have := h r hr; exact ⟨this.2.1, by omega, by omega⟩) ap, nf_mem, inL_memR h ha hb]
theorem capR_sane {L : List R} {a b : Int} (h : Inn a b L) (ap : apt L) (ha : -1000000000 ≤ a) (hb : b ≤ 1000000000) : sane (capR L) := by
  unfold capR
  split
  · rw [gn_nf (fun r hr => by have := h r hr; exact ⟨this.2.1, by omega, by omega⟩) ap]
    exact nf_sane _
  · exact trivial
theorem mon_at {y m : Int} (h0 : 0 ≤ y) (h1 : 1 ≤ m) (h2 : m ≤ 12) : mon (12 * y + m - 1) = sty y + cum y m ∧ mon (12 * y + m - 1 + 1) = sty y + cum y m + dim y m := by
  have e1 : (12 * y + m - 1) / 12 = y := by omega
  have e2 : (12 * y + m - 1) % 12 + 1 = m := by omega
  have a : mon (12 * y + m - 1) = sty y + cum y m := by unfold mon; rw [e1, e2]
  refine ⟨a, ?_⟩
  rw [mon_succ _ (by omega), a, e1, e2]
theorem dim_zero (y m : Int) : dim y m ≤ dim 0 m := by
  have : lpB 0 = true := by decide
  unfold dim
  rw [this]
  (repeat' split) <;> first | omega | (simp_all)
theorem known_first {l : List R} (ap : apt l) (hok : ∀ r ∈ l, r.1 ≤ r.2) {d : Int} (h : inL l d) : (kn0 l).1 ≤ d := by
  obtain ⟨r, hr, h1, h2⟩ := h
  match l, ap, hr with
  | q :: t, ap, hr =>
    have hp := List.pairwise_cons.1 ap
    have e : kn0 (q :: t) = q := rfl
    rw [e]
    rcases List.mem_cons.1 hr with rfl | hr
    · exact h1
    · have := hp.1 r hr
      have := hok q (by simp)
      omega
/-- is a unit one of the point's? -/
noncomputable def inU (p : PT) (i : Int) : Bool :=
  if p.k = 0 then decide (0 < (dte i).2.1) && (matchM p.y (dte i).1 && (matchM p.m (dte i).2.1 && matchM p.d (dte i).2.2))
  else if p.k = 1 then decide (0 ≤ i) && (matchM p.y (i / 12) && matchM p.m (i % 12 + 1))
  else if p.k = 2 then decide (0 ≤ i) && (matchM p.y (i / 4) && matchM p.m (i % 4 + 1)) else matchM p.y i
theorem sane_day {p : PT} (hs : saneP p = true) (h : p.k = 0) : 0 < (matR p.m 12).length ∧ 0 < (matR p.d 31).length := by
  obtain ⟨k, y, m, d⟩ := p
  simp only at h
  subst h
  constructor
  · simp [saneP, fitP, shp, -decide_eq_true_eq] at hs; simpa using hs.2.2.1.2
  · simp [saneP, fitP, shp, -decide_eq_true_eq] at hs; simpa using hs.2.2.2.2
theorem partsL_in2 {most : Int} {years parts : List R} (hm : most = 12 ∨ most = 4) (hp : Inn 1 most parts) (hy : Inn 0 9999 years) (n : Int) : inL (partsL most years parts) n ↔ ∃ y m, inL years y ∧ inL parts m ∧ n = most * y + m - 1 := partsL_mem hm hp hy n
theorem day_in (y m d : ByteArray) (hm : 0 < (matR m 12).length) (hd : 0 < (matR d 31).length) (hb : (gn (dayL (setM y) (matR m 12) (matR d 31))).length ≤ 400) (i : Int) :
    inL (dayR (setM y) (matR m 12) (matR d 31)) i ↔ 0 < (dte i).2.1 ∧ matchM y (dte i).1 = true ∧ matchM m (dte i).2.1 = true ∧ matchM d (dte i).2.2 = true := by
  have iy := setM_inn y
  have ay := sane_apt (setM_sane y)
  have ip := matR_inn m 12
  have ap := sane_apt (matR_sane m 12)
  have ik := matR_inn d 31
  have ak := sane_apt (matR_sane d 31)
  have M1 := fun n => setM_in y n
  have M2 := fun n => matR_in m (most := 12) (by decide) n
  have M3 := fun n => matR_in d (most := 31) (by decide) n
  unfold dayR dayL at *
  generalize setM y = years at *
  generalize matR m 12 = parts at *
  generalize matR d 31 = known at *
  have DR : 0 < (dte i).2.1 → 0 ≤ i ∧ i ≤ 3652424 ∧ vldB (dte i).1 (dte i).2.1 (dte i).2.2 = true ∧ num (dte i).1 (dte i).2.1 (dte i).2.2 = i := by
    intro h
    by_cases c : 0 ≤ i ∧ i ≤ 3652424
    · exact ⟨c.1, c.2, dte_yes i c.1 c.2⟩
    · rw [dte_no i (by omega)] at h
      simp at h
  by_cases hq : kn0 known = (1, 31)
  · rw [if_pos hq] at hb ⊢
    rw [if_pos hq]
    have PI := partsL_in (years := years) (.inl rfl) ip iy
    have PA := partsL_apt (years := years) (.inl rfl) ip iy ap ay
    rw [← inL_memR (a := 0) (b := 3652424) (fun r hr => by
      have s := sane_ok (nf_sane _) r hr
      have g : ∀ n, memR (coverR 1 (capR (partsL 12 years parts))) n → 0 ≤ n ∧ n ≤ 3652424 := fun n hn => by
        have := ((coverR_mem 1 _ n).1 hn).1
        have := (okO_iff 1 n).1 this
        omega
      exact sane_inn (nf_sane _) g r hr) (by decide) (by decide), coverR_mem]
    have hk31 : ∀ x, 1 ≤ x → x ≤ 31 → inL known x := fun x h1 h2 => by
      match known, hd, hq with
      | q :: t, _, hq =>
        refine ⟨q, by simp, ?_, ?_⟩
        · rw [show q = (1, 31) from hq]; exact h1
        · rw [show q = (1, 31) from hq]; exact h2
    rw [inL_memR (capR_inn (by decide) (by decide) PI PA) (by decide) (by decide), capR_in PI PA (by decide) (by decide) hb, partsL_in2 (.inl rfl) ip iy, show unum 1 i = 12 * (dte i).1 + (dte i).2.1 - 1 from rfl]
    constructor
    · rintro ⟨ho, y', m', h1, h2, h3⟩
      have o := (okO_iff 1 i).1 ho
      have v := vld_bd (dte_yes i (by omega) (by omega)).1
      obtain ⟨g1, g2, g3⟩ := (M2 m').1 h2
      obtain rfl : y' = (dte i).1 := by omega
      obtain rfl : m' = (dte i).2.1 := by omega
      exact ⟨by omega, (M1 _).1 h1, g1, ((M3 _).1 (hk31 _ (by omega) (by omega))).1⟩
    · rintro ⟨h0, h1, h2, h3⟩
      obtain ⟨a, b, v, e⟩ := DR h0
      have vb := vld_bd v
      exact ⟨(okO_iff 1 i).2 ⟨by decide, a, b, by omega⟩, _, _, (M1 _).2 h1, (M2 _).2 ⟨h2, by omega, by omega⟩, rfl⟩
  · rw [if_neg hq] at hb ⊢
    rw [if_neg hq]
    have LI := longR_in (d := (kn0 known).1) ip
    have LA := longR_apt (d := (kn0 known).1) ap
    have PI := partsL_in (years := years) (.inl rfl) LI iy
    have PA := partsL_apt (years := years) (.inl rfl) LI iy LA ay
    have DI := daysL_in ik PI
    have DA := daysL_apt ik PI ak PA
    rw [capR_in DI DA (by decide) (by decide) hb]
    rw [show inL (daysL (partsL 12 years (longR parts (kn0 known).1)) known) i ↔ _ from daysL_mem ik i]
    constructor
    · rintro ⟨M, d', h1, h2, h3, h4⟩
      obtain ⟨y', m', g1, g2, rfl⟩ := (partsL_in2 (.inl rfl) LI iy M).1 h1
      obtain ⟨g3, g4⟩ := (longR_mem parts _ m').1 g2
      obtain ⟨k1, k2, k3⟩ := (M2 m').1 g3
      obtain ⟨j1, j2, j3⟩ := (M3 d').1 h2
      obtain ⟨r, hr, r1, r2⟩ := g1
      have rb := iy r hr
      obtain ⟨e1, e2⟩ := mon_at (y := y') (m := m') (by omega) k2 k3
      have de := dte_at (n := i) (y := y') (m := m') (by omega) (by omega) k2 k3 (by omega) (by omega)
      rw [de]
      simp only
      refine ⟨by omega, (M1 _).1 ⟨r, hr, r1, r2⟩, k1, ?_⟩
      rw [show i - sty y' - cum y' m' + 1 = d' by omega]
      exact j1
    · rintro ⟨h0, h1, h2, h3⟩
      obtain ⟨a, b, v, e⟩ := DR h0
      have vb := vld_bd v
      generalize dte i = q at *
      obtain ⟨y', m', d'⟩ := q
      simp only at *
      obtain ⟨e1, e2⟩ := mon_at (y := y') (m := m') (by omega) (by omega) (by omega)
      have hk : inL known d' := (M3 _).2 ⟨h3, by omega, by omega⟩
      have kf := known_first ak (fun r hr => (ik r hr).2.1) hk
      unfold num at e
      have ms := mon_succ (m' - 1) (by omega)
      rw [show (m' - 1) / 12 = 0 by omega, show (m' - 1) % 12 + 1 = m' by omega, show m' - 1 + 1 = m' by omega] at ms
      have dz := dim_zero y' m'
      refine ⟨12 * y' + m' - 1, d', (partsL_in2 (.inl rfl) LI iy _).2 ⟨y', m', (M1 _).2 h1, (longR_mem parts _ m').2 ⟨(M2 _).2 ⟨h2, by omega, by omega⟩, by omega⟩, rfl⟩, hk, by omega, by omega⟩
theorem numR_in {p : PT} (hs : saneP p = true) (hb : numB p = true) (i : Int) : inL (numR p) i ↔ inU p i = true := by
  have hd := sane_day hs
  unfold numR inU
  unfold numB at hb
  by_cases h0 : p.k = 0
  · rw [if_pos h0] at hb ⊢
    rw [if_pos h0, day_in p.y p.m p.d (hd h0).1 (hd h0).2 (of_decide_eq_true hb)]
    simp
  · rw [if_neg h0] at hb ⊢
    rw [if_neg h0]
    by_cases h1 : p.k = 1
    · rw [if_pos h1] at hb ⊢
      rw [if_pos h1]
      have PI := partsL_in (years := setM p.y) (.inl rfl) (matR_inn p.m 12) (setM_inn p.y)
      have PA := partsL_apt (years := setM p.y) (.inl rfl) (matR_inn p.m 12) (setM_inn p.y) (sane_apt (matR_sane _ _)) (sane_apt (setM_sane _))
      rw [capR_in PI PA (by decide) (by decide) (of_decide_eq_true hb), partsL_in2 (.inl rfl) (matR_inn p.m 12) (setM_inn p.y)]
      simp only [setM_in, matR_in p.m (show (12 : Int) ≤ 100 by decide), Bool.and_eq_true, decide_eq_true_eq]
      constructor
      · rintro ⟨y, m, a, ⟨b, c, d⟩, rfl⟩
        obtain ⟨r, hr, r1, r2⟩ := (setM_in p.y y).2 a
        have := setM_inn p.y r hr
        rw [show (12 * y + m - 1) / 12 = y by omega, show (12 * y + m - 1) % 12 + 1 = m by omega]
        exact ⟨by omega, a, b⟩
      · rintro ⟨a, b, c⟩
        exact ⟨_, _, b, ⟨c, by omega, by omega⟩, by omega⟩
    · rw [if_neg h1] at hb ⊢
      rw [if_neg h1]
      by_cases h2 : p.k = 2
      · rw [if_pos h2] at hb ⊢
        rw [if_pos h2]
        have PI := partsL_in (years := setM p.y) (.inr rfl) (matR_inn p.m 4) (setM_inn p.y)
        have PA := partsL_apt (years := setM p.y) (.inr rfl) (matR_inn p.m 4) (setM_inn p.y) (sane_apt (matR_sane _ _)) (sane_apt (setM_sane _))
        rw [capR_in PI PA (by decide) (by decide) (of_decide_eq_true hb), partsL_in2 (.inr rfl) (matR_inn p.m 4) (setM_inn p.y)]
        simp only [setM_in, matR_in p.m (show (4 : Int) ≤ 100 by decide), Bool.and_eq_true, decide_eq_true_eq]
        constructor
        · rintro ⟨y, m, a, ⟨b, c, d⟩, rfl⟩
          obtain ⟨r, hr, r1, r2⟩ := (setM_in p.y y).2 a
          have := setM_inn p.y r hr
          rw [show (4 * y + m - 1) / 4 = y by omega, show (4 * y + m - 1) % 4 + 1 = m by omega]
          exact ⟨by omega, a, b⟩
        · rintro ⟨a, b, c⟩
          exact ⟨_, _, b, ⟨c, by omega, by omega⟩, by omega⟩
      · rw [if_neg h2, if_neg h2]
        exact setM_in p.y i
theorem dayL_bd {years parts known : List R} (iy : Inn 0 9999 years) (ay : apt years) (ip : Inn 1 12 parts) (ap : apt parts) (ik : Inn 1 31 known) (ak : apt known) : Inn 0 3652424 (dayL years parts known) ∧ apt (dayL years parts known) := by
  unfold dayL
  split
  · refine ⟨fun r hr => ?_, partsL_apt (.inl rfl) ip iy ap ay⟩
    have := partsL_in (years := years) (.inl rfl) ip iy r hr
    omega
  · have LI := longR_in (d := (kn0 known).1) ip
    have PI := partsL_in (years := years) (.inl rfl) LI iy
    exact ⟨daysL_in ik PI, daysL_apt ik PI ak (partsL_apt (.inl rfl) LI iy (longR_apt ap) ay)⟩
theorem coverS (k : Int) (s : List R) : sane (coverR k s) := nf_sane _
theorem dayS {years parts known : List R} (iy : Inn 0 9999 years) (ay : apt years) (ip : Inn 1 12 parts) (ap : apt parts) (ik : Inn 1 31 known) (ak : apt known) : sane (dayR years parts known) := by
  have b := dayL_bd iy ay ip ap ik ak
  have c := capR_sane b.1 b.2 (by decide) (by decide)
  unfold dayR
  by_cases hq : kn0 known = (1, 31)
  · rw [if_pos hq]; exact coverS _ _
  · rw [if_neg hq]; exact c
theorem numR_sane (p : PT) : sane (numR p) := by
  have a := dayS (setM_inn p.y) (sane_apt (setM_sane p.y)) (matR_inn p.m 12) (sane_apt (matR_sane p.m 12)) (matR_inn p.d 31) (sane_apt (matR_sane p.d 31))
  have b := capR_sane (partsL_in (.inl rfl) (matR_inn p.m 12) (setM_inn p.y)) (partsL_apt (.inl rfl) (matR_inn _ _) (setM_inn _) (sane_apt (matR_sane _ _)) (sane_apt (setM_sane _))) (by decide) (by decide)
  have c := capR_sane (partsL_in (.inr rfl) (matR_inn p.m 4) (setM_inn p.y)) (partsL_apt (.inr rfl) (matR_inn _ _) (setM_inn _) (sane_apt (matR_sane _ _)) (sane_apt (setM_sane _))) (by decide) (by decide)
  unfold numR
  by_cases h0 : p.k = 0
  · rw [if_pos h0]; exact a
  · rw [if_neg h0]
    by_cases h1 : p.k = 1
    · rw [if_pos h1]; exact b
    · rw [if_neg h1]
      by_cases h2 : p.k = 2
      · rw [if_pos h2]; exact c
      · rw [if_neg h2]; exact setM_sane _
theorem numR_i64 (p : PT) : I64R (numR p) := sane_i64 (numR_sane p)
end Go.Proofs.YtinpglfclbnhlaaGreatDoor

namespace Go.Proofs.YtinpglfclbnhlaaGreatDoor
open Go.RowKit Go.Shelf
set_option linter.unusedVariables false
set_option linter.unusedSimpArgs false
def growR (p : PT) : List R := interR (nf (shR (-(grK (radV p.k))) (grK (radV p.k)) (nf (setS p)))) [(0, cnt p.k - 1)]
def nearE (p : PT) : Int := if setE p = 0 then (if edgB p.k (growR p) = true then 0 else 8) else setE p
def nearS (p : PT) : List R := if setE p = 0 then (if edgB p.k (growR p) = true then growR p else []) else []
theorem setS_len (p : PT) : (setS p).length ≤ 100000 := by
  have := numR_len p
  unfold setS
  repeat' split
  all_goals simp
  all_goals omega
theorem setS_i64 (p : PT) : I64R (setS p) := by
  have := numR_i64 p
  unfold setS
  repeat' split
  all_goals first | exact this | (intro r hr; cases hr)
theorem growR_len (p : PT) : (growR p).length ≤ 1000000 := by
  have a := setS_len p
  have b := nf_len (setS p)
  have c := nf_len (shR (-(grK (radV p.k))) (grK (radV p.k)) (nf (setS p)))
  rw [shR_len] at c
  have d := interR_bd (a := nf (shR (-(grK (radV p.k))) (grK (radV p.k)) (nf (setS p)))) (b := [(0, cnt p.k - 1)]) (p := 100000) (q := 1) (by omega) (by simp)
  unfold growR
  omega
theorem radV_bd (k : Int) : 0 ≤ radV k ∧ radV k ≤ 3 := by unfold radV; (repeat' split) <;> omega
set_option maxHeartbeats 16000000 in
set_option maxRecDepth 100000 in
theorem pset_any (p : PT) (w : World) (T : Tabs8 w) :
    Calls Tryz.prog 8 #[ptV p] w fun e w' => ∃ v' : Value, e = .returned (.tuple #[v', .int .i64 (setE p)]) ∧ w'.ownsRow w.heap.size 37 2 v' (setS p).length (cellsR (setS p)) ∧ Kp w w' := by
  obtain ⟨k, y, m, d, rfl⟩ := pt_dest p
  obtain ⟨W0, hW⟩ : ∃ x, x = w.alloc (.cells #[.int .i64 k, .string y, .string m, .string d] 23) := ⟨_, rfl⟩
  have k0 : Kp w W0 := by rw [hW]; exact Kp.alloc _ _
  have hg : W0.heap[w.heap.size]? = some (.cells #[.int .i64 k, .string y, .string m, .string d] 23 (0, 0)) := by rw [hW]; exact heap_at _ _ _ rfl
  have HB := Lib.hid (fun w1 (q : Kp W0 w1) => show w1.cell? ⟨w.heap.size, 0, none⟩ = some (.int .i64 k) ∧ w1.cell? ⟨w.heap.size, 1, none⟩ = some (.string y) ∧ w1.cell? ⟨w.heap.size, 2, none⟩ = some (.string m) ∧ w1.cell? ⟨w.heap.size, 3, none⟩ = some (.string d) from ⟨cell_up q (by simp [World.cell?, hg]), cell_up q (by simp [World.cell?, hg]), cell_up q (by simp [World.cell?, hg]), cell_up q (by simp [World.cell?, hg])⟩)
  have HW := Lib.hid hW
  have K00 := Lib.hid k0
  have K0 := Lib.hid (Kp.refl W0)
  have TT := Lib.hid (fun w1 (q : Kp W0 w1) => T.kp (k0.trans q))
  clear hW k0 hg
  have CS := Lib.hid (fun w1 (q : Kp W0 w1) => (show Calls Tryz.prog 13 #[.agg #[.int .i64 k, .string y, .string m, .string d]] w1 _ from ptSane_any ⟨k, y, m, d⟩ w1 (TT.out _ q).2.1))
  have CN := fun w1 (q : Kp W0 w1) (hs : saneP ⟨k, y, m, d⟩ = true) => (show Calls Tryz.prog 21 #[.agg #[.int .i64 k, .string y, .string m, .string d]] w1 _ from numbers_any ⟨k, y, m, d⟩ w1 hs (TT.out _ q))
  have CE := Lib.hid (fun v w1 (h : RunsAt w1 v (numR ⟨k, y, m, d⟩)) (q : Kp W0 w1) => narrowP_any k v (numR ⟨k, y, m, d⟩) w1 h (numR_i64 _) (by have := numR_len ⟨k, y, m, d⟩; omega) (TT.out _ q).1)
  unfold setE setS ptV
  simp only
  generalize edgB k (numR ⟨k, y, m, d⟩) = be at *
  generalize numR ⟨k, y, m, d⟩ = L at *
  generalize numB ⟨k, y, m, d⟩ = bn at *
  rcases Bool.eq_false_or_eq_true (saneP ⟨k, y, m, d⟩) with hs | hs
  · rw [hs] at CS ⊢
    have CN := Lib.hid (fun w1 (q : Kp W0 w1) => CN w1 q hs)
    clear hs
    rw [if_pos rfl, if_pos rfl]
    cases bn with
    | true =>
      rw [if_pos rfl, if_pos rfl]
      cases be with
      | true =>
        rw [if_pos rfl, if_pos rfl]
        rw [if_pos rfl] at CE
        go_enter Tryz.func8, Tryz.ntmps8
        go_wp2_with fail
        rw [← HW.out]
        obtain ⟨c0, c1, c2, c3⟩ := HB.out W0 (Kp.refl _)
        (try go_wp2_with fail)
        refine (CS.out _ (Kp.refl _)).mono ?_
        rintro e w1 ⟨rfl, kk⟩
        have K1 := Lib.hid kk
        clear kk c0 c1 c2 c3
        obtain ⟨c0, c1, c2, c3⟩ := HB.out w1 K1.out
        go_wp2_with fail
        refine (CN.out _ K1.out).mono ?_
        rintro e w2 ⟨v2, rfl, own2, kk⟩
        have K2 := Lib.hid (K1.out.trans kk)
        have R2 := Lib.hid (runsAt_own own2)
        have O2 := Lib.hid (own_mono own2 (Nat.le_trans K00.out.size K1.out.size))
        obtain ⟨a2, b2, rfl⟩ := own_slice own2
        clear own2 kk c0 c1 c2 c3
        obtain ⟨c0, c1, c2, c3⟩ := HB.out w2 K2.out
        go_wp2_with fail
        refine (CE.out _ _ R2.out K2.out).mono ?_
        rintro e w3 ⟨rfl, kk⟩
        have K3 := Lib.hid (K2.out.trans kk)
        have O3 := Lib.hid (own_kp O2.out kk)
        clear kk
        simp only [if_true]
        go_wp2
        refine bodyPost_ret (results_tmp2 rfl _ _ _) rfl ?_
        exact ⟨_, rfl, O3.out, K00.out.trans K3.out⟩
      | false =>
        rw [if_neg (by decide), if_neg (by decide)]
        go_enter Tryz.func8, Tryz.ntmps8
        go_wp2_with fail
        rw [← HW.out]
        obtain ⟨c0, c1, c2, c3⟩ := HB.out W0 (Kp.refl _)
        (try go_wp2_with fail)
        refine (CS.out _ (Kp.refl _)).mono ?_
        rintro e w1 ⟨rfl, kk⟩
        have K1 := Lib.hid kk
        clear kk c0 c1 c2 c3
        obtain ⟨c0, c1, c2, c3⟩ := HB.out w1 K1.out
        go_wp2_with fail
        refine (CN.out _ K1.out).mono ?_
        rintro e w2 ⟨v2, rfl, own2, kk⟩
        have K2 := Lib.hid (K1.out.trans kk)
        have R2 := Lib.hid (runsAt_own own2)
        have O2 := Lib.hid (own_mono own2 (Nat.le_trans K00.out.size K1.out.size))
        obtain ⟨a2, b2, rfl⟩ := own_slice own2
        clear own2 kk c0 c1 c2 c3
        obtain ⟨c0, c1, c2, c3⟩ := HB.out w2 K2.out
        go_wp2_with fail
        refine (CE.out _ _ R2.out K2.out).mono ?_
        rintro e w3 ⟨rfl, kk⟩
        have K3 := Lib.hid (K2.out.trans kk)
        clear kk
        simp only [Bool.false_eq_true, if_false]
        go_wp2
        refine bodyPost_ret (results_tmp2 rfl _ _ _) rfl ?_
        exact ⟨_, rfl, World.ownsRow_nil _ _ _ _, K00.out.trans K3.out⟩
    | false =>
      rw [if_neg (by decide), if_neg (by decide)]
      go_enter Tryz.func8, Tryz.ntmps8
      go_wp2_with fail
      rw [← HW.out]
      obtain ⟨c0, c1, c2, c3⟩ := HB.out W0 (Kp.refl _)
      (try go_wp2_with fail)
      refine (CS.out _ (Kp.refl _)).mono ?_
      rintro e w1 ⟨rfl, kk⟩
      have K1 := Lib.hid kk
      clear kk c0 c1 c2 c3
      obtain ⟨c0, c1, c2, c3⟩ := HB.out w1 K1.out
      go_wp2_with fail
      refine (CN.out _ K1.out).mono ?_
      rintro e w2 ⟨v2, rfl, own2, kk⟩
      have K2 := Lib.hid (K1.out.trans kk)
      have R2 := Lib.hid (runsAt_own own2)
      have O2 := Lib.hid (own_mono own2 (Nat.le_trans K00.out.size K1.out.size))
      obtain ⟨a2, b2, rfl⟩ := own_slice own2
      clear own2 kk c0 c1 c2 c3
      obtain ⟨c0, c1, c2, c3⟩ := HB.out w2 K2.out
      go_wp2
      refine bodyPost_ret (results_tmp2 rfl _ _ _) rfl ?_
      exact ⟨_, rfl, World.ownsRow_nil _ _ _ _, K00.out.trans K2.out⟩
  · rw [hs] at CS ⊢
    clear hs CN
    rw [if_neg (by decide), if_neg (by decide)]
    go_enter Tryz.func8, Tryz.ntmps8
    go_wp2_with fail
    rw [← HW.out]
    obtain ⟨c0, c1, c2, c3⟩ := HB.out W0 (Kp.refl _)
    (try go_wp2_with fail)
    refine (CS.out _ (Kp.refl _)).mono ?_
    rintro e w1 ⟨rfl, kk⟩
    have K1 := Lib.hid kk
    clear kk c0 c1 c2 c3
    obtain ⟨c0, c1, c2, c3⟩ := HB.out w1 K1.out
    go_wp2
    refine bodyPost_ret (results_tmp2 rfl _ _ _) rfl ?_
    exact ⟨_, rfl, World.ownsRow_nil _ _ _ _, K00.out.trans K1.out⟩
abbrev nrA0 : Oper := { dst := some 20, op := Go.Op.fieldAddr 23 (Go.Operand.tmp 1) 0, type := 0, pos := "point.go:100", after := #[], guard := none }
abbrev nrA1 : Oper := { dst := some 21, op := Go.Op.load 3 (Go.Operand.tmp 20), type := 3, pos := "point.go:100", after := #[{ on := 0, ground := Go.Ground.data }], guard := none }
abbrev nrA2 : Oper := { dst := some 22, op := Go.Op.move (Go.Operand.tmp 6), type := 28, pos := "point.go:100", after := #[], guard := none }
abbrev nrA3 : Oper := { dst := some 23, op := Go.Op.fieldAddr 23 (Go.Operand.tmp 1) 0, type := 0, pos := "point.go:100", after := #[], guard := none }
abbrev nrA4 : Oper := { dst := some 24, op := Go.Op.load 3 (Go.Operand.tmp 23), type := 3, pos := "point.go:100", after := #[{ on := 3, ground := Go.Ground.data }], guard := none }
abbrev nrA5 : Oper := { dst := some 25, op := Go.Op.call { callee := Go.Callee.value (Go.Operand.func 27), args := #[Go.Operand.tmp 24], argTypes := #[3] }, type := 3, pos := "point.go:100", after := #[{ on := 4, ground := Go.Ground.data }], guard := none }
abbrev nrA6 : Oper := { dst := some 26, op := Go.Op.binOp Go.BinOp.sub 3 (Go.Operand.tmp 25) (Go.Operand.const (Go.Value.int Go.IntKind.i64 1)) 3, type := 3, pos := "point.go:100", after := #[{ on := 5, ground := Go.Ground.data }], guard := none }
abbrev nrA7 : Oper := { dst := some 27, op := Go.Op.call { callee := Go.Callee.value (Go.Operand.func 26), args := #[Go.Operand.tmp 22, Go.Operand.const (Go.Value.int Go.IntKind.i64 0), Go.Operand.tmp 26], argTypes := #[28, 3, 3] }, type := 28, pos := "point.go:100", after := #[{ on := 2, ground := Go.Ground.data }, { on := 6, ground := Go.Ground.data }, { on := 5, ground := Go.Ground.chain }], guard := none }
abbrev nrA8 : Oper := { dst := some 28, op := Go.Op.call { callee := Go.Callee.value (Go.Operand.func 22), args := #[Go.Operand.tmp 21, Go.Operand.tmp 27], argTypes := #[3, 28] }, type := 30, pos := "point.go:100", after := #[{ on := 1, ground := Go.Ground.data }, { on := 7, ground := Go.Ground.data }, { on := 7, ground := Go.Ground.chain }], guard := none }
abbrev nrA9 : Oper := { dst := some 29, op := Go.Op.extract (Go.Operand.tmp 28) 0, type := 28, pos := "point.go:100", after := #[{ on := 8, ground := Go.Ground.data }], guard := none }
abbrev nrA10 : Oper := { dst := some 30, op := Go.Op.extract (Go.Operand.tmp 28) 1, type := 29, pos := "point.go:100", after := #[{ on := 8, ground := Go.Ground.data }], guard := none }
abbrev nrA11 : Oper := { dst := some 2, op := Go.Op.assign (Go.Operand.tmp 29), type := 28, pos := "point.go:100", after := #[{ on := 9, ground := Go.Ground.data }, { on := 8, ground := Go.Ground.chain }, { on := 0, ground := Go.Ground.phase }, { on := 1, ground := Go.Ground.phase }, { on := 2, ground := Go.Ground.phase }, { on := 3, ground := Go.Ground.phase }, { on := 4, ground := Go.Ground.phase }, { on := 5, ground := Go.Ground.phase }, { on := 6, ground := Go.Ground.phase }, { on := 7, ground := Go.Ground.phase }, { on := 8, ground := Go.Ground.phase }, { on := 9, ground := Go.Ground.phase }, { on := 10, ground := Go.Ground.phase }], guard := none }
abbrev nrA12 : Oper := { dst := some 3, op := Go.Op.assign (Go.Operand.tmp 30), type := 29, pos := "point.go:100", after := #[{ on := 10, ground := Go.Ground.data }, { on := 11, ground := Go.Ground.chain }, { on := 0, ground := Go.Ground.phase }, { on := 1, ground := Go.Ground.phase }, { on := 2, ground := Go.Ground.phase }, { on := 3, ground := Go.Ground.phase }, { on := 4, ground := Go.Ground.phase }, { on := 5, ground := Go.Ground.phase }, { on := 6, ground := Go.Ground.phase }, { on := 7, ground := Go.Ground.phase }, { on := 8, ground := Go.Ground.phase }, { on := 9, ground := Go.Ground.phase }, { on := 10, ground := Go.Ground.phase }, { on := 11, ground := Go.Ground.phase }], guard := none }
set_option maxHeartbeats 16000000 in
set_option maxRecDepth 100000 in
theorem pnear_any (p : PT) (w : World) (T : Tabs8 w) :
    Calls Tryz.prog 10 #[ptV p] w fun e w' => ∃ v' : Value, e = .returned (.tuple #[v', .int .i64 (nearE p)]) ∧ w'.ownsRow w.heap.size 37 2 v' (nearS p).length (cellsR (nearS p)) ∧ Kp w w' := by
  obtain ⟨k, y, m, d, rfl⟩ := pt_dest p
  obtain ⟨W0, hW⟩ : ∃ x, x = w.alloc (.cells #[.int .i64 k, .string y, .string m, .string d] 23) := ⟨_, rfl⟩
  have k0 : Kp w W0 := by rw [hW]; exact Kp.alloc _ _
  have hg : W0.heap[w.heap.size]? = some (.cells #[.int .i64 k, .string y, .string m, .string d] 23 (0, 0)) := by rw [hW]; exact heap_at _ _ _ rfl
  have HB := Lib.hid (fun w1 (q : Kp W0 w1) => show w1.cell? ⟨w.heap.size, 0, none⟩ = some (.int .i64 k) ∧ w1.cell? ⟨w.heap.size, 1, none⟩ = some (.string y) ∧ w1.cell? ⟨w.heap.size, 2, none⟩ = some (.string m) ∧ w1.cell? ⟨w.heap.size, 3, none⟩ = some (.string d) from ⟨cell_up q (by simp [World.cell?, hg]), cell_up q (by simp [World.cell?, hg]), cell_up q (by simp [World.cell?, hg]), cell_up q (by simp [World.cell?, hg])⟩)
  have HW := Lib.hid hW
  have K00 := Lib.hid k0
  have K0 := Lib.hid (Kp.refl W0)
  have TT := Lib.hid (fun w1 (q : Kp W0 w1) => T.kp (k0.trans q))
  clear hW k0 hg
  have CS := Lib.hid (fun w1 (q : Kp W0 w1) => (show Calls Tryz.prog 8 #[.agg #[.int .i64 k, .string y, .string m, .string d]] w1 _ from pset_any ⟨k, y, m, d⟩ w1 (TT.out _ q)))
  have CR := Lib.hid (fun w1 (q : Kp W0 w1) => radius_any k w1 (TT.out _ q))
  have CU := Lib.hid (fun w1 (q : Kp W0 w1) => countC k w1 (TT.out _ q).1)
  have CG := Lib.hid (fun v w1 (h : RunsAt w1 v (setS ⟨k, y, m, d⟩)) => grow_any v (setS ⟨k, y, m, d⟩) (radV k) w1 h (setS_i64 _) (by have := setS_len ⟨k, y, m, d⟩; omega))
  have GL : (nf (shR (-(grK (radV k))) (grK (radV k)) (nf (setS ⟨k, y, m, d⟩)))).length ≤ 100000 := by
    have a := setS_len ⟨k, y, m, d⟩
    have b := nf_len (setS ⟨k, y, m, d⟩)
    have c := nf_len (shR (-(grK (radV k))) (grK (radV k)) (nf (setS ⟨k, y, m, d⟩)))
    rw [shR_len] at c
    omega
  have GS : sane (nf (shR (-(grK (radV k))) (grK (radV k)) (nf (setS ⟨k, y, m, d⟩)))) := nf_sane _
  have GRL := growR_len ⟨k, y, m, d⟩
  have ck := cnt_bd k
  unfold nearE nearS ptV
  unfold growR at *
  simp only at *
  generalize setE ⟨k, y, m, d⟩ = er at *
  generalize nf (shR (-(grK (radV k))) (grK (radV k)) (nf (setS ⟨k, y, m, d⟩))) = G at *
  have CI := Lib.hid (fun v w1 (h : RunsAt w1 v G) (q : Kp W0 w1) => clip_any v G 0 (cnt k - 1) w1 h (sane_i64 GS) (by omega) (by intro r hr; rw [List.mem_singleton.1 hr]; exact ⟨by simp only; omega, by simp only; omega, by simp only; omega, by simp only; omega⟩))
  have CE := Lib.hid (fun v w1 (h : RunsAt w1 v (interR G [(0, cnt k - 1)])) (q : Kp W0 w1) => narrowP_any k v (interR G [(0, cnt k - 1)]) w1 h (sane_i64 (interR_sane _ _)) GRL (TT.out _ q).1)
  generalize edgB k (interR G [(0, cnt k - 1)]) = be at *
  generalize interR G [(0, cnt k - 1)] = L at *
  generalize radV k = rk at *
  generalize cnt k = ckk at *
  have wj : IntKind.i64.wrap (ckk - 1) = ckk - 1 := by rw [IntKind.wrap_i64]; omega
  clear GL GS GRL
  by_cases he : er = 0
  · subst he
    rw [if_pos rfl, if_pos rfl]
    cases be with
    | true =>
      rw [if_pos rfl, if_pos rfl]
      simp only [if_true] at CE
      go_enter Tryz.func10, Tryz.ntmps10
      go_wp2_with fail
      rw [← HW.out]
      obtain ⟨c0, c1, c2, c3⟩ := HB.out W0 (Kp.refl _)
      (try go_wp2_with fail)
      refine (CS.out _ (Kp.refl _)).mono ?_
      rintro e w1 ⟨v1, rfl, own1, kk⟩
      have K1 := Lib.hid kk
      have R1 := Lib.hid (runsAt_own own1)
      obtain ⟨a1, b1, rfl⟩ := own_slice own1
      clear own1 kk c0 c1 c2 c3
      obtain ⟨c0, c1, c2, c3⟩ := HB.out w1 K1.out
      go_wp2_with fail
      refine (CR.out _ K1.out).mono ?_
      rintro e w2 ⟨rfl, rfl⟩
      go_wp2_with fail
      refine (CG.out _ _ R1.out).mono ?_
      rintro e w4 ⟨v4, rfl, own4, kk⟩
      have K4 := Lib.hid (K1.out.trans kk)
      have R4 := Lib.hid (runsAt_own own4)
      obtain ⟨a4, b4, rfl⟩ := own_slice own4
      clear own4 kk c0 c1 c2 c3
      obtain ⟨c0, c1, c2, c3⟩ := HB.out w4 K4.out
      have KS := Lib.hid (fun w' (kq : Kp w4 w') => show w'.cell? ⟨w.heap.size, 0, none⟩ = some (.int .i64 k) ∧ w'.cell? ⟨w.heap.size, 1, none⟩ = some (.string y) ∧ w'.cell? ⟨w.heap.size, 2, none⟩ = some (.string m) ∧ w'.cell? ⟨w.heap.size, 3, none⟩ = some (.string d) ∧ Kp w4 w' from ⟨(HB.out w' (K4.out.trans kq)).1, (HB.out w' (K4.out.trans kq)).2.1, (HB.out w' (K4.out.trans kq)).2.2.1, (HB.out w' (K4.out.trans kq)).2.2.2, kq⟩)
      go_wp2_with fail
      refine wp_region_held_drew (S := fun w' => w'.cell? ⟨w.heap.size, 0, none⟩ = some (.int .i64 k) ∧ w'.cell? ⟨w.heap.size, 1, none⟩ = some (.string y) ∧ w'.cell? ⟨w.heap.size, 2, none⟩ = some (.string m) ∧ w'.cell? ⟨w.heap.size, 3, none⟩ = some (.string d) ∧ Kp w4 w') (by kernel_rfl) ?_ (fun hHeld0 => ?_)
      · (try dsimp only); exact KS.out _ (by first | assumption | exact Kp.drew _)
      refine tkW (v := ?_) 0 nrA0 rfl (by kernel_rfl) (by kernel_rfl) (by kernel_rfl) (fun _ _ _ h => h) (by rfl) ?_ (by assumption) ?_
      rotate_left
      · intro w hSw; (try dsimp only at hSw); go_simp; (try with_reducible rfl)
      (try simp only [Act.put, nrA0, List.setIfInBounds_toArray, List.set_cons_zero, List.set_cons_succ])
      refine tkW (v := ?_) 1 nrA1 rfl (by kernel_rfl) (by kernel_rfl) (by kernel_rfl) (fun _ _ _ h => h) (by rfl) ?_ (by assumption) ?_
      rotate_left
      · intro w hSw; (try dsimp only at hSw); go_simp; (try with_reducible rfl)
      (try simp only [Act.put, nrA1, List.setIfInBounds_toArray, List.set_cons_zero, List.set_cons_succ])
      refine tkW (v := ?_) 2 nrA2 rfl (by kernel_rfl) (by kernel_rfl) (by kernel_rfl) (fun _ _ _ h => h) (by rfl) ?_ (by assumption) ?_
      rotate_left
      · intro w hSw; (try dsimp only at hSw); go_simp; (try with_reducible rfl)
      (try simp only [Act.put, nrA2, List.setIfInBounds_toArray, List.set_cons_zero, List.set_cons_succ])
      refine tkW (v := ?_) 3 nrA3 rfl (by kernel_rfl) (by kernel_rfl) (by kernel_rfl) (fun _ _ _ h => h) (by rfl) ?_ (by assumption) ?_
      rotate_left
      · intro w hSw; (try dsimp only at hSw); go_simp; (try with_reducible rfl)
      (try simp only [Act.put, nrA3, List.setIfInBounds_toArray, List.set_cons_zero, List.set_cons_succ])
      refine tkW (v := ?_) 4 nrA4 rfl (by kernel_rfl) (by kernel_rfl) (by kernel_rfl) (fun _ _ _ h => h) (by rfl) ?_ (by assumption) ?_
      rotate_left
      · intro w hSw; (try dsimp only at hSw); go_simp; (try with_reducible rfl)
      (try simp only [Act.put, nrA4, List.setIfInBounds_toArray, List.set_cons_zero, List.set_cons_succ])
      refine tkE 5 nrA5 rfl (by kernel_rfl) (fun K hK => ?_)
      go_simp
      (refine (CU.out _ (K4.out.trans (by first | assumption | exact Kp.drew _))).mono ?_; rintro e wu ⟨rfl, k1⟩; have k4u := Kp.trans (show Kp w4 _ from (by first | assumption | exact Kp.drew _)) k1; have k2 := Kp.trans (show Kp w4 _ from (by first | assumption | exact Kp.drew _)) k1; clear k1)
      (try go_wp2_with fail)
      refine hK.out _ _ ?_ (fun hHeld1 => ?_)
      · (try dsimp only); exact KS.out _ (by first | assumption | exact Kp.drew _)
      clear hK K hHeld0
      (try simp only [Act.put, nrA5, List.setIfInBounds_toArray, List.set_cons_zero, List.set_cons_succ])
      refine tkW (v := ?_) 6 nrA6 rfl (by kernel_rfl) (by kernel_rfl) (by kernel_rfl) (fun _ _ _ h => h) (by rfl) ?_ (by assumption) ?_
      rotate_left
      · intro w hSw; (try dsimp only at hSw); go_simp; (try with_reducible rfl)
      (try simp only [Act.put, nrA6, List.setIfInBounds_toArray, List.set_cons_zero, List.set_cons_succ])
      refine tkE 7 nrA7 rfl (by kernel_rfl) (fun K hK => ?_)
      go_simp
      (refine (CI.out _ _ (R4.out.kp (show Kp w4 _ from k4u)) (K4.out.trans (by first | assumption | exact Kp.drew _))).mono ?_; rintro e wa ⟨va, rfl, owa, k1⟩; obtain ⟨aa, ca, rfl⟩ := own_slice owa; have RA := Lib.hid (runsAt_own owa); have OA := Lib.hid (own_mono owa (Below.size (show Kp w _ from K00.out.trans (K4.out.trans (by first | assumption | exact Kp.drew _))))); clear owa; have k2 := Kp.trans (show Kp w4 _ from (by first | assumption | exact Kp.drew _)) k1; clear k1)
      (try go_wp2_with fail)
      refine hK.out _ _ ?_ (fun hHeld2 => ?_)
      · (try dsimp only); exact KS.out _ (by first | assumption | exact Kp.drew _)
      clear hK K hHeld1
      (try simp only [Act.put, nrA7, List.setIfInBounds_toArray, List.set_cons_zero, List.set_cons_succ])
      refine tkE 8 nrA8 rfl (by kernel_rfl) (fun K hK => ?_)
      go_simp
      (refine (CE.out _ _ (RA.out.kp (show Kp wa _ from (by first | with_reducible exact Kp.refl _ | with_reducible exact Kp.alloc _ _ | with_reducible exact (Kp.alloc _ _).trans (Kp.alloc _ _) | with_reducible exact ((Kp.alloc _ _).trans (Kp.alloc _ _)).trans (Kp.alloc _ _) | with_reducible exact Kp.drew _ | with_reducible exact Kp.drewN _ _))) (K4.out.trans (by first | assumption | exact Kp.drew _))).mono ?_; rintro e wb ⟨rfl, k1⟩; have O7 := Lib.hid (own_kp OA.out (Kp.trans (show Kp wa _ from (by first | with_reducible exact Kp.refl _ | with_reducible exact Kp.alloc _ _ | with_reducible exact (Kp.alloc _ _).trans (Kp.alloc _ _) | with_reducible exact ((Kp.alloc _ _).trans (Kp.alloc _ _)).trans (Kp.alloc _ _) | with_reducible exact Kp.drew _ | with_reducible exact Kp.drewN _ _)) k1)); have k2 := Kp.trans (show Kp w4 _ from (by first | assumption | exact Kp.drew _)) k1; clear k1)
      (try go_wp2_with fail)
      refine hK.out _ _ ?_ (fun hHeld3 => ?_)
      · (try dsimp only); exact KS.out _ (by first | assumption | exact Kp.drew _)
      clear hK K hHeld2
      (try simp only [Act.put, nrA8, List.setIfInBounds_toArray, List.set_cons_zero, List.set_cons_succ])
      refine tkW (v := ?_) 9 nrA9 rfl (by kernel_rfl) (by kernel_rfl) (by kernel_rfl) (fun _ _ _ h => h) (by rfl) ?_ (by assumption) ?_
      rotate_left
      · intro w hSw; (try dsimp only at hSw); go_simp; (try with_reducible rfl)
      (try simp only [Act.put, nrA9, List.setIfInBounds_toArray, List.set_cons_zero, List.set_cons_succ])
      refine tkW (v := ?_) 10 nrA10 rfl (by kernel_rfl) (by kernel_rfl) (by kernel_rfl) (fun _ _ _ h => h) (by rfl) ?_ (by assumption) ?_
      rotate_left
      · intro w hSw; (try dsimp only at hSw); go_simp; (try with_reducible rfl)
      (try simp only [Act.put, nrA10, List.setIfInBounds_toArray, List.set_cons_zero, List.set_cons_succ])
      refine tkW (v := ?_) 11 nrA11 rfl (by kernel_rfl) (by kernel_rfl) (by kernel_rfl) (fun _ _ _ h => h) (by rfl) ?_ (by assumption) ?_
      rotate_left
      · intro w hSw; (try dsimp only at hSw); go_simp; (try with_reducible rfl)
      (try simp only [Act.put, nrA11, List.setIfInBounds_toArray, List.set_cons_zero, List.set_cons_succ])
      refine tkW (v := ?_) 12 nrA12 rfl (by kernel_rfl) (by kernel_rfl) (by kernel_rfl) (fun _ _ _ h => h) (by rfl) ?_ (by assumption) ?_
      rotate_left
      · intro w hSw; (try dsimp only at hSw); go_simp; (try with_reducible rfl)
      (try simp only [Act.put, nrA12, List.setIfInBounds_toArray, List.set_cons_zero, List.set_cons_succ])
      refine wpAnyH_done (by kernel_rfl) ?_ _
      have KE := Lib.hid (K4.out.trans k2)
      go_wp2
      refine bodyPost_ret (results_tmp2 rfl _ _ _) rfl ?_
      exact ⟨_, rfl, O7.out, K00.out.trans KE.out⟩
    | false =>
      rw [if_neg (by decide), if_neg (by decide)]
      simp only [Bool.false_eq_true, if_false] at CE
      go_enter Tryz.func10, Tryz.ntmps10
      go_wp2_with fail
      rw [← HW.out]
      obtain ⟨c0, c1, c2, c3⟩ := HB.out W0 (Kp.refl _)
      (try go_wp2_with fail)
      refine (CS.out _ (Kp.refl _)).mono ?_
      rintro e w1 ⟨v1, rfl, own1, kk⟩
      have K1 := Lib.hid kk
      have R1 := Lib.hid (runsAt_own own1)
      obtain ⟨a1, b1, rfl⟩ := own_slice own1
      clear own1 kk c0 c1 c2 c3
      obtain ⟨c0, c1, c2, c3⟩ := HB.out w1 K1.out
      go_wp2_with fail
      refine (CR.out _ K1.out).mono ?_
      rintro e w2 ⟨rfl, rfl⟩
      go_wp2_with fail
      refine (CG.out _ _ R1.out).mono ?_
      rintro e w4 ⟨v4, rfl, own4, kk⟩
      have K4 := Lib.hid (K1.out.trans kk)
      have R4 := Lib.hid (runsAt_own own4)
      obtain ⟨a4, b4, rfl⟩ := own_slice own4
      clear own4 kk c0 c1 c2 c3
      obtain ⟨c0, c1, c2, c3⟩ := HB.out w4 K4.out
      have KS := Lib.hid (fun w' (kq : Kp w4 w') => show w'.cell? ⟨w.heap.size, 0, none⟩ = some (.int .i64 k) ∧ w'.cell? ⟨w.heap.size, 1, none⟩ = some (.string y) ∧ w'.cell? ⟨w.heap.size, 2, none⟩ = some (.string m) ∧ w'.cell? ⟨w.heap.size, 3, none⟩ = some (.string d) ∧ Kp w4 w' from ⟨(HB.out w' (K4.out.trans kq)).1, (HB.out w' (K4.out.trans kq)).2.1, (HB.out w' (K4.out.trans kq)).2.2.1, (HB.out w' (K4.out.trans kq)).2.2.2, kq⟩)
      go_wp2_with fail
      refine wp_region_held_drew (S := fun w' => w'.cell? ⟨w.heap.size, 0, none⟩ = some (.int .i64 k) ∧ w'.cell? ⟨w.heap.size, 1, none⟩ = some (.string y) ∧ w'.cell? ⟨w.heap.size, 2, none⟩ = some (.string m) ∧ w'.cell? ⟨w.heap.size, 3, none⟩ = some (.string d) ∧ Kp w4 w') (by kernel_rfl) ?_ (fun hHeld0 => ?_)
      · (try dsimp only); exact KS.out _ (by first | assumption | exact Kp.drew _)
      refine tkW (v := ?_) 0 nrA0 rfl (by kernel_rfl) (by kernel_rfl) (by kernel_rfl) (fun _ _ _ h => h) (by rfl) ?_ (by assumption) ?_
      rotate_left
      · intro w hSw; (try dsimp only at hSw); go_simp; (try with_reducible rfl)
      (try simp only [Act.put, nrA0, List.setIfInBounds_toArray, List.set_cons_zero, List.set_cons_succ])
      refine tkW (v := ?_) 1 nrA1 rfl (by kernel_rfl) (by kernel_rfl) (by kernel_rfl) (fun _ _ _ h => h) (by rfl) ?_ (by assumption) ?_
      rotate_left
      · intro w hSw; (try dsimp only at hSw); go_simp; (try with_reducible rfl)
      (try simp only [Act.put, nrA1, List.setIfInBounds_toArray, List.set_cons_zero, List.set_cons_succ])
      refine tkW (v := ?_) 2 nrA2 rfl (by kernel_rfl) (by kernel_rfl) (by kernel_rfl) (fun _ _ _ h => h) (by rfl) ?_ (by assumption) ?_
      rotate_left
      · intro w hSw; (try dsimp only at hSw); go_simp; (try with_reducible rfl)
      (try simp only [Act.put, nrA2, List.setIfInBounds_toArray, List.set_cons_zero, List.set_cons_succ])
      refine tkW (v := ?_) 3 nrA3 rfl (by kernel_rfl) (by kernel_rfl) (by kernel_rfl) (fun _ _ _ h => h) (by rfl) ?_ (by assumption) ?_
      rotate_left
      · intro w hSw; (try dsimp only at hSw); go_simp; (try with_reducible rfl)
      (try simp only [Act.put, nrA3, List.setIfInBounds_toArray, List.set_cons_zero, List.set_cons_succ])
      refine tkW (v := ?_) 4 nrA4 rfl (by kernel_rfl) (by kernel_rfl) (by kernel_rfl) (fun _ _ _ h => h) (by rfl) ?_ (by assumption) ?_
      rotate_left
      · intro w hSw; (try dsimp only at hSw); go_simp; (try with_reducible rfl)
      (try simp only [Act.put, nrA4, List.setIfInBounds_toArray, List.set_cons_zero, List.set_cons_succ])
      refine tkE 5 nrA5 rfl (by kernel_rfl) (fun K hK => ?_)
      go_simp
      (refine (CU.out _ (K4.out.trans (by first | assumption | exact Kp.drew _))).mono ?_; rintro e wu ⟨rfl, k1⟩; have k4u := Kp.trans (show Kp w4 _ from (by first | assumption | exact Kp.drew _)) k1; have k2 := Kp.trans (show Kp w4 _ from (by first | assumption | exact Kp.drew _)) k1; clear k1)
      (try go_wp2_with fail)
      refine hK.out _ _ ?_ (fun hHeld1 => ?_)
      · (try dsimp only); exact KS.out _ (by first | assumption | exact Kp.drew _)
      clear hK K hHeld0
      (try simp only [Act.put, nrA5, List.setIfInBounds_toArray, List.set_cons_zero, List.set_cons_succ])
      refine tkW (v := ?_) 6 nrA6 rfl (by kernel_rfl) (by kernel_rfl) (by kernel_rfl) (fun _ _ _ h => h) (by rfl) ?_ (by assumption) ?_
      rotate_left
      · intro w hSw; (try dsimp only at hSw); go_simp; (try with_reducible rfl)
      (try simp only [Act.put, nrA6, List.setIfInBounds_toArray, List.set_cons_zero, List.set_cons_succ])
      refine tkE 7 nrA7 rfl (by kernel_rfl) (fun K hK => ?_)
      go_simp
      (refine (CI.out _ _ (R4.out.kp (show Kp w4 _ from k4u)) (K4.out.trans (by first | assumption | exact Kp.drew _))).mono ?_; rintro e wa ⟨va, rfl, owa, k1⟩; obtain ⟨aa, ca, rfl⟩ := own_slice owa; have RA := Lib.hid (runsAt_own owa); have OA := Lib.hid (own_mono owa (Below.size (show Kp w _ from K00.out.trans (K4.out.trans (by first | assumption | exact Kp.drew _))))); clear owa; have k2 := Kp.trans (show Kp w4 _ from (by first | assumption | exact Kp.drew _)) k1; clear k1)
      (try go_wp2_with fail)
      refine hK.out _ _ ?_ (fun hHeld2 => ?_)
      · (try dsimp only); exact KS.out _ (by first | assumption | exact Kp.drew _)
      clear hK K hHeld1
      (try simp only [Act.put, nrA7, List.setIfInBounds_toArray, List.set_cons_zero, List.set_cons_succ])
      refine tkE 8 nrA8 rfl (by kernel_rfl) (fun K hK => ?_)
      go_simp
      (refine (CE.out _ _ (RA.out.kp (show Kp wa _ from (by first | with_reducible exact Kp.refl _ | with_reducible exact Kp.alloc _ _ | with_reducible exact (Kp.alloc _ _).trans (Kp.alloc _ _) | with_reducible exact ((Kp.alloc _ _).trans (Kp.alloc _ _)).trans (Kp.alloc _ _) | with_reducible exact Kp.drew _ | with_reducible exact Kp.drewN _ _))) (K4.out.trans (by first | assumption | exact Kp.drew _))).mono ?_; rintro e wb ⟨rfl, k1⟩; have O7 := Lib.hid (own_kp OA.out (Kp.trans (show Kp wa _ from (by first | with_reducible exact Kp.refl _ | with_reducible exact Kp.alloc _ _ | with_reducible exact (Kp.alloc _ _).trans (Kp.alloc _ _) | with_reducible exact ((Kp.alloc _ _).trans (Kp.alloc _ _)).trans (Kp.alloc _ _) | with_reducible exact Kp.drew _ | with_reducible exact Kp.drewN _ _)) k1)); have k2 := Kp.trans (show Kp w4 _ from (by first | assumption | exact Kp.drew _)) k1; clear k1)
      (try go_wp2_with fail)
      refine hK.out _ _ ?_ (fun hHeld3 => ?_)
      · (try dsimp only); exact KS.out _ (by first | assumption | exact Kp.drew _)
      clear hK K hHeld2
      (try simp only [Act.put, nrA8, List.setIfInBounds_toArray, List.set_cons_zero, List.set_cons_succ])
      refine tkW (v := ?_) 9 nrA9 rfl (by kernel_rfl) (by kernel_rfl) (by kernel_rfl) (fun _ _ _ h => h) (by rfl) ?_ (by assumption) ?_
      rotate_left
      · intro w hSw; (try dsimp only at hSw); go_simp; (try with_reducible rfl)
      (try simp only [Act.put, nrA9, List.setIfInBounds_toArray, List.set_cons_zero, List.set_cons_succ])
      refine tkW (v := ?_) 10 nrA10 rfl (by kernel_rfl) (by kernel_rfl) (by kernel_rfl) (fun _ _ _ h => h) (by rfl) ?_ (by assumption) ?_
      rotate_left
      · intro w hSw; (try dsimp only at hSw); go_simp; (try with_reducible rfl)
      (try simp only [Act.put, nrA10, List.setIfInBounds_toArray, List.set_cons_zero, List.set_cons_succ])
      refine tkW (v := ?_) 11 nrA11 rfl (by kernel_rfl) (by kernel_rfl) (by kernel_rfl) (fun _ _ _ h => h) (by rfl) ?_ (by assumption) ?_
      rotate_left
      · intro w hSw; (try dsimp only at hSw); go_simp; (try with_reducible rfl)
      (try simp only [Act.put, nrA11, List.setIfInBounds_toArray, List.set_cons_zero, List.set_cons_succ])
      refine tkW (v := ?_) 12 nrA12 rfl (by kernel_rfl) (by kernel_rfl) (by kernel_rfl) (fun _ _ _ h => h) (by rfl) ?_ (by assumption) ?_
      rotate_left
      · intro w hSw; (try dsimp only at hSw); go_simp; (try with_reducible rfl)
      (try simp only [Act.put, nrA12, List.setIfInBounds_toArray, List.set_cons_zero, List.set_cons_succ])
      refine wpAnyH_done (by kernel_rfl) ?_ _
      have KE := Lib.hid (K4.out.trans k2)
      go_wp2
      refine bodyPost_ret (results_tmp2 rfl _ _ _) rfl ?_
      exact ⟨_, rfl, World.ownsRow_nil _ _ _ _, K00.out.trans KE.out⟩
  · rw [if_neg he, if_neg he]
    have qe : (er == 0) = false := beq_eq_false_iff_ne.2 he
    go_enter Tryz.func10, Tryz.ntmps10
    go_wp2_with fail
    rw [← HW.out]
    obtain ⟨c0, c1, c2, c3⟩ := HB.out W0 (Kp.refl _)
    (try go_wp2_with fail)
    refine (CS.out _ (Kp.refl _)).mono ?_
    rintro e w1 ⟨v1, rfl, own1, kk⟩
    have K1 := Lib.hid kk
    have R1 := Lib.hid (runsAt_own own1)
    obtain ⟨a1, b1, rfl⟩ := own_slice own1
    clear own1 kk c0 c1 c2 c3
    obtain ⟨c0, c1, c2, c3⟩ := HB.out w1 K1.out
    go_wp2
    refine bodyPost_ret (results_tmp2 rfl _ _ _) rfl ?_
    exact ⟨_, rfl, World.ownsRow_nil _ _ _ _, K00.out.trans K1.out⟩
end Go.Proofs.YtinpglfclbnhlaaGreatDoor

namespace Go.Proofs.YtinpglfclbnhlaaGreatDoor
open Go.RowKit Go.Shelf
set_option linter.unusedVariables false
set_option linter.unusedSimpArgs false
def b1984 : ByteArray := ⟨#[49, 57, 56, 52]⟩
def b1984s4 : ByteArray := ⟨#[49, 57, 56, 52, 115, 52]⟩
def bXXXX : ByteArray := ⟨#[88, 88, 88, 88]⟩
def ps4 : PT := ⟨2, b1984, ⟨#[52]⟩, ⟨#[]⟩⟩
def pX : PT := ⟨3, bXXXX, ⟨#[]⟩, ⟨#[]⟩⟩
theorem sane_s4 : saneP ps4 = true := by decide +kernel
theorem text_s4 : textP ps4 = b1984s4 := by decide +kernel
theorem cut0_s4 : saneP (cutP 0 b1984s4) = false := by decide +kernel
theorem cut1_s4 : saneP (cutP 1 b1984s4) = false := by decide +kernel
theorem cut2_y : (cutP 2 b1984s4).y = b1984 ∧ (cutP 2 b1984s4).m = ⟨#[52]⟩ := by decide +kernel
theorem setE_s4 : setE ps4 = 0 := by decide +kernel
theorem setS_s4 : setS ps4 = [(7939, 7939)] := by decide +kernel
theorem sane_X : saneP pX = true := by decide +kernel
theorem numR_X : numR pX = [(0, 9999)] := by decide +kernel
theorem numB_X : numB pX = true := by decide +kernel
theorem edgB_X : edgB 3 (numR pX) = false := by rw [numR_X]; decide +kernel
theorem setE_X : setE pX = 8 := by
  unfold setE
  rw [sane_X, numB_X, if_pos rfl, if_pos rfl, if_neg]
  rw [show pX.k = 3 from rfl, edgB_X]
  decide
theorem setS_X : setS pX = [] := by
  unfold setS
  rw [sane_X, numB_X, if_pos rfl, if_pos rfl, if_neg]
  rw [show pX.k = 3 from rfl, edgB_X]
  decide
theorem read_s4 : readP b1984s4 = (ps4, true) := by
  have c : cutP 2 b1984s4 = ps4 := by
    obtain ⟨a, b⟩ := cut2_y
    have e : cutP 2 b1984s4 = ⟨2, (cutP 2 b1984s4).y, (cutP 2 b1984s4).m, ⟨#[]⟩⟩ := rfl
    rw [e, a, b]
    rfl
  have h0 : rdB b1984s4 ((0 : Nat) : Int) = false := by unfold rdB; rw [show ((0 : Nat) : Int) = 0 from rfl, cut0_s4]; rfl
  have h1 : rdB b1984s4 ((1 : Nat) : Int) = false := by unfold rdB; rw [show ((1 : Nat) : Int) = 1 from rfl, cut1_s4]; rfl
  have h2 : rdB b1984s4 ((2 : Nat) : Int) = true := by unfold rdB; rw [show ((2 : Nat) : Int) = 2 from rfl, c, sane_s4, text_s4]; simp
  unfold readP
  have a0 := rdF_no (k := 0) (by decide) h0
  have a1 := rdF_no (k := 1) (by decide) h1
  have a2 := rdF_yes (k := 2) (by decide) h2
  simp only [Nat.sub_zero] at a0
  rw [a0, a1, a2, show ((2 : Nat) : Int) = 2 from rfl, c]
set_option maxHeartbeats 16000000 in
set_option maxRecDepth 100000 in
theorem awake08 (w : World) (T : Tabs8 w) : Calls Tryz.prog 4 #[] w fun e w' => e = .returned (.bool true) ∧ Kp w w' := by
  have CR := Lib.hid (ptRead_any b1984s4 w (by decide) T.2.1)
  have CS := Lib.hid (fun w1 (q : Kp w w1) => pset_any ps4 w1 (T.kp q))
  have CX := Lib.hid (fun w1 (q : Kp w w1) => pset_any pX w1 (T.kp q))
  have CT := Lib.hid (fun w1 (q : Kp w w1) => ptText_any ps4 w1 (T.kp q).2.1)
  have CD := Lib.hid (fun w1 (q : Kp w w1) => radius_any 0 w1 (T.kp q))
  rw [read_s4] at CR
  rw [setE_s4, setS_s4] at CS
  rw [setE_X, setS_X] at CX
  rw [text_s4] at CT
  rw [show radV 0 = 3 from rfl] at CD
  unfold ps4 ptV b1984s4 b1984 at *
  unfold pX bXXXX at CX
  clear T
  go_enter Tryz.func4, Tryz.ntmps4
  go_wp2_with fail
  refine CR.out.mono ?_
  rintro e w1 ⟨rfl, kk⟩
  have K1 := Lib.hid kk
  clear kk
  go_wp2_with fail
  refine (CS.out _ (K1.out.trans (Kp.alloc _ _))).mono ?_
  rintro e w2 ⟨v2, rfl, own2, kk⟩
  have B2 := Lib.hid (heap_block kk (heap_at w1 (.cells #[.int .i64 2, .string ⟨#[49, 57, 56, 52]⟩, .string ⟨#[52]⟩, .string ⟨#[]⟩] 23) w1.heap.size rfl))
  have K2 := Lib.hid ((K1.out.trans (Kp.alloc _ _)).trans kk)
  have R2 := Lib.hid (runsAt_own own2)
  obtain ⟨a2, c2, rfl⟩ := own_slice own2
  clear own2 kk
  go_wp2_with fail
  refine (CX.out _ K2.out).mono ?_
  rintro e w3 ⟨v3, rfl, own3, kk⟩
  have B3 := heap_block kk B2.out
  have K3 := Lib.hid (K2.out.trans kk)
  have R3 := R2.out.kp kk
  obtain ⟨a3, c3, rfl⟩ := own_slice own3
  clear own3 kk
  rcases R3 with ⟨_, _, _, e⟩ | ⟨b9, off9, cap9, ev9, hc9, hm9, hx9⟩
  · simp at e
  cases ev9
  obtain ⟨e1, e2⟩ := hx9 0 (by decide)
  rw [Nat.zero_mul, Nat.add_zero] at e1 e2
  have g1 : w3.cell? ⟨b9, off9, none⟩ = some (.int .i64 7939) := e1
  have x0 : w3.cell? ⟨w1.heap.size, 0, none⟩ = some (.int .i64 2) := by simp [World.cell?, B3]
  have x1 : w3.cell? ⟨w1.heap.size, 1, none⟩ = some (.string ⟨#[49, 57, 56, 52]⟩) := by simp [World.cell?, B3]
  have x2 : w3.cell? ⟨w1.heap.size, 2, none⟩ = some (.string ⟨#[52]⟩) := by simp [World.cell?, B3]
  have x3 : w3.cell? ⟨w1.heap.size, 3, none⟩ = some (.string ⟨#[]⟩) := by simp [World.cell?, B3]
  clear hx9 hc9 hm9 e1 e2 B3
  go_wp2_with fail
  refine (CT.out _ K3.out).mono ?_
  rintro e w4 ⟨rfl, kk⟩
  have K4 := Lib.hid (K3.out.trans kk)
  clear kk g1 x0 x1 x2 x3
  go_wp2_with fail
  refine (CD.out _ K4.out).mono ?_
  rintro e w5 ⟨rfl, rfl⟩
  go_wp2
  go_ret
  exact ⟨rfl, K4.out⟩
end Go.Proofs.YtinpglfclbnhlaaGreatDoor
