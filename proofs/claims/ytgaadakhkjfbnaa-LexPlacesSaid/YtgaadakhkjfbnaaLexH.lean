/-
  Contract of lex.Show.
-/
import Derived.Test.YtgaadakhkjfbnaaLexG
import Derived.Test.YtgaadakhkjfbnaaBld
import Derived.Maps.RangeWalk
namespace Go.Proofs.Ytgaadakhkjfbnaa
open Go.RowKit Go.Shelf
open Go.Maps (Keyed)
set_option linter.unusedVariables false
set_option linter.unusedSimpArgs false
theorem shw_of {b : List UInt8} (hb : sgn b ≠ 0) : shw (sgn b) = b := by
  unfold sgn at hb ⊢
  repeat' split at hb
  all_goals first | (subst_vars; simp [shw, *]; done) | exact absurd rfl hb
theorem sgn_shw {k : Int} (h : sgn (shw k) ≠ 0) : sgn (shw k) = k := by
  by_cases h1 : k < 1 ∨ 8 < k
  · have : shw k = [] := by unfold shw; repeat' split
                            all_goals first | omega | rfl
    rw [this] at h; exact absurd (by decide) h
  · exact (shw_sgn (by omega) (by omega)).1
/-- how a written sign reads -/
def wz : DataW Unit := .lit (.string [])
/-- the map of what is written, when the signs that are left have not come -/
structure WrM (left : Lit → Bool) (D : DataW Unit) : Prop where
  m : Go.Maps.IsMap D
  l : ∀ b, left (.string b) = true → sgn b ≠ 0
  a : ∀ k : Int, D.atKey (.int .i64 k) wz = .lit (.string (if left (.string (shw k)) = true then [] else shw k))
theorem WrM.start : WrM (Go.Maps.has signsD) (.map []) := by
  refine ⟨Go.Maps.isMap_empty, fun b h => ?_, fun k => ?_⟩
  · rw [signsD_has] at h; simpa using h
  · rw [signsD_has]
    have e : (.map [] : DataW Unit).atKey (.int .i64 k) wz = .lit (.string []) := rfl
    rw [e]
    split
    · rfl
    · rename_i h
      have h2 : sgn (shw k) = 0 := by simpa using h
      by_cases h1 : k < 1 ∨ 8 < k
      · have : shw k = [] := by unfold shw; repeat' split
                                all_goals first | omega | rfl
        rw [this]
      · have := (shw_sgn (k := k) (by omega) (by omega)).1
        omega
theorem WrM.step {left : Lit → Bool} {D : DataW Unit} (h : WrM left D) {b : List UInt8} (hb : left (.string b) = true) :
    WrM (fun z => left z && !z.sameKey (.string b)) (D.put (.int .i64 (sgn b)) (.lit (.string b))) := by
  have hs := h.l b hb
  refine ⟨Go.Maps.IsMap.put h.m _ _, fun c hc => h.l c (by simp only [Bool.and_eq_true] at hc; exact hc.1), fun k => ?_⟩
  have same : ∀ c : List UInt8, ((Lit.string c).sameKey (.string b)) = decide (c = b) := by
    intro c
    by_cases e : c = b
    · subst e; simp [Lit.sameKey]
    · rw [Go.Maps.sameKey_ne (by intro g; cases g; exact e rfl)]; simp [e]
  simp only [same]
  by_cases e : k = sgn b
  · subst e
    rw [Go.Maps.atKey_put_same h.m (show WideAt.IsKeyLit (.int .i64 (sgn b)) from trivial), shw_of hs]
    simp
  · rw [Go.Maps.atKey_put_other (by intro g; cases g; exact e rfl), h.a]
    by_cases e2 : shw k = b
    · have := sgn_shw (k := k) (by rw [e2]; exact hs)
      rw [e2] at this
      exact absurd this.symm e
    · simp [e2]
theorem WrM.done {left : Lit → Bool} {D : DataW Unit} (h : WrM left D) (hl : ∀ kl, left kl = false) (k : Int) : D.atKey (.int .i64 k) wz = .lit (.string (shw k)) := by
  rw [h.a, hl]; simp
abbrev WM (w : World) (m n : Nat) (D : DataW Unit) : Prop := w.ownsMap Try.prog 3 (plainElem Try.prog 9) m n D
theorem WM.kp {w w' : World} {m n : Nat} {D : DataW Unit} (h : WM w m n D) (k : Kp w w') : WM w' m n D := by
  have hm := World.ownsMap.lt h
  obtain ⟨es, c, h1, h2⟩ := h
  exact ⟨es, c, (k.block m hm).trans h1, h2⟩
theorem WM.below {w w' : World} {b m n : Nat} {D : DataW Unit} (h : WM w m n D) (k : Below b w w') (hb : m < b) : WM w' m n D := by
  obtain ⟨es, c, h1, h2⟩ := h
  exact ⟨es, c, (k.block m hb).trans h1, h2⟩
theorem bld_new (w : World) : Bld w.heap.size w.heap.size (Lib.byteCells []) (w.alloc (.cells #[.pointer none, .slice none 0 0] 76)) :=
  .inl ⟨Nat.le_refl _, _, heap_alloc_new w _, World.ownsRowF_of (World.ownsRow_nil _ _ _ _), by simp [Value.ownBlock]⟩
theorem bc_append (a b : List UInt8) : Lib.byteCells (a ++ b) = Lib.byteCells a ++ Lib.byteCells b := by unfold Lib.byteCells; simp
theorem bc_str (l : List UInt8) : Lib.strCells (bs l) = Lib.byteCells l := by
  unfold Lib.strCells Lib.byteCells bs; simp
theorem Bld.alloc {B b : Nat} {l : List Value} {w : World} (h : Bld B b l w) (o : Obj) : Bld B b l (w.alloc o) := by
  rcases h with h | h
  · exact .inl (h.alloc o)
  · exact .inr (h.alloc o)
theorem Bld.lt {B b : Nat} {l : List Value} {w : World} (h : Bld B b l w) : b < w.heap.size := by
  rcases h with h | h
  · exact h.lt
  · exact h.lt
theorem wm_look {w : World} {m n : Nat} {D : DataW Unit} (h : WM w m n D) (hd : ∀ k : Int, D.atKey (.int .i64 k) wz = .lit (.string (shw k))) (k : Int) (hk : (Lit.int .i64 k).wf = true) :
    (Instr.lookup 73 (.map (some m)) (.int .i64 k) false).run Try.prog w = .ok (.string (bs (shw k))) w := by
  obtain ⟨v, ps, h1, h2⟩ := World.ownsMap.lookup h keyI Try.underlying73 (Try.zeroValue9 w) (zd := wz) (zp := []) (plainElem_string (H := Unit) Try.underlying9 (s := { data := #[] }) (by unfold maxLen; decide)) (Go.Maps.keyOf_int_mk Try.underlying3 hk)
  rw [h1]
  obtain ⟨s, rfl, e, _⟩ := plainElem_string_inv Try.underlying9 h2
  rw [hd] at e
  have e2 : s.data.toList = shw k := by
    have := (Prod.mk.inj e).1
    simpa using this.symm
  rw [← e2, bs_list]
/-- the parts of a token's text, as cells -/
def toWr (p : Bool) (t : Tk) : List Value := Lib.byteCells (pc p t)
set_option maxHeartbeats 8000000 in
set_option maxRecDepth 100000 in
theorem lshow_any (v : Value) (l : List Tk) (w : World) (hv : ToksAt w v l) (hl : l.length ≤ 1000) (hx : ∀ t ∈ l, t.2.2.length ≤ 1000) (hi : ∀ t ∈ l, (Lit.int .i64 t.1).wf = true) :
    Calls Try.prog 57 #[v] w fun e w' => e = .returned (.string (bs (sh false l))) ∧ Kp w w' := by
  obtain ⟨ad, c, rfl⟩ := hv.slice
  have hmm := @run_makeMap Try.prog
  have HV := Lib.hid hv
  have HX := Lib.hid hx
  have HI := Lib.hid hi
  have CS := Lib.hid signs_any
  clear hv hx hi
  go_enter Try.func57, Try.ntmps57
  go_wp2_with fail
  refine (CS.out _).mono ?_
  rintro e w1 ⟨m1, rfl, hm1, hm2, kk⟩
  have K1 := Lib.hid ((Kp.alloc w _).trans kk)
  have HM := Lib.hid hm1
  have HW0 := Lib.hid (WM.kp (World.ownsMap_made w Try.prog 3 (plainElem Try.prog 9)) kk)
  have hsz := kk.size
  have hm3 : w.heap.size + 1 ≤ m1 := by simpa using hm2
  have hsz1 : w.heap.size + 1 ≤ w1.heap.size := by simpa using hsz
  have hmlt := World.ownsMap.lt hm1
  clear kk hm1 CS hm2 hsz
  go_wp2_with (first
    | (at_range; refine wpList_range_own _ rfl _ 67 rfl 9 3 keyS Try.underlying67 _ m1 8 signsD rfl HM.out ?_; intro w2 hrg0 hg0 hs0))
  go_frame
  have KR := Lib.hid (Kp.grown K1.out (hg0.but none) (fun j hj => by cases hj))
  have HW1 := Lib.hid (World.ownsMap.kept HW0.out hg0 (by simp))
  have RG := Lib.hid hrg0
  clear hrg0 hg0
  go_loopw [4, 5] (fun _ _ wr => ∃ (left : Lit → Bool) (cnt n : Nat) (D : DataW Unit), Hid (wr.ranges Try.prog 9 (plainElem Try.prog 3) m1 w1.heap.size 8 signsD left cnt) ∧ n + cnt ≤ Go.Maps.size signsD ∧ Hid (WM wr w.heap.size n D) ∧ Hid (WrM left D) ∧ Hid (Kp w wr))
    (fun _ _ wr => wr.rangeLeft m1 w1.heap.size)
  case atStart => exact ⟨_, _, 0, _, RG, by omega, HW1, Lib.hid WrM.start, KR⟩
  case round =>
    clear HW1 RG KR HW0
    obtain ⟨left, cnt, n, D, RG, hn, HW, WR, K2⟩ := hrel
    have hs8 : Go.Maps.size signsD = 8 := by rfl
    go_wp2_with (first
      | (at_next; refine wpList_next_ranges _ rfl _ rfl 9 keyS (plainElem Try.prog 3) Value.string (Value.int .i64) (fun key kl h => by obtain ⟨s, e, _⟩ := Go.WideMaps.string_of_keyOf Try.underlying9 h; exact ⟨s, e⟩) (fun v y h => by obtain ⟨a, e, _⟩ := plainElem_int_inv Try.underlying3 h; exact ⟨a, e⟩) m1 w1.heap.size 8 _ _ _ rfl RG.out ?_ ?_))
    · intro _ hl0
      have WD := Lib.hid (fun k => WR.out.done hl0 k)
      clear hl0 WR
      obtain ⟨wo, hwo⟩ : ∃ x : World, x = wr := ⟨wr, rfl⟩
      subst hwo
      have HB0 := Lib.hid (bld_new wo)
      have HW0 := Lib.hid (HW.out.kp (Kp.alloc wo (.cells #[.pointer none, .slice none 0 0] 76)))
      have K0 := Lib.hid (K2.out.trans (Kp.alloc wo (.cells #[.pointer none, .slice none 0 0] 76)))
      have hwr := K2.out.size
      have hmw := World.ownsMap.lt HW.out
      clear HW K2 RG
      go_wp2_with fail
      go_loopw [22] (fun u22 wq => ∃ k : Nat, k ≤ l.length ∧ u22 = .int .i64 k ∧ Hid (Bld wo.heap.size wo.heap.size (Lib.byteCells (sh false (l.take k))) wq) ∧ Hid (WM wq w.heap.size n D) ∧ Hid (Kp w wq)) (fun u22 _ => l.length - (intOf u22).toNat)
      case atStart => exact ⟨0, Nat.zero_le _, rfl, HB0, HW0, K0⟩
      case round =>
        clear HB0 HW0 K0
        obtain ⟨k, hk, rfl, HB, HW, K2⟩ := hrel
        by_cases hlt : k < l.length
        · rcases HV.out with ⟨_, _, _, e⟩ | ⟨b, off, cap, ev, hc, hm, hx⟩
          · rw [e] at hlt; simp at hlt
          cases ev
          obtain ⟨d1, d2, d3⟩ := rd_tok hx K2.out k hlt
          have D0 := Lib.hid (fun (w' : World) (kk : Kp w w') (h : k - 1 < l.length) => (rd_tok hx kk (k - 1) h).1)
          clear hx hc hm
          have z1 : (0 : Int) ≤ (k : Int) := by omega
          have z2 : (k : Int) < l.length := by omega
          have ST := Lib.hid (sh_take l k hlt)
          have SB := sh_bd (l.take k) false 1000 (fun t ht => HX.out t (List.mem_of_mem_take ht))
          have SL : (sh false (l.take k)).length ≤ 1002000 := by
            have : (l.take k).length ≤ 1000 := by rw [List.length_take]; omega
            have := Nat.mul_le_mul_right (1000 + 2) this
            omega
          have TL := HX.out _ (tk_mem hlt)
          have TI := HI.out _ (tk_mem hlt)
          obtain ⟨kd, a, x, ee⟩ : ∃ kd a x, tk l k = (kd, a, x) := ⟨_, _, _, rfl⟩
          rw [ee] at d1 d2 d3 ST TL TI
          simp only at d1 d2 d3 TL TI
          clear ee SB
          have SWL := shw_len kd
          have BL := Lib.byteCells_length (sh false (l.take k))
          generalize sh false (l.take k) = S at *
          have TCELL : ∀ wx : World, wx.heap[wr.heap.size]? = some (.cells #[.int .i64 kd, .int .i64 a, .string (bs x)] 55) → wx.cell? ⟨wr.heap.size, 2, none⟩ = some (.string (bs x)) := fun wx h => by rw [Lib.cell_of_heap h]; rfl
          have TC := Lib.hid TCELL
          clear TCELL
          have hB := HB.out.lt
          have CSTR := Lib.hid (fun (wx : World) (L : List UInt8) (y : List UInt8) (hb : Bld wo.heap.size wo.heap.size (Lib.byteCells L) wx) (h1 : L.length ≤ 2000000) (h2 : y.length ≤ 2000) => (show Calls Try.prog 75 #[.pointer (some ⟨wo.heap.size, 0, none⟩), .string (bs y)] wx fun e w' => e = .returned (.tuple #[.int .i64 (bs y).size, .nilIface]) ∧ Bld wo.heap.size wo.heap.size (Lib.byteCells (L ++ y)) w' ∧ Below wo.heap.size wx w' from by
            refine (bstr_any wo.heap.size wo.heap.size (Lib.byteCells L) (bs y) wx hb (by rw [Lib.byteCells_length, bs_size]; omega) (Nat.le_of_lt hb.lt)).mono ?_
            rintro e w' ⟨rfl, g1, g2, _⟩
            refine ⟨rfl, .inr ?_, g2⟩
            rw [bc_append, ← bc_str y]; exact g1))
          by_cases hkd : kd = 0
          · subst hkd
            have CB := Lib.hid (fun (o : Obj) => (show Calls Try.prog 76 #[.pointer (some ⟨wo.heap.size, 0, none⟩), .int .u8 32] (wr.alloc o) fun e w' => e = .returned .nilIface ∧ Bld wo.heap.size wo.heap.size (Lib.byteCells (S ++ [32])) w' ∧ Below wo.heap.size (wr.alloc o) w' ∧ Oth wo.heap.size (wr.alloc o) w' from by
              refine (bbyte_any wo.heap.size wo.heap.size (Lib.byteCells S) 32 (wr.alloc o) (HB.out.alloc o) (by rw [Lib.byteCells_length]; omega) (Nat.le_of_lt (HB.out.alloc o).lt)).mono ?_
              rintro e w' ⟨rfl, g1, g2, g3⟩
              refine ⟨rfl, .inr ?_, g2, g3⟩
              rw [bc_append]; exact g1))
            by_cases hk0 : k = 0
            · have g1 : decide (0 < k) = false := by simp; omega
              have g1' : decide ((0 : Int) < k) = false := by simp; omega
              have F := Lib.hid (show sh false (l.take (k + 1)) = S ++ x by rw [ST.out, g1]; unfold pc; simp)
              have C := Lib.hid (fun o => CSTR.out (wr.alloc o) S x (HB.out.alloc o) (by omega) (by omega))
              have HK0 := Lib.hid hk0
              clear hk0 ST CSTR CB
              go_wp2_with fail
              refine (C.out _).mono ?_
              rintro e w3 ⟨rfl, h1, h2⟩
              have K3 := Lib.hid (show Kp w w3 from Below.trans (K2.out.trans (Kp.alloc _ _)) (Below.mono h2 hwr))
              have W3 := Lib.hid (WM.below (HW.out.kp (Kp.alloc wr _)) h2 hmw)
              have B3 := Lib.hid h1
              clear h1 h2
              go_wp2
              refine ⟨⟨k + 1, by omega, by go_num, by rw [F.out]; exact B3, W3, K3⟩, by simp only [intOf]; omega⟩
            · obtain ⟨j, rfl⟩ : ∃ j, k = j + 1 := ⟨k - 1, by omega⟩
              have g1 : decide (0 < j + 1) = true := by simp
              have d0 := D0.out wr K2.out (by omega)
              have D1 := Lib.hid (fun o => (D0.out (wr.alloc o) (K2.out.trans (Kp.alloc _ _)) (by omega)))
              rw [show j + 1 - 1 = j by omega] at d0 ST D1
              rw [g1, Bool.true_and] at ST
              generalize (tk l j).1 = pk at *
              have b1 : (j : Int) + 1 ≤ 1000 := by omega
              have b2 : (j : Int) < l.length := by omega
              have b3 : (0 : Int) ≤ j := by omega
              have b4 : (j : Int) + 1 < l.length := by omega
              clear hk0 D0 g1 z1 z2
              by_cases hpk : pk = 0
              · have e2 : (pk == 0) = true := by simpa using hpk
                have F := Lib.hid (show sh false (l.take (j + 1 + 1)) = (S ++ [32]) ++ x by rw [ST.out, e2]; unfold pc; simp)
                have HPK := Lib.hid hpk
                have C := Lib.hid (fun wx hb => CSTR.out wx (S ++ [32]) x hb (by simp; omega) (by omega))
                have DD := D1.out
                clear hpk ST CSTR D1
                go_wp2_with fail
                refine (CB.out _).mono ?_
                rintro e w3 ⟨rfl, h1, h2, h3⟩
                have c3 := TC.out w3 (h3 wr.heap.size _ (heap_alloc_new wr _) (by simp; omega) (by intro c fz h; injection h with _ h2; exact absurd h2 (by decide)))
                have K3 := Lib.hid (show Kp w w3 from Below.trans (K2.out.trans (Kp.alloc _ _)) (Below.mono h2 hwr))
                have W3 := Lib.hid (WM.below (HW.out.kp (Kp.alloc wr _)) h2 hmw)
                have C2 := Lib.hid (C.out w3 h1)
                clear h1 h2 h3 DD
                go_wp2_with fail
                refine (C2.out).mono ?_
                rintro e w4 ⟨rfl, h1, h2⟩
                have K4 := Lib.hid (show Kp w w4 from Below.trans K3.out (Below.mono h2 hwr))
                have W4 := Lib.hid (WM.below W3.out h2 hmw)
                have B4 := Lib.hid h1
                clear h1 h2
                go_wp2
                refine ⟨⟨j + 1 + 1, by omega, by go_num, by rw [F.out]; exact B4, W4, K4⟩, by simp only [intOf]; omega⟩
              · have e2 : (pk == 0) = false := by simpa using hpk
                have F := Lib.hid (show sh false (l.take (j + 1 + 1)) = S ++ x by rw [ST.out, e2]; unfold pc; simp)
                have HPK := Lib.hid hpk
                have C := Lib.hid (fun o => CSTR.out (wr.alloc o) S x (HB.out.alloc o) (by omega) (by omega))
                have DD := D1.out
                clear hpk ST CSTR D1 CB
                go_wp2_with fail
                refine (C.out _).mono ?_
                rintro e w3 ⟨rfl, h1, h2⟩
                have K3 := Lib.hid (show Kp w w3 from Below.trans (K2.out.trans (Kp.alloc _ _)) (Below.mono h2 hwr))
                have W3 := Lib.hid (WM.below (HW.out.kp (Kp.alloc wr _)) h2 hmw)
                have B3 := Lib.hid h1
                clear h1 h2 DD
                go_wp2
                refine ⟨⟨j + 1 + 1, by omega, by go_num, by rw [F.out]; exact B3, W3, K3⟩, by simp only [intOf]; omega⟩
          · have e1 : (kd != 0) = true := by simpa using hkd
            have hlk := fun o => wm_look (HW.out.kp (Kp.alloc wr o)) WD.out kd TI
            have F := Lib.hid (show sh false (l.take (k + 1)) = S ++ shw kd by rw [ST.out]; unfold pc; simp only; rw [if_neg hkd])
            have HKD := Lib.hid hkd
            have C := Lib.hid (fun o => CSTR.out (wr.alloc o) S (shw kd) (HB.out.alloc o) (by omega) (by omega))
            clear hkd ST CSTR
            go_wp2_with fail
            refine (C.out _).mono ?_
            rintro e w3 ⟨rfl, g1, g2⟩
            have K3 := Lib.hid (show Kp w w3 from Below.trans (K2.out.trans (Kp.alloc _ _)) (Below.mono g2 hwr))
            have W3 := Lib.hid (WM.below (HW.out.kp (Kp.alloc wr _)) g2 hmw)
            have B3 := Lib.hid g1
            clear g1 g2 hlk
            go_wp2
            refine ⟨⟨k + 1, by omega, by go_num, by rw [F.out]; exact B3, W3, K3⟩, by simp only [intOf]; omega⟩
        · have q : decide ((k : Int) < l.length) = false := by simp; omega
          have A : l.take k = l := by rw [show k = l.length by omega, List.take_length]
          rw [A] at HB
          have C := Lib.hid (bstring_any wo.heap.size wo.heap.size (sh false l) wr HB.out (Nat.le_of_lt HB.out.lt))
          clear A
          go_wp2_with fail
          refine (C.out).mono ?_
          rintro e w3 ⟨rfl, g2⟩
          have K3 := Lib.hid (show Kp w w3 from Below.trans K2.out (Below.mono g2 hwr))
          clear g2
          go_wp2
          go_ret
          exact ⟨rfl, K3.out⟩
    · intro x c kl y1 y2 w3 cnt3 hkey hlx hval hat hrg1 hlt hg1 hs1 hen
      obtain ⟨x', ex, rfl, hxs⟩ := Go.WideMaps.string_of_keyOf Try.underlying9 hkey
      cases ex
      obtain ⟨c', ec, ey, hwc⟩ := plainElem_int_inv Try.underlying3 hval
      cases ec
      cases ey
      have hc : c = sgn x.data.toList := by
        have := hat (.lit (.int .i64 0))
        rw [signsD_at] at this
        simpa using this.symm
      have WR2 := Lib.hid (WR.out.step hlx)
      rw [← hc] at WR2
      have HW3 := Lib.hid (World.ownsMap.kept HW.out hg1 (by simp; omega))
      have KK := Lib.hid (Kp.grown K2.out hg1 (fun j hj => by cases hj; omega))
      have R3 := Lib.hid hrg1
      have HEN := Lib.hid hen
      have RO := Lib.hid RG.out.left_eq
      have hnm : n < maxLen := by unfold maxLen; omega
      have KI := Lib.hid (Go.Maps.keyOf_int_mk Try.underlying3 hwc)
      have PS := Lib.hid (plainElem_string (H := Unit) Try.underlying9 hxs)
      clear hc hg1 hrg1 hkey hval hat hwc HW K2 RG hlx WR
      go_wp2_with (first
        | (at_mapUpdate; refine wpList_mapUpdate_own _ rfl _ _ _ 73 rfl 3 9 keyI Try.underlying73 _ w.heap.size n D rfl HW3.out hnm _ _ _ rfl rfl KI.out _ [] PS.out ?_; intro w4 hown4 hgrow4))
      have R4 := Lib.hid (R3.out.kept hgrow4 (by simp; omega) (by simp; omega))
      have K4 := Lib.hid (Kp.grown KK.out hgrow4 (fun j hj => by cases hj; exact Nat.le_refl _))
      have H4 := Lib.hid hown4
      clear hgrow4 hown4
      go_frame
      go_roundw
      case rel => exact ⟨_, cnt3, n + 1, _, R4, by omega, H4, WR2, K4⟩
      case measure => rw [R4.out.left_eq, RO.out]; exact hlt
end Go.Proofs.Ytgaadakhkjfbnaa
