import Derived.Test.YtcooaoponkkpeaaGreatDoorJX
import Derived.Test.YtcooaoponkkpeaaGreatDoorGLeafA
import Derived.Test.YtcooaoponkkpeaaGreatDoorJO
set_option maxHeartbeats 16000000
set_option maxRecDepth 100000
namespace Go.Proofs.YtcooaoponkkpeaaGreatDoor
open Go.RowKit Go.Shelf
set_option linter.unusedVariables false
set_option linter.unusedSimpArgs false
theorem Kp.size2 {w w' : World} (k : Kp w w') : w.heap.size ≤ w'.heap.size := k.size
theorem at_row {rs : Nat → RowD} {i : Nat} {v : Value} {r : RowD} {w : World} (h : (rs i).v = v) (g : r.v.ownBlock = v.ownBlock ∨ r.v.ownBlock = some w.heap.size) : r.v.ownBlock = (rs i).v.ownBlock ∨ r.v.ownBlock = none ∨ ∃ b, r.v.ownBlock = some b ∧ w.heap.size ≤ b := by
 rw [h]
 exact g.imp id fun h => .inr ⟨_, h, Nat.le_refl _⟩
def SPost (l : List LF) (e : Ending) (w' : World) : Prop :=
 (okAll l = true → ∃ fv F, e = .returned (.tuple #[fv, .bool true]) ∧ FdAt w' fv F ∧ FdOk F ∧ ∀ S T, fdP F S T ↔ hasL l S T = true) ∧ (okAll l = false → e = .returned (.tuple #[.agg #[.slice none 0 0, .slice none 0 0], .bool false]))
abbrev srA0 : Oper := ⟨some 31, .fieldAddr 44 (.tmp 8) 1, 0, "family.go:54", #[], none⟩
abbrev srA1 : Oper := ⟨some 32, .load 3 (.tmp 31), 3, "family.go:54", #[⟨0, .data⟩], none⟩
abbrev srA2 : Oper := ⟨some 33, .fieldAddr 44 (.tmp 8) 1, 0, "family.go:54", #[], none⟩
abbrev srA3 : Oper := ⟨some 34, .load 3 (.tmp 33), 3, "family.go:54", #[⟨2, .data⟩], none⟩
abbrev srA4 : Oper := ⟨some 35, .indexAddr 78 (.tmp 5) (.tmp 34), 0, "family.go:54", #[⟨3, .data⟩], none⟩
abbrev srA5 : Oper := ⟨some 36, .load 77 (.tmp 35), 77, "family.go:54", #[⟨4, .data⟩], none⟩
abbrev srA6 : Oper := ⟨some 37, .move (.tmp 9), 34, "family.go:54", #[], none⟩
abbrev srA7 : Oper := ⟨some 38, .move (.tmp 11), 34, "family.go:54", #[], none⟩
abbrev srA8 : Oper := ⟨some 39, .call ⟨.value (.func 52), #[.tmp 37, .tmp 38], #[34, 34]⟩, 77, "family.go:54", #[⟨6, .data⟩, ⟨7, .data⟩], none⟩
abbrev srA9 : Oper := ⟨some 40, .call ⟨.builtin .append, #[.tmp 36, .tmp 39], #[77, 77]⟩, 77, "family.go:54", #[⟨5, .data⟩, ⟨8, .data⟩, ⟨8, .chain⟩], none⟩
abbrev srA10 : Oper := ⟨some 41, .indexAddr 78 (.tmp 5) (.tmp 32), 0, "family.go:54", #[⟨1, .data⟩, ⟨0, .phase⟩, ⟨1, .phase⟩, ⟨2, .phase⟩, ⟨3, .phase⟩, ⟨4, .phase⟩, ⟨5, .phase⟩, ⟨6, .phase⟩, ⟨7, .phase⟩, ⟨8, .phase⟩, ⟨9, .phase⟩], none⟩
abbrev srA11 : Oper := ⟨none, .store 77 (.tmp 41) (.tmp 40), 0, "family.go:54", #[⟨10, .data⟩, ⟨9, .data⟩, ⟨9, .chain⟩, ⟨0, .phase⟩, ⟨1, .phase⟩, ⟨2, .phase⟩, ⟨3, .phase⟩, ⟨4, .phase⟩, ⟨5, .phase⟩, ⟨6, .phase⟩, ⟨7, .phase⟩, ⟨8, .phase⟩, ⟨9, .phase⟩], none⟩
abbrev srB0 : Oper := ⟨some 91, .fieldAddr 49 (.tmp 6) 0, 0, "family.go:63", #[], none⟩
abbrev srB1 : Oper := ⟨some 92, .load 46 (.tmp 91), 46, "family.go:63", #[⟨0, .data⟩], none⟩
abbrev srB2 : Oper := ⟨some 93, .move (.tmp 14), 77, "family.go:63", #[], none⟩
abbrev srB3 : Oper := ⟨some 94, .call ⟨.value (.func 57), #[.tmp 93], #[77]⟩, 77, "family.go:63", #[⟨2, .data⟩], none⟩
abbrev srB4 : Oper := ⟨some 95, .buildSlice 46 1 #[(0, .tmp 94)], 46, "family.go:63", #[⟨3, .data⟩], none⟩
abbrev srB5 : Oper := ⟨some 96, .call ⟨.builtin .append, #[.tmp 92, .tmp 95], #[46, 46]⟩, 46, "family.go:63", #[⟨1, .data⟩, ⟨4, .data⟩, ⟨3, .chain⟩], none⟩
abbrev srB6 : Oper := ⟨some 97, .fieldAddr 49 (.tmp 6) 0, 0, "family.go:63", #[⟨0, .phase⟩, ⟨1, .phase⟩, ⟨2, .phase⟩, ⟨3, .phase⟩, ⟨4, .phase⟩, ⟨5, .phase⟩], none⟩
abbrev srB7 : Oper := ⟨none, .store 46 (.tmp 97) (.tmp 96), 0, "family.go:63", #[⟨6, .data⟩, ⟨5, .data⟩, ⟨5, .chain⟩, ⟨0, .phase⟩, ⟨1, .phase⟩, ⟨2, .phase⟩, ⟨3, .phase⟩, ⟨4, .phase⟩, ⟨5, .phase⟩], none⟩
theorem sorted_any (v : Value) (l : List LF) (w : World) (hv : LeavesAt w v l) (hl : LsOk l) (hn : l.length ≤ 100) (T : Tabs w) :
  Calls Tryz.prog 26 #[v] w fun e w' => SPost l e w' ∧ Kp w w' := by
 obtain ⟨ad, cp, rfl⟩ := hv.slice
 have HV := Hd hv
 have TT := Hd T
 have HL := Hd hl
 have B0 := Hd (SBx.start w)
 have HW : Hid (sWz0 w = ((w.alloc (.cells #[.slice none 0 0, .slice none 0 0] 49)).alloc (.cells #[.slice none 0 0, .slice none 0 0, .slice none 0 0, .slice none 0 0, .slice none 0 0, .slice none 0 0] 78)).alloc (.cells #[.slice none 0 0, .slice none 0 0] 49)) := rfl
 generalize sWz0 w = W0 at *
 clear hv hl T
 go_enter Tryz.func26, Tryz.ntmps26
 go_wp2_with fail
 rw [← HW.out]
 go_loopw [4, 17] (fun s i wr => ∃ (k : Nat) (rs : Nat → RowD) (m : List OV), k ≤ l.length ∧ s = (rs 6).v ∧ i = .int .i64 k ∧ Hid (SBx w rs wr) ∧ Hid (SRd (l.take k) rs m) ∧ Hid (ReadsO wr (w.heap.size + 3) 9 rs m) ∧ Hid (okAll (l.take k) = true)) (fun _ i _ => l.length - (intOf i).toNat)
 case atStart => exact ⟨0, rs0, [], Nat.zero_le _, rfl, rfl, B0, SRd.start, ReadsO.start _ _ _ _, rfl⟩
 case round =>
  obtain ⟨k, rs, m, hk, rfl, rfl, BX, RD, RO, OA⟩ := hrel
  obtain ⟨wo, hwo⟩ : ∃ x, x = wr := ⟨_, rfl⟩
  subst hwo
  obtain ⟨sd, hsd⟩ : ∃ x, (rs 6).v = x := ⟨_, rfl⟩
  have HSD := Hd hsd
  rw [hsd]
  clear hsd
  by_cases hlt : k < l.length
  ·have q1 : decide ((k : Int) < (l.length : Int)) = true := dT
   rcases HV.out.kp BX.out.kp with ⟨_, _, _, e⟩ | ⟨b0, off, cap, ev, hc, hmx, hx⟩
   ·rw [e] at hlt; simp at hlt
   cases ev
   obtain ⟨va, vb, d0, d1, d2, d3, ra, rb⟩ := hx k hlt
   have LOK := HL.out _ (lat_mem hlt)
   have TK := take_lat l k hlt
   have OY := Hd (okAll_take hlt OA.out)
   have ON := Hd (okAll_no hlt)
   obtain ⟨f, hf⟩ : ∃ f, lat l k = f := ⟨_, rfl⟩
   rw [hf] at d0 d1 ra rb LOK TK OY ON
   have ok : LeafOk wo f va vb := ⟨ra, rb, LOK.1, LOK.2.1, LOK.2.2.1, LOK.2.2.2⟩
   have CS := Hd (fun w1 (kk : Kp wo w1) => leafStartsO_any f va vb w1 (ok.kp kk) (TT.out.kp (BX.out.kp.trans kk)))
   have CE := Hd (fun w1 (kk : Kp wo w1) => leafEndsO_any f va vb w1 (ok.kp kk) (TT.out.kp (BX.out.kp.trans kk)))
   have CM := Hd (fun w1 (kk : Kp wo w1) => leafEmpty_any f va vb w1 (ok.kp kk) (TT.out.kp (BX.out.kp.trans kk)).2)
   have SK := Hd (fun h => RD.out.skip (f := f) h)
   have SS := Hd (fun h1 h2 => RD.out.span (f := f) h1 h2)
   have SD := Hd (fun h1 h2 h3 => RD.out.day (f := f) h1 h2 h3)
   have SU := Hd (fun h1 h2 (u : Nat) h3 h4 h5 => RD.out.unit (f := f) (u := u) h1 h2 h3 h4 h5)
   have FU := Hd (fun h1 h2 => full_units (f := f) h1 h2)
   have ZP := Hd (fun h1 h2 h3 h4 => zip_pairs (f := f) h1 h2 h3 h4)
   have FL : fullB f = !emptyF (famR f) := rfl
   have stl := starts_len (famR f)
   have enl := ends_len (famR f)
   have sts := Hd (starts_sane (famR_ok f))
   have ens := Hd (ends_sane (famR_ok f))
   obtain ⟨sp, u, a, b⟩ := f
   simp only at d0 d1 ra rb
   obtain ⟨aa, ca, rfl⟩ := ra.slice
   obtain ⟨ab, cb, rfl⟩ := rb.slice
   simp only [leafV] at CS CE CM
   simp only at SS SD SU FU ZP
   generalize famR ⟨sp, u, a, b⟩ = F at *
   obtain ⟨sb, hsb⟩ : ∃ x, startsB F = x := ⟨_, rfl⟩
   obtain ⟨eb, heb⟩ : ∃ x, endsB F = x := ⟨_, rfl⟩
   obtain ⟨em, hem⟩ : ∃ x, emptyF F = x := ⟨_, rfl⟩
   rw [hsb] at CS OY ON ZP
   rw [heb] at CE OY ON
   rw [hem] at CM FL
   have FL2 := Hd FL
   have TK2 := Hd TK
   generalize startsR F = A at *
   generalize endsR F = B at *
   have z1 : (k : Int) < (l.length : Int) := by omega
   have z2 : (0 : Int) ≤ (k : Int) := by omega
   obtain ⟨V, hV⟩ : ∃ x, x = wo.alloc (.cells #[.bool sp, .int .i64 u, .slice aa a.length ca, .slice ab b.length cb] 44) := ⟨_, rfl⟩
   have ka : Kp wo V := by rw [hV]; exact Kp.alloc _ _
   have hgq : V.heap[wo.heap.size]? = some (.cells #[.bool sp, .int .i64 u, .slice aa a.length ca, .slice ab b.length cb] 44 (0, 0)) := by rw [hV]; exact heap_at _ _ _ rfl
   have HB := Hd (fun w1 (kk : Kp V w1) => row4 (heap_block kk hgq))
   have HG := Hd (fun w1 (kk : Kp V w1) => heap_block kk hgq)
   have KA := Hd ka
   have HV2 := Hd hV
   clear hx hc hmx hf hgq ka hV ra rb LOK ok FL TK hsb heb hem
   go_wp2_with fail
   rw [← HV2.out]
   obtain ⟨c0, c1, c2, c3⟩ := HB.out V (Kp.refl _)
   have BV := Hd (BX.out.go KA.out)
   go_wp2_with fail
   refine (CS.out _ KA.out).mono ?_
   rintro e w2 ⟨v1, rfl, o1, k1⟩
   have A1 := Hd (Own1.new BV.out.rws BV.out.sz o1)
   have R1 := Hd o1.runs
   obtain ⟨a1, l1, rfl⟩ := o1.runs.slice
   have K2 := Hd k1
   have B2 := Hd (BV.out.go k1)
   clear o1 k1 c0 c1 c2 c3
   obtain ⟨c0, c1, c2, c3⟩ := HB.out w2 K2.out
   go_wp2_with fail
   refine (CE.out _ (KA.out.trans K2.out)).mono ?_
   rintro e w3 ⟨v2, rfl, o2, k2⟩
   have A2 := Hd (Own1.new B2.out.rws B2.out.sz o2)
   have R2 := Hd o2.runs
   obtain ⟨a2, l2, rfl⟩ := o2.runs.slice
   have K3 := Hd (K2.out.trans k2)
   have B3 := Hd (B2.out.go k2)
   replace A1 := Hd (A1.out.kp k2)
   replace R1 := Hd (R1.out.kp k2)
   clear o2 k2 c0 c1 c2 c3
   obtain ⟨c0, c1, c2, c3⟩ := HB.out w3 K3.out
   by_cases hse : sb = true ∧ eb = true
   ·obtain ⟨rfl, rfl⟩ := hse
    have OA2 := Hd (OY.out rfl rfl)
    have OA0 := OA
    clear OY ON OA
    go_wp2_with fail
    refine (CM.out _ (KA.out.trans K3.out)).mono ?_
    rintro e w4 ⟨rfl, k3⟩
    have K4 := Hd (K3.out.trans k3)
    have B4 := Hd (B3.out.go k3)
    replace A1 := Hd (A1.out.kp k3)
    replace A2 := Hd (A2.out.kp k3)
    replace R1 := Hd (R1.out.kp k3)
    replace R2 := Hd (R2.out.kp k3)
    have RO4 := Hd (RO.out.kp (KA.out.trans K4.out))
    clear k3 c0 c1 c2 c3 BV B2 B3 CS CE CM RO
    obtain ⟨c0, c1, c2, c3⟩ := HB.out w4 K4.out
    cases em with
    | true =>
     have R5 := Hd (show SRd (l.take (k + 1)) rs m by rw [TK2.out]; exact SK.out (by rw [FL2.out]; rfl))
     clear SK SS SD SU
     go_wp2
     go_roundw
     case rel => exact ⟨k + 1, rs, m, by omega, HSD.out.symm, by go_num, B4, R5, RO4, OA2⟩
     case measure => simp [intOf]; omega
    | false =>
     cases sp with
     | true =>
      obtain ⟨i0, hi, hz0, hz1, hz2⟩ := info_parts infoLoo
      have lm := len_ms RD.out
      rw [List.length_take, Nat.min_eq_left (by omega)] at lm
      have ow7 := B4.out.rws.own 7 (by decide)
      rw [RD.out.lo] at ow7
      simp only at ow7
      have b6 := B4.out.b6
      have fr := B4.out.far (i := 7) (by decide) (k := w.heap.size + 2) (by omega)
      obtain ⟨so, hso⟩ : ∃ x, (rs 7).v = x := ⟨_, rfl⟩
      obtain ⟨sl, hsl⟩ : ∃ x, (rs 8).v = x := ⟨_, rfl⟩
      rw [hso] at ow7 b6 fr
      rw [hsl] at b6
      have HSO := Hd hso
      clear hso hsl
      obtain ⟨a7, l7, rfl⟩ := own_sliceK ow7
      have HN7 := Hd (fun v => SS.out (by rw [FL2.out]; rfl) rfl v (.slice a1 A.length l1) (.slice a2 B.length l2))
      rw [← TK2.out] at HN7
      obtain ⟨W5, hW5⟩ : ∃ x, x = w4.alloc (.cells #[.bool false, .slice a1 A.length l1, .slice a2 B.length l2] 80) := ⟨_, rfl⟩
      have k5 : Kp w4 W5 := by rw [hW5]; exact Kp.alloc _ _
      have g5 : W5.heap[w4.heap.size]? = some (.cells #[.bool false, .slice a1 A.length l1, .slice a2 B.length l2] 80 (0, 0)) := by rw [hW5]; exact heap_at _ _ _ rfl
      have SRC : SrcAt W5 (.slice (some ⟨w4.heap.size, 0, none⟩) 1 1) 1 [.bool false, .slice a1 A.length l1, .slice a2 B.length l2] := .inr ⟨_, _, rfl, World.news_of_block g5⟩
      have B5 := Hd (B4.out.go k5)
      have RO5 := Hd (RO4.out.kp k5)
      replace A1 := Hd (A1.out.kp k5)
      replace A2 := Hd (A2.out.kp k5)
      have OW := Hd (own_kp ow7 k5)
      have GB := Hd (heap_block k5 b6)
      have FR := Hd fr
      have d6 : w4.cell? ⟨w.heap.size + 2, 1, none⟩ = some (.slice a7 m.length l7) := (row2 b6).2
      have HW5 := Hd hW5
      have bs := B5.out.sz
      clear hW5 k5 g5 ow7 b6 fr SK SD SU
      go_wp2_with (at_builtin; refine Hid.out ?_)
      refine Hd ?_
      rw [← HW5.out]
      refine wpList_app rfl (.tmp 57) (.tmp 61) 47 rfl (w.heap.size + 3) 80 i0 _ 3 56 Tryz.underlying47 hi hz0 hz1 hz2 rfl (by decide) _ m.length (cellsO m) rfl OW.out _ 1 _ rfl SRC (by simp) (by intro u hu; simp only [List.mem_cons, List.not_mem_nil, or_false] at hu; rcases hu with rfl | rfl | rfl <;> rfl) (by unfold maxLen; omega) (by omega) bs ?_
      intro v7 w6 hown hgrow hat
      obtain ⟨a9, l9, rfl⟩ := own_sliceK hown
      have e7 : (m ++ [((false, A, B), (.slice a1 A.length l1, .slice a2 B.length l2))] : List OV).length = m.length + 1 := by simp
      have AT := Hd (show (Value.slice a9 (m.length + 1) l9).ownBlock = (rs 7).v.ownBlock ∨ (Value.slice a9 (m.length + 1) l9).ownBlock = none ∨ ∃ b, (Value.slice a9 (m.length + 1) l9).ownBlock = some b ∧ W5.heap.size ≤ b by
       rw [HSO.out]
       rcases hat with h | h
       ·exact .inl h
       ·exact .inr (.inr ⟨_, h, Nat.le_refl _⟩))
      have GG := Hd (show W5.grownBy w6 (rs 7).v.ownBlock by rw [HSO.out]; exact hgrow)
      have BF := Hd (B5.out.putO (r := ⟨80, 3, .slice a9 (m.length + 1) l9, (m ++ [((false, A, B), (.slice a1 A.length l1, .slice a2 B.length l2))] : List OV).length, cellsO (m ++ [((false, A, B), (.slice a1 A.length l1, .slice a2 B.length l2))])⟩) (by simp only; rw [e7, cellsO_append]; exact hown) GG.out AT.out)
      have ROF := Hd (ReadsO.add ((RO5.out.put (i := 7) (r := ⟨80, 3, .slice a9 (m.length + 1) l9, (m ++ [((false, A, B), (.slice a1 A.length l1, .slice a2 B.length l2))] : List OV).length, cellsO (m ++ [((false, A, B), (.slice a1 A.length l1, .slice a2 B.length l2))])⟩) (by decide) GG.out AT.out).setCell (a := ⟨w.heap.size + 2, 1, none⟩) (by simp) (.slice a9 (m.length + 1) l9)) (d := false) ((A1.out.put (i := 7) (r := ⟨80, 3, .slice a9 (m.length + 1) l9, (m ++ [((false, A, B), (.slice a1 A.length l1, .slice a2 B.length l2))] : List OV).length, cellsO (m ++ [((false, A, B), (.slice a1 A.length l1, .slice a2 B.length l2))])⟩) (by decide) GG.out AT.out).setCell (a := ⟨w.heap.size + 2, 1, none⟩) (by simp) (.slice a9 (m.length + 1) l9)) ((A2.out.put (i := 7) (r := ⟨80, 3, .slice a9 (m.length + 1) l9, (m ++ [((false, A, B), (.slice a1 A.length l1, .slice a2 B.length l2))] : List OV).length, cellsO (m ++ [((false, A, B), (.slice a1 A.length l1, .slice a2 B.length l2))])⟩) (by decide) GG.out AT.out).setCell (a := ⟨w.heap.size + 2, 1, none⟩) (by simp) (.slice a9 (m.length + 1) l9)))
      have RF := Hd (HN7.out (.slice a9 (m.length + 1) l9))
      have b6 := grown_heap hgrow GB.out (fun e => FR.out e)
      have d7 : w6.cell? ⟨w.heap.size + 2, 1, none⟩ = some (.slice a7 m.length l7) := (row2 b6).2
      have f7 : w6.frozen? ⟨w.heap.size + 2, 1, none⟩ = false := by simp [World.frozen?, b6]
      have SD7 := Hd (show sd = (putD rs 7 ⟨80, 3, .slice a9 (m.length + 1) l9, (m ++ [((false, A, B), (.slice a1 A.length l1, .slice a2 B.length l2))] : List OV).length, cellsO (m ++ [((false, A, B), (.slice a1 A.length l1, .slice a2 B.length l2))])⟩ 6).v by rw [putD_ne _ _ (by decide)]; exact HSD.out.symm)
      clear hown hgrow hat b6 e7 d6
      go_wp2
      go_roundw
      case rel => exact ⟨k + 1, _, _, by omega, SD7.out, by go_num, BF, RF, ROF, OA2⟩
      case measure => simp [intOf]; omega
     | false =>
      by_cases hu : u = 0
      ·subst hu
       obtain ⟨i0, hi, hz0, hz1, hz2⟩ := info_parts infoRu
       have ld := len_dyL (l.take k)
       rw [List.length_take, Nat.min_eq_left (by omega)] at ld
       have ow6 := B4.out.rws.own 6 (by decide)
       rw [RD.out.dy] at ow6
       simp only at ow6
       rw [HSD.out] at ow6
       obtain ⟨a7, l7, rfl⟩ := own_sliceK ow6
       have HN6 := Hd (fun v => SD.out (by rw [FL2.out]; rfl) rfl rfl v)
       rw [← TK2.out] at HN6
       generalize dyL (l.take k) = D at *
       have OW := Hd ow6
       have bs := B4.out.sz
       clear ow6 SK SS SU
       go_wp2_with (at_builtin; refine Hid.out ?_)
       refine Hd ?_
       refine wpList_app rfl (.tmp 68) (.tmp 69) 34 rfl (w.heap.size + 3) 42 i0 _ 2 16 Tryz.underlying34 hi hz0 hz1 hz2 rfl (by decide) _ D.length (cellsR D) rfl OW.out _ A.length (cellsR A) rfl R1.out.src (by rw [cellsR_length]) (cells_one _) (by unfold maxLen; omega) (by omega) bs ?_
       intro v7 w6 hown hgrow hat
       obtain ⟨a9, l9, rfl⟩ := own_sliceK hown
       have AT := Hd (show (Value.slice a9 (D.length + A.length) l9).ownBlock = (rs 6).v.ownBlock ∨ (Value.slice a9 (D.length + A.length) l9).ownBlock = none ∨ ∃ b, (Value.slice a9 (D.length + A.length) l9).ownBlock = some b ∧ w4.heap.size ≤ b by
        rw [HSD.out]
        rcases hat with h | h
        ·exact .inl h
        ·exact .inr (.inr ⟨_, h, Nat.le_refl _⟩))
       have GG := Hd (show w4.grownBy w6 (rs 6).v.ownBlock by rw [HSD.out]; exact hgrow)
       have BF := Hd (B4.out.putN (i := 6) rfl (r := ⟨42, 2, .slice a9 (D.length + A.length) l9, (D ++ A).length, cellsR (D ++ A)⟩) (by simp only; rw [List.length_append, cellsR_append]; exact hown) GG.out AT.out)
       have ROF := Hd (RO4.out.put (i := 6) (r := ⟨42, 2, .slice a9 (D.length + A.length) l9, (D ++ A).length, cellsR (D ++ A)⟩) (by decide) GG.out AT.out)
       have RF := Hd (HN6.out (.slice a9 (D.length + A.length) l9))
       clear hown hgrow hat
       go_wp2
       go_roundw
       case rel => exact ⟨k + 1, _, _, by omega, rfl, by go_num, BF, RF, ROF, OA2⟩
       case measure => simp [intOf]; omega
      ·obtain ⟨uF, uC, uS⟩ := FU.out (by rw [FL2.out]; rfl) rfl
       have c6 := cnt_six uC
       obtain ⟨n, rfl⟩ : ∃ n : Nat, u = (n : Int) := ⟨u.toNat, by omega⟩
       have hn6 : n < 6 := by omega
       have hn0 : n ≠ 0 := by omega
       obtain ⟨i0, hi, hz0, hz1, hz2⟩ := info_parts infoPr
       obtain ⟨p1, p2, p3, p4⟩ := ZP.out (by rw [FL2.out]; rfl) (by first | rfl | trivial) hu (by first | rfl | trivial)
       have CT := Hd (fun w1 (kq : Kp w4 w1) => show Calls Tryz.prog 52 #[.slice a1 A.length l1, .slice a2 B.length l2] w1 fun e w' => ∃ v', e = .returned v' ∧ OwnP w' w1.heap.size v' (pairsF F) ∧ Kp w1 w' from by
        rw [← p1]
        exact rtogether_any _ _ A B w1 (R1.out.kp kq) (R2.out.kp kq) sts.out ens.out (by omega) (by omega) (by omega) (by omega) (by omega))
       have lp := len_prL (n : Int) (l.take k) (fun f hf => (okAll_iff OA0.out f hf).1)
       rw [List.length_take, Nat.min_eq_left (by omega)] at lp
       have ow := B4.out.rws.own n (by omega)
       rw [RD.out.pr n hn6] at ow
       simp only at ow
       have b5 := B4.out.b5
       have fr := B4.out.far (i := n) (by omega) (k := w.heap.size + 1) (by omega)
       have fl := BX.out.rws.lt (i := n) (by omega)
       have pa := pbox_at rs hn6
       have HNn := Hd (fun v => SU.out (by rw [FL2.out]; rfl) rfl n rfl hn0 hn6 v)
       rw [← TK2.out] at HNn
       generalize pairsF F = PF at *
       generalize prL (l.take k) (n : Int) = Q at *
       obtain ⟨pv, hpv⟩ : ∃ x, (rs n).v = x := ⟨_, rfl⟩
       rw [hpv] at ow fr fl pa
       obtain ⟨a7, l7, rfl⟩ := own_sliceK ow
       have HPV := Hd hpv
       have OW := Hd ow
       have FR := Hd fr
       have FL9 := Hd (show (Value.slice a7 Q.length l7).ownBlock ≠ some wo.heap.size from fun e => by have := (fl _ e).2; omega)
       have GB := Hd b5
       have GL := Hd (show w4.heap[wo.heap.size]? = some (.cells #[.bool false, .int .i64 (n : Int), .slice aa a.length ca, .slice ab b.length cb] 44 (0, 0)) from HG.out w4 K4.out)
       have PA := Hd pa
       have d5 : w4.cell? ⟨w.heap.size + 1, n, none⟩ = some (.slice a7 Q.length l7) := by simp [World.cell?, b5, pa]
       have bs := B4.out.sz
       have bw := BX.out.sz
       have zn : (n : Int) < 6 := by omega
       have zm : (0 : Int) ≤ (n : Int) := by omega
       have q0 : ((n : Int) == 0) = false := by simp; omega
       have q0n : (n == 0) = false := by simp; omega
       have KS := Hd (fun w' (kq : Kp w4 w') => show w'.cell? ⟨wo.heap.size, 1, none⟩ = some (.int .i64 (n : Int)) from cell_up kq c1)
       have k00 : Kp w4 w4 := Kp.refl _
       have SDn := Hd (fun r => show sd = (putD rs n r 6).v by rw [putD_ne _ _ (by omega)]; exact HSD.out.symm)
       clear ow fr fl b5 pa hpv uF uC uS p1 p3 p4 c6 SK SS SD FU ZP
       go_upto_region 9 with fail
       refine wp_region_held_drew (S := fun w' => w'.cell? ⟨wo.heap.size, 1, none⟩ = some (.int .i64 (n : Int))) (by kernel_rfl) ?_ (fun hHeld0 => ?_)
       ·(try dsimp only); exact KS.out _ (ky k00)
       refine tkv 0 srA0 ?_
       (try simp only [Act.put, srA0, xA, xB, xC])
       refine tkv 1 srA1 ?_
       (try simp only [Act.put, srA1, xA, xB, xC])
       refine tkv 2 srA2 ?_
       (try simp only [Act.put, srA2, xA, xB, xC])
       refine tkv 3 srA3 ?_
       (try simp only [Act.put, srA3, xA, xB, xC])
       refine tkv 4 srA4 ?_
       (try simp only [Act.put, srA4, xA, xB, xC])
       refine tkv 6 srA6 ?_
       (try simp only [Act.put, srA6, xA, xB, xC])
       refine tkv 7 srA7 ?_
       (try simp only [Act.put, srA7, xA, xB, xC])
       refine tkE2 5 8 srA5 srA8 rfl rfl (by kernel_rfl) (fun K hK => ?_) (fun K hK => ?_)
       ·go_simp
        skip
        (try go_wp2_with fail)
        refine hK.out _ _ ?_ (fun hHeld1 => ?_)
        ·(try dsimp only); exact KS.out _ (ky k00)
        clear hK K hHeld0
        (try simp only [Act.put, srA5, xA, xB, xC])
        refine tkE 8 srA8 rfl (by kernel_rfl) (fun K hK => ?_)
        go_simp
        (refine (CT.out _ (ky k00)).mono ?_; rintro e wt ⟨vt, rfl, ot, kq1⟩; have kkt : Kp w4 wt := Kp.trans (show Kp w4 _ from (ky k00)) kq1; have OT := Hd ot; obtain ⟨at1, lt1, rfl⟩ := ot.slice; have dt := cell_up kkt d5; clear kq1 ot)
        (try go_wp2_with fail)
        refine hK.out _ _ ?_ (fun hHeld2 => ?_)
        ·(try dsimp only); exact KS.out _ (ky kkt)
        clear hK K hHeld1
        (try simp only [Act.put, srA8, xA, xB, xC])
        refine tkE 9 srA9 rfl (by kernel_rfl) (fun K hK => ?_)
        (refine step_appS rfl (.tmp 36) (.tmp 39) 77 rfl (w.heap.size + 3) 31 i0 _ 2 16 Tryz.underlying77 hi hz0 hz1 hz2 rfl (by decide) (.slice a7 Q.length l7) Q.length (cellsR Q) (by simp [Act.eval, Act.put]) (own_kp OW.out (show Kp w4 _ from (ky kkt))) (.slice at1 PF.length lt1) PF.length (cellsR PF) (by simp [Act.eval, Act.put]) (OT.out.runs.kp (ky (Kp.refl wt))).src (by rw [cellsR_length]) (cells_one _) (by unfold maxLen; omega) (by omega) (Nat.le_trans bs (Kp.size2 (show Kp w4 _ from (ky kkt)))) ?_; intro v7 w6 hown hgrow hat; obtain ⟨a9, l9, rfl⟩ := own_sliceK hown; have BQ := B4.out.go (show Kp w4 _ from (ky kkt)); have RQ := RO4.out.kp (show Kp w4 _ from (ky kkt)); have AT := at_row (r := (⟨31, 2, .slice a9 (Q.length + PF.length) l9, (Q ++ PF).length, cellsR (Q ++ PF)⟩ : RowD)) HPV.out hat; have GG := grown_row HPV.out hgrow; have BF := Hd (SBx.putP BQ hn6 (r := (⟨31, 2, .slice a9 (Q.length + PF.length) l9, (Q ++ PF).length, cellsR (Q ++ PF)⟩ : RowD)) (by (simp only; rw [List.length_append, cellsR_append]; exact hown)) GG AT); have ROF := Hd ((RQ.put (i := n) (r := (⟨31, 2, .slice a9 (Q.length + PF.length) l9, (Q ++ PF).length, cellsR (Q ++ PF)⟩ : RowD)) (by omega) GG AT).setCell (a := ⟨w.heap.size + 1, n, none⟩) (by simp) (.slice a9 (Q.length + PF.length) l9)); have RF := Hd (HNn.out (.slice a9 (Q.length + PF.length) l9)); have g6 := grown_heap hgrow (heap_block (show Kp w4 _ from (ky kkt)) GB.out) (fun e => FR.out e); have d7 : w6.cell? ⟨w.heap.size + 1, n, none⟩ = some (.slice a7 Q.length l7) := (by simp [World.cell?, g6, PA.out]); have f7 : w6.frozen? ⟨w.heap.size + 1, n, none⟩ = false := (by simp [World.frozen?, g6]); have gl := grown_heap hgrow (heap_block (show Kp w4 _ from (ky kkt)) GL.out) (fun e => FL9.out e); clear BQ RQ AT GG hown hgrow hat g6)
        (try go_wp2_with fail)
        refine hK.out _ _ ?_ (fun hHeld3 => ?_)
        ·(try dsimp only); exact (row4 (heap_block (ky (Kp.refl w6)) gl)).2.1
        clear hK K hHeld2
        (try simp only [Act.put, srA9, xA, xB, xC])
        refine tkv 10 srA10 ?_
        (try simp only [Act.put, srA10, xA, xB, xC])
        refine tkE 11 srA11 rfl (by kernel_rfl) (fun K hK => ?_)
        go_simp
        skip
        (try go_wp2_with fail)
        refine hK.out _ _ ?_ (fun hHeld4 => ?_)
        ·(try dsimp only); first | exact (row4 ((bx_other1 (by omega) _ _).trans (heap_block (ky (Kp.refl w6)) gl))).2.1
        clear hK K hHeld3
        (try simp only [Act.put, srA11, xA, xB, xC])
        refine wpAnyH_done (by kernel_rfl) ?_ _
        go_wp2
        go_roundw
        case rel => exact ⟨k + 1, _, _, by omega, SDn.out _, by go_num, BF, RF, ROF, OA2⟩
        case measure => simp [intOf]; omega
       ·go_simp
        (refine (CT.out _ (ky k00)).mono ?_; rintro e wt ⟨vt, rfl, ot, kq1⟩; have kkt : Kp w4 wt := Kp.trans (show Kp w4 _ from (ky k00)) kq1; have OT := Hd ot; obtain ⟨at1, lt1, rfl⟩ := ot.slice; have dt := cell_up kkt d5; clear kq1 ot)
        (try go_wp2_with fail)
        refine hK.out _ _ ?_ (fun hHeld1 => ?_)
        ·(try dsimp only); exact KS.out _ (ky kkt)
        clear hK K hHeld0
        (try simp only [Act.put, srA8, xA, xB, xC])
        refine tkE 5 srA5 rfl (by kernel_rfl) (fun K hK => ?_)
        go_simp
        skip
        (try go_wp2_with fail)
        refine hK.out _ _ ?_ (fun hHeld2 => ?_)
        ·(try dsimp only); exact KS.out _ (ky kkt)
        clear hK K hHeld1
        (try simp only [Act.put, srA5, xA, xB, xC])
        refine tkE 9 srA9 rfl (by kernel_rfl) (fun K hK => ?_)
        (refine step_appS rfl (.tmp 36) (.tmp 39) 77 rfl (w.heap.size + 3) 31 i0 _ 2 16 Tryz.underlying77 hi hz0 hz1 hz2 rfl (by decide) (.slice a7 Q.length l7) Q.length (cellsR Q) (by simp [Act.eval, Act.put]) (own_kp OW.out (show Kp w4 _ from (ky kkt))) (.slice at1 PF.length lt1) PF.length (cellsR PF) (by simp [Act.eval, Act.put]) (OT.out.runs.kp (ky (Kp.refl wt))).src (by rw [cellsR_length]) (cells_one _) (by unfold maxLen; omega) (by omega) (Nat.le_trans bs (Kp.size2 (show Kp w4 _ from (ky kkt)))) ?_; intro v7 w6 hown hgrow hat; obtain ⟨a9, l9, rfl⟩ := own_sliceK hown; have BQ := B4.out.go (show Kp w4 _ from (ky kkt)); have RQ := RO4.out.kp (show Kp w4 _ from (ky kkt)); have AT := at_row (r := (⟨31, 2, .slice a9 (Q.length + PF.length) l9, (Q ++ PF).length, cellsR (Q ++ PF)⟩ : RowD)) HPV.out hat; have GG := grown_row HPV.out hgrow; have BF := Hd (SBx.putP BQ hn6 (r := (⟨31, 2, .slice a9 (Q.length + PF.length) l9, (Q ++ PF).length, cellsR (Q ++ PF)⟩ : RowD)) (by (simp only; rw [List.length_append, cellsR_append]; exact hown)) GG AT); have ROF := Hd ((RQ.put (i := n) (r := (⟨31, 2, .slice a9 (Q.length + PF.length) l9, (Q ++ PF).length, cellsR (Q ++ PF)⟩ : RowD)) (by omega) GG AT).setCell (a := ⟨w.heap.size + 1, n, none⟩) (by simp) (.slice a9 (Q.length + PF.length) l9)); have RF := Hd (HNn.out (.slice a9 (Q.length + PF.length) l9)); have g6 := grown_heap hgrow (heap_block (show Kp w4 _ from (ky kkt)) GB.out) (fun e => FR.out e); have d7 : w6.cell? ⟨w.heap.size + 1, n, none⟩ = some (.slice a7 Q.length l7) := (by simp [World.cell?, g6, PA.out]); have f7 : w6.frozen? ⟨w.heap.size + 1, n, none⟩ = false := (by simp [World.frozen?, g6]); have gl := grown_heap hgrow (heap_block (show Kp w4 _ from (ky kkt)) GL.out) (fun e => FL9.out e); clear BQ RQ AT GG hown hgrow hat g6)
        (try go_wp2_with fail)
        refine hK.out _ _ ?_ (fun hHeld3 => ?_)
        ·(try dsimp only); exact (row4 (heap_block (ky (Kp.refl w6)) gl)).2.1
        clear hK K hHeld2
        (try simp only [Act.put, srA9, xA, xB, xC])
        refine tkv 10 srA10 ?_
        (try simp only [Act.put, srA10, xA, xB, xC])
        refine tkE 11 srA11 rfl (by kernel_rfl) (fun K hK => ?_)
        go_simp
        skip
        (try go_wp2_with fail)
        refine hK.out _ _ ?_ (fun hHeld4 => ?_)
        ·(try dsimp only); first | exact (row4 ((bx_other1 (by omega) _ _).trans (heap_block (ky (Kp.refl w6)) gl))).2.1
        clear hK K hHeld3
        (try simp only [Act.put, srA11, xA, xB, xC])
        refine wpAnyH_done (by kernel_rfl) ?_ _
        go_wp2
        go_roundw
        case rel => exact ⟨k + 1, _, _, by omega, SDn.out _, by go_num, BF, RF, ROF, OA2⟩
        case measure => simp [intOf]; omega
   ·have OF := ON.out (Bool.eq_false_iff.2 fun h => hse (by simpa using h))
    have g2 := B3.out.b2
    have K9 := Hd (BX.out.kp.trans (KA.out.trans K3.out))
    have d0 : w3.cell? ⟨w.heap.size, 0, none⟩ = some (.slice none 0 0) := (row2 g2).1
    have d1 : w3.cell? ⟨w.heap.size, 1, none⟩ = some (.slice none 0 0) := (row2 g2).2
    have f0 : w3.frozen? ⟨w.heap.size, 0, none⟩ = false := by simp [World.frozen?, g2]
    have f1 : w3.frozen? ⟨w.heap.size, 1, none⟩ = false := by simp [World.frozen?, g2]
    have g3 := bx_heap1 g2 0 (.slice none 0 0)
    have g4 := bx_heap1 g3 1 (.slice none 0 0)
    have e0 : ((w3.setCell ⟨w.heap.size, 0, none⟩ (.slice none 0 0)).setCell ⟨w.heap.size, 1, none⟩ (.slice none 0 0)).cell? ⟨w.heap.size, 0, none⟩ = some (.slice none 0 0) := (row2 g4).1
    have e1 : ((w3.setCell ⟨w.heap.size, 0, none⟩ (.slice none 0 0)).setCell ⟨w.heap.size, 1, none⟩ (.slice none 0 0)).cell? ⟨w.heap.size, 1, none⟩ = some (.slice none 0 0) := (row2 g4).2
    have PO := Hd (show SPost l (.returned (.tuple #[.agg #[.slice none 0 0, .slice none 0 0], .bool false])) ((w3.setCell ⟨w.heap.size, 0, none⟩ (.slice none 0 0)).setCell ⟨w.heap.size, 1, none⟩ (.slice none 0 0)) ∧ Kp w ((w3.setCell ⟨w.heap.size, 0, none⟩ (.slice none 0 0)).setCell ⟨w.heap.size, 1, none⟩ (.slice none 0 0)) from ⟨⟨fun h => (by rw [OF] at h; cases h), fun _ => rfl⟩, kp_setCell2 (kp_setCell2 K9.out (Nat.le_refl _) _) (Nat.le_refl _) _⟩)
    clear g2 g3 g4 OF
    cases sb with
    | true =>
     cases eb with
     | true => exact absurd ⟨rfl, rfl⟩ hse
     | false =>
      clear hse
      go_wp2
      exact bodyPost_ret (v := .tuple #[.agg #[.slice none 0 0, .slice none 0 0], .bool false]) (by simp [results, Tryz.results26, go_sem, e0, e1]) rfl PO.out
    | false =>
     clear hse
     go_wp2
     exact bodyPost_ret (v := .tuple #[.agg #[.slice none 0 0, .slice none 0 0], .bool false]) (by simp [results, Tryz.results26, go_sem, e0, e1]) rfl PO.out
  ·have q1 : decide ((k : Int) < (l.length : Int)) = false := dF
   have ek : k = l.length := by omega
   subst ek
   rw [List.take_length] at RD OA
   have ow6 := BX.out.rws.own 6 (by decide)
   rw [RD.out.dy] at ow6
   simp only at ow6
   rw [HSD.out] at ow6
   obtain ⟨a7, l7, rfl⟩ := own_sliceK ow6
   have R6 := Hd (runsAt_own ow6)
   have ld := len_dyL l
   have HN7 := Hd (fun hd r6 v v1 v2 => SRe.start1 RD.out hd r6 v v1 v2)
   have HN0 := Hd (fun hd => SRe.start0 RD.out hd)
   have i64 := Hd (dyL_i64 (l := l))
   have ow7 := BX.out.rws.own 7 (by decide)
   rw [RD.out.lo] at ow7
   have lm := len_ms RD.out
   simp only at ow7
   generalize hD : dyL l = D at *
   have HD := Hd hD
   clear ow6 hD
   go_upto_if 74 with fail
   go_cut [4] from 15 (fun s4 wx => ∃ (rs' : Nat → RowD) (m' : List OV), Hid (SLx w rs' wx) ∧ Hid (wx.heap[w.heap.size + 1]? = some (.cells (pbox rs) 78 (0, 0))) ∧ Hid (SRe l (fun u => (rs u).v) 0 rs' (fun _ => []) m') ∧ Hid (ReadsO wx (w.heap.size + 3) 9 rs' m'))
   case first =>
    by_cases hd : D.length = 0
    ·have g1 : decide ((D.length : Int) > 0) = false := dF
     have g2 : decide ((0 : Int) < (D.length : Int)) = false := dF
     have g3 : decide (0 < D.length) = false := dF
     have E0 := Hd (HN0.out hd)
     clear HN0 HN7
     go_wp2
     go_meet
     case rel => exact ⟨rs, m, Hd BX.out.slx, Hd BX.out.b5, E0, RO⟩
    ·have g1 : decide ((D.length : Int) > 0) = true := dT
     have g2 : decide ((0 : Int) < (D.length : Int)) = true := dT
     have g3 : decide (0 < D.length) = true := dT
     have n64 := nf_len D
     obtain ⟨i0, hi, hz0, hz1, hz2⟩ := info_parts infoLoo
     go_wp2_with fail
     refine (make_any _ D wo R6.out i64.out (by omega)).mono ?_
     rintro e w2 ⟨vd, rfl, od, kd⟩
     obtain ⟨a8, l8, rfl⟩ := own_sliceK od
     have E1 := Hd (fun v => HN7.out hd ⟨42, 2, .slice none 0 0, 0, []⟩ v (.slice a8 (nf D).length l8) (.slice a8 (nf D).length l8))
     have GP := Hd (heap_block kd BX.out.b5)
     have B3 := (BX.out.go kd).putN (i := 6) rfl (r := ⟨42, 2, .slice none 0 0, 0, []⟩) (World.ownsRow_nil _ _ _ _) (grown_refl _ _) (.inr (.inl rfl))
     have D3 := (Own1.new BX.out.rws BX.out.sz od).put (i := 6) (by decide) (r := ⟨42, 2, .slice none 0 0, 0, []⟩) (grown_refl _ _) (.inr (.inl rfl))
     have RO3 := (RO.out.kp kd).put (i := 6) (by decide) (r := ⟨42, 2, .slice none 0 0, 0, []⟩) (grown_refl _ _) (.inr (.inl rfl))
     have P7 : putD rs 6 ⟨42, 2, .slice none 0 0, 0, []⟩ 7 = rs 7 := putD_ne _ _ (by decide)
     replace ow7 := own_kp ow7 kd
     have b6 := B3.b6
     have fr := B3.far (i := 7) (by decide) (k := w.heap.size + 2) (by omega)
     rw [P7] at b6 fr
     have HR := Hd (show ∃ q, q = putD rs 6 ⟨42, 2, .slice none 0 0, 0, []⟩ from ⟨_, rfl⟩)
     generalize putD rs 6 ⟨42, 2, .slice none 0 0, 0, []⟩ = rt at *
     obtain ⟨so, hso⟩ : ∃ x, (rs 7).v = x := ⟨_, rfl⟩
     obtain ⟨sl, hsl⟩ : ∃ x, (rt 8).v = x := ⟨_, rfl⟩
     have hst : (rt 7).v = so := by rw [P7]; exact hso
     rw [hso] at ow7 b6 fr
     rw [hsl] at b6
     have HSO := Hd hst
     clear hso hsl hst P7 HR
     obtain ⟨a3, l3, rfl⟩ := own_sliceK ow7
     obtain ⟨W5, hW5⟩ : ∃ x, x = w2.alloc (.cells #[.bool true, .slice a8 (nf D).length l8, .slice a8 (nf D).length l8] 80) := ⟨_, rfl⟩
     have k5 : Kp w2 W5 := by rw [hW5]; exact Kp.alloc _ _
     have g5 : W5.heap[w2.heap.size]? = some (.cells #[.bool true, .slice a8 (nf D).length l8, .slice a8 (nf D).length l8] 80 (0, 0)) := by rw [hW5]; exact heap_at _ _ _ rfl
     have SRC : SrcAt W5 (.slice (some ⟨w2.heap.size, 0, none⟩) 1 1) 1 [.bool true, .slice a8 (nf D).length l8, .slice a8 (nf D).length l8] := .inr ⟨_, _, rfl, World.news_of_block g5⟩
     have B5 := Hd (B3.go k5)
     have RO5 := Hd (RO3.kp k5)
     have A1 := Hd (D3.kp k5)
     have OW := Hd (own_kp ow7 k5)
     have GB := Hd (heap_block k5 b6)
     have FR := Hd fr
     have d6 : w2.cell? ⟨w.heap.size + 2, 1, none⟩ = some (.slice a3 m.length l3) := (row2 b6).2
     have HW5 := Hd hW5
     have bs := B5.out.sz
     generalize nf D = ND at *
     have K5 := Hd k5
     clear hW5 k5 g5 ow7 b6 fr HN0 HN7 od B3 D3 RO3
     go_wp2_with (at_builtin; refine Hid.out ?_)
     refine Hd ?_
     rw [← HW5.out]
     refine wpList_app rfl (.tmp 78) (.tmp 82) 47 rfl (w.heap.size + 3) 80 i0 _ 3 56 Tryz.underlying47 hi hz0 hz1 hz2 rfl (by decide) _ m.length (cellsO m) rfl OW.out _ 1 _ rfl SRC (by simp) (by intro u hu; simp only [List.mem_cons, List.not_mem_nil, or_false] at hu; rcases hu with rfl | rfl | rfl <;> rfl) (by unfold maxLen; omega) (by omega) bs ?_
     intro v7 w6 hown hgrow hat
     obtain ⟨a9, l9, rfl⟩ := own_sliceK hown
     have e7 : (m ++ [((true, ND, ND), (.slice a8 ND.length l8, .slice a8 ND.length l8))] : List OV).length = m.length + 1 := by simp
     have AT := at_row (r := ⟨80, 3, .slice a9 (m.length + 1) l9, (m ++ [((true, ND, ND), (.slice a8 ND.length l8, .slice a8 ND.length l8))] : List OV).length, cellsO (m ++ [((true, ND, ND), (.slice a8 ND.length l8, .slice a8 ND.length l8))])⟩) HSO.out hat
     have GG := grown_row HSO.out hgrow
     have BF := B5.out.putO (r := ⟨80, 3, .slice a9 (m.length + 1) l9, (m ++ [((true, ND, ND), (.slice a8 ND.length l8, .slice a8 ND.length l8))] : List OV).length, cellsO (m ++ [((true, ND, ND), (.slice a8 ND.length l8, .slice a8 ND.length l8))])⟩) (by simp only; rw [e7, cellsO_append]; exact hown) GG AT
     have ROF := Hd (ReadsO.add ((RO5.out.put (i := 7) (r := ⟨80, 3, .slice a9 (m.length + 1) l9, (m ++ [((true, ND, ND), (.slice a8 ND.length l8, .slice a8 ND.length l8))] : List OV).length, cellsO (m ++ [((true, ND, ND), (.slice a8 ND.length l8, .slice a8 ND.length l8))])⟩) (by decide) GG AT).setCell (a := ⟨w.heap.size + 2, 1, none⟩) (by simp) (.slice a9 (m.length + 1) l9)) (d := true) ((A1.out.put (i := 7) (r := ⟨80, 3, .slice a9 (m.length + 1) l9, (m ++ [((true, ND, ND), (.slice a8 ND.length l8, .slice a8 ND.length l8))] : List OV).length, cellsO (m ++ [((true, ND, ND), (.slice a8 ND.length l8, .slice a8 ND.length l8))])⟩) (by decide) GG AT).setCell (a := ⟨w.heap.size + 2, 1, none⟩) (by simp) (.slice a9 (m.length + 1) l9)) ((A1.out.put (i := 7) (r := ⟨80, 3, .slice a9 (m.length + 1) l9, (m ++ [((true, ND, ND), (.slice a8 ND.length l8, .slice a8 ND.length l8))] : List OV).length, cellsO (m ++ [((true, ND, ND), (.slice a8 ND.length l8, .slice a8 ND.length l8))])⟩) (by decide) GG AT).setCell (a := ⟨w.heap.size + 2, 1, none⟩) (by simp) (.slice a9 (m.length + 1) l9)))
     have RF := Hd (E1.out (.slice a9 (m.length + 1) l9))
     have b6 := grown_heap hgrow GB.out (fun e => FR.out e)
     have d7 : w6.cell? ⟨w.heap.size + 2, 1, none⟩ = some (.slice a3 m.length l3) := (row2 b6).2
     have f7 : w6.frozen? ⟨w.heap.size + 2, 1, none⟩ = false := by simp [World.frozen?, b6]
     have B5F := Hd (show (w6.setCell ⟨w.heap.size + 2, 1, none⟩ (.slice a9 (m.length + 1) l9)).heap[w.heap.size + 1]? = some (.cells (pbox rs) 78 (0, 0)) from (bx_other1 (by omega) _ _).trans (grown_heap hgrow (heap_block K5.out GP.out) (fun e => by have h := B5.out.far (i := 7) (by decide) (k := w.heap.size + 1) (by omega); rw [HSO.out] at h; exact h e)))
     have SF := Hd BF.slx
     clear hown hgrow hat b6 e7 d6 AT GG BF
     go_wp2
     go_meet
     case rel => exact ⟨_, _, SF, B5F, RF, ROF⟩
   obtain ⟨rs', m', SX, GP, RE, ROx⟩ := hcut
   obtain ⟨w1, hw1⟩ : ∃ x, x = wc := ⟨_, rfl⟩
   subst hw1
   have gp := GP.out
   go_wp2_with (refine wpList_load_row rfl 78 (.tmp 5) rfl (w.heap.size + 1) rfl 78 (pbox rs) (0, 0) _ gp Tryz.underlying78 rfl (by exact six_info) ?_)
   clear gp RD RO BX HSD HN0 HN7 R6 ow7 lm ld i64 HD
   go_loopw [86] (fun i wr => ∃ (k : Nat) (rs2 : Nat → RowD) (Ls : Nat → List R), k ≤ 6 ∧ i = .int .i64 k ∧ Hid (SLx w rs2 wr) ∧ Hid (SRe l (fun u => (rs u).v) k rs2 Ls m') ∧ Hid (ReadsO wr (w.heap.size + 3) 9 rs2 m')) (fun i _ => 6 - (intOf i).toNat)
   case atStart => exact ⟨0, rs', _, by omega, rfl, SX, RE, ROx⟩
   case round =>
    obtain ⟨k, rs2, Ls, hk, rfl, SX2, RE2, RO2⟩ := hrel
    obtain ⟨wq, hwq⟩ : ∃ x, x = wr := ⟨_, rfl⟩
    subst hwq
    have ow8 := SX2.out.rws.own 8 (by decide)
    rw [RE2.out.li] at ow8
    simp only at ow8
    obtain ⟨lv, hlv⟩ : ∃ x, (rs2 8).v = x := ⟨_, rfl⟩
    have b6 := SX2.out.b6
    rw [hlv] at ow8 b6
    obtain ⟨a8, l8, rfl⟩ := own_sliceK ow8
    by_cases hlt : k < 6
    ·have q1 : decide ((k : Int) < 6) = true := dT
     have q2 : decide (k < 6) = true := decide_eq_true hlt
     obtain ⟨si, hsi⟩ := prs_info
     have nk := pbox_at rs hlt
     have ow := SX2.out.rws.own k (by omega)
     have rv : (rs2 k).v = (rs k).v := by rw [RE2.out.pr k (Nat.le_refl _) hlt]
     rw [RE2.out.pr k (Nat.le_refl _) hlt] at ow
     simp only at ow
     obtain ⟨pv, hpv⟩ : ∃ x, (rs k).v = x := ⟨_, rfl⟩
     rw [hpv] at ow nk rv
     obtain ⟨a7, l7, rfl⟩ := own_sliceK ow
     have lp := len_prL (k : Int) l (fun f hf => (okAll_iff OA.out f hf).1)
     have PS := Hd (psortV (prL l (k : Int)) wq ow rfl (by omega))
     have RV := Hd rv
     have HLV := Hd hlv
     have HLT := Hd hlt
     have NX := Hd (fun v v8 L h1 h2 h3 => RE2.out.next (v := v) (v8 := v8) (L := L) hlt h1 h2 h3)
     have RSR := Hd (fun L h1 h2 => riseP_sorted (l := l) (u := (k : Int)) (L := L) h1 h2)
     generalize hXS : (List.range k).map (fun u => (rs2 u).v) = XS at *
     generalize hQ : prL l (k : Int) = Q at *
     have xl : XS.length = k := by rw [← hXS]; simp
     have XL := Hd xl
     have OW8 := Hd ow8
     have GB6 := Hd b6
     clear hQ hXS hpv rv hlv ow b6 ow8 xl
     go_wp2_with (refine wpList_index_sl rfl 78 77 (.tmp 85) (.tmp 86) rfl 6 (pbox rs) k _ si rfl rfl Tryz.underlying78 hlt Tryz.isAgg77 hsi prs_cells nk ?_)
     refine PS.out.mono ?_
     rintro e w2 ⟨L1, rfl, h1, h2, h3, h4, h5⟩
     have S2 := Hd (SX2.out.putP (i := k) (r := ⟨31, 2, .slice a7 Q.length l7, Q.length, cellsR L1⟩) hlt h4 (by rw [RV.out]; exact h5) (by rw [RV.out]))
     have RO3 := Hd (RO2.out.put (i := k) (r := ⟨31, 2, .slice a7 Q.length l7, Q.length, cellsR L1⟩) (by omega) (by rw [RV.out]; exact h5) (.inl (by rw [RV.out])))
     have F6 := Hd (show (Value.slice a7 Q.length l7).ownBlock ≠ some (w.heap.size + 2) from fun e => by have h := SX2.out.far (i := k) (by omega) (k := w.heap.size + 2) (by omega); rw [RV.out] at h; exact h e)
     have F8 := Hd (show (Value.slice a8 k l8).ownBlock ≠ some (w.heap.size + 2) from fun e => by have h := SX2.out.far (i := 8) (by omega) (k := w.heap.size + 2) (by omega); rw [HLV.out] at h; exact h e)
     have A8 := Hd (show ∀ b, (Value.slice a7 Q.length l7).ownBlock = some b → (Value.slice a8 k l8).ownBlock ≠ some b from fun b e e2 => by have h := SX2.out.rws.apart k 8 (by omega) (by decide) (by omega) b; rw [RV.out, HLV.out] at h; exact h e e2)
     have O2 := Hd (own_farR OW8.out h5 A8.out)
     have G2 := Hd (grown_heap h5 GB6.out F6.out)
     have CC := Hd (fun W (kq : Kp w2 W) => compactW L1 W kq (own_kp h4 kq) h1 (RSR.out L1 h2 h3) (by omega))
     have M1 := Hd h2
     have d6 : w2.cell? ⟨w.heap.size + 2, 0, none⟩ = some (.slice a8 k l8) := (row2 G2.out).1
     have k00 : Kp w2 w2 := Kp.refl _
     obtain ⟨i0, hi, hz0, hz1, hz2⟩ := info_parts infoLi
     have bs := S2.out.sz
     have k6 : k ≤ 6 := hk
     clear h1 h2 h3 h4 h5 SX2 RE2 RO2 PS nk
     go_upto_region 25 with fail
     refine wp_region_held_drew (S := fun w' => True) (by kernel_rfl) ?_ (fun hHeld0 => ?_)
     ·(try dsimp only); (try trivial)
     refine tkv 0 srB0 ?_
     (try simp only [Act.put, srB0, xA, xB, xC])
     refine tkv 2 srB2 ?_
     (try simp only [Act.put, srB2, xA, xB, xC])
     refine tkE2 1 3 srB1 srB3 rfl rfl (by kernel_rfl) (fun K hK => ?_) (fun K hK => ?_)
     ·go_simp
      skip
      (try go_wp2_with fail)
      refine hK.out _ _ ?_ (fun hHeld1 => ?_)
      ·(try dsimp only); (try trivial)
      clear hK K hHeld0
      (try simp only [Act.put, srB1, xA, xB, xC])
      refine tkE 3 srB3 rfl (by kernel_rfl) (fun K hK => ?_)
      go_simp
      (refine (CC.out _ (ky k00)).mono ?_; rintro e wy ⟨vc, Lc, rfl, g1, g2, g3, g4, g5, g6, kw⟩; obtain ⟨ac, lc, rfl⟩ := own_sliceK g4; have gr := grown_row (putD_v rs2 k (⟨31, 2, .slice a7 Q.length l7, Q.length, cellsR L1⟩ : RowD)) g6; have SC0 := SLx.putP (S2.out.go kw) HLT.out (r := (⟨31, 2, .slice ac Lc.length lc, Lc.length, cellsR Lc⟩ : RowD)) g4 gr (by (rw [putD_at]; exact g5)); have RC0 := (RO3.out.kp kw).put (i := k) (r := (⟨31, 2, .slice ac Lc.length lc, Lc.length, cellsR Lc⟩ : RowD)) (by (have := HLT.out; omega)) gr (.inl (by (rw [putD_at]; exact g5))); rw [putD_twice] at SC0 RC0; have SC := Hd SC0; have RC := Hd RC0; have OC := Hd (own_farR (own_kp O2.out kw) g6 A8.out); have GC := Hd (grown_heap g6 (heap_block kw G2.out) F6.out); have dy := (row2 GC.out).1; have NC := Hd (fun v8 => NX.out (.slice ac Lc.length lc) v8 Lc (fun p => (g2 p).trans (M1.out p)) g3 g1); have bsy := SC.out.sz; have nb : ¬ (w.heap.size + 2 = wy.heap.size) := (by omega); have lb : w.heap.size + 2 < wy.heap.size := (by omega); have kky : Kp wy wy := Kp.refl _; clear SC0 RC0 g1 g2 g3 g4 g5 g6 gr kw)
      (try go_wp2_with fail)
      refine hK.out _ _ ?_ (fun hHeld2 => ?_)
      ·(try dsimp only); (try trivial)
      clear hK K hHeld1
      (try simp only [Act.put, srB3, xA, xB, xC])
      refine tkE 4 srB4 rfl (by kernel_rfl) (fun K hK => ?_)
      go_simp
      skip
      (try go_wp2_with fail)
      refine hK.out _ _ ?_ (fun hHeld3 => ?_)
      ·(try dsimp only); (try trivial)
      clear hK K hHeld2
      (try simp only [Act.put, srB4, xA, xB, xC])
      refine tkE 5 srB5 rfl (by kernel_rfl) (fun K hK => ?_)
      (refine step_appS rfl (.tmp 92) (.tmp 95) 46 rfl (w.heap.size + 3) 87 i0 _ 1 24 Tryz.underlying46 hi hz0 hz1 hz2 rfl (by decide) (.slice a8 k l8) k XS (by simp [Act.eval, Act.put]) (own_kp OC.out (show Kp wy _ from (ky kky))) (.slice (some ⟨wy.heap.size, 0, none⟩) 1 1) 1 [.slice ac Lc.length lc] (by simp [Act.eval, Act.put]) (.inr ⟨_, _, rfl, World.news_of_block (heap_at _ _ _ rfl)⟩) (by simp) (by intro u hu; rw [List.mem_singleton.1 hu]; rfl) (by unfold maxLen; omega) (by omega) (Nat.le_trans bsy (Kp.size2 (show Kp wy _ from (ky kky)))) ?_; intro v9 w9 hown hgrow hat; obtain ⟨a9, l9, rfl⟩ := own_sliceK hown; have H8 : (putD rs2 k (⟨31, 2, .slice ac Lc.length lc, Lc.length, cellsR Lc⟩ : RowD) 8).v = .slice a8 k l8 := (by (rw [putD_ne _ _ (by (have := HLT.out; omega))]; exact HLV.out)); have AT := at_row (r := (⟨87, 1, .slice a9 (k + 1) l9, k + 1, XS ++ [.slice ac Lc.length lc]⟩ : RowD)) H8 hat; have GG := grown_row H8 hgrow; have SF := Hd (SLx.putL (SC.out.go (ky kky)) (r := (⟨87, 1, .slice a9 (k + 1) l9, k + 1, XS ++ [.slice ac Lc.length lc]⟩ : RowD)) hown GG AT); have RF := Hd (((RC.out.kp (ky kky)).put (i := 8) (r := (⟨87, 1, .slice a9 (k + 1) l9, k + 1, XS ++ [.slice ac Lc.length lc]⟩ : RowD)) (by decide) GG AT).setCell (a := ⟨w.heap.size + 2, 0, none⟩) (by simp) (.slice a9 (k + 1) l9)); have NF := Hd (NC.out (.slice a9 (k + 1) l9)); have g9 := grown_heap hgrow (heap_block (show Kp wy _ from (ky kky)) GC.out) F8.out; have d9 := (row2 g9).1; have f9 : w9.frozen? ⟨w.heap.size + 2, 0, none⟩ = false := (by simp [World.frozen?, g9]); clear H8 AT GG hown hgrow hat g9)
      (try go_wp2_with fail)
      refine hK.out _ _ ?_ (fun hHeld4 => ?_)
      ·(try dsimp only); (try trivial)
      clear hK K hHeld3
      (try simp only [Act.put, srB5, xA, xB, xC])
      refine tkv 6 srB6 ?_
      (try simp only [Act.put, srB6, xA, xB, xC])
      refine tkE 7 srB7 rfl (by kernel_rfl) (fun K hK => ?_)
      go_simp
      skip
      (try go_wp2_with fail)
      refine hK.out _ _ ?_ (fun hHeld5 => ?_)
      ·(try dsimp only); (try trivial)
      clear hK K hHeld4
      (try simp only [Act.put, srB7, xA, xB, xC])
      refine wpAnyH_done (by kernel_rfl) ?_ _
      go_wp2
      go_roundw
      case rel => exact ⟨k + 1, _, _, by have := HLT.out; omega, by go_num, SF, NF, RF⟩
      case measure => have := HLT.out; simp [intOf]; omega
     ·go_simp
      (refine (CC.out _ (ky k00)).mono ?_; rintro e wy ⟨vc, Lc, rfl, g1, g2, g3, g4, g5, g6, kw⟩; obtain ⟨ac, lc, rfl⟩ := own_sliceK g4; have gr := grown_row (putD_v rs2 k (⟨31, 2, .slice a7 Q.length l7, Q.length, cellsR L1⟩ : RowD)) g6; have SC0 := SLx.putP (S2.out.go kw) HLT.out (r := (⟨31, 2, .slice ac Lc.length lc, Lc.length, cellsR Lc⟩ : RowD)) g4 gr (by (rw [putD_at]; exact g5)); have RC0 := (RO3.out.kp kw).put (i := k) (r := (⟨31, 2, .slice ac Lc.length lc, Lc.length, cellsR Lc⟩ : RowD)) (by (have := HLT.out; omega)) gr (.inl (by (rw [putD_at]; exact g5))); rw [putD_twice] at SC0 RC0; have SC := Hd SC0; have RC := Hd RC0; have OC := Hd (own_farR (own_kp O2.out kw) g6 A8.out); have GC := Hd (grown_heap g6 (heap_block kw G2.out) F6.out); have dy := (row2 GC.out).1; have NC := Hd (fun v8 => NX.out (.slice ac Lc.length lc) v8 Lc (fun p => (g2 p).trans (M1.out p)) g3 g1); have bsy := SC.out.sz; have nb : ¬ (w.heap.size + 2 = wy.heap.size) := (by omega); have lb : w.heap.size + 2 < wy.heap.size := (by omega); have kky : Kp wy wy := Kp.refl _; clear SC0 RC0 g1 g2 g3 g4 g5 g6 gr kw)
      (try go_wp2_with fail)
      refine hK.out _ _ ?_ (fun hHeld1 => ?_)
      ·(try dsimp only); (try trivial)
      clear hK K hHeld0
      (try simp only [Act.put, srB3, xA, xB, xC])
      refine tkE2 1 4 srB1 srB4 rfl rfl (by kernel_rfl) (fun K hK => ?_) (fun K hK => ?_)
      ·go_simp
       skip
       (try go_wp2_with fail)
       refine hK.out _ _ ?_ (fun hHeld2 => ?_)
       ·(try dsimp only); (try trivial)
       clear hK K hHeld1
       (try simp only [Act.put, srB1, xA, xB, xC])
       refine tkE 4 srB4 rfl (by kernel_rfl) (fun K hK => ?_)
       go_simp
       skip
       (try go_wp2_with fail)
       refine hK.out _ _ ?_ (fun hHeld3 => ?_)
       ·(try dsimp only); (try trivial)
       clear hK K hHeld2
       (try simp only [Act.put, srB4, xA, xB, xC])
       refine tkE 5 srB5 rfl (by kernel_rfl) (fun K hK => ?_)
       (refine step_appS rfl (.tmp 92) (.tmp 95) 46 rfl (w.heap.size + 3) 87 i0 _ 1 24 Tryz.underlying46 hi hz0 hz1 hz2 rfl (by decide) (.slice a8 k l8) k XS (by simp [Act.eval, Act.put]) (own_kp OC.out (show Kp wy _ from (ky kky))) (.slice (some ⟨wy.heap.size, 0, none⟩) 1 1) 1 [.slice ac Lc.length lc] (by simp [Act.eval, Act.put]) (.inr ⟨_, _, rfl, World.news_of_block (heap_at _ _ _ rfl)⟩) (by simp) (by intro u hu; rw [List.mem_singleton.1 hu]; rfl) (by unfold maxLen; omega) (by omega) (Nat.le_trans bsy (Kp.size2 (show Kp wy _ from (ky kky)))) ?_; intro v9 w9 hown hgrow hat; obtain ⟨a9, l9, rfl⟩ := own_sliceK hown; have H8 : (putD rs2 k (⟨31, 2, .slice ac Lc.length lc, Lc.length, cellsR Lc⟩ : RowD) 8).v = .slice a8 k l8 := (by (rw [putD_ne _ _ (by (have := HLT.out; omega))]; exact HLV.out)); have AT := at_row (r := (⟨87, 1, .slice a9 (k + 1) l9, k + 1, XS ++ [.slice ac Lc.length lc]⟩ : RowD)) H8 hat; have GG := grown_row H8 hgrow; have SF := Hd (SLx.putL (SC.out.go (ky kky)) (r := (⟨87, 1, .slice a9 (k + 1) l9, k + 1, XS ++ [.slice ac Lc.length lc]⟩ : RowD)) hown GG AT); have RF := Hd (((RC.out.kp (ky kky)).put (i := 8) (r := (⟨87, 1, .slice a9 (k + 1) l9, k + 1, XS ++ [.slice ac Lc.length lc]⟩ : RowD)) (by decide) GG AT).setCell (a := ⟨w.heap.size + 2, 0, none⟩) (by simp) (.slice a9 (k + 1) l9)); have NF := Hd (NC.out (.slice a9 (k + 1) l9)); have g9 := grown_heap hgrow (heap_block (show Kp wy _ from (ky kky)) GC.out) F8.out; have d9 := (row2 g9).1; have f9 : w9.frozen? ⟨w.heap.size + 2, 0, none⟩ = false := (by simp [World.frozen?, g9]); clear H8 AT GG hown hgrow hat g9)
       (try go_wp2_with fail)
       refine hK.out _ _ ?_ (fun hHeld4 => ?_)
       ·(try dsimp only); (try trivial)
       clear hK K hHeld3
       (try simp only [Act.put, srB5, xA, xB, xC])
       refine tkv 6 srB6 ?_
       (try simp only [Act.put, srB6, xA, xB, xC])
       refine tkE 7 srB7 rfl (by kernel_rfl) (fun K hK => ?_)
       go_simp
       skip
       (try go_wp2_with fail)
       refine hK.out _ _ ?_ (fun hHeld5 => ?_)
       ·(try dsimp only); (try trivial)
       clear hK K hHeld4
       (try simp only [Act.put, srB7, xA, xB, xC])
       refine wpAnyH_done (by kernel_rfl) ?_ _
       go_wp2
       go_roundw
       case rel => exact ⟨k + 1, _, _, by have := HLT.out; omega, by go_num, SF, NF, RF⟩
       case measure => have := HLT.out; simp [intOf]; omega
      ·go_simp
       skip
       (try go_wp2_with fail)
       refine hK.out _ _ ?_ (fun hHeld2 => ?_)
       ·(try dsimp only); (try trivial)
       clear hK K hHeld1
       (try simp only [Act.put, srB4, xA, xB, xC])
       refine tkE 1 srB1 rfl (by kernel_rfl) (fun K hK => ?_)
       go_simp
       skip
       (try go_wp2_with fail)
       refine hK.out _ _ ?_ (fun hHeld3 => ?_)
       ·(try dsimp only); (try trivial)
       clear hK K hHeld2
       (try simp only [Act.put, srB1, xA, xB, xC])
       refine tkE 5 srB5 rfl (by kernel_rfl) (fun K hK => ?_)
       (refine step_appS rfl (.tmp 92) (.tmp 95) 46 rfl (w.heap.size + 3) 87 i0 _ 1 24 Tryz.underlying46 hi hz0 hz1 hz2 rfl (by decide) (.slice a8 k l8) k XS (by simp [Act.eval, Act.put]) (own_kp OC.out (show Kp wy _ from (ky kky))) (.slice (some ⟨wy.heap.size, 0, none⟩) 1 1) 1 [.slice ac Lc.length lc] (by simp [Act.eval, Act.put]) (.inr ⟨_, _, rfl, World.news_of_block (heap_at _ _ _ rfl)⟩) (by simp) (by intro u hu; rw [List.mem_singleton.1 hu]; rfl) (by unfold maxLen; omega) (by omega) (Nat.le_trans bsy (Kp.size2 (show Kp wy _ from (ky kky)))) ?_; intro v9 w9 hown hgrow hat; obtain ⟨a9, l9, rfl⟩ := own_sliceK hown; have H8 : (putD rs2 k (⟨31, 2, .slice ac Lc.length lc, Lc.length, cellsR Lc⟩ : RowD) 8).v = .slice a8 k l8 := (by (rw [putD_ne _ _ (by (have := HLT.out; omega))]; exact HLV.out)); have AT := at_row (r := (⟨87, 1, .slice a9 (k + 1) l9, k + 1, XS ++ [.slice ac Lc.length lc]⟩ : RowD)) H8 hat; have GG := grown_row H8 hgrow; have SF := Hd (SLx.putL (SC.out.go (ky kky)) (r := (⟨87, 1, .slice a9 (k + 1) l9, k + 1, XS ++ [.slice ac Lc.length lc]⟩ : RowD)) hown GG AT); have RF := Hd (((RC.out.kp (ky kky)).put (i := 8) (r := (⟨87, 1, .slice a9 (k + 1) l9, k + 1, XS ++ [.slice ac Lc.length lc]⟩ : RowD)) (by decide) GG AT).setCell (a := ⟨w.heap.size + 2, 0, none⟩) (by simp) (.slice a9 (k + 1) l9)); have NF := Hd (NC.out (.slice a9 (k + 1) l9)); have g9 := grown_heap hgrow (heap_block (show Kp wy _ from (ky kky)) GC.out) F8.out; have d9 := (row2 g9).1; have f9 : w9.frozen? ⟨w.heap.size + 2, 0, none⟩ = false := (by simp [World.frozen?, g9]); clear H8 AT GG hown hgrow hat g9)
       (try go_wp2_with fail)
       refine hK.out _ _ ?_ (fun hHeld4 => ?_)
       ·(try dsimp only); (try trivial)
       clear hK K hHeld3
       (try simp only [Act.put, srB5, xA, xB, xC])
       refine tkv 6 srB6 ?_
       (try simp only [Act.put, srB6, xA, xB, xC])
       refine tkE 7 srB7 rfl (by kernel_rfl) (fun K hK => ?_)
       go_simp
       skip
       (try go_wp2_with fail)
       refine hK.out _ _ ?_ (fun hHeld5 => ?_)
       ·(try dsimp only); (try trivial)
       clear hK K hHeld4
       (try simp only [Act.put, srB7, xA, xB, xC])
       refine wpAnyH_done (by kernel_rfl) ?_ _
       go_wp2
       go_roundw
       case rel => exact ⟨k + 1, _, _, by have := HLT.out; omega, by go_num, SF, NF, RF⟩
       case measure => have := HLT.out; simp [intOf]; omega
    ·have ek : k = 6 := by omega
     subst ek
     have q1 : decide (((6 : Nat) : Int) < 6) = false := by decide
     have ow7 := SX2.out.rws.own 7 (by decide)
     rw [RE2.out.lo] at ow7
     simp only at ow7
     obtain ⟨ov, hov⟩ : ∃ x, (rs2 7).v = x := ⟨_, rfl⟩
     rw [hov] at ow7 b6
     obtain ⟨a7, l7, rfl⟩ := own_sliceK ow7
     have b2 := SX2.out.b2
     have sz := SX2.out.sz
     have e0 : wq.cell? ⟨w.heap.size + 2, 0, none⟩ = some (.slice a8 6 l8) := (row2 b6).1
     have e1 : wq.cell? ⟨w.heap.size + 2, 1, none⟩ = some (.slice a7 m'.length l7) := (row2 b6).2
     have d0 : wq.cell? ⟨w.heap.size, 0, none⟩ = some (.slice none 0 0) := (row2 b2).1
     have d1 : wq.cell? ⟨w.heap.size, 1, none⟩ = some (.slice none 0 0) := (row2 b2).2
     have f0 : wq.frozen? ⟨w.heap.size, 0, none⟩ = false := by simp [World.frozen?, b2]
     have f1 : wq.frozen? ⟨w.heap.size, 1, none⟩ = false := by simp [World.frozen?, b2]
     have g3 := bx_heap1 b2 0 (.slice a8 6 l8)
     have g4 := bx_heap1 g3 1 (.slice a7 m'.length l7)
     have x0 : ((wq.setCell ⟨w.heap.size, 0, none⟩ (.slice a8 6 l8)).setCell ⟨w.heap.size, 1, none⟩ (.slice a7 m'.length l7)).cell? ⟨w.heap.size, 0, none⟩ = some (.slice a8 6 l8) := (row2 g4).1
     have x1 : ((wq.setCell ⟨w.heap.size, 0, none⟩ (.slice a8 6 l8)).setCell ⟨w.heap.size, 1, none⟩ (.slice a7 m'.length l7)).cell? ⟨w.heap.size, 1, none⟩ = some (.slice a7 m'.length l7) := (row2 g4).2
     have FA := fdOf_at (W := w) RE2.out ((SX2.out.rws.setCell (a := ⟨w.heap.size, 0, none⟩) (by simp) (.slice a8 6 l8)).setCell (a := ⟨w.heap.size, 1, none⟩) (by simp) (.slice a7 m'.length l7)) ((RO2.out.setCell (a := ⟨w.heap.size, 0, none⟩) (by simp) (.slice a8 6 l8)).setCell (a := ⟨w.heap.size, 1, none⟩) (by simp) (.slice a7 m'.length l7))
     rw [hlv, hov] at FA
     have PO := Hd (show SPost l (.returned (.tuple #[.agg #[.slice a8 6 l8, .slice a7 m'.length l7], .bool true])) ((wq.setCell ⟨w.heap.size, 0, none⟩ (.slice a8 6 l8)).setCell ⟨w.heap.size, 1, none⟩ (.slice a7 m'.length l7)) ∧ Kp w ((wq.setCell ⟨w.heap.size, 0, none⟩ (.slice a8 6 l8)).setCell ⟨w.heap.size, 1, none⟩ (.slice a7 m'.length l7)) from ⟨⟨fun _ => ⟨_, fdOf l Ls, rfl, FA, fdOf_ok RE2.out OA.out hn, fdOf_has RE2.out OA.out⟩, fun h => (by have o := OA.out; rw [h] at o; cases o)⟩, kp_setCell2 (kp_setCell2 SX2.out.kp (Nat.le_refl _) _) (Nat.le_refl _) _⟩)
     clear g3 g4 b2 b6 FA hlv hov ow7 ow8
     go_wp2
     exact bodyPost_ret (v := .tuple #[.agg #[.slice a8 6 l8, .slice a7 m'.length l7], .bool true]) (by simp [results, Tryz.results26, go_sem, x0, x1]) rfl PO.out
end Go.Proofs.YtcooaoponkkpeaaGreatDoor
