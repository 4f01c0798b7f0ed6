/-
  Joined: Rf12, Rf12B, Rf12C, L12F, LCanonIsUpto.
-/
import Derived.Test.YtgmigeehfhkimaaDoorGCnB
import Derived.Test.YtgmigeehfhkimaaDoorGRf
import Derived.LoopTactic
import Derived.Test.YtgmigeehfhkimaaDoorGTrB
import Derived.Test.YtgmigeehfhkimaaDoorCards
import Derived.Test.YtgmigeehfhkimaaDoorTie
import Derived.WalkKit
import Derived.ProofKit
import Derived.OpenShut
import Derived.ShutString
import Derived.ChangeOld
import Derived.Below
import Derived.Deep.DeepHandedRow
import Derived.Lib.LaidTab
import Derived.Deep.CondSized
import Derived.Carry
namespace Go.Proofs.YtgmigeehfhkimaaDoor
open Go.RowKit Go.Shelf
set_option linter.unusedVariables false
set_option linter.unusedSimpArgs false
/-! an element is laid where its text belongs -/
def stepP (x : ND) (s : List ND × Bool) (y : ND) : List ND × Bool :=
  if s.2 = true then (s.1 ++ [y], true) else if bl (txN y) (txN x) = true then (s.1 ++ [y], false) else if bl (txN x) (txN y) = true then (s.1 ++ [x] ++ [y], true) else (s.1 ++ [y], true)
def pF (x : ND) (L : List ND) : List ND × Bool := L.foldl (stepP x) ([], false)
theorem stepP_done (x : ND) : ∀ (L A : List ND), L.foldl (stepP x) (A, true) = (A ++ L, true)
  | [], A => by simp
  | y :: L, A => by
    rw [List.foldl_cons, show stepP x (A, true) y = (A ++ [y], true) from if_pos rfl, stepP_done x L, List.append_assoc]
    rfl
theorem stepP_all (x : ND) : ∀ (L A : List ND), (if (L.foldl (stepP x) (A, false)).2 = true then (L.foldl (stepP x) (A, false)).1 else (L.foldl (stepP x) (A, false)).1 ++ [x]) = A ++ putT L x
  | [], A => by simp [putT]
  | y :: L, A => by
    rw [List.foldl_cons]
    by_cases h1 : bl (txN y) (txN x) = true
    · have e : stepP x (A, false) y = (A ++ [y], false) := by unfold stepP; rw [if_neg (by simp), if_pos h1]
      rw [e, stepP_all x L]
      have h2 : ¬ bl (txN x) (txN y) = true := fun h => by have := bl_trans h1 h; rw [bl_irr] at this; cases this
      have h3 : ¬ txN x = txN y := fun h => by rw [h, bl_irr] at h1; cases h1
      rw [putT, if_neg h2, if_neg h3, List.append_assoc]
      rfl
    · by_cases h2 : bl (txN x) (txN y) = true
      · have e : stepP x (A, false) y = (A ++ [x] ++ [y], true) := by unfold stepP; rw [if_neg (by simp), if_neg h1, if_pos h2]
        rw [e, stepP_done, if_pos rfl, putT, if_pos h2]
        simp
      · have e : stepP x (A, false) y = (A ++ [y], true) := by unfold stepP; rw [if_neg (by simp), if_neg h1, if_neg h2]
        rw [e, stepP_done, if_pos rfl, putT, if_neg h2, if_pos (bl_tri (by simpa using h2) (by simpa using h1))]
        simp
theorem pF_put (x : ND) (L : List ND) : (if (pF x L).2 = true then (pF x L).1 else (pF x L).1 ++ [x]) = putT L x := by
  have := stepP_all x L []
  rw [List.nil_append] at this
  exact this
theorem pF_take (x : ND) {L : List ND} {j : Nat} (h : j < L.length) : pF x (L.take (j + 1)) = stepP x (pF x (L.take j)) (nth L j) := by
  unfold pF
  rw [nth_take h, List.foldl_append]
  rfl
theorem pF_len (x : ND) (L : List ND) : (pF x L).1.length ≤ L.length + 1 := by
  have g : ∀ (L A : List ND) (d : Bool), (L.foldl (stepP x) (A, d)).1.length ≤ A.length + L.length + (if d then 0 else 1) := by
    intro L
    induction L with
    | nil => intro A d; simp
    | cons y L ih =>
      intro A d
      rw [List.foldl_cons]
      cases d with
      | true =>
        rw [show stepP x (A, true) y = (A ++ [y], true) from if_pos rfl]
        have := ih (A ++ [y]) true
        simp at this ⊢
        omega
      | false =>
        by_cases h1 : bl (txN y) (txN x) = true
        · rw [show stepP x (A, false) y = (A ++ [y], false) by unfold stepP; rw [if_neg (by simp), if_pos h1]]
          have := ih (A ++ [y]) false
          simp at this ⊢
          omega
        · by_cases h2 : bl (txN x) (txN y) = true
          · rw [show stepP x (A, false) y = (A ++ [x] ++ [y], true) by unfold stepP; rw [if_neg (by simp), if_neg h1, if_pos h2]]
            have := ih (A ++ [x] ++ [y]) true
            simp at this ⊢
            omega
          · rw [show stepP x (A, false) y = (A ++ [y], true) by unfold stepP; rw [if_neg (by simp), if_neg h1, if_neg h2]]
            have := ih (A ++ [y]) true
            simp at this ⊢
            omega
  have := g L [] false
  simpa [pF] using this
theorem bl_asym {a b : List UInt8} (h : bl a b = true) : bl b a = false ∧ (b == a) = false := by
  refine ⟨Bool.eq_false_iff.2 fun c => ?_, beq_eq_false_iff_ne.2 fun e => ?_⟩
  · have := bl_trans h c
    rw [bl_irr] at this
    cases this
  · rw [e, bl_irr] at h
    cases h
theorem bl_same {a b : List UInt8} (h : bl a b = false) (g : bl b a = false) : (a == b) = true := beq_iff_eq.2 (bl_tri h g)
theorem own_node (w : World) (n : ND) (v : Value) : (w.alloc (.cells #[.int .i64 n.k, .int .i64 n.p.k, .string n.p.y, .string n.p.m, .string n.p.d, .bool n.a, .bool n.t, v] 26)).ownsRow w.heap.size 26 8 (.slice (some ⟨w.heap.size, 0, none⟩) 1 1) [(n, v)].length (cellsN [(n, v)]) :=
  ⟨rfl, .inr ⟨w.heap.size, 1, _, rfl, Nat.le_refl _, heap_at _ _ _ rfl, Nat.le_refl _, by decide, rfl, rfl⟩⟩
theorem text_sane12 {n : ND} (h : saneN saneP n = true) : textN n = txN n := by unfold textN; rw [if_pos h]
set_option maxHeartbeats 16000000 in
set_option maxRecDepth 100000 in
theorem rput12_any (w0 : World) (L : List ND) (v : Value) (x : ND) (vx : Value) (base : Nat) (w : World) (k : Kp w0 w) (h : RowsN w0 w base v L) (hx : NodesAt w0 vx x.l) (hs : Sns (x :: L)) (hsh : ∀ y ∈ x :: L, shortN y = true) (hl : L.length ≤ 64) :
    Calls Tryd.prog 31 #[v, ndV x vx] w fun e w' => ∃ v' : Value, e = .returned v' ∧ RowsN w0 w' w.heap.size v' (putT L x) ∧ Kp w w' := by
  obtain ⟨ms0, hm0, hr0, own0⟩ := h
  obtain ⟨i0, hi, hz0, hz1, hz2⟩ := info_parts infoNode
  obtain ⟨ad0, cp0, rfl⟩ := own_slice8 own0
  have lm : ms0.length = L.length := by rw [← hm0, List.length_map]
  obtain ⟨adx, cpx, rfl⟩ := hx.slice
  obtain ⟨kx, pkx, yx, mx, sx, ax, tx, lx, rfl⟩ := nd_dest x
  have hx' : NodesAt w0 (.slice adx lx.length cpx) lx := hx
  have TX := Lib.hid (fun y (hy : y ∈ (.mk kx ⟨pkx, yx, mx, sx⟩ ax tx lx : ND) :: L) vy w1 (hv : NodesAt w1 vy y.l) => by
    have c := rText11_any y vy w1 hv (hsh y hy) (by have a := (cn_right (hs y hy)).2; have b : cntN y = cntL y.l + 1 := (by rw [eta_nd y]; rfl); omega)
    rw [text_sane12 (hs y hy)] at c
    exact c)
  have TXX := Lib.hid (fun w1 (kk : Kp w w1) => TX.out (.mk kx ⟨pkx, yx, mx, sx⟩ ax tx lx : ND) (by simp) (.slice adx lx.length cpx) w1 (hx'.kp (k.trans kk)))
  have PT := Lib.hid (fun j (hj : j < L.length) => pF_take (.mk kx ⟨pkx, yx, mx, sx⟩ ax tx lx : ND) hj)
  have PL := Lib.hid (fun j => show (pF (.mk kx ⟨pkx, yx, mx, sx⟩ ax tx lx : ND) (L.take j)).1.length ≤ 65 from by have a := pF_len (.mk kx ⟨pkx, yx, mx, sx⟩ ax tx lx : ND) (L.take j); rw [List.length_take] at a; omega)
  have PP := Lib.hid (pF_put (.mk kx ⟨pkx, yx, mx, sx⟩ ax tx lx : ND) L)
  have MEM := Lib.hid (fun j (hj : j < L.length) => show nth L j ∈ (.mk kx ⟨pkx, yx, mx, sx⟩ ax tx lx : ND) :: L from List.mem_cons_of_mem _ (nth_mem hj))
  have NVE := Lib.hid (fun j (hj : j < ms0.length) => show (nvAt ms0 j).1 = nth L j from by
    rw [nvAt_eq hj]
    unfold nth
    rw [List.getD_eq_getElem?_getD, ← hm0, List.getElem?_map, List.getElem?_eq_getElem hj]
    rfl)
  have TL := Lib.hid (show L.take L.length = L from List.take_length)
  have P0 := Lib.hid (show pF (.mk kx ⟨pkx, yx, mx, sx⟩ ax tx lx : ND) (L.take 0) = ([], false) from rfl)
  have RD := Lib.hid hr0
  have OW := Lib.hid own0
  have KB := Lib.hid k
  obtain ⟨nx, hnx⟩ : ∃ n, lx.length = n := ⟨_, rfl⟩
  simp only [ND.l]
  rw [hnx] at hx' TXX ⊢
  have HX := Lib.hid hx'
  obtain ⟨tA, hA⟩ : ∃ u, bs (txN (.mk kx ⟨pkx, yx, mx, sx⟩ ax tx lx : ND)) = u := ⟨_, rfl⟩
  have HTA := Lib.hid (show tA.toList = txN (.mk kx ⟨pkx, yx, mx, sx⟩ ax tx lx : ND) by rw [← hA]; exact bs_toList _)
  rw [hA] at TXX
  obtain ⟨R, hR⟩ : ∃ z, putT L (.mk kx ⟨pkx, yx, mx, sx⟩ ax tx lx : ND) = z := ⟨_, rfl⟩
  rw [hR] at PP ⊢
  clear hA hR hm0 hr0 own0 hs hsh hx hx' hnx
  unfold ndV at *
  simp only [ND.k, ND.p, ND.a, ND.t, ND.l] at TXX ⊢
  obtain ⟨W0, hW⟩ : ∃ x, x = w.alloc (.cells #[.int .i64 kx, .int .i64 pkx, .string yx, .string mx, .string sx, .bool ax, .bool tx, .slice adx nx cpx] 26) := ⟨_, rfl⟩
  have kw : Kp w W0 := by rw [hW]; exact Kp.alloc _ _
  have g0 : W0.heap[w.heap.size]? = some (.cells #[.int .i64 kx, .int .i64 pkx, .string yx, .string mx, .string sx, .bool ax, .bool tx, .slice adx nx cpx] 26 (0, 0)) := by rw [hW]; exact heap_at _ _ _ rfl
  have HB := Lib.hid (fun w1 (kk : Kp W0 w1) => show w1.cell? ⟨w.heap.size, 0, none⟩ = some (.int .i64 kx) ∧ w1.cell? ⟨w.heap.size, 1, none⟩ = some (.int .i64 pkx) ∧ w1.cell? ⟨w.heap.size, 2, none⟩ = some (.string yx) ∧ w1.cell? ⟨w.heap.size, 3, none⟩ = some (.string mx) ∧ w1.cell? ⟨w.heap.size, 4, none⟩ = some (.string sx) ∧ w1.cell? ⟨w.heap.size, 5, none⟩ = some (.bool ax) ∧ w1.cell? ⟨w.heap.size, 6, none⟩ = some (.bool tx) ∧ w1.cell? ⟨w.heap.size, 7, none⟩ = some (.slice adx nx cpx) from row8 (heap_block kk g0))
  have KW := Lib.hid kw
  have HW := Lib.hid hW
  have K0 := Lib.hid (k.trans kw)
  clear kw g0 hW k
  go_enter Tryd.func31, Tryd.ntmps31
  go_wp2_with fail
  rw [← HW.out]
  obtain ⟨x0, x1, x2, x3, x4, x5, x6, x7⟩ := HB.out W0 (Kp.refl _)
  go_wp2_with fail
  refine (TXX.out _ KW.out).mono ?_
  rintro e w2 ⟨rfl, kk⟩
  have K2 := Lib.hid kk
  clear kk x0 x1 x2 x3 x4 x5 x6 x7
  go_wp2
  go_loopw [6, 7, 8, 9] (fun s d i _ ws => ∃ (j : Nat) (ms : List NV) (b : Bool), j ≤ L.length ∧ i = .int .i64 j ∧ d = .bool b ∧ Hid (ms.map Prod.fst = (pF (.mk kx ⟨pkx, yx, mx, sx⟩ ax tx lx : ND) (L.take j)).1) ∧ Hid (b = (pF (.mk kx ⟨pkx, yx, mx, sx⟩ ax tx lx : ND) (L.take j)).2) ∧ Hid (ReadsN w0 ms) ∧ Hid (ws.ownsRow W0.heap.size 26 8 s ms.length (cellsN ms)) ∧ Hid (Kp W0 ws)) (fun _ _ i _ _ => L.length - (intOf i).toNat)
  case atStart => exact ⟨0, [], false, Nat.zero_le _, rfl, rfl, Lib.hid (by rw [P0.out]; rfl), Lib.hid (by rw [P0.out]), Lib.hid (fun p hp => by cases hp), Lib.hid (World.ownsRow_nil _ _ _ _), K2⟩
  case round =>
    obtain ⟨j, ms, b, hj, rfl, rfl, MJ, BJ, RJ, OJ, KJ⟩ := hrel
    obtain ⟨sad, scp, rfl⟩ := own_slice8 OJ.out
    have NL := Lib.hid (show ms.length ≤ 65 by have a := congrArg List.length MJ.out; rw [List.length_map] at a; have := PL.out j; omega)
    have kwr : Kp w wr := KW.out.trans KJ.out
    by_cases hlt : j < L.length
    · obtain ⟨g, cap, ev, hrow⟩ := own_rowN (own_kp OW.out KW.out) (i := j) (by omega)
      cases ev
      have pt := PT.out j hlt
      have nve := NVE.out j (by omega)
      have rdj := RD.out _ (nvAt_mem (m := ms0) (i := j) (by omega))
      have TY0 := fun w1 (kk : Kp wr w1) => TX.out (nth L j) (MEM.out j hlt) (nvAt ms0 j).2 w1
      obtain ⟨q, hq⟩ : ∃ q, nvAt ms0 j = q := ⟨_, rfl⟩
      rw [hq] at hrow nve rdj TY0
      obtain ⟨y, vy⟩ := q
      simp only at hrow nve rdj TY0
      rw [← nve] at pt TY0
      have TY := Lib.hid (fun w1 (kk : Kp wr w1) => TY0 w1 kk ((rdj.kp KB.out).kp (kwr.trans kk)))
      obtain ⟨tB, hB⟩ : ∃ u, bs (txN y) = u := ⟨_, rfl⟩
      have HTB := Lib.hid (show tB.toList = txN y by rw [← hB]; exact bs_toList _)
      rw [hB] at TY
      have PTH := Lib.hid pt
      clear pt nve TY0 hq hB
      obtain ⟨ad1, cp1, rfl⟩ := rdj.slice
      obtain ⟨k1, pk1, y1, m1, s1, a1, t1, l1, rfl⟩ := nd_dest y
      have rdj' : NodesAt w0 (.slice ad1 l1.length cp1) l1 := rdj
      obtain ⟨n1, hn1⟩ : ∃ n, l1.length = n := ⟨_, rfl⟩
      unfold RowN at hrow
      simp only [ND.k, ND.p, ND.a, ND.t, ND.l] at hrow TY
      rw [hn1] at hrow TY rdj'
      have HY := Lib.hid rdj'
      have SRCW := (fun w' (kk : Kp W0 w') => show w'.cell? ⟨g, j * 8, none⟩ = some (.int .i64 k1) ∧ w'.cell? ⟨g, j * 8 + 1, none⟩ = some (.int .i64 pk1) ∧ w'.cell? ⟨g, j * 8 + 2, none⟩ = some (.string y1) ∧ w'.cell? ⟨g, j * 8 + 3, none⟩ = some (.string m1) ∧ w'.cell? ⟨g, j * 8 + 4, none⟩ = some (.string s1) ∧ w'.cell? ⟨g, j * 8 + 5, none⟩ = some (.bool a1) ∧ w'.cell? ⟨g, j * 8 + 6, none⟩ = some (.bool t1) ∧ w'.cell? ⟨g, j * 8 + 7, none⟩ = some (.slice ad1 n1 cp1) from ⟨cell_up kk hrow.1, cell_up kk hrow.2.1, cell_up kk hrow.2.2.1, cell_up kk hrow.2.2.2.1, cell_up kk hrow.2.2.2.2.1, cell_up kk hrow.2.2.2.2.2.1, cell_up kk hrow.2.2.2.2.2.2.1, cell_up kk hrow.2.2.2.2.2.2.2⟩)
      obtain ⟨e0, e1, e2, e3, e4, e5, e6, e7⟩ := SRCW wr KJ.out
      have HROW := Lib.hid (fun w' (kk : Kp wr w') => SRCW w' (KJ.out.trans kk))
      have HRW := Lib.hid (fun w' (kk : Kp W0 w') => show w'.cell? ⟨g, j * 8, none⟩ = some (.int .i64 k1) ∧ w'.cell? ⟨g, j * 8 + 1, none⟩ = some (.int .i64 pk1) ∧ w'.cell? ⟨g, j * 8 + 2, none⟩ = some (.string y1) ∧ w'.cell? ⟨g, j * 8 + 3, none⟩ = some (.string m1) ∧ w'.cell? ⟨g, j * 8 + 4, none⟩ = some (.string s1) ∧ w'.cell? ⟨g, j * 8 + 5, none⟩ = some (.bool a1) ∧ w'.cell? ⟨g, j * 8 + 6, none⟩ = some (.bool t1) ∧ w'.cell? ⟨g, j * 8 + 7, none⟩ = some (.slice ad1 n1 cp1) from SRCW w' kk)
      have z1 : (j : Int) < (L.length : Int) := by omega
      have z2 : (j : Int) < (ms0.length : Int) := by omega
      have z3 : (0 : Int) ≤ (j : Int) := by omega
      have HLT := Lib.hid hlt
      have hbk := World.block_lt_of_cell? _ _ e0
      simp only at hbk
      clear rdj rdj' hrow hn1 hlt kwr SRCW
      go_wp2_with fail
      refine (TY.out _ (Kp.refl _)).mono ?_
      rintro e w3 ⟨rfl, kk⟩
      have K3 := Lib.hid (KJ.out.trans kk)
      have O3 := Lib.hid (own_kp OJ.out kk)
      clear e0 e1 e2 e3 e4 e5 e6 e7 hbk
      obtain ⟨e0, e1, e2, e3, e4, e5, e6, e7⟩ := HROW.out w3 kk
      have hbk := World.block_lt_of_cell? _ _ e0
      simp only at hbk
      have HR3 := Lib.hid (fun w' (q : Kp w3 w') => HROW.out w' (kk.trans q))
      obtain ⟨x0, x1, x2, x3, x4, x5, x6, x7⟩ := HB.out w3 K3.out
      clear kk
      cases b with
      | true =>
        have PN := Lib.hid (show (pF (.mk kx ⟨pkx, yx, mx, sx⟩ ax tx lx : ND) (L.take (j + 1))) = ((pF (.mk kx ⟨pkx, yx, mx, sx⟩ ax tx lx : ND) (L.take j)).1 ++ [(.mk k1 ⟨pk1, y1, m1, s1⟩ a1 t1 l1 : ND)], true) by rw [PTH.out]; unfold stepP; rw [← BJ.out]; rfl)
        have SR4 := Lib.hid (one_srcN (w := w3) rfl (.mk k1 ⟨pk1, y1, m1, s1⟩ a1 t1 l1 : ND) (Value.slice ad1 n1 cp1) 26)
        simp only [ND.k, ND.p, ND.a, ND.t] at SR4
        have LL4 := Lib.hid (cellsN_length [((.mk k1 ⟨pk1, y1, m1, s1⟩ a1 t1 l1 : ND), Value.slice ad1 n1 cp1)])
        have ON4 := Lib.hid (cellsN_one (w := w0) (show ReadsN w0 [((.mk k1 ⟨pk1, y1, m1, s1⟩ a1 t1 l1 : ND), Value.slice ad1 n1 cp1)] from fun p hp => by rw [List.mem_singleton.1 hp]; exact HY.out))
        have OA4 := Lib.hid (own_kp O3.out (Kp.alloc w3 (.cells #[.int .i64 k1, .int .i64 pk1, .string y1, .string m1, .string s1, .bool a1, .bool t1, .slice ad1 n1 cp1] 26)))
        have KA4 := Lib.hid (K3.out.trans (Kp.alloc w3 (.cells #[.int .i64 k1, .int .i64 pk1, .string y1, .string m1, .string s1, .bool a1, .bool t1, .slice ad1 n1 cp1] 26)))
        go_wp2_with (at_builtin; refine Hid.out ?_)
        refine Lib.hid ?_
        refine wpList_app rfl (.tmp 37) (.tmp 42) 24 rfl W0.heap.size 26 i0 (.agg #[.int .i64 0, .int .i64 0, .string ⟨#[]⟩, .string ⟨#[]⟩, .string ⟨#[]⟩, .bool false, .bool false, .slice none 0 0]) 8 96 Tryd.underlying24 hi hz0 hz1 hz2 rfl (by decide) _ _ _ rfl OA4.out _ _ _ rfl SR4.out LL4.out ON4.out (by have a := NL.out;  unfold maxLen; omega) (by have a := NL.out;  omega) (Below.size KA4.out) ?_
        intro v4 w4 own4 grow4 at4
        have K4 := Lib.hid (KA4.out.grown grow4 (fun j hj => (OA4.out.lt j hj).1))
        have O4 := Lib.hid (show w4.ownsRow W0.heap.size 26 8 v4 (ms ++ [((.mk k1 ⟨pk1, y1, m1, s1⟩ a1 t1 l1 : ND), Value.slice ad1 n1 cp1)]).length (cellsN (ms ++ [((.mk k1 ⟨pk1, y1, m1, s1⟩ a1 t1 l1 : ND), Value.slice ad1 n1 cp1)])) by rw [List.length_append, cellsN_append]; exact own4)
        obtain ⟨ad_4, cp_4, rfl⟩ := own_slice8 own4
        clear grow4 at4 own4
        go_wp2
        go_roundw
        case rel => exact ⟨j + 1, _, true, HLT.out, by go_num, rfl, Lib.hid (by simp only [List.map_append, List.map_cons, List.map_nil]; rw [PN.out, MJ.out]), Lib.hid (by rw [PN.out]), Lib.hid (RJ.out.append (fun p hp => by rw [List.mem_singleton.1 hp]; exact HY.out)), O4, K4⟩
        case measure => have := HLT.out; simp [intOf]; omega
      | false =>
        rcases Bool.eq_false_or_eq_true (Go.Op.bytesLess tB.toList tA.toList) with b1 | b1
        · have PN := Lib.hid (show (pF (.mk kx ⟨pkx, yx, mx, sx⟩ ax tx lx : ND) (L.take (j + 1))) = ((pF (.mk kx ⟨pkx, yx, mx, sx⟩ ax tx lx : ND) (L.take j)).1 ++ [(.mk k1 ⟨pk1, y1, m1, s1⟩ a1 t1 l1 : ND)], false) by
            rw [HTA.out, HTB.out] at b1
            rw [PTH.out]; unfold stepP; rw [← BJ.out, if_neg (by simp), if_pos (show bl _ _ = true from b1)])
          have c1 : Go.Op.bytesLess tA.toList tB.toList = false := (bl_asym (show bl _ _ = true from b1)).1
          have c2 : (tA.toList == tB.toList) = false := (bl_asym (show bl _ _ = true from b1)).2
          have SR4 := Lib.hid (one_srcN (w := w3) rfl (.mk k1 ⟨pk1, y1, m1, s1⟩ a1 t1 l1 : ND) (Value.slice ad1 n1 cp1) 26)
          simp only [ND.k, ND.p, ND.a, ND.t] at SR4
          have LL4 := Lib.hid (cellsN_length [((.mk k1 ⟨pk1, y1, m1, s1⟩ a1 t1 l1 : ND), Value.slice ad1 n1 cp1)])
          have ON4 := Lib.hid (cellsN_one (w := w0) (show ReadsN w0 [((.mk k1 ⟨pk1, y1, m1, s1⟩ a1 t1 l1 : ND), Value.slice ad1 n1 cp1)] from fun p hp => by rw [List.mem_singleton.1 hp]; exact HY.out))
          have OA4 := Lib.hid (own_kp O3.out (Kp.alloc w3 (.cells #[.int .i64 k1, .int .i64 pk1, .string y1, .string m1, .string s1, .bool a1, .bool t1, .slice ad1 n1 cp1] 26)))
          have KA4 := Lib.hid (K3.out.trans (Kp.alloc w3 (.cells #[.int .i64 k1, .int .i64 pk1, .string y1, .string m1, .string s1, .bool a1, .bool t1, .slice ad1 n1 cp1] 26)))
          go_wp2_with (at_builtin; refine Hid.out ?_)
          refine Lib.hid ?_
          refine wpList_app rfl (.tmp 37) (.tmp 42) 24 rfl W0.heap.size 26 i0 (.agg #[.int .i64 0, .int .i64 0, .string ⟨#[]⟩, .string ⟨#[]⟩, .string ⟨#[]⟩, .bool false, .bool false, .slice none 0 0]) 8 96 Tryd.underlying24 hi hz0 hz1 hz2 rfl (by decide) _ _ _ rfl OA4.out _ _ _ rfl SR4.out LL4.out ON4.out (by have a := NL.out;  unfold maxLen; omega) (by have a := NL.out;  omega) (Below.size KA4.out) ?_
          intro v4 w4 own4 grow4 at4
          have K4 := Lib.hid (KA4.out.grown grow4 (fun j hj => (OA4.out.lt j hj).1))
          have O4 := Lib.hid (show w4.ownsRow W0.heap.size 26 8 v4 (ms ++ [((.mk k1 ⟨pk1, y1, m1, s1⟩ a1 t1 l1 : ND), Value.slice ad1 n1 cp1)]).length (cellsN (ms ++ [((.mk k1 ⟨pk1, y1, m1, s1⟩ a1 t1 l1 : ND), Value.slice ad1 n1 cp1)])) by rw [List.length_append, cellsN_append]; exact own4)
          obtain ⟨ad_4, cp_4, rfl⟩ := own_slice8 own4
          clear grow4 at4 own4
          go_wp2
          go_roundw
          case rel => exact ⟨j + 1, _, false, HLT.out, by go_num, rfl, Lib.hid (by simp only [List.map_append, List.map_cons, List.map_nil]; rw [PN.out, MJ.out]), Lib.hid (by rw [PN.out]), Lib.hid (RJ.out.append (fun p hp => by rw [List.mem_singleton.1 hp]; exact HY.out)), O4, K4⟩
          case measure => have := HLT.out; simp [intOf]; omega
        · rcases Bool.eq_false_or_eq_true (Go.Op.bytesLess tA.toList tB.toList) with b2 | b2
          · have PN := Lib.hid (show (pF (.mk kx ⟨pkx, yx, mx, sx⟩ ax tx lx : ND) (L.take (j + 1))) = ((pF (.mk kx ⟨pkx, yx, mx, sx⟩ ax tx lx : ND) (L.take j)).1 ++ [(.mk kx ⟨pkx, yx, mx, sx⟩ ax tx lx : ND)] ++ [(.mk k1 ⟨pk1, y1, m1, s1⟩ a1 t1 l1 : ND)], true) by
              rw [HTA.out, HTB.out] at b1 b2
              rw [PTH.out]; unfold stepP; rw [← BJ.out, if_neg (by simp), if_neg (show ¬ bl _ _ = true by rw [show bl _ _ = false from b1]; simp), if_pos (show bl _ _ = true from b2)])
            have SR4 := Lib.hid (one_srcN (w := w3) rfl (.mk kx ⟨pkx, yx, mx, sx⟩ ax tx lx : ND) (Value.slice adx nx cpx) 26)
            simp only [ND.k, ND.p, ND.a, ND.t] at SR4
            have LL4 := Lib.hid (cellsN_length [((.mk kx ⟨pkx, yx, mx, sx⟩ ax tx lx : ND), Value.slice adx nx cpx)])
            have ON4 := Lib.hid (cellsN_one (w := w0) (show ReadsN w0 [((.mk kx ⟨pkx, yx, mx, sx⟩ ax tx lx : ND), Value.slice adx nx cpx)] from fun p hp => by rw [List.mem_singleton.1 hp]; exact HX.out))
            have OA4 := Lib.hid (own_kp O3.out (Kp.alloc w3 (.cells #[.int .i64 kx, .int .i64 pkx, .string yx, .string mx, .string sx, .bool ax, .bool tx, .slice adx nx cpx] 26)))
            have KA4 := Lib.hid (K3.out.trans (Kp.alloc w3 (.cells #[.int .i64 kx, .int .i64 pkx, .string yx, .string mx, .string sx, .bool ax, .bool tx, .slice adx nx cpx] 26)))
            go_wp2_with (at_builtin; refine Hid.out ?_)
            refine Lib.hid ?_
            refine wpList_app rfl (.tmp 33) (.tmp 35) 24 rfl W0.heap.size 26 i0 (.agg #[.int .i64 0, .int .i64 0, .string ⟨#[]⟩, .string ⟨#[]⟩, .string ⟨#[]⟩, .bool false, .bool false, .slice none 0 0]) 8 96 Tryd.underlying24 hi hz0 hz1 hz2 rfl (by decide) _ _ _ rfl OA4.out _ _ _ rfl SR4.out LL4.out ON4.out (by have a := NL.out;  unfold maxLen; omega) (by have a := NL.out;  omega) (Below.size KA4.out) ?_
            intro v4 w4 own4 grow4 at4
            have K4 := Lib.hid (KA4.out.grown grow4 (fun j hj => (OA4.out.lt j hj).1))
            have O4 := Lib.hid (show w4.ownsRow W0.heap.size 26 8 v4 (ms ++ [((.mk kx ⟨pkx, yx, mx, sx⟩ ax tx lx : ND), Value.slice adx nx cpx)]).length (cellsN (ms ++ [((.mk kx ⟨pkx, yx, mx, sx⟩ ax tx lx : ND), Value.slice adx nx cpx)])) by rw [List.length_append, cellsN_append]; exact own4)
            obtain ⟨ad_4, cp_4, rfl⟩ := own_slice8 own4
            clear grow4 at4 own4
            clear e0 e1 e2 e3 e4 e5 e6 e7 hbk
            obtain ⟨e0, e1, e2, e3, e4, e5, e6, e7⟩ := HRW.out w4 K4.out
            have hbk := World.block_lt_of_cell? _ _ e0
            simp only at hbk
            have SR5 := Lib.hid (one_srcN (w := w4) rfl (.mk k1 ⟨pk1, y1, m1, s1⟩ a1 t1 l1 : ND) (Value.slice ad1 n1 cp1) 26)
            simp only [ND.k, ND.p, ND.a, ND.t] at SR5
            have LL5 := Lib.hid (cellsN_length [((.mk k1 ⟨pk1, y1, m1, s1⟩ a1 t1 l1 : ND), Value.slice ad1 n1 cp1)])
            have ON5 := Lib.hid (cellsN_one (w := w0) (show ReadsN w0 [((.mk k1 ⟨pk1, y1, m1, s1⟩ a1 t1 l1 : ND), Value.slice ad1 n1 cp1)] from fun p hp => by rw [List.mem_singleton.1 hp]; exact HY.out))
            have OA5 := Lib.hid (own_kp O4.out (Kp.alloc w4 (.cells #[.int .i64 k1, .int .i64 pk1, .string y1, .string m1, .string s1, .bool a1, .bool t1, .slice ad1 n1 cp1] 26)))
            have KA5 := Lib.hid (K4.out.trans (Kp.alloc w4 (.cells #[.int .i64 k1, .int .i64 pk1, .string y1, .string m1, .string s1, .bool a1, .bool t1, .slice ad1 n1 cp1] 26)))
            go_wp2_with (at_builtin; refine Hid.out ?_)
            refine Lib.hid ?_
            refine wpList_app rfl (.tmp 37) (.tmp 42) 24 rfl W0.heap.size 26 i0 (.agg #[.int .i64 0, .int .i64 0, .string ⟨#[]⟩, .string ⟨#[]⟩, .string ⟨#[]⟩, .bool false, .bool false, .slice none 0 0]) 8 96 Tryd.underlying24 hi hz0 hz1 hz2 rfl (by decide) _ _ _ rfl OA5.out _ _ _ rfl SR5.out LL5.out ON5.out (by have a := NL.out; have b : (ms ++ [((.mk kx ⟨pkx, yx, mx, sx⟩ ax tx lx : ND), Value.slice adx nx cpx)]).length = ms.length + 1 := (by rw [List.length_append]; rfl); unfold maxLen; omega) (by have a := NL.out; have b : (ms ++ [((.mk kx ⟨pkx, yx, mx, sx⟩ ax tx lx : ND), Value.slice adx nx cpx)]).length = ms.length + 1 := (by rw [List.length_append]; rfl); omega) (Below.size KA5.out) ?_
            intro v5 w5 own5 grow5 at5
            have K5 := Lib.hid (KA5.out.grown grow5 (fun j hj => (OA5.out.lt j hj).1))
            have O5 := Lib.hid (show w5.ownsRow W0.heap.size 26 8 v5 ((ms ++ [((.mk kx ⟨pkx, yx, mx, sx⟩ ax tx lx : ND), Value.slice adx nx cpx)]) ++ [((.mk k1 ⟨pk1, y1, m1, s1⟩ a1 t1 l1 : ND), Value.slice ad1 n1 cp1)]).length (cellsN ((ms ++ [((.mk kx ⟨pkx, yx, mx, sx⟩ ax tx lx : ND), Value.slice adx nx cpx)]) ++ [((.mk k1 ⟨pk1, y1, m1, s1⟩ a1 t1 l1 : ND), Value.slice ad1 n1 cp1)])) by rw [List.length_append, cellsN_append]; exact own5)
            rw [show (ms ++ [((.mk kx ⟨pkx, yx, mx, sx⟩ ax tx lx : ND), Value.slice adx nx cpx)]).length = ms.length + 1 by rw [List.length_append]; rfl] at own5
            obtain ⟨ad_5, cp_5, rfl⟩ := own_slice8 own5
            clear grow5 at5 own5
            go_wp2
            go_roundw
            case rel => exact ⟨j + 1, _, true, HLT.out, by go_num, rfl, Lib.hid (by simp only [List.map_append, List.map_cons, List.map_nil]; rw [PN.out, MJ.out]), Lib.hid (by rw [PN.out]), Lib.hid ((RJ.out.append (fun p hp => by rw [List.mem_singleton.1 hp]; exact HX.out)).append (fun p hp => by rw [List.mem_singleton.1 hp]; exact HY.out)), O5, K5⟩
            case measure => have := HLT.out; simp [intOf]; omega
          · have PN := Lib.hid (show (pF (.mk kx ⟨pkx, yx, mx, sx⟩ ax tx lx : ND) (L.take (j + 1))) = ((pF (.mk kx ⟨pkx, yx, mx, sx⟩ ax tx lx : ND) (L.take j)).1 ++ [(.mk k1 ⟨pk1, y1, m1, s1⟩ a1 t1 l1 : ND)], true) by
              rw [HTA.out, HTB.out] at b1 b2
              rw [PTH.out]; unfold stepP; rw [← BJ.out, if_neg (by simp), if_neg (show ¬ bl _ _ = true by rw [show bl _ _ = false from b1]; simp), if_neg (show ¬ bl _ _ = true by rw [show bl _ _ = false from b2]; simp)])
            have c2 : (tA.toList == tB.toList) = true := bl_same (show bl _ _ = false from b2) (show bl _ _ = false from b1)
            have SR4 := Lib.hid (one_srcN (w := w3) rfl (.mk k1 ⟨pk1, y1, m1, s1⟩ a1 t1 l1 : ND) (Value.slice ad1 n1 cp1) 26)
            simp only [ND.k, ND.p, ND.a, ND.t] at SR4
            have LL4 := Lib.hid (cellsN_length [((.mk k1 ⟨pk1, y1, m1, s1⟩ a1 t1 l1 : ND), Value.slice ad1 n1 cp1)])
            have ON4 := Lib.hid (cellsN_one (w := w0) (show ReadsN w0 [((.mk k1 ⟨pk1, y1, m1, s1⟩ a1 t1 l1 : ND), Value.slice ad1 n1 cp1)] from fun p hp => by rw [List.mem_singleton.1 hp]; exact HY.out))
            have OA4 := Lib.hid (own_kp O3.out (Kp.alloc w3 (.cells #[.int .i64 k1, .int .i64 pk1, .string y1, .string m1, .string s1, .bool a1, .bool t1, .slice ad1 n1 cp1] 26)))
            have KA4 := Lib.hid (K3.out.trans (Kp.alloc w3 (.cells #[.int .i64 k1, .int .i64 pk1, .string y1, .string m1, .string s1, .bool a1, .bool t1, .slice ad1 n1 cp1] 26)))
            go_wp2_with (at_builtin; refine Hid.out ?_)
            refine Lib.hid ?_
            refine wpList_app rfl (.tmp 37) (.tmp 42) 24 rfl W0.heap.size 26 i0 (.agg #[.int .i64 0, .int .i64 0, .string ⟨#[]⟩, .string ⟨#[]⟩, .string ⟨#[]⟩, .bool false, .bool false, .slice none 0 0]) 8 96 Tryd.underlying24 hi hz0 hz1 hz2 rfl (by decide) _ _ _ rfl OA4.out _ _ _ rfl SR4.out LL4.out ON4.out (by have a := NL.out;  unfold maxLen; omega) (by have a := NL.out;  omega) (Below.size KA4.out) ?_
            intro v4 w4 own4 grow4 at4
            have K4 := Lib.hid (KA4.out.grown grow4 (fun j hj => (OA4.out.lt j hj).1))
            have O4 := Lib.hid (show w4.ownsRow W0.heap.size 26 8 v4 (ms ++ [((.mk k1 ⟨pk1, y1, m1, s1⟩ a1 t1 l1 : ND), Value.slice ad1 n1 cp1)]).length (cellsN (ms ++ [((.mk k1 ⟨pk1, y1, m1, s1⟩ a1 t1 l1 : ND), Value.slice ad1 n1 cp1)])) by rw [List.length_append, cellsN_append]; exact own4)
            obtain ⟨ad_4, cp_4, rfl⟩ := own_slice8 own4
            clear grow4 at4 own4
            go_wp2
            go_roundw
            case rel => exact ⟨j + 1, _, true, HLT.out, by go_num, rfl, Lib.hid (by simp only [List.map_append, List.map_cons, List.map_nil]; rw [PN.out, MJ.out]), Lib.hid (by rw [PN.out]), Lib.hid (RJ.out.append (fun p hp => by rw [List.mem_singleton.1 hp]; exact HY.out)), O4, K4⟩
            case measure => have := HLT.out; simp [intOf]; omega
    · obtain rfl : j = L.length := by omega
      have pp := PP.out
      have mj := MJ.out
      have bj := BJ.out
      rw [TL.out] at mj bj
      rw [← mj, ← bj] at pp
      have PPH := Lib.hid pp
      clear mj bj pp
      cases b with
      | true =>
        go_wp2
        go_ret
        exact ⟨_, rfl, ⟨ms, by have a := PPH.out; simpa using a, RJ.out, own_mono OJ.out KW.out.size⟩, KW.out.trans KJ.out⟩
      | false =>
        obtain ⟨x0, x1, x2, x3, x4, x5, x6, x7⟩ := HB.out wr KJ.out
        have SR4 := Lib.hid (one_srcN (w := wr) rfl (.mk kx ⟨pkx, yx, mx, sx⟩ ax tx lx : ND) (Value.slice adx nx cpx) 26)
        simp only [ND.k, ND.p, ND.a, ND.t] at SR4
        have LL4 := Lib.hid (cellsN_length [((.mk kx ⟨pkx, yx, mx, sx⟩ ax tx lx : ND), Value.slice adx nx cpx)])
        have ON4 := Lib.hid (cellsN_one (w := w0) (show ReadsN w0 [((.mk kx ⟨pkx, yx, mx, sx⟩ ax tx lx : ND), Value.slice adx nx cpx)] from fun p hp => by rw [List.mem_singleton.1 hp]; exact HX.out))
        have OA4 := Lib.hid (own_kp OJ.out (Kp.alloc wr (.cells #[.int .i64 kx, .int .i64 pkx, .string yx, .string mx, .string sx, .bool ax, .bool tx, .slice adx nx cpx] 26)))
        have KA4 := Lib.hid (KJ.out.trans (Kp.alloc wr (.cells #[.int .i64 kx, .int .i64 pkx, .string yx, .string mx, .string sx, .bool ax, .bool tx, .slice adx nx cpx] 26)))
        go_wp2_with (at_builtin; refine Hid.out ?_)
        refine Lib.hid ?_
        refine wpList_app rfl (.tmp 46) (.tmp 48) 24 rfl W0.heap.size 26 i0 (.agg #[.int .i64 0, .int .i64 0, .string ⟨#[]⟩, .string ⟨#[]⟩, .string ⟨#[]⟩, .bool false, .bool false, .slice none 0 0]) 8 96 Tryd.underlying24 hi hz0 hz1 hz2 rfl (by decide) _ _ _ rfl OA4.out _ _ _ rfl SR4.out LL4.out ON4.out (by have a := NL.out;  unfold maxLen; omega) (by have a := NL.out;  omega) (Below.size KA4.out) ?_
        intro v4 w4 own4 grow4 at4
        have K4 := Lib.hid (KA4.out.grown grow4 (fun j hj => (OA4.out.lt j hj).1))
        have O4 := Lib.hid (show w4.ownsRow W0.heap.size 26 8 v4 (ms ++ [((.mk kx ⟨pkx, yx, mx, sx⟩ ax tx lx : ND), Value.slice adx nx cpx)]).length (cellsN (ms ++ [((.mk kx ⟨pkx, yx, mx, sx⟩ ax tx lx : ND), Value.slice adx nx cpx)])) by rw [List.length_append, cellsN_append]; exact own4)
        obtain ⟨ad_4, cp_4, rfl⟩ := own_slice8 own4
        clear grow4 at4 own4
        go_wp2
        go_ret
        exact ⟨_, rfl, ⟨_, by have a := PPH.out; simpa using a, RJ.out.append (fun p hp => by rw [List.mem_singleton.1 hp]; exact HX.out), own_mono O4.out KW.out.size⟩, KW.out.trans K4.out⟩
end Go.Proofs.YtgmigeehfhkimaaDoor

namespace Go.Proofs.YtgmigeehfhkimaaDoor
open Go.RowKit Go.Shelf
set_option linter.unusedVariables false
set_option linter.unusedSimpArgs false
mutual
theorem flR_len : ∀ n : ND, (flR n).length ≤ cntN n
  | .mk k p a t l => by
    by_cases hk : k = 2
    · subst hk
      rw [flR_2]
      have := flRL_len l
      simp only [cntN]
      omega
    · rw [flR_k hk]
      simp only [cntN, List.length_singleton]
      omega
theorem flRL_len : ∀ l : List ND, (flRL l).length ≤ cntL l
  | [] => by simp [flRL]
  | x :: l => by
    have a := flR_len x
    have b := flRL_len l
    simp only [flRL, List.length_append, cntL]
    omega
end
mutual
theorem flR_short : ∀ {n : ND}, shortN n = true → ∀ y ∈ flR n, shortN y = true
  | .mk k p a t l, h, y, hy => by
    by_cases hk : k = 2
    · subst hk
      rw [flR_2] at hy
      refine flRL_short (l := l) ?_ y hy
      have g := h
      simp only [shortN, Bool.and_eq_true] at g
      have := g.2
      rw [shortL_all] at this
      exact fun x hx => List.all_eq_true.1 this x hx
    · rw [flR_k hk] at hy
      rw [List.mem_singleton.1 hy]
      exact h
theorem flRL_short : ∀ {l : List ND}, (∀ x ∈ l, shortN x = true) → ∀ y ∈ flRL l, shortN y = true
  | [], _, y, hy => by simp [flRL] at hy
  | x :: l, h, y, hy => by
    rcases List.mem_append.1 (show y ∈ flR x ++ flRL l from hy) with hy | hy
    · exact flR_short (h x (by simp)) y hy
    · exact flRL_short (fun z hz => h z (by simp [hz])) y hy
end
theorem flRL_take {l : List ND} {j : Nat} (h : j < l.length) : flRL (l.take (j + 1)) = flRL (l.take j) ++ flR (nth l j) := by
  rw [nth_take h, flRL_append]
  simp [flRL]
theorem putT_len : ∀ (l : List ND) (n : ND), (putT l n).length ≤ l.length + 1
  | [], n => by simp [putT]
  | x :: l, n => by
    have := putT_len l n
    unfold putT
    split
    · simp
    · split
      · simp
      · simp only [List.length_cons]; omega
theorem cnS_len (L : List ND) : (cnS L).length ≤ L.length := by
  have g : ∀ (L A : List ND), (L.foldl putT A).length ≤ A.length + L.length := by
    intro L
    induction L with
    | nil => intro A; simp
    | cons x L ih =>
      intro A
      have a := ih (putT A x)
      have b := putT_len A x
      simp only [List.foldl_cons, List.length_cons]
      omega
  have := g L []
  simpa [cnS] using this
theorem cnS_take {F : List ND} {j : Nat} (h : j < F.length) : cnS (F.take (j + 1)) = putT (cnS (F.take j)) (nth F j) := by
  unfold cnS
  rw [nth_take h, List.foldl_append]
  rfl
theorem put_ok {F : List ND} (hs : Sns F) (hsh : ∀ y ∈ F, shortN y = true) (hl : F.length ≤ 64) {j : Nat} (h : j < F.length) :
    Sns (nth F j :: cnS (F.take j)) ∧ (∀ y ∈ nth F j :: cnS (F.take j), shortN y = true) ∧ (cnS (F.take j)).length ≤ 64 := by
  have st : Sns (F.take j) := fun y hy => hs y (List.mem_of_mem_take hy)
  have m : ∀ y ∈ nth F j :: cnS (F.take j), y ∈ F := fun y hy => by
    rcases List.mem_cons.1 hy with rfl | hy
    · exact nth_mem h
    · exact List.mem_of_mem_take ((cnS_mem st y).1 hy)
  refine ⟨fun y hy => hs y (m y hy), fun y hy => hsh y (m y hy), ?_⟩
  have := cnS_len (F.take j)
  rw [List.length_take] at this
  omega
theorem RowsN.nil (w0 w : World) (base : Nat) : RowsN w0 w base (.slice none 0 0) [] := ⟨[], rfl, (fun p hp => by cases hp), World.ownsRow_nil _ _ _ _⟩
set_option maxHeartbeats 16000000 in
set_option maxRecDepth 100000 in
theorem rflat_step (w0 : World) (v : Value) (l : List ND) (hh : ∃ ad cp, v = .slice ad l.length cp ∧ (0 < l.length → ∃ b off, ad = some ⟨b, off, none⟩ ∧ ∀ i, i < l.length → ∃ vi, RowN w0 b (off + i * 8) (nth l i) vi ∧ NodesAt w0 vi (nth l i).l ∧ (fun v l => NodesAt w0 v l → ∀ (k : Int) (p : PT) (a t : Bool) (w : World), Kp w0 w → cntL l ≤ 64 → Calls Tryd.prog 30 #[ndV (.mk k p a t l) v] w fun e w' => ∃ v' : Value, e = .returned v' ∧ RowsN w0 w' w.heap.size v' (flR (.mk k p a t l)) ∧ Kp w w') vi (nth l i).l)) : NodesAt w0 v l → ∀ (k : Int) (p : PT) (a t : Bool) (w : World), Kp w0 w → cntL l ≤ 64 → Calls Tryd.prog 30 #[ndV (.mk k p a t l) v] w fun e w' => ∃ v' : Value, e = .returned v' ∧ RowsN w0 w' w.heap.size v' (flR (.mk k p a t l)) ∧ Kp w w' := by
  obtain ⟨ad0, cp0, rfl, hrow⟩ := hh
  intro NA k p a t w k0 hc
  obtain ⟨pk, y, m, q⟩ := p
  by_cases hk : k = 2
  · subst hk
    rw [flR_2]
    have TK := Lib.hid (fun i (hi : i < l.length) => flRL_take (l := l) hi)
    have T0 := Lib.hid (show flRL (l.take 0) = [] by rw [List.take_zero]; rfl)
    have TL := Lib.hid (show l.take l.length = l from List.take_length)
    have LB := Lib.hid (fun i => show (flRL (l.take i)).length ≤ 64 by
      have a := flRL_len (l.take i)
      have c := cntL_append (l.take i) (l.drop i)
      rw [List.take_append_drop] at c
      omega)
    have LP := Lib.hid (fun i (hi : i < l.length) => show (flR (nth l i)).length ≤ 64 ∧ cntL (nth l i).l ≤ 64 by
      have a := flR_len (nth l i)
      have b := cnt_mem (nth_mem hi)
      have c : cntN (nth l i) = cntL (nth l i).l + 1 := (by rw [eta_nd (nth l i)]; rfl)
      omega)
    have ll : l.length ≤ 64 := by have := len_cntL l; omega
    obtain ⟨FL, hFL⟩ : ∃ x, flRL l = x := ⟨_, rfl⟩
    rw [hFL]
    have HFL := Lib.hid hFL
    have HR := Lib.hid hrow
    have K0 := Lib.hid k0
    unfold ndV
    simp only [ND.k, ND.p, ND.a, ND.t]
    obtain ⟨i0, hi, hz0, hz1, hz2⟩ := info_parts infoNode
    obtain ⟨W0, hW⟩ : ∃ x, x = w.alloc (.cells #[.int .i64 2, .int .i64 pk, .string y, .string m, .string q, .bool a, .bool t, .slice ad0 l.length cp0] 26) := ⟨_, rfl⟩
    have kw : Kp w W0 := by rw [hW]; exact Kp.alloc _ _
    have g0 : W0.heap[w.heap.size]? = some (.cells #[.int .i64 2, .int .i64 pk, .string y, .string m, .string q, .bool a, .bool t, .slice ad0 l.length cp0] 26 (0, 0)) := by rw [hW]; exact heap_at _ _ _ rfl
    have HB := Lib.hid (fun w1 (kk : Kp W0 w1) => show w1.cell? ⟨w.heap.size, 0, none⟩ = some (.int .i64 2) ∧ w1.cell? ⟨w.heap.size, 1, none⟩ = some (.int .i64 pk) ∧ w1.cell? ⟨w.heap.size, 2, none⟩ = some (.string y) ∧ w1.cell? ⟨w.heap.size, 3, none⟩ = some (.string m) ∧ w1.cell? ⟨w.heap.size, 4, none⟩ = some (.string q) ∧ w1.cell? ⟨w.heap.size, 5, none⟩ = some (.bool a) ∧ w1.cell? ⟨w.heap.size, 6, none⟩ = some (.bool t) ∧ w1.cell? ⟨w.heap.size, 7, none⟩ = some (.slice ad0 l.length cp0) from row8 (heap_block kk g0))
    have KW := Lib.hid kw
    have HW := Lib.hid hW
    clear NA hrow k0 hc hFL kw g0 hW
    go_enter Tryd.func30, Tryd.ntmps30
    go_wp2_with fail
    rw [← HW.out]
    obtain ⟨x0, x1, x2, x3, x4, x5, x6, x7⟩ := HB.out W0 (Kp.refl _)
    go_wp2
    go_loopw [3, 4] (fun s i ws => ∃ (j : Nat) (ms : List NV), j ≤ l.length ∧ i = .int .i64 j ∧ Hid (ms.map Prod.fst = flRL (l.take j)) ∧ Hid (ReadsN w0 ms) ∧ Hid (ws.ownsRow W0.heap.size 26 8 s ms.length (cellsN ms)) ∧ Hid (Kp W0 ws)) (fun _ i _ => l.length - (intOf i).toNat)
    case atStart => exact ⟨0, [], Nat.zero_le _, rfl, Lib.hid T0.out.symm, Lib.hid (fun p hp => by cases hp), Lib.hid (World.ownsRow_nil _ _ _ _), Lib.hid (Kp.refl W0)⟩
    case round =>
      obtain ⟨j, ms, hj, rfl, MJ, RJ, OJ, KJ⟩ := hrel
      obtain ⟨sad, scp, rfl⟩ := own_slice8 OJ.out
      have NL := Lib.hid (show ms.length ≤ 64 by have a := congrArg List.length MJ.out; rw [List.length_map] at a; have := LB.out j; omega)
      by_cases hlt : j < l.length
      · have kw0 : Kp w0 wr := K0.out.trans (KW.out.trans KJ.out)
        obtain ⟨bk, off, eva, hall⟩ := HR.out (by omega)
        subst eva
        obtain ⟨vi, hrow, hsub, ih⟩ := hall j hlt
        have hrow := hrow.kp kw0
        have lp := LP.out j hlt
        have IX := ih hsub (nth l j).k (nth l j).p (nth l j).a (nth l j).t wr kw0 lp.2
        rw [← eta_nd (nth l j)] at IX
        have tk := TK.out j hlt
        obtain ⟨FX, hFX⟩ : ∃ u, flR (nth l j) = u := ⟨_, rfl⟩
        rw [hFX] at IX tk lp
        have TJ := Lib.hid tk
        have LJ := Lib.hid lp.1
        obtain ⟨x, hx⟩ : ∃ x, nth l j = x := ⟨_, rfl⟩
        rw [hx] at hrow hsub IX
        clear hall ih tk lp hx hFX kw0
        obtain ⟨k1, pk1, y1, m1, q1, a1, t1, l1, rfl⟩ := nd_dest x
        obtain ⟨ad1, cp1, rfl⟩ := hsub.slice
        unfold RowN at hrow
        unfold ndV at IX
        simp only [ND.k, ND.p, ND.a, ND.t, ND.l] at hrow IX
        obtain ⟨n1, hn1⟩ : ∃ n, l1.length = n := ⟨_, rfl⟩
        rw [hn1] at hrow IX
        obtain ⟨e0, e1, e2, e3, e4, e5, e6, e7⟩ := hrow
        have IXH := Lib.hid IX
        obtain ⟨x0, x1, x2, x3, x4, x5, x6, x7⟩ := HB.out wr KJ.out
        have z1 : (j : Int) < (l.length : Int) := by omega
        have z3 : (0 : Int) ≤ (j : Int) := by omega
        have HLT := Lib.hid hlt
        have hbk := World.block_lt_of_cell? _ _ e0
        simp only at hbk
        clear hsub IX hn1
        go_wp2_with fail
        refine IXH.out.mono ?_
        rintro e w6 ⟨v6, rfl, hr6, k6⟩
        obtain ⟨m9, h91, h92, h93⟩ := hr6
        obtain ⟨ad9, cp9, rfl⟩ := own_slice8 h93
        have K6 := Lib.hid (KJ.out.trans k6)
        have O6 := Lib.hid (own_kp OJ.out k6)
        have SR9 := Lib.hid (own_srcN h93)
        have L9 := Lib.hid (cellsN_length m9)
        have ONE9 := Lib.hid (cellsN_one h92)
        have M9 := Lib.hid h91
        have R9 := Lib.hid h92
        have N9 := Lib.hid (show m9.length ≤ 64 by have a := congrArg List.length h91; rw [List.length_map] at a; have := LJ.out; omega)
        clear h91 h92 h93 k6 e0 e1 e2 e3 e4 e5 e6 e7 x0 x1 x2 x3 x4 x5 x6 x7
        go_wp2_with (at_builtin; refine Hid.out ?_)
        refine Lib.hid ?_
        refine wpList_app rfl (.tmp 17) (.tmp 23) 24 rfl W0.heap.size 26 i0 (.agg #[.int .i64 0, .int .i64 0, .string ⟨#[]⟩, .string ⟨#[]⟩, .string ⟨#[]⟩, .bool false, .bool false, .slice none 0 0]) 8 96 Tryd.underlying24 hi hz0 hz1 hz2 rfl (by decide) _ _ _ rfl O6.out _ _ _ rfl SR9.out L9.out ONE9.out (by have a := NL.out; have b := N9.out; unfold maxLen; omega) (by have a := NL.out; have b := N9.out; omega) (Below.size K6.out) ?_
        intro v8 w8 own8 grow8 at8
        have K8 := Lib.hid (K6.out.grown grow8 (fun j hj => (O6.out.lt j hj).1))
        have O8 := Lib.hid own8
        clear grow8 at8 own8
        go_wp2
        go_roundw
        case rel => exact ⟨j + 1, ms ++ m9, HLT.out, by go_num, Lib.hid (by rw [List.map_append, MJ.out, M9.out, TJ.out]), Lib.hid (RJ.out.append R9.out), Lib.hid (by rw [List.length_append, cellsN_append]; exact O8.out), K8⟩
        case measure => have := HLT.out; simp [intOf]; omega
      · obtain rfl : j = l.length := by omega
        have mj := MJ.out
        rw [TL.out, HFL.out] at mj
        have MF := Lib.hid mj
        obtain ⟨x0, x1, x2, x3, x4, x5, x6, x7⟩ := HB.out wr KJ.out
        clear mj
        go_wp2
        go_ret
        exact ⟨_, rfl, ⟨ms, MF.out, RJ.out, own_mono OJ.out KW.out.size⟩, KW.out.trans KJ.out⟩
  · rw [flR_k hk]
    have qk : (k != 2) = true := by simp [hk]
    have HN := Lib.hid NA
    unfold ndV
    simp only [ND.k, ND.p, ND.a, ND.t]
    obtain ⟨V, hV⟩ : ∃ x, x = w.alloc (.cells #[.int .i64 k, .int .i64 pk, .string y, .string m, .string q, .bool a, .bool t, .slice ad0 l.length cp0] 26) := ⟨_, rfl⟩
    have kv : Kp w V := by rw [hV]; exact Kp.alloc _ _
    have gV : V.heap[w.heap.size]? = some (.cells #[.int .i64 k, .int .i64 pk, .string y, .string m, .string q, .bool a, .bool t, .slice ad0 l.length cp0] 26 (0, 0)) := by rw [hV]; exact heap_at _ _ _ rfl
    have zV : V.heap.size = w.heap.size + 1 := by rw [hV]; simp
    have KV := Lib.hid kv
    have HV := Lib.hid hV
    have OWN := Lib.hid (show (V.alloc (.cells #[.int .i64 k, .int .i64 pk, .string y, .string m, .string q, .bool a, .bool t, .slice ad0 l.length cp0] 26)).ownsRow w.heap.size 26 8 (.slice (some ⟨w.heap.size + 1, 0, none⟩) 1 1) [((.mk k ⟨pk, y, m, q⟩ a t l : ND), Value.slice ad0 l.length cp0)].length (cellsN [((.mk k ⟨pk, y, m, q⟩ a t l : ND), Value.slice ad0 l.length cp0)]) by rw [← zV]; exact own_mono (own_node V (.mk k ⟨pk, y, m, q⟩ a t l : ND) (.slice ad0 l.length cp0)) kv.size)
    obtain ⟨x0, x1, x2, x3, x4, x5, x6, x7⟩ := row8 gV
    clear NA hrow hk hV kv gV k0 hc
    go_enter Tryd.func30, Tryd.ntmps30
    go_wp2
    rw [← HV.out]
    go_ret
    exact ⟨_, rfl, ⟨[((.mk k ⟨pk, y, m, q⟩ a t l : ND), .slice ad0 l.length cp0)], rfl, (fun p hp => by rw [List.mem_singleton.1 hp]; exact HN.out), OWN.out⟩, KV.out.trans (Kp.alloc _ _)⟩
theorem rflat12_any (w0 : World) {v : Value} {l : List ND} (h : NodesAt w0 v l) : NodesAt w0 v l → ∀ (k : Int) (p : PT) (a t : Bool) (w : World), Kp w0 w → cntL l ≤ 64 → Calls Tryd.prog 30 #[ndV (.mk k p a t l) v] w fun e w' => ∃ v' : Value, e = .returned v' ∧ RowsN w0 w' w.heap.size v' (flR (.mk k p a t l)) ∧ Kp w w' := by
  refine @NodesAt.ind w0 (fun v l => NodesAt w0 v l → ∀ (k : Int) (p : PT) (a t : Bool) (w : World), Kp w0 w → cntL l ≤ 64 → Calls Tryd.prog 30 #[ndV (.mk k p a t l) v] w fun e w' => ∃ v' : Value, e = .returned v' ∧ RowsN w0 w' w.heap.size v' (flR (.mk k p a t l)) ∧ Kp w w') ?_ v l h
  intro v l hh
  exact rflat_step w0 v l hh
end Go.Proofs.YtgmigeehfhkimaaDoor

namespace Go.Proofs.YtgmigeehfhkimaaDoor
open Go.RowKit Go.Shelf
set_option linter.unusedVariables false
set_option linter.unusedSimpArgs false
set_option maxHeartbeats 16000000 in
set_option maxRecDepth 100000 in
theorem rcan_no (w0 : World) (v : Value) (l : List ND) (k : Int) (p : PT) (a t : Bool) (w : World) (k0 : Kp w0 w) (NA : NodesAt w0 v l) (hsh : shortN (.mk k p a t l) = true) (hc : cntL l ≤ 2000000) (hs : saneN saneP (.mk k p a t l) = false) :
    Calls Tryd.prog 12 #[ndV (.mk k p a t l) v] w fun e w' => ∃ v' : Value, e = .returned (ndV nd0 v') ∧ CanAt w0 w' w.heap.size nd0 v' ∧ Kp w w' := by
  obtain ⟨ad0, cp0, rfl⟩ := NA.slice
  obtain ⟨pk, y, m, q⟩ := p
  have CZ := Lib.hid (show CanAt w0 w w.heap.size nd0 (.slice none 0 0) from ⟨fun _ => .none _ _, fun h => by simp [nd0, ND.k] at h⟩)
  have CS := Lib.hid (fun w1 (qq : Kp w w1) => rsaneN_any (.mk k ⟨pk, y, m, q⟩ a t l) (.slice ad0 l.length cp0) w1 (NA.kp (k0.trans qq)) hsh hc)
  rw [hs] at CS
  clear hs
  unfold nd0 ndV at *
  simp only [ND.k, ND.p, ND.a, ND.t, ND.l] at *
  obtain ⟨W0, hW⟩ : ∃ x, x = (w.alloc (.cells #[.int .i64 k, .int .i64 pk, .string y, .string m, .string q, .bool a, .bool t, .slice ad0 l.length cp0] 26)).alloc (.cells #[.int .i64 0, .int .i64 0, .string ⟨#[]⟩, .string ⟨#[]⟩, .string ⟨#[]⟩, .bool false, .bool false, .slice none 0 0] 26) := ⟨_, rfl⟩
  have kw : Kp w W0 := by rw [hW]; exact (Kp.alloc _ _).trans (Kp.alloc _ _)
  have gB : W0.heap[w.heap.size]? = some (.cells #[.int .i64 k, .int .i64 pk, .string y, .string m, .string q, .bool a, .bool t, .slice ad0 l.length cp0] 26 (0, 0)) := by rw [hW]; exact heap_block (Kp.alloc _ _) (heap_at _ _ _ rfl)
  have gQ : W0.heap[w.heap.size + 1]? = some (.cells #[.int .i64 0, .int .i64 0, .string ⟨#[]⟩, .string ⟨#[]⟩, .string ⟨#[]⟩, .bool false, .bool false, .slice none 0 0] 26 (0, 0)) := by rw [hW]; exact heap_at _ _ _ (by simp)
  have GB := Lib.hid (fun w1 (qq : Kp W0 w1) => heap_block qq gB)
  have GQ := Lib.hid (fun w1 (qq : Kp W0 w1) => heap_block qq gQ)
  have KW := Lib.hid kw
  have HW := Lib.hid hW
  have K00 := Lib.hid k0
  clear hW gB gQ kw
  go_enter Tryd.func12, Tryd.ntmps12
  go_wp2_with fail
  rw [← HW.out]
  obtain ⟨x0, x1, x2, x3, x4, x5, x6, x7⟩ := row8 (GB.out _ (Kp.refl _))
  go_wp2_with fail
  refine (CS.out _ KW.out).mono ?_
  rintro e w1 ⟨rfl, kk⟩
  have K1 := Lib.hid kk
  have gq1 := GQ.out _ kk
  clear kk x0 x1 x2 x3 x4 x5 x6 x7
  obtain ⟨x0, x1, x2, x3, x4, x5, x6, x7⟩ := row8 (GB.out _ K1.out)
  obtain ⟨F, hF⟩ : ∃ x, x = ((((((((w1.setCell ⟨w.heap.size + 1, 0, none⟩ (.int .i64 0)).setCell ⟨w.heap.size + 1, 1, none⟩ (.int .i64 0)).setCell ⟨w.heap.size + 1, 2, none⟩ (.string ⟨#[]⟩)).setCell ⟨w.heap.size + 1, 3, none⟩ (.string ⟨#[]⟩)).setCell ⟨w.heap.size + 1, 4, none⟩ (.string ⟨#[]⟩)).setCell ⟨w.heap.size + 1, 5, none⟩ (.bool false)).setCell ⟨w.heap.size + 1, 6, none⟩ (.bool false)).setCell ⟨w.heap.size + 1, 7, none⟩ (.slice none 0 0)) := ⟨_, rfl⟩
  have gF : F.heap[w.heap.size + 1]? = some (.cells #[.int .i64 0, .int .i64 0, .string ⟨#[]⟩, .string ⟨#[]⟩, .string ⟨#[]⟩, .bool false, .bool false, .slice none 0 0] 26 (0, 0)) := by rw [hF]; exact set8 (.int .i64 0) (.int .i64 0) (.string ⟨#[]⟩) (.string ⟨#[]⟩) (.string ⟨#[]⟩) (.bool false) (.bool false) (.slice none 0 0) gq1
  have kF : Kp w F := by rw [hF]; exact kp_sets (Nat.le_succ _) [.int .i64 0, .int .i64 0, .string ⟨#[]⟩, .string ⟨#[]⟩, .string ⟨#[]⟩, .bool false, .bool false, .slice none 0 0] 0 (KW.out.trans K1.out)
  have frz : ∀ i, w1.frozen? ⟨w.heap.size + 1, i, none⟩ = false := fun i => by simp [World.frozen?, gq1]
  obtain ⟨q0, q1, q2, q3, q4, q5, q6, q7⟩ := row8 gq1
  have HF := Lib.hid hF
  have KF := Lib.hid kF
  have GF := Lib.hid gF
  clear hF kF gF
  go_wp2
  rw [← HF.out]
  obtain ⟨y0, y1, y2, y3, y4, y5, y6, y7⟩ := row8 GF.out
  refine bodyPost_ret (v := .agg #[.int .i64 0, .int .i64 0, .string ⟨#[]⟩, .string ⟨#[]⟩, .string ⟨#[]⟩, .bool false, .bool false, .slice none 0 0]) (by simp [results, Tryd.results12, go_sem, y0, y1, y2, y3, y4, y5, y6, y7]) rfl ?_
  exact ⟨_, rfl, ⟨CZ.out.1, fun h => by simp [ND.k] at h⟩, KF.out⟩
set_option maxHeartbeats 16000000 in
set_option maxRecDepth 100000 in
theorem rcan_one (w0 : World) (v : Value) (l : List ND) (k : Int) (p : PT) (a t : Bool) (w : World) (k0 : Kp w0 w) (NA : NodesAt w0 v l) (hsh : shortN (.mk k p a t l) = true) (hc : cntL l ≤ 2000000) (hs : saneN saneP (.mk k p a t l) = true) (hk : ¬ k = 2) :
    Calls Tryd.prog 12 #[ndV (.mk k p a t l) v] w fun e w' => ∃ v' : Value, e = .returned (ndV (.mk k p a t l) v') ∧ CanAt w0 w' w.heap.size (.mk k p a t l) v' ∧ Kp w w' := by
  obtain ⟨ad0, cp0, rfl⟩ := NA.slice
  obtain ⟨pk, y, m, q⟩ := p
  have CA := Lib.hid (fun wx => show CanAt w0 wx w.heap.size (.mk k ⟨pk, y, m, q⟩ a t l) (.slice ad0 l.length cp0) from ⟨fun _ => NA, fun h => absurd h hk⟩)
  have CS := Lib.hid (fun w1 (qq : Kp w w1) => rsaneN_any (.mk k ⟨pk, y, m, q⟩ a t l) (.slice ad0 l.length cp0) w1 (NA.kp (k0.trans qq)) hsh hc)
  rw [hs] at CS
  clear hs
  unfold ndV at *
  simp only [ND.k, ND.p, ND.a, ND.t, ND.l] at *
  obtain ⟨W0, hW⟩ : ∃ x, x = (w.alloc (.cells #[.int .i64 k, .int .i64 pk, .string y, .string m, .string q, .bool a, .bool t, .slice ad0 l.length cp0] 26)).alloc (.cells #[.int .i64 0, .int .i64 0, .string ⟨#[]⟩, .string ⟨#[]⟩, .string ⟨#[]⟩, .bool false, .bool false, .slice none 0 0] 26) := ⟨_, rfl⟩
  have kw : Kp w W0 := by rw [hW]; exact (Kp.alloc _ _).trans (Kp.alloc _ _)
  have gB : W0.heap[w.heap.size]? = some (.cells #[.int .i64 k, .int .i64 pk, .string y, .string m, .string q, .bool a, .bool t, .slice ad0 l.length cp0] 26 (0, 0)) := by rw [hW]; exact heap_block (Kp.alloc _ _) (heap_at _ _ _ rfl)
  have gQ : W0.heap[w.heap.size + 1]? = some (.cells #[.int .i64 0, .int .i64 0, .string ⟨#[]⟩, .string ⟨#[]⟩, .string ⟨#[]⟩, .bool false, .bool false, .slice none 0 0] 26 (0, 0)) := by rw [hW]; exact heap_at _ _ _ (by simp)
  have GB := Lib.hid (fun w1 (qq : Kp W0 w1) => heap_block qq gB)
  have GQ := Lib.hid (fun w1 (qq : Kp W0 w1) => heap_block qq gQ)
  have KW := Lib.hid kw
  have HW := Lib.hid hW
  have K00 := Lib.hid k0
  clear hW gB gQ kw
  have qk : (k == 2) = false := beq_eq_false_iff_ne.2 hk
  have qk2 : (k != 2) = true := by simp [hk]
  clear hk NA hsh hc
  go_enter Tryd.func12, Tryd.ntmps12
  go_wp2_with fail
  rw [← HW.out]
  obtain ⟨x0, x1, x2, x3, x4, x5, x6, x7⟩ := row8 (GB.out _ (Kp.refl _))
  go_wp2_with fail
  refine (CS.out _ KW.out).mono ?_
  rintro e w1 ⟨rfl, kk⟩
  have K1 := Lib.hid kk
  have gq1 := GQ.out _ kk
  clear kk x0 x1 x2 x3 x4 x5 x6 x7
  obtain ⟨x0, x1, x2, x3, x4, x5, x6, x7⟩ := row8 (GB.out _ K1.out)
  obtain ⟨F, hF⟩ : ∃ x, x = ((((((((w1.setCell ⟨w.heap.size + 1, 0, none⟩ (.int .i64 k)).setCell ⟨w.heap.size + 1, 1, none⟩ (.int .i64 pk)).setCell ⟨w.heap.size + 1, 2, none⟩ (.string y)).setCell ⟨w.heap.size + 1, 3, none⟩ (.string m)).setCell ⟨w.heap.size + 1, 4, none⟩ (.string q)).setCell ⟨w.heap.size + 1, 5, none⟩ (.bool a)).setCell ⟨w.heap.size + 1, 6, none⟩ (.bool t)).setCell ⟨w.heap.size + 1, 7, none⟩ (.slice ad0 l.length cp0)) := ⟨_, rfl⟩
  have gF : F.heap[w.heap.size + 1]? = some (.cells #[.int .i64 k, .int .i64 pk, .string y, .string m, .string q, .bool a, .bool t, .slice ad0 l.length cp0] 26 (0, 0)) := by rw [hF]; exact set8 (.int .i64 k) (.int .i64 pk) (.string y) (.string m) (.string q) (.bool a) (.bool t) (.slice ad0 l.length cp0) gq1
  have kF : Kp w F := by rw [hF]; exact kp_sets (Nat.le_succ _) [.int .i64 k, .int .i64 pk, .string y, .string m, .string q, .bool a, .bool t, .slice ad0 l.length cp0] 0 (KW.out.trans K1.out)
  have frz : ∀ i, w1.frozen? ⟨w.heap.size + 1, i, none⟩ = false := fun i => by simp [World.frozen?, gq1]
  obtain ⟨q0, q1, q2, q3, q4, q5, q6, q7⟩ := row8 gq1
  have HF := Lib.hid hF
  have KF := Lib.hid kF
  have GF := Lib.hid gF
  clear hF kF gF
  go_wp2
  rw [← HF.out]
  obtain ⟨y0, y1, y2, y3, y4, y5, y6, y7⟩ := row8 GF.out
  refine bodyPost_ret (v := .agg #[.int .i64 k, .int .i64 pk, .string y, .string m, .string q, .bool a, .bool t, .slice ad0 l.length cp0]) (by simp [results, Tryd.results12, go_sem, y0, y1, y2, y3, y4, y5, y6, y7]) rfl ?_
  exact ⟨_, rfl, CA.out _, KF.out⟩
set_option maxHeartbeats 16000000 in
set_option maxRecDepth 100000 in
theorem rcan_list (w0 : World) (v : Value) (l : List ND) (p : PT) (a t : Bool) (w : World) (k0 : Kp w0 w) (NA : NodesAt w0 v l) (hsh : shortN (.mk 2 p a t l) = true) (hc : cntL l ≤ 2000000) (hs : saneN saneP (.mk 2 p a t l) = true) :
    Calls Tryd.prog 12 #[ndV (.mk 2 p a t l) v] w fun e w' => ∃ v' : Value, e = .returned (ndV (wrapC (cnS (flRL l))) v') ∧ CanAt w0 w' w.heap.size (wrapC (cnS (flRL l))) v' ∧ Kp w w' := by
  obtain ⟨ad0, cp0, rfl⟩ := NA.slice
  obtain ⟨sn, c64⟩ := sns_list hs
  have sf : Sns (flRL l) := by have := flR_sns hs; rwa [flR_2] at this
  have ff := (flR_facts (cn_right hs).1)
  rw [flR_2] at ff
  have lf : (flRL l).length ≤ 64 := by have := flRL_len l; omega
  have shf : ∀ y ∈ flRL l, shortN y = true := by have := flR_short hsh; rwa [flR_2] at this
  have FLH := Lib.hid (fun w1 (qq : Kp w w1) => rflat12_any w0 NA NA 2 p a t w1 (k0.trans qq) c64)
  obtain ⟨pk, y, m, q⟩ := p
  rw [flR_2] at FLH
  have nl : ∀ x ∈ cnS (flRL l), ¬ x.k = 2 := fun x hx => (ff.2.2 x ((cnS_mem sf x).1 hx)).2
  have ne : (cnS (flRL l)).length ≤ 64 := by have := cnS_len (flRL l); omega
  have PO := Lib.hid (fun j (hj : j < (flRL l).length) => put_ok sf shf lf hj)
  have PU := Lib.hid (fun L v x vx base w1 (k : Kp w0 w1) (h : RowsN w0 w1 base v L) (hx : NodesAt w0 vx x.l) (hs : Sns (x :: L)) (hsh : ∀ y ∈ x :: L, shortN y = true) (hl : L.length ≤ 64) => rput12_any w0 L v x vx base w1 k h hx hs hsh hl)
  have PT := Lib.hid (fun j (hj : j < (flRL l).length) => cnS_take (F := flRL l) hj)
  have TL := Lib.hid (show cnS ((flRL l).take (flRL l).length) = cnS (flRL l) by rw [List.take_length])
  have T0 := Lib.hid (show cnS ((flRL l).take 0) = [] from rfl)
  have CLn := Lib.hid (fun j => show (cnS ((flRL l).take j)).length ≤ 64 by have a := cnS_len ((flRL l).take j); rw [List.length_take] at a; omega)
  obtain ⟨F, hF⟩ : ∃ x, flRL l = x := ⟨_, rfl⟩
  rw [hF] at FLH nl ne PO PT TL T0 CLn lf ⊢
  have NL := Lib.hid nl
  obtain ⟨E, hE⟩ : ∃ x, cnS F = x := ⟨_, rfl⟩
  rw [hE] at NL TL ne ⊢
  obtain ⟨C, hC⟩ : ∃ x, wrapC E = x := ⟨_, rfl⟩
  rw [hC]
  have HC := Lib.hid hC
  have NE := Lib.hid ne
  clear hC sn c64 sf ff shf nl ne hF hE
  have CS := Lib.hid (fun w1 (qq : Kp w w1) => rsaneN_any (.mk 2 ⟨pk, y, m, q⟩ a t l) (.slice ad0 l.length cp0) w1 (NA.kp (k0.trans qq)) hsh hc)
  rw [hs] at CS
  clear hs
  unfold ndV at *
  simp only [ND.k, ND.p, ND.a, ND.t, ND.l] at CS FLH ⊢
  obtain ⟨W0, hW⟩ : ∃ x, x = (w.alloc (.cells #[.int .i64 2, .int .i64 pk, .string y, .string m, .string q, .bool a, .bool t, .slice ad0 l.length cp0] 26)).alloc (.cells #[.int .i64 0, .int .i64 0, .string ⟨#[]⟩, .string ⟨#[]⟩, .string ⟨#[]⟩, .bool false, .bool false, .slice none 0 0] 26) := ⟨_, rfl⟩
  have kw : Kp w W0 := by rw [hW]; exact (Kp.alloc _ _).trans (Kp.alloc _ _)
  have gB : W0.heap[w.heap.size]? = some (.cells #[.int .i64 2, .int .i64 pk, .string y, .string m, .string q, .bool a, .bool t, .slice ad0 l.length cp0] 26 (0, 0)) := by rw [hW]; exact heap_block (Kp.alloc _ _) (heap_at _ _ _ rfl)
  have gQ : W0.heap[w.heap.size + 1]? = some (.cells #[.int .i64 0, .int .i64 0, .string ⟨#[]⟩, .string ⟨#[]⟩, .string ⟨#[]⟩, .bool false, .bool false, .slice none 0 0] 26 (0, 0)) := by rw [hW]; exact heap_at _ _ _ (by simp)
  have GB := Lib.hid (fun w1 (qq : Kp W0 w1) => heap_block qq gB)
  have GQ := Lib.hid (fun w1 (qq : Kp W0 w1) => heap_block qq gQ)
  have KW := Lib.hid kw
  have HW := Lib.hid hW
  have K00 := Lib.hid k0
  clear hW gB gQ kw
  clear NA hsh hc
  go_enter Tryd.func12, Tryd.ntmps12
  go_wp2_with fail
  rw [← HW.out]
  obtain ⟨x0, x1, x2, x3, x4, x5, x6, x7⟩ := row8 (GB.out _ (Kp.refl _))
  go_wp2_with fail
  refine (CS.out _ KW.out).mono ?_
  rintro e w1 ⟨rfl, kk⟩
  have K1 := Lib.hid kk
  have gq1 := GQ.out _ kk
  clear kk x0 x1 x2 x3 x4 x5 x6 x7
  obtain ⟨x0, x1, x2, x3, x4, x5, x6, x7⟩ := row8 (GB.out _ K1.out)
  go_wp2_with fail
  refine (FLH.out _ (KW.out.trans K1.out)).mono ?_
  rintro e w2 ⟨v2, rfl, rw2, kk⟩
  have K2 := Lib.hid (K1.out.trans kk)
  have B2 := Lib.hid kk.size
  obtain ⟨msF, hmF, hrF, ownF⟩ := rw2
  obtain ⟨ad2, cp2, rfl⟩ := own_slice8 ownF
  have LF := Lib.hid (show msF.length = F.length by rw [← hmF, List.length_map])
  have NVE := Lib.hid (fun j (hj : j < msF.length) => show (nvAt msF j).1 = nth F j from by
    rw [nvAt_eq hj]
    unfold nth
    rw [List.getD_eq_getElem?_getD, ← hmF, List.getElem?_map, List.getElem?_eq_getElem hj]
    rfl)
  have RDF := Lib.hid hrF
  have OWF := Lib.hid ownF
  have KW2 := Lib.hid (KW.out.trans K2.out)
  have lm2 : msF.length ≤ 64 := by rw [LF.out]; exact lf
  clear hmF hrF ownF kk x0 x1 x2 x3 x4 x5 x6 x7 gq1
  go_wp2
  go_loopw [4, 5] (fun s i ws => ∃ (j : Nat) (ad : Option Addr) (n c : Nat), j ≤ msF.length ∧ i = .int .i64 j ∧ s = .slice ad n c ∧ Hid (RowsN w0 ws w2.heap.size (.slice ad n c) (cnS (F.take j))) ∧ Hid (Kp w2 ws)) (fun _ i _ => msF.length - (intOf i).toNat)
  case atStart => exact ⟨0, none, 0, 0, Nat.zero_le _, rfl, rfl, Lib.hid (by rw [T0.out]; exact RowsN.nil _ _ _), Lib.hid (Kp.refl w2)⟩
  case round =>
    obtain ⟨j, ad3, n3, cp3, hj, rfl, rfl, RJ, KJ⟩ := hrel
    by_cases hlt : j < msF.length
    · have hjF : j < F.length := by rw [← LF.out]; exact hlt
      obtain ⟨g, cap, ev, hrow⟩ := own_rowN (own_kp OWF.out KJ.out) hlt
      cases ev
      have nve := NVE.out j hlt
      have rdj := RDF.out _ (nvAt_mem hlt)
      obtain ⟨q1, q2, q3⟩ := PO.out j hjF
      have pt := PT.out j hjF
      rw [← nve] at q1 q2 pt
      have IX := PU.out _ _ (nvAt msF j).1 (nvAt msF j).2 _ wr (K00.out.trans (KW2.out.trans KJ.out)) RJ.out rdj q1 q2 q3
      rw [← pt] at IX
      obtain ⟨qq, hqq⟩ : ∃ q, nvAt msF j = q := ⟨_, rfl⟩
      rw [hqq] at hrow rdj IX
      clear nve q1 q2 q3 pt hqq
      obtain ⟨xn, xv⟩ := qq
      simp only at hrow rdj IX
      obtain ⟨ad1, cp1, rfl⟩ := rdj.slice
      obtain ⟨k1, pk1, y1, m1, q1, a1, t1, l1, rfl⟩ := nd_dest xn
      unfold RowN at hrow
      (try unfold ndV at IX)
      simp only [ND.k, ND.p, ND.a, ND.t, ND.l] at hrow
      (try simp only [ND.k, ND.p, ND.a, ND.t, ND.l] at IX)
      obtain ⟨n1, hn1⟩ : ∃ n, l1.length = n := ⟨_, rfl⟩
      rw [hn1] at hrow IX
      obtain ⟨e0, e1, e2, e3, e4, e5, e6, e7⟩ := hrow
      have IXH := Lib.hid IX
      have BW := Lib.hid (Below.size KJ.out)
      have z1 : (j : Int) < (msF.length : Int) := by omega
      have z3 : (0 : Int) ≤ (j : Int) := by omega
      have HLT := Lib.hid hlt
      have hbk := World.block_lt_of_cell? _ _ e0
      simp only at hbk
      clear rdj IX hn1 hlt hjF
      go_wp2_with fail
      refine IXH.out.mono ?_
      rintro e w6 ⟨v6, rfl, hr6, k6⟩
      obtain ⟨ad6, cp6, hv6⟩ := hr6.slice
      obtain ⟨n6, hn6⟩ : ∃ n, (cnS (F.take (j + 1))).length = n := ⟨_, rfl⟩
      rw [hn6] at hv6
      subst hv6
      have R6 := Lib.hid (hr6.mono BW.out)
      clear hn6
      have K6 := Lib.hid (KJ.out.trans k6)
      clear hr6 k6 e0 e1 e2 e3 e4 e5 e6 e7 hbk
      go_wp2
      go_roundw
      case rel => exact ⟨j + 1, _, _, _, HLT.out, by go_num, rfl, R6, K6⟩
      case measure => have := HLT.out; simp [intOf]; omega
    · have ej : j = F.length := by have := LF.out; omega
      have rw3 := RJ.out
      rw [ej, TL.out] at rw3
      have ejm : j = msF.length := by omega
      subst ejm
      have K3 := Lib.hid (K2.out.trans KJ.out)
      have gq3 := GQ.out _ K3.out
      have bq : w.heap.size + 2 ≤ w2.heap.size := by have a := K2.out.size; have b := (Array.getElem?_eq_some_iff.1 (GQ.out W0 (Kp.refl _))).1; omega
      obtain ⟨ms, hms, hrd, own3⟩ := rw3
      obtain ⟨ad3', cp3', hv3⟩ := own_slice8 own3
      cases hv3
      have LM := Lib.hid (show ms.length ≤ 64 by have a := congrArg List.length hms; rw [List.length_map] at a; have := NE.out; omega)
      have lm := LM.out
      clear ej
      by_cases h1 : ms.length = 1
      · obtain ⟨g, cap, ev, hrow⟩ := own_rowN own3 (i := 0) (by omega)
        cases ev
        have e1 : E.length = 1 := by rw [← hms, List.length_map]; exact h1
        have en : wrapC E = (nvAt ms 0).1 := by
          unfold wrapC
          rw [if_pos e1, ← hms]
          unfold nth nvAt
          match ms, h1 with
          | [x], _ => rfl
        have nk := NL.out (nvAt ms 0).1 (by rw [← hms]; exact List.mem_map_of_mem (nvAt_mem (by omega)))
        have rx := hrd _ (nvAt_mem (m := ms) (i := 0) (by omega))
        have eC := HC.out
        rw [en] at eC
        obtain ⟨x, hx⟩ : ∃ x, nvAt ms 0 = x := ⟨_, rfl⟩
        rw [hx] at hrow nk rx eC
        obtain ⟨xn, xv⟩ := x
        simp only at hrow nk rx eC
        subst eC
        have CA := Lib.hid (fun wx => show CanAt w0 wx w.heap.size xn xv from ⟨fun _ => rx, fun h => absurd h nk⟩)
        obtain ⟨adz, nz, cpz, hxv⟩ : ∃ ad n cp, xv = .slice ad n cp := by obtain ⟨a, c, e⟩ := rx.slice; exact ⟨a, _, c, e⟩
        subst hxv
        clear en nk rx hx e1 hms hrd own3
        obtain ⟨kz, ⟨pkz, yz, mz, qz⟩, az, tz, lz⟩ := xn
        unfold RowN at hrow
        simp only [ND.k, ND.p, ND.a, ND.t, ND.l, Nat.zero_mul] at hrow
        obtain ⟨e0, e1, e2, e3, e4, e5, e6, e7⟩ := hrow
        simp only [h1]
        obtain ⟨F1, hF⟩ : ∃ x, x = ((((((((wr.setCell ⟨w.heap.size + 1, 0, none⟩ (.int .i64 kz)).setCell ⟨w.heap.size + 1, 1, none⟩ (.int .i64 pkz)).setCell ⟨w.heap.size + 1, 2, none⟩ (.string yz)).setCell ⟨w.heap.size + 1, 3, none⟩ (.string mz)).setCell ⟨w.heap.size + 1, 4, none⟩ (.string qz)).setCell ⟨w.heap.size + 1, 5, none⟩ (.bool az)).setCell ⟨w.heap.size + 1, 6, none⟩ (.bool tz)).setCell ⟨w.heap.size + 1, 7, none⟩ (.slice adz nz cpz)) := ⟨_, rfl⟩
        have gF : F1.heap[w.heap.size + 1]? = some (.cells #[.int .i64 kz, .int .i64 pkz, .string yz, .string mz, .string qz, .bool az, .bool tz, .slice adz nz cpz] 26 (0, 0)) := by rw [hF]; exact set8 (.int .i64 kz) (.int .i64 pkz) (.string yz) (.string mz) (.string qz) (.bool az) (.bool tz) (.slice adz nz cpz) gq3
        have kF : Kp w F1 := by rw [hF]; exact kp_sets (Nat.le_succ _) [.int .i64 kz, .int .i64 pkz, .string yz, .string mz, .string qz, .bool az, .bool tz, .slice adz nz cpz] 0 (KW.out.trans K3.out)
        have frz : ∀ i, wr.frozen? ⟨w.heap.size + 1, i, none⟩ = false := fun i => by simp [World.frozen?, gq3]
        obtain ⟨q0, q1, q2, q3, q4, q5, q6, q7⟩ := row8 gq3
        have HF := Lib.hid hF
        have KF := Lib.hid kF
        have GF := Lib.hid gF
        clear hF kF gF
        go_wp2
        rw [← HF.out]
        obtain ⟨y0, y1, y2, y3, y4, y5, y6, y7⟩ := row8 GF.out
        refine bodyPost_ret (v := .agg #[.int .i64 kz, .int .i64 pkz, .string yz, .string mz, .string qz, .bool az, .bool tz, .slice adz nz cpz]) (by simp [results, Tryd.results12, go_sem, y0, y1, y2, y3, y4, y5, y6, y7]) rfl ?_
        exact ⟨_, rfl, CA.out _, KF.out⟩
      · have en : wrapC E = .mk 2 pz false false E := by unfold wrapC; rw [if_neg (by rw [← hms, List.length_map]; exact h1)]
        have eC := HC.out
        rw [en] at eC
        subst eC
        have RW4 := Lib.hid (show RowsN w0 wr w2.heap.size (.slice ad3 ms.length cp3) E from ⟨ms, hms, hrd, own3⟩)
        have q1 : ((ms.length : Int) == 1) = false := beq_eq_false_iff_ne.2 (by omega)
        clear en hms hrd own3 h1
        obtain ⟨F1, hF⟩ : ∃ x, x = ((((((((wr.setCell ⟨w.heap.size + 1, 0, none⟩ (.int .i64 2)).setCell ⟨w.heap.size + 1, 1, none⟩ (.int .i64 0)).setCell ⟨w.heap.size + 1, 2, none⟩ (.string ⟨#[]⟩)).setCell ⟨w.heap.size + 1, 3, none⟩ (.string ⟨#[]⟩)).setCell ⟨w.heap.size + 1, 4, none⟩ (.string ⟨#[]⟩)).setCell ⟨w.heap.size + 1, 5, none⟩ (.bool false)).setCell ⟨w.heap.size + 1, 6, none⟩ (.bool false)).setCell ⟨w.heap.size + 1, 7, none⟩ (.slice ad3 ms.length cp3)) := ⟨_, rfl⟩
        have gF : F1.heap[w.heap.size + 1]? = some (.cells #[.int .i64 2, .int .i64 0, .string ⟨#[]⟩, .string ⟨#[]⟩, .string ⟨#[]⟩, .bool false, .bool false, .slice ad3 ms.length cp3] 26 (0, 0)) := by rw [hF]; exact set8 (.int .i64 2) (.int .i64 0) (.string ⟨#[]⟩) (.string ⟨#[]⟩) (.string ⟨#[]⟩) (.bool false) (.bool false) (.slice ad3 ms.length cp3) gq3
        have kF : Kp w F1 := by rw [hF]; exact kp_sets (Nat.le_succ _) [.int .i64 2, .int .i64 0, .string ⟨#[]⟩, .string ⟨#[]⟩, .string ⟨#[]⟩, .bool false, .bool false, .slice ad3 ms.length cp3] 0 (KW.out.trans K3.out)
        have frz : ∀ i, wr.frozen? ⟨w.heap.size + 1, i, none⟩ = false := fun i => by simp [World.frozen?, gq3]
        obtain ⟨q0, q1, q2, q3, q4, q5, q6, q7⟩ := row8 gq3
        have HF := Lib.hid hF
        have RWF := Lib.hid (show RowsN w0 F1 w.heap.size (.slice ad3 ms.length cp3) E by
          obtain ⟨m9, h1, h2, h3⟩ := RW4.out
          refine ⟨m9, h1, h2, own_mono (base := w2.heap.size) ?_ (by omega)⟩
          rw [hF]
          exact own_other h3 (fun j hj e => by have := (h3.lt j hj).1; omega) [.int .i64 2, .int .i64 0, .string ⟨#[]⟩, .string ⟨#[]⟩, .string ⟨#[]⟩, .bool false, .bool false, .slice ad3 ms.length cp3] 0)
        have KF := Lib.hid kF
        have GF := Lib.hid gF
        clear hF kF gF
        go_wp2
        rw [← HF.out]
        obtain ⟨y0, y1, y2, y3, y4, y5, y6, y7⟩ := row8 GF.out
        refine bodyPost_ret (v := .agg #[.int .i64 2, .int .i64 0, .string ⟨#[]⟩, .string ⟨#[]⟩, .string ⟨#[]⟩, .bool false, .bool false, .slice ad3 ms.length cp3]) (by simp [results, Tryd.results12, go_sem, y0, y1, y2, y3, y4, y5, y6, y7]) rfl ?_
        exact ⟨_, rfl, ⟨fun h => by simp [ND.k] at h, fun _ => RWF.out⟩, KF.out⟩
theorem rcanon12_any (n : ND) (u : Value) (w0 w : World) (h : NodesAt w0 u n.l) (kk : Kp w0 w) (hsh : shortN n = true) (hc : cntL n.l ≤ 2000000) :
    Calls Tryd.prog 12 #[ndV n u] w fun e w' => ∃ v' : Value, e = .returned (ndV (canF n) v') ∧ CanAt w0 w' w.heap.size (canF n) v' ∧ Kp w w' := by
  obtain ⟨k, p, a, t, l⟩ := n
  rcases Bool.eq_false_or_eq_true (saneN saneP (.mk k p a t l)) with hs | hs
  · by_cases hk : k = 2
    · subst hk
      have e : canF (.mk 2 p a t l) = wrapC (cnS (flRL l)) := by
        rw [canF_yes hs]
        unfold canN
        rw [flR_2]
        exact if_pos rfl
      rw [e]
      exact rcan_list w0 u l p a t w kk h hsh hc hs
    · rw [can_1 hs hk]
      exact rcan_one w0 u l k p a t w kk h hsh hc hs hk
  · rw [canF_no hs]
    exact rcan_no w0 u l k p a t w kk h hsh hc hs
end Go.Proofs.YtgmigeehfhkimaaDoor

namespace Go.Proofs.YtgmigeehfhkimaaDoor
open Go.RowKit Go.Shelf
set_option linter.unusedVariables false
set_option linter.unusedSimpArgs false
theorem few_short12 {n : ND} (h : fewN n = true) : shortN n = true := by
  unfold fewN at h
  rw [Bool.and_eq_true] at h
  exact h.2
theorem rsame12 (c n : ND) (v u : Value) (w : World) (hv : NodesAt w v c.l) (hu : NodesAt w u n.l) (hc : cntN c ≤ 64) :
    Calls Tryd.prog 32 #[ndV c v, ndV n u] w fun e w' => e = .returned (.bool (sameN c n)) ∧ Kp w w' := by
  have e : cntN c = cntL c.l + 1 := by rw [eta_nd c]; rfl
  have := rSame_any w hv c.k c.p c.a c.t n u w hu (Kp.refl w) (by omega)
  rwa [← eta_nd c] at this
theorem rcan12 (n : ND) (u : Value) (w : World) (h : NodesAt w u n.l) (hsh : shortN n = true) (hc : cntL n.l ≤ 2000000) :
    Calls Tryd.prog 12 #[ndV n u] w fun e w' => ∃ v' : Value, e = .returned (ndV (canF n) v') ∧ NodesAt w' v' (canF n).l ∧ Kp w w' := by
  refine (rcanon12_any n u w w h (Kp.refl w) hsh hc).mono ?_
  rintro e w' ⟨v', rfl, hv, kk⟩
  exact ⟨v', rfl, hv.nodes kk, kk⟩
abbrev risA0 : Oper := { dst := some 3, op := Go.Op.load 26 (Go.Operand.tmp 1), type := 26, pos := "ref.go:63", after := #[], guard := none }
abbrev risA1 : Oper := { dst := some 4, op := Go.Op.call { callee := Go.Callee.value (Go.Operand.func 29), args := #[Go.Operand.tmp 3], argTypes := #[26] }, type := 4, pos := "ref.go:63", after := #[{ on := 0, ground := Go.Ground.data }], guard := none }
abbrev risA2 : Oper := { dst := some 5, op := Go.Op.move (Go.Operand.tmp 4), type := 4, pos := "ref.go:63", after := #[{ on := 1, ground := Go.Ground.data }, { on := 1, ground := Go.Ground.chain }], guard := none }
abbrev risA3 : Oper := { dst := some 6, op := Go.Op.load 26 (Go.Operand.tmp 1), type := 26, pos := "ref.go:63", after := #[{ on := 2, ground := Go.Ground.guard }], guard := some (2, true) }
abbrev risA4 : Oper := { dst := some 7, op := Go.Op.call { callee := Go.Callee.value (Go.Operand.func 12), args := #[Go.Operand.tmp 6], argTypes := #[26] }, type := 26, pos := "ref.go:63", after := #[{ on := 3, ground := Go.Ground.data }, { on := 2, ground := Go.Ground.chain }, { on := 2, ground := Go.Ground.guard }], guard := some (2, true) }
abbrev risA5 : Oper := { dst := some 8, op := Go.Op.load 26 (Go.Operand.tmp 1), type := 26, pos := "ref.go:63", after := #[{ on := 2, ground := Go.Ground.guard }], guard := some (2, true) }
abbrev risA6 : Oper := { dst := some 9, op := Go.Op.call { callee := Go.Callee.value (Go.Operand.func 32), args := #[Go.Operand.tmp 7, Go.Operand.tmp 8], argTypes := #[26, 26] }, type := 4, pos := "ref.go:63", after := #[{ on := 4, ground := Go.Ground.data }, { on := 5, ground := Go.Ground.data }, { on := 4, ground := Go.Ground.chain }, { on := 2, ground := Go.Ground.guard }], guard := some (2, true) }
abbrev risA7 : Oper := { dst := some 10, op := Go.Op.pick (Go.Operand.tmp 5) (Go.Operand.tmp 9) (Go.Operand.const (Go.Value.bool false)), type := 4, pos := "ref.go:63", after := #[{ on := 2, ground := Go.Ground.data }, { on := 6, ground := Go.Ground.data }], guard := none }
abbrev risA8 : Oper := { dst := some 2, op := Go.Op.assign (Go.Operand.tmp 10), type := 4, pos := "ref.go:63", after := #[{ on := 7, ground := Go.Ground.data }, { on := 6, ground := Go.Ground.chain }, { on := 0, ground := Go.Ground.phase }, { on := 1, ground := Go.Ground.phase }, { on := 2, ground := Go.Ground.phase }, { on := 3, ground := Go.Ground.phase }, { on := 4, ground := Go.Ground.phase }, { on := 5, ground := Go.Ground.phase }, { on := 6, ground := Go.Ground.phase }, { on := 7, ground := Go.Ground.phase }], guard := none }
set_option maxHeartbeats 16000000 in
set_option maxRecDepth 100000 in
theorem ris_no (n : ND) (un : Value) (w : World) (hn : NodesAt w un n.l) (hsh : shortN n = true) (hc : cntL n.l ≤ 2000000) (hs : saneN saneP n = false) :
    Calls Tryd.prog 14 #[ndV n un] w fun e w' => e = .returned (.bool (isN n)) ∧ Kp w w' := by
  rw [isN_no hs]
  have SN := Lib.hid (fun w1 (kk : Kp w w1) => rsaneN_any n un w1 (hn.kp kk) hsh hc)
  rw [hs] at SN
  clear hs hsh hc
  obtain ⟨adn, cpn, rfl⟩ := hn.slice
  obtain ⟨kn, pkn, yn, mn, qn, an, tn, ln, rfl⟩ := nd_dest n
  unfold ndV at *
  simp only [ND.k, ND.p, ND.a, ND.t, ND.l] at *
  obtain ⟨W0, hW⟩ : ∃ W0, W0 = w.alloc (.cells #[.int .i64 kn, .int .i64 pkn, .string yn, .string mn, .string qn, .bool an, .bool tn, .slice adn ln.length cpn] 26) := ⟨_, rfl⟩
  have K00 := Lib.hid (show Kp w W0 by rw [hW]; exact Kp.alloc _ _)
  have HB := Lib.hid (fun w1 (k : Kp W0 w1) => show w1.cell? ⟨w.heap.size, 0, none⟩ = some (.int .i64 kn) ∧ w1.cell? ⟨w.heap.size, 1, none⟩ = some (.int .i64 pkn) ∧ w1.cell? ⟨w.heap.size, 2, none⟩ = some (.string yn) ∧ w1.cell? ⟨w.heap.size, 3, none⟩ = some (.string mn) ∧ w1.cell? ⟨w.heap.size, 4, none⟩ = some (.string qn) ∧ w1.cell? ⟨w.heap.size, 5, none⟩ = some (.bool an) ∧ w1.cell? ⟨w.heap.size, 6, none⟩ = some (.bool tn) ∧ w1.cell? ⟨w.heap.size, 7, none⟩ = some (.slice adn ln.length cpn) from ⟨cell_up k (show W0.cell? ⟨w.heap.size, 0, none⟩ = some (.int .i64 kn) by rw [hW]; simp), cell_up k (show W0.cell? ⟨w.heap.size, 1, none⟩ = some (.int .i64 pkn) by rw [hW]; simp), cell_up k (show W0.cell? ⟨w.heap.size, 2, none⟩ = some (.string yn) by rw [hW]; simp), cell_up k (show W0.cell? ⟨w.heap.size, 3, none⟩ = some (.string mn) by rw [hW]; simp), cell_up k (show W0.cell? ⟨w.heap.size, 4, none⟩ = some (.string qn) by rw [hW]; simp), cell_up k (show W0.cell? ⟨w.heap.size, 5, none⟩ = some (.bool an) by rw [hW]; simp), cell_up k (show W0.cell? ⟨w.heap.size, 6, none⟩ = some (.bool tn) by rw [hW]; simp), cell_up k (show W0.cell? ⟨w.heap.size, 7, none⟩ = some (.slice adn ln.length cpn) by rw [hW]; simp)⟩)
  obtain ⟨c0, c1, c2, c3, c4, c5, c6, c7⟩ := HB.out W0 (Kp.refl _)
  have K0 := Lib.hid (Kp.refl W0)
  have HW := Lib.hid hW
  clear hW
  go_enter Tryd.func14, Tryd.ntmps14
  go_wp2_with fail
  rw [← HW.out]
  have KS := Lib.hid (fun w' (kq : Kp W0 w') => show w'.cell? ⟨w.heap.size, 0, none⟩ = some (.int .i64 kn) ∧ w'.cell? ⟨w.heap.size, 1, none⟩ = some (.int .i64 pkn) ∧ w'.cell? ⟨w.heap.size, 2, none⟩ = some (.string yn) ∧ w'.cell? ⟨w.heap.size, 3, none⟩ = some (.string mn) ∧ w'.cell? ⟨w.heap.size, 4, none⟩ = some (.string qn) ∧ w'.cell? ⟨w.heap.size, 5, none⟩ = some (.bool an) ∧ w'.cell? ⟨w.heap.size, 6, none⟩ = some (.bool tn) ∧ w'.cell? ⟨w.heap.size, 7, none⟩ = some (.slice adn ln.length cpn) ∧ Kp W0 w' from ⟨(HB.out w' (K0.out.trans kq)).1, (HB.out w' (K0.out.trans kq)).2.1, (HB.out w' (K0.out.trans kq)).2.2.1, (HB.out w' (K0.out.trans kq)).2.2.2.1, (HB.out w' (K0.out.trans kq)).2.2.2.2.1, (HB.out w' (K0.out.trans kq)).2.2.2.2.2.1, (HB.out w' (K0.out.trans kq)).2.2.2.2.2.2.1, (HB.out w' (K0.out.trans kq)).2.2.2.2.2.2.2, kq⟩)
  (try go_wp2_with fail)
  refine wp_region_held_drew (S := fun w' => w'.cell? ⟨w.heap.size, 0, none⟩ = some (.int .i64 kn) ∧ w'.cell? ⟨w.heap.size, 1, none⟩ = some (.int .i64 pkn) ∧ w'.cell? ⟨w.heap.size, 2, none⟩ = some (.string yn) ∧ w'.cell? ⟨w.heap.size, 3, none⟩ = some (.string mn) ∧ w'.cell? ⟨w.heap.size, 4, none⟩ = some (.string qn) ∧ w'.cell? ⟨w.heap.size, 5, none⟩ = some (.bool an) ∧ w'.cell? ⟨w.heap.size, 6, none⟩ = some (.bool tn) ∧ w'.cell? ⟨w.heap.size, 7, none⟩ = some (.slice adn ln.length cpn) ∧ Kp W0 w') (by kernel_rfl) ?_ (fun hHeld0 => ?_)
  · (try dsimp only); exact KS.out _ (by first | assumption | exact Kp.drew _)
  refine tkW (v := ?_) 0 risA0 rfl (by kernel_rfl) (by kernel_rfl) (by kernel_rfl) (fun _ _ _ h => h) (by rfl) ?_ (by assumption) ?_
  rotate_left
  · intro w hSw; (try dsimp only at hSw); go_simp; (try with_reducible rfl)
  (try simp only [Act.put, risA0, List.setIfInBounds_toArray, List.set_cons_zero, List.set_cons_succ])
  refine tkE 1 risA1 rfl (by kernel_rfl) (fun K hK => ?_)
  go_simp
  (refine (SN.out _ (K00.out.trans (K0.out.trans (by first | assumption | exact Kp.drew _)))).mono ?_; rintro e wa ⟨rfl, k1⟩; have k2 := Kp.trans (show Kp W0 _ from (by first | assumption | exact Kp.drew _)) k1; clear k1)
  (try go_wp2_with fail)
  refine hK.out _ _ ?_ (fun hHeld1 => ?_)
  · (try dsimp only); exact KS.out _ (by first | assumption | exact Kp.drew _)
  clear hK K hHeld0
  (try simp only [Act.put, risA1, List.setIfInBounds_toArray, List.set_cons_zero, List.set_cons_succ])
  refine tkW (v := ?_) 2 risA2 rfl (by kernel_rfl) (by kernel_rfl) (by kernel_rfl) (fun _ _ _ h => h) (by rfl) ?_ (by assumption) ?_
  rotate_left
  · intro w hSw; (try dsimp only at hSw); go_simp; (try with_reducible rfl)
  (try simp only [Act.put, risA2, List.setIfInBounds_toArray, List.set_cons_zero, List.set_cons_succ])
  refine tkU 3 risA3 rfl (by kernel_rfl) (by kernel_rfl) (by kernel_rfl) (fun _ _ _ h => h) (by rfl) (by assumption) ?_
  (try simp only [Act.put, risA3, List.setIfInBounds_toArray, List.set_cons_zero, List.set_cons_succ])
  refine tkU 4 risA4 rfl (by kernel_rfl) (by kernel_rfl) (by kernel_rfl) (fun _ _ _ h => h) (by rfl) (by assumption) ?_
  (try simp only [Act.put, risA4, List.setIfInBounds_toArray, List.set_cons_zero, List.set_cons_succ])
  refine tkU 5 risA5 rfl (by kernel_rfl) (by kernel_rfl) (by kernel_rfl) (fun _ _ _ h => h) (by rfl) (by assumption) ?_
  (try simp only [Act.put, risA5, List.setIfInBounds_toArray, List.set_cons_zero, List.set_cons_succ])
  refine tkU 6 risA6 rfl (by kernel_rfl) (by kernel_rfl) (by kernel_rfl) (fun _ _ _ h => h) (by rfl) (by assumption) ?_
  (try simp only [Act.put, risA6, List.setIfInBounds_toArray, List.set_cons_zero, List.set_cons_succ])
  refine tkW (v := ?_) 7 risA7 rfl (by kernel_rfl) (by kernel_rfl) (by kernel_rfl) (fun _ _ _ h => h) (by rfl) ?_ (by assumption) ?_
  rotate_left
  · intro w hSw; (try dsimp only at hSw); go_simp; (try with_reducible rfl)
  (try simp only [Act.put, risA7, List.setIfInBounds_toArray, List.set_cons_zero, List.set_cons_succ])
  refine tkW (v := ?_) 8 risA8 rfl (by kernel_rfl) (by kernel_rfl) (by kernel_rfl) (fun _ _ _ h => h) (by rfl) ?_ (by assumption) ?_
  rotate_left
  · intro w hSw; (try dsimp only at hSw); go_simp; (try with_reducible rfl)
  (try simp only [Act.put, risA8, List.setIfInBounds_toArray, List.set_cons_zero, List.set_cons_succ])
  refine wpAnyH_done (by kernel_rfl) ?_ _
  go_wp2
  go_ret
  exact ⟨rfl, K00.out.trans k2⟩
set_option maxHeartbeats 16000000 in
set_option maxRecDepth 100000 in
theorem ris_yes (n : ND) (un : Value) (w : World) (hn : NodesAt w un n.l) (hsh : shortN n = true) (hc : cntL n.l ≤ 2000000) (hs : saneN saneP n = true) :
    Calls Tryd.prog 14 #[ndV n un] w fun e w' => e = .returned (.bool (isN n)) ∧ Kp w w' := by
  have SN := Lib.hid (fun w1 (kk : Kp w w1) => rsaneN_any n un w1 (hn.kp kk) hsh hc)
  rw [hs] at SN
  have e1 : isN n = sameN (canF n) n := by rw [isN_yes hs, canF_yes hs]
  rw [e1]
  have CN := Lib.hid (fun w1 (kk : Kp w w1) => rcan12 n un w1 (hn.kp kk) hsh hc)
  have SM := Lib.hid (fun v w1 (kk : Kp w w1) (hv : NodesAt w1 v (canF n).l) => rsame12 (canF n) n v un w1 hv (hn.kp kk) (canF_cnt n))
  obtain ⟨r, hr⟩ : ∃ r, sameN (canF n) n = r := ⟨_, rfl⟩
  rw [hr] at SM ⊢
  generalize canF n = c at *
  obtain ⟨k1, pk1, y1, m1, s1, a1, t1, l1, rfl⟩ := nd_dest c
  clear hs e1 hr hsh hc
  obtain ⟨adn, cpn, rfl⟩ := hn.slice
  obtain ⟨kn, pkn, yn, mn, qn, an, tn, ln, rfl⟩ := nd_dest n
  unfold ndV at *
  simp only [ND.k, ND.p, ND.a, ND.t, ND.l] at *
  obtain ⟨W0, hW⟩ : ∃ W0, W0 = w.alloc (.cells #[.int .i64 kn, .int .i64 pkn, .string yn, .string mn, .string qn, .bool an, .bool tn, .slice adn ln.length cpn] 26) := ⟨_, rfl⟩
  have K00 := Lib.hid (show Kp w W0 by rw [hW]; exact Kp.alloc _ _)
  have HB := Lib.hid (fun w1 (k : Kp W0 w1) => show w1.cell? ⟨w.heap.size, 0, none⟩ = some (.int .i64 kn) ∧ w1.cell? ⟨w.heap.size, 1, none⟩ = some (.int .i64 pkn) ∧ w1.cell? ⟨w.heap.size, 2, none⟩ = some (.string yn) ∧ w1.cell? ⟨w.heap.size, 3, none⟩ = some (.string mn) ∧ w1.cell? ⟨w.heap.size, 4, none⟩ = some (.string qn) ∧ w1.cell? ⟨w.heap.size, 5, none⟩ = some (.bool an) ∧ w1.cell? ⟨w.heap.size, 6, none⟩ = some (.bool tn) ∧ w1.cell? ⟨w.heap.size, 7, none⟩ = some (.slice adn ln.length cpn) from ⟨cell_up k (show W0.cell? ⟨w.heap.size, 0, none⟩ = some (.int .i64 kn) by rw [hW]; simp), cell_up k (show W0.cell? ⟨w.heap.size, 1, none⟩ = some (.int .i64 pkn) by rw [hW]; simp), cell_up k (show W0.cell? ⟨w.heap.size, 2, none⟩ = some (.string yn) by rw [hW]; simp), cell_up k (show W0.cell? ⟨w.heap.size, 3, none⟩ = some (.string mn) by rw [hW]; simp), cell_up k (show W0.cell? ⟨w.heap.size, 4, none⟩ = some (.string qn) by rw [hW]; simp), cell_up k (show W0.cell? ⟨w.heap.size, 5, none⟩ = some (.bool an) by rw [hW]; simp), cell_up k (show W0.cell? ⟨w.heap.size, 6, none⟩ = some (.bool tn) by rw [hW]; simp), cell_up k (show W0.cell? ⟨w.heap.size, 7, none⟩ = some (.slice adn ln.length cpn) by rw [hW]; simp)⟩)
  obtain ⟨c0, c1, c2, c3, c4, c5, c6, c7⟩ := HB.out W0 (Kp.refl _)
  have K0 := Lib.hid (Kp.refl W0)
  have HW := Lib.hid hW
  clear hW
  go_enter Tryd.func14, Tryd.ntmps14
  go_wp2_with fail
  rw [← HW.out]
  have KS := Lib.hid (fun w' (kq : Kp W0 w') => show w'.cell? ⟨w.heap.size, 0, none⟩ = some (.int .i64 kn) ∧ w'.cell? ⟨w.heap.size, 1, none⟩ = some (.int .i64 pkn) ∧ w'.cell? ⟨w.heap.size, 2, none⟩ = some (.string yn) ∧ w'.cell? ⟨w.heap.size, 3, none⟩ = some (.string mn) ∧ w'.cell? ⟨w.heap.size, 4, none⟩ = some (.string qn) ∧ w'.cell? ⟨w.heap.size, 5, none⟩ = some (.bool an) ∧ w'.cell? ⟨w.heap.size, 6, none⟩ = some (.bool tn) ∧ w'.cell? ⟨w.heap.size, 7, none⟩ = some (.slice adn ln.length cpn) ∧ Kp W0 w' from ⟨(HB.out w' (K0.out.trans kq)).1, (HB.out w' (K0.out.trans kq)).2.1, (HB.out w' (K0.out.trans kq)).2.2.1, (HB.out w' (K0.out.trans kq)).2.2.2.1, (HB.out w' (K0.out.trans kq)).2.2.2.2.1, (HB.out w' (K0.out.trans kq)).2.2.2.2.2.1, (HB.out w' (K0.out.trans kq)).2.2.2.2.2.2.1, (HB.out w' (K0.out.trans kq)).2.2.2.2.2.2.2, kq⟩)
  (try go_wp2_with fail)
  refine wp_region_held_drew (S := fun w' => w'.cell? ⟨w.heap.size, 0, none⟩ = some (.int .i64 kn) ∧ w'.cell? ⟨w.heap.size, 1, none⟩ = some (.int .i64 pkn) ∧ w'.cell? ⟨w.heap.size, 2, none⟩ = some (.string yn) ∧ w'.cell? ⟨w.heap.size, 3, none⟩ = some (.string mn) ∧ w'.cell? ⟨w.heap.size, 4, none⟩ = some (.string qn) ∧ w'.cell? ⟨w.heap.size, 5, none⟩ = some (.bool an) ∧ w'.cell? ⟨w.heap.size, 6, none⟩ = some (.bool tn) ∧ w'.cell? ⟨w.heap.size, 7, none⟩ = some (.slice adn ln.length cpn) ∧ Kp W0 w') (by kernel_rfl) ?_ (fun hHeld0 => ?_)
  · (try dsimp only); exact KS.out _ (by first | assumption | exact Kp.drew _)
  refine tkW (v := ?_) 0 risA0 rfl (by kernel_rfl) (by kernel_rfl) (by kernel_rfl) (fun _ _ _ h => h) (by rfl) ?_ (by assumption) ?_
  rotate_left
  · intro w hSw; (try dsimp only at hSw); go_simp; (try with_reducible rfl)
  (try simp only [Act.put, risA0, List.setIfInBounds_toArray, List.set_cons_zero, List.set_cons_succ])
  refine tkE 1 risA1 rfl (by kernel_rfl) (fun K hK => ?_)
  go_simp
  (refine (SN.out _ (K00.out.trans (K0.out.trans (by first | assumption | exact Kp.drew _)))).mono ?_; rintro e wa ⟨rfl, k1⟩; have k2 := Kp.trans (show Kp W0 _ from (by first | assumption | exact Kp.drew _)) k1; clear k1)
  (try go_wp2_with fail)
  refine hK.out _ _ ?_ (fun hHeld1 => ?_)
  · (try dsimp only); exact KS.out _ (by first | assumption | exact Kp.drew _)
  clear hK K hHeld0
  (try simp only [Act.put, risA1, List.setIfInBounds_toArray, List.set_cons_zero, List.set_cons_succ])
  refine tkW (v := ?_) 2 risA2 rfl (by kernel_rfl) (by kernel_rfl) (by kernel_rfl) (fun _ _ _ h => h) (by rfl) ?_ (by assumption) ?_
  rotate_left
  · intro w hSw; (try dsimp only at hSw); go_simp; (try with_reducible rfl)
  (try simp only [Act.put, risA2, List.setIfInBounds_toArray, List.set_cons_zero, List.set_cons_succ])
  refine tkW (v := ?_) 3 risA3 rfl (by kernel_rfl) (by kernel_rfl) (by kernel_rfl) (fun _ _ _ h => h) (by rfl) ?_ (by assumption) ?_
  rotate_left
  · intro w hSw; (try dsimp only at hSw); go_simp; (try with_reducible rfl)
  (try simp only [Act.put, risA3, List.setIfInBounds_toArray, List.set_cons_zero, List.set_cons_succ])
  refine tkW (v := ?_) 5 risA5 rfl (by kernel_rfl) (by kernel_rfl) (by kernel_rfl) (fun _ _ _ h => h) (by rfl) ?_ (by assumption) ?_
  rotate_left
  · intro w hSw; (try dsimp only at hSw); go_simp; (try with_reducible rfl)
  (try simp only [Act.put, risA5, List.setIfInBounds_toArray, List.set_cons_zero, List.set_cons_succ])
  refine tkE 4 risA4 rfl (by kernel_rfl) (fun K hK => ?_)
  go_simp
  (refine (CN.out _ (K00.out.trans (K0.out.trans (by first | assumption | exact Kp.drew _)))).mono ?_; rintro e wb ⟨vc, rfl, hvc, k1⟩; have NV := Lib.hid hvc; obtain ⟨adc, cpc, rfl⟩ := hvc.slice; clear hvc; have k2 := Kp.trans (show Kp W0 _ from (by first | assumption | exact Kp.drew _)) k1; clear k1)
  (try go_wp2_with fail)
  refine hK.out _ _ ?_ (fun hHeld2 => ?_)
  · (try dsimp only); exact KS.out _ (by first | assumption | exact Kp.drew _)
  clear hK K hHeld1
  (try simp only [Act.put, risA4, List.setIfInBounds_toArray, List.set_cons_zero, List.set_cons_succ])
  refine tkE 6 risA6 rfl (by kernel_rfl) (fun K hK => ?_)
  go_simp
  (refine (SM.out _ _ (K00.out.trans (K0.out.trans (by first | assumption | exact Kp.drew _))) (NV.out.kp (by first | with_reducible exact Kp.refl _ | with_reducible exact Kp.alloc _ _ | with_reducible exact (Kp.alloc _ _).trans (Kp.alloc _ _) | with_reducible exact ((Kp.alloc _ _).trans (Kp.alloc _ _)).trans (Kp.alloc _ _) | with_reducible exact Kp.drew _ | with_reducible exact Kp.drewN _ _))).mono ?_; rintro e wc ⟨rfl, k1⟩; have k2 := Kp.trans (show Kp W0 _ from (by first | assumption | exact Kp.drew _)) k1; clear k1)
  (try go_wp2_with fail)
  refine hK.out _ _ ?_ (fun hHeld3 => ?_)
  · (try dsimp only); exact KS.out _ (by first | assumption | exact Kp.drew _)
  clear hK K hHeld2
  (try simp only [Act.put, risA6, List.setIfInBounds_toArray, List.set_cons_zero, List.set_cons_succ])
  refine tkW (v := ?_) 7 risA7 rfl (by kernel_rfl) (by kernel_rfl) (by kernel_rfl) (fun _ _ _ h => h) (by rfl) ?_ (by assumption) ?_
  rotate_left
  · intro w hSw; (try dsimp only at hSw); go_simp; (try with_reducible rfl)
  (try simp only [Act.put, risA7, List.setIfInBounds_toArray, List.set_cons_zero, List.set_cons_succ])
  refine tkW (v := ?_) 8 risA8 rfl (by kernel_rfl) (by kernel_rfl) (by kernel_rfl) (fun _ _ _ h => h) (by rfl) ?_ (by assumption) ?_
  rotate_left
  · intro w hSw; (try dsimp only at hSw); go_simp; (try with_reducible rfl)
  (try simp only [Act.put, risA8, List.setIfInBounds_toArray, List.set_cons_zero, List.set_cons_succ])
  refine wpAnyH_done (by kernel_rfl) ?_ _
  go_wp2
  go_ret
  exact ⟨rfl, K00.out.trans k2⟩
theorem ris_any (n : ND) (un : Value) (w : World) (hn : NodesAt w un n.l) (hsh : shortN n = true) (hc : cntL n.l ≤ 2000000) :
    Calls Tryd.prog 14 #[ndV n un] w fun e w' => e = .returned (.bool (isN n)) ∧ Kp w w' := by
  rcases Bool.eq_false_or_eq_true (saneN saneP n) with hs | hs
  · exact ris_yes n un w hn hsh hc hs
  · exact ris_no n un w hn hsh hc hs
abbrev lisA0 : Oper := { dst := some 9, op := Go.Op.move (Go.Operand.tmp 3), type := 4, pos := "law.go:27", after := #[], guard := none }
abbrev lisA1 : Oper := { dst := some 10, op := Go.Op.move (Go.Operand.tmp 9), type := 4, pos := "law.go:27", after := #[{ on := 0, ground := Go.Ground.data }], guard := none }
abbrev lisA2 : Oper := { dst := some 11, op := Go.Op.load 26 (Go.Operand.tmp 1), type := 26, pos := "law.go:27", after := #[{ on := 1, ground := Go.Ground.guard }], guard := some (1, true) }
abbrev lisA3 : Oper := { dst := some 12, op := Go.Op.call { callee := Go.Callee.value (Go.Operand.func 11), args := #[Go.Operand.tmp 11], argTypes := #[26] }, type := 26, pos := "law.go:27", after := #[{ on := 2, ground := Go.Ground.data }, { on := 1, ground := Go.Ground.chain }, { on := 1, ground := Go.Ground.guard }], guard := some (1, true) }
abbrev lisA4 : Oper := { dst := some 13, op := Go.Op.load 26 (Go.Operand.tmp 1), type := 26, pos := "law.go:27", after := #[{ on := 1, ground := Go.Ground.guard }], guard := some (1, true) }
abbrev lisA5 : Oper := { dst := some 14, op := Go.Op.call { callee := Go.Callee.value (Go.Operand.func 12), args := #[Go.Operand.tmp 13], argTypes := #[26] }, type := 26, pos := "law.go:27", after := #[{ on := 4, ground := Go.Ground.data }, { on := 3, ground := Go.Ground.chain }, { on := 1, ground := Go.Ground.guard }], guard := some (1, true) }
abbrev lisA6 : Oper := { dst := some 15, op := Go.Op.call { callee := Go.Callee.value (Go.Operand.func 10), args := #[Go.Operand.tmp 12, Go.Operand.tmp 14], argTypes := #[26, 26] }, type := 4, pos := "law.go:27", after := #[{ on := 3, ground := Go.Ground.data }, { on := 5, ground := Go.Ground.data }, { on := 5, ground := Go.Ground.chain }, { on := 1, ground := Go.Ground.guard }], guard := some (1, true) }
abbrev lisA7 : Oper := { dst := some 16, op := Go.Op.pick (Go.Operand.tmp 10) (Go.Operand.tmp 15) (Go.Operand.const (Go.Value.bool false)), type := 4, pos := "law.go:27", after := #[{ on := 1, ground := Go.Ground.data }, { on := 6, ground := Go.Ground.data }], guard := none }
abbrev lisA8 : Oper := { dst := some 17, op := Go.Op.move (Go.Operand.tmp 16), type := 4, pos := "law.go:27", after := #[{ on := 7, ground := Go.Ground.data }, { on := 6, ground := Go.Ground.chain }], guard := none }
abbrev lisA9 : Oper := { dst := some 18, op := Go.Op.load 26 (Go.Operand.tmp 1), type := 26, pos := "law.go:27", after := #[{ on := 8, ground := Go.Ground.guard }], guard := some (8, true) }
abbrev lisA10 : Oper := { dst := some 19, op := Go.Op.call { callee := Go.Callee.value (Go.Operand.func 13), args := #[Go.Operand.tmp 18], argTypes := #[26] }, type := 4, pos := "law.go:27", after := #[{ on := 9, ground := Go.Ground.data }, { on := 8, ground := Go.Ground.chain }, { on := 8, ground := Go.Ground.guard }], guard := some (8, true) }
abbrev lisA11 : Oper := { dst := some 20, op := Go.Op.load 26 (Go.Operand.tmp 1), type := 26, pos := "law.go:27", after := #[{ on := 8, ground := Go.Ground.guard }], guard := some (8, true) }
abbrev lisA12 : Oper := { dst := some 21, op := Go.Op.call { callee := Go.Callee.value (Go.Operand.func 14), args := #[Go.Operand.tmp 20], argTypes := #[26] }, type := 4, pos := "law.go:27", after := #[{ on := 11, ground := Go.Ground.data }, { on := 10, ground := Go.Ground.chain }, { on := 8, ground := Go.Ground.guard }], guard := some (8, true) }
abbrev lisA13 : Oper := { dst := some 22, op := Go.Op.binOp Go.BinOp.eql 4 (Go.Operand.tmp 19) (Go.Operand.tmp 21) 4, type := 4, pos := "law.go:27", after := #[{ on := 10, ground := Go.Ground.data }, { on := 12, ground := Go.Ground.data }, { on := 8, ground := Go.Ground.guard }], guard := some (8, true) }
abbrev lisA14 : Oper := { dst := some 23, op := Go.Op.pick (Go.Operand.tmp 17) (Go.Operand.tmp 22) (Go.Operand.const (Go.Value.bool false)), type := 4, pos := "law.go:27", after := #[{ on := 8, ground := Go.Ground.data }, { on := 13, ground := Go.Ground.data }], guard := none }
abbrev lisA15 : Oper := { dst := some 2, op := Go.Op.assign (Go.Operand.tmp 23), type := 4, pos := "law.go:27", after := #[{ on := 14, ground := Go.Ground.data }, { on := 12, ground := Go.Ground.chain }, { on := 0, ground := Go.Ground.phase }, { on := 1, ground := Go.Ground.phase }, { on := 2, ground := Go.Ground.phase }, { on := 3, ground := Go.Ground.phase }, { on := 4, ground := Go.Ground.phase }, { on := 5, ground := Go.Ground.phase }, { on := 6, ground := Go.Ground.phase }, { on := 7, ground := Go.Ground.phase }, { on := 8, ground := Go.Ground.phase }, { on := 9, ground := Go.Ground.phase }, { on := 10, ground := Go.Ground.phase }, { on := 11, ground := Go.Ground.phase }, { on := 12, ground := Go.Ground.phase }, { on := 13, ground := Go.Ground.phase }, { on := 14, ground := Go.Ground.phase }], guard := none }
set_option maxHeartbeats 16000000 in
set_option maxRecDepth 100000 in
theorem cois_no (n : ND) (un : Value) (w : World) (hn : NodesAt w un n.l) (T : TabSH w) (hc : cntL n.l ≤ 2000000) (hf : fewN n = false) :
    Calls Tryd.prog 3 #[ndV n un] w fun e w' => e = .returned (.bool true) ∧ Kp w w' := by
  have AW := Lib.hid (fun w1 (kk : Kp w w1) => awake12 w1 (T.kp kk))
  have FW := Lib.hid (fun w1 (kk : Kp w w1) => rfewN_any n un w1 (hn.kp kk) hc)
  rw [hf] at FW
  clear T hf hc
  obtain ⟨adn, cpn, rfl⟩ := hn.slice
  obtain ⟨kn, pkn, yn, mn, qn, an, tn, ln, rfl⟩ := nd_dest n
  unfold ndV at *
  simp only [ND.k, ND.p, ND.a, ND.t, ND.l] at *
  obtain ⟨W0, hW⟩ : ∃ W0, W0 = w.alloc (.cells #[.int .i64 kn, .int .i64 pkn, .string yn, .string mn, .string qn, .bool an, .bool tn, .slice adn ln.length cpn] 26) := ⟨_, rfl⟩
  have K00 := Lib.hid (show Kp w W0 by rw [hW]; exact Kp.alloc _ _)
  have HB := Lib.hid (fun w1 (k : Kp W0 w1) => show w1.cell? ⟨w.heap.size, 0, none⟩ = some (.int .i64 kn) ∧ w1.cell? ⟨w.heap.size, 1, none⟩ = some (.int .i64 pkn) ∧ w1.cell? ⟨w.heap.size, 2, none⟩ = some (.string yn) ∧ w1.cell? ⟨w.heap.size, 3, none⟩ = some (.string mn) ∧ w1.cell? ⟨w.heap.size, 4, none⟩ = some (.string qn) ∧ w1.cell? ⟨w.heap.size, 5, none⟩ = some (.bool an) ∧ w1.cell? ⟨w.heap.size, 6, none⟩ = some (.bool tn) ∧ w1.cell? ⟨w.heap.size, 7, none⟩ = some (.slice adn ln.length cpn) from ⟨cell_up k (show W0.cell? ⟨w.heap.size, 0, none⟩ = some (.int .i64 kn) by rw [hW]; simp), cell_up k (show W0.cell? ⟨w.heap.size, 1, none⟩ = some (.int .i64 pkn) by rw [hW]; simp), cell_up k (show W0.cell? ⟨w.heap.size, 2, none⟩ = some (.string yn) by rw [hW]; simp), cell_up k (show W0.cell? ⟨w.heap.size, 3, none⟩ = some (.string mn) by rw [hW]; simp), cell_up k (show W0.cell? ⟨w.heap.size, 4, none⟩ = some (.string qn) by rw [hW]; simp), cell_up k (show W0.cell? ⟨w.heap.size, 5, none⟩ = some (.bool an) by rw [hW]; simp), cell_up k (show W0.cell? ⟨w.heap.size, 6, none⟩ = some (.bool tn) by rw [hW]; simp), cell_up k (show W0.cell? ⟨w.heap.size, 7, none⟩ = some (.slice adn ln.length cpn) by rw [hW]; simp)⟩)
  obtain ⟨c0, c1, c2, c3, c4, c5, c6, c7⟩ := HB.out W0 (Kp.refl _)
  have K0 := Lib.hid (Kp.refl W0)
  have HW := Lib.hid hW
  clear hW
  go_enter Tryd.func3, Tryd.ntmps3
  go_wp2_with fail
  rw [← HW.out]
  refine (AW.out _ (K00.out.trans (by first | with_reducible exact K0.out | with_reducible exact K0.out.trans (Kp.alloc _ _) | with_reducible exact (K0.out.trans (Kp.alloc _ _)).trans (Kp.alloc _ _) | with_reducible exact ((K0.out.trans (Kp.alloc _ _)).trans (Kp.alloc _ _)).trans (Kp.alloc _ _) | with_reducible exact K0.out.trans (Kp.drew _) | with_reducible exact K0.out.trans (Kp.drewN _ _)))).mono ?_
  rintro e w1 ⟨rfl, kk⟩
  have K1 := Lib.hid ((show Kp W0 _ from (by first | with_reducible exact K0.out | with_reducible exact K0.out.trans (Kp.alloc _ _) | with_reducible exact (K0.out.trans (Kp.alloc _ _)).trans (Kp.alloc _ _) | with_reducible exact ((K0.out.trans (Kp.alloc _ _)).trans (Kp.alloc _ _)).trans (Kp.alloc _ _) | with_reducible exact K0.out.trans (Kp.drew _) | with_reducible exact K0.out.trans (Kp.drewN _ _))).trans kk)
  clear kk
  clear c0 c1 c2 c3 c4 c5 c6 c7
  obtain ⟨c0, c1, c2, c3, c4, c5, c6, c7⟩ := HB.out w1 K1.out
  go_wp2_with fail
  refine (FW.out _ (K00.out.trans (by first | with_reducible exact K1.out | with_reducible exact K1.out.trans (Kp.alloc _ _) | with_reducible exact (K1.out.trans (Kp.alloc _ _)).trans (Kp.alloc _ _) | with_reducible exact ((K1.out.trans (Kp.alloc _ _)).trans (Kp.alloc _ _)).trans (Kp.alloc _ _) | with_reducible exact K1.out.trans (Kp.drew _) | with_reducible exact K1.out.trans (Kp.drewN _ _)))).mono ?_
  rintro e w2 ⟨rfl, kk⟩
  have K2 := Lib.hid ((show Kp W0 _ from (by first | with_reducible exact K1.out | with_reducible exact K1.out.trans (Kp.alloc _ _) | with_reducible exact (K1.out.trans (Kp.alloc _ _)).trans (Kp.alloc _ _) | with_reducible exact ((K1.out.trans (Kp.alloc _ _)).trans (Kp.alloc _ _)).trans (Kp.alloc _ _) | with_reducible exact K1.out.trans (Kp.drew _) | with_reducible exact K1.out.trans (Kp.drewN _ _))).trans kk)
  clear kk
  clear c0 c1 c2 c3 c4 c5 c6 c7
  obtain ⟨c0, c1, c2, c3, c4, c5, c6, c7⟩ := HB.out w2 K2.out
  go_wp2
  go_ret
  exact ⟨rfl, K00.out.trans K2.out⟩
set_option maxHeartbeats 16000000 in
set_option maxRecDepth 100000 in
theorem cois_yes (n : ND) (un : Value) (w : World) (hn : NodesAt w un n.l) (T : TabSH w) (hc : cntL n.l ≤ 2000000) (hf : fewN n = true) :
    Calls Tryd.prog 3 #[ndV n un] w fun e w' => e = .returned (.bool true) ∧ Kp w w' := by
  have AW := Lib.hid (fun w1 (kk : Kp w w1) => awake12 w1 (T.kp kk))
  have FW := Lib.hid (fun w1 (kk : Kp w w1) => rfewN_any n un w1 (hn.kp kk) hc)
  rw [hf] at FW
  have hsh := few_short12 hf
  have CN := Lib.hid (fun w1 (kk : Kp w w1) => ccan_any n un w1 (hn.kp kk) (T.kp kk))
  have RN := Lib.hid (fun w1 (kk : Kp w w1) => rcan12 n un w1 (hn.kp kk) hsh hc)
  have IC := Lib.hid (fun w1 (kk : Kp w w1) => cis_any n un w1 (hn.kp kk) (T.kp kk))
  have IR := Lib.hid (fun w1 (kk : Kp w w1) => ris_any n un w1 (hn.kp kk) hsh hc)
  have SM := Lib.hid (fun v u w1 (hv : NodesAt w1 v (canF n).l) (hu : NodesAt w1 u (canF n).l) => tSame_any (canF n) (canF n) v u w1 hv hu (by have := canF_cnt n; omega))
  rw [same_refl] at SM
  obtain ⟨r, hr⟩ : ∃ r, isN n = r := ⟨_, rfl⟩
  rw [hr] at IC IR
  generalize canF n = c at *
  obtain ⟨k1, pk1, y1, m1, s1, a1, t1, l1, rfl⟩ := nd_dest c
  have rr : (r == r) = true := by simp
  clear hf hr hsh hc T
  obtain ⟨adn, cpn, rfl⟩ := hn.slice
  obtain ⟨kn, pkn, yn, mn, qn, an, tn, ln, rfl⟩ := nd_dest n
  unfold ndV at *
  simp only [ND.k, ND.p, ND.a, ND.t, ND.l] at *
  obtain ⟨W0, hW⟩ : ∃ W0, W0 = w.alloc (.cells #[.int .i64 kn, .int .i64 pkn, .string yn, .string mn, .string qn, .bool an, .bool tn, .slice adn ln.length cpn] 26) := ⟨_, rfl⟩
  have K00 := Lib.hid (show Kp w W0 by rw [hW]; exact Kp.alloc _ _)
  have HB := Lib.hid (fun w1 (k : Kp W0 w1) => show w1.cell? ⟨w.heap.size, 0, none⟩ = some (.int .i64 kn) ∧ w1.cell? ⟨w.heap.size, 1, none⟩ = some (.int .i64 pkn) ∧ w1.cell? ⟨w.heap.size, 2, none⟩ = some (.string yn) ∧ w1.cell? ⟨w.heap.size, 3, none⟩ = some (.string mn) ∧ w1.cell? ⟨w.heap.size, 4, none⟩ = some (.string qn) ∧ w1.cell? ⟨w.heap.size, 5, none⟩ = some (.bool an) ∧ w1.cell? ⟨w.heap.size, 6, none⟩ = some (.bool tn) ∧ w1.cell? ⟨w.heap.size, 7, none⟩ = some (.slice adn ln.length cpn) from ⟨cell_up k (show W0.cell? ⟨w.heap.size, 0, none⟩ = some (.int .i64 kn) by rw [hW]; simp), cell_up k (show W0.cell? ⟨w.heap.size, 1, none⟩ = some (.int .i64 pkn) by rw [hW]; simp), cell_up k (show W0.cell? ⟨w.heap.size, 2, none⟩ = some (.string yn) by rw [hW]; simp), cell_up k (show W0.cell? ⟨w.heap.size, 3, none⟩ = some (.string mn) by rw [hW]; simp), cell_up k (show W0.cell? ⟨w.heap.size, 4, none⟩ = some (.string qn) by rw [hW]; simp), cell_up k (show W0.cell? ⟨w.heap.size, 5, none⟩ = some (.bool an) by rw [hW]; simp), cell_up k (show W0.cell? ⟨w.heap.size, 6, none⟩ = some (.bool tn) by rw [hW]; simp), cell_up k (show W0.cell? ⟨w.heap.size, 7, none⟩ = some (.slice adn ln.length cpn) by rw [hW]; simp)⟩)
  obtain ⟨c0, c1, c2, c3, c4, c5, c6, c7⟩ := HB.out W0 (Kp.refl _)
  have K0 := Lib.hid (Kp.refl W0)
  have HW := Lib.hid hW
  clear hW
  go_enter Tryd.func3, Tryd.ntmps3
  go_wp2_with fail
  rw [← HW.out]
  refine (AW.out _ (K00.out.trans (by first | with_reducible exact K0.out | with_reducible exact K0.out.trans (Kp.alloc _ _) | with_reducible exact (K0.out.trans (Kp.alloc _ _)).trans (Kp.alloc _ _) | with_reducible exact ((K0.out.trans (Kp.alloc _ _)).trans (Kp.alloc _ _)).trans (Kp.alloc _ _) | with_reducible exact K0.out.trans (Kp.drew _) | with_reducible exact K0.out.trans (Kp.drewN _ _)))).mono ?_
  rintro e w1 ⟨rfl, kk⟩
  have K1 := Lib.hid ((show Kp W0 _ from (by first | with_reducible exact K0.out | with_reducible exact K0.out.trans (Kp.alloc _ _) | with_reducible exact (K0.out.trans (Kp.alloc _ _)).trans (Kp.alloc _ _) | with_reducible exact ((K0.out.trans (Kp.alloc _ _)).trans (Kp.alloc _ _)).trans (Kp.alloc _ _) | with_reducible exact K0.out.trans (Kp.drew _) | with_reducible exact K0.out.trans (Kp.drewN _ _))).trans kk)
  clear kk
  clear c0 c1 c2 c3 c4 c5 c6 c7
  obtain ⟨c0, c1, c2, c3, c4, c5, c6, c7⟩ := HB.out w1 K1.out
  go_wp2_with fail
  refine (FW.out _ (K00.out.trans (by first | with_reducible exact K1.out | with_reducible exact K1.out.trans (Kp.alloc _ _) | with_reducible exact (K1.out.trans (Kp.alloc _ _)).trans (Kp.alloc _ _) | with_reducible exact ((K1.out.trans (Kp.alloc _ _)).trans (Kp.alloc _ _)).trans (Kp.alloc _ _) | with_reducible exact K1.out.trans (Kp.drew _) | with_reducible exact K1.out.trans (Kp.drewN _ _)))).mono ?_
  rintro e w2 ⟨rfl, kk⟩
  have K2 := Lib.hid ((show Kp W0 _ from (by first | with_reducible exact K1.out | with_reducible exact K1.out.trans (Kp.alloc _ _) | with_reducible exact (K1.out.trans (Kp.alloc _ _)).trans (Kp.alloc _ _) | with_reducible exact ((K1.out.trans (Kp.alloc _ _)).trans (Kp.alloc _ _)).trans (Kp.alloc _ _) | with_reducible exact K1.out.trans (Kp.drew _) | with_reducible exact K1.out.trans (Kp.drewN _ _))).trans kk)
  clear kk
  clear c0 c1 c2 c3 c4 c5 c6 c7
  obtain ⟨c0, c1, c2, c3, c4, c5, c6, c7⟩ := HB.out w2 K2.out
  have KS := Lib.hid (fun w' (kq : Kp w2 w') => show w'.cell? ⟨w.heap.size, 0, none⟩ = some (.int .i64 kn) ∧ w'.cell? ⟨w.heap.size, 1, none⟩ = some (.int .i64 pkn) ∧ w'.cell? ⟨w.heap.size, 2, none⟩ = some (.string yn) ∧ w'.cell? ⟨w.heap.size, 3, none⟩ = some (.string mn) ∧ w'.cell? ⟨w.heap.size, 4, none⟩ = some (.string qn) ∧ w'.cell? ⟨w.heap.size, 5, none⟩ = some (.bool an) ∧ w'.cell? ⟨w.heap.size, 6, none⟩ = some (.bool tn) ∧ w'.cell? ⟨w.heap.size, 7, none⟩ = some (.slice adn ln.length cpn) ∧ Kp w2 w' from ⟨(HB.out w' (K2.out.trans kq)).1, (HB.out w' (K2.out.trans kq)).2.1, (HB.out w' (K2.out.trans kq)).2.2.1, (HB.out w' (K2.out.trans kq)).2.2.2.1, (HB.out w' (K2.out.trans kq)).2.2.2.2.1, (HB.out w' (K2.out.trans kq)).2.2.2.2.2.1, (HB.out w' (K2.out.trans kq)).2.2.2.2.2.2.1, (HB.out w' (K2.out.trans kq)).2.2.2.2.2.2.2, kq⟩)
  go_wp2_with fail
  refine wp_region_held_drew (S := fun w' => w'.cell? ⟨w.heap.size, 0, none⟩ = some (.int .i64 kn) ∧ w'.cell? ⟨w.heap.size, 1, none⟩ = some (.int .i64 pkn) ∧ w'.cell? ⟨w.heap.size, 2, none⟩ = some (.string yn) ∧ w'.cell? ⟨w.heap.size, 3, none⟩ = some (.string mn) ∧ w'.cell? ⟨w.heap.size, 4, none⟩ = some (.string qn) ∧ w'.cell? ⟨w.heap.size, 5, none⟩ = some (.bool an) ∧ w'.cell? ⟨w.heap.size, 6, none⟩ = some (.bool tn) ∧ w'.cell? ⟨w.heap.size, 7, none⟩ = some (.slice adn ln.length cpn) ∧ Kp w2 w') (by kernel_rfl) ?_ (fun hHeld0 => ?_)
  · (try dsimp only); exact KS.out _ (by first | assumption | exact Kp.drew _)
  refine tkW (v := ?_) 0 lisA0 rfl (by kernel_rfl) (by kernel_rfl) (by kernel_rfl) (fun _ _ _ h => h) (by rfl) ?_ (by assumption) ?_
  rotate_left
  · intro w hSw; (try dsimp only at hSw); go_simp; (try with_reducible rfl)
  (try simp only [Act.put, lisA0, List.setIfInBounds_toArray, List.set_cons_zero, List.set_cons_succ])
  refine tkW (v := ?_) 1 lisA1 rfl (by kernel_rfl) (by kernel_rfl) (by kernel_rfl) (fun _ _ _ h => h) (by rfl) ?_ (by assumption) ?_
  rotate_left
  · intro w hSw; (try dsimp only at hSw); go_simp; (try with_reducible rfl)
  (try simp only [Act.put, lisA1, List.setIfInBounds_toArray, List.set_cons_zero, List.set_cons_succ])
  refine tkW (v := ?_) 2 lisA2 rfl (by kernel_rfl) (by kernel_rfl) (by kernel_rfl) (fun _ _ _ h => h) (by rfl) ?_ (by assumption) ?_
  rotate_left
  · intro w hSw; (try dsimp only at hSw); go_simp; (try with_reducible rfl)
  (try simp only [Act.put, lisA2, List.setIfInBounds_toArray, List.set_cons_zero, List.set_cons_succ])
  refine tkW (v := ?_) 4 lisA4 rfl (by kernel_rfl) (by kernel_rfl) (by kernel_rfl) (fun _ _ _ h => h) (by rfl) ?_ (by assumption) ?_
  rotate_left
  · intro w hSw; (try dsimp only at hSw); go_simp; (try with_reducible rfl)
  (try simp only [Act.put, lisA4, List.setIfInBounds_toArray, List.set_cons_zero, List.set_cons_succ])
  refine tkE 3 lisA3 rfl (by kernel_rfl) (fun K hK => ?_)
  go_simp
  (refine (CN.out _ (K00.out.trans (K2.out.trans (by first | assumption | exact Kp.drew _)))).mono ?_; rintro e wa ⟨vc, rfl, hvc, k1⟩; have NV := Lib.hid hvc; obtain ⟨adc, cpc, rfl⟩ := hvc.slice; clear hvc; have k2 := Kp.trans (show Kp w2 _ from (by first | assumption | exact Kp.drew _)) k1; clear k1)
  (try go_wp2_with fail)
  refine hK.out _ _ ?_ (fun hHeld1 => ?_)
  · (try dsimp only); exact KS.out _ (by first | assumption | exact Kp.drew _)
  clear hK K hHeld0
  (try simp only [Act.put, lisA3, List.setIfInBounds_toArray, List.set_cons_zero, List.set_cons_succ])
  refine tkE 5 lisA5 rfl (by kernel_rfl) (fun K hK => ?_)
  go_simp
  (refine (RN.out _ (K00.out.trans (K2.out.trans (by first | assumption | exact Kp.drew _)))).mono ?_; rintro e wb ⟨vd, rfl, hvd, k1⟩; have NV2 := Lib.hid (NV.out.kp (Kp.trans (show Kp wa _ from (by first | with_reducible exact Kp.refl _ | with_reducible exact Kp.alloc _ _ | with_reducible exact (Kp.alloc _ _).trans (Kp.alloc _ _) | with_reducible exact ((Kp.alloc _ _).trans (Kp.alloc _ _)).trans (Kp.alloc _ _) | with_reducible exact Kp.drew _ | with_reducible exact Kp.drewN _ _)) k1)); have NW := Lib.hid hvd; obtain ⟨add, cpd, rfl⟩ := hvd.slice; clear hvd; have k2 := Kp.trans (show Kp w2 _ from (by first | assumption | exact Kp.drew _)) k1; clear k1)
  (try go_wp2_with fail)
  refine hK.out _ _ ?_ (fun hHeld2 => ?_)
  · (try dsimp only); exact KS.out _ (by first | assumption | exact Kp.drew _)
  clear hK K hHeld1
  (try simp only [Act.put, lisA5, List.setIfInBounds_toArray, List.set_cons_zero, List.set_cons_succ])
  refine tkE 6 lisA6 rfl (by kernel_rfl) (fun K hK => ?_)
  go_simp
  (refine (SM.out _ _ _ (NV2.out.kp (by first | with_reducible exact Kp.refl _ | with_reducible exact Kp.alloc _ _ | with_reducible exact (Kp.alloc _ _).trans (Kp.alloc _ _) | with_reducible exact ((Kp.alloc _ _).trans (Kp.alloc _ _)).trans (Kp.alloc _ _) | with_reducible exact Kp.drew _ | with_reducible exact Kp.drewN _ _)) (NW.out.kp (by first | with_reducible exact Kp.refl _ | with_reducible exact Kp.alloc _ _ | with_reducible exact (Kp.alloc _ _).trans (Kp.alloc _ _) | with_reducible exact ((Kp.alloc _ _).trans (Kp.alloc _ _)).trans (Kp.alloc _ _) | with_reducible exact Kp.drew _ | with_reducible exact Kp.drewN _ _))).mono ?_; rintro e wc ⟨rfl, k1⟩; have k2 := Kp.trans (show Kp w2 _ from (by first | assumption | exact Kp.drew _)) k1; clear k1)
  (try go_wp2_with fail)
  refine hK.out _ _ ?_ (fun hHeld3 => ?_)
  · (try dsimp only); exact KS.out _ (by first | assumption | exact Kp.drew _)
  clear hK K hHeld2
  (try simp only [Act.put, lisA6, List.setIfInBounds_toArray, List.set_cons_zero, List.set_cons_succ])
  refine tkW (v := ?_) 7 lisA7 rfl (by kernel_rfl) (by kernel_rfl) (by kernel_rfl) (fun _ _ _ h => h) (by rfl) ?_ (by assumption) ?_
  rotate_left
  · intro w hSw; (try dsimp only at hSw); go_simp; (try with_reducible rfl)
  (try simp only [Act.put, lisA7, List.setIfInBounds_toArray, List.set_cons_zero, List.set_cons_succ])
  refine tkW (v := ?_) 8 lisA8 rfl (by kernel_rfl) (by kernel_rfl) (by kernel_rfl) (fun _ _ _ h => h) (by rfl) ?_ (by assumption) ?_
  rotate_left
  · intro w hSw; (try dsimp only at hSw); go_simp; (try with_reducible rfl)
  (try simp only [Act.put, lisA8, List.setIfInBounds_toArray, List.set_cons_zero, List.set_cons_succ])
  refine tkW (v := ?_) 9 lisA9 rfl (by kernel_rfl) (by kernel_rfl) (by kernel_rfl) (fun _ _ _ h => h) (by rfl) ?_ (by assumption) ?_
  rotate_left
  · intro w hSw; (try dsimp only at hSw); go_simp; (try with_reducible rfl)
  (try simp only [Act.put, lisA9, List.setIfInBounds_toArray, List.set_cons_zero, List.set_cons_succ])
  refine tkW (v := ?_) 11 lisA11 rfl (by kernel_rfl) (by kernel_rfl) (by kernel_rfl) (fun _ _ _ h => h) (by rfl) ?_ (by assumption) ?_
  rotate_left
  · intro w hSw; (try dsimp only at hSw); go_simp; (try with_reducible rfl)
  (try simp only [Act.put, lisA11, List.setIfInBounds_toArray, List.set_cons_zero, List.set_cons_succ])
  refine tkE 10 lisA10 rfl (by kernel_rfl) (fun K hK => ?_)
  go_simp
  (refine (IC.out _ (K00.out.trans (K2.out.trans (by first | assumption | exact Kp.drew _)))).mono ?_; rintro e wd ⟨rfl, k1⟩; have k2 := Kp.trans (show Kp w2 _ from (by first | assumption | exact Kp.drew _)) k1; clear k1)
  (try go_wp2_with fail)
  refine hK.out _ _ ?_ (fun hHeld4 => ?_)
  · (try dsimp only); exact KS.out _ (by first | assumption | exact Kp.drew _)
  clear hK K hHeld3
  (try simp only [Act.put, lisA10, List.setIfInBounds_toArray, List.set_cons_zero, List.set_cons_succ])
  refine tkE 12 lisA12 rfl (by kernel_rfl) (fun K hK => ?_)
  go_simp
  (refine (IR.out _ (K00.out.trans (K2.out.trans (by first | assumption | exact Kp.drew _)))).mono ?_; rintro e we ⟨rfl, k1⟩; have k2 := Kp.trans (show Kp w2 _ from (by first | assumption | exact Kp.drew _)) k1; clear k1)
  (try go_wp2_with fail)
  refine hK.out _ _ ?_ (fun hHeld5 => ?_)
  · (try dsimp only); exact KS.out _ (by first | assumption | exact Kp.drew _)
  clear hK K hHeld4
  (try simp only [Act.put, lisA12, List.setIfInBounds_toArray, List.set_cons_zero, List.set_cons_succ])
  refine tkW (v := ?_) 13 lisA13 rfl (by kernel_rfl) (by kernel_rfl) (by kernel_rfl) (fun _ _ _ h => h) (by rfl) ?_ (by assumption) ?_
  rotate_left
  · intro w hSw; (try dsimp only at hSw); go_simp; (try with_reducible rfl)
  (try simp only [Act.put, lisA13, List.setIfInBounds_toArray, List.set_cons_zero, List.set_cons_succ])
  refine tkW (v := ?_) 14 lisA14 rfl (by kernel_rfl) (by kernel_rfl) (by kernel_rfl) (fun _ _ _ h => h) (by rfl) ?_ (by assumption) ?_
  rotate_left
  · intro w hSw; (try dsimp only at hSw); go_simp; (try with_reducible rfl)
  (try simp only [Act.put, lisA14, List.setIfInBounds_toArray, List.set_cons_zero, List.set_cons_succ])
  refine tkW (v := ?_) 15 lisA15 rfl (by kernel_rfl) (by kernel_rfl) (by kernel_rfl) (fun _ _ _ h => h) (by rfl) ?_ (by assumption) ?_
  rotate_left
  · intro w hSw; (try dsimp only at hSw); go_simp; (try with_reducible rfl)
  (try simp only [Act.put, lisA15, List.setIfInBounds_toArray, List.set_cons_zero, List.set_cons_succ])
  refine wpAnyH_done (by kernel_rfl) ?_ _
  go_wp2
  go_ret
  exact ⟨rfl, K00.out.trans (K2.out.trans k2)⟩
theorem canonIs_walk (n : ND) (un : Value) (w : World) (hn : NodesAt w un n.l) (bn : wgtN n ≤ 1048576) (T : TabSH w) :
    Calls Tryd.prog 3 #[ndV n un] w fun e w' => e = .returned (.bool true) ∧ Kp w w' := by
  have cn : cntL n.l ≤ 2000000 := by
    obtain ⟨k, pk, y, q, d, a, t, l, rfl⟩ := nd_dest n
    exact cntL_of_wgt bn
  rcases Bool.eq_false_or_eq_true (fewN n) with hf | hf
  · exact cois_yes n un w hn T cn hf
  · exact cois_no n un w hn T cn hf
end Go.Proofs.YtgmigeehfhkimaaDoor

namespace Go.Proofs.YtgmigeehfhkimaaDoor.lawCanonIs
open Go.ChangeShapes Go.WideShapes Go.ChangeAt Go.RowKit
open Go.ChangeMaps (open_string shut_string)
set_option linter.unusedVariables false

theorem own : ownKnob Tryd.prog.godebug = none := by kernel_rfl
theorem laidOut : laidOutB Tryd.prog = true := by kernel_rfl

/-- A world for the witness: the settled one, each table holding what its initialiser lays. -/
noncomputable def laidWorld (os : Os) : World :=
  { World.holding Tryd.prog os ⟨#[], #[], []⟩ with heap := ((World.holding Tryd.prog os ⟨#[], #[], []⟩).heap.modify 0 fun
      | .cells _ t frozen => .cells #[.int .i64 4, .int .i64 2, .int .i64 2, .int .i64 12, .string ⟨#[]⟩, .int .i64 4, .int .i64 2, .int .i64 0, .int .i64 12, .string ⟨#[]⟩, .int .i64 4, .int .i64 1, .int .i64 0, .int .i64 4, .string ⟨#[]⟩, .int .i64 4, .int .i64 0, .int .i64 0, .int .i64 0, .string ⟨#[]⟩, .int .i64 3, .int .i64 0, .int .i64 0, .int .i64 0, .string ⟨#[100]⟩, .int .i64 2, .int .i64 0, .int .i64 0, .int .i64 0, .string ⟨#[99]⟩] t frozen
      | o => o) }
theorem laid_met (os : Os) : laidMet Tryd.prog Rows.canonIsUptoRow.laid ((laidWorld os).forCall (fun _ _ => 0) ⟨#[], #[.agg #[.int .i64 0, .int .i64 0, .string ByteArray.empty, .string ByteArray.empty, .string ByteArray.empty, .bool false, .bool false, .slice none 0 0]], []⟩).memory :=
  laidMet_of_run' 8 (by kernel_rfl) (by kernel_rfl)
theorem reads (os : Os) {H : Type} (enc : TypeId × Value → H) : ∃ places, DataW.whole enc Tryd.prog ((laidWorld os).forCall (fun _ _ => 0) ⟨#[], #[.agg #[.int .i64 0, .int .i64 0, .string ByteArray.empty, .string ByteArray.empty, .string ByteArray.empty, .bool false, .bool false, .slice none 0 0]], []⟩).memory Tryd.f3.params.toList Rows.canonIsSpec.vars false (#[.agg #[.int .i64 0, .int .i64 0, .string ByteArray.empty, .string ByteArray.empty, .string ByteArray.empty, .bool false, .bool false, .slice none 0 0]] : Array Value).toList 8 = some ([.agg [.lit (.int .i64 0), .agg [.lit (.int .i64 0), .lit (.string []), .lit (.string []), .lit (.string [])], .lit (.bool false), .lit (.bool false), .nil]], [], places) :=
  ⟨[], by kernel_rfl⟩

set_option maxRecDepth 100000 in
theorem contract (H : Type) (enc : TypeId × Value → H) (W : World) (base : Nat) (args : Array Value) (ds gs : List (DataW H)) (before : List MemPlace)
    (hval : ∀ (j : Nat) t v, Tryd.f3.params[j]? = some t → args[j]? = some v → Value.okWide Tryd.prog W .any base t v)
    (hW : DataW.Whole enc Tryd.prog Tryd.f3.params.toList Rows.canonIsSpec.vars false W args.toList ds gs before) (hL : laidMetH Tryd.prog Rows.canonIsUptoRow.laid W) (hsm : Rows.uptoBulkAll (ds ++ gs) ≤ 1048576) :
    Calls Tryd.prog 3 args W fun e W' => ∃ v, e = .returned v ∧ Rows.canonIsSpec.post enc Tryd.prog Tryd.f3 false true false false W args v W' := by
  have hW' := hW
  have hltA : ∀ x ∈ before, x.block < W.heap.size := fun x hx => by simpa using hW'.lt x hx
  obtain ⟨p, q, hA0, hV, rfl, hfz, hnd⟩ := hW
  have hA : DataW.TrodAll enc Tryd.prog W 0 (fun _ => true) true Tryd.f3.params.toList args.toList ds p := hA0
  rw [Tryd.params3] at hA hval
  obtain ⟨v0, vs0, d0, ds0, p0, q0, hargs, rfl, rfl, h0, r0⟩ := trodAll_cons hA
  obtain ⟨rfl, rfl, rfl⟩ := trodAll_nil r0
  obtain rfl : args = #[v0] := by cases args; simp_all
  obtain ⟨rfl, rfl⟩ := trodVars_none hV
  have hk0 := h0
  obtain ⟨n0, u0, rfl, hn0, gn0, wg0⟩ := open_node (hval 0 26 v0 rfl rfl) h0
  clear hA0
  simp only [List.append_nil] at hW'
  simp only [List.append_nil, Rows.uptoBulkAll] at hsm
  refine (canonIs_walk n0 u0 W hn0 (by omega) (tabs_of1 hL)).mono fun e W' ⟨he, hg⟩ => ?_
  subst he
  have bel : Below W.heap.size W W' := hg
  exact ⟨_, rfl, _, _, _, [], _, [], hW', trodAll_mk1 (shut_bool Tryd.underlying4 _), (trodAll_cons_mk (Below.trod laidOut (by kernel_rfl) (of_decide_eq_true (by kernel_rfl)) hk0 bel (fun x hx => hltA x (by simp [hx]))) trodAll_mk0), rfl, bel.frame _, fun h => by cases h⟩

set_option maxRecDepth 100000 in
theorem lifted (os : Os) (started : os.Started) (H : Type) (enc : TypeId × Value → H) (F : Stop.Interp) :
    ReturnsInHanded {} Tryd.checked os 3 .any ((Rows.OpenSpec.upto Rows.canonIsSpec).preRow enc Tryd.prog Tryd.f3 Rows.canonIsUptoRow.domain false Rows.canonIsUptoRow.laid) (((Rows.OpenSpec.upto Rows.canonIsSpec).at F).post enc Tryd.prog Tryd.f3 false true false false) := by
  obtain ⟨places, hx⟩ := reads os enc
  refine returnsInHanded_of_row (C := Tryd.checked) (s := Rows.OpenSpec.upto Rows.canonIsSpec) own started (by kernel_rfl) Tryd.func3
    (witness_row_at (enc := enc) (C := Tryd.checked) false (laidWorld os) #[.agg #[.int .i64 0, .int .i64 0, .string ByteArray.empty, .string ByteArray.empty, .string ByteArray.empty, .bool false, .bool false, .slice none 0 0]] rfl (by kernel_rfl) (by kernel_rfl) (by kernel_rfl)
      (OpenSpec.preRow_of_cond 8 hx (by kernel_rfl) (fun k hk => by cases hk; kernel_rfl) (by kernel_rfl) (laid_met os))) ?_
  intro W base args ds gs before hval hW _ hcond _ hL _ _
  exact contract H enc W base args ds gs before hval hW hL (by have h := hcond _ rfl; exact of_decide_eq_true h)

theorem said : Rows.CanonIsUptoSaid :=
  OpenClaim.holds_of_cond 3 Tryd.f3 rfl rfl rfl rfl rfl rfl rfl ⟨rfl, rfl, rfl, rfl, rfl⟩ rfl rfl rfl rfl rfl (by kernel_rfl) Tryd.func3 (by kernel_rfl)
    (of_decide_eq_true (by kernel_rfl)) (by unfold Func.isWrapper; first | (rw [if_pos (by decide +kernel)]; kernel_rfl) | (rw [if_neg (by decide +kernel)]; exact ⟨rfl, rfl⟩))
    (fun os started H enc _ F => by rw [OpenClaim.pre_eq_preRow]; exact lifted os started H enc F)

theorem plain (f : FuncId) (fn : Func) (hf : Tryd.pinned.checked.prog.funcNamed "lustrum/lustrumlaw12.CanonIs" = some f) (hfn : Tryd.pinned.checked.prog.funcs[f]? = some fn) :
    true = Tryd.pinned.checked.prog.looks [] ∧ ∀ (j : Nat) t, fn.params[j]? = some t → Tryd.pinned.checked.prog.wantsStandIn t = false := by
  obtain rfl : f = 3 := Option.some.inj ((show Tryd.prog.funcNamed "lustrum/lustrumlaw12.CanonIs" = some 3 by kernel_rfl).symm.trans hf) |>.symm
  obtain rfl : fn = Tryd.f3 := (Option.some.inj (Tryd.func3.symm.trans hfn)).symm
  refine ⟨by kernel_rfl, fun j t ht => ?_⟩
  rw [Tryd.params3] at ht
  have hm := Array.mem_of_getElem? ht
  have ho : t = 26 := by first | simpa using hm | (simp at hm; rcases hm with h <;> simp [h])
  subst ho
  exact (show Tryd.prog.wantsStandIn 26 = false by kernel_rfl)

/-- THE CARD. -/
theorem proved : Rows.CanonIsUptoCardSaid :=
  Claim7.holds_tied_plain_at .later [] _ _ _ _ said (fun _ h => by cases h) (by kernel_rfl) (fun _ h => by cases h) canonIsUpto_row_tie rfl ⟨rfl, rfl⟩ (by kernel_rfl) rfl plain (by kernel_rfl)
#print axioms proved
end Go.Proofs.YtgmigeehfhkimaaDoor.lawCanonIs
