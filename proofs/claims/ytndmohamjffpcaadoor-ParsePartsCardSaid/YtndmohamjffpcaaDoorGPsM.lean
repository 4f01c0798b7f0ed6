/-
  Joined: PsM, PsN, PsO, PsP.
-/
import Derived.Test.YtndmohamjffpcaaDoorGCnB
import Derived.Test.YtndmohamjffpcaaDoorGPsA
import Derived.Test.YtndmohamjffpcaaDoorGLeafA
import Derived.Test.YtndmohamjffpcaaDoorGOrdA
namespace Go.Proofs.YtndmohamjffpcaaDoor
open Go.RowKit Go.Shelf
set_option linter.unusedVariables false
set_option linter.unusedSimpArgs false
/-- a tree of nodes in rows of the call's own that do not stand open -/
inductive Fnd (w : World) (base : Nat) (O : Nat → Prop) : Value → List ND → Prop
  | row (v : Value) (m : List NV) (own : w.ownsRow base 26 8 v m.length (cellsN m)) (off : ∀ j, v.ownBlock = some j → ¬ O j) (sub : ∀ p ∈ m, Fnd w base O p.2 p.1.l) : Fnd w base O v (m.map Prod.fst)
theorem Fnd.nil (w : World) (base : Nat) (O : Nat → Prop) : Fnd w base O (.slice none 0 0) [] :=
  .row (.slice none 0 0) [] (World.ownsRow_nil _ _ _ _) (fun j hj => by cases hj) (fun p hp => by cases hp)
theorem Fnd.nodes {w : World} {base : Nat} {O : Nat → Prop} {v : Value} {l : List ND} (h : Fnd w base O v l) : NodesAt w v l := by
  induction h with
  | row v m own off sub ih => exact nodesAt_own own fun p hp => ih p hp
theorem Fnd.slice {w : World} {base : Nat} {O : Nat → Prop} {v : Value} {l : List ND} (h : Fnd w base O v l) : ∃ ad c, v = .slice ad l.length c := h.nodes.slice
theorem own_keepN {w w' : World} {base : Nat} {e : TypeId} {size : Nat} {v : Value} {n : Nat} {xs : List Value} (h : w.ownsRow base e size v n xs) (k : ∀ j c, v.ownBlock = some j → base ≤ j → w.heap[j]? = some (.cells c e (0, 0)) → w'.heap[j]? = some (.cells c e (0, 0))) : w'.ownsRow base e size v n xs := by
  refine ⟨h.1, ?_⟩
  rcases h.2 with q | ⟨g, cap, cur, e1, hb, hg, rest⟩
  · exact .inl q
  · exact .inr ⟨g, cap, cur, e1, hb, k g cur (by rw [e1]; rfl) hb hg, rest⟩
theorem Fnd.keep {w w' : World} {base : Nat} {O O' : Nat → Prop} {v : Value} {l : List ND} (h : Fnd w base O v l) (k : ∀ j c, base ≤ j → ¬ O j → w.heap[j]? = some (.cells c 26 (0, 0)) → w'.heap[j]? = some (.cells c 26 (0, 0))) (ho : ∀ j, O' j → j < w.heap.size → O j) : Fnd w' base O' v l := by
  induction h with
  | row v m own off sub ih =>
    exact .row v m (own_keepN own fun j c hj hb hg => k j c hb (off j hj) hg) (fun j hj c => off j hj (ho j c (own.lt j hj).2)) (fun p hp => ih p hp)
theorem Fnd.kp {w w' : World} {base : Nat} {O : Nat → Prop} {v : Value} {l : List ND} (h : Fnd w base O v l) (k : Kp w w') : Fnd w' base O v l :=
  h.keep (fun j c _ _ hg => heap_block k hg) (fun j hj _ => hj)
/-- the blocks of the rows that stand open -/
def OpenB (rows : List (Value × List NV)) (j : Nat) : Prop := ∃ r ∈ rows, r.1.ownBlock = some j
/-- the parser's nineteen cells -/
def boxP (n : Nat) (vl : Value) (ie : Bool) (st : ND) (vs : Value) (wh : ND) (vw : Value) : List Value :=
  [.int .i64 n, vl, .bool ie, .int .i64 st.k, .int .i64 st.p.k, .string st.p.y, .string st.p.m, .string st.p.d, .bool st.a, .bool st.t, vs,
   .int .i64 wh.k, .int .i64 wh.p.k, .string wh.p.y, .string wh.p.m, .string wh.p.d, .bool wh.a, .bool wh.t, vw]
structure PM (w0 w : World) (B : Nat) (n : Nat) (vl : Value) (rows : List (Value × List NV)) (ie : Bool) (st : ND) (vs : Value) (wh : ND) (vw : Value) : Prop where
  kp : Kp w0 w
  lo : w0.heap.size ≤ B
  box : w.heap[B]? = some (.cells (boxP n vl ie st vs wh vw).toArray 52 (0, 0))
  lists : w.ownsRow w0.heap.size 24 1 vl rows.length ((rows.map Prod.fst).reverse)
  row : ∀ r ∈ rows, w.ownsRow w0.heap.size 26 8 r.1 r.2.length (cellsN r.2)
  fin : ∀ r ∈ rows, ∀ p ∈ r.2, Fnd w w0.heap.size (OpenB rows) p.2 p.1.l
  apart : rows.Pairwise fun a b => ∀ j, a.1.ownBlock = some j → b.1.ownBlock ≠ some j
  fw : Fnd w w0.heap.size (OpenB rows) vw wh.l
  fs : Fnd w w0.heap.size (OpenB rows) vs st.l
theorem PM.go {w0 w w' : World} {B n : Nat} {vl : Value} {rows : List (Value × List NV)} {ie : Bool} {st : ND} {vs : Value} {wh : ND} {vw : Value} (h : PM w0 w B n vl rows ie st vs wh vw) (k : Kp w w') : PM w0 w' B n vl rows ie st vs wh vw :=
  ⟨h.kp.trans k, h.lo, heap_block k h.box, own_kp h.lists k, fun r hr => own_kp (h.row r hr) k, fun r hr p hp => (h.fin r hr p hp).kp k, h.apart, h.fw.kp k, h.fs.kp k⟩
/-- only the box turns -/
theorem PM.turn {w0 w w' : World} {B n : Nat} {vl : Value} {rows : List (Value × List NV)} {ie : Bool} {st : ND} {vs : Value} {wh : ND} {vw : Value} (h : PM w0 w B n vl rows ie st vs wh vw)
    {n' : Nat} {ie' : Bool} {st' : ND} {vs' : Value} {wh' : ND} {vw' : Value} (k : Kp w0 w') (hb : w'.heap[B]? = some (.cells (boxP n' vl ie' st' vs' wh' vw').toArray 52 (0, 0))) (ho : ∀ j, j ≠ B → w'.heap[j]? = w.heap[j]?)
    (fw : Fnd w w0.heap.size (OpenB rows) vw' wh'.l) (fs : Fnd w w0.heap.size (OpenB rows) vs' st'.l) : PM w0 w' B n' vl rows ie' st' vs' wh' vw' := by
  have nb : ∀ {e : TypeId} {j : Nat} {c : Array Value}, w.heap[j]? = some (.cells c e (0, 0)) → (52 == e) = false → j ≠ B := by
    intro e j c hj he e1
    subst e1
    rw [h.box] at hj
    cases hj
    simp at he
  have kn : ∀ j c, w0.heap.size ≤ j → ¬ OpenB rows j → w.heap[j]? = some (.cells c 26 (0, 0)) → w'.heap[j]? = some (.cells c 26 (0, 0)) := fun j c _ _ hj => by rw [ho j (nb hj (by kernel_rfl))]; exact hj
  refine ⟨k, h.lo, hb, own_keepN h.lists fun j c _ _ hj => by rw [ho j (nb hj (by kernel_rfl))]; exact hj, fun r hr => own_keepN (h.row r hr) fun j c _ _ hj => by rw [ho j (nb hj (by kernel_rfl))]; exact hj, fun r hr p hp => (h.fin r hr p hp).keep kn (fun j hj _ => hj), h.apart, fw.keep kn (fun j hj _ => hj), fs.keep kn (fun j hj _ => hj)⟩
/-- the row of the open lists turns, and the box -/
theorem PM.relist {w0 w W : World} {B n : Nat} {vl : Value} {rows : List (Value × List NV)} {ie : Bool} {st : ND} {vs : Value} {wh : ND} {vw : Value} (h : PM w0 w B n vl rows ie st vs wh vw) (k : Kp w0 W)
    {n' : Nat} {vl' : Value} (hb : W.heap[B]? = some (.cells (boxP n' vl' ie st vs wh vw).toArray 52 (0, 0)))
    (own : W.ownsRow w0.heap.size 24 1 vl' (rows.length + 1) ((rows.map Prod.fst).reverse ++ [.slice none 0 0]))
    (kn : ∀ (j : Nat) (c : Array Value), w.heap[j]? = some (.cells c 26 (0, 0)) → W.heap[j]? = some (.cells c 26 (0, 0))) :
    PM w0 W B n' vl' ((.slice none 0 0, []) :: rows) ie st vs wh vw := by
  have eo : ∀ j, OpenB ((.slice none 0 0, []) :: rows) j → OpenB rows j := by
    rintro j ⟨r, hr, e⟩
    rcases List.mem_cons.1 hr with rfl | hr
    · cases e
    · exact ⟨r, hr, e⟩
  have kk : ∀ {v : Value} {l : List ND}, Fnd w w0.heap.size (OpenB rows) v l → Fnd W w0.heap.size (OpenB ((.slice none 0 0, []) :: rows)) v l := fun f => f.keep (fun j c _ _ hg => kn j c hg) (fun j hj _ => eo j hj)
  refine ⟨k, h.lo, hb, by simpa using own, fun r hr => ?_, fun r hr p hp => ?_, ?_, kk h.fw, kk h.fs⟩
  · rcases List.mem_cons.1 hr with rfl | hr
    · exact World.ownsRow_nil _ _ _ _
    · exact own_keepN (h.row r hr) fun j c _ _ hg => kn j c hg
  · rcases List.mem_cons.1 hr with rfl | hr
    · cases hp
    · exact kk (h.fin r hr p hp)
  · exact List.pairwise_cons.2 ⟨(fun r hr j e => by cases e), h.apart⟩
/-- what has been read is laid behind the elements of the last list that stands open; the lists' own row and the box stay -/
structure PG (w0 w : World) (B n : Nat) (vl vt v' : Value) (ms : List NV) (rest : List (Value × List NV)) (ie : Bool) (st : ND) (vs : Value) (wh : ND) (vw : Value) : Prop where
  kp : Kp w0 w
  lo : w0.heap.size ≤ B
  box : w.heap[B]? = some (.cells (boxP n vl ie st vs wh vw).toArray 52 (0, 0))
  lists : w.ownsRow w0.heap.size 24 1 vl (rest.length + 1) ((rest.map Prod.fst).reverse ++ [vt])
  top : w.ownsRow w0.heap.size 26 8 v' (ms ++ [(wh, vw)]).length (cellsN (ms ++ [(wh, vw)]))
  row : ∀ r ∈ rest, w.ownsRow w0.heap.size 26 8 r.1 r.2.length (cellsN r.2)
  fin : ∀ r ∈ rest, ∀ p ∈ r.2, Fnd w w0.heap.size (OpenB ((v', ms ++ [(wh, vw)]) :: rest)) p.2 p.1.l
  fit : ∀ p ∈ ms ++ [(wh, vw)], Fnd w w0.heap.size (OpenB ((v', ms ++ [(wh, vw)]) :: rest)) p.2 p.1.l
  apart : rest.Pairwise fun a b => ∀ j, a.1.ownBlock = some j → b.1.ownBlock ≠ some j
  apt : ∀ r ∈ rest, ∀ j, v'.ownBlock = some j → r.1.ownBlock ≠ some j
  fw : Fnd w w0.heap.size (OpenB ((v', ms ++ [(wh, vw)]) :: rest)) vw wh.l
  fs : Fnd w w0.heap.size (OpenB ((v', ms ++ [(wh, vw)]) :: rest)) vs st.l
theorem PM.grow {w0 w W : World} {B n : Nat} {vl vt v' : Value} {ms : List NV} {rest : List (Value × List NV)} {ie : Bool} {st : ND} {vs : Value} {wh : ND} {vw : Value} (h : PM w0 w B n vl ((vt, ms) :: rest) ie st vs wh vw)
    (own : W.ownsRow w0.heap.size 26 8 v' (ms.length + 1) (cellsN ms ++ cellsN [(wh, vw)])) (g : w.grownBy W vt.ownBlock) (at_ : v'.ownBlock = vt.ownBlock ∨ v'.ownBlock = some w.heap.size) :
    PG w0 W B n vl vt v' ms rest ie st vs wh vw := by
  have rt := h.row (vt, ms) (by simp)
  have ap := List.pairwise_cons.1 h.apart
  have lt : ∀ {j : Nat} {o : Obj}, w.heap[j]? = some o → j < w.heap.size := fun hk => (Array.getElem?_eq_some_iff.1 hk).1
  -- the row that grows is of nodes
  have ot : ∀ {j : Nat} {c : Array Value} {e : TypeId}, w.heap[j]? = some (.cells c e (0, 0)) → (26 == e) = false → W.heap[j]? = some (.cells c e (0, 0)) := by
    intro j c e hj he
    refine (g.block j (lt hj) (fun e1 => ?_)).trans hj
    rcases rt.2 with ⟨e2, _⟩ | ⟨q, cap, cur, e2, hb, hg, _⟩
    · rw [show vt = _ from e2] at e1; cases e1
    · rw [show vt = _ from e2] at e1
      cases e1
      rw [hg] at hj
      cases hj
      simp at he
  have on : ∀ j c, ¬ OpenB ((vt, ms) :: rest) j → w.heap[j]? = some (.cells c 26 (0, 0)) → W.heap[j]? = some (.cells c 26 (0, 0)) := fun j c hO hj =>
    (g.block j (lt hj) (fun e1 => hO ⟨(vt, ms), by simp, e1.symm⟩)).trans hj
  have oo : ∀ j, OpenB ((v', ms ++ [(wh, vw)]) :: rest) j → j < w.heap.size → OpenB ((vt, ms) :: rest) j := by
    rintro j ⟨r, hr, e⟩ hj
    rcases List.mem_cons.1 hr with rfl | hr
    · rcases at_ with a | a
      · exact ⟨(vt, ms), by simp, by rw [← a]; exact e⟩
      · simp only at e
        rw [a] at e
        cases e
        omega
    · exact ⟨r, by simp [hr], e⟩
  have kk : ∀ {v : Value} {l : List ND}, Fnd w w0.heap.size (OpenB ((vt, ms) :: rest)) v l → Fnd W w0.heap.size (OpenB ((v', ms ++ [(wh, vw)]) :: rest)) v l := fun f => f.keep (fun j c _ hO hg => on j c hO hg) oo
  refine ⟨h.kp.grown g (fun j hj => (rt.lt j hj).1), h.lo, ot h.box (by kernel_rfl), own_keepN (by simpa using h.lists) fun j c _ _ hj => ot hj (by kernel_rfl), ?_, fun r hr => own_apartN (h.row r (by simp [hr])) g (fun j hj => ap.1 r hr j hj), fun r hr p hp => kk (h.fin r (by simp [hr]) p hp), fun p hp => ?_, ap.2, fun r hr j hj e => ?_, kk h.fw, kk h.fs⟩
  · rw [List.length_append, cellsN_append]
    exact own
  · rcases List.mem_append.1 hp with hp | hp
    · exact kk (h.fin (vt, ms) (by simp) p hp)
    · rw [List.mem_singleton.1 hp]
      exact kk h.fw
  · rcases at_ with a | a
    · rw [a] at hj
      exact ap.1 r hr j hj e
    · rw [a] at hj
      cases hj
      have := ((h.row r (by simp [hr])).lt _ e).2
      omega
/-- behind a comma -/
theorem PG.comma {w0 w W : World} {B n : Nat} {vl vt v' : Value} {ms : List NV} {rest : List (Value × List NV)} {ie : Bool} {st : ND} {vs : Value} {wh : ND} {vw : Value} (h : PG w0 w B n vl vt v' ms rest ie st vs wh vw) (k : Kp w0 W)
    (own : W.ownsRow w0.heap.size 24 1 vl (rest.length + 1) ((rest.map Prod.fst).reverse ++ [v']))
    (kn : ∀ (j : Nat) (c : Array Value) (e : TypeId), (24 == e) = false → w.heap[j]? = some (.cells c e (0, 0)) → W.heap[j]? = some (.cells c e (0, 0))) :
    PM w0 W B n vl ((v', ms ++ [(wh, vw)]) :: rest) ie st vs wh vw := by
  have kk : ∀ {v : Value} {l : List ND}, Fnd w w0.heap.size (OpenB ((v', ms ++ [(wh, vw)]) :: rest)) v l → Fnd W w0.heap.size (OpenB ((v', ms ++ [(wh, vw)]) :: rest)) v l := fun f => f.keep (fun j c _ hO hg => kn j c _ (by kernel_rfl) hg) (fun j hj _ => hj)
  refine ⟨k, h.lo, kn B _ _ (by kernel_rfl) h.box, by simpa using own, fun r hr => ?_, fun r hr p hp => ?_, List.pairwise_cons.2 ⟨fun r hr j e => h.apt r hr j e, h.apart⟩, kk h.fw, kk h.fs⟩
  · rcases List.mem_cons.1 hr with rfl | hr
    · exact own_keepN h.top fun j c _ _ hg => kn j c _ (by kernel_rfl) hg
    · exact own_keepN (h.row r hr) fun j c _ _ hg => kn j c _ (by kernel_rfl) hg
  · rcases List.mem_cons.1 hr with rfl | hr
    · exact kk (h.fit p hp)
    · exact kk (h.fin r hr p hp)
/-- a list is shut -/
theorem PG.shut {w0 w W : World} {B n : Nat} {vl vt v' vl' : Value} {ms : List NV} {rest : List (Value × List NV)} {ie : Bool} {st : ND} {vs : Value} {wh : ND} {vw : Value} (h : PG w0 w B n vl vt v' ms rest ie st vs wh vw) (k : Kp w0 W)
    (hb : W.heap[B]? = some (.cells (boxP n vl' ie st vs (orN ((ms ++ [(wh, vw)]).map Prod.fst)) v').toArray 52 (0, 0)))
    (own : W.ownsRow w0.heap.size 24 1 vl' rest.length ((rest.map Prod.fst).reverse))
    (kn : ∀ (j : Nat) (c : Array Value), w.heap[j]? = some (.cells c 26 (0, 0)) → W.heap[j]? = some (.cells c 26 (0, 0))) :
    PM w0 W B n vl' rest ie st vs (orN ((ms ++ [(wh, vw)]).map Prod.fst)) v' := by
  have kk : ∀ {v : Value} {l : List ND}, Fnd w w0.heap.size (OpenB ((v', ms ++ [(wh, vw)]) :: rest)) v l → Fnd W w0.heap.size (OpenB rest) v l := fun f => f.keep (fun j c _ hO hg => kn j c hg) (fun j hj _ => by
    obtain ⟨r, hr, e⟩ := hj
    exact ⟨r, by simp [hr], e⟩)
  refine ⟨k, h.lo, hb, own, fun r hr => own_keepN (h.row r hr) fun j c _ _ hg => kn j c hg, fun r hr p hp => kk (h.fin r hr p hp), h.apart, ?_, kk h.fs⟩
  refine .row v' (ms ++ [(wh, vw)]) (own_keepN h.top fun j c _ _ hg => kn j c hg) (fun j hj => ?_) (fun p hp => kk (h.fit p hp))
  rintro ⟨r, hr, e⟩
  exact h.apt r hr j hj e
end Go.Proofs.YtndmohamjffpcaaDoor

namespace Go.Proofs.YtndmohamjffpcaaDoor
open Go.RowKit Go.Shelf
set_option linter.unusedVariables false
set_option linter.unusedSimpArgs false
def setsA : Array Value → Nat → List Value → Array Value
  | a, _, [] => a
  | a, o, c :: cs => setsA (a.setIfInBounds o c) (o + 1) cs
theorem sets_heap {B : Nat} {t : TypeId} {fr : Nat × Nat} : ∀ (cs : List Value) (o : Nat) {w : World} {a : Array Value}, w.heap[B]? = some (.cells a t fr) → (w.setCells B o cs).heap[B]? = some (.cells (setsA a o cs) t fr)
  | [], _, _, _, h => h
  | c :: cs, o, w, a, h => sets_heap cs (o + 1) (ch_heap h o c)
theorem PM.sets {w0 w : World} {B n : Nat} {vl : Value} {rows : List (Value × List NV)} {ie : Bool} {st : ND} {vs : Value} {wh : ND} {vw : Value} (h : PM w0 w B n vl rows ie st vs wh vw) (o : Nat) (cs : List Value)
    {n' : Nat} {ie' : Bool} {st' : ND} {vs' : Value} {wh' : ND} {vw' : Value} (hb : setsA (boxP n vl ie st vs wh vw).toArray o cs = (boxP n' vl ie' st' vs' wh' vw').toArray)
    (fw : Fnd w w0.heap.size (OpenB rows) vw' wh'.l) (fs : Fnd w w0.heap.size (OpenB rows) vs' st'.l) : PM w0 (w.setCells B o cs) B n' vl rows ie' st' vs' wh' vw' :=
  h.turn (kp_sets h.lo cs o h.kp) (by rw [sets_heap cs o h.box, hb]) (fun j hj => sets_other hj cs o) fw fs
/-- the lists that stand open, the last one first -/
def skOf (rows : List (Value × List NV)) : List (List ND) := rows.map fun r => r.2.map Prod.fst
def fnV (f B : Nat) : Value := .func (.func f) #[.pointer (some ⟨B, 0, none⟩)] #[]
def nextV (B : Nat) : St → Value
  | .ex _ _ => fnV 26 B
  | .en _ _ _ => fnV 40 B
  | .b1 _ _ _ => fnV 59 B
  | .b2 _ _ _ _ => fnV 59 B
  | .sl _ _ _ => fnV 61 B
  | .bs _ _ _ _ => fnV 60 B
  | .be _ _ _ => fnV 67 B
def totR (rows : List (Value × List NV)) : Nat := (rows.map fun r => r.2.length).sum
def Bd (k n : Nat) (rows : List (Value × List NV)) : Prop := totR rows + rows.length + k ≤ n ∧ n ≤ 64 ∧ rows.length ≤ 8
def PSt (w0 w : World) (B : Nat) : St → Prop
  | .ex n sk => ∃ vl rows ie st vs wh vw, skOf rows = sk ∧ Bd 0 n rows ∧ PM w0 w B n vl rows ie st vs wh vw
  | .en n sk st => ∃ vl rows vs wh vw, skOf rows = sk ∧ Bd 1 n rows ∧ PM w0 w B n vl rows true st vs wh vw
  | .b1 n sk wh => ∃ vl rows st vs vw, skOf rows = sk ∧ Bd 1 n rows ∧ PM w0 w B n vl rows false st vs wh vw
  | .b2 n sk st wh => ∃ vl rows vs vw, skOf rows = sk ∧ Bd 1 n rows ∧ PM w0 w B n vl rows true st vs wh vw
  | .sl n sk wh => ∃ vl rows ie st vs vw, skOf rows = sk ∧ Bd 1 n rows ∧ PM w0 w B n vl rows ie st vs wh vw
  | .bs n sk st wh => ∃ vl rows ie vs vw, skOf rows = sk ∧ Bd 1 n rows ∧ PM w0 w B n vl rows ie st vs wh vw
  | .be n sk wh => ∃ vl rows ie st vs vw, skOf rows = sk ∧ Bd 1 n rows ∧ PM w0 w B n vl rows ie st vs wh vw
def RP (w0 : World) (B : Nat) : Res → Value → Value → World → Prop
  | .go s, r1, r2, w => r1 = nextV B s ∧ r2 = .int .i64 0 ∧ PSt w0 w B s
  | .stop wh, r1, r2, w => r2 = .int .i64 0 ∧ ∃ n vl rows ie st vs vw, PM w0 w B n vl rows ie st vs wh vw
  | .er x, r1, r2, w => r2 = .int .i64 x ∧ Kp w0 w
/-- boxes of tokens stay -/
def TokK (w w' : World) : Prop := ∀ (j : Nat) (c : Array Value) (fr : Nat × Nat), w.heap[j]? = some (.cells c 56 fr) → w'.heap[j]? = some (.cells c 56 fr)
theorem TokK.refl (w : World) : TokK w w := fun _ _ _ h => h
theorem TokK.trans {a b c : World} (h : TokK a b) (k : TokK b c) : TokK a c := fun j x fr e => k j x fr (h j x fr e)
theorem TokK.kp {w w' : World} (k : Kp w w') : TokK w w' := fun j c fr h => heap_block k h
theorem TokK.sets {w : World} {B : Nat} {a : Array Value} {e : TypeId} {fr : Nat × Nat} (h : w.heap[B]? = some (.cells a e fr)) (he : (56 == e) = false) (o : Nat) (cs : List Value) : TokK w (w.setCells B o cs) := fun j c f hj => by
  rw [sets_other (fun e1 => by
    subst e1
    rw [h] at hj
    cases hj
    simp at he) cs o]
  exact hj
theorem TokK.grown {w w' : World} {base : Nat} {e : TypeId} {size n : Nat} {v : Value} {xs : List Value} (own : w.ownsRow base e size v n xs) (he : (56 == e) = false) (g : w.grownBy w' v.ownBlock) : TokK w w' := fun j c f hj => by
  refine (g.block j (Array.getElem?_eq_some_iff.1 hj).1 (fun e1 => ?_)).trans hj
  rcases own.2 with ⟨e2, _⟩ | ⟨q, cap, cur, e2, hb, hg, _⟩
  · rw [e2] at e1; cases e1
  · rw [e2] at e1
    cases e1
    rw [hg] at hj
    cases hj
    simp at he
theorem PM.tok {w0 w : World} {B n : Nat} {vl : Value} {rows : List (Value × List NV)} {ie : Bool} {st : ND} {vs : Value} {wh : ND} {vw : Value} (h : PM w0 w B n vl rows ie st vs wh vw) (o : Nat) (cs : List Value) : TokK w (w.setCells B o cs) := TokK.sets h.box (by kernel_rfl) o cs
def tokV (t : Tk) : Value := .agg #[.int .i64 t.1, .int .i64 t.2.1, .string (bs t.2.2)]
theorem row19 {w : World} {B : Nat} {t : TypeId} {fr : Nat × Nat} {a0 a1 a2 a3 a4 a5 a6 a7 a8 a9 a10 a11 a12 a13 a14 a15 a16 a17 a18 : Value} (h : w.heap[B]? = some (.cells #[a0, a1, a2, a3, a4, a5, a6, a7, a8, a9, a10, a11, a12, a13, a14, a15, a16, a17, a18] t fr)) :
    w.cell? ⟨B, 0, none⟩ = some a0 ∧ w.cell? ⟨B, 1, none⟩ = some a1 ∧ w.cell? ⟨B, 2, none⟩ = some a2 ∧ w.cell? ⟨B, 3, none⟩ = some a3 ∧ w.cell? ⟨B, 4, none⟩ = some a4 ∧ w.cell? ⟨B, 5, none⟩ = some a5 ∧ w.cell? ⟨B, 6, none⟩ = some a6 ∧ w.cell? ⟨B, 7, none⟩ = some a7 ∧ w.cell? ⟨B, 8, none⟩ = some a8 ∧ w.cell? ⟨B, 9, none⟩ = some a9 ∧
    w.cell? ⟨B, 10, none⟩ = some a10 ∧ w.cell? ⟨B, 11, none⟩ = some a11 ∧ w.cell? ⟨B, 12, none⟩ = some a12 ∧ w.cell? ⟨B, 13, none⟩ = some a13 ∧ w.cell? ⟨B, 14, none⟩ = some a14 ∧ w.cell? ⟨B, 15, none⟩ = some a15 ∧ w.cell? ⟨B, 16, none⟩ = some a16 ∧ w.cell? ⟨B, 17, none⟩ = some a17 ∧ w.cell? ⟨B, 18, none⟩ = some a18 := by
  refine ⟨?_, ?_, ?_, ?_, ?_, ?_, ?_, ?_, ?_, ?_, ?_, ?_, ?_, ?_, ?_, ?_, ?_, ?_, ?_⟩ <;> simp [World.cell?, h]
theorem PM.c19 {w0 w : World} {B n : Nat} {vl : Value} {rows : List (Value × List NV)} {ie : Bool} {st : ND} {vs : Value} {wh : ND} {vw : Value} (h : PM w0 w B n vl rows ie st vs wh vw) : w.cell? ⟨B, 0, none⟩ = some (.int .i64 n) ∧ w.cell? ⟨B, 1, none⟩ = some (vl) ∧ w.cell? ⟨B, 2, none⟩ = some (.bool ie) ∧ w.cell? ⟨B, 3, none⟩ = some (.int .i64 st.k) ∧ w.cell? ⟨B, 4, none⟩ = some (.int .i64 st.p.k) ∧ w.cell? ⟨B, 5, none⟩ = some (.string st.p.y) ∧ w.cell? ⟨B, 6, none⟩ = some (.string st.p.m) ∧ w.cell? ⟨B, 7, none⟩ = some (.string st.p.d) ∧ w.cell? ⟨B, 8, none⟩ = some (.bool st.a) ∧ w.cell? ⟨B, 9, none⟩ = some (.bool st.t) ∧ w.cell? ⟨B, 10, none⟩ = some (vs) ∧ w.cell? ⟨B, 11, none⟩ = some (.int .i64 wh.k) ∧ w.cell? ⟨B, 12, none⟩ = some (.int .i64 wh.p.k) ∧ w.cell? ⟨B, 13, none⟩ = some (.string wh.p.y) ∧ w.cell? ⟨B, 14, none⟩ = some (.string wh.p.m) ∧ w.cell? ⟨B, 15, none⟩ = some (.string wh.p.d) ∧ w.cell? ⟨B, 16, none⟩ = some (.bool wh.a) ∧ w.cell? ⟨B, 17, none⟩ = some (.bool wh.t) ∧ w.cell? ⟨B, 18, none⟩ = some (vw) := row19 h.box
theorem PM.frz {w0 w : World} {B n : Nat} {vl : Value} {rows : List (Value × List NV)} {ie : Bool} {st : ND} {vs : Value} {wh : ND} {vw : Value} (h : PM w0 w B n vl rows ie st vs wh vw) (i : Nat) : w.frozen? ⟨B, i, none⟩ = false := by simp [World.frozen?, h.box]
set_option maxHeartbeats 4000000 in
set_option maxRecDepth 100000 in
theorem begin_any {w0 w : World} {B n : Nat} {vl : Value} {rows : List (Value × List NV)} {ie : Bool} {st : ND} {vs : Value} {wh : ND} {vw : Value} (h : PM w0 w B n vl rows ie st vs wh vw) (hn : n ≤ 64) :
    Calls Tryd.prog 41 #[.pointer (some ⟨B, 0, none⟩)] w fun e w' => e = .returned (.int .i64 (if n = 64 then 6 else 0)) ∧ PM w0 w' B (if n = 64 then n else n + 1) vl rows ie st vs wh vw ∧ TokK w w' := by
  have c0 := h.c19.1
  have f0 := h.frz 0
  by_cases c : n = 64
  · subst c
    rw [if_pos rfl, if_pos rfl]
    have H := Lib.hid h
    clear h
    go_enter Tryd.func41, Tryd.ntmps41
    go_wp2
    go_ret
    exact ⟨rfl, H.out, TokK.refl _⟩
  · rw [if_neg c, if_neg c]
    have HT := Lib.hid (h.tok 0 [.int .i64 ((n : Int) + 1)])
    have H := Lib.hid (h.sets 0 [.int .i64 ((n : Int) + 1)] (n' := n + 1) (ie' := ie) (st' := st) (vs' := vs) (wh' := wh) (vw' := vw) (by kernel_rfl) h.fw h.fs)
    have q1 : ((n : Int) == 64) = false := beq_eq_false_iff_ne.2 (by omega)
    have wj : IntKind.i64.wrap ((n : Int) + 1) = (n : Int) + 1 := by rw [IntKind.wrap_i64]; omega
    clear h
    go_enter Tryd.func41, Tryd.ntmps41
    go_wp2
    go_ret
    exact ⟨rfl, H.out, HT.out⟩
set_option maxHeartbeats 4000000 in
set_option maxRecDepth 100000 in
theorem misplaced_any (t : Tk) (w : World) : Calls Tryd.prog 50 #[tokV t] w fun e w' => e = .returned (.int .i64 (misM t)) ∧ Kp w w' := by
  obtain ⟨k, i, s⟩ := t
  unfold tokV misM
  simp only
  by_cases c : k = 9
  · subst c
    rw [if_pos rfl]
    go_enter Tryd.func50, Tryd.ntmps50
    go_wp2
    go_ret
    exact ⟨rfl, Kp.alloc _ _⟩
  · rw [if_neg c]
    have q1 : (k == 9) = false := beq_eq_false_iff_ne.2 c
    go_enter Tryd.func50, Tryd.ntmps50
    go_wp2
    go_ret
    exact ⟨rfl, Kp.alloc _ _⟩
theorem step_app2 {P : Program} {w : World} {ops : Array Oper} {o : Oper} {a : Act} {K : Act → World → Prop} {Q : Exit → Act → World → Prop} {E : Prop} (hgd : o.guard = none) (s x : Operand) (t : TypeId)
    (ho : o.op = .call { callee := .builtin .append, args := #[s, x], argTypes := #[t, t] })
    (base : Nat) (e : TypeId) (i : TypeInfo) (z : Value) (size bytes : Nat) (ht : P.underlying t = some (.slice e)) (hi : P.info? e = some i) (hz : i.zero = some z)
    (hsize : i.size = size) (hby : i.bytes = bytes) (hzs : z.cells.size = size) (hsz : 0 < size)
    (v : Value) (n : Nat) (xs : List Value) (hs : a.eval s = v) (hown : w.ownsRow base e size v n xs)
    (sv : Value) (m : Nat) (news : List Value) (hx : a.eval x = sv) (hsrc : SrcAt w sv m news) (hl : news.length = m * size) (h1 : ∀ u ∈ news, u.oneCell' = true)
    (h63 : n + m ≤ maxLen) (hbytes : (n + m) * bytes ≤ 140737488355328) (hbase : base ≤ w.heap.size)
    (h : ∀ v' w', w'.ownsRow base e size v' (n + m) (xs ++ news) → w.grownBy w' v.ownBlock → (v'.ownBlock = v.ownBlock ∨ v'.ownBlock = some w.heap.size) → K (a.put o.dst v') w') :
    if Region.wanted o (yielded ops a.tmps) = true then Oper.wp P o a w K Q else E := by
  have hw : Region.wanted o (yielded ops a.tmps) = true := by simp [Region.wanted, hgd]
  rw [if_pos hw]
  have : ∃ v' w', (Builtin.append_ #[t, t] o.type #[v, sv]).run P w = .ok v' w' ∧ w'.ownsRow base e size v' (n + m) (xs ++ news) ∧ w.grownBy w' v.ownBlock ∧ (v'.ownBlock = v.ownBlock ∨ v'.ownBlock = some w.heap.size) := by
    rcases hsrc with ⟨ad, cp, rfl, rfl, rfl⟩ | ⟨ad, c, rfl, hn⟩
    · exact ⟨v, w, run_append_zero w base t o.type e i size ht hi v n xs hown ad cp, by simpa using hown, ⟨rfl, rfl, rfl, Nat.le_refl _, fun _ _ _ => rfl⟩, .inl rfl⟩
    · obtain ⟨v', w', hr, h2, h3, _, h5⟩ := run_append_own_at (P := P) w base t o.type e i z size bytes ht hi hz hsize hby hzs hsz v n xs hown ad m c news hl hn h1 h63 hbytes hbase
      exact ⟨v', w', hr, h2, h3, h5⟩
  obtain ⟨v', w', hr, h2, h3, h4⟩ := this
  unfold Oper.wp execOp
  simp only [ho, resolve, invoke, builtin, Sem.run_bind, Sem.run_pure, Result.andThen_ok, List.map_toArray, List.map_cons, List.map_nil, hs, hx, hr]
  exact h v' w' h2 h3 h4
set_option maxHeartbeats 16000000 in
set_option maxRecDepth 100000 in
theorem slash_any {w0 w : World} {B n : Nat} {vl : Value} {rows : List (Value × List NV)} {ie : Bool} {st : ND} {vs : Value} {wh : ND} {vw : Value} (h : PM w0 w B n vl rows ie st vs wh vw) (hbd : Bd 1 n rows) (t : Tk) :
    Calls Tryd.prog 61 #[.pointer (some ⟨B, 0, none⟩), tokV t] w fun e w' => ∃ r1 r2 : Value, e = .returned (.tuple #[r1, r2]) ∧ RP w0 B (slM n (skOf rows) wh t) r1 r2 w' ∧ TokK w w' := by
  have hmf : ∀ (fn : Fn) (first cap : Array Value) (w : World), (Instr.makeFunc fn first cap).run Tryd.prog w = .ok (.func fn first cap) w := fun _ _ _ _ => rfl
  have MP := Lib.hid (fun w1 => misplaced_any t w1)
  have BG := fun w1 (q : Kp w w1) => begin_any (h.go q) hbd.2.1
  obtain ⟨adw, cpw, rfl⟩ := h.fw.slice
  have K0 := Lib.hid h.kp
  by_cases c1 : t.1 = 1
  · by_cases c6 : n = 64
    · have e1 : slM n (skOf rows) wh t = .er 6 := by unfold slM; rw [if_pos c1, if_pos c6]
      rw [e1]
      simp only [if_pos c6] at BG
      have BGH := Lib.hid BG
      obtain ⟨k, i, s⟩ := t
      simp only at c1
      subst c1
      unfold tokV
      simp only
      clear BG MP e1 c6 h
      go_enter Tryd.func61, Tryd.ntmps61
      go_wp2_with fail
      refine (BGH.out _ (Kp.alloc _ _)).mono ?_
      rintro e w2 ⟨rfl, h2, tk2⟩
      have TK2 := Lib.hid ((TokK.kp (Kp.alloc _ _)).trans tk2)
      clear tk2
      have K2 := Lib.hid h2.kp
      clear h2
      go_wp2
      go_ret2
      exact ⟨_, _, rfl, ⟨rfl, K2.out⟩, TK2.out⟩
    · have e1 : slM n (skOf rows) wh t = .go (.en (n + 1) (skOf rows) wh) := by unfold slM; rw [if_pos c1, if_neg c6]
      rw [e1]
      have HBD := Lib.hid (show Bd 1 (n + 1) rows from ⟨by have := hbd.1; omega, by have := hbd.2.1; omega, hbd.2.2⟩)
      simp only [if_neg c6] at BG
      have BGH := Lib.hid BG
      obtain ⟨k, i, s⟩ := t
      simp only at c1
      subst c1
      unfold tokV
      simp only
      clear BG MP e1 c6 h
      go_enter Tryd.func61, Tryd.ntmps61
      go_wp2_with fail
      refine (BGH.out _ (Kp.alloc _ _)).mono ?_
      rintro e w2 ⟨rfl, h2, tk2⟩
      have TK2 := Lib.hid ((TokK.kp (Kp.alloc _ _)).trans tk2)
      clear tk2
      obtain ⟨x0, x1, x2, x3, x4, x5, x6, x7, x8, x9, x10, x11, x12, x13, x14, x15, x16, x17, x18⟩ := h2.c19
      have f2 := h2.frz 2
      have f3 := h2.frz 3
      have f4 := h2.frz 4
      have f5 := h2.frz 5
      have f6 := h2.frz 6
      have f7 := h2.frz 7
      have f8 := h2.frz 8
      have f9 := h2.frz 9
      have f10 := h2.frz 10
      have h3 := h2.sets 3 [.int .i64 wh.k, .int .i64 wh.p.k, .string wh.p.y, .string wh.p.m, .string wh.p.d, .bool wh.a, .bool wh.t, .slice adw wh.l.length cpw] (n' := n + 1) (ie' := ie) (st' := wh) (vs' := .slice adw wh.l.length cpw) (wh' := wh) (vw' := .slice adw wh.l.length cpw) (by kernel_rfl) h2.fw h2.fw
      have h4 := Lib.hid (h3.sets 2 [.bool true] (n' := n + 1) (ie' := true) (st' := wh) (vs' := .slice adw wh.l.length cpw) (wh' := wh) (vw' := .slice adw wh.l.length cpw) (by kernel_rfl) h3.fw h3.fs)
      have TK4 := Lib.hid (TK2.out.trans ((h2.tok 3 [.int .i64 wh.k, .int .i64 wh.p.k, .string wh.p.y, .string wh.p.m, .string wh.p.d, .bool wh.a, .bool wh.t, .slice adw wh.l.length cpw]).trans (h3.tok 2 [.bool true])))
      clear h2 h3
      go_wp2
      go_ret2
      exact ⟨_, _, rfl, ⟨rfl, rfl, _, _, _, _, _, rfl, HBD.out, h4.out⟩, TK4.out⟩
  · have e1 : slM n (skOf rows) wh t = .er (misM t) := by unfold slM; rw [if_neg c1]
    rw [e1]
    generalize misM t = mm at *
    obtain ⟨k, i, s⟩ := t
    simp only at c1
    have q1 : (k != 1) = true := by simp [c1]
    unfold tokV at *
    simp only at MP ⊢
    clear BG e1 c1 h
    go_enter Tryd.func61, Tryd.ntmps61
    go_wp2_with fail
    refine (MP.out _).mono ?_
    rintro e w2 ⟨rfl, kk⟩
    have K2 := Lib.hid ((Kp.alloc _ _).trans kk)
    clear kk
    go_wp2
    go_ret2
    exact ⟨_, _, rfl, ⟨rfl, K0.out.trans K2.out⟩, TokK.kp K2.out⟩
end Go.Proofs.YtndmohamjffpcaaDoor

namespace Go.Proofs.YtndmohamjffpcaaDoor
open Go.RowKit Go.Shelf
set_option linter.unusedVariables false
set_option linter.unusedSimpArgs false
theorem set_lastV (a : List Value) (x y : Value) : (a ++ [x]).set a.length y = a ++ [y] := by
  rw [List.set_append_right _ _ (Nat.le_refl _), Nat.sub_self]
  rfl
theorem lists_off {w : World} {base : Nat} {e e' : TypeId} {size g n cap : Nat} {xs : List Value} (h : w.ownsRow base e size (.slice (some ⟨g, 0, none⟩) n cap) n xs) {j : Nat} {c : Array Value} {fr : Nat × Nat} (he : (e == e') = false) (hj : w.heap[j]? = some (.cells c e' fr)) : j ≠ g := by
  rintro rfl
  rcases h.2 with ⟨e1, _⟩ | ⟨q, cap', cur, e2, hb, hg, _⟩
  · cases e1
  · cases e2
    rw [hg] at hj
    cases hj
    simp at he
/-- a cell of the row of the open lists is stored -/
theorem PG.commaSet {w0 w : World} {B n gl cl : Nat} {vt v' : Value} {ms : List NV} {rest : List (Value × List NV)} {ie : Bool} {st : ND} {vs : Value} {wh : ND} {vw : Value} (h : PG w0 w B n (.slice (some ⟨gl, 0, none⟩) (rest.length + 1) cl) vt v' ms rest ie st vs wh vw) :
    PM w0 (w.setCell ⟨gl, rest.length, none⟩ v') B n (.slice (some ⟨gl, 0, none⟩) (rest.length + 1) cl) ((v', ms ++ [(wh, vw)]) :: rest) ie st vs wh vw ∧ TokK w (w.setCell ⟨gl, rest.length, none⟩ v') := by
  have hlr : ((rest.map Prod.fst).reverse).length = rest.length := by rw [List.length_reverse, List.length_map]
  have o := (h.lists.stored rest.length v').1
  have q := set_lastV ((rest.map Prod.fst).reverse) vt v'
  rw [hlr] at q
  rw [q] at o
  refine ⟨h.comma (kp_setCell h.kp (h.lists.lt gl rfl).1 _ _) o (fun j c e he hj => ?_), fun j c fr hj => ?_⟩
  · rw [ps_other (lists_off h.lists he hj)]
    exact hj
  · rw [ps_other (lists_off h.lists (by kernel_rfl) hj)]
    exact hj
set_option maxHeartbeats 4000000 in
theorem PG.shutSet {w0 w w2 : World} {B n gl cl : Nat} {vt v' : Value} {ms : List NV} {rest : List (Value × List NV)} {ie : Bool} {st : ND} {vs : Value} {wh : ND} {vw : Value} (h : PG w0 w B n (.slice (some ⟨gl, 0, none⟩) (rest.length + 1) cl) vt v' ms rest ie st vs wh vw)
    (k : Kp (w.setCells B 1 [.slice (some ⟨gl, 0, none⟩) rest.length cl]) w2) :
    PM w0 (w2.setCells B 11 [.int .i64 2, .int .i64 0, .string ⟨#[]⟩, .string ⟨#[]⟩, .string ⟨#[]⟩, .bool false, .bool false, v']) B n (.slice (some ⟨gl, 0, none⟩) rest.length cl) rest ie st vs (orN ((ms ++ [(wh, vw)]).map Prod.fst)) v' ∧ TokK w (w2.setCells B 11 [.int .i64 2, .int .i64 0, .string ⟨#[]⟩, .string ⟨#[]⟩, .string ⟨#[]⟩, .bool false, .bool false, v']) := by
  have hlr : ((rest.map Prod.fst).reverse).length = rest.length := by rw [List.length_reverse, List.length_map]
  have h1 := sets_heap [.slice (some ⟨gl, 0, none⟩) rest.length cl] 1 h.box
  have h2 := heap_block k h1
  have h3 := sets_heap [.int .i64 2, .int .i64 0, .string ⟨#[]⟩, .string ⟨#[]⟩, .string ⟨#[]⟩, .bool false, .bool false, v'] 11 h2
  have hb : setsA (setsA (boxP n (.slice (some ⟨gl, 0, none⟩) (rest.length + 1) cl) ie st vs wh vw).toArray 1 [.slice (some ⟨gl, 0, none⟩) rest.length cl]) 11 [.int .i64 2, .int .i64 0, .string ⟨#[]⟩, .string ⟨#[]⟩, .string ⟨#[]⟩, .bool false, .bool false, v'] = (boxP n (.slice (some ⟨gl, 0, none⟩) rest.length cl) ie st vs (orN ((ms ++ [(wh, vw)]).map Prod.fst)) v').toArray := by kernel_rfl
  rw [hb] at h3
  have pass : ∀ {j : Nat} {c : Array Value} {e : TypeId} {fr : Nat × Nat}, (52 == e) = false → w.heap[j]? = some (.cells c e fr) → (w2.setCells B 11 [.int .i64 2, .int .i64 0, .string ⟨#[]⟩, .string ⟨#[]⟩, .string ⟨#[]⟩, .bool false, .bool false, v']).heap[j]? = some (.cells c e fr) := by
    intro j c e fr he hj
    have hn : j ≠ B := by
      rintro rfl
      rw [h.box] at hj
      cases hj
      simp at he
    rw [sets_other hn]
    refine heap_block k ?_
    rw [sets_other hn]
    exact hj
  have o := own_keepN h.lists fun j c _ _ hj => pass (by kernel_rfl) hj
  have o2 := ce_take o (m := rest.length) (by omega)
  rw [Nat.mul_one, List.take_left' hlr] at o2
  refine ⟨h.shut (kp_sets h.lo _ 11 ((kp_sets h.lo _ 1 h.kp).trans k)) h3 o2 (fun j c hj => pass (by kernel_rfl) hj), fun j c fr hj => pass (by kernel_rfl) hj⟩
theorem skOf_push (v' : Value) (ms : List NV) (wh : ND) (vw : Value) (rest : List (Value × List NV)) : skOf ((v', ms ++ [(wh, vw)]) :: rest) = (ms.map Prod.fst ++ [wh]) :: skOf rest := by simp [skOf]
theorem Bd.comma {n : Nat} {vt v' : Value} {ms : List NV} {wh : ND} {vw : Value} {rest : List (Value × List NV)} (h : Bd 1 n ((vt, ms) :: rest)) : Bd 0 n ((v', ms ++ [(wh, vw)]) :: rest) := by
  obtain ⟨a, b, c⟩ := h
  simp only [totR, List.map_cons, List.sum_cons, List.length_cons] at a c
  refine ⟨?_, b, ?_⟩
  · simp only [totR, List.map_cons, List.sum_cons, List.length_cons, List.length_append, List.length_nil]
    omega
  · simp only [List.length_cons]
    omega
theorem Bd.shut {n : Nat} {vt : Value} {ms : List NV} {rest : List (Value × List NV)} (h : Bd 1 n ((vt, ms) :: rest)) : Bd 1 n rest := by
  obtain ⟨a, b, c⟩ := h
  simp only [totR, List.map_cons, List.sum_cons, List.length_cons] at a c
  refine ⟨?_, b, ?_⟩
  · simp only [totR]
    omega
  · omega
set_option maxHeartbeats 16000000 in
set_option maxRecDepth 100000 in
theorem be_none {w0 w : World} {B n : Nat} {vl : Value} {rows : List (Value × List NV)} {ie : Bool} {st : ND} {vs : Value} {wh : ND} {vw : Value} (h : PM w0 w B n vl rows ie st vs wh vw) (hr : rows = []) (t : Tk) : Calls Tryd.prog 67 #[.pointer (some ⟨B, 0, none⟩), tokV t] w fun e w' => ∃ r1 r2 : Value, e = .returned (.tuple #[r1, r2]) ∧ RP w0 B (beM n [] wh t) r1 r2 w' ∧ TokK w w' := by
  have MP := Lib.hid (fun w1 => misplaced_any t w1)
  subst hr
  have K0 := Lib.hid h.kp
  obtain ⟨adl, cl, hvl⟩ := own_slice h.lists
  subst hvl
  have H := Lib.hid h
  have c1 := h.c19.2.1
  have bw : B < w.heap.size := (Array.getElem?_eq_some_iff.1 h.box).1
  simp only [List.length_nil] at c1
  by_cases c9 : t.1 = 9
  · have e1 : beM n [] wh t = .stop wh := if_pos c9
    rw [e1]
    obtain ⟨k, i, s⟩ := t
    simp only at c9
    subst c9
    unfold tokV
    simp only
    clear MP e1 h
    go_enter Tryd.func67, Tryd.ntmps67
    go_wp2
    go_ret2
    exact ⟨_, _, rfl, ⟨rfl, _, _, _, _, _, _, _, H.out.go (Kp.alloc _ _)⟩, TokK.kp (Kp.alloc _ _)⟩
  · have e1 : beM n [] wh t = .er (misM t) := if_neg c9
    rw [e1]
    generalize misM t = mm at *
    obtain ⟨k, i, s⟩ := t
    simp only at c9
    have q1 : (k == 9) = false := beq_eq_false_iff_ne.2 c9
    unfold tokV at *
    simp only at MP ⊢
    clear e1 c9 h
    go_enter Tryd.func67, Tryd.ntmps67
    go_wp2_with fail
    refine (MP.out _).mono ?_
    rintro e w2 ⟨rfl, kk⟩
    have K2 := Lib.hid ((Kp.alloc _ _).trans kk)
    clear kk
    go_wp2
    go_ret2
    exact ⟨_, _, rfl, ⟨rfl, K0.out.trans K2.out⟩, TokK.kp K2.out⟩
abbrev beA0 : Oper := { dst := some 25, op := Go.Op.move (Go.Operand.tmp 0), type := 75, pos := "parse.go:133", after := #[], guard := none }
abbrev beA1 : Oper := { dst := some 26, op := Go.Op.nilCheck (Go.Operand.tmp 25), type := 0, pos := "parse.go:133", after := #[{ on := 0, ground := Go.Ground.data }], guard := none }
abbrev beA2 : Oper := { dst := some 27, op := Go.Op.fieldAddr 52 (Go.Operand.tmp 26) 1, type := 0, pos := "parse.go:133", after := #[{ on := 1, ground := Go.Ground.data }], guard := none }
abbrev beA3 : Oper := { dst := some 28, op := Go.Op.load 50 (Go.Operand.tmp 27), type := 50, pos := "parse.go:133", after := #[{ on := 2, ground := Go.Ground.data }], guard := none }
abbrev beA4 : Oper := { dst := some 29, op := Go.Op.move (Go.Operand.tmp 6), type := 3, pos := "parse.go:133", after := #[], guard := none }
abbrev beA5 : Oper := { dst := some 30, op := Go.Op.indexAddr 50 (Go.Operand.tmp 28) (Go.Operand.tmp 29), type := 0, pos := "parse.go:133", after := #[{ on := 3, ground := Go.Ground.data }, { on := 4, ground := Go.Ground.data }], guard := none }
abbrev beA6 : Oper := { dst := some 31, op := Go.Op.load 24 (Go.Operand.tmp 30), type := 24, pos := "parse.go:133", after := #[{ on := 5, ground := Go.Ground.data }], guard := none }
abbrev beA7 : Oper := { dst := some 32, op := Go.Op.move (Go.Operand.tmp 0), type := 75, pos := "parse.go:133", after := #[], guard := none }
abbrev beA8 : Oper := { dst := some 33, op := Go.Op.nilCheck (Go.Operand.tmp 32), type := 0, pos := "parse.go:133", after := #[{ on := 7, ground := Go.Ground.data }], guard := none }
abbrev beA9 : Oper := { dst := some 34, op := Go.Op.fieldAddr 52 (Go.Operand.tmp 33) 4, type := 0, pos := "parse.go:133", after := #[{ on := 8, ground := Go.Ground.data }], guard := none }
abbrev beA10 : Oper := { dst := some 35, op := Go.Op.load 26 (Go.Operand.tmp 34), type := 26, pos := "parse.go:133", after := #[{ on := 9, ground := Go.Ground.data }], guard := none }
abbrev beA11 : Oper := { dst := some 36, op := Go.Op.buildSlice 24 1 #[(0, Go.Operand.tmp 35)], type := 24, pos := "parse.go:133", after := #[{ on := 10, ground := Go.Ground.data }], guard := none }
abbrev beA12 : Oper := { dst := some 37, op := Go.Op.call { callee := Go.Callee.builtin Go.Builtin.append, args := #[Go.Operand.tmp 31, Go.Operand.tmp 36], argTypes := #[24, 24] }, type := 24, pos := "parse.go:133", after := #[{ on := 6, ground := Go.Ground.data }, { on := 11, ground := Go.Ground.data }], guard := none }
abbrev beA13 : Oper := { dst := some 7, op := Go.Op.assign (Go.Operand.tmp 37), type := 24, pos := "parse.go:133", after := #[{ on := 12, ground := Go.Ground.data }, { on := 12, ground := Go.Ground.chain }, { on := 0, ground := Go.Ground.phase }, { on := 1, ground := Go.Ground.phase }, { on := 2, ground := Go.Ground.phase }, { on := 3, ground := Go.Ground.phase }, { on := 4, ground := Go.Ground.phase }, { on := 5, ground := Go.Ground.phase }, { on := 6, ground := Go.Ground.phase }, { on := 7, ground := Go.Ground.phase }, { on := 8, ground := Go.Ground.phase }, { on := 9, ground := Go.Ground.phase }, { on := 10, ground := Go.Ground.phase }, { on := 11, ground := Go.Ground.phase }, { on := 12, ground := Go.Ground.phase }], guard := none }
set_option maxHeartbeats 16000000 in
set_option maxRecDepth 100000 in
theorem be_x {w0 w : World} {B n : Nat} {vl vt : Value} {ms : List NV} {rest rows : List (Value × List NV)} {ie : Bool} {st : ND} {vs : Value} {wh : ND} {vw : Value} (h : PM w0 w B n vl rows ie st vs wh vw) (hr : rows = (vt, ms) :: rest) (t : Tk) (hbd : Bd 1 n rows) (c6 : ¬ t.1 = 6) (c5 : ¬ t.1 = 5) : Calls Tryd.prog 67 #[.pointer (some ⟨B, 0, none⟩), tokV t] w fun e w' => ∃ r1 r2 : Value, e = .returned (.tuple #[r1, r2]) ∧ RP w0 B (.er (misM t)) r1 r2 w' ∧ TokK w w' := by
  have MP := Lib.hid (fun w1 => misplaced_any t w1)
  have hmf : ∀ (fn : Fn) (first cap : Array Value) (w : World), (Instr.makeFunc fn first cap).run Tryd.prog w = .ok (.func fn first cap) w := fun _ _ _ _ => rfl
  subst hr
  have hm : ms.length ≤ 64 := by have a := hbd.1; have b := hbd.2.1; simp only [totR, List.map_cons, List.sum_cons, List.length_cons] at a; omega
  have hl : rest.length ≤ 8 := by have a := hbd.2.2; simp only [List.length_cons] at a; omega
  have HBD := Lib.hid hbd
  clear hbd
  obtain ⟨i0, hi, hz0, hz1, hz2⟩ := info_parts infoNode
  obtain ⟨adw, cpw, rfl⟩ := h.fw.slice
  obtain ⟨adt, ct, hvt⟩ := own_slice8 (h.row (vt, ms) (by simp))
  simp only at hvt
  subst hvt
  have hls := h.lists
  rw [List.length_cons, List.map_cons, List.reverse_cons] at hls
  obtain ⟨gl, cl, rfl, hcl⟩ : ∃ g c, vl = .slice (some ⟨g, 0, none⟩) (rest.length + 1) c ∧ rest.length + 1 ≤ c := by
    rcases hls.2 with ⟨_, e⟩ | ⟨g, cap, cur, e, _, _, hnc, _⟩
    · omega
    · exact ⟨g, cap, e, hnc⟩
  have z7 : rest.length ≤ cl := by omega
  have hlr : ((rest.map Prod.fst).reverse).length = rest.length := by rw [List.length_reverse, List.length_map]
  have PGL := Lib.hid (fun w1 v' (q : PG w0 w1 B n (.slice (some ⟨gl, 0, none⟩) (rest.length + 1) cl) (.slice adt ms.length ct) v' ms rest ie st vs wh (.slice adw wh.l.length cpw)) => show w1.cell? ⟨gl, rest.length, none⟩ = some (.slice adt ms.length ct) by
    rw [q.lists.cellAt _ (by omega), List.getElem?_append_right (by rw [hlr]; omega), hlr, Nat.sub_self]
    rfl)
  have cl0 : w.cell? ⟨gl, rest.length, none⟩ = some (.slice adt ms.length ct) := by
    rw [hls.cellAt _ (by omega), List.getElem?_append_right (by rw [hlr]; omega), hlr, Nat.sub_self]
    rfl
  have cw := h.c19
  obtain ⟨V, hV⟩ : ∃ x, x = w.alloc (.cells #[.int .i64 t.1, .int .i64 t.2.1, .string (bs t.2.2)] 56) := ⟨_, rfl⟩
  have kv : Kp w V := by rw [hV]; exact Kp.alloc _ _
  have gV : V.heap[w.heap.size]? = some (.cells #[.int .i64 t.1, .int .i64 t.2.1, .string (bs t.2.2)] 56 (0, 0)) := by rw [hV]; exact heap_at _ _ _ rfl
  have HS := Lib.hid (fun w' (k : Kp V w') => show w'.cell? ⟨B, 1, none⟩ = some (.slice (some ⟨gl, 0, none⟩) (rest.length + 1) cl) ∧ w'.cell? ⟨gl, rest.length, none⟩ = some (.slice adt ms.length ct) ∧ w'.cell? ⟨B, 11, none⟩ = some (.int .i64 wh.k) ∧ w'.cell? ⟨B, 12, none⟩ = some (.int .i64 wh.p.k) ∧ w'.cell? ⟨B, 13, none⟩ = some (.string wh.p.y) ∧ w'.cell? ⟨B, 14, none⟩ = some (.string wh.p.m) ∧ w'.cell? ⟨B, 15, none⟩ = some (.string wh.p.d) ∧ w'.cell? ⟨B, 16, none⟩ = some (.bool wh.a) ∧ w'.cell? ⟨B, 17, none⟩ = some (.bool wh.t) ∧ w'.cell? ⟨B, 18, none⟩ = some (.slice adw wh.l.length cpw) from ⟨cell_up k (cell_up kv cw.2.1), cell_up k (cell_up kv cl0), cell_up k (cell_up kv (cw.2.2.2.2.2.2.2.2.2.2.2.1)), cell_up k (cell_up kv (cw.2.2.2.2.2.2.2.2.2.2.2.2.1)), cell_up k (cell_up kv (cw.2.2.2.2.2.2.2.2.2.2.2.2.2.1)), cell_up k (cell_up kv (cw.2.2.2.2.2.2.2.2.2.2.2.2.2.2.1)), cell_up k (cell_up kv (cw.2.2.2.2.2.2.2.2.2.2.2.2.2.2.2.1)), cell_up k (cell_up kv (cw.2.2.2.2.2.2.2.2.2.2.2.2.2.2.2.2.1)), cell_up k (cell_up kv (cw.2.2.2.2.2.2.2.2.2.2.2.2.2.2.2.2.2.1)), cell_up k (cell_up kv (cw.2.2.2.2.2.2.2.2.2.2.2.2.2.2.2.2.2.2))⟩)
  have K0 := Lib.hid (h.kp.trans kv)
  have HV := Lib.hid hV
  have kx : Kp V (V.alloc (.cells #[.int .i64 wh.k, .int .i64 wh.p.k, .string wh.p.y, .string wh.p.m, .string wh.p.d, .bool wh.a, .bool wh.t, .slice adw wh.l.length cpw] 26)).drew := (Kp.alloc _ _).trans (Kp.drew _)
  have T1 := Lib.hid (h.go (kv.trans kx))
  have TKX := Lib.hid (TokK.kp kx)
  have TKV := Lib.hid (TokK.kp kv)
  have GVH := Lib.hid gV
  have TOP := Lib.hid (T1.out.row (.slice adt ms.length ct, ms) (by simp))
  have SRC := Lib.hid (show SrcAt (V.alloc (.cells #[.int .i64 wh.k, .int .i64 wh.p.k, .string wh.p.y, .string wh.p.m, .string wh.p.d, .bool wh.a, .bool wh.t, .slice adw wh.l.length cpw] 26)).drew (.slice (some ⟨V.heap.size, 0, none⟩) 1 1) 1 (cellsN [(wh, .slice adw wh.l.length cpw)]) from one_srcN (w := V) rfl wh (.slice adw wh.l.length cpw) 26)
  have ONE := Lib.hid (cellsN_one (w := w) (show ReadsN w [(wh, Value.slice adw wh.l.length cpw)] from fun p hp => by rw [List.mem_singleton.1 hp]; exact h.fw.nodes))
  have LE5 := Lib.hid (Below.size T1.out.kp)
  have GT := Lib.hid (fun w1 (k : Kp V w1) => heap_block k gV)
  have z1 : (rest.length : Int) < ((rest.length + 1 : Nat) : Int) := by omega
  have z2 : (0 : Int) ≤ (rest.length : Int) := by omega
  have z6 : (rest.length : Int) < (rest.length : Int) + 1 := by omega
  have z3 : ((rest.length + 1 : Nat) : Int) - 1 = (rest.length : Int) := by omega
  have z4 : ((rest.length + 1 : Nat) == 0) = false := by simp
  have z5 : (((rest.length + 1 : Nat) : Int) == 0) = false := beq_eq_false_iff_ne.2 (by omega)
  have wj : IntKind.i64.wrap (rest.length : Int) = (rest.length : Int) := by rw [IntKind.wrap_i64]; omega
  have d1 := cw.2.1
  have bw : B < w.heap.size := (Array.getElem?_eq_some_iff.1 h.box).1
  have c1 := (HS.out V (Kp.refl _)).1
  clear cw cl0 h hls kv gV kx hV
  generalize misM t = mm at *
  obtain ⟨k, i, s⟩ := t
  simp only at c6 c5
  have q1 : (k == 6) = false := beq_eq_false_iff_ne.2 c6
  have q2 : (k == 5) = false := beq_eq_false_iff_ne.2 c5
  unfold tokV at *
  simp only at HV GT GVH MP ⊢
  go_enter Tryd.func67, Tryd.ntmps67
  go_wp2_with fail
  rw [← HV.out]
  (try go_wp2_with fail)
  refine wp_region_held_drew (S := fun w' => w'.cell? ⟨B, 1, none⟩ = some (.slice (some ⟨gl, 0, none⟩) (rest.length + 1) cl) ∧ w'.cell? ⟨gl, rest.length, none⟩ = some (.slice adt ms.length ct) ∧ w'.cell? ⟨B, 11, none⟩ = some (.int .i64 wh.k) ∧ w'.cell? ⟨B, 12, none⟩ = some (.int .i64 wh.p.k) ∧ w'.cell? ⟨B, 13, none⟩ = some (.string wh.p.y) ∧ w'.cell? ⟨B, 14, none⟩ = some (.string wh.p.m) ∧ w'.cell? ⟨B, 15, none⟩ = some (.string wh.p.d) ∧ w'.cell? ⟨B, 16, none⟩ = some (.bool wh.a) ∧ w'.cell? ⟨B, 17, none⟩ = some (.bool wh.t) ∧ w'.cell? ⟨B, 18, none⟩ = some (.slice adw wh.l.length cpw)) (by kernel_rfl) ?_ (fun hHeld0 => ?_)
  · (try dsimp only); first | with_reducible exact hS6 | exact HS.out _ (by first | with_reducible exact Kp.refl _ | with_reducible exact Kp.drew _ | with_reducible exact Kp.alloc _ _ | with_reducible exact (Kp.alloc _ _).trans (Kp.drew _) | with_reducible exact (Kp.drew _).trans (Kp.alloc _ _) | with_reducible exact ((Kp.drew _).trans (Kp.alloc _ _)).trans (Kp.drew _))
  refine tkW (v := ?_) 0 beA0 rfl (by kernel_rfl) (by kernel_rfl) (by kernel_rfl) (fun _ _ _ h => h) (by rfl) ?_ (by assumption) ?_
  rotate_left
  · intro w hSw; (try dsimp only at hSw); go_simp; (try with_reducible rfl)
  (try simp only [Act.put, beA0, List.setIfInBounds_toArray, List.set_cons_zero, List.set_cons_succ])
  refine tkW (v := ?_) 1 beA1 rfl (by kernel_rfl) (by kernel_rfl) (by kernel_rfl) (fun _ _ _ h => h) (by rfl) ?_ (by assumption) ?_
  rotate_left
  · intro w hSw; (try dsimp only at hSw); go_simp; (try with_reducible rfl)
  (try simp only [Act.put, beA1, List.setIfInBounds_toArray, List.set_cons_zero, List.set_cons_succ])
  refine tkW (v := ?_) 2 beA2 rfl (by kernel_rfl) (by kernel_rfl) (by kernel_rfl) (fun _ _ _ h => h) (by rfl) ?_ (by assumption) ?_
  rotate_left
  · intro w hSw; (try dsimp only at hSw); go_simp; (try with_reducible rfl)
  (try simp only [Act.put, beA2, List.setIfInBounds_toArray, List.set_cons_zero, List.set_cons_succ])
  refine tkW (v := ?_) 3 beA3 rfl (by kernel_rfl) (by kernel_rfl) (by kernel_rfl) (fun _ _ _ h => h) (by rfl) ?_ (by assumption) ?_
  rotate_left
  · intro w hSw; (try dsimp only at hSw); go_simp; (try with_reducible rfl)
  (try simp only [Act.put, beA3, List.setIfInBounds_toArray, List.set_cons_zero, List.set_cons_succ])
  refine tkW (v := ?_) 4 beA4 rfl (by kernel_rfl) (by kernel_rfl) (by kernel_rfl) (fun _ _ _ h => h) (by rfl) ?_ (by assumption) ?_
  rotate_left
  · intro w hSw; (try dsimp only at hSw); go_simp; (try with_reducible rfl)
  (try simp only [Act.put, beA4, List.setIfInBounds_toArray, List.set_cons_zero, List.set_cons_succ])
  refine tkW (v := ?_) 5 beA5 rfl (by kernel_rfl) (by kernel_rfl) (by kernel_rfl) (fun _ _ _ h => h) (by rfl) ?_ (by assumption) ?_
  rotate_left
  · intro w hSw; (try dsimp only at hSw); go_simp; (try with_reducible rfl)
  (try simp only [Act.put, beA5, List.setIfInBounds_toArray, List.set_cons_zero, List.set_cons_succ])
  refine tkW (v := ?_) 6 beA6 rfl (by kernel_rfl) (by kernel_rfl) (by kernel_rfl) (fun _ _ _ h => h) (by rfl) ?_ (by assumption) ?_
  rotate_left
  · intro w hSw; (try dsimp only at hSw); go_simp; (try with_reducible rfl)
  (try simp only [Act.put, beA6, List.setIfInBounds_toArray, List.set_cons_zero, List.set_cons_succ])
  refine tkW (v := ?_) 7 beA7 rfl (by kernel_rfl) (by kernel_rfl) (by kernel_rfl) (fun _ _ _ h => h) (by rfl) ?_ (by assumption) ?_
  rotate_left
  · intro w hSw; (try dsimp only at hSw); go_simp; (try with_reducible rfl)
  (try simp only [Act.put, beA7, List.setIfInBounds_toArray, List.set_cons_zero, List.set_cons_succ])
  refine tkW (v := ?_) 8 beA8 rfl (by kernel_rfl) (by kernel_rfl) (by kernel_rfl) (fun _ _ _ h => h) (by rfl) ?_ (by assumption) ?_
  rotate_left
  · intro w hSw; (try dsimp only at hSw); go_simp; (try with_reducible rfl)
  (try simp only [Act.put, beA8, List.setIfInBounds_toArray, List.set_cons_zero, List.set_cons_succ])
  refine tkW (v := ?_) 9 beA9 rfl (by kernel_rfl) (by kernel_rfl) (by kernel_rfl) (fun _ _ _ h => h) (by rfl) ?_ (by assumption) ?_
  rotate_left
  · intro w hSw; (try dsimp only at hSw); go_simp; (try with_reducible rfl)
  (try simp only [Act.put, beA9, List.setIfInBounds_toArray, List.set_cons_zero, List.set_cons_succ])
  refine tkW (v := ?_) 10 beA10 rfl (by kernel_rfl) (by kernel_rfl) (by kernel_rfl) (fun _ _ _ h => h) (by rfl) ?_ (by assumption) ?_
  rotate_left
  · intro w hSw; (try dsimp only at hSw); go_simp; (try with_reducible rfl)
  (try simp only [Act.put, beA10, List.setIfInBounds_toArray, List.set_cons_zero, List.set_cons_succ])
  refine tkE 11 beA11 rfl (by kernel_rfl) (fun K hK => ?_)
  go_simp
  skip
  (try go_wp2_with fail)
  refine hK.out _ _ ?_ (fun hHeld1 => ?_)
  · (try dsimp only); first | with_reducible exact hS6 | exact HS.out _ (by first | with_reducible exact Kp.refl _ | with_reducible exact Kp.drew _ | with_reducible exact Kp.alloc _ _ | with_reducible exact (Kp.alloc _ _).trans (Kp.drew _) | with_reducible exact (Kp.drew _).trans (Kp.alloc _ _) | with_reducible exact ((Kp.drew _).trans (Kp.alloc _ _)).trans (Kp.drew _))
  clear hK K hHeld0
  (try simp only [Act.put, beA11, List.setIfInBounds_toArray, List.set_cons_zero, List.set_cons_succ])
  refine tkE 12 beA12 rfl (by kernel_rfl) (fun K hK => ?_)
  (refine step_app2 rfl (.tmp 31) (.tmp 36) 24 rfl w0.heap.size 26 i0 (.agg #[.int .i64 0, .int .i64 0, .string ⟨#[]⟩, .string ⟨#[]⟩, .string ⟨#[]⟩, .bool false, .bool false, .slice none 0 0]) 8 96 Tryd.underlying24 hi hz0 hz1 hz2 rfl (by decide) _ _ _ (by simp [Act.eval, Act.put]) TOP.out _ _ _ (by simp [Act.eval, Act.put]) SRC.out rfl ONE.out (by unfold maxLen; omega) (by omega) LE5.out ?_; intro v6 w6 own6 grow6 at6; obtain ⟨ad6, c6v, rfl⟩ := own_slice8 own6; have TKW := TKX.out.trans (TokK.grown TOP.out (by kernel_rfl) grow6); have gt6 := TKW _ _ _ GVH.out; have TK6 := Lib.hid (TKV.out.trans TKW); clear TKW; have u0 : w6.cell? ⟨w.heap.size, 0, none⟩ = some (.int .i64 k) := (by simp [World.cell?, gt6]); have u1 : w6.cell? ⟨w.heap.size, 1, none⟩ = some (.int .i64 i) := (by simp [World.cell?, gt6]); have u2 : w6.cell? ⟨w.heap.size, 2, none⟩ = some (.string (bs s)) := (by simp [World.cell?, gt6]); clear gt6; have PGF := Lib.hid (T1.out.grow own6 grow6 at6); have hS6 : w6.cell? ⟨B, 1, none⟩ = some (.slice (some ⟨gl, 0, none⟩) (rest.length + 1) cl) ∧ w6.cell? ⟨gl, rest.length, none⟩ = some (.slice adt ms.length ct) ∧ w6.cell? ⟨B, 11, none⟩ = some (.int .i64 wh.k) ∧ w6.cell? ⟨B, 12, none⟩ = some (.int .i64 wh.p.k) ∧ w6.cell? ⟨B, 13, none⟩ = some (.string wh.p.y) ∧ w6.cell? ⟨B, 14, none⟩ = some (.string wh.p.m) ∧ w6.cell? ⟨B, 15, none⟩ = some (.string wh.p.d) ∧ w6.cell? ⟨B, 16, none⟩ = some (.bool wh.a) ∧ w6.cell? ⟨B, 17, none⟩ = some (.bool wh.t) ∧ w6.cell? ⟨B, 18, none⟩ = some (.slice adw wh.l.length cpw) := ⟨(row19 PGF.out.box).2.1, PGL.out _ _ PGF.out, (row19 PGF.out.box).2.2.2.2.2.2.2.2.2.2.2.1, (row19 PGF.out.box).2.2.2.2.2.2.2.2.2.2.2.2.1, (row19 PGF.out.box).2.2.2.2.2.2.2.2.2.2.2.2.2.1, (row19 PGF.out.box).2.2.2.2.2.2.2.2.2.2.2.2.2.2.1, (row19 PGF.out.box).2.2.2.2.2.2.2.2.2.2.2.2.2.2.2.1, (row19 PGF.out.box).2.2.2.2.2.2.2.2.2.2.2.2.2.2.2.2.1, (row19 PGF.out.box).2.2.2.2.2.2.2.2.2.2.2.2.2.2.2.2.2.1, (row19 PGF.out.box).2.2.2.2.2.2.2.2.2.2.2.2.2.2.2.2.2.2⟩)
  (try go_wp2_with fail)
  refine hK.out _ _ ?_ (fun hHeld2 => ?_)
  · (try dsimp only); first | with_reducible exact hS6 | exact HS.out _ (by first | with_reducible exact Kp.refl _ | with_reducible exact Kp.drew _ | with_reducible exact Kp.alloc _ _ | with_reducible exact (Kp.alloc _ _).trans (Kp.drew _) | with_reducible exact (Kp.drew _).trans (Kp.alloc _ _) | with_reducible exact ((Kp.drew _).trans (Kp.alloc _ _)).trans (Kp.drew _))
  clear hK K hHeld1
  (try simp only [Act.put, beA12, List.setIfInBounds_toArray, List.set_cons_zero, List.set_cons_succ])
  refine tkW (v := ?_) 13 beA13 rfl (by kernel_rfl) (by kernel_rfl) (by kernel_rfl) (fun _ _ _ h => h) (by rfl) ?_ (by assumption) ?_
  rotate_left
  · intro w hSw; (try dsimp only at hSw); go_simp; (try with_reducible rfl)
  (try simp only [Act.put, beA13, List.setIfInBounds_toArray, List.set_cons_zero, List.set_cons_succ])
  refine wpAnyH_done (by kernel_rfl) ?_ _
  (try go_wp2_with fail)
  refine (MP.out _).mono ?_
  rintro e w7 ⟨rfl, kk⟩
  have KE := Lib.hid (PGF.out.kp.trans kk)
  have TE := Lib.hid (TK6.out.trans (TokK.kp kk))
  clear kk
  go_wp2
  go_ret2
  exact ⟨_, _, rfl, ⟨rfl, KE.out⟩, TE.out⟩
set_option maxHeartbeats 16000000 in
set_option maxRecDepth 100000 in
theorem be_c {w0 w : World} {B n : Nat} {vl vt : Value} {ms : List NV} {rest rows : List (Value × List NV)} {ie : Bool} {st : ND} {vs : Value} {wh : ND} {vw : Value} (h : PM w0 w B n vl rows ie st vs wh vw) (hr : rows = (vt, ms) :: rest) (t : Tk) (hbd : Bd 1 n rows) (c6 : t.1 = 6) : Calls Tryd.prog 67 #[.pointer (some ⟨B, 0, none⟩), tokV t] w fun e w' => ∃ r1 r2 : Value, e = .returned (.tuple #[r1, r2]) ∧ RP w0 B (.go (.ex n ((ms.map Prod.fst ++ [wh]) :: skOf rest))) r1 r2 w' ∧ TokK w w' := by
  have MP := Lib.hid (fun w1 => misplaced_any t w1)
  have hmf : ∀ (fn : Fn) (first cap : Array Value) (w : World), (Instr.makeFunc fn first cap).run Tryd.prog w = .ok (.func fn first cap) w := fun _ _ _ _ => rfl
  subst hr
  have hm : ms.length ≤ 64 := by have a := hbd.1; have b := hbd.2.1; simp only [totR, List.map_cons, List.sum_cons, List.length_cons] at a; omega
  have hl : rest.length ≤ 8 := by have a := hbd.2.2; simp only [List.length_cons] at a; omega
  have HBD := Lib.hid hbd
  clear hbd
  obtain ⟨i0, hi, hz0, hz1, hz2⟩ := info_parts infoNode
  obtain ⟨adw, cpw, rfl⟩ := h.fw.slice
  obtain ⟨adt, ct, hvt⟩ := own_slice8 (h.row (vt, ms) (by simp))
  simp only at hvt
  subst hvt
  have hls := h.lists
  rw [List.length_cons, List.map_cons, List.reverse_cons] at hls
  obtain ⟨gl, cl, rfl, hcl⟩ : ∃ g c, vl = .slice (some ⟨g, 0, none⟩) (rest.length + 1) c ∧ rest.length + 1 ≤ c := by
    rcases hls.2 with ⟨_, e⟩ | ⟨g, cap, cur, e, _, _, hnc, _⟩
    · omega
    · exact ⟨g, cap, e, hnc⟩
  have z7 : rest.length ≤ cl := by omega
  have hlr : ((rest.map Prod.fst).reverse).length = rest.length := by rw [List.length_reverse, List.length_map]
  have PGL := Lib.hid (fun w1 v' (q : PG w0 w1 B n (.slice (some ⟨gl, 0, none⟩) (rest.length + 1) cl) (.slice adt ms.length ct) v' ms rest ie st vs wh (.slice adw wh.l.length cpw)) => show w1.cell? ⟨gl, rest.length, none⟩ = some (.slice adt ms.length ct) by
    rw [q.lists.cellAt _ (by omega), List.getElem?_append_right (by rw [hlr]; omega), hlr, Nat.sub_self]
    rfl)
  have cl0 : w.cell? ⟨gl, rest.length, none⟩ = some (.slice adt ms.length ct) := by
    rw [hls.cellAt _ (by omega), List.getElem?_append_right (by rw [hlr]; omega), hlr, Nat.sub_self]
    rfl
  have cw := h.c19
  obtain ⟨V, hV⟩ : ∃ x, x = w.alloc (.cells #[.int .i64 t.1, .int .i64 t.2.1, .string (bs t.2.2)] 56) := ⟨_, rfl⟩
  have kv : Kp w V := by rw [hV]; exact Kp.alloc _ _
  have gV : V.heap[w.heap.size]? = some (.cells #[.int .i64 t.1, .int .i64 t.2.1, .string (bs t.2.2)] 56 (0, 0)) := by rw [hV]; exact heap_at _ _ _ rfl
  have HS := Lib.hid (fun w' (k : Kp V w') => show w'.cell? ⟨B, 1, none⟩ = some (.slice (some ⟨gl, 0, none⟩) (rest.length + 1) cl) ∧ w'.cell? ⟨gl, rest.length, none⟩ = some (.slice adt ms.length ct) ∧ w'.cell? ⟨B, 11, none⟩ = some (.int .i64 wh.k) ∧ w'.cell? ⟨B, 12, none⟩ = some (.int .i64 wh.p.k) ∧ w'.cell? ⟨B, 13, none⟩ = some (.string wh.p.y) ∧ w'.cell? ⟨B, 14, none⟩ = some (.string wh.p.m) ∧ w'.cell? ⟨B, 15, none⟩ = some (.string wh.p.d) ∧ w'.cell? ⟨B, 16, none⟩ = some (.bool wh.a) ∧ w'.cell? ⟨B, 17, none⟩ = some (.bool wh.t) ∧ w'.cell? ⟨B, 18, none⟩ = some (.slice adw wh.l.length cpw) from ⟨cell_up k (cell_up kv cw.2.1), cell_up k (cell_up kv cl0), cell_up k (cell_up kv (cw.2.2.2.2.2.2.2.2.2.2.2.1)), cell_up k (cell_up kv (cw.2.2.2.2.2.2.2.2.2.2.2.2.1)), cell_up k (cell_up kv (cw.2.2.2.2.2.2.2.2.2.2.2.2.2.1)), cell_up k (cell_up kv (cw.2.2.2.2.2.2.2.2.2.2.2.2.2.2.1)), cell_up k (cell_up kv (cw.2.2.2.2.2.2.2.2.2.2.2.2.2.2.2.1)), cell_up k (cell_up kv (cw.2.2.2.2.2.2.2.2.2.2.2.2.2.2.2.2.1)), cell_up k (cell_up kv (cw.2.2.2.2.2.2.2.2.2.2.2.2.2.2.2.2.2.1)), cell_up k (cell_up kv (cw.2.2.2.2.2.2.2.2.2.2.2.2.2.2.2.2.2.2))⟩)
  have K0 := Lib.hid (h.kp.trans kv)
  have HV := Lib.hid hV
  have kx : Kp V (V.alloc (.cells #[.int .i64 wh.k, .int .i64 wh.p.k, .string wh.p.y, .string wh.p.m, .string wh.p.d, .bool wh.a, .bool wh.t, .slice adw wh.l.length cpw] 26)).drew := (Kp.alloc _ _).trans (Kp.drew _)
  have T1 := Lib.hid (h.go (kv.trans kx))
  have TKX := Lib.hid (TokK.kp kx)
  have TKV := Lib.hid (TokK.kp kv)
  have GVH := Lib.hid gV
  have TOP := Lib.hid (T1.out.row (.slice adt ms.length ct, ms) (by simp))
  have SRC := Lib.hid (show SrcAt (V.alloc (.cells #[.int .i64 wh.k, .int .i64 wh.p.k, .string wh.p.y, .string wh.p.m, .string wh.p.d, .bool wh.a, .bool wh.t, .slice adw wh.l.length cpw] 26)).drew (.slice (some ⟨V.heap.size, 0, none⟩) 1 1) 1 (cellsN [(wh, .slice adw wh.l.length cpw)]) from one_srcN (w := V) rfl wh (.slice adw wh.l.length cpw) 26)
  have ONE := Lib.hid (cellsN_one (w := w) (show ReadsN w [(wh, Value.slice adw wh.l.length cpw)] from fun p hp => by rw [List.mem_singleton.1 hp]; exact h.fw.nodes))
  have LE5 := Lib.hid (Below.size T1.out.kp)
  have GT := Lib.hid (fun w1 (k : Kp V w1) => heap_block k gV)
  have z1 : (rest.length : Int) < ((rest.length + 1 : Nat) : Int) := by omega
  have z2 : (0 : Int) ≤ (rest.length : Int) := by omega
  have z6 : (rest.length : Int) < (rest.length : Int) + 1 := by omega
  have z3 : ((rest.length + 1 : Nat) : Int) - 1 = (rest.length : Int) := by omega
  have z4 : ((rest.length + 1 : Nat) == 0) = false := by simp
  have z5 : (((rest.length + 1 : Nat) : Int) == 0) = false := beq_eq_false_iff_ne.2 (by omega)
  have wj : IntKind.i64.wrap (rest.length : Int) = (rest.length : Int) := by rw [IntKind.wrap_i64]; omega
  have d1 := cw.2.1
  have bw : B < w.heap.size := (Array.getElem?_eq_some_iff.1 h.box).1
  have c1 := (HS.out V (Kp.refl _)).1
  clear cw cl0 h hls kv gV kx hV
  obtain ⟨k, i, s⟩ := t
  simp only at c6
  subst c6
  unfold tokV at *
  simp only at HV GT GVH MP ⊢
  go_enter Tryd.func67, Tryd.ntmps67
  go_wp2_with fail
  rw [← HV.out]
  (try go_wp2_with fail)
  refine wp_region_held_drew (S := fun w' => w'.cell? ⟨B, 1, none⟩ = some (.slice (some ⟨gl, 0, none⟩) (rest.length + 1) cl) ∧ w'.cell? ⟨gl, rest.length, none⟩ = some (.slice adt ms.length ct) ∧ w'.cell? ⟨B, 11, none⟩ = some (.int .i64 wh.k) ∧ w'.cell? ⟨B, 12, none⟩ = some (.int .i64 wh.p.k) ∧ w'.cell? ⟨B, 13, none⟩ = some (.string wh.p.y) ∧ w'.cell? ⟨B, 14, none⟩ = some (.string wh.p.m) ∧ w'.cell? ⟨B, 15, none⟩ = some (.string wh.p.d) ∧ w'.cell? ⟨B, 16, none⟩ = some (.bool wh.a) ∧ w'.cell? ⟨B, 17, none⟩ = some (.bool wh.t) ∧ w'.cell? ⟨B, 18, none⟩ = some (.slice adw wh.l.length cpw)) (by kernel_rfl) ?_ (fun hHeld0 => ?_)
  · (try dsimp only); first | with_reducible exact hS6 | exact HS.out _ (by first | with_reducible exact Kp.refl _ | with_reducible exact Kp.drew _ | with_reducible exact Kp.alloc _ _ | with_reducible exact (Kp.alloc _ _).trans (Kp.drew _) | with_reducible exact (Kp.drew _).trans (Kp.alloc _ _) | with_reducible exact ((Kp.drew _).trans (Kp.alloc _ _)).trans (Kp.drew _))
  refine tkW (v := ?_) 0 beA0 rfl (by kernel_rfl) (by kernel_rfl) (by kernel_rfl) (fun _ _ _ h => h) (by rfl) ?_ (by assumption) ?_
  rotate_left
  · intro w hSw; (try dsimp only at hSw); go_simp; (try with_reducible rfl)
  (try simp only [Act.put, beA0, List.setIfInBounds_toArray, List.set_cons_zero, List.set_cons_succ])
  refine tkW (v := ?_) 1 beA1 rfl (by kernel_rfl) (by kernel_rfl) (by kernel_rfl) (fun _ _ _ h => h) (by rfl) ?_ (by assumption) ?_
  rotate_left
  · intro w hSw; (try dsimp only at hSw); go_simp; (try with_reducible rfl)
  (try simp only [Act.put, beA1, List.setIfInBounds_toArray, List.set_cons_zero, List.set_cons_succ])
  refine tkW (v := ?_) 2 beA2 rfl (by kernel_rfl) (by kernel_rfl) (by kernel_rfl) (fun _ _ _ h => h) (by rfl) ?_ (by assumption) ?_
  rotate_left
  · intro w hSw; (try dsimp only at hSw); go_simp; (try with_reducible rfl)
  (try simp only [Act.put, beA2, List.setIfInBounds_toArray, List.set_cons_zero, List.set_cons_succ])
  refine tkW (v := ?_) 3 beA3 rfl (by kernel_rfl) (by kernel_rfl) (by kernel_rfl) (fun _ _ _ h => h) (by rfl) ?_ (by assumption) ?_
  rotate_left
  · intro w hSw; (try dsimp only at hSw); go_simp; (try with_reducible rfl)
  (try simp only [Act.put, beA3, List.setIfInBounds_toArray, List.set_cons_zero, List.set_cons_succ])
  refine tkW (v := ?_) 4 beA4 rfl (by kernel_rfl) (by kernel_rfl) (by kernel_rfl) (fun _ _ _ h => h) (by rfl) ?_ (by assumption) ?_
  rotate_left
  · intro w hSw; (try dsimp only at hSw); go_simp; (try with_reducible rfl)
  (try simp only [Act.put, beA4, List.setIfInBounds_toArray, List.set_cons_zero, List.set_cons_succ])
  refine tkW (v := ?_) 5 beA5 rfl (by kernel_rfl) (by kernel_rfl) (by kernel_rfl) (fun _ _ _ h => h) (by rfl) ?_ (by assumption) ?_
  rotate_left
  · intro w hSw; (try dsimp only at hSw); go_simp; (try with_reducible rfl)
  (try simp only [Act.put, beA5, List.setIfInBounds_toArray, List.set_cons_zero, List.set_cons_succ])
  refine tkW (v := ?_) 6 beA6 rfl (by kernel_rfl) (by kernel_rfl) (by kernel_rfl) (fun _ _ _ h => h) (by rfl) ?_ (by assumption) ?_
  rotate_left
  · intro w hSw; (try dsimp only at hSw); go_simp; (try with_reducible rfl)
  (try simp only [Act.put, beA6, List.setIfInBounds_toArray, List.set_cons_zero, List.set_cons_succ])
  refine tkW (v := ?_) 7 beA7 rfl (by kernel_rfl) (by kernel_rfl) (by kernel_rfl) (fun _ _ _ h => h) (by rfl) ?_ (by assumption) ?_
  rotate_left
  · intro w hSw; (try dsimp only at hSw); go_simp; (try with_reducible rfl)
  (try simp only [Act.put, beA7, List.setIfInBounds_toArray, List.set_cons_zero, List.set_cons_succ])
  refine tkW (v := ?_) 8 beA8 rfl (by kernel_rfl) (by kernel_rfl) (by kernel_rfl) (fun _ _ _ h => h) (by rfl) ?_ (by assumption) ?_
  rotate_left
  · intro w hSw; (try dsimp only at hSw); go_simp; (try with_reducible rfl)
  (try simp only [Act.put, beA8, List.setIfInBounds_toArray, List.set_cons_zero, List.set_cons_succ])
  refine tkW (v := ?_) 9 beA9 rfl (by kernel_rfl) (by kernel_rfl) (by kernel_rfl) (fun _ _ _ h => h) (by rfl) ?_ (by assumption) ?_
  rotate_left
  · intro w hSw; (try dsimp only at hSw); go_simp; (try with_reducible rfl)
  (try simp only [Act.put, beA9, List.setIfInBounds_toArray, List.set_cons_zero, List.set_cons_succ])
  refine tkW (v := ?_) 10 beA10 rfl (by kernel_rfl) (by kernel_rfl) (by kernel_rfl) (fun _ _ _ h => h) (by rfl) ?_ (by assumption) ?_
  rotate_left
  · intro w hSw; (try dsimp only at hSw); go_simp; (try with_reducible rfl)
  (try simp only [Act.put, beA10, List.setIfInBounds_toArray, List.set_cons_zero, List.set_cons_succ])
  refine tkE 11 beA11 rfl (by kernel_rfl) (fun K hK => ?_)
  go_simp
  skip
  (try go_wp2_with fail)
  refine hK.out _ _ ?_ (fun hHeld1 => ?_)
  · (try dsimp only); first | with_reducible exact hS6 | exact HS.out _ (by first | with_reducible exact Kp.refl _ | with_reducible exact Kp.drew _ | with_reducible exact Kp.alloc _ _ | with_reducible exact (Kp.alloc _ _).trans (Kp.drew _) | with_reducible exact (Kp.drew _).trans (Kp.alloc _ _) | with_reducible exact ((Kp.drew _).trans (Kp.alloc _ _)).trans (Kp.drew _))
  clear hK K hHeld0
  (try simp only [Act.put, beA11, List.setIfInBounds_toArray, List.set_cons_zero, List.set_cons_succ])
  refine tkE 12 beA12 rfl (by kernel_rfl) (fun K hK => ?_)
  (refine step_app2 rfl (.tmp 31) (.tmp 36) 24 rfl w0.heap.size 26 i0 (.agg #[.int .i64 0, .int .i64 0, .string ⟨#[]⟩, .string ⟨#[]⟩, .string ⟨#[]⟩, .bool false, .bool false, .slice none 0 0]) 8 96 Tryd.underlying24 hi hz0 hz1 hz2 rfl (by decide) _ _ _ (by simp [Act.eval, Act.put]) TOP.out _ _ _ (by simp [Act.eval, Act.put]) SRC.out rfl ONE.out (by unfold maxLen; omega) (by omega) LE5.out ?_; intro v6 w6 own6 grow6 at6; obtain ⟨ad6, c6v, rfl⟩ := own_slice8 own6; have TKW := TKX.out.trans (TokK.grown TOP.out (by kernel_rfl) grow6); have gt6 := TKW _ _ _ GVH.out; have TK6 := Lib.hid (TKV.out.trans TKW); clear TKW; have u0 : w6.cell? ⟨w.heap.size, 0, none⟩ = some (.int .i64 6) := (by simp [World.cell?, gt6]); have u1 : w6.cell? ⟨w.heap.size, 1, none⟩ = some (.int .i64 i) := (by simp [World.cell?, gt6]); have u2 : w6.cell? ⟨w.heap.size, 2, none⟩ = some (.string (bs s)) := (by simp [World.cell?, gt6]); clear gt6; have PGF := Lib.hid (T1.out.grow own6 grow6 at6); have hS6 : w6.cell? ⟨B, 1, none⟩ = some (.slice (some ⟨gl, 0, none⟩) (rest.length + 1) cl) ∧ w6.cell? ⟨gl, rest.length, none⟩ = some (.slice adt ms.length ct) ∧ w6.cell? ⟨B, 11, none⟩ = some (.int .i64 wh.k) ∧ w6.cell? ⟨B, 12, none⟩ = some (.int .i64 wh.p.k) ∧ w6.cell? ⟨B, 13, none⟩ = some (.string wh.p.y) ∧ w6.cell? ⟨B, 14, none⟩ = some (.string wh.p.m) ∧ w6.cell? ⟨B, 15, none⟩ = some (.string wh.p.d) ∧ w6.cell? ⟨B, 16, none⟩ = some (.bool wh.a) ∧ w6.cell? ⟨B, 17, none⟩ = some (.bool wh.t) ∧ w6.cell? ⟨B, 18, none⟩ = some (.slice adw wh.l.length cpw) := ⟨(row19 PGF.out.box).2.1, PGL.out _ _ PGF.out, (row19 PGF.out.box).2.2.2.2.2.2.2.2.2.2.2.1, (row19 PGF.out.box).2.2.2.2.2.2.2.2.2.2.2.2.1, (row19 PGF.out.box).2.2.2.2.2.2.2.2.2.2.2.2.2.1, (row19 PGF.out.box).2.2.2.2.2.2.2.2.2.2.2.2.2.2.1, (row19 PGF.out.box).2.2.2.2.2.2.2.2.2.2.2.2.2.2.2.1, (row19 PGF.out.box).2.2.2.2.2.2.2.2.2.2.2.2.2.2.2.2.1, (row19 PGF.out.box).2.2.2.2.2.2.2.2.2.2.2.2.2.2.2.2.2.1, (row19 PGF.out.box).2.2.2.2.2.2.2.2.2.2.2.2.2.2.2.2.2.2⟩)
  (try go_wp2_with fail)
  refine hK.out _ _ ?_ (fun hHeld2 => ?_)
  · (try dsimp only); first | with_reducible exact hS6 | exact HS.out _ (by first | with_reducible exact Kp.refl _ | with_reducible exact Kp.drew _ | with_reducible exact Kp.alloc _ _ | with_reducible exact (Kp.alloc _ _).trans (Kp.drew _) | with_reducible exact (Kp.drew _).trans (Kp.alloc _ _) | with_reducible exact ((Kp.drew _).trans (Kp.alloc _ _)).trans (Kp.drew _))
  clear hK K hHeld1
  (try simp only [Act.put, beA12, List.setIfInBounds_toArray, List.set_cons_zero, List.set_cons_succ])
  refine tkW (v := ?_) 13 beA13 rfl (by kernel_rfl) (by kernel_rfl) (by kernel_rfl) (fun _ _ _ h => h) (by rfl) ?_ (by assumption) ?_
  rotate_left
  · intro w hSw; (try dsimp only at hSw); go_simp; (try with_reducible rfl)
  (try simp only [Act.put, beA13, List.setIfInBounds_toArray, List.set_cons_zero, List.set_cons_succ])
  refine wpAnyH_done (by kernel_rfl) ?_ _
  obtain ⟨y1, yt, y11, y12, y13, y14, y15, y16, y17, y18⟩ := hS6
  have fg : w6.frozen? ⟨gl, rest.length, none⟩ = false := PGF.out.lists.frozenAt _
  have PC := Lib.hid PGF.out.commaSet
  have HB2 := Lib.hid (HBD.out.comma (v' := .slice ad6 (ms.length + 1) c6v) (wh := wh) (vw := .slice adw wh.l.length cpw))
  go_wp2
  go_ret2
  exact ⟨_, _, rfl, ⟨rfl, rfl, _, _, _, _, _, _, _, skOf_push _ _ _ _ _, HB2.out, PC.out.1⟩, TK6.out.trans PC.out.2⟩
set_option maxHeartbeats 16000000 in
set_option maxRecDepth 100000 in
theorem be_s {w0 w : World} {B n : Nat} {vl vt : Value} {ms : List NV} {rest rows : List (Value × List NV)} {ie : Bool} {st : ND} {vs : Value} {wh : ND} {vw : Value} (h : PM w0 w B n vl rows ie st vs wh vw) (hr : rows = (vt, ms) :: rest) (t : Tk) (hbd : Bd 1 n rows) (c5 : t.1 = 5) : Calls Tryd.prog 67 #[.pointer (some ⟨B, 0, none⟩), tokV t] w fun e w' => ∃ r1 r2 : Value, e = .returned (.tuple #[r1, r2]) ∧ RP w0 B (.go (.be n (skOf rest) (orN (ms.map Prod.fst ++ [wh])))) r1 r2 w' ∧ TokK w w' := by
  have MP := Lib.hid (fun w1 => misplaced_any t w1)
  have hmf : ∀ (fn : Fn) (first cap : Array Value) (w : World), (Instr.makeFunc fn first cap).run Tryd.prog w = .ok (.func fn first cap) w := fun _ _ _ _ => rfl
  subst hr
  have hm : ms.length ≤ 64 := by have a := hbd.1; have b := hbd.2.1; simp only [totR, List.map_cons, List.sum_cons, List.length_cons] at a; omega
  have hl : rest.length ≤ 8 := by have a := hbd.2.2; simp only [List.length_cons] at a; omega
  have HBD := Lib.hid hbd
  clear hbd
  obtain ⟨i0, hi, hz0, hz1, hz2⟩ := info_parts infoNode
  obtain ⟨adw, cpw, rfl⟩ := h.fw.slice
  obtain ⟨adt, ct, hvt⟩ := own_slice8 (h.row (vt, ms) (by simp))
  simp only at hvt
  subst hvt
  have hls := h.lists
  rw [List.length_cons, List.map_cons, List.reverse_cons] at hls
  obtain ⟨gl, cl, rfl, hcl⟩ : ∃ g c, vl = .slice (some ⟨g, 0, none⟩) (rest.length + 1) c ∧ rest.length + 1 ≤ c := by
    rcases hls.2 with ⟨_, e⟩ | ⟨g, cap, cur, e, _, _, hnc, _⟩
    · omega
    · exact ⟨g, cap, e, hnc⟩
  have z7 : rest.length ≤ cl := by omega
  have hlr : ((rest.map Prod.fst).reverse).length = rest.length := by rw [List.length_reverse, List.length_map]
  have PGL := Lib.hid (fun w1 v' (q : PG w0 w1 B n (.slice (some ⟨gl, 0, none⟩) (rest.length + 1) cl) (.slice adt ms.length ct) v' ms rest ie st vs wh (.slice adw wh.l.length cpw)) => show w1.cell? ⟨gl, rest.length, none⟩ = some (.slice adt ms.length ct) by
    rw [q.lists.cellAt _ (by omega), List.getElem?_append_right (by rw [hlr]; omega), hlr, Nat.sub_self]
    rfl)
  have cl0 : w.cell? ⟨gl, rest.length, none⟩ = some (.slice adt ms.length ct) := by
    rw [hls.cellAt _ (by omega), List.getElem?_append_right (by rw [hlr]; omega), hlr, Nat.sub_self]
    rfl
  have cw := h.c19
  obtain ⟨V, hV⟩ : ∃ x, x = w.alloc (.cells #[.int .i64 t.1, .int .i64 t.2.1, .string (bs t.2.2)] 56) := ⟨_, rfl⟩
  have kv : Kp w V := by rw [hV]; exact Kp.alloc _ _
  have gV : V.heap[w.heap.size]? = some (.cells #[.int .i64 t.1, .int .i64 t.2.1, .string (bs t.2.2)] 56 (0, 0)) := by rw [hV]; exact heap_at _ _ _ rfl
  have HS := Lib.hid (fun w' (k : Kp V w') => show w'.cell? ⟨B, 1, none⟩ = some (.slice (some ⟨gl, 0, none⟩) (rest.length + 1) cl) ∧ w'.cell? ⟨gl, rest.length, none⟩ = some (.slice adt ms.length ct) ∧ w'.cell? ⟨B, 11, none⟩ = some (.int .i64 wh.k) ∧ w'.cell? ⟨B, 12, none⟩ = some (.int .i64 wh.p.k) ∧ w'.cell? ⟨B, 13, none⟩ = some (.string wh.p.y) ∧ w'.cell? ⟨B, 14, none⟩ = some (.string wh.p.m) ∧ w'.cell? ⟨B, 15, none⟩ = some (.string wh.p.d) ∧ w'.cell? ⟨B, 16, none⟩ = some (.bool wh.a) ∧ w'.cell? ⟨B, 17, none⟩ = some (.bool wh.t) ∧ w'.cell? ⟨B, 18, none⟩ = some (.slice adw wh.l.length cpw) from ⟨cell_up k (cell_up kv cw.2.1), cell_up k (cell_up kv cl0), cell_up k (cell_up kv (cw.2.2.2.2.2.2.2.2.2.2.2.1)), cell_up k (cell_up kv (cw.2.2.2.2.2.2.2.2.2.2.2.2.1)), cell_up k (cell_up kv (cw.2.2.2.2.2.2.2.2.2.2.2.2.2.1)), cell_up k (cell_up kv (cw.2.2.2.2.2.2.2.2.2.2.2.2.2.2.1)), cell_up k (cell_up kv (cw.2.2.2.2.2.2.2.2.2.2.2.2.2.2.2.1)), cell_up k (cell_up kv (cw.2.2.2.2.2.2.2.2.2.2.2.2.2.2.2.2.1)), cell_up k (cell_up kv (cw.2.2.2.2.2.2.2.2.2.2.2.2.2.2.2.2.2.1)), cell_up k (cell_up kv (cw.2.2.2.2.2.2.2.2.2.2.2.2.2.2.2.2.2.2))⟩)
  have K0 := Lib.hid (h.kp.trans kv)
  have HV := Lib.hid hV
  have kx : Kp V (V.alloc (.cells #[.int .i64 wh.k, .int .i64 wh.p.k, .string wh.p.y, .string wh.p.m, .string wh.p.d, .bool wh.a, .bool wh.t, .slice adw wh.l.length cpw] 26)).drew := (Kp.alloc _ _).trans (Kp.drew _)
  have T1 := Lib.hid (h.go (kv.trans kx))
  have TKX := Lib.hid (TokK.kp kx)
  have TKV := Lib.hid (TokK.kp kv)
  have GVH := Lib.hid gV
  have TOP := Lib.hid (T1.out.row (.slice adt ms.length ct, ms) (by simp))
  have SRC := Lib.hid (show SrcAt (V.alloc (.cells #[.int .i64 wh.k, .int .i64 wh.p.k, .string wh.p.y, .string wh.p.m, .string wh.p.d, .bool wh.a, .bool wh.t, .slice adw wh.l.length cpw] 26)).drew (.slice (some ⟨V.heap.size, 0, none⟩) 1 1) 1 (cellsN [(wh, .slice adw wh.l.length cpw)]) from one_srcN (w := V) rfl wh (.slice adw wh.l.length cpw) 26)
  have ONE := Lib.hid (cellsN_one (w := w) (show ReadsN w [(wh, Value.slice adw wh.l.length cpw)] from fun p hp => by rw [List.mem_singleton.1 hp]; exact h.fw.nodes))
  have LE5 := Lib.hid (Below.size T1.out.kp)
  have GT := Lib.hid (fun w1 (k : Kp V w1) => heap_block k gV)
  have z1 : (rest.length : Int) < ((rest.length + 1 : Nat) : Int) := by omega
  have z2 : (0 : Int) ≤ (rest.length : Int) := by omega
  have z6 : (rest.length : Int) < (rest.length : Int) + 1 := by omega
  have z3 : ((rest.length + 1 : Nat) : Int) - 1 = (rest.length : Int) := by omega
  have z4 : ((rest.length + 1 : Nat) == 0) = false := by simp
  have z5 : (((rest.length + 1 : Nat) : Int) == 0) = false := beq_eq_false_iff_ne.2 (by omega)
  have wj : IntKind.i64.wrap (rest.length : Int) = (rest.length : Int) := by rw [IntKind.wrap_i64]; omega
  have d1 := cw.2.1
  have bw : B < w.heap.size := (Array.getElem?_eq_some_iff.1 h.box).1
  have c1 := (HS.out V (Kp.refl _)).1
  clear cw cl0 h hls kv gV kx hV
  obtain ⟨k, i, s⟩ := t
  simp only at c5
  subst c5
  unfold tokV at *
  simp only at HV GT GVH MP ⊢
  go_enter Tryd.func67, Tryd.ntmps67
  go_wp2_with fail
  rw [← HV.out]
  (try go_wp2_with fail)
  refine wp_region_held_drew (S := fun w' => w'.cell? ⟨B, 1, none⟩ = some (.slice (some ⟨gl, 0, none⟩) (rest.length + 1) cl) ∧ w'.cell? ⟨gl, rest.length, none⟩ = some (.slice adt ms.length ct) ∧ w'.cell? ⟨B, 11, none⟩ = some (.int .i64 wh.k) ∧ w'.cell? ⟨B, 12, none⟩ = some (.int .i64 wh.p.k) ∧ w'.cell? ⟨B, 13, none⟩ = some (.string wh.p.y) ∧ w'.cell? ⟨B, 14, none⟩ = some (.string wh.p.m) ∧ w'.cell? ⟨B, 15, none⟩ = some (.string wh.p.d) ∧ w'.cell? ⟨B, 16, none⟩ = some (.bool wh.a) ∧ w'.cell? ⟨B, 17, none⟩ = some (.bool wh.t) ∧ w'.cell? ⟨B, 18, none⟩ = some (.slice adw wh.l.length cpw)) (by kernel_rfl) ?_ (fun hHeld0 => ?_)
  · (try dsimp only); first | with_reducible exact hS6 | exact HS.out _ (by first | with_reducible exact Kp.refl _ | with_reducible exact Kp.drew _ | with_reducible exact Kp.alloc _ _ | with_reducible exact (Kp.alloc _ _).trans (Kp.drew _) | with_reducible exact (Kp.drew _).trans (Kp.alloc _ _) | with_reducible exact ((Kp.drew _).trans (Kp.alloc _ _)).trans (Kp.drew _))
  refine tkW (v := ?_) 0 beA0 rfl (by kernel_rfl) (by kernel_rfl) (by kernel_rfl) (fun _ _ _ h => h) (by rfl) ?_ (by assumption) ?_
  rotate_left
  · intro w hSw; (try dsimp only at hSw); go_simp; (try with_reducible rfl)
  (try simp only [Act.put, beA0, List.setIfInBounds_toArray, List.set_cons_zero, List.set_cons_succ])
  refine tkW (v := ?_) 1 beA1 rfl (by kernel_rfl) (by kernel_rfl) (by kernel_rfl) (fun _ _ _ h => h) (by rfl) ?_ (by assumption) ?_
  rotate_left
  · intro w hSw; (try dsimp only at hSw); go_simp; (try with_reducible rfl)
  (try simp only [Act.put, beA1, List.setIfInBounds_toArray, List.set_cons_zero, List.set_cons_succ])
  refine tkW (v := ?_) 2 beA2 rfl (by kernel_rfl) (by kernel_rfl) (by kernel_rfl) (fun _ _ _ h => h) (by rfl) ?_ (by assumption) ?_
  rotate_left
  · intro w hSw; (try dsimp only at hSw); go_simp; (try with_reducible rfl)
  (try simp only [Act.put, beA2, List.setIfInBounds_toArray, List.set_cons_zero, List.set_cons_succ])
  refine tkW (v := ?_) 3 beA3 rfl (by kernel_rfl) (by kernel_rfl) (by kernel_rfl) (fun _ _ _ h => h) (by rfl) ?_ (by assumption) ?_
  rotate_left
  · intro w hSw; (try dsimp only at hSw); go_simp; (try with_reducible rfl)
  (try simp only [Act.put, beA3, List.setIfInBounds_toArray, List.set_cons_zero, List.set_cons_succ])
  refine tkW (v := ?_) 4 beA4 rfl (by kernel_rfl) (by kernel_rfl) (by kernel_rfl) (fun _ _ _ h => h) (by rfl) ?_ (by assumption) ?_
  rotate_left
  · intro w hSw; (try dsimp only at hSw); go_simp; (try with_reducible rfl)
  (try simp only [Act.put, beA4, List.setIfInBounds_toArray, List.set_cons_zero, List.set_cons_succ])
  refine tkW (v := ?_) 5 beA5 rfl (by kernel_rfl) (by kernel_rfl) (by kernel_rfl) (fun _ _ _ h => h) (by rfl) ?_ (by assumption) ?_
  rotate_left
  · intro w hSw; (try dsimp only at hSw); go_simp; (try with_reducible rfl)
  (try simp only [Act.put, beA5, List.setIfInBounds_toArray, List.set_cons_zero, List.set_cons_succ])
  refine tkW (v := ?_) 6 beA6 rfl (by kernel_rfl) (by kernel_rfl) (by kernel_rfl) (fun _ _ _ h => h) (by rfl) ?_ (by assumption) ?_
  rotate_left
  · intro w hSw; (try dsimp only at hSw); go_simp; (try with_reducible rfl)
  (try simp only [Act.put, beA6, List.setIfInBounds_toArray, List.set_cons_zero, List.set_cons_succ])
  refine tkW (v := ?_) 7 beA7 rfl (by kernel_rfl) (by kernel_rfl) (by kernel_rfl) (fun _ _ _ h => h) (by rfl) ?_ (by assumption) ?_
  rotate_left
  · intro w hSw; (try dsimp only at hSw); go_simp; (try with_reducible rfl)
  (try simp only [Act.put, beA7, List.setIfInBounds_toArray, List.set_cons_zero, List.set_cons_succ])
  refine tkW (v := ?_) 8 beA8 rfl (by kernel_rfl) (by kernel_rfl) (by kernel_rfl) (fun _ _ _ h => h) (by rfl) ?_ (by assumption) ?_
  rotate_left
  · intro w hSw; (try dsimp only at hSw); go_simp; (try with_reducible rfl)
  (try simp only [Act.put, beA8, List.setIfInBounds_toArray, List.set_cons_zero, List.set_cons_succ])
  refine tkW (v := ?_) 9 beA9 rfl (by kernel_rfl) (by kernel_rfl) (by kernel_rfl) (fun _ _ _ h => h) (by rfl) ?_ (by assumption) ?_
  rotate_left
  · intro w hSw; (try dsimp only at hSw); go_simp; (try with_reducible rfl)
  (try simp only [Act.put, beA9, List.setIfInBounds_toArray, List.set_cons_zero, List.set_cons_succ])
  refine tkW (v := ?_) 10 beA10 rfl (by kernel_rfl) (by kernel_rfl) (by kernel_rfl) (fun _ _ _ h => h) (by rfl) ?_ (by assumption) ?_
  rotate_left
  · intro w hSw; (try dsimp only at hSw); go_simp; (try with_reducible rfl)
  (try simp only [Act.put, beA10, List.setIfInBounds_toArray, List.set_cons_zero, List.set_cons_succ])
  refine tkE 11 beA11 rfl (by kernel_rfl) (fun K hK => ?_)
  go_simp
  skip
  (try go_wp2_with fail)
  refine hK.out _ _ ?_ (fun hHeld1 => ?_)
  · (try dsimp only); first | with_reducible exact hS6 | exact HS.out _ (by first | with_reducible exact Kp.refl _ | with_reducible exact Kp.drew _ | with_reducible exact Kp.alloc _ _ | with_reducible exact (Kp.alloc _ _).trans (Kp.drew _) | with_reducible exact (Kp.drew _).trans (Kp.alloc _ _) | with_reducible exact ((Kp.drew _).trans (Kp.alloc _ _)).trans (Kp.drew _))
  clear hK K hHeld0
  (try simp only [Act.put, beA11, List.setIfInBounds_toArray, List.set_cons_zero, List.set_cons_succ])
  refine tkE 12 beA12 rfl (by kernel_rfl) (fun K hK => ?_)
  (refine step_app2 rfl (.tmp 31) (.tmp 36) 24 rfl w0.heap.size 26 i0 (.agg #[.int .i64 0, .int .i64 0, .string ⟨#[]⟩, .string ⟨#[]⟩, .string ⟨#[]⟩, .bool false, .bool false, .slice none 0 0]) 8 96 Tryd.underlying24 hi hz0 hz1 hz2 rfl (by decide) _ _ _ (by simp [Act.eval, Act.put]) TOP.out _ _ _ (by simp [Act.eval, Act.put]) SRC.out rfl ONE.out (by unfold maxLen; omega) (by omega) LE5.out ?_; intro v6 w6 own6 grow6 at6; obtain ⟨ad6, c6v, rfl⟩ := own_slice8 own6; have TKW := TKX.out.trans (TokK.grown TOP.out (by kernel_rfl) grow6); have gt6 := TKW _ _ _ GVH.out; have TK6 := Lib.hid (TKV.out.trans TKW); clear TKW; have u0 : w6.cell? ⟨w.heap.size, 0, none⟩ = some (.int .i64 5) := (by simp [World.cell?, gt6]); have u1 : w6.cell? ⟨w.heap.size, 1, none⟩ = some (.int .i64 i) := (by simp [World.cell?, gt6]); have u2 : w6.cell? ⟨w.heap.size, 2, none⟩ = some (.string (bs s)) := (by simp [World.cell?, gt6]); clear gt6; have PGF := Lib.hid (T1.out.grow own6 grow6 at6); have hS6 : w6.cell? ⟨B, 1, none⟩ = some (.slice (some ⟨gl, 0, none⟩) (rest.length + 1) cl) ∧ w6.cell? ⟨gl, rest.length, none⟩ = some (.slice adt ms.length ct) ∧ w6.cell? ⟨B, 11, none⟩ = some (.int .i64 wh.k) ∧ w6.cell? ⟨B, 12, none⟩ = some (.int .i64 wh.p.k) ∧ w6.cell? ⟨B, 13, none⟩ = some (.string wh.p.y) ∧ w6.cell? ⟨B, 14, none⟩ = some (.string wh.p.m) ∧ w6.cell? ⟨B, 15, none⟩ = some (.string wh.p.d) ∧ w6.cell? ⟨B, 16, none⟩ = some (.bool wh.a) ∧ w6.cell? ⟨B, 17, none⟩ = some (.bool wh.t) ∧ w6.cell? ⟨B, 18, none⟩ = some (.slice adw wh.l.length cpw) := ⟨(row19 PGF.out.box).2.1, PGL.out _ _ PGF.out, (row19 PGF.out.box).2.2.2.2.2.2.2.2.2.2.2.1, (row19 PGF.out.box).2.2.2.2.2.2.2.2.2.2.2.2.1, (row19 PGF.out.box).2.2.2.2.2.2.2.2.2.2.2.2.2.1, (row19 PGF.out.box).2.2.2.2.2.2.2.2.2.2.2.2.2.2.1, (row19 PGF.out.box).2.2.2.2.2.2.2.2.2.2.2.2.2.2.2.1, (row19 PGF.out.box).2.2.2.2.2.2.2.2.2.2.2.2.2.2.2.2.1, (row19 PGF.out.box).2.2.2.2.2.2.2.2.2.2.2.2.2.2.2.2.2.1, (row19 PGF.out.box).2.2.2.2.2.2.2.2.2.2.2.2.2.2.2.2.2.2⟩)
  (try go_wp2_with fail)
  refine hK.out _ _ ?_ (fun hHeld2 => ?_)
  · (try dsimp only); first | with_reducible exact hS6 | exact HS.out _ (by first | with_reducible exact Kp.refl _ | with_reducible exact Kp.drew _ | with_reducible exact Kp.alloc _ _ | with_reducible exact (Kp.alloc _ _).trans (Kp.drew _) | with_reducible exact (Kp.drew _).trans (Kp.alloc _ _) | with_reducible exact ((Kp.drew _).trans (Kp.alloc _ _)).trans (Kp.drew _))
  clear hK K hHeld1
  (try simp only [Act.put, beA12, List.setIfInBounds_toArray, List.set_cons_zero, List.set_cons_succ])
  refine tkW (v := ?_) 13 beA13 rfl (by kernel_rfl) (by kernel_rfl) (by kernel_rfl) (fun _ _ _ h => h) (by rfl) ?_ (by assumption) ?_
  rotate_left
  · intro w hSw; (try dsimp only at hSw); go_simp; (try with_reducible rfl)
  (try simp only [Act.put, beA13, List.setIfInBounds_toArray, List.set_cons_zero, List.set_cons_succ])
  refine wpAnyH_done (by kernel_rfl) ?_ _
  obtain ⟨y1, yt, y11, y12, y13, y14, y15, y16, y17, y18⟩ := hS6
  have fb : ∀ i, w6.frozen? ⟨B, i, none⟩ = false := fun i => by simp [World.frozen?, PGF.out.box]
  have fb1 := fb 1
  clear fb
  have CO := Lib.hid (fun w1 => oneOf_any (.slice ad6 (ms.length + 1) c6v) ((ms ++ [(wh, Value.slice adw wh.l.length cpw)]).map Prod.fst) w1 ⟨ad6, c6v, by simp⟩)
  go_wp2_with fail
  refine (CO.out _).mono ?_
  rintro e w7 ⟨he, kk⟩
  have he2 : e = .returned (.agg #[.int .i64 2, .int .i64 0, .string ⟨#[]⟩, .string ⟨#[]⟩, .string ⟨#[]⟩, .bool false, .bool false, .slice ad6 (ms.length + 1) c6v]) := he
  clear he
  subst he2
  have hbx : w7.heap[B]? = some (.cells (setsA (boxP n (.slice (some ⟨gl, 0, none⟩) (rest.length + 1) cl) ie st vs wh (.slice adw wh.l.length cpw)).toArray 1 [.slice (some ⟨gl, 0, none⟩) rest.length cl]) 52 (0, 0)) := heap_block kk (sets_heap [.slice (some ⟨gl, 0, none⟩) rest.length cl] 1 PGF.out.box)
  have hbq : setsA (boxP n (.slice (some ⟨gl, 0, none⟩) (rest.length + 1) cl) ie st vs wh (.slice adw wh.l.length cpw)).toArray 1 [.slice (some ⟨gl, 0, none⟩) rest.length cl] = (boxP n (.slice (some ⟨gl, 0, none⟩) rest.length cl) ie st vs wh (.slice adw wh.l.length cpw)).toArray := by kernel_rfl
  rw [hbq] at hbx
  clear hbq
  have SH := Lib.hid (PGF.out.shutSet kk)
  clear kk
  have fb : ∀ i, w7.frozen? ⟨B, i, none⟩ = false := fun i => by simp [World.frozen?, hbx]
  obtain ⟨-, -, -, -, -, -, -, -, -, -, -, p11, p12, p13, p14, p15, p16, p17, p18⟩ := row19 hbx
  have g1 := fb 11
  have g2 := fb 12
  have g3 := fb 13
  have g4 := fb 14
  have g5 := fb 15
  have g6 := fb 16
  have g7 := fb 17
  have g8 := fb 18
  have HB2 := Lib.hid HBD.out.shut
  clear fb hbx y1 yt y11 y12 y13 y14 y15 y16 y17 y18
  go_wp2
  go_ret2
  have q := SH.out.1
  rw [show (ms ++ [(wh, Value.slice adw wh.l.length cpw)]).map Prod.fst = ms.map Prod.fst ++ [wh] from by simp] at q
  exact ⟨_, _, rfl, ⟨rfl, rfl, _, _, _, _, _, _, rfl, HB2.out, q⟩, TK6.out.trans SH.out.2⟩
end Go.Proofs.YtndmohamjffpcaaDoor

namespace Go.Proofs.YtndmohamjffpcaaDoor
open Go.RowKit Go.Shelf
set_option linter.unusedVariables false
set_option linter.unusedSimpArgs false
theorem own_twoP (w : World) (n m : ND) (v u : Value) : (w.alloc (.cells #[.int .i64 n.k, .int .i64 n.p.k, .string n.p.y, .string n.p.m, .string n.p.d, .bool n.a, .bool n.t, v, .int .i64 m.k, .int .i64 m.p.k, .string m.p.y, .string m.p.m, .string m.p.d, .bool m.a, .bool m.t, u] 26)).ownsRow w.heap.size 26 8 (.slice (some ⟨w.heap.size, 0, none⟩) 2 2) [(n, v), (m, u)].length (cellsN [(n, v), (m, u)]) :=
  ⟨rfl, .inr ⟨w.heap.size, 2, _, rfl, Nat.le_refl _, heap_at _ _ _ rfl, Nat.le_refl _, by decide, rfl, rfl⟩⟩
set_option maxHeartbeats 4000000 in
set_option maxRecDepth 100000 in
theorem between_own (n m : ND) (v u : Value) (w : World) : Calls Tryd.prog 68 #[ndV n v, ndV m u] w fun e w' => ∃ s : Value, e = .returned (.agg #[.int .i64 1, .int .i64 0, .string ⟨#[]⟩, .string ⟨#[]⟩, .string ⟨#[]⟩, .bool false, .bool false, s]) ∧ w'.ownsRow w.heap.size 26 8 s 2 (cellsN [(n, v), (m, u)]) ∧ Kp w w' := by
  obtain ⟨k, pk, y, q, d, a, t, l, rfl⟩ := nd_dest n
  obtain ⟨k', pk', y', q', d', a', t', l', rfl⟩ := nd_dest m
  unfold ndV
  simp only [ND.k, ND.p, ND.a, ND.t]
  go_enter Tryd.func68, Tryd.ntmps68
  go_wp2
  obtain ⟨W2, hW2⟩ : ∃ W, W = (w.alloc (.cells #[.int .i64 k, .int .i64 pk, .string y, .string q, .string d, .bool a, .bool t, v] 26)).alloc (.cells #[.int .i64 k', .int .i64 pk', .string y', .string q', .string d', .bool a', .bool t', u] 26) := ⟨_, rfl⟩
  have kW : Kp w W2 := by rw [hW2]; exact (Kp.alloc _ _).trans (Kp.alloc _ _)
  have zW : W2.heap.size = w.heap.size + 1 + 1 := by rw [hW2]; simp
  rw [← hW2]
  obtain ⟨W3, hW3⟩ : ∃ W, W = W2.alloc (.cells #[.int .i64 1, .int .i64 0, .string ⟨#[]⟩, .string ⟨#[]⟩, .string ⟨#[]⟩, .bool false, .bool false, .slice (some ⟨w.heap.size + 1 + 1 + 1, 0, none⟩) 2 2] 26) := ⟨_, rfl⟩
  have kW3 : Kp W2 W3 := by rw [hW3]; exact Kp.alloc _ _
  have zW3 : W3.heap.size = w.heap.size + 1 + 1 + 1 := by rw [hW3]; simp [zW]
  have g3 : W3.heap[w.heap.size + 1 + 1]? = some (.cells #[.int .i64 1, .int .i64 0, .string ⟨#[]⟩, .string ⟨#[]⟩, .string ⟨#[]⟩, .bool false, .bool false, .slice (some ⟨w.heap.size + 1 + 1 + 1, 0, none⟩) 2 2] 26 (0, 0)) := by rw [hW3]; exact heap_at _ _ _ zW
  rw [← hW3]
  obtain ⟨W4, hW4⟩ : ∃ W, W = W3.alloc (.cells #[.int .i64 k, .int .i64 pk, .string y, .string q, .string d, .bool a, .bool t, v, .int .i64 k', .int .i64 pk', .string y', .string q', .string d', .bool a', .bool t', u] 26) := ⟨_, rfl⟩
  have kW4 : Kp W3 W4 := by rw [hW4]; exact Kp.alloc _ _
  have ow : W4.ownsRow W3.heap.size 26 8 (.slice (some ⟨W3.heap.size, 0, none⟩) 2 2) 2 (cellsN [(.mk k ⟨pk, y, q, d⟩ a t l, v), (.mk k' ⟨pk', y', q', d'⟩ a' t' l', u)]) := by rw [hW4]; exact own_twoP W3 (.mk k ⟨pk, y, q, d⟩ a t l) (.mk k' ⟨pk', y', q', d'⟩ a' t' l') v u
  rw [zW3] at ow
  obtain ⟨x0, x1, x2, x3, x4, x5, x6, x7⟩ := row8 (heap_block kW4 g3)
  rw [← hW4]
  have KK : Kp w W4 := kW.trans (kW3.trans kW4)
  refine bodyPost_ret (v := .agg #[.int .i64 1, .int .i64 0, .string ⟨#[]⟩, .string ⟨#[]⟩, .string ⟨#[]⟩, .bool false, .bool false, .slice (some ⟨w.heap.size + 1 + 1 + 1, 0, none⟩) 2 2]) (by simp [results, Tryd.results68, go_sem, x0, x1, x2, x3, x4, x5, x6, x7]) rfl ⟨_, rfl, own_mono ow (by omega), KK⟩
theorem range_in {w : World} {B : Nat} {t : TypeId} {fr : Nat × Nat} {a : Array Value} (h : w.heap[B]? = some (.cells a t fr)) (o : Nat) (cs : List Value) (e : ∀ j v, cs[j]? = some v → a[o + j]? = some v) : w.rangeAt B o cs := fun j v hv => by
  have := e j v hv
  simp [World.cell?, h, this]
theorem there_in {w : World} {B : Nat} {t : TypeId} {a : Array Value} (h : w.heap[B]? = some (.cells a t (0, 0))) (o n : Nat) (e : o + n ≤ a.size) : w.there B o n := fun j hj => by
  have hl : o + j < a.size := by omega
  refine ⟨?_, by simp [World.frozen?, h]⟩
  simp [World.cell?, h, hl]
/-- what has been read is a span -/
theorem PM.span {w0 w w1 W : World} {B n : Nat} {vl : Value} {rows : List (Value × List NV)} {ie : Bool} {st : ND} {vs : Value} {wh : ND} {vw : Value} (h : PM w0 w B n vl rows ie st vs wh vw) {s : Value} {base : Nat} (hb : w.heap.size ≤ base)
    (k : Kp w w1) (own : w1.ownsRow base 26 8 s 2 (cellsN [(st, vs), (wh, vw)])) (hW : W = w1.setCells B 11 [.int .i64 1, .int .i64 0, .string ⟨#[]⟩, .string ⟨#[]⟩, .string ⟨#[]⟩, .bool false, .bool false, s]) :
    PM w0 W B n vl rows ie st vs (btN st wh) s := by
  have h1 := h.go k
  rw [hW]
  refine h1.sets 11 _ (n' := n) (ie' := ie) (st' := st) (vs' := vs) (wh' := btN st wh) (vw' := s) (by kernel_rfl) ?_ h1.fs
  refine .row s [(st, vs), (wh, vw)] (own_mono own (Nat.le_trans (Below.size h.kp) hb)) (fun j hj => ?_) (fun p hp => ?_)
  · rintro ⟨r, hr, e⟩
    have a := (own.lt j hj).1
    have b := ((h.row r hr).lt j e).2
    omega
  · simp only [List.mem_cons, List.not_mem_nil, or_false] at hp
    rcases hp with rfl | rfl
    · exact h1.fs
    · exact h1.fw
theorem be_any {w0 w : World} {B n : Nat} {vl : Value} {rows : List (Value × List NV)} {ie : Bool} {st : ND} {vs : Value} {wh : ND} {vw : Value} (h : PM w0 w B n vl rows ie st vs wh vw) (hbd : Bd 1 n rows) (t : Tk) :
    Calls Tryd.prog 67 #[.pointer (some ⟨B, 0, none⟩), tokV t] w fun e w' => ∃ r1 r2 : Value, e = .returned (.tuple #[r1, r2]) ∧ RP w0 B (beM n (skOf rows) wh t) r1 r2 w' ∧ TokK w w' := by
  cases hr : rows with
  | nil => exact be_none (rows := rows) h hr t
  | cons r rest =>
    obtain ⟨vt, ms⟩ := r
    have e : beM n (skOf ((vt, ms) :: rest)) wh t = (if t.1 = 6 then .go (.ex n ((ms.map Prod.fst ++ [wh]) :: skOf rest)) else if t.1 = 5 then .go (.be n (skOf rest) (orN (ms.map Prod.fst ++ [wh]))) else .er (misM t)) := rfl
    rw [e]
    by_cases c6 : t.1 = 6
    · rw [if_pos c6]
      exact be_c h hr t hbd c6
    · rw [if_neg c6]
      by_cases c5 : t.1 = 5
      · rw [if_pos c5]
        exact be_s h hr t hbd c5
      · rw [if_neg c5]
        exact be_x h hr t hbd c6 c5
abbrev bsA0 : Oper := { dst := some 6, op := Go.Op.move (Go.Operand.tmp 0), type := 75, pos := "parse.go:120", after := #[], guard := none }
abbrev bsA1 : Oper := { dst := some 7, op := Go.Op.move (Go.Operand.tmp 0), type := 75, pos := "parse.go:120", after := #[], guard := none }
abbrev bsA2 : Oper := { dst := some 8, op := Go.Op.nilCheck (Go.Operand.tmp 7), type := 0, pos := "parse.go:120", after := #[{ on := 1, ground := Go.Ground.data }], guard := none }
abbrev bsA3 : Oper := { dst := some 9, op := Go.Op.fieldAddr 52 (Go.Operand.tmp 8) 3, type := 0, pos := "parse.go:120", after := #[{ on := 2, ground := Go.Ground.data }], guard := none }
abbrev bsA4 : Oper := { dst := some 10, op := Go.Op.load 26 (Go.Operand.tmp 9), type := 26, pos := "parse.go:120", after := #[{ on := 3, ground := Go.Ground.data }], guard := none }
abbrev bsA5 : Oper := { dst := some 11, op := Go.Op.move (Go.Operand.tmp 0), type := 75, pos := "parse.go:120", after := #[], guard := none }
abbrev bsA6 : Oper := { dst := some 12, op := Go.Op.nilCheck (Go.Operand.tmp 11), type := 0, pos := "parse.go:120", after := #[{ on := 5, ground := Go.Ground.data }], guard := none }
abbrev bsA7 : Oper := { dst := some 13, op := Go.Op.fieldAddr 52 (Go.Operand.tmp 12) 4, type := 0, pos := "parse.go:120", after := #[{ on := 6, ground := Go.Ground.data }], guard := none }
abbrev bsA8 : Oper := { dst := some 14, op := Go.Op.load 26 (Go.Operand.tmp 13), type := 26, pos := "parse.go:120", after := #[{ on := 7, ground := Go.Ground.data }], guard := none }
abbrev bsA9 : Oper := { dst := some 15, op := Go.Op.call { callee := Go.Callee.value (Go.Operand.func 68), args := #[Go.Operand.tmp 10, Go.Operand.tmp 14], argTypes := #[26, 26] }, type := 26, pos := "parse.go:120", after := #[{ on := 4, ground := Go.Ground.data }, { on := 8, ground := Go.Ground.data }], guard := none }
abbrev bsA10 : Oper := { dst := some 16, op := Go.Op.nilCheck (Go.Operand.tmp 6), type := 0, pos := "parse.go:120", after := #[{ on := 0, ground := Go.Ground.data }, { on := 0, ground := Go.Ground.phase }, { on := 1, ground := Go.Ground.phase }, { on := 2, ground := Go.Ground.phase }, { on := 3, ground := Go.Ground.phase }, { on := 4, ground := Go.Ground.phase }, { on := 5, ground := Go.Ground.phase }, { on := 6, ground := Go.Ground.phase }, { on := 7, ground := Go.Ground.phase }, { on := 8, ground := Go.Ground.phase }, { on := 9, ground := Go.Ground.phase }], guard := none }
abbrev bsA11 : Oper := { dst := some 17, op := Go.Op.fieldAddr 52 (Go.Operand.tmp 16) 4, type := 0, pos := "parse.go:120", after := #[{ on := 10, ground := Go.Ground.data }, { on := 0, ground := Go.Ground.phase }, { on := 1, ground := Go.Ground.phase }, { on := 2, ground := Go.Ground.phase }, { on := 3, ground := Go.Ground.phase }, { on := 4, ground := Go.Ground.phase }, { on := 5, ground := Go.Ground.phase }, { on := 6, ground := Go.Ground.phase }, { on := 7, ground := Go.Ground.phase }, { on := 8, ground := Go.Ground.phase }, { on := 9, ground := Go.Ground.phase }], guard := none }
abbrev bsA12 : Oper := { dst := none, op := Go.Op.store 26 (Go.Operand.tmp 17) (Go.Operand.tmp 15), type := 0, pos := "parse.go:120", after := #[{ on := 11, ground := Go.Ground.data }, { on := 9, ground := Go.Ground.data }, { on := 9, ground := Go.Ground.chain }, { on := 0, ground := Go.Ground.phase }, { on := 1, ground := Go.Ground.phase }, { on := 2, ground := Go.Ground.phase }, { on := 3, ground := Go.Ground.phase }, { on := 4, ground := Go.Ground.phase }, { on := 5, ground := Go.Ground.phase }, { on := 6, ground := Go.Ground.phase }, { on := 7, ground := Go.Ground.phase }, { on := 8, ground := Go.Ground.phase }, { on := 9, ground := Go.Ground.phase }], guard := none }
set_option maxHeartbeats 16000000 in
set_option maxRecDepth 100000 in
theorem bs_any {w0 w : World} {B n : Nat} {vl : Value} {rows : List (Value × List NV)} {ie : Bool} {st : ND} {vs : Value} {wh : ND} {vw : Value} (h : PM w0 w B n vl rows ie st vs wh vw) (hbd : Bd 1 n rows) (t : Tk) :
    Calls Tryd.prog 60 #[.pointer (some ⟨B, 0, none⟩), tokV t] w fun e w' => ∃ r1 r2 : Value, e = .returned (.tuple #[r1, r2]) ∧ RP w0 B (beM n (skOf rows) (btN st wh) t) r1 r2 w' ∧ TokK w w' := by
  have BE := Lib.hid (fun w1 wh' vw' (q : PM w0 w1 B n vl rows ie st vs wh' vw') => be_any q hbd t)
  have BT := Lib.hid (fun w1 => show Calls Tryd.prog 68 #[.agg [.int .i64 st.k, .int .i64 st.p.k, .string st.p.y, .string st.p.m, .string st.p.d, .bool st.a, .bool st.t, vs].toArray, .agg [.int .i64 wh.k, .int .i64 wh.p.k, .string wh.p.y, .string wh.p.m, .string wh.p.d, .bool wh.a, .bool wh.t, vw].toArray] w1 _ from between_own st wh vs vw w1)
  obtain ⟨V, hV⟩ : ∃ x, x = w.alloc (.cells #[.int .i64 t.1, .int .i64 t.2.1, .string (bs t.2.2)] 56) := ⟨_, rfl⟩
  have kv : Kp w V := by rw [hV]; exact Kp.alloc _ _
  have gV : V.heap[w.heap.size]? = some (.cells #[.int .i64 t.1, .int .i64 t.2.1, .string (bs t.2.2)] 56 (0, 0)) := by rw [hV]; exact heap_at _ _ _ rfl
  have HP := Lib.hid (h.go kv)
  have R3 := Lib.hid (fun w' (k : Kp V w') => show w'.rangeAt B 3 [.int .i64 st.k, .int .i64 st.p.k, .string st.p.y, .string st.p.m, .string st.p.d, .bool st.a, .bool st.t, vs] from range_in ((h.go (kv.trans k)).box) 3 _ (by
    intro j v hv
    match j, hv with
    | 0, hv => exact hv
    | 1, hv => exact hv
    | 2, hv => exact hv
    | 3, hv => exact hv
    | 4, hv => exact hv
    | 5, hv => exact hv
    | 6, hv => exact hv
    | 7, hv => exact hv
    | j + 8, hv => simp at hv))
  have R11 := Lib.hid (fun w' (k : Kp V w') => show w'.rangeAt B 11 [.int .i64 wh.k, .int .i64 wh.p.k, .string wh.p.y, .string wh.p.m, .string wh.p.d, .bool wh.a, .bool wh.t, vw] from range_in ((h.go (kv.trans k)).box) 11 _ (by
    intro j v hv
    match j, hv with
    | 0, hv => exact hv
    | 1, hv => exact hv
    | 2, hv => exact hv
    | 3, hv => exact hv
    | 4, hv => exact hv
    | 5, hv => exact hv
    | 6, hv => exact hv
    | 7, hv => exact hv
    | j + 8, hv => simp at hv))
  have HTH := Lib.hid (fun w' (k : Kp V w') => show w'.there B 11 8 from there_in ((h.go (kv.trans k)).box) 11 8 (by simp [boxP]))
  have SBT := Lib.hid (fun w' (k : Kp V w') => show w'.cell? ⟨B, 0, none⟩ = some (.int .i64 n) from (row19 ((h.go (kv.trans k)).box)).1)
  have GVH := Lib.hid gV
  have TKV := Lib.hid (TokK.kp kv)
  have bw : B < w.heap.size := (Array.getElem?_eq_some_iff.1 h.box).1
  have HV := Lib.hid hV
  obtain ⟨k, i, sx⟩ := t
  unfold tokV at *
  simp only at HV GVH BE ⊢
  obtain ⟨res, hres⟩ : ∃ z, beM n (skOf rows) (btN st wh) (k, i, sx) = z := ⟨_, rfl⟩
  rw [hres]
  have HRES := Lib.hid hres
  clear h kv gV hV hbd hres
  go_enter Tryd.func60, Tryd.ntmps60
  go_wp2_with fail
  rw [← HV.out]
  (try go_wp2_with fail)
  refine wp_region_held_drew (S := fun w' => w'.cell? ⟨B, 0, none⟩ = some (.int .i64 n)) (by kernel_rfl) ?_ (fun hHeld0 => ?_)
  · (try dsimp only); first | exact SBT.out _ (by first | with_reducible exact Kp.refl _ | with_reducible exact Kp.drew _ | with_reducible exact (Kp.drew _).trans (Kp.drew _)) | exact sb | exact (row19 PF.out.box).1
  refine tkW (v := ?_) 0 bsA0 rfl (by kernel_rfl) (by kernel_rfl) (by kernel_rfl) (fun _ _ _ h => h) (by rfl) ?_ (by assumption) ?_
  rotate_left
  · intro w hSw; (try dsimp only at hSw); go_simp; (try with_reducible rfl)
  (try simp only [Act.put, bsA0, List.setIfInBounds_toArray, List.set_cons_zero, List.set_cons_succ])
  refine tkW (v := ?_) 1 bsA1 rfl (by kernel_rfl) (by kernel_rfl) (by kernel_rfl) (fun _ _ _ h => h) (by rfl) ?_ (by assumption) ?_
  rotate_left
  · intro w hSw; (try dsimp only at hSw); go_simp; (try with_reducible rfl)
  (try simp only [Act.put, bsA1, List.setIfInBounds_toArray, List.set_cons_zero, List.set_cons_succ])
  refine tkW (v := ?_) 2 bsA2 rfl (by kernel_rfl) (by kernel_rfl) (by kernel_rfl) (fun _ _ _ h => h) (by rfl) ?_ (by assumption) ?_
  rotate_left
  · intro w hSw; (try dsimp only at hSw); go_simp; (try with_reducible rfl)
  (try simp only [Act.put, bsA2, List.setIfInBounds_toArray, List.set_cons_zero, List.set_cons_succ])
  refine tkW (v := ?_) 3 bsA3 rfl (by kernel_rfl) (by kernel_rfl) (by kernel_rfl) (fun _ _ _ h => h) (by rfl) ?_ (by assumption) ?_
  rotate_left
  · intro w hSw; (try dsimp only at hSw); go_simp; (try with_reducible rfl)
  (try simp only [Act.put, bsA3, List.setIfInBounds_toArray, List.set_cons_zero, List.set_cons_succ])
  refine tkW (v := ?_) 5 bsA5 rfl (by kernel_rfl) (by kernel_rfl) (by kernel_rfl) (fun _ _ _ h => h) (by rfl) ?_ (by assumption) ?_
  rotate_left
  · intro w hSw; (try dsimp only at hSw); go_simp; (try with_reducible rfl)
  (try simp only [Act.put, bsA5, List.setIfInBounds_toArray, List.set_cons_zero, List.set_cons_succ])
  refine tkW (v := ?_) 6 bsA6 rfl (by kernel_rfl) (by kernel_rfl) (by kernel_rfl) (fun _ _ _ h => h) (by rfl) ?_ (by assumption) ?_
  rotate_left
  · intro w hSw; (try dsimp only at hSw); go_simp; (try with_reducible rfl)
  (try simp only [Act.put, bsA6, List.setIfInBounds_toArray, List.set_cons_zero, List.set_cons_succ])
  refine tkW (v := ?_) 7 bsA7 rfl (by kernel_rfl) (by kernel_rfl) (by kernel_rfl) (fun _ _ _ h => h) (by rfl) ?_ (by assumption) ?_
  rotate_left
  · intro w hSw; (try dsimp only at hSw); go_simp; (try with_reducible rfl)
  (try simp only [Act.put, bsA7, List.setIfInBounds_toArray, List.set_cons_zero, List.set_cons_succ])
  refine tkE2 4 8 bsA4 bsA8 rfl rfl (by kernel_rfl) (fun K hK => ?_) (fun K hK => ?_)
  · (refine ce_load rfl 26 (.tmp 9) rfl B 3 (by simp [Act.eval, Act.put]) [.int .i64 st.k, .int .i64 st.p.k, .string st.p.y, .string st.p.m, .string st.p.d, .bool st.a, .bool st.t, vs] _ (R3.out _ (by first | with_reducible exact Kp.refl _ | with_reducible exact Kp.drew _ | with_reducible exact (Kp.drew _).trans (Kp.drew _))) Tryd.underlying26 rfl (by kernel_rfl) ?_)
    (try go_wp2_with fail)
    refine hK.out _ _ ?_ (fun hHeld1 => ?_)
    · (try dsimp only); first | exact SBT.out _ (by first | with_reducible exact Kp.refl _ | with_reducible exact Kp.drew _ | with_reducible exact (Kp.drew _).trans (Kp.drew _)) | exact sb | exact (row19 PF.out.box).1
    clear hK K hHeld0
    (try simp only [Act.put, bsA4, List.setIfInBounds_toArray, List.set_cons_zero, List.set_cons_succ])
    refine tkE 8 bsA8 rfl (by kernel_rfl) (fun K hK => ?_)
    (refine ce_load rfl 26 (.tmp 13) rfl B 11 (by simp [Act.eval, Act.put]) [.int .i64 wh.k, .int .i64 wh.p.k, .string wh.p.y, .string wh.p.m, .string wh.p.d, .bool wh.a, .bool wh.t, vw] _ (R11.out _ (by first | with_reducible exact Kp.refl _ | with_reducible exact Kp.drew _ | with_reducible exact (Kp.drew _).trans (Kp.drew _))) Tryd.underlying26 rfl (by kernel_rfl) ?_)
    (try go_wp2_with fail)
    refine hK.out _ _ ?_ (fun hHeld2 => ?_)
    · (try dsimp only); first | exact SBT.out _ (by first | with_reducible exact Kp.refl _ | with_reducible exact Kp.drew _ | with_reducible exact (Kp.drew _).trans (Kp.drew _)) | exact sb | exact (row19 PF.out.box).1
    clear hK K hHeld1
    (try simp only [Act.put, bsA8, List.setIfInBounds_toArray, List.set_cons_zero, List.set_cons_succ])
    refine tkE 9 bsA9 rfl (by kernel_rfl) (fun K hK => ?_)
    go_simp
    (refine (BT.out _).mono ?_; rintro e wb ⟨s, rfl, ow, k1⟩; obtain ⟨ads, cps, rfl⟩ := own_slice8 ow; have kb : Kp V wb := Kp.trans (show Kp V _ from (by first | with_reducible exact Kp.refl _ | with_reducible exact Kp.drew _ | with_reducible exact (Kp.drew _).trans (Kp.drew _))) k1; have SP := Lib.hid (fun W (hW : W = wb.setCells B 11 [.int .i64 1, .int .i64 0, .string ⟨#[]⟩, .string ⟨#[]⟩, .string ⟨#[]⟩, .bool false, .bool false, .slice ads 2 cps]) => HP.out.span (by simp) kb ow hW); have TB := Lib.hid (HTH.out _ kb); have TQ := Lib.hid ((TokK.kp kb).trans ((HP.out.go kb).tok 11 [.int .i64 1, .int .i64 0, .string ⟨#[]⟩, .string ⟨#[]⟩, .string ⟨#[]⟩, .bool false, .bool false, .slice ads 2 cps]));  have sb := SBT.out _ kb; clear k1 ow kb)
    (try go_wp2_with fail)
    refine hK.out _ _ ?_ (fun hHeld3 => ?_)
    · (try dsimp only); first | exact SBT.out _ (by first | with_reducible exact Kp.refl _ | with_reducible exact Kp.drew _ | with_reducible exact (Kp.drew _).trans (Kp.drew _)) | exact sb | exact (row19 PF.out.box).1
    clear hK K hHeld2
    (try simp only [Act.put, bsA9, List.setIfInBounds_toArray, List.set_cons_zero, List.set_cons_succ])
    refine tkW (v := ?_) 10 bsA10 rfl (by kernel_rfl) (by kernel_rfl) (by kernel_rfl) (fun _ _ _ h => h) (by rfl) ?_ (by assumption) ?_
    rotate_left
    · intro w hSw; (try dsimp only at hSw); go_simp; (try with_reducible rfl)
    (try simp only [Act.put, bsA10, List.setIfInBounds_toArray, List.set_cons_zero, List.set_cons_succ])
    refine tkW (v := ?_) 11 bsA11 rfl (by kernel_rfl) (by kernel_rfl) (by kernel_rfl) (fun _ _ _ h => h) (by rfl) ?_ (by assumption) ?_
    rotate_left
    · intro w hSw; (try dsimp only at hSw); go_simp; (try with_reducible rfl)
    (try simp only [Act.put, bsA11, List.setIfInBounds_toArray, List.set_cons_zero, List.set_cons_succ])
    refine tkE 12 bsA12 rfl (by kernel_rfl) (fun K hK => ?_)
    (obtain ⟨F, hF⟩ : ∃ x, x = wb.setCells B 11 [.int .i64 1, .int .i64 0, .string ⟨#[]⟩, .string ⟨#[]⟩, .string ⟨#[]⟩, .bool false, .bool false, .slice ads 2 cps] := ⟨_, rfl⟩; have PF := Lib.hid (SP.out F hF); have HF := Lib.hid hF; have tF : TokK V F := (by rw [hF]; exact TQ.out); have gF := tF _ _ _ GVH.out; have TF := Lib.hid (TKV.out.trans tF); clear tF; have u0 : F.cell? ⟨w.heap.size, 0, none⟩ = some (.int .i64 k) := (by simp [World.cell?, gF]); have u1 : F.cell? ⟨w.heap.size, 1, none⟩ = some (.int .i64 i) := (by simp [World.cell?, gF]); have u2 : F.cell? ⟨w.heap.size, 2, none⟩ = some (.string (bs sx)) := (by simp [World.cell?, gF]); clear gF hF; refine ce_store rfl 26 (.tmp 17) (.tmp 15) rfl B 11 [.int .i64 1, .int .i64 0, .string ⟨#[]⟩, .string ⟨#[]⟩, .string ⟨#[]⟩, .bool false, .bool false, .slice ads 2 cps] (by simp [Act.eval, Act.put]) (by simp [Act.eval, Act.put]) TB.out (by kernel_rfl) (all_oneCell_toArray (by intro v hv; simp only [List.mem_cons, List.not_mem_nil, or_false] at hv; rcases hv with rfl | rfl | rfl | rfl | rfl | rfl | rfl | rfl <;> rfl)) HF.out.symm ?_)
    (try go_wp2_with fail)
    refine hK.out _ _ ?_ (fun hHeld4 => ?_)
    · (try dsimp only); first | exact SBT.out _ (by first | with_reducible exact Kp.refl _ | with_reducible exact Kp.drew _ | with_reducible exact (Kp.drew _).trans (Kp.drew _)) | exact sb | exact (row19 PF.out.box).1
    clear hK K hHeld3
    (try simp only [Act.put, bsA12, List.setIfInBounds_toArray, List.set_cons_zero, List.set_cons_succ])
    refine wpAnyH_done (by kernel_rfl) ?_ _
    go_wp2_with fail
    have q := BE.out F _ _ PF.out
    rw [HRES.out] at q
    refine q.mono ?_
    rintro e w9 ⟨r1, r2, rfl, rp, tk⟩
    have RPH := Lib.hid rp
    have TK9 := Lib.hid (TF.out.trans tk)
    clear rp tk
    go_wp2
    go_ret2
    exact ⟨_, _, rfl, RPH.out, TK9.out⟩
  · (refine ce_load rfl 26 (.tmp 13) rfl B 11 (by simp [Act.eval, Act.put]) [.int .i64 wh.k, .int .i64 wh.p.k, .string wh.p.y, .string wh.p.m, .string wh.p.d, .bool wh.a, .bool wh.t, vw] _ (R11.out _ (by first | with_reducible exact Kp.refl _ | with_reducible exact Kp.drew _ | with_reducible exact (Kp.drew _).trans (Kp.drew _))) Tryd.underlying26 rfl (by kernel_rfl) ?_)
    (try go_wp2_with fail)
    refine hK.out _ _ ?_ (fun hHeld1 => ?_)
    · (try dsimp only); first | exact SBT.out _ (by first | with_reducible exact Kp.refl _ | with_reducible exact Kp.drew _ | with_reducible exact (Kp.drew _).trans (Kp.drew _)) | exact sb | exact (row19 PF.out.box).1
    clear hK K hHeld0
    (try simp only [Act.put, bsA8, List.setIfInBounds_toArray, List.set_cons_zero, List.set_cons_succ])
    refine tkE 4 bsA4 rfl (by kernel_rfl) (fun K hK => ?_)
    (refine ce_load rfl 26 (.tmp 9) rfl B 3 (by simp [Act.eval, Act.put]) [.int .i64 st.k, .int .i64 st.p.k, .string st.p.y, .string st.p.m, .string st.p.d, .bool st.a, .bool st.t, vs] _ (R3.out _ (by first | with_reducible exact Kp.refl _ | with_reducible exact Kp.drew _ | with_reducible exact (Kp.drew _).trans (Kp.drew _))) Tryd.underlying26 rfl (by kernel_rfl) ?_)
    (try go_wp2_with fail)
    refine hK.out _ _ ?_ (fun hHeld2 => ?_)
    · (try dsimp only); first | exact SBT.out _ (by first | with_reducible exact Kp.refl _ | with_reducible exact Kp.drew _ | with_reducible exact (Kp.drew _).trans (Kp.drew _)) | exact sb | exact (row19 PF.out.box).1
    clear hK K hHeld1
    (try simp only [Act.put, bsA4, List.setIfInBounds_toArray, List.set_cons_zero, List.set_cons_succ])
    refine tkE 9 bsA9 rfl (by kernel_rfl) (fun K hK => ?_)
    go_simp
    (refine (BT.out _).mono ?_; rintro e wb ⟨s, rfl, ow, k1⟩; obtain ⟨ads, cps, rfl⟩ := own_slice8 ow; have kb : Kp V wb := Kp.trans (show Kp V _ from (by first | with_reducible exact Kp.refl _ | with_reducible exact Kp.drew _ | with_reducible exact (Kp.drew _).trans (Kp.drew _))) k1; have SP := Lib.hid (fun W (hW : W = wb.setCells B 11 [.int .i64 1, .int .i64 0, .string ⟨#[]⟩, .string ⟨#[]⟩, .string ⟨#[]⟩, .bool false, .bool false, .slice ads 2 cps]) => HP.out.span (by simp) kb ow hW); have TB := Lib.hid (HTH.out _ kb); have TQ := Lib.hid ((TokK.kp kb).trans ((HP.out.go kb).tok 11 [.int .i64 1, .int .i64 0, .string ⟨#[]⟩, .string ⟨#[]⟩, .string ⟨#[]⟩, .bool false, .bool false, .slice ads 2 cps]));  have sb := SBT.out _ kb; clear k1 ow kb)
    (try go_wp2_with fail)
    refine hK.out _ _ ?_ (fun hHeld3 => ?_)
    · (try dsimp only); first | exact SBT.out _ (by first | with_reducible exact Kp.refl _ | with_reducible exact Kp.drew _ | with_reducible exact (Kp.drew _).trans (Kp.drew _)) | exact sb | exact (row19 PF.out.box).1
    clear hK K hHeld2
    (try simp only [Act.put, bsA9, List.setIfInBounds_toArray, List.set_cons_zero, List.set_cons_succ])
    refine tkW (v := ?_) 10 bsA10 rfl (by kernel_rfl) (by kernel_rfl) (by kernel_rfl) (fun _ _ _ h => h) (by rfl) ?_ (by assumption) ?_
    rotate_left
    · intro w hSw; (try dsimp only at hSw); go_simp; (try with_reducible rfl)
    (try simp only [Act.put, bsA10, List.setIfInBounds_toArray, List.set_cons_zero, List.set_cons_succ])
    refine tkW (v := ?_) 11 bsA11 rfl (by kernel_rfl) (by kernel_rfl) (by kernel_rfl) (fun _ _ _ h => h) (by rfl) ?_ (by assumption) ?_
    rotate_left
    · intro w hSw; (try dsimp only at hSw); go_simp; (try with_reducible rfl)
    (try simp only [Act.put, bsA11, List.setIfInBounds_toArray, List.set_cons_zero, List.set_cons_succ])
    refine tkE 12 bsA12 rfl (by kernel_rfl) (fun K hK => ?_)
    (obtain ⟨F, hF⟩ : ∃ x, x = wb.setCells B 11 [.int .i64 1, .int .i64 0, .string ⟨#[]⟩, .string ⟨#[]⟩, .string ⟨#[]⟩, .bool false, .bool false, .slice ads 2 cps] := ⟨_, rfl⟩; have PF := Lib.hid (SP.out F hF); have HF := Lib.hid hF; have tF : TokK V F := (by rw [hF]; exact TQ.out); have gF := tF _ _ _ GVH.out; have TF := Lib.hid (TKV.out.trans tF); clear tF; have u0 : F.cell? ⟨w.heap.size, 0, none⟩ = some (.int .i64 k) := (by simp [World.cell?, gF]); have u1 : F.cell? ⟨w.heap.size, 1, none⟩ = some (.int .i64 i) := (by simp [World.cell?, gF]); have u2 : F.cell? ⟨w.heap.size, 2, none⟩ = some (.string (bs sx)) := (by simp [World.cell?, gF]); clear gF hF; refine ce_store rfl 26 (.tmp 17) (.tmp 15) rfl B 11 [.int .i64 1, .int .i64 0, .string ⟨#[]⟩, .string ⟨#[]⟩, .string ⟨#[]⟩, .bool false, .bool false, .slice ads 2 cps] (by simp [Act.eval, Act.put]) (by simp [Act.eval, Act.put]) TB.out (by kernel_rfl) (all_oneCell_toArray (by intro v hv; simp only [List.mem_cons, List.not_mem_nil, or_false] at hv; rcases hv with rfl | rfl | rfl | rfl | rfl | rfl | rfl | rfl <;> rfl)) HF.out.symm ?_)
    (try go_wp2_with fail)
    refine hK.out _ _ ?_ (fun hHeld4 => ?_)
    · (try dsimp only); first | exact SBT.out _ (by first | with_reducible exact Kp.refl _ | with_reducible exact Kp.drew _ | with_reducible exact (Kp.drew _).trans (Kp.drew _)) | exact sb | exact (row19 PF.out.box).1
    clear hK K hHeld3
    (try simp only [Act.put, bsA12, List.setIfInBounds_toArray, List.set_cons_zero, List.set_cons_succ])
    refine wpAnyH_done (by kernel_rfl) ?_ _
    go_wp2_with fail
    have q := BE.out F _ _ PF.out
    rw [HRES.out] at q
    refine q.mono ?_
    rintro e w9 ⟨r1, r2, rfl, rp, tk⟩
    have RPH := Lib.hid rp
    have TK9 := Lib.hid (TF.out.trans tk)
    clear rp tk
    go_wp2
    go_ret2
    exact ⟨_, _, rfl, RPH.out, TK9.out⟩
end Go.Proofs.YtndmohamjffpcaaDoor
