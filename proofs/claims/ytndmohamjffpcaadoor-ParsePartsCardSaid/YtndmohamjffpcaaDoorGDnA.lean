/-
  Joined: Nrow.
-/
import Derived.Test.YtndmohamjffpcaaDoorGTrB
import Derived.Test.YtndmohamjffpcaaDoorApp
import Derived.LoopTactic
namespace Go.Proofs.YtndmohamjffpcaaDoor
open Go.RowKit
set_option linter.unusedVariables false
set_option linter.unusedSimpArgs false
abbrev NV := ND × Value
/-- the cells of nodes, their slices given -/
def cellsN : List NV → List Value
  | [] => []
  | (n, x) :: t => .int .i64 n.k :: .int .i64 n.p.k :: .string n.p.y :: .string n.p.m :: .string n.p.d :: .bool n.a :: .bool n.t :: x :: cellsN t
theorem cellsN_length : ∀ l : List NV, (cellsN l).length = l.length * 8 := by
  intro l
  induction l with
  | nil => rfl
  | cons f t ih => obtain ⟨f, x⟩ := f; unfold cellsN; simp [ih]; omega
theorem cellsN_append (l m : List NV) : cellsN (l ++ m) = cellsN l ++ cellsN m := by
  induction l with
  | nil => rfl
  | cons f t ih => obtain ⟨f, x⟩ := f; simp only [List.cons_append, cellsN, ih]
/-- the slices read -/
def ReadsN (w : World) (l : List NV) : Prop := ∀ p ∈ l, NodesAt w p.2 p.1.l
theorem ReadsN.kp {w w' : World} {l : List NV} (h : ReadsN w l) (k : Kp w w') : ReadsN w' l := fun p hp => (h p hp).kp k
theorem ReadsN.append {w : World} {l m : List NV} (h : ReadsN w l) (g : ReadsN w m) : ReadsN w (l ++ m) := fun p hp => (List.mem_append.1 hp).elim (h p) (g p)
theorem cellsN_at : ∀ (l : List NV) (i : Nat) (h : i < l.length), (cellsN l)[i * 8]? = some (.int .i64 (l[i]'h).1.k) ∧ (cellsN l)[i * 8 + 1]? = some (.int .i64 (l[i]'h).1.p.k) ∧ (cellsN l)[i * 8 + 2]? = some (.string (l[i]'h).1.p.y) ∧ (cellsN l)[i * 8 + 3]? = some (.string (l[i]'h).1.p.m) ∧
    (cellsN l)[i * 8 + 4]? = some (.string (l[i]'h).1.p.d) ∧ (cellsN l)[i * 8 + 5]? = some (.bool (l[i]'h).1.a) ∧ (cellsN l)[i * 8 + 6]? = some (.bool (l[i]'h).1.t) ∧ (cellsN l)[i * 8 + 7]? = some (l[i]'h).2 := by
  intro l
  induction l with
  | nil => intro i h; simp at h
  | cons f t ih =>
    intro i h
    obtain ⟨f, x⟩ := f
    unfold cellsN
    cases i with
    | zero => exact ⟨rfl, rfl, rfl, rfl, rfl, rfl, rfl, rfl⟩
    | succ i =>
      have g := ih i (by simpa using h)
      rw [show (i + 1) * 8 = i * 8 + 1 + 1 + 1 + 1 + 1 + 1 + 1 + 1 by omega]
      simp only [List.getElem?_cons_succ, List.getElem_cons_succ]
      exact g
theorem nodes_one {w : World} {v : Value} {l : List ND} (h : NodesAt w v l) : v.oneCell' = true := by
  obtain ⟨ad, c, rfl⟩ := h.slice
  rfl
theorem cellsN_one {w : World} : ∀ {l : List NV}, ReadsN w l → ∀ u ∈ cellsN l, u.oneCell' = true := by
  intro l
  induction l with
  | nil => intro _ u hu; cases hu
  | cons f t ih =>
    intro h u hu
    obtain ⟨f, x⟩ := f
    have h0 := h (f, x) List.mem_cons_self
    unfold cellsN at hu
    simp only [List.mem_cons] at hu
    rcases hu with rfl | rfl | rfl | rfl | rfl | rfl | rfl | rfl | hu
    · rfl
    · rfl
    · rfl
    · rfl
    · rfl
    · rfl
    · rfl
    · exact nodes_one h0
    · exact ih (fun p hp => h p (List.mem_cons_of_mem _ hp)) u hu
theorem nodes_vals {w : World} {l : List ND} (b off : Nat) (vs : Nat → Value) : (∀ i, i < l.length → RowN w b (off + i * 8) (nth l i) (vs i)) → (∀ i, i < l.length → NodesAt w (vs i) (nth l i).l) → ∃ m : List NV, m.map Prod.fst = l ∧ ReadsN w m ∧ ∀ j u, (cellsN m)[j]? = some u → w.cell? ⟨b, off + j, none⟩ = some u := by
  induction l generalizing off vs with
  | nil => intro _ _; exact ⟨[], rfl, fun p hp => (by cases hp), fun j u hu => (by simp [cellsN] at hu)⟩
  | cons f t ih =>
    intro h g
    obtain ⟨c0, c1, c2, c3, c4, c5, c6, c7⟩ := h 0 (by simp)
    have ra := g 0 (by simp)
    obtain ⟨m, hm, hr, hc⟩ := ih (off + 8) (fun i => vs (i + 1)) (fun i hi => by
      have := h (i + 1) (by simpa using hi)
      rw [show off + (i + 1) * 8 = off + 8 + i * 8 by omega] at this
      exact this) (fun i hi => g (i + 1) (by simpa using hi))
    have e0 : nth (f :: t) 0 = f := rfl
    rw [e0] at c0 c1 c2 c3 c4 c5 c6 ra
    refine ⟨(f, vs 0) :: m, by simp [hm], fun p hp => ?_, fun j u hu => ?_⟩
    · rcases List.mem_cons.1 hp with rfl | hp
      · exact ra
      · exact hr p hp
    · unfold cellsN at hu
      match j, hu with
      | 0, hu => cases hu; simpa using c0
      | 1, hu => cases hu; simpa using c1
      | 2, hu => cases hu; simpa using c2
      | 3, hu => cases hu; simpa using c3
      | 4, hu => cases hu; simpa using c4
      | 5, hu => cases hu; simpa using c5
      | 6, hu => cases hu; simpa using c6
      | 7, hu => cases hu; simpa using c7
      | j + 8, hu =>
        have := hc j u (by simpa using hu)
        rw [show off + 8 + j = off + (j + 8) by omega] at this
        exact this
theorem NodesAt.src {w : World} {v : Value} {l : List ND} (h : NodesAt w v l) : ∃ m : List NV, m.map Prod.fst = l ∧ ReadsN w m ∧ ∀ w', Kp w w' → SrcAt w' v l.length (cellsN m) := by
  cases h with
  | none ad c => exact ⟨[], rfl, fun p hp => (by cases hp), fun w' k => .inl ⟨_, _, rfl, rfl, rfl⟩⟩
  | row l b off cap vs hp hc hm hr hs =>
    obtain ⟨m, hm, hr, hc⟩ := nodes_vals b off vs hr hs
    exact ⟨m, hm, hr, fun w' k => .inr ⟨_, _, rfl, fun j u hu => by rw [Addr.add_lit]; exact cell_up k (hc j u hu)⟩⟩
theorem nodesAt_own {w : World} {base : Nat} {e : TypeId} {v : Value} {m : List NV} (h : w.ownsRow base e 8 v m.length (cellsN m)) (r : ReadsN w m) : NodesAt w v (m.map Prod.fst) := by
  rcases h.2 with ⟨e1, h0⟩ | ⟨g, cp, cur, rfl, h2, h3, h4, h5, h6, h7⟩
  · have : m = [] := List.length_eq_zero_iff.1 h0
    subst this
    rw [e1]
    exact .none _ _
  · by_cases hz : m.length = 0
    · have : m = [] := List.length_eq_zero_iff.1 hz
      subst this
      exact .none _ _
    · have := NodesAt.row (w := w) (m.map Prod.fst) g 0 cp (fun i => (m.map Prod.snd).getD i (.bool false)) (by rw [List.length_map]; omega) (by rw [List.length_map]; exact h4) h5 (fun i hi => by
        rw [List.length_map] at hi
        obtain ⟨c0, c1, c2, c3, c4, c5, c6, c7⟩ := cellsN_at m i hi
        have e : nth (m.map Prod.fst) i = (m[i]'hi).1 := by unfold nth; rw [List.getD_eq_getElem?_getD, List.getElem?_map, List.getElem?_eq_getElem hi]; rfl
        have e2 : (m.map Prod.snd).getD i (.bool false) = (m[i]'hi).2 := by rw [List.getD_eq_getElem?_getD, List.getElem?_map, List.getElem?_eq_getElem hi]; rfl
        rw [e, e2, Nat.zero_add]
        refine ⟨?_, ?_, ?_, ?_, ?_, ?_, ?_, ?_⟩
        · rw [h.cellAt _ (by omega)]; exact c0
        · rw [h.cellAt _ (by omega)]; exact c1
        · rw [h.cellAt _ (by omega)]; exact c2
        · rw [h.cellAt _ (by omega)]; exact c3
        · rw [h.cellAt _ (by omega)]; exact c4
        · rw [h.cellAt _ (by omega)]; exact c5
        · rw [h.cellAt _ (by omega)]; exact c6
        · rw [h.cellAt _ (by omega)]; exact c7) (fun i hi => by
        rw [List.length_map] at hi
        have e : nth (m.map Prod.fst) i = (m[i]'hi).1 := by unfold nth; rw [List.getD_eq_getElem?_getD, List.getElem?_map, List.getElem?_eq_getElem hi]; rfl
        have e2 : (m.map Prod.snd).getD i (.bool false) = (m[i]'hi).2 := by rw [List.getD_eq_getElem?_getD, List.getElem?_map, List.getElem?_eq_getElem hi]; rfl
        rw [e, e2]
        exact r _ (List.getElem_mem hi))
      rwa [List.length_map] at this
theorem infoNode : (Tryd.prog.info? 26).map (fun i => (i.zero, i.size, i.bytes)) = some (some (.agg #[.int .i64 0, .int .i64 0, .string ⟨#[]⟩, .string ⟨#[]⟩, .string ⟨#[]⟩, .bool false, .bool false, .slice none 0 0]), 8, 96) := by kernel_rfl
theorem setCell_grown (w : World) (b o : Nat) (u : Value) : w.grownBy (w.setCell ⟨b, o, none⟩ u) (some b) :=
  ⟨rfl, rfl, rfl, by unfold World.setCell; simp, fun k hk hn => ps_other (fun e => hn (by rw [e])) o u⟩
theorem own_setCell {w : World} {base : Nat} {e : TypeId} {size : Nat} {v : Value} {n : Nat} {xs : List Value} {b : Nat} (h : w.ownsRow base e size v n xs) (hb : b < base) (o : Nat) (u : Value) : (w.setCell ⟨b, o, none⟩ u).ownsRow base e size v n xs := by
  refine h.kept (setCell_grown w b o u) ?_
  cases hv : v.ownBlock with
  | none => exact .inl rfl
  | some k => exact .inr fun c => by cases c; have := (h.lt b hv).1; omega
theorem kp_setCell {w w' : World} (k : Kp w w') {b : Nat} (hb : w.heap.size ≤ b) (o : Nat) (u : Value) : Kp w (w'.setCell ⟨b, o, none⟩ u) := Below.setCell k (p := ⟨b, o, none⟩) hb u
theorem own_slice8 {w : World} {base : Nat} {e : TypeId} {v : Value} {n : Nat} {xs : List Value} (h : w.ownsRow base e 8 v n xs) : ∃ ad c, v = .slice ad n c := by
  rcases h.2 with ⟨e1, h0⟩ | ⟨g, cp, cur, rfl, _⟩
  · exact ⟨none, 0, by rw [e1, h0]⟩
  · exact ⟨_, _, rfl⟩
/-- one node that is built: the slice of it -/
theorem one_srcN {w : World} {b : Nat} (hb : w.heap.size = b) (n : ND) (v : Value) (t : TypeId) : SrcAt (w.alloc (.cells #[.int .i64 n.k, .int .i64 n.p.k, .string n.p.y, .string n.p.m, .string n.p.d, .bool n.a, .bool n.t, v] t)) (.slice (some ⟨b, 0, none⟩) 1 1) 1 (cellsN [(n, v)]) := by
  refine .inr ⟨_, _, rfl, fun j u hu => ?_⟩
  rw [Addr.add_lit]
  have h := heap_at w (.cells #[.int .i64 n.k, .int .i64 n.p.k, .string n.p.y, .string n.p.m, .string n.p.d, .bool n.a, .bool n.t, v] t) b hb
  have q := row8 h
  unfold cellsN at hu
  match j, hu with
  | 0, hu => cases hu; exact q.1
  | 1, hu => cases hu; exact q.2.1
  | 2, hu => cases hu; exact q.2.2.1
  | 3, hu => cases hu; exact q.2.2.2.1
  | 4, hu => cases hu; exact q.2.2.2.2.1
  | 5, hu => cases hu; exact q.2.2.2.2.2.1
  | 6, hu => cases hu; exact q.2.2.2.2.2.2.1
  | 7, hu => cases hu; exact q.2.2.2.2.2.2.2
  | j + 8, hu => simp [cellsN] at hu
end Go.Proofs.YtndmohamjffpcaaDoor
