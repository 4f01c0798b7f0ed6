import Derived.Test.YtajllgjfndfdjaaGreatDoorGTr
import Derived.Test.YtajllgjfndfdjaaGreatDoorGL8
import Derived.Test.YtajllgjfndfdjaaGreatDoorGLex
import Derived.Test.YtajllgjfndfdjaaGreatDoorGLeafA
namespace Go.Proofs.YtajllgjfndfdjaaGreatDoor
set_option linter.unusedVariables false
set_option linter.unusedSimpArgs false
def mrk (b : Bool) (c : UInt8) : List UInt8 := if b then [c] else []
def tlP (p : PT) : List UInt8 := (textP p).data.toList
mutual
def txN : ND → List UInt8
 | .mk k p a t l => if k = 0 then tlP p ++ (mrk a 63 ++ mrk t 126) else if k = 1 then txJ l [] [47] else if k = 2 then txJ l [91] [44, 32] ++ [93] else if k = 3 then [46, 46] else if k = 4 then [42] else []
def txJ : List ND → List UInt8 → List UInt8 → List UInt8
 | [], _, _ => []
 | x :: l, b, c => b ++ (txN x ++ txJ l c c)
end
theorem txJ_append : ∀ (l m : List ND) (b c : List UInt8), l ≠ [] → txJ (l ++ m) b c = txJ l b c ++ txJ m c c
 | [], m, b, c, h => absurd rfl h
 | [x], m, b, c, _ => by simp [txJ]
 | x :: y :: l, m, b, c, _ => by
  show b ++ (txN x ++ txJ ((y :: l) ++ m) c c) = (b ++ (txN x ++ txJ (y :: l) c c)) ++ txJ m c c
  rw [txJ_append (y :: l) m c c (by simp)]
  simp only [List.append_assoc]
theorem txJ_take {l : List ND} {i : Nat} (h : i < l.length) (b c : List UInt8) : txJ (l.take (i + 1)) b c = txJ (l.take i) b c ++ ((if i = 0 then b else c) ++ txN (nth l i)) := by
 rw [nth_take h]
 cases i with
 | zero => simp [txJ]
 | succ i =>
  rw [txJ_append _ _ _ _ (by intro e; have := congrArg List.length e; rw [List.length_take, List.length_nil] at this; omega), if_neg (by omega)]
  simp [txJ]
def textN (n : ND) : List UInt8 := if saneN saneP n then txN n else []
theorem txt_list (s : ByteArray) : s.data.toList.length = s.size := by rw [Array.length_toList]; rfl
theorem mask_w {s : ByteArray} (h : saneM s = true) : ∀ c ∈ s.data.toList, isW c = true ∧ c ≠ 91 := by
 intro c hc
 have m := mk_of h
 obtain ⟨i, hi, rfl⟩ := List.getElem_of_mem hc
 have hi' : i < s.size := by rwa [txt_list] at hi
 have g := m.ok i hi'
 have e : bt s i = (s.data.toList[i]'hi).toNat := by unfold bt; rw [List.getD_eq_getElem?_getD, List.getElem?_eq_getElem hi]; rfl
 rw [e] at g
 generalize s.data.toList[i]'hi = c at *
 have w : ∀ n : Nat, n < 256 → (n = 88 ∨ (48 ≤ n ∧ n ≤ 57)) → isW (UInt8.ofNat n) = true ∧ UInt8.ofNat n ≠ 91 := by decide +kernel
 have := w c.toNat c.toNat_lt g
 rwa [UInt8.ofNat_toNat] at this
theorem fit_w {s : ByteArray} {n m : Int} (h : fitP s n m = true) : ∀ c ∈ s.data.toList, isW c = true := by
 intro c hc
 unfold fitP at h
 split at h
 ·have := of_decide_eq_true h
  have e := txt_list s
  rw [this] at e
  rw [List.length_eq_zero_iff.1 e] at hc
  cases hc
 ·rw [Bool.and_eq_true] at h
  have g := of_decide_eq_true h.2
  rcases Bool.eq_false_or_eq_true (saneM s) with e | e
  ·exact (mask_w e c hc).1
  ·exfalso
   unfold matR setM at g
   rw [if_neg (by rw [e]; decide)] at g
   simp [interR] at g
   have := nf_len ([] : List R)
   simp only [List.length_nil] at this
   omega
theorem tlP_w {p : PT} (h : saneP p = true) : (∀ c ∈ tlP p, isW c = true) ∧ tlP p ≠ [] := by
 have h2 := h
 unfold saneP at h2
 simp only [Bool.and_eq_true] at h2
 obtain ⟨hk, _, hy, hm, hd⟩ := h2
 have hk := of_decide_eq_true hk
 have wy := fun c hc => (mask_w hy c hc).1
 have wm := fit_w hm
 have wd := fit_w hd
 clear hy hm hd
 refine ⟨?_, ?_⟩
 ·unfold tlP textP
  rw [if_pos h]
  obtain ⟨k, y, m, d⟩ := p
  simp only at *
  have W : ∀ c, c = 45 ∨ c = 115 ∨ c = 100 ∨ c = 99 → isW c = true := by intro c hc; rcases hc with rfl | rfl | rfl | rfl <;> decide
  have dsh : dash.data.toList = [45] := rfl
  rcases kinds6 hk with rfl | rfl | rfl | rfl | rfl | rfl
  ·intro c hc
   rw [if_pos rfl] at hc
   simp only [ByteArray.data_append, Array.toList_append, List.mem_append, dsh, List.mem_singleton] at hc
   rcases hc with h | (h | h) | h | h
   ·exact wy c h
   ·exact W c (.inl h)
   ·exact wm c h
   ·exact W c (.inl h)
   ·exact wd c h
  ·intro c hc
   rw [if_neg (by decide), if_pos rfl] at hc
   simp only [ByteArray.data_append, Array.toList_append, List.mem_append, dsh, List.mem_singleton] at hc
   rcases hc with h | (h | h) | h
   ·exact wy c h
   ·exact W c (.inl h)
   ·exact wm c h
   ·cases h
  ·intro c hc
   rw [if_neg (by decide), if_neg (by decide), if_pos rfl] at hc
   simp only [ByteArray.data_append, Array.toList_append, List.mem_append, List.mem_singleton] at hc
   rcases hc with h | h | h
   ·exact wy c h
   ·exact W c (.inr (.inl (by simpa using h)))
   ·exact wm c h
  all_goals
   intro c hc
   rw [if_neg (by decide), if_neg (by decide), if_neg (by decide)] at hc
   simp only [ByteArray.data_append, Array.toList_append, List.mem_append] at hc
   rcases hc with h | h
   ·exact wy c h
  ·cases h
  ·exact W c (.inr (.inr (.inl (by simpa [shp] using h))))
  ·exact W c (.inr (.inr (.inr (by simpa [shp] using h))))
 ·intro e
  have := text_some h
  have e2 := txt_list (textP p)
  unfold tlP at e
  rw [e] at e2
  exact this e2.symm
theorem tlP_inj {p q : PT} (hp : saneP p = true) (hq : saneP q = true) (h : tlP p = tlP q) : p = q := by
 have e : textP p = textP q := by
  unfold tlP at h
  generalize textP p = a at *
  generalize textP q = b at *
  obtain ⟨⟨a⟩⟩ := a
  obtain ⟨⟨b⟩⟩ := b
  simp only at h
  rw [h]
 have a := read_back hp
 have b := read_back hq
 rw [e, b] at a
 exact (congrArg Prod.fst a).symm
theorem tlP_len {p : PT} (h : saneP p = true) : (tlP p).length ≤ 10 := by
 unfold tlP
 rw [txt_list, text_len h]
 unfold txtLen
 (repeat' split) <;> decide
theorem mrk_len (b : Bool) (c : UInt8) : (mrk b c).length ≤ 1 := by cases b <;> simp [mrk]
theorem endN_kind {n : ND} (h : endN saneP n = true) : (∃ p a t, n = .mk 0 p a t [] ∧ saneP p = true) ∨ n = .mk 3 ⟨0, ⟨#[]⟩, ⟨#[]⟩, ⟨#[]⟩⟩ false false [] ∨ n = .mk 4 ⟨0, ⟨#[]⟩, ⟨#[]⟩, ⟨#[]⟩⟩ false false [] := by
 have hl := endN_leaf h
 obtain ⟨k, p, a, t, l⟩ := n
 obtain rfl : l = [] := hl
 unfold endN at h
 simp only [ND.k, ND.p, ND.l, Bool.or_eq_true, Bool.and_eq_true, beq_iff_eq] at h
 have bare : ∀ {k : Int}, bareN (.mk k p a t []) = true → p = ⟨0, ⟨#[]⟩, ⟨#[]⟩, ⟨#[]⟩⟩ ∧ a = false ∧ t = false := by
  intro k hb
  unfold bareN bareP at hb
  obtain ⟨pk, y, m, d⟩ := p
  simp only [ND.p, ND.a, ND.t, Bool.and_eq_true, decide_eq_true_eq, Bool.not_eq_true'] at hb
  obtain ⟨⟨h1, h2, h3, h4⟩, h5, h6⟩ := hb
  have g1 : pk = 0 := by first | exact h1 | exact of_decide_eq_true h1
  have g2 : y = ⟨#[]⟩ := size_zero (by first | exact h2 | exact of_decide_eq_true h2)
  have g3 : m = ⟨#[]⟩ := size_zero (by first | exact h3 | exact of_decide_eq_true h3)
  have g4 : d = ⟨#[]⟩ := size_zero (by first | exact h4 | exact of_decide_eq_true h4)
  rw [g1, g2, g3, g4]
  exact ⟨rfl, h5, h6⟩
 rcases h with ⟨rfl, h, _⟩ | ⟨h | h, h2, _⟩
 ·exact .inl ⟨p, a, t, rfl, h⟩
 ·subst h
  obtain ⟨rfl, rfl, rfl⟩ := bare h2
  exact .inr (.inl rfl)
 ·subst h
  obtain ⟨rfl, rfl, rfl⟩ := bare h2
  exact .inr (.inr rfl)
theorem bareN_eq {k : Int} {p : PT} {a t : Bool} {l : List ND} (h : bareN (.mk k p a t l) = true) : p = ⟨0, ⟨#[]⟩, ⟨#[]⟩, ⟨#[]⟩⟩ ∧ a = false ∧ t = false := by
 unfold bareN bareP at h
 obtain ⟨pk, y, m, d⟩ := p
 simp only [ND.p, ND.a, ND.t, Bool.and_eq_true, decide_eq_true_eq, Bool.not_eq_true'] at h
 obtain ⟨⟨h1, h2, h3, h4⟩, h5, h6⟩ := h
 have g1 : pk = 0 := by first | exact h1 | exact of_decide_eq_true h1
 have g2 : y = ⟨#[]⟩ := size_zero (by first | exact h2 | exact of_decide_eq_true h2)
 have g3 : m = ⟨#[]⟩ := size_zero (by first | exact h3 | exact of_decide_eq_true h3)
 have g4 : d = ⟨#[]⟩ := size_zero (by first | exact h4 | exact of_decide_eq_true h4)
 rw [g1, g2, g3, g4]
 exact ⟨rfl, h5, h6⟩
theorem rightN_kind {n : ND} (h : rightN saneP n = true) : (∃ p a t, n = .mk 0 p a t [] ∧ saneP p = true) ∨ (∃ x y, n = .mk 1 ⟨0, ⟨#[]⟩, ⟨#[]⟩, ⟨#[]⟩⟩ false false [x, y] ∧ endN saneP x = true ∧ endN saneP y = true) ∨
  ∃ x l, n = .mk 2 ⟨0, ⟨#[]⟩, ⟨#[]⟩, ⟨#[]⟩⟩ false false (x :: l) ∧ rightL saneP (x :: l) = true := by
 obtain ⟨k, p, a, t, l⟩ := n
 unfold rightN at h
 simp only [Bool.or_eq_true, Bool.and_eq_true, beq_iff_eq] at h
 rcases h with ⟨rfl, h⟩ | ⟨rfl, h, h2⟩ | ⟨rfl, h, h2, h3⟩
 ·rcases endN_kind h with ⟨p', a', t', e, hp⟩ | e | e
  ·exact .inl ⟨p', a', t', e, hp⟩
  ·simp at e
  ·simp at e
 ·obtain ⟨rfl, rfl, rfl⟩ := bareN_eq h
  match l, h2 with
  | [x, y], h2 =>
   simp only [twoN, Bool.and_eq_true] at h2
   exact .inr (.inl ⟨x, y, rfl, h2⟩)
 ·obtain ⟨rfl, rfl, rfl⟩ := bareN_eq h
  match l, h2, h3 with
  | x :: l, _, h3 => exact .inr (.inr ⟨x, l, rfl, h3⟩)
theorem end_len {n : ND} (h : endN saneP n = true) : (txN n).length + 2 ≤ 14 * cntN n ∧ 1 ≤ (txN n).length := by
 rcases endN_kind h with ⟨p, a, t, rfl, hp⟩ | rfl | rfl
 ·have l1 := tlP_len hp
  have l2 := mrk_len a 63
  have l3 := mrk_len t 126
  have l4 := List.length_pos_iff.2 (tlP_w hp).2
  simp only [txN, if_true, cntN, cntL, List.length_append]
  omega
 ·decide
 ·decide
mutual
theorem txN_len : ∀ n : ND, rightN saneP n = true → (txN n).length + 2 ≤ 14 * cntN n ∧ 1 ≤ (txN n).length
 | .mk k p a t l, h => by
  rcases rightN_kind h with ⟨p', a', t', e, hp⟩ | ⟨x, y, e, hx, hy⟩ | ⟨x, l', e, hl⟩
  ·exact end_len (by rw [e]; simp [endN, ND.k, ND.p, ND.l, hp])
  ·simp only [ND.mk.injEq] at e
   obtain ⟨rfl, rfl, rfl, rfl, rfl⟩ := e
   have a := end_len hx
   have b := end_len hy
   simp only [txN, txJ, cntN, cntL, if_neg (show ¬ (1 : Int) = 0 by decide), if_true, List.length_append, List.length_nil, List.length_cons]
   omega
  ·simp only [ND.mk.injEq] at e
   obtain ⟨rfl, rfl, rfl, rfl, e5⟩ := e
   rw [← e5] at hl
   have g := txJ_len l hl [91] [44, 32] (by decide)
   simp only [txN, cntN, if_neg (show ¬ (2 : Int) = 0 by decide), if_neg (show ¬ (2 : Int) = 1 by decide), if_true, List.length_append, List.length_nil, List.length_cons] at *
   omega
theorem txJ_len : ∀ l : List ND, rightL saneP l = true → ∀ b c : List UInt8, c.length ≤ 2 → (txJ l b c).length ≤ b.length + 14 * cntL l
 | [], _, b, c, _ => by simp [txJ]
 | x :: l, h, b, c, hc => by
  simp only [rightL, Bool.and_eq_true] at h
  have g := txN_len x h.1
  have f := txJ_len l h.2 c c hc
  simp only [txJ, cntL, List.length_append]
  omega
end
theorem txN_len900 {n : ND} (h : saneN saneP n = true) : (txN n).length ≤ 894 ∧ 1 ≤ (txN n).length := by
 unfold saneN at h
 simp only [Bool.and_eq_true, decide_eq_true_eq] at h
 have := txN_len n h.2.2
 omega
def stopE (r : List UInt8) : Prop := r = [] ∨ ∃ c t, r = c :: t ∧ (c = 47 ∨ c = 44 ∨ c = 93)
def stopN (r : List UInt8) : Prop := r = [] ∨ ∃ c t, r = c :: t ∧ (c = 44 ∨ c = 93)
theorem stopN.e {r : List UInt8} (h : stopN r) : stopE r := by
 rcases h with h | ⟨c, t, h, g⟩
 ·exact .inl h
 ·exact .inr ⟨c, t, h, .inr g⟩
theorem stopE.w {r : List UInt8} (h : stopE r) : startsW r = false ∧ r.head? ≠ some 63 ∧ r.head? ≠ some 126 := by
 rcases h with rfl | ⟨c, t, rfl, rfl | rfl | rfl⟩
 ·simp [startsW]
 ·simp [startsW, isW]
 ·simp [startsW, isW]
 ·simp [startsW, isW]
theorem word_split {x y r s : List UInt8} (hx : ∀ c ∈ x, isW c = true) (hy : ∀ c ∈ y, isW c = true) (hr : startsW r = false) (hs : startsW s = false) (h : x ++ r = y ++ s) : x = y ∧ r = s := by
 have a := wl_word hx hr
 have b := wl_word hy hs
 rw [h, b] at a
 exact List.append_inj h a.symm
theorem mrk_split {a b : Bool} {c : UInt8} {r s : List UInt8} (hr : r.head? ≠ some c) (hs : s.head? ≠ some c) (h : mrk a c ++ r = mrk b c ++ s) : a = b ∧ r = s := by
 cases a <;> cases b <;> simp [mrk] at h ⊢
 ·exact h
 ·rw [h] at hr; simp at hr
 ·rw [← h] at hs; simp at hs
 ·exact h
theorem mrk_w (a t : Bool) {r : List UInt8} (h : stopE r) : startsW (mrk a 63 ++ (mrk t 126 ++ r)) = false ∧ (mrk t 126 ++ r).head? ≠ some 63 := by
 obtain ⟨h1, h2, h3⟩ := h.w
 cases a <;> cases t
 ·show startsW r = false ∧ r.head? ≠ some 63
  exact ⟨h1, h2⟩
 ·exact ⟨by show isW 126 = false; decide, by show some (126 : UInt8) ≠ some 63; decide⟩
 ·exact ⟨by show isW 63 = false; decide, h2⟩
 ·exact ⟨by show isW 63 = false; decide, by show some (126 : UInt8) ≠ some 63; decide⟩
theorem head_w {p : PT} (h : saneP p = true) : ∃ c t, tlP p = c :: t ∧ isW c = true := by
 obtain ⟨h1, h2⟩ := tlP_w h
 cases hq : tlP p with
 | nil => exact absurd hq h2
 | cons c t => exact ⟨c, t, rfl, h1 c (by rw [hq]; simp)⟩
theorem endN_apart {n m : ND} {r s : List UInt8} (hn : endN saneP n = true) (hm : endN saneP m = true) (hr : stopE r) (hs : stopE s) (h : txN n ++ r = txN m ++ s) : n = m ∧ r = s := by
 rcases endN_kind hn with ⟨p, a, t, rfl, hp⟩ | rfl | rfl
 ·obtain ⟨c, u, e1, e2⟩ := head_w hp
  rcases endN_kind hm with ⟨p', a', t', rfl, hp'⟩ | rfl | rfl
  ·simp only [txN, if_true, List.append_assoc] at h
   obtain ⟨h1, h2⟩ := word_split (tlP_w hp).1 (tlP_w hp').1 (mrk_w a t hr).1 (mrk_w a' t' hs).1 h
   obtain ⟨rfl, h3⟩ := mrk_split (mrk_w a t hr).2 (mrk_w a' t' hs).2 h2
   obtain ⟨rfl, h4⟩ := mrk_split hr.w.2.2 hs.w.2.2 h3
   rw [tlP_inj hp hp' h1]
   exact ⟨rfl, h4⟩
  ·simp [txN, e1] at h
   rw [h.1] at e2
   simp [isW] at e2
  ·simp [txN, e1] at h
   rw [h.1] at e2
   simp [isW] at e2
 ·rcases endN_kind hm with ⟨p', a', t', rfl, hp'⟩ | rfl | rfl
  ·obtain ⟨c, u, e1, e2⟩ := head_w hp'
   simp [txN, e1] at h
   rw [← h.1] at e2
   simp [isW] at e2
  ·simp [txN] at h
   exact ⟨rfl, h⟩
  ·simp [txN] at h
 ·rcases endN_kind hm with ⟨p', a', t', rfl, hp'⟩ | rfl | rfl
  ·obtain ⟨c, u, e1, e2⟩ := head_w hp'
   simp [txN, e1] at h
   rw [← h.1] at e2
   simp [isW] at e2
  ·simp [txN] at h
  ·simp [txN] at h
   exact ⟨rfl, h⟩
theorem end_head {n : ND} (h : endN saneP n = true) : ∃ c t, txN n = c :: t ∧ c ≠ 91 := by
 rcases endN_kind h with ⟨p, a, t, rfl, hp⟩ | rfl | rfl
 ·obtain ⟨c, u, e1, e2⟩ := head_w hp
  refine ⟨c, u ++ (mrk a 63 ++ mrk t 126), by simp [txN, e1], ?_⟩
  rintro rfl
  simp [isW] at e2
 ·exact ⟨46, [46], rfl, by decide⟩
 ·exact ⟨42, [], rfl, by decide⟩
theorem end_point {p : PT} {a t : Bool} (h : saneP p = true) : endN saneP (.mk 0 p a t []) = true := by simp [endN, ND.k, ND.p, ND.l, h]
theorem point_span {p : PT} {a t : Bool} {x y : ND} {r s : List UInt8} (hp : saneP p = true) (hx : endN saneP x = true) (hr : stopN r) (h : txN (.mk 0 p a t []) ++ r = txN x ++ (47 :: s)) : False := by
 obtain ⟨_, e⟩ := endN_apart (end_point hp) hx hr.e (.inr ⟨47, s, rfl, .inl rfl⟩) h
 rcases hr with rfl | ⟨c, t, rfl, rfl | rfl⟩ <;> simp at e
theorem txN_span (x y : ND) : txN (.mk 1 ⟨0, ⟨#[]⟩, ⟨#[]⟩, ⟨#[]⟩⟩ false false [x, y]) = txN x ++ (47 :: txN y) := by
 simp [txN, txJ]
theorem txN_list (x : ND) (l : List ND) : txN (.mk 2 ⟨0, ⟨#[]⟩, ⟨#[]⟩, ⟨#[]⟩⟩ false false (x :: l)) = 91 :: (txN x ++ (txJ l [44, 32] [44, 32] ++ [93])) := by
 simp [txN, txJ]
theorem txN_listJ (l : List ND) : txN (.mk 2 ⟨0, ⟨#[]⟩, ⟨#[]⟩, ⟨#[]⟩⟩ false false l) = txJ l [91] [44, 32] ++ [93] := by
 simp [txN]
theorem joins_stop (l : List ND) (r : List UInt8) : stopN (txJ l [44, 32] [44, 32] ++ 93 :: r) := by
 cases l with
 | nil => exact .inr ⟨93, r, rfl, .inr rfl⟩
 | cons x l => exact .inr ⟨44, _, rfl, .inl rfl⟩
mutual
theorem txN_apart : ∀ (n m : ND) (r s : List UInt8), rightN saneP n = true → rightN saneP m = true → stopN r → stopN s → txN n ++ r = txN m ++ s → n = m ∧ r = s
 | .mk k p a t l, m, r, s, hn, hm, hr, hs, h => by
  rcases rightN_kind hn with ⟨p1, a1, t1, e, hp⟩ | ⟨x, y, e, hx, hy⟩ | ⟨x, l1, e, hl⟩
  ·rw [e] at h ⊢
   rcases rightN_kind hm with ⟨p', a', t', rfl, hp'⟩ | ⟨x', y', rfl, hx', hy'⟩ | ⟨x', l', rfl, hl'⟩
   ·exact endN_apart (end_point hp) (end_point hp') hr.e hs.e h
   ·rw [txN_span, List.append_assoc] at h
    exact (point_span (y := y') hp hx' hr h).elim
   ·obtain ⟨c, u, e1, e2⟩ := end_head (end_point (a := a1) (t := t1) hp)
    rw [e1, txN_list] at h
    simp at h
    exact absurd h.1 e2
  ·rw [e] at h ⊢
   rcases rightN_kind hm with ⟨p', a', t', rfl, hp'⟩ | ⟨x', y', rfl, hx', hy'⟩ | ⟨x', l', rfl, hl'⟩
   ·rw [txN_span, List.append_assoc] at h
    exact (point_span (y := y) hp' hx hs h.symm).elim
   ·rw [txN_span, txN_span, List.append_assoc, List.append_assoc] at h
    obtain ⟨rfl, h1⟩ := endN_apart hx hx' (.inr ⟨47, txN y ++ r, rfl, .inl rfl⟩) (.inr ⟨47, txN y' ++ s, rfl, .inl rfl⟩) h
    simp only [List.cons_append, List.cons.injEq, true_and] at h1
    obtain ⟨rfl, h2⟩ := endN_apart hy hy' hr.e hs.e h1
    exact ⟨rfl, h2⟩
   ·obtain ⟨c, u, e1, e2⟩ := end_head hx
    rw [txN_span, e1, txN_list] at h
    simp at h
    exact absurd h.1 e2
  ·simp only [ND.mk.injEq] at e
   obtain ⟨rfl, rfl, rfl, rfl, e5⟩ := e
   rw [← e5] at hl
   rcases rightN_kind hm with ⟨p', a', t', rfl, hp'⟩ | ⟨x', y', rfl, hx', hy'⟩ | ⟨x', l', rfl, hl'⟩
   ·obtain ⟨c, u, e1, e2⟩ := end_head (end_point (a := a') (t := t') hp')
    rw [e1, e5, txN_list] at h
    simp at h
    exact absurd h.1.symm e2
   ·obtain ⟨c, u, e1, e2⟩ := end_head hx'
    rw [txN_span, e1, e5, txN_list] at h
    simp at h
    exact absurd h.1.symm e2
   ·have := txL_apart l (x' :: l') r s hl hl' [91] [44, 32] (.inl rfl) rfl (by rw [txN_listJ, txN_listJ, List.append_assoc, List.append_assoc] at h; exact h)
    rw [this.1]
    exact ⟨rfl, this.2⟩
theorem txL_apart : ∀ (l m : List ND) (r s : List UInt8), rightL saneP l = true → rightL saneP m = true → ∀ b c : List UInt8, (b = [91] ∨ b = [44, 32]) → c = [44, 32] → txJ l b c ++ 93 :: r = txJ m b c ++ 93 :: s → l = m ∧ r = s
 | [], [], r, s, _, _, b, c, _, _, h => by simp [txJ] at h; exact ⟨rfl, h⟩
 | [], x :: m, r, s, _, _, b, c, hb, hc, h => by
  rcases hb with rfl | rfl <;> simp [txJ] at h
 | x :: l, [], r, s, _, _, b, c, hb, hc, h => by
  rcases hb with rfl | rfl <;> simp [txJ] at h
 | x :: l, y :: m, r, s, hl, hm, b, c, hb, hc, h => by
  subst hc
  simp only [rightL, Bool.and_eq_true] at hl hm
  simp only [txJ, List.append_assoc] at h
  have h1 := List.append_cancel_left h
  obtain ⟨rfl, h2⟩ := txN_apart x y _ _ hl.1 hm.1 (joins_stop l r) (joins_stop m s) h1
  obtain ⟨rfl, h3⟩ := txL_apart l m r s hl.2 hm.2 [44, 32] [44, 32] (.inr rfl) rfl h2
  exact ⟨rfl, h3⟩
end
theorem text_apart {n m : ND} (hn : saneN saneP n = true) (hm : saneN saneP m = true) : (txN n = txN m) ↔ n = m := by
 unfold saneN at hn hm
 simp only [Bool.and_eq_true, decide_eq_true_eq] at hn hm
 constructor
 ·intro h
  exact (txN_apart n m [] [] hn.2.2 hm.2.2 (.inl rfl) (.inl rfl) (by rw [h])).1
 ·rintro rfl
  rfl
open Go.RowKit Go.Shelf
set_option maxHeartbeats 2000000 in
theorem mark_any (t : Bool) (s : ByteArray) (w : World) : Calls Tryz.prog 69 #[.bool t, .string s] w fun e w' => e = .returned (.string (if t then s else ⟨#[]⟩)) ∧ w = w' := by
 cases t with
 | true =>
  go_enter Tryz.func69, Tryz.ntmps69
  go_wp2
  go_ret
  exact ⟨rfl, rfl⟩
 | false =>
  go_enter Tryz.func69, Tryz.ntmps69
  go_wp2
  go_ret
  exact ⟨rfl, rfl⟩
theorem kp_grown0 {w w' : World} (k : Kp w w') : w.grownBy w' none := ⟨k.os, k.tape, k.output, k.size, fun i hi _ => k.block i hi⟩
theorem Bld.kp {B b : Nat} {l : List Value} {w w' : World} (h : Bld B b l w) (k : Kp w w') : Bld B b l w' := by
 have go : ∀ {p : Value}, Lib.BuilderAtF 93 5 B b p l w → Lib.BuilderAtF 93 5 B b p l w' := by
  rintro p ⟨h1, v, h2, h3, h4⟩
  refine ⟨h1, v, heap_block k h2, h3.kept (kp_grown0 k) ?_, h4⟩
  cases hv : v.ownBlock with
  | none => exact .inl rfl
  | some g => exact .inr (by simp)
 exact h.imp go go
structure WK (b : Nat) (w w' : World) : Prop where
 kp : Below b w w'
 oth : Oth b w w'
theorem WK.refl (b : Nat) (w : World) : WK b w w := ⟨Below.refl _ _, Lib.OthersKept.refl _ _ _⟩
theorem WK.trans {b : Nat} {u v w : World} (h : WK b u v) (k : WK b v w) : WK b u w := ⟨Below.trans h.kp k.kp, h.oth.trans k.oth⟩
theorem WK.of {b : Nat} {u v : World} (h : Kp u v) (hb : b ≤ u.heap.size) : WK b u v := ⟨Below.mono h hb, fun k o hk _ _ => heap_block h hk⟩
theorem WK.row {b i : Nat} {u v : World} {c : Array Value} {t : TypeId} {fr : Nat × Nat} (h : WK b u v) (hk : u.heap[i]? = some (.cells c t fr)) (hb : i ≠ b) (ht : t ≠ 5) : v.heap[i]? = some (.cells c t fr) :=
 h.oth i _ hk (fun e => hb (Option.some.inj e)) (fun c' fz e => by injection e with _ h2; exact ht h2)
theorem WK.to {b : Nat} {w0 u v : World} (h : WK b u v) (k : Kp w0 u) (hb : w0.heap.size ≤ b) : Kp w0 v := Below.trans k (Below.mono h.kp hb)
def strsV (ss : List (List UInt8)) : Array Value := (ss.map fun s => Value.string (bs s)).toArray
theorem strs_cell {w : World} {k i : Nat} {ss : List (List UInt8)} {t : TypeId} {fr : Nat × Nat} (h : w.heap[k]? = some (.cells (strsV ss) t fr)) (hi : i < ss.length) : w.cell? ⟨k, i, none⟩ = some (.string (bs (ss.getD i []))) := by
 simp [World.cell?, h, strsV, List.getD, hi]
theorem fl_take {ss : List (List UInt8)} {k : Nat} (h : k < ss.length) : (ss.take (k + 1)).flatten = (ss.take k).flatten ++ ss.getD k [] := by
 rw [List.take_succ_eq_append_getElem h, List.flatten_append]
 simp [List.getD, h]
theorem fl_le (ss : List (List UInt8)) (k : Nat) : (ss.take k).flatten.length ≤ ss.flatten.length := by
 conv => rhs; rw [← List.take_append_drop k ss, List.flatten_append, List.length_append]
 omega
theorem wstr_any (b : Nat) (L y : List UInt8) (w : World) (hb : Bld b b (Lib.byteCells L) w) (h : L.length + y.length ≤ 1000000) :
  Calls Tryz.prog 96 #[.pointer (some ⟨b, 0, none⟩), .string (bs y)] w fun e w' => (∃ n, e = .returned (.tuple #[n, .nilIface])) ∧ Bld b b (Lib.byteCells (L ++ y)) w' ∧ WK b w w' := by
 refine (bstr_any b b (Lib.byteCells L) (bs y) w hb (by rw [Lib.byteCells_length, bs_size]; omega) (Nat.le_of_lt hb.lt)).mono ?_
 rintro e w' ⟨rfl, g1, g2, g3⟩
 refine ⟨⟨_, rfl⟩, .inr ?_, ⟨g2, g3⟩⟩
 rw [bc_append, ← bc_str y]
 exact g1
set_option maxHeartbeats 4000000 in
set_option maxRecDepth 100000 in
theorem lay_any (b bk : Nat) (L : List UInt8) (ss : List (List UInt8)) (w : World) (hb : Bld b b (Lib.byteCells L) w) (hs : w.heap[bk]? = some (.cells (strsV ss) 9 (0, 0))) (hne : bk ≠ b) (h : L.length + ss.flatten.length ≤ 1000000) (hl : ss.length ≤ 10) :
  Calls Tryz.prog 67 #[.pointer (some ⟨b, 0, none⟩), .slice (some ⟨bk, 0, none⟩) ss.length ss.length] w fun e w' => e = .returned (.tuple #[]) ∧ Bld b b (Lib.byteCells (L ++ ss.flatten)) w' ∧ WK b w w' := by
 have HS := Lib.hid (fun w1 (k : WK b w w1) => k.row hs hne (by decide))
 have HB := Lib.hid hb
 have hln := h
 clear hs h hb
 go_enter Tryz.func67, Tryz.ntmps67
 go_wp2
 go_loopw [5, 8] (fun s i ws => ∃ k : Nat, k ≤ ss.length ∧ i = .int .i64 k ∧ Hid (Bld b b (Lib.byteCells (L ++ (ss.take k).flatten)) ws) ∧ Hid (WK b w ws)) (fun _ i _ => ss.length - (intOf i).toNat)
 case atStart => exact ⟨0, Nat.zero_le _, rfl, Lib.hid (by simpa using HB.out), Lib.hid (WK.refl _ _)⟩
 case round =>
  obtain ⟨k, hk, rfl, BD, KL⟩ := hrel
  by_cases hlt : k < ss.length
  ·have c0 := strs_cell (HS.out _ KL.out) hlt
   have ft := fl_take hlt
   have f1 := fl_le ss k
   have f2 := fl_le ss (k + 1)
   rw [ft, List.length_append] at f2
   have C := Lib.hid (wstr_any b (L ++ (ss.take k).flatten) (ss.getD k []) wr BD.out (by rw [List.length_append]; omega))
   rw [List.append_assoc, ← ft] at C
   have z1 : (k : Int) < (ss.length : Int) := by omega
   have z3 : (0 : Int) ≤ (k : Int) := by omega
   have HLT := Lib.hid hlt
   generalize ss.getD k [] = y at *
   clear ft f1 f2
   go_wp2_with fail
   refine C.out.mono ?_
   rintro e w2 ⟨⟨n, rfl⟩, g1, g2⟩
   have B2 := Lib.hid g1
   have K2 := Lib.hid (KL.out.trans g2)
   clear g1 g2 c0
   go_wp2
   go_roundw
   case rel => exact ⟨k + 1, HLT.out, by go_num, B2, K2⟩
   case measure => have := HLT.out; simp [intOf]; omega
  ·obtain rfl : k = ss.length := by omega
   rw [List.take_length] at BD
   have BE := BD.out
   have KE := KL.out
   go_wp2
   go_end0
   exact ⟨rfl, BE, KE⟩
theorem lay1_any (b bk : Nat) (L y : List UInt8) (w : World) (hb : Bld b b (Lib.byteCells L) w) (hs : w.heap[bk]? = some (.cells #[.string (bs y)] 9 (0, 0))) (hne : bk ≠ b) (h : L.length + y.length ≤ 1000000) :
  Calls Tryz.prog 67 #[.pointer (some ⟨b, 0, none⟩), .slice (some ⟨bk, 0, none⟩) 1 1] w fun e w' => e = .returned (.tuple #[]) ∧ Bld b b (Lib.byteCells (L ++ y)) w' ∧ WK b w w' := by
 have := lay_any b bk L [y] w hb hs hne (by simpa using h) (by simp)
 simpa using this
theorem lay3_any (b bk : Nat) (L x y z : List UInt8) (w : World) (hb : Bld b b (Lib.byteCells L) w) (hs : w.heap[bk]? = some (.cells #[.string (bs x), .string (bs y), .string (bs z)] 9 (0, 0))) (hne : bk ≠ b) (h : L.length + (x ++ (y ++ z)).length ≤ 1000000) :
  Calls Tryz.prog 67 #[.pointer (some ⟨b, 0, none⟩), .slice (some ⟨bk, 0, none⟩) 3 3] w fun e w' => e = .returned (.tuple #[]) ∧ Bld b b (Lib.byteCells (L ++ (x ++ (y ++ z)))) w' ∧ WK b w w' := by
 have := lay_any b bk L [x, y, z] w hb hs hne (by simpa using h) (by simp)
 simpa using this
theorem markb_any (t : Bool) (c : UInt8) (w : World) : Calls Tryz.prog 69 #[.bool t, .string ⟨#[c]⟩] w fun e w' => e = .returned (.string (bs (mrk t c))) ∧ Kp w w' := by
 refine (mark_any t ⟨#[c]⟩ w).mono ?_
 rintro e w' ⟨rfl, rfl⟩
 refine ⟨?_, Kp.refl _⟩
 cases t <;> rfl
theorem textb_any (p : PT) (w : World) (T : TabSH w) : Calls Tryz.prog 68 #[ptV p] w fun e w' => e = .returned (.string (bs (tlP p))) ∧ Kp w w' := by
 have := ptText_any p w T
 rwa [show bs (tlP p) = textP p from bs_list _]
def wrB (n : ND) : Bool := endN saneP n || rightN saneP n
theorem wr_kinds {k : Int} {p : PT} {a t : Bool} {l : List ND} (h : wrB (.mk k p a t l) = true) : (k = 0 ∧ l = [] ∧ saneP p = true) ∨ (k = 1 ∧ ∃ x y, l = [x, y] ∧ wrB x = true ∧ wrB y = true) ∨ (k = 2 ∧ ∀ x ∈ l, wrB x = true) ∨ k = 3 ∨ k = 4 := by
 unfold wrB at h
 rw [Bool.or_eq_true] at h
 rcases h with h | h
 ·rcases endN_kind h with ⟨p', a', t', e, hp⟩ | e | e
  ·simp only [ND.mk.injEq] at e
   obtain ⟨rfl, rfl, rfl, rfl, rfl⟩ := e
   exact .inl ⟨rfl, rfl, hp⟩
  ·simp only [ND.mk.injEq] at e
   exact .inr (.inr (.inr (.inl e.1)))
  ·simp only [ND.mk.injEq] at e
   exact .inr (.inr (.inr (.inr e.1)))
 ·rcases rightN_kind h with ⟨p', a', t', e, hp⟩ | ⟨x, y, e, hx, hy⟩ | ⟨x, l', e, hl⟩
  ·simp only [ND.mk.injEq] at e
   obtain ⟨rfl, rfl, rfl, rfl, rfl⟩ := e
   exact .inl ⟨rfl, rfl, hp⟩
  ·simp only [ND.mk.injEq] at e
   obtain ⟨rfl, rfl, rfl, rfl, rfl⟩ := e
   exact .inr (.inl ⟨rfl, x, y, rfl, by unfold wrB; rw [hx]; rfl, by unfold wrB; rw [hy]; rfl⟩)
  ·simp only [ND.mk.injEq] at e
   obtain ⟨rfl, rfl, rfl, rfl, rfl⟩ := e
   refine .inr (.inr (.inl ⟨rfl, fun z hz => ?_⟩))
   rw [rightL_all, List.all_eq_true] at hl
   unfold wrB
   rw [hl z hz, Bool.or_true]
theorem txJ_le (l : List ND) (i : Nat) (b c : List UInt8) : (txJ (l.take i) b c).length ≤ (txJ l b c).length := by
 induction l generalizing i b with
 | nil => simp [txJ]
 | cons x l ih =>
  cases i with
  | zero => simp [txJ]
  | succ i =>
   have := ih i c
   simp only [List.take_succ_cons, txJ, List.length_append]
   omega
set_option maxHeartbeats 16000000 in
set_option maxRecDepth 100000 in
theorem wr3_any (w0 : World) (T : TabSH w0) (v : Value) (l : List ND) (hh : ∃ ad cp, v = .slice ad l.length cp ∧ (0 < l.length → ∃ bk off, ad = some ⟨bk, off, none⟩ ∧ ∀ i, i < l.length → ∃ vi, RowN w0 bk (off + i * 8) (nth l i) vi ∧ NodesAt w0 vi (nth l i).l ∧ (fun v l => ∀ (k : Int) (p : PT) (a t : Bool) (b : Nat) (L : List UInt8) (w : World), Kp w0 w → w0.heap.size ≤ b → Bld b b (Lib.byteCells L) w → wrB (.mk k p a t l) = true → cntL l ≤ 2000000 → L.length + (txN (.mk k p a t l)).length ≤ 1000000 →
   Calls Tryz.prog 46 #[.pointer (some ⟨b, 0, none⟩), ndV (.mk k p a t l) v] w fun e w' => e = .returned (.tuple #[]) ∧ Bld b b (Lib.byteCells (L ++ txN (.mk k p a t l))) w' ∧ WK b w w') vi (nth l i).l)) :
  ∀ (p : PT) (a t : Bool) (b : Nat) (L : List UInt8) (w : World), Kp w0 w → w0.heap.size ≤ b → Bld b b (Lib.byteCells L) w → wrB (.mk 3 p a t l) = true → cntL l ≤ 2000000 → L.length + (txN (.mk 3 p a t l)).length ≤ 1000000 →
   Calls Tryz.prog 46 #[.pointer (some ⟨b, 0, none⟩), ndV (.mk 3 p a t l) v] w fun e w' => e = .returned (.tuple #[]) ∧ Bld b b (Lib.byteCells (L ++ txN (.mk 3 p a t l))) w' ∧ WK b w w' := by
 obtain ⟨ad, cp, rfl, hrow⟩ := hh
 intro p a t b L w k0 hb0 hbl hw hcn hlen
 obtain ⟨pk, y, m, q⟩ := p
 have HR := Lib.hid hrow
 have hbw := hbl.lt
 have BD := Lib.hid hbl
 have HW := Lib.hid hw
 obtain ⟨W0, hW0⟩ : ∃ x, x = w.alloc (.cells #[.int .i64 3, .int .i64 pk, .string y, .string m, .string q, .bool a, .bool t, .slice ad l.length cp] 26) := ⟨_, rfl⟩
 have kw : Kp w W0 := by rw [hW0]; exact Kp.alloc _ _
 have gB : W0.heap[w.heap.size]? = some (.cells #[.int .i64 3, .int .i64 pk, .string y, .string m, .string q, .bool a, .bool t, .slice ad l.length cp] 26 (0, 0)) := by rw [hW0]; exact heap_at _ _ _ rfl
 have z0 : W0.heap.size = w.heap.size + 1 := by rw [hW0]; simp
 have GB := Lib.hid (fun w1 (q : WK b W0 w1) => q.row gB (by omega) (by decide))
 have BD0 := Lib.hid (BD.out.kp kw)
 have K0 := Lib.hid (k0.trans kw)
 have KW9 := Lib.hid k0
 have WK0 := Lib.hid (WK.of kw (Nat.le_of_lt hbw))
 have HB0 := hb0
 have HW0 := Lib.hid hW0
 have hbz : b < W0.heap.size := by omega
 unfold ndV
 simp only [ND.k, ND.p, ND.a, ND.t, ND.l]
 clear hrow k0 kw gB hbl hw hW0
 rw [show txN (.mk 3 ⟨pk, y, m, q⟩ a t l) = [46, 46] by simp [txN]] at hlen ⊢
 have hl2 : L.length + ([46, 46] : List UInt8).length ≤ 1000000 := hlen
 clear hlen
 go_enter Tryz.func46, Tryz.ntmps46
 go_wp2_with fail
 rw [← HW0.out]
 obtain ⟨x0, x1, x2, x3, x4, x5, x6, x7⟩ := row8 (GB.out _ (WK.refl _ _))
 go_wp2_with fail
 refine (lay1_any b (w.heap.size + 1) L [46, 46] (W0.alloc (.cells #[.string ⟨#[46, 46]⟩] 9)) (BD0.out.kp (Kp.alloc _ _)) (heap_at _ _ _ z0) (by omega) hl2).mono ?_
 rintro e w2 ⟨rfl, g1, g2⟩
 have B2 := Lib.hid g1
 have K2 := Lib.hid (WK0.out.trans ((WK.of (Kp.alloc _ _) (Nat.le_of_lt hbz)).trans g2))
 clear g1 g2
 go_wp2
 go_end0
 exact ⟨rfl, B2.out, K2.out⟩
set_option maxHeartbeats 16000000 in
set_option maxRecDepth 100000 in
theorem wr4_any (w0 : World) (T : TabSH w0) (v : Value) (l : List ND) (hh : ∃ ad cp, v = .slice ad l.length cp ∧ (0 < l.length → ∃ bk off, ad = some ⟨bk, off, none⟩ ∧ ∀ i, i < l.length → ∃ vi, RowN w0 bk (off + i * 8) (nth l i) vi ∧ NodesAt w0 vi (nth l i).l ∧ (fun v l => ∀ (k : Int) (p : PT) (a t : Bool) (b : Nat) (L : List UInt8) (w : World), Kp w0 w → w0.heap.size ≤ b → Bld b b (Lib.byteCells L) w → wrB (.mk k p a t l) = true → cntL l ≤ 2000000 → L.length + (txN (.mk k p a t l)).length ≤ 1000000 →
   Calls Tryz.prog 46 #[.pointer (some ⟨b, 0, none⟩), ndV (.mk k p a t l) v] w fun e w' => e = .returned (.tuple #[]) ∧ Bld b b (Lib.byteCells (L ++ txN (.mk k p a t l))) w' ∧ WK b w w') vi (nth l i).l)) :
  ∀ (p : PT) (a t : Bool) (b : Nat) (L : List UInt8) (w : World), Kp w0 w → w0.heap.size ≤ b → Bld b b (Lib.byteCells L) w → wrB (.mk 4 p a t l) = true → cntL l ≤ 2000000 → L.length + (txN (.mk 4 p a t l)).length ≤ 1000000 →
   Calls Tryz.prog 46 #[.pointer (some ⟨b, 0, none⟩), ndV (.mk 4 p a t l) v] w fun e w' => e = .returned (.tuple #[]) ∧ Bld b b (Lib.byteCells (L ++ txN (.mk 4 p a t l))) w' ∧ WK b w w' := by
 obtain ⟨ad, cp, rfl, hrow⟩ := hh
 intro p a t b L w k0 hb0 hbl hw hcn hlen
 obtain ⟨pk, y, m, q⟩ := p
 have HR := Lib.hid hrow
 have hbw := hbl.lt
 have BD := Lib.hid hbl
 have HW := Lib.hid hw
 obtain ⟨W0, hW0⟩ : ∃ x, x = w.alloc (.cells #[.int .i64 4, .int .i64 pk, .string y, .string m, .string q, .bool a, .bool t, .slice ad l.length cp] 26) := ⟨_, rfl⟩
 have kw : Kp w W0 := by rw [hW0]; exact Kp.alloc _ _
 have gB : W0.heap[w.heap.size]? = some (.cells #[.int .i64 4, .int .i64 pk, .string y, .string m, .string q, .bool a, .bool t, .slice ad l.length cp] 26 (0, 0)) := by rw [hW0]; exact heap_at _ _ _ rfl
 have z0 : W0.heap.size = w.heap.size + 1 := by rw [hW0]; simp
 have GB := Lib.hid (fun w1 (q : WK b W0 w1) => q.row gB (by omega) (by decide))
 have BD0 := Lib.hid (BD.out.kp kw)
 have K0 := Lib.hid (k0.trans kw)
 have KW9 := Lib.hid k0
 have WK0 := Lib.hid (WK.of kw (Nat.le_of_lt hbw))
 have HB0 := hb0
 have HW0 := Lib.hid hW0
 have hbz : b < W0.heap.size := by omega
 unfold ndV
 simp only [ND.k, ND.p, ND.a, ND.t, ND.l]
 clear hrow k0 kw gB hbl hw hW0
 rw [show txN (.mk 4 ⟨pk, y, m, q⟩ a t l) = [42] by simp [txN]] at hlen ⊢
 have hl2 : L.length + ([42] : List UInt8).length ≤ 1000000 := hlen
 clear hlen
 go_enter Tryz.func46, Tryz.ntmps46
 go_wp2_with fail
 rw [← HW0.out]
 obtain ⟨x0, x1, x2, x3, x4, x5, x6, x7⟩ := row8 (GB.out _ (WK.refl _ _))
 go_wp2_with fail
 refine (lay1_any b (w.heap.size + 1) L [42] (W0.alloc (.cells #[.string ⟨#[42]⟩] 9)) (BD0.out.kp (Kp.alloc _ _)) (heap_at _ _ _ z0) (by omega) hl2).mono ?_
 rintro e w2 ⟨rfl, g1, g2⟩
 have B2 := Lib.hid g1
 have K2 := Lib.hid (WK0.out.trans ((WK.of (Kp.alloc _ _) (Nat.le_of_lt hbz)).trans g2))
 clear g1 g2
 go_wp2
 go_end0
 exact ⟨rfl, B2.out, K2.out⟩
abbrev sW0 : Oper := { dst := some 11, op := Go.Op.move (Go.Operand.tmp 0), type := 90, pos := "print.go:26", after := #[], guard := none }
abbrev sW1 : Oper := { dst := some 12, op := Go.Op.fieldAddr 26 (Go.Operand.tmp 3) 1, type := 0, pos := "print.go:26", after := #[], guard := none }
abbrev sW2 : Oper := { dst := some 13, op := Go.Op.load 23 (Go.Operand.tmp 12), type := 23, pos := "print.go:26", after := #[{ on := 1, ground := Go.Ground.data }], guard := none }
abbrev sW3 : Oper := { dst := some 14, op := Go.Op.call { callee := Go.Callee.value (Go.Operand.func 68), args := #[Go.Operand.tmp 13], argTypes := #[23] }, type := 9, pos := "print.go:26", after := #[{ on := 2, ground := Go.Ground.data }], guard := none }
abbrev sW4 : Oper := { dst := some 15, op := Go.Op.fieldAddr 26 (Go.Operand.tmp 3) 2, type := 0, pos := "print.go:26", after := #[], guard := none }
abbrev sW5 : Oper := { dst := some 16, op := Go.Op.load 4 (Go.Operand.tmp 15), type := 4, pos := "print.go:26", after := #[{ on := 4, ground := Go.Ground.data }], guard := none }
abbrev sW6 : Oper := { dst := some 17, op := Go.Op.call { callee := Go.Callee.value (Go.Operand.func 69), args := #[Go.Operand.tmp 16, Go.Operand.const (Go.Value.string { data := #[63] })], argTypes := #[4, 9] }, type := 9, pos := "print.go:26", after := #[{ on := 5, ground := Go.Ground.data }, { on := 3, ground := Go.Ground.chain }], guard := none }
abbrev sW7 : Oper := { dst := some 18, op := Go.Op.fieldAddr 26 (Go.Operand.tmp 3) 3, type := 0, pos := "print.go:26", after := #[], guard := none }
abbrev sW8 : Oper := { dst := some 19, op := Go.Op.load 4 (Go.Operand.tmp 18), type := 4, pos := "print.go:26", after := #[{ on := 7, ground := Go.Ground.data }], guard := none }
abbrev sW9 : Oper := { dst := some 20, op := Go.Op.call { callee := Go.Callee.value (Go.Operand.func 69), args := #[Go.Operand.tmp 19, Go.Operand.const (Go.Value.string { data := #[126] })], argTypes := #[4, 9] }, type := 9, pos := "print.go:26", after := #[{ on := 8, ground := Go.Ground.data }, { on := 6, ground := Go.Ground.chain }], guard := none }
abbrev sW10 : Oper := { dst := some 21, op := Go.Op.buildSlice 148 3 #[(0, Go.Operand.tmp 14), (1, Go.Operand.tmp 17), (2, Go.Operand.tmp 20)], type := 148, pos := "print.go:26", after := #[{ on := 3, ground := Go.Ground.data }, { on := 6, ground := Go.Ground.data }, { on := 9, ground := Go.Ground.data }], guard := none }
abbrev sW11 : Oper := { dst := some 22, op := Go.Op.call { callee := Go.Callee.value (Go.Operand.func 67), args := #[Go.Operand.tmp 11, Go.Operand.tmp 21], argTypes := #[90, 148] }, type := 0, pos := "print.go:26", after := #[{ on := 0, ground := Go.Ground.data }, { on := 10, ground := Go.Ground.data }, { on := 9, ground := Go.Ground.chain }], guard := none }
set_option maxHeartbeats 16000000 in
set_option maxRecDepth 100000 in
theorem wr0_any (w0 : World) (T : TabSH w0) (v : Value) (l : List ND) (hh : ∃ ad cp, v = .slice ad l.length cp ∧ (0 < l.length → ∃ bk off, ad = some ⟨bk, off, none⟩ ∧ ∀ i, i < l.length → ∃ vi, RowN w0 bk (off + i * 8) (nth l i) vi ∧ NodesAt w0 vi (nth l i).l ∧ (fun v l => ∀ (k : Int) (p : PT) (a t : Bool) (b : Nat) (L : List UInt8) (w : World), Kp w0 w → w0.heap.size ≤ b → Bld b b (Lib.byteCells L) w → wrB (.mk k p a t l) = true → cntL l ≤ 2000000 → L.length + (txN (.mk k p a t l)).length ≤ 1000000 →
   Calls Tryz.prog 46 #[.pointer (some ⟨b, 0, none⟩), ndV (.mk k p a t l) v] w fun e w' => e = .returned (.tuple #[]) ∧ Bld b b (Lib.byteCells (L ++ txN (.mk k p a t l))) w' ∧ WK b w w') vi (nth l i).l)) :
  ∀ (p : PT) (a t : Bool) (b : Nat) (L : List UInt8) (w : World), Kp w0 w → w0.heap.size ≤ b → Bld b b (Lib.byteCells L) w → wrB (.mk 0 p a t l) = true → cntL l ≤ 2000000 → L.length + (txN (.mk 0 p a t l)).length ≤ 1000000 →
   Calls Tryz.prog 46 #[.pointer (some ⟨b, 0, none⟩), ndV (.mk 0 p a t l) v] w fun e w' => e = .returned (.tuple #[]) ∧ Bld b b (Lib.byteCells (L ++ txN (.mk 0 p a t l))) w' ∧ WK b w w' := by
 obtain ⟨ad, cp, rfl, hrow⟩ := hh
 intro p a t b L w k0 hb0 hbl hw hcn hlen
 obtain ⟨pk, y, m, q⟩ := p
 have HR := Lib.hid hrow
 have hbw := hbl.lt
 have BD := Lib.hid hbl
 have HW := Lib.hid hw
 obtain ⟨W0, hW0⟩ : ∃ x, x = w.alloc (.cells #[.int .i64 0, .int .i64 pk, .string y, .string m, .string q, .bool a, .bool t, .slice ad l.length cp] 26) := ⟨_, rfl⟩
 have kw : Kp w W0 := by rw [hW0]; exact Kp.alloc _ _
 have gB : W0.heap[w.heap.size]? = some (.cells #[.int .i64 0, .int .i64 pk, .string y, .string m, .string q, .bool a, .bool t, .slice ad l.length cp] 26 (0, 0)) := by rw [hW0]; exact heap_at _ _ _ rfl
 have z0 : W0.heap.size = w.heap.size + 1 := by rw [hW0]; simp
 have GB := Lib.hid (fun w1 (q : WK b W0 w1) => q.row gB (by omega) (by decide))
 have BD0 := Lib.hid (BD.out.kp kw)
 have K0 := Lib.hid (k0.trans kw)
 have KW9 := Lib.hid k0
 have WK0 := Lib.hid (WK.of kw (Nat.le_of_lt hbw))
 have HB0 := hb0
 have HW0 := Lib.hid hW0
 have hbz : b < W0.heap.size := by omega
 unfold ndV
 simp only [ND.k, ND.p, ND.a, ND.t, ND.l]
 clear hrow k0 kw gB hbl hw hW0
 rw [show txN (.mk 0 ⟨pk, y, m, q⟩ a t l) = tlP ⟨pk, y, m, q⟩ ++ (mrk a 63 ++ mrk t 126) by simp [txN]] at hlen ⊢
 have hl2 : L.length + (tlP ⟨pk, y, m, q⟩ ++ (mrk a 63 ++ mrk t 126)).length ≤ 1000000 := hlen
 clear hlen
 have CT := Lib.hid (fun w1 (qq : Kp W0 w1) => show Calls Tryz.prog 68 #[.agg #[.int .i64 pk, .string y, .string m, .string q]] w1 fun e w' => e = .returned (.string (bs (tlP ⟨pk, y, m, q⟩))) ∧ Kp w1 w' from textb_any ⟨pk, y, m, q⟩ w1 (T.kp (K0.out.trans qq)))
 go_enter Tryz.func46, Tryz.ntmps46
 go_wp2_with fail
 rw [← HW0.out]
 obtain ⟨x0, x1, x2, x3, x4, x5, x6, x7⟩ := row8 (GB.out _ (WK.refl _ _))
 have KS := Lib.hid (fun w' (qq : WK b W0 w') => show w'.cell? ⟨w.heap.size, 0, none⟩ = some (.int .i64 0) ∧ w'.cell? ⟨w.heap.size, 1, none⟩ = some (.int .i64 pk) ∧ w'.cell? ⟨w.heap.size, 2, none⟩ = some (.string y) ∧ w'.cell? ⟨w.heap.size, 3, none⟩ = some (.string m) ∧ w'.cell? ⟨w.heap.size, 4, none⟩ = some (.string q) ∧ w'.cell? ⟨w.heap.size, 5, none⟩ = some (.bool a) ∧ w'.cell? ⟨w.heap.size, 6, none⟩ = some (.bool t) ∧ w'.cell? ⟨w.heap.size, 7, none⟩ = some (.slice ad l.length cp) ∧ WK b W0 w' from ⟨(row8 (GB.out _ qq)).1, (row8 (GB.out _ qq)).2.1, (row8 (GB.out _ qq)).2.2.1, (row8 (GB.out _ qq)).2.2.2.1, (row8 (GB.out _ qq)).2.2.2.2.1, (row8 (GB.out _ qq)).2.2.2.2.2.1, (row8 (GB.out _ qq)).2.2.2.2.2.2.1, (row8 (GB.out _ qq)).2.2.2.2.2.2.2, qq⟩)
 go_wp2_with fail
 refine wp_region_held_drew (S := fun w' => w'.cell? ⟨w.heap.size, 0, none⟩ = some (.int .i64 0) ∧ w'.cell? ⟨w.heap.size, 1, none⟩ = some (.int .i64 pk) ∧ w'.cell? ⟨w.heap.size, 2, none⟩ = some (.string y) ∧ w'.cell? ⟨w.heap.size, 3, none⟩ = some (.string m) ∧ w'.cell? ⟨w.heap.size, 4, none⟩ = some (.string q) ∧ w'.cell? ⟨w.heap.size, 5, none⟩ = some (.bool a) ∧ w'.cell? ⟨w.heap.size, 6, none⟩ = some (.bool t) ∧ w'.cell? ⟨w.heap.size, 7, none⟩ = some (.slice ad l.length cp) ∧ WK b W0 w') (by kernel_rfl) ?_ (fun hHeld0 => ?_)
 ·(try dsimp only); exact KS.out _ (by first | assumption | exact WK.of (Kp.drew _) (Nat.le_of_lt hbz) | exact WK.refl _ _ | exact WK.of (Kp.trans kp2 (Kp.alloc _ _)) (Nat.le_of_lt hbz))
 refine tkv 0 sW0 ?_
 (try simp only [Act.put, sW0, List.setIfInBounds_toArray, List.set_cons_zero, List.set_cons_succ])
 refine tkv 1 sW1 ?_
 (try simp only [Act.put, sW1, List.setIfInBounds_toArray, List.set_cons_zero, List.set_cons_succ])
 refine tkv 2 sW2 ?_
 (try simp only [Act.put, sW2, List.setIfInBounds_toArray, List.set_cons_zero, List.set_cons_succ])
 refine tkv 4 sW4 ?_
 (try simp only [Act.put, sW4, List.setIfInBounds_toArray, List.set_cons_zero, List.set_cons_succ])
 refine tkv 5 sW5 ?_
 (try simp only [Act.put, sW5, List.setIfInBounds_toArray, List.set_cons_zero, List.set_cons_succ])
 refine tkv 7 sW7 ?_
 (try simp only [Act.put, sW7, List.setIfInBounds_toArray, List.set_cons_zero, List.set_cons_succ])
 refine tkv 8 sW8 ?_
 (try simp only [Act.put, sW8, List.setIfInBounds_toArray, List.set_cons_zero, List.set_cons_succ])
 refine tkE 3 sW3 rfl (by kernel_rfl) (fun K hK => ?_)
 go_simp
 (refine (CT.out _ (by first | assumption | exact Kp.drew _ | exact Kp.refl _)).mono ?_; rintro e w' ⟨rfl, k1⟩; have kp2 := Kp.trans (show Kp W0 _ from (by first | assumption | exact Kp.drew _ | exact Kp.refl _)) k1; have k2 := WK.of kp2 (Nat.le_of_lt hbz); clear k1)
 (try go_wp2_with fail)
 refine hK.out _ _ ?_ (fun hHeld1 => ?_)
 ·(try dsimp only); exact KS.out _ (by first | assumption | exact WK.of (Kp.drew _) (Nat.le_of_lt hbz) | exact WK.refl _ _ | exact WK.of (Kp.trans kp2 (Kp.alloc _ _)) (Nat.le_of_lt hbz))
 clear hK K hHeld0
 (try simp only [Act.put, sW3, List.setIfInBounds_toArray, List.set_cons_zero, List.set_cons_succ])
 refine tkE 6 sW6 rfl (by kernel_rfl) (fun K hK => ?_)
 go_simp
 (refine (markb_any a 63 _).mono ?_; rintro e w' ⟨rfl, k1⟩; have kp2 := Kp.trans (show Kp W0 _ from (by first | assumption | exact Kp.drew _ | exact Kp.refl _)) k1; have k2 := WK.of kp2 (Nat.le_of_lt hbz); clear k1)
 (try go_wp2_with fail)
 refine hK.out _ _ ?_ (fun hHeld2 => ?_)
 ·(try dsimp only); exact KS.out _ (by first | assumption | exact WK.of (Kp.drew _) (Nat.le_of_lt hbz) | exact WK.refl _ _ | exact WK.of (Kp.trans kp2 (Kp.alloc _ _)) (Nat.le_of_lt hbz))
 clear hK K hHeld1
 (try simp only [Act.put, sW6, List.setIfInBounds_toArray, List.set_cons_zero, List.set_cons_succ])
 refine tkE 9 sW9 rfl (by kernel_rfl) (fun K hK => ?_)
 go_simp
 (refine (markb_any t 126 _).mono ?_; rintro e w' ⟨rfl, k1⟩; have kp2 := Kp.trans (show Kp W0 _ from (by first | assumption | exact Kp.drew _ | exact Kp.refl _)) k1; have k2 := WK.of kp2 (Nat.le_of_lt hbz); clear k1)
 (try go_wp2_with fail)
 refine hK.out _ _ ?_ (fun hHeld3 => ?_)
 ·(try dsimp only); exact KS.out _ (by first | assumption | exact WK.of (Kp.drew _) (Nat.le_of_lt hbz) | exact WK.refl _ _ | exact WK.of (Kp.trans kp2 (Kp.alloc _ _)) (Nat.le_of_lt hbz))
 clear hK K hHeld2
 (try simp only [Act.put, sW9, List.setIfInBounds_toArray, List.set_cons_zero, List.set_cons_succ])
 refine tkE 10 sW10 rfl (by kernel_rfl) (fun K hK => ?_)
 go_simp
 skip
 (try go_wp2_with fail)
 refine hK.out _ _ ?_ (fun hHeld4 => ?_)
 ·(try dsimp only); exact KS.out _ (by first | assumption | exact WK.of (Kp.drew _) (Nat.le_of_lt hbz) | exact WK.refl _ _ | exact WK.of (Kp.trans kp2 (Kp.alloc _ _)) (Nat.le_of_lt hbz))
 clear hK K hHeld3
 (try simp only [Act.put, sW10, List.setIfInBounds_toArray, List.set_cons_zero, List.set_cons_succ])
 refine tkE 11 sW11 rfl (by kernel_rfl) (fun K hK => ?_)
 go_simp
 (have kp3 := Kp.trans kp2 (Kp.alloc w' (.cells #[.string (bs (tlP ⟨pk, y, m, q⟩)), .string (bs (mrk a 63)), .string (bs (mrk t 126))] 9)); refine (lay3_any b w'.heap.size L (tlP ⟨pk, y, m, q⟩) (mrk a 63) (mrk t 126) _ (BD0.out.kp kp3) (heap_at _ _ _ rfl) (by have := kp2.size; omega) hl2).mono ?_; rintro e w6 ⟨rfl, g1, g2⟩; have B6 := Lib.hid g1; have k2 := (WK.of kp3 (Nat.le_of_lt hbz)).trans g2; clear g1 g2)
 (try go_wp2_with fail)
 refine hK.out _ _ ?_ (fun hHeld5 => ?_)
 ·(try dsimp only); exact KS.out _ (by first | assumption | exact WK.of (Kp.drew _) (Nat.le_of_lt hbz) | exact WK.refl _ _ | exact WK.of (Kp.trans kp2 (Kp.alloc _ _)) (Nat.le_of_lt hbz))
 clear hK K hHeld4
 (try simp only [Act.put, sW11, List.setIfInBounds_toArray, List.set_cons_zero, List.set_cons_succ])
 refine wpAnyH_done (by kernel_rfl) ?_ _
 have K6 := Lib.hid (WK0.out.trans k2)
 clear x0 x1 x2 x3 x4 x5 x6 x7 k2
 go_wp2
 go_end0
 exact ⟨rfl, B6.out, K6.out⟩
set_option maxHeartbeats 16000000 in
set_option maxRecDepth 100000 in
theorem wr1_any (w0 : World) (T : TabSH w0) (v : Value) (l : List ND) (hh : ∃ ad cp, v = .slice ad l.length cp ∧ (0 < l.length → ∃ bk off, ad = some ⟨bk, off, none⟩ ∧ ∀ i, i < l.length → ∃ vi, RowN w0 bk (off + i * 8) (nth l i) vi ∧ NodesAt w0 vi (nth l i).l ∧ (fun v l => ∀ (k : Int) (p : PT) (a t : Bool) (b : Nat) (L : List UInt8) (w : World), Kp w0 w → w0.heap.size ≤ b → Bld b b (Lib.byteCells L) w → wrB (.mk k p a t l) = true → cntL l ≤ 2000000 → L.length + (txN (.mk k p a t l)).length ≤ 1000000 →
   Calls Tryz.prog 46 #[.pointer (some ⟨b, 0, none⟩), ndV (.mk k p a t l) v] w fun e w' => e = .returned (.tuple #[]) ∧ Bld b b (Lib.byteCells (L ++ txN (.mk k p a t l))) w' ∧ WK b w w') vi (nth l i).l)) :
  ∀ (p : PT) (a t : Bool) (b : Nat) (L : List UInt8) (w : World), Kp w0 w → w0.heap.size ≤ b → Bld b b (Lib.byteCells L) w → wrB (.mk 1 p a t l) = true → cntL l ≤ 2000000 → L.length + (txN (.mk 1 p a t l)).length ≤ 1000000 →
   Calls Tryz.prog 46 #[.pointer (some ⟨b, 0, none⟩), ndV (.mk 1 p a t l) v] w fun e w' => e = .returned (.tuple #[]) ∧ Bld b b (Lib.byteCells (L ++ txN (.mk 1 p a t l))) w' ∧ WK b w w' := by
 obtain ⟨ad, cp, rfl, hrow⟩ := hh
 intro p a t b L w k0 hb0 hbl hw hcn hlen
 obtain ⟨pk, y, m, q⟩ := p
 have HR := Lib.hid hrow
 have hbw := hbl.lt
 have BD := Lib.hid hbl
 have HW := Lib.hid hw
 obtain ⟨W0, hW0⟩ : ∃ x, x = w.alloc (.cells #[.int .i64 1, .int .i64 pk, .string y, .string m, .string q, .bool a, .bool t, .slice ad l.length cp] 26) := ⟨_, rfl⟩
 have kw : Kp w W0 := by rw [hW0]; exact Kp.alloc _ _
 have gB : W0.heap[w.heap.size]? = some (.cells #[.int .i64 1, .int .i64 pk, .string y, .string m, .string q, .bool a, .bool t, .slice ad l.length cp] 26 (0, 0)) := by rw [hW0]; exact heap_at _ _ _ rfl
 have z0 : W0.heap.size = w.heap.size + 1 := by rw [hW0]; simp
 have GB := Lib.hid (fun w1 (q : WK b W0 w1) => q.row gB (by omega) (by decide))
 have BD0 := Lib.hid (BD.out.kp kw)
 have K0 := Lib.hid (k0.trans kw)
 have KW9 := Lib.hid k0
 have WK0 := Lib.hid (WK.of kw (Nat.le_of_lt hbw))
 have HB0 := hb0
 have HW0 := Lib.hid hW0
 have hbz : b < W0.heap.size := by omega
 unfold ndV
 simp only [ND.k, ND.p, ND.a, ND.t, ND.l]
 clear hrow k0 kw gB hbl hw hW0
 obtain ⟨x, z, rfl, wx, wz⟩ : ∃ x z, l = [x, z] ∧ wrB x = true ∧ wrB z = true := by
  rcases wr_kinds HW.out with h | ⟨_, x, z, h⟩ | h | h | h
  ·exact absurd h.1 (by decide)
  ·exact ⟨x, z, h⟩
  ·exact absurd h.1 (by decide)
  ·exact absurd h (by decide)
  ·exact absurd h (by decide)
 rw [show txN (.mk 1 ⟨pk, y, m, q⟩ a t [x, z]) = txN x ++ ([47] ++ txN z) by simp [txN, txJ]] at hlen ⊢
 obtain ⟨bk, off, rfl, hall⟩ := HR.out (by simp)
 obtain ⟨vx, rx, sx, ix⟩ := hall 0 (by simp)
 obtain ⟨vz, rz, sz, iz⟩ := hall 1 (by simp)
 rw [show nth [x, z] 0 = x from rfl] at rx sx ix
 rw [show nth [x, z] 1 = z from rfl] at rz sz iz
 have hl1 : L.length + (txN x).length ≤ 1000000 := by simp only [List.length_append] at hlen; omega
 have hl2 : (L ++ txN x).length + [(47 : UInt8)].length ≤ 1000000 := by simp only [List.length_append] at hlen ⊢; omega
 have hl3 : ((L ++ txN x) ++ [47]).length + (txN z).length ≤ 1000000 := by simp only [List.length_append] at hlen ⊢; omega
 have cx9 : cntL x.l ≤ 2000000 ∧ cntL z.l ≤ 2000000 := by simp only [cntL] at hcn; have := cntN_mk x; have := cntN_mk z; omega
 have IX := Lib.hid (fun L' w1 (k1 : Kp w0 w1) hb hl => ix x.k x.p x.a x.t b L' w1 k1 hb0 hb (by rw [← eta_nd]; exact wx) cx9.1 (by rw [← eta_nd]; exact hl))
 have IZ := Lib.hid (fun L' w1 (k1 : Kp w0 w1) hb hl => iz z.k z.p z.a z.t b L' w1 k1 hb0 hb (by rw [← eta_nd]; exact wz) cx9.2 (by rw [← eta_nd]; exact hl))
 have hbk := World.block_lt_of_cell? _ _ rx.1
 simp only at hbk
 obtain ⟨adx, cpx, rfl⟩ := sx.slice
 obtain ⟨adz, cpz, rfl⟩ := sz.slice
 have RX := Lib.hid rx
 have RZ := Lib.hid rz
 have HL3 := Lib.hid hl3
 have HL2 := Lib.hid hl2
 have HL1 := Lib.hid hl1
 rw [← List.append_assoc, ← List.append_assoc]
 rw [← eta_nd x] at IX
 rw [← eta_nd z] at IZ
 obtain ⟨tx, htx⟩ : ∃ u, txN x = u := ⟨_, rfl⟩
 obtain ⟨tz, htz⟩ : ∃ u, txN z = u := ⟨_, rfl⟩
 rw [htx] at IX HL1 HL2 HL3 ⊢
 rw [htz] at IZ HL3 ⊢
 obtain ⟨k1, ⟨pk1, y1, m1, q1⟩, a1, t1, l1⟩ := x
 obtain ⟨k2, ⟨pk2, y2, m2, q2⟩, a2, t2, l2⟩ := z
 unfold RowN at RX RZ
 unfold ndV at IX IZ
 simp only [ND.k, ND.p, ND.a, ND.t, ND.l, List.length_cons, List.length_nil, Nat.reduceAdd, Nat.zero_mul, Nat.add_zero, Nat.one_mul] at IX IZ RX RZ GB HW0 ⊢
 have kw9 := KW9.out
 have hbk2 : bk < w.heap.size := Nat.lt_of_lt_of_le hbk kw9.size
 have hbk3 : ¬ bk = w.heap.size := by omega
 clear rx rz sx sz hall HR wx wz ix iz HW htx htz hl1 hl2 hl3 hlen cx9 hcn hbk
 have up : ∀ (w1 : World) (o : Nat) (x : Value), Kp w0 w1 → w0.cell? ⟨bk, o, none⟩ = some x → w1.cell? ⟨bk, o, none⟩ = some x := fun w1 o x q h => cell_up q h
 obtain ⟨g0, g1, g2, g3, g4, g5, g6, g7⟩ := RX.out
 have g0 := up _ _ _ kw9 g0
 have g1 := up _ _ _ kw9 g1
 have g2 := up _ _ _ kw9 g2
 have g3 := up _ _ _ kw9 g3
 have g4 := up _ _ _ kw9 g4
 have g5 := up _ _ _ kw9 g5
 have g6 := up _ _ _ kw9 g6
 have g7 := up _ _ _ kw9 g7
 clear kw9
 go_enter Tryz.func46, Tryz.ntmps46
 go_wp2_with fail
 rw [← HW0.out]
 obtain ⟨x0, x1, x2, x3, x4, x5, x6, x7⟩ := row8 (GB.out _ (WK.refl _ _))
 go_wp2_with fail
 refine (IX.out L W0 K0.out BD0.out HL1.out).mono ?_
 rintro e w1 ⟨rfl, g1', g2'⟩
 have B1 := Lib.hid g1'
 have K1 := Lib.hid g2'
 clear g1' g2'
 clear x0 x1 x2 x3 x4 x5 x6 x7
 clear g0 g1 g2 g3 g4 g5 g6 g7
 have b1 := B1.out.lt
 obtain ⟨x0, x1, x2, x3, x4, x5, x6, x7⟩ := row8 (GB.out _ K1.out)
 go_wp2_with fail
 refine (lay1_any b w1.heap.size (L ++ tx) [47] (w1.alloc (.cells #[.string ⟨#[47]⟩] 9)) (B1.out.kp (Kp.alloc _ _)) (heap_at _ _ _ rfl) (by omega) HL2.out).mono ?_
 rintro e w2 ⟨rfl, g1', g2'⟩
 have B2 := Lib.hid g1'
 have K2 := Lib.hid (K1.out.trans ((WK.of (Kp.alloc _ _) (Nat.le_of_lt b1)).trans g2'))
 clear g1' g2' b1
 clear x0 x1 x2 x3 x4 x5 x6 x7
 have k2w := K2.out.to K0.out hb0
 obtain ⟨x0, x1, x2, x3, x4, x5, x6, x7⟩ := row8 (GB.out _ K2.out)
 obtain ⟨g0, g1, g2, g3, g4, g5, g6, g7⟩ := RZ.out
 have g0 := up _ _ _ k2w g0
 have g1 := up _ _ _ k2w g1
 have g2 := up _ _ _ k2w g2
 have g3 := up _ _ _ k2w g3
 have g4 := up _ _ _ k2w g4
 have g5 := up _ _ _ k2w g5
 have g6 := up _ _ _ k2w g6
 have g7 := up _ _ _ k2w g7
 go_wp2_with fail
 refine (IZ.out _ _ k2w B2.out HL3.out).mono ?_
 rintro e w3 ⟨rfl, g1', g2'⟩
 have B3 := Lib.hid g1'
 have K3 := Lib.hid (WK0.out.trans (K2.out.trans g2'))
 clear g1' g2' k2w
 clear x0 x1 x2 x3 x4 x5 x6 x7
 clear g0 g1 g2 g3 g4 g5 g6 g7
 go_wp2
 go_end0
 exact ⟨rfl, B3.out, K3.out⟩
set_option maxHeartbeats 16000000 in
set_option maxRecDepth 100000 in
theorem wr2_any (w0 : World) (T : TabSH w0) (v : Value) (l : List ND) (hh : ∃ ad cp, v = .slice ad l.length cp ∧ (0 < l.length → ∃ bk off, ad = some ⟨bk, off, none⟩ ∧ ∀ i, i < l.length → ∃ vi, RowN w0 bk (off + i * 8) (nth l i) vi ∧ NodesAt w0 vi (nth l i).l ∧ (fun v l => ∀ (k : Int) (p : PT) (a t : Bool) (b : Nat) (L : List UInt8) (w : World), Kp w0 w → w0.heap.size ≤ b → Bld b b (Lib.byteCells L) w → wrB (.mk k p a t l) = true → cntL l ≤ 2000000 → L.length + (txN (.mk k p a t l)).length ≤ 1000000 →
   Calls Tryz.prog 46 #[.pointer (some ⟨b, 0, none⟩), ndV (.mk k p a t l) v] w fun e w' => e = .returned (.tuple #[]) ∧ Bld b b (Lib.byteCells (L ++ txN (.mk k p a t l))) w' ∧ WK b w w') vi (nth l i).l)) :
  ∀ (p : PT) (a t : Bool) (b : Nat) (L : List UInt8) (w : World), Kp w0 w → w0.heap.size ≤ b → Bld b b (Lib.byteCells L) w → wrB (.mk 2 p a t l) = true → cntL l ≤ 2000000 → L.length + (txN (.mk 2 p a t l)).length ≤ 1000000 →
   Calls Tryz.prog 46 #[.pointer (some ⟨b, 0, none⟩), ndV (.mk 2 p a t l) v] w fun e w' => e = .returned (.tuple #[]) ∧ Bld b b (Lib.byteCells (L ++ txN (.mk 2 p a t l))) w' ∧ WK b w w' := by
 obtain ⟨ad, cp, rfl, hrow⟩ := hh
 intro p a t b L w k0 hb0 hbl hw hcn hlen
 obtain ⟨pk, y, m, q⟩ := p
 have HR := Lib.hid hrow
 have hbw := hbl.lt
 have BD := Lib.hid hbl
 have HW := Lib.hid hw
 obtain ⟨W0, hW0⟩ : ∃ x, x = w.alloc (.cells #[.int .i64 2, .int .i64 pk, .string y, .string m, .string q, .bool a, .bool t, .slice ad l.length cp] 26) := ⟨_, rfl⟩
 have kw : Kp w W0 := by rw [hW0]; exact Kp.alloc _ _
 have gB : W0.heap[w.heap.size]? = some (.cells #[.int .i64 2, .int .i64 pk, .string y, .string m, .string q, .bool a, .bool t, .slice ad l.length cp] 26 (0, 0)) := by rw [hW0]; exact heap_at _ _ _ rfl
 have z0 : W0.heap.size = w.heap.size + 1 := by rw [hW0]; simp
 have GB := Lib.hid (fun w1 (q : WK b W0 w1) => q.row gB (by omega) (by decide))
 have BD0 := Lib.hid (BD.out.kp kw)
 have K0 := Lib.hid (k0.trans kw)
 have KW9 := Lib.hid k0
 have WK0 := Lib.hid (WK.of kw (Nat.le_of_lt hbw))
 have HB0 := hb0
 have HW0 := Lib.hid hW0
 have hbz : b < W0.heap.size := by omega
 unfold ndV
 simp only [ND.k, ND.p, ND.a, ND.t, ND.l]
 clear hrow k0 kw gB hbl hw hW0
 have hall2 : ∀ x ∈ l, wrB x = true := by
  rcases wr_kinds HW.out with h | ⟨h, _⟩ | h | h | h
  ·exact absurd h.1 (by decide)
  ·exact absurd h (by decide)
  ·exact h.2
  ·exact absurd h (by decide)
  ·exact absurd h (by decide)
 have HA := Lib.hid (fun i (hi : i < l.length) => hall2 _ (nth_mem hi))
 rw [show txN (.mk 2 ⟨pk, y, m, q⟩ a t l) = txJ l [91] [44, 32] ++ [93] by simp [txN]] at hlen ⊢
 have TK := Lib.hid (fun i (hi : i < l.length) => txJ_take hi [91] [44, 32])
 have TL := Lib.hid (fun i => txJ_le l i [91] [44, 32])
 have hl9 : L.length + (txJ l [91] [44, 32]).length + 1 ≤ 1000000 := by simp only [List.length_append, List.length_cons, List.length_nil] at hlen; omega
 have HL9 := Lib.hid hl9
 have ll := len_cntL l
 have CA := Lib.hid (fun i (hi : i < l.length) => (show cntL (nth l i).l ≤ 2000000 by have := cnt_at hi; have := cntN_mk (nth l i); omega))
 clear hall2 hlen hl9 HW
 rw [← List.append_assoc]
 obtain ⟨tl9, htl9⟩ : ∃ u, txJ l [91] [44, 32] = u := ⟨_, rfl⟩
 rw [htl9]
 have HTL9 := Lib.hid htl9
 clear htl9
 go_enter Tryz.func46, Tryz.ntmps46
 go_wp2_with fail
 rw [← HW0.out]
 obtain ⟨x0, x1, x2, x3, x4, x5, x6, x7⟩ := row8 (GB.out _ (WK.refl _ _))
 go_wp2
 go_loopw [4, 6, 45] (fun s u i ws => ∃ j : Nat, j ≤ l.length ∧ i = .int .i64 j ∧ s = .string (bs (if j = 0 then [91] else [44, 32])) ∧ Hid (Bld b b (Lib.byteCells (L ++ txJ (l.take j) [91] [44, 32])) ws) ∧ Hid (WK b W0 ws)) (fun _ _ i _ => l.length - (intOf i).toNat)
 case atStart => exact ⟨0, Nat.zero_le _, rfl, rfl, Lib.hid (by simpa [txJ] using BD0.out), Lib.hid (WK.refl _ _)⟩
 case round =>
  clear x0 x1 x2 x3 x4 x5 x6 x7
  obtain ⟨j, hj, rfl, rfl, BJ, KJ⟩ := hrel
  by_cases hlt : j < l.length
  ·obtain ⟨bk, off, rfl, hall⟩ := HR.out (by omega)
   obtain ⟨vi, hrow, hsub, ih⟩ := hall j hlt
   have kw0 : Kp w0 wr := KJ.out.to K0.out hb0
   obtain ⟨e0, e1, e2, e3, e4, e5, e6, e7⟩ := hrow.kp kw0
   have wj := HA.out j hlt
   have cj := CA.out j hlt
   have tk := TK.out j hlt
   have tl := TL.out (j + 1)
   have hl9 := HL9.out
   rw [tk, List.length_append, List.length_append] at tl
   obtain ⟨x, hx⟩ : ∃ x, nth l j = x := ⟨_, rfl⟩
   rw [hx] at e0 e1 e2 e3 e4 e5 e6 wj cj tk tl hsub ih
   obtain ⟨bt', hbt⟩ : ∃ u : List UInt8, (if j = 0 then [91] else [44, 32]) = u := ⟨_, rfl⟩
   rw [hbt] at tk tl ⊢
   have IX := fun L' w1 (k1 : Kp w0 w1) hb hl => ih x.k x.p x.a x.t b L' w1 k1 hb0 hb (by rw [← eta_nd]; exact wj) cj (by rw [← eta_nd]; exact hl)
   rw [← eta_nd x] at IX
   obtain ⟨tx, htx⟩ : ∃ u, txN x = u := ⟨_, rfl⟩
   rw [htx] at IX tk tl
   obtain ⟨tj, htj⟩ : ∃ u, txJ (l.take j) [91] [44, 32] = u := ⟨_, rfl⟩
   rw [htj] at tk tl BJ
   have HT1 := Lib.hid (show (L ++ tj).length + bt'.length ≤ 1000000 by rw [List.length_append]; omega)
   have HT2 := Lib.hid (show ((L ++ tj) ++ bt').length + tx.length ≤ 1000000 by rw [List.length_append, List.length_append]; omega)
   have TKH := Lib.hid (show L ++ txJ (l.take (j + 1)) [91] [44, 32] = ((L ++ tj) ++ bt') ++ tx by rw [tk]; simp only [List.append_assoc])
   clear hx hrow hall wj cj tk tl hl9 hbt htx htj
   obtain ⟨k1, ⟨pk1, y1, m1, q1⟩, a1, t1, l1⟩ := x
   simp only [ND.k, ND.p, ND.a, ND.t, ND.l] at e0 e1 e2 e3 e4 e5 e6 hsub
   obtain ⟨ad1, cp1, rfl⟩ := hsub.slice
   (try unfold ndV at IX)
   simp only [ND.k, ND.p, ND.a, ND.t, ND.l] at IX
   have IXH := Lib.hid IX
   have bw := BJ.out.lt
   have z1 : (j : Int) < (l.length : Int) := by omega
   have z3 : (0 : Int) ≤ (j : Int) := by omega
   have HLT := Lib.hid hlt
   have hbk := World.block_lt_of_cell? _ _ e0
   simp only at hbk
   obtain ⟨W5, hW5⟩ : ∃ x, x = (wr.alloc (.cells #[.int .i64 k1, .int .i64 pk1, .string y1, .string m1, .string q1, .bool a1, .bool t1, .slice ad1 l1.length cp1] 26)).alloc (.cells #[.string (bs bt')] 9) := ⟨_, rfl⟩
   have k5 : Kp wr W5 := by rw [hW5]; exact (Kp.alloc _ _).trans (Kp.alloc _ _)
   have g5 : W5.heap[wr.heap.size]? = some (.cells #[.int .i64 k1, .int .i64 pk1, .string y1, .string m1, .string q1, .bool a1, .bool t1, .slice ad1 l1.length cp1] 26 (0, 0)) := by rw [hW5]; exact heap_block (Kp.alloc _ _) (heap_at _ _ _ rfl)
   have g6 : W5.heap[wr.heap.size + 1]? = some (.cells #[.string (bs bt')] 9 (0, 0)) := by rw [hW5]; exact heap_at _ _ _ (by simp)
   have K5 := Lib.hid k5
   have G5 := Lib.hid g5
   have G6 := Lib.hid g6
   have HW5 := Lib.hid hW5
   clear hsub IX ih kw0 k5 g5 g6 hW5
   go_wp2_with fail
   rw [← HW5.out]
   refine (lay1_any b (wr.heap.size + 1) (L ++ tj) bt' W5 (BJ.out.kp K5.out) G6.out (by omega) HT1.out).mono ?_
   rintro e w6 ⟨rfl, g1', g2'⟩
   have B6 := Lib.hid g1'
   have K6 := Lib.hid (KJ.out.trans ((WK.of K5.out (Nat.le_of_lt bw)).trans g2'))
   obtain ⟨x0, x1, x2, x3, x4, x5, x6, x7⟩ := row8 (g2'.row G5.out (by omega) (by decide))
   clear g1' g2' e0 e1 e2 e3 e4 e5 e6 e7
   go_wp2_with fail
   refine (IXH.out _ _ (K6.out.to K0.out hb0) B6.out HT2.out).mono ?_
   rintro e w7 ⟨rfl, g1', g2'⟩
   have B7 := Lib.hid g1'
   have K7 := Lib.hid (K6.out.trans g2')
   clear g1' g2' x0 x1 x2 x3 x4 x5 x6 x7
   go_wp2
   go_roundw
   case rel => exact ⟨j + 1, HLT.out, by go_num, rfl, by rw [TKH.out]; exact B7, K7⟩
   case measure => have := HLT.out; simp [intOf]; omega
  ·obtain rfl : j = l.length := by omega
   rw [List.take_length] at BJ
   have bw := BJ.out.lt
   rw [HTL9.out] at BJ
   obtain ⟨bt', hbt⟩ : ∃ u : List UInt8, (if l.length = 0 then [91] else [44, 32]) = u := ⟨_, rfl⟩
   rw [hbt]
   clear hbt
   have HT3 := Lib.hid (show (L ++ tl9).length + [(93 : UInt8)].length ≤ 1000000 by have := HL9.out; rw [HTL9.out] at this; rw [List.length_append]; simp; omega)
   obtain ⟨x0, x1, x2, x3, x4, x5, x6, x7⟩ := row8 (GB.out _ KJ.out)
   go_wp2_with fail
   refine (lay1_any b wr.heap.size (L ++ tl9) [93] (wr.alloc (.cells #[.string ⟨#[93]⟩] 9)) (BJ.out.kp (Kp.alloc _ _)) (heap_at _ _ _ rfl) (by omega) HT3.out).mono ?_
   rintro e w6 ⟨rfl, g1', g2'⟩
   have B6 := Lib.hid g1'
   have K6 := Lib.hid (WK0.out.trans (KJ.out.trans ((WK.of (Kp.alloc _ _) (Nat.le_of_lt bw)).trans g2')))
   clear g1' g2' x0 x1 x2 x3 x4 x5 x6 x7
   go_wp2
   go_end0
   exact ⟨rfl, B6.out, K6.out⟩
theorem pwrite_any (w0 : World) (T : TabSH w0) : ∀ {v : Value} {l : List ND}, NodesAt w0 v l → ∀ (k : Int) (p : PT) (a t : Bool) (b : Nat) (L : List UInt8) (w : World), Kp w0 w → w0.heap.size ≤ b → Bld b b (Lib.byteCells L) w → wrB (.mk k p a t l) = true → cntL l ≤ 2000000 → L.length + (txN (.mk k p a t l)).length ≤ 1000000 →
   Calls Tryz.prog 46 #[.pointer (some ⟨b, 0, none⟩), ndV (.mk k p a t l) v] w fun e w' => e = .returned (.tuple #[]) ∧ Bld b b (Lib.byteCells (L ++ txN (.mk k p a t l))) w' ∧ WK b w w' := by
 refine @NodesAt.ind w0 (fun v l => ∀ (k : Int) (p : PT) (a t : Bool) (b : Nat) (L : List UInt8) (w : World), Kp w0 w → w0.heap.size ≤ b → Bld b b (Lib.byteCells L) w → wrB (.mk k p a t l) = true → cntL l ≤ 2000000 → L.length + (txN (.mk k p a t l)).length ≤ 1000000 →
   Calls Tryz.prog 46 #[.pointer (some ⟨b, 0, none⟩), ndV (.mk k p a t l) v] w fun e w' => e = .returned (.tuple #[]) ∧ Bld b b (Lib.byteCells (L ++ txN (.mk k p a t l))) w' ∧ WK b w w') ?_
 intro v l hh k p a t b L w k0 hb hbl hw hc hlen
 have e := wr_kinds hw
 rcases e with ⟨rfl, _⟩ | ⟨rfl, _⟩ | ⟨rfl, _⟩ | rfl | rfl
 ·exact wr0_any w0 T v l hh p a t b L w k0 hb hbl hw hc hlen
 ·exact wr1_any w0 T v l hh p a t b L w k0 hb hbl hw hc hlen
 ·exact wr2_any w0 T v l hh p a t b L w k0 hb hbl hw hc hlen
 ·exact wr3_any w0 T v l hh p a t b L w k0 hb hbl hw hc hlen
 ·exact wr4_any w0 T v l hh p a t b L w k0 hb hbl hw hc hlen
set_option maxHeartbeats 16000000 in
set_option maxRecDepth 100000 in
theorem ptext_any (n : ND) (v : Value) (w : World) (h : NodesAt w v n.l) (hn : cntN n ≤ 1000) (T : TabSH w) :
  Calls Tryz.prog 31 #[ndV n v] w fun e w' => e = .returned (.string (bs (textN n))) ∧ Kp w w' := by
 have CS := Lib.hid (fun w1 (qq : Kp w w1) => tSane_any n v w1 (h.kp qq) hn (T.kp qq))
 have cl9 : cntL n.l ≤ 2000000 := by have := cntN_mk n; omega
 have CW := Lib.hid (fun b L w1 (qq : Kp w w1) hb hbl hw hl => pwrite_any w T h n.k n.p n.a n.t b L w1 qq hb hbl hw cl9 hl)
 have WR := Lib.hid (show saneN saneP n = true → wrB n = true from fun hs => by
  unfold saneN at hs
  simp only [Bool.and_eq_true] at hs
  unfold wrB
  rw [hs.2.2, Bool.or_true])
 have LE := Lib.hid (fun hs => (txN_len900 (n := n) hs).1)
 rw [← eta_nd n] at CW
 unfold textN
 generalize saneN saneP n = sb at *
 generalize txN n = tx at *
 obtain ⟨ad, cp, rfl⟩ := h.slice
 obtain ⟨k, pk, y, m, q, a, t, l, rfl⟩ := nd_dest n
 unfold ndV at *
 simp only [ND.k, ND.p, ND.a, ND.t, ND.l] at *
 clear h hn T cl9
 cases sb with
 | false =>
  rw [if_neg (by decide)]
  go_enter Tryz.func31, Tryz.ntmps31
  go_wp2_with fail
  refine (CS.out _ (Kp.alloc _ _)).mono ?_
  rintro e w1 ⟨rfl, kk⟩
  have K1 := Lib.hid ((Kp.alloc _ _).trans kk)
  clear kk
  go_wp2
  go_ret
  exact ⟨rfl, K1.out⟩
 | true =>
  rw [if_pos rfl]
  have hw := WR.out rfl
  have hl := LE.out rfl
  clear WR LE
  have HW := Lib.hid hw
  have HL := Lib.hid hl
  clear hw hl
  go_enter Tryz.func31, Tryz.ntmps31
  go_wp2_with fail
  refine (CS.out _ (Kp.alloc _ _)).mono ?_
  rintro e w1 ⟨rfl, kk⟩
  have K1 := Lib.hid ((Kp.alloc _ _).trans kk)
  have GB := Lib.hid (heap_block kk (heap_at w (.cells #[.int .i64 k, .int .i64 pk, .string y, .string m, .string q, .bool a, .bool t, .slice ad l.length cp] 26) w.heap.size rfl))
  have zw := K1.out.size
  have zl : w.heap.size < w1.heap.size := (Array.getElem?_eq_some_iff.1 GB.out).1
  have zn : ¬ w.heap.size = w1.heap.size := by omega
  have b1 := bld_new w1
  clear kk
  obtain ⟨x0, x1, x2, x3, x4, x5, x6, x7⟩ := row8 GB.out
  obtain ⟨W2, hW2⟩ : ∃ x, x = w1.alloc (.cells #[.pointer none, .slice none 0 0] 93) := ⟨_, rfl⟩
  rw [← hW2] at b1
  have k2 : Kp w1 W2 := by rw [hW2]; exact Kp.alloc _ _
  have K2 := Lib.hid (K1.out.trans k2)
  have BD := Lib.hid b1
  have HW2 := Lib.hid hW2
  clear b1 k2 hW2
  go_wp2_with fail
  rw [← HW2.out]
  refine (CW.out w1.heap.size [] W2 K2.out (by omega) BD.out HW.out (by have := HL.out; simp; omega)).mono ?_
  rintro e w3 ⟨rfl, g1, g2⟩
  rw [List.nil_append] at g1
  have B3 := Lib.hid g1
  have K3 := Lib.hid (g2.to K2.out (by omega))
  clear g1 g2 x0 x1 x2 x3 x4 x5 x6 x7
  go_wp2_with fail
  refine (bstring_any _ _ _ _ B3.out (Nat.le_of_lt B3.out.lt)).mono ?_
  rintro e w4 ⟨rfl, kb⟩
  have K4 := Lib.hid (show Kp w w4 from Below.trans K3.out (Below.mono kb (by omega)))
  clear kb
  go_wp2
  go_ret
  exact ⟨rfl, K4.out⟩
open Go.RowKit
end Go.Proofs.YtajllgjfndfdjaaGreatDoor
