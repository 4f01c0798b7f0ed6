import Derived.Test.YtajllgjfndfdjaaGreatDoorGPtU
import Derived.Test.YtajllgjfndfdjaaGreatDoorGTr
import Derived.Test.YtajllgjfndfdjaaGreatDoorGL8
import Derived.Test.YtajllgjfndfdjaaGreatDoorGLE
import Derived.Test.YtajllgjfndfdjaaGreatDoorGImgC
import Derived.Test.YtajllgjfndfdjaaGreatDoorGLeafA
import Derived.Test.YtajllgjfndfdjaaGreatDoorGSetA
import Derived.Test.YtajllgjfndfdjaaGreatDoorGSetC
import Derived.LoopTactic
import Derived.Test.YtajllgjfndfdjaaGreatDoorGBa
import Derived.WalkLawsBesides
import Derived.Recover
import Derived.Laws.Pointers
namespace Go.Proofs.YtajllgjfndfdjaaGreatDoor
set_option linter.unusedVariables false
set_option linter.unusedSimpArgs false
theorem dk_empty {s : ByteArray} (h : s.size = 0) : s = ⟨#[]⟩ := by
 obtain ⟨x⟩ := s
 congr 1
 exact Array.eq_empty_of_size_eq_zero h
theorem dk_bare {k : Int} {p : PT} {a t : Bool} {l : List ND} (h : bareN (.mk k p a t l) = true) : p = ⟨0, ⟨#[]⟩, ⟨#[]⟩, ⟨#[]⟩⟩ ∧ a = false ∧ t = false := by
 unfold bareN bareP at h
 obtain ⟨pk, y, m, d⟩ := p
 simp only [ND.p, ND.a, ND.t, Bool.and_eq_true, decide_eq_true_eq, Bool.not_eq_true'] at h
 obtain ⟨⟨h1, h2, h3, h4⟩, h5, h6⟩ := h
 have g1 : pk = 0 := by first | exact h1 | exact of_decide_eq_true h1
 have g2 : y = ⟨#[]⟩ := dk_empty (by first | exact h2 | exact of_decide_eq_true h2)
 have g3 : m = ⟨#[]⟩ := dk_empty (by first | exact h3 | exact of_decide_eq_true h3)
 have g4 : d = ⟨#[]⟩ := dk_empty (by first | exact h4 | exact of_decide_eq_true h4)
 rw [g1, g2, g3, g4]
 exact ⟨rfl, h5, h6⟩
theorem dk_end {n : ND} (h : endN saneP n = true) : (∃ p a t, n = .mk 0 p a t [] ∧ saneP p = true) ∨ n = .mk 3 ⟨0, ⟨#[]⟩, ⟨#[]⟩, ⟨#[]⟩⟩ false false [] ∨ n = .mk 4 ⟨0, ⟨#[]⟩, ⟨#[]⟩, ⟨#[]⟩⟩ false false [] := by
 have hl := endN_leaf h
 obtain ⟨k, p, a, t, l⟩ := n
 obtain rfl : l = [] := hl
 unfold endN at h
 simp only [ND.k, ND.p, ND.l, Bool.or_eq_true, Bool.and_eq_true, beq_iff_eq] at h
 rcases h with ⟨rfl, h, _⟩ | ⟨h | h, h2, _⟩
 ·exact .inl ⟨p, a, t, rfl, h⟩
 ·subst h
  obtain ⟨rfl, rfl, rfl⟩ := dk_bare h2
  exact .inr (.inl rfl)
 ·subst h
  obtain ⟨rfl, rfl, rfl⟩ := dk_bare h2
  exact .inr (.inr rfl)
theorem dk_kind {n : ND} (h : rightN saneP n = true) : (∃ p a t, n = .mk 0 p a t [] ∧ saneP p = true) ∨ (∃ x y, n = .mk 1 ⟨0, ⟨#[]⟩, ⟨#[]⟩, ⟨#[]⟩⟩ false false [x, y] ∧ endN saneP x = true ∧ endN saneP y = true) ∨
  ∃ l, n = .mk 2 ⟨0, ⟨#[]⟩, ⟨#[]⟩, ⟨#[]⟩⟩ false false l ∧ ∀ x ∈ l, rightN saneP x = true := by
 obtain ⟨k, p, a, t, l⟩ := n
 unfold rightN at h
 simp only [Bool.or_eq_true, Bool.and_eq_true, beq_iff_eq] at h
 rcases h with ⟨rfl, h⟩ | ⟨rfl, h, h2⟩ | ⟨rfl, h, h2, h3⟩
 ·rcases dk_end h with ⟨p', a', t', e, hp⟩ | e | e
  ·exact .inl ⟨p', a', t', e, hp⟩
  ·simp at e
  ·simp at e
 ·obtain ⟨rfl, rfl, rfl⟩ := dk_bare h
  match l, h2 with
  | [x, y], h2 =>
   simp only [twoN, Bool.and_eq_true] at h2
   exact .inr (.inl ⟨x, y, rfl, h2⟩)
 ·obtain ⟨rfl, rfl, rfl⟩ := dk_bare h
  rw [rightL_all] at h3
  exact .inr (.inr ⟨l, rfl, fun x hx => List.all_eq_true.1 h3 x hx⟩)
def unE (n : ND) : Int := if n.t = true then nearE n.p else setE n.p
def unS (n : ND) : List R := if n.t = true then nearS n.p else setS n.p
theorem un_edg_len {k : Int} {s : List R} (hs : sane s) (h : ∀ n, memR s n → 0 ≤ n ∧ n < cnt k) (hb : edgB k s = true) : s.length ≤ 400 := by
 have e : unitsR k s = s := sane_ext (unitsR_sane _ _) hs (fun n => by rw [unitsR_mem]; exact ⟨fun a => a.1, fun a => ⟨a, h n a⟩⟩)
 unfold edgB at hb
 rw [e] at hb
 split at hb
 ·exact of_decide_eq_true hb
 ·have g := of_decide_eq_true hb
  have a := sum_nums s (fun r hr => (sane_ok hs r hr).1)
  have b : ∀ l : List R, (∀ r ∈ l, r.1 ≤ r.2) → (l.length : Int) ≤ sumR l := by
   intro l
   induction l with
   | nil => intro _; simp [sumR]
   | cons r t ih =>
    intro h
    have := ih (fun x hx => h x (by simp [hx]))
    have := h r (by simp)
    rw [List.length_cons, sumR]
    omega
  have := b s (fun r hr => (sane_ok hs r hr).1)
  omega
structure UnOk (k : Int) (s : List R) : Prop where
 kind : 0 < cnt k
 set : setB k s = true
 edg : edgB k s = true
 len : s.length ≤ 400
theorem UnOk.sane {k : Int} {s : List R} (h : UnOk k s) : sane s := setB_sane h.set
theorem setE_ok {p : PT} (h : setE p = 0) : UnOk p.k (setS p) := by
 rcases setE_cases p with ⟨_, hs, hb, e⟩ | ⟨_, ⟨e, _⟩ | ⟨e, _⟩⟩
 ·have ed : edgB p.k (numR p) = true := by
   unfold setE at h
   rw [if_pos hs, if_pos hb] at h
   split at h
   ·assumption
   ·omega
  have inn := numR_inn hs hb
  have bd : ∀ n, memR (numR p) n → 0 ≤ n ∧ n < cnt p.k := by
   rintro n ⟨r, hr, a, b, _⟩
   have := inn r hr
   omega
  have hk : 0 < cnt p.k := by
   have h2 := hs
   unfold saneP at h2
   simp only [Bool.and_eq_true] at h2
   have hk := of_decide_eq_true h2.1
   have : p.k = 0 ∨ p.k = 1 ∨ p.k = 2 ∨ p.k = 3 ∨ p.k = 4 ∨ p.k = 5 := by omega
   rcases this with e | e | e | e | e | e <;> rw [e] <;> decide
  rw [e]
  exact ⟨hk, setB_of (numR_sane p) bd, ed, un_edg_len (numR_sane p) bd ed⟩
 ·omega
 ·omega
theorem nearE_ok {p : PT} (h : nearE p = 0) : UnOk p.k (nearS p) := by
 unfold nearE at h
 split at h
 ·rename_i h0
  split at h
  ·rename_i ed
   have g : sane (growR p) := interR_sane _ _
   have bd : ∀ n, memR (growR p) n → 0 ≤ n ∧ n < cnt p.k := by
    intro n hn
    have := ((interR_mem _ _ _).1 hn).2
    rw [memR_one] at this
    omega
   unfold nearS
   rw [if_pos h0, if_pos ed]
   exact ⟨(setE_ok h0).kind, setB_of g bd, ed, un_edg_len g bd ed⟩
  ·omega
 ·rename_i h0; exact absurd h h0
theorem un_ok {n : ND} (h : unE n = 0) : UnOk n.p.k (unS n) := by
 unfold unE at h
 unfold unS
 split
 ·rename_i ht; rw [if_pos ht] at h; exact nearE_ok h
 ·rename_i ht; rw [if_neg ht] at h; exact setE_ok h
theorem unE_cases (n : ND) (h : saneP n.p = true) : unE n = 0 ∨ unE n = 8 := by
 have a : setE n.p = 0 ∨ setE n.p = 8 := by
  unfold setE
  rw [if_pos h]
  (repeat' split) <;> omega
 unfold unE nearE
 (repeat' split) <;> omega
def siE (n : ND) : Int := if n.k = 3 ∨ n.k = 4 then 0 else unE n
def siR (V : Int → Int → Int) (d : Int) (n : ND) : List R := if n.k = 3 then [(d, d)] else if n.k = 4 then [(0, 3652424)] else edgR (V n.p.k) n.p.k (unS n)
def staS (n : ND) : List R := siR firV 0 n
def endS (n : ND) : List R := siR lasV 3652424 n
theorem one_ok {a b : Int} (h0 : 0 ≤ a) (h1 : a ≤ b) (h2 : b ≤ 3652424) : setB 0 [(a, b)] = true := by
 have s : sane [(a, b)] := by
  rw [show ([(a, b)] : List R) = nf [(a, b)] from (nf_of_sane (show sane [(a, b)] from ⟨⟨by omega, by omega, by omega⟩, trivial, trivial⟩)).symm]
  exact nf_sane _
 refine setB_of s fun n hn => ?_
 rw [memR_one] at hn
 rw [cnt_zero]
 omega
theorem dk_elen {V : Int → Int} {k : Int} {s : List R} : (edgR V k s).length ≤ 400 := by
 unfold edgR
 split
 ·rename_i h
  unfold edgB at h
  split
  ·rename_i hk; rw [if_pos hk] at h; exact of_decide_eq_true h
  ·rename_i hk
   rw [if_neg hk] at h
   have := of_decide_eq_true h
   have b := nf_len (sing ((nums (unitsR k s)).map V))
   have c : (sing ((nums (unitsR k s)).map V)).length = (nums (unitsR k s)).length := by simp [sing]
   omega
 ·simp
theorem edgR_sane {V : Int → Int} {k : Int} {s : List R} : sane (edgR V k s) := by
 unfold edgR
 (repeat' split)
 ·exact unitsR_sane _ _
 ·exact nf_sane _
 ·trivial
theorem dk_day {k d : Int} (h : okO k d = true) : 0 ≤ d ∧ d < cnt 0 := by
 have a := unum_ok h
 have b := span_bd a.1 a.2.1
 rw [cnt_zero]
 omega
theorem sta_set {n : ND} (h : siE n = 0) : setB 0 (staS n) = true ∧ (staS n).length ≤ 400 := by
 unfold siE at h
 unfold staS siR
 split
 ·exact ⟨one_ok (by omega) (by omega) (by omega), by simp⟩
 split
 ·exact ⟨one_ok (by omega) (by omega) (by omega), by simp⟩
 ·rename_i h3 h4
  rw [if_neg (by omega)] at h
  exact ⟨setB_of edgR_sane fun d hd => dk_day ((edgR_fmem (un_ok h).edg d).1 hd).1, dk_elen⟩
theorem end_set {n : ND} (h : siE n = 0) : setB 0 (endS n) = true ∧ (endS n).length ≤ 400 := by
 unfold siE at h
 unfold endS siR
 split
 ·exact ⟨one_ok (by omega) (by omega) (by omega), by simp⟩
 split
 ·exact ⟨one_ok (by omega) (by omega) (by omega), by simp⟩
 ·rename_i h3 h4
  rw [if_neg (by omega)] at h
  exact ⟨setB_of edgR_sane fun d hd => dk_day ((edgR_lmem (un_ok h).edg d).1 hd).1, dk_elen⟩
mutual
def dnE : ND → Int
 | .mk k p a t l => if k = 1 then (if siE (nth l 0) = 0 then siE (nth l 1) else siE (nth l 0)) else if k = 2 then dnEL l else unE (.mk 0 p a t [])
def dnEL : List ND → Int
 | [] => 0
 | x :: l => if dnE x = 0 then dnEL l else dnE x
end
mutual
def dnS : ND → List LF
 | .mk k p a t l => if k = 1 then [⟨true, 0, staS (nth l 0), endS (nth l 1)⟩] else if k = 2 then dnSL l else [⟨false, p.k, unS (.mk 0 p a t []), []⟩]
def dnSL : List ND → List LF
 | [] => []
 | x :: l => dnS x ++ dnSL l
end
theorem dnSL_append : ∀ l m : List ND, dnSL (l ++ m) = dnSL l ++ dnSL m
 | [], m => rfl
 | x :: l, m => by simp only [List.cons_append, dnSL, dnSL_append l m, List.append_assoc]
theorem dnEL_zero : ∀ {l : List ND}, dnEL l = 0 ↔ ∀ x ∈ l, dnE x = 0
 | [] => by simp [dnEL]
 | x :: l => by
  simp only [dnEL, List.mem_cons, forall_eq_or_imp]
  split
  ·rename_i h; rw [dnEL_zero (l := l)]; simp [h]
  ·rename_i h; simp [h]
theorem dnEL_at : ∀ {l : List ND} {i : Nat}, i < l.length → (∀ j, j < i → dnE (nth l j) = 0) → dnE (nth l i) ≠ 0 → dnEL l = dnE (nth l i)
 | x :: l, 0, _, _, h => by
  have e : nth (x :: l) 0 = x := rfl
  rw [e] at h ⊢
  simp only [dnEL]
  rw [if_neg h]
 | x :: l, i + 1, hi, g, h => by
  have e : nth (x :: l) (i + 1) = nth l i := rfl
  rw [e] at h ⊢
  have g0 := g 0 (by omega)
  rw [show nth (x :: l) 0 = x from rfl] at g0
  simp only [dnEL]
  rw [if_pos g0]
  exact dnEL_at (by simpa using hi) (fun j hj => g (j + 1) (by omega)) h
theorem dnEL_all {l : List ND} (h : ∀ j, j < l.length → dnE (nth l j) = 0) : dnEL l = 0 := dnEL_zero.2 fun x hx => by
 obtain ⟨i, hi, rfl⟩ := List.mem_iff_getElem.1 hx
 have := h i hi
 unfold nth at this
 rwa [List.getD_eq_getElem?_getD, List.getElem?_eq_getElem hi] at this
mutual
theorem dnE_cases : ∀ {n : ND}, rightN saneP n = true → dnE n = 0 ∨ dnE n = 8
 | .mk k p a t l, h => by
  have e : ∀ {x : ND}, endN saneP x = true → siE x = 0 ∨ siE x = 8 := by
   intro x hx
   unfold siE
   split
   ·exact .inl rfl
   ·rename_i hk
    rcases dk_end hx with ⟨p', a', t', rfl, hp⟩ | rfl | rfl
    ·exact unE_cases _ hp
    ·simp [ND.k] at hk
    ·simp [ND.k] at hk
  simp only [dnE]
  rcases dk_kind h with ⟨p', a', t', e', hp⟩ | ⟨x, y, e', hx, hy⟩ | ⟨l', e', hl⟩
  ·injection e' with e1 e2 e3 e4 e5
   subst e1 e2 e3 e4 e5
   rw [if_neg (by omega), if_neg (by omega)]
   exact unE_cases _ hp
  ·injection e' with e1 e2 e3 e4 e5
   subst e1 e2 e3 e4 e5
   rw [if_pos rfl]
   rw [show nth [x, y] 0 = x from rfl, show nth [x, y] 1 = y from rfl]
   split
   ·exact e hy
   ·exact e hx
  ·injection e' with e1 e2 e3 e4 e5
   subst e1 e2 e3 e4
   rw [if_neg (by omega), if_pos rfl]
   exact dnEL_cases (l := l) (by rw [e5]; exact hl)
theorem dnEL_cases : ∀ {l : List ND}, (∀ x ∈ l, rightN saneP x = true) → dnEL l = 0 ∨ dnEL l = 8
 | [], _ => .inl rfl
 | x :: l, h => by
  simp only [dnEL]
  have := dnE_cases (h x (by simp))
  split
  ·exact dnEL_cases fun y hy => h y (by simp [hy])
  ·exact this
end
structure LfOk (f : LF) : Prop where
 sane : leafB f = true
 na : f.a.length ≤ 400
 nb : f.b.length ≤ 400
mutual
theorem dnS_ok : ∀ {n : ND}, rightN saneP n = true → dnE n = 0 → ∀ f ∈ dnS n, LfOk f
 | .mk k p a t l, h, g => by
  have e : ∀ {s e : List R}, setB 0 s = true ∧ s.length ≤ 400 → setB 0 e = true ∧ e.length ≤ 400 → LfOk ⟨true, 0, s, e⟩ := fun h1 h2 => ⟨by unfold leafB; rw [if_pos rfl, h1.1, h2.1]; rfl, h1.2, h2.2⟩
  simp only [dnE] at g
  simp only [dnS]
  rcases dk_kind h with ⟨p', a', t', e', hp⟩ | ⟨x, y, e', hx, hy⟩ | ⟨l', e', hl⟩
  ·injection e' with e1 e2 e3 e4 e5
   subst e1 e2 e3 e4 e5
   rw [if_neg (by omega), if_neg (by omega)] at g ⊢
   intro f hf
   rw [List.mem_singleton.1 hf]
   have u := un_ok g
   simp only [ND.p] at u
   exact ⟨by unfold leafB; rw [if_neg (by simp)]; simp only; rw [decide_eq_true u.kind, u.set]; rfl, u.len, by simp⟩
  ·injection e' with e1 e2 e3 e4 e5
   subst e1 e2 e3 e4 e5
   rw [if_pos rfl] at g ⊢
   have g2 : siE x = 0 ∧ siE y = 0 := by
    rw [show nth [x, y] 0 = x from rfl, show nth [x, y] 1 = y from rfl] at g
    split at g
    ·exact ⟨by assumption, g⟩
    ·exact absurd g (by assumption)
   intro f hf
   rw [List.mem_singleton.1 hf]
   exact e (sta_set g2.1) (end_set g2.2)
  ·injection e' with e1 e2 e3 e4 e5
   subst e1 e2 e3 e4
   rw [if_neg (by omega), if_pos rfl] at g ⊢
   exact dnSL_ok (by rw [e5]; exact hl) g
theorem dnSL_ok : ∀ {l : List ND}, (∀ x ∈ l, rightN saneP x = true) → dnEL l = 0 → ∀ f ∈ dnSL l, LfOk f
 | [], _, _, f, hf => by cases hf
 | x :: l, h, g, f, hf => by
  have g2 := dnEL_zero.1 g
  simp only [dnSL] at hf
  rcases List.mem_append.1 hf with hf | hf
  ·exact dnS_ok (h x (by simp)) (g2 x (by simp)) f hf
  ·exact dnSL_ok (fun y hy => h y (by simp [hy])) (dnEL_zero.2 fun y hy => g2 y (by simp [hy])) f hf
end
theorem sane_rightD {n : ND} (h : saneN saneP n = true) : rightN saneP n = true := by
 unfold saneN at h
 simp only [Bool.and_eq_true] at h
 exact h.2.2
theorem sane_cntD {n : ND} (h : saneN saneP n = true) : cntN n ≤ 64 := by
 unfold saneN at h
 simp only [Bool.and_eq_true, decide_eq_true_eq] at h
 exact h.1
mutual
def ptsC : ND → Nat
 | .mk k _ _ _ l => if k = 2 then ptsCL l else 1
def ptsCL : List ND → Nat
 | [] => 0
 | x :: l => ptsC x + ptsCL l
end
mutual
theorem dnS_len : ∀ n : ND, (dnS n).length = ptsC n
 | .mk k p a t l => by
  simp only [dnS, ptsC]
  split
  ·rename_i h; rw [if_neg (by omega)]; rfl
  ·split
   ·exact dnSL_len l
   ·rfl
theorem dnSL_len : ∀ l : List ND, (dnSL l).length = ptsCL l
 | [] => rfl
 | x :: l => by simp only [dnSL, ptsCL, List.length_append, dnS_len x, dnSL_len l]
end
mutual
theorem ptsC_cnt : ∀ n : ND, ptsC n ≤ cntN n
 | .mk k p a t l => by
  simp only [ptsC, cntN]
  have := ptsCL_cnt l
  split <;> omega
theorem ptsCL_cnt : ∀ l : List ND, ptsCL l ≤ cntL l
 | [] => Nat.le_refl _
 | x :: l => by simp only [ptsCL, cntL]; have := ptsC_cnt x; have := ptsCL_cnt l; omega
end
theorem lsOk_of {l : List LF} (h : ∀ f ∈ l, LfOk f) : LsOk l := fun f hf => by
 have o := h f hf
 have ia : I64R f.a ∧ I64R f.b := by
  rcases Bool.eq_false_or_eq_true f.sp with hs | hs
  ·obtain ⟨_, a, b⟩ := leafB_span o.sane hs
   exact ⟨sane_i64 (setB_sane a), sane_i64 (setB_sane b)⟩
  ·obtain ⟨_, a, b⟩ := leafB_units o.sane hs
   exact ⟨sane_i64 (setB_sane a), by rw [b]; intro r hr; cases hr⟩
 exact ⟨ia.1, ia.2, by have := o.na; omega, by have := o.nb; omega⟩
open Go.RowKit
theorem w64_add (a b : Int) : wrap64 (wrap64 a + wrap64 b) = wrap64 (a + b) := by unfold wrap64; omega
theorem w64_one : (1 : Int) = wrap64 (1 + ((cntL (([] : List ND)) : Nat) : Int)) := by
 rw [show cntL ([] : List ND) = 0 from rfl]
 unfold wrap64
 omega
def fewG (n : ND) : Bool := decide (wrap64 (cntN n : Int) ≤ 120) && shortN n
set_option maxHeartbeats 16000000 in
set_option maxRecDepth 100000 in
theorem rCountG_any (w0 : World) : ∀ {v : Value} {l : List ND}, NodesAt w0 v l → ∀ (k : Int) (p : PT) (a t : Bool) (w : World), Kp w0 w → l.length ≤ 9223372036854775807 →
   Calls Tryz.prog 14 #[ndV (.mk k p a t l) v] w fun e w' => e = .returned (.int .i64 (wrap64 (cntN (.mk k p a t l) : Int))) ∧ Kp w w' := by
 refine @NodesAt.ind w0 (fun v l => ∀ (k : Int) (p : PT) (a t : Bool) (w : World), Kp w0 w → l.length ≤ 9223372036854775807 →
   Calls Tryz.prog 14 #[ndV (.mk k p a t l) v] w fun e w' => e = .returned (.int .i64 (wrap64 (cntN (.mk k p a t l) : Int))) ∧ Kp w w') ?_
 rintro v l ⟨ad, cp, rfl, hrow⟩ k p a t w k0 hl
 have ll := len_cntL l
 obtain ⟨pk, y, m, q⟩ := p
 have HR := Lib.hid hrow
 unfold ndV at *
 simp only [ND.k, ND.p, ND.a, ND.t] at *
 obtain ⟨W0, hW⟩ : ∃ x, x = w.alloc (.cells #[.int .i64 k, .int .i64 pk, .string y, .string m, .string q, .bool a, .bool t, .slice ad l.length cp] 26) := ⟨_, rfl⟩
 have kw : Kp w W0 := by rw [hW]; exact Kp.alloc _ _
 have gB : W0.heap[w.heap.size]? = some (.cells #[.int .i64 k, .int .i64 pk, .string y, .string m, .string q, .bool a, .bool t, .slice ad l.length cp] 26 (0, 0)) := by rw [hW]; exact heap_at _ _ _ rfl
 have KW := Lib.hid kw
 have K0W := Lib.hid (k0.trans kw)
 have GB := Lib.hid (fun w1 (q : Kp W0 w1) => heap_block q gB)
 have HW := Lib.hid hW
 clear hrow k0 kw gB hW
 have ec : (cntN (.mk k ⟨pk, y, m, q⟩ a t l) : Int) = 1 + (cntL l : Int) := by simp only [cntN]; omega
 rw [ec]
 clear ec
 go_enter Tryz.func14, Tryz.ntmps14
 go_wp2_with fail
 rw [← HW.out]
 obtain ⟨_, _, _, _, _, _, _, x7⟩ := row8 (GB.out _ (Kp.refl _))
 go_wp2
 go_loopw [3, 4] (fun s i ws => ∃ (j : Nat) (sv : Int), j ≤ l.length ∧ i = .int .i64 j ∧ s = .int .i64 sv ∧ Hid (sv = wrap64 (1 + (cntL (l.take j) : Int))) ∧ Hid (Kp W0 ws)) (fun _ i _ => l.length - (intOf i).toNat)
 case atStart => exact ⟨0, 1, Nat.zero_le _, rfl, rfl, Lib.hid (by rw [List.take_zero]; exact w64_one), Lib.hid (Kp.refl _)⟩
 case round =>
  clear x7
  obtain ⟨j, sv, hj, rfl, rfl, SV, KL⟩ := hrel
  by_cases hlt : j < l.length
  ·obtain ⟨bk, off, rfl, hall⟩ := HR.out (by omega)
   obtain ⟨vi, hrow, hsub, ih⟩ := hall j hlt
   have kw0 : Kp w0 wr := K0W.out.trans KL.out
   obtain ⟨e0, e1, e2, e3, e4, e5, e6, e7⟩ := hrow.kp kw0
   have KW0 := Lib.hid kw0
   have ca := cnt_at hlt
   have ct := cntL_take hlt
   clear hall
   obtain ⟨x, hx⟩ : ∃ x, nth l j = x := ⟨_, rfl⟩
   rw [hx] at e0 e1 e2 e3 e4 e5 e6 ca ct ih hsub
   have NTH := Lib.hid hx
   clear hx hrow
   obtain ⟨k1, ⟨pk1, y1, m1, q1⟩, a1, t1, l1⟩ := x
   simp only [ND.k, ND.p, ND.a, ND.t, ND.l] at e0 e1 e2 e3 e4 e5 e6 ih hsub
   obtain ⟨ad1, cp1, rfl⟩ := hsub.slice
   have cc1 : cntN (.mk k1 ⟨pk1, y1, m1, q1⟩ a1 t1 l1) = cntL l1 + 1 := rfl
   have IHc := ih k1 ⟨pk1, y1, m1, q1⟩ a1 t1
   (try unfold ndV at IHc)
   simp only [ND.k, ND.p, ND.a, ND.t, ND.l] at IHc
   have IH := Lib.hid IHc
   have HC1 := Lib.hid (show l1.length ≤ 9223372036854775807 from hsub.len)
   obtain ⟨_, _, _, _, _, _, _, x7⟩ := row8 (GB.out _ KL.out)
   have z1 : (j : Int) < (l.length : Int) := by omega
   have z3 : (0 : Int) ≤ (j : Int) := by omega
   have HLT := Lib.hid hlt
   clear kw0 ih hsub IHc
   obtain ⟨cv, hcv⟩ : ∃ x, wrap64 (cntN (.mk k1 ⟨pk1, y1, m1, q1⟩ a1 t1 l1) : Int) = x := ⟨_, rfl⟩
   have IHd := IH.out
   rw [hcv] at IHd
   have IH := Lib.hid IHd
   have CV := Lib.hid hcv
   clear IHd hcv
   go_wp2_with fail
   refine (IH.out _ KW0.out HC1.out).mono ?_
   rintro e w5 ⟨rfl, kk⟩
   have KL5 := Lib.hid (KL.out.trans kk)
   clear kk e0 e1 e2 e3 e4 e5 e6 e7 x7
   go_wp2
   go_roundw
   case rel => exact ⟨j + 1, wrap64 (sv + cv), HLT.out, by go_num, rfl, Lib.hid (by rw [ct, SV.out, ← CV.out, w64_add]; congr 1; omega), KL5⟩
   case measure => have := HLT.out; simp [intOf]; omega
  ·obtain rfl : j = l.length := by omega
   have sve := SV.out
   rw [List.take_length] at sve
   clear SV
   subst sve
   obtain ⟨_, _, _, _, _, _, _, x7⟩ := row8 (GB.out _ KL.out)
   go_wp2
   go_ret
   exact ⟨rfl, KW.out.trans KL.out⟩
set_option maxHeartbeats 16000000 in
set_option maxRecDepth 100000 in
theorem rshortG_any (w0 : World) : ∀ {v : Value} {l : List ND}, NodesAt w0 v l → ∀ (k : Int) (p : PT) (a t : Bool) (w : World), Kp w0 w → l.length ≤ 9223372036854775807 →
   Calls Tryz.prog 25 #[ndV (.mk k p a t l) v] w fun e w' => e = .returned (.bool (shortN (.mk k p a t l))) ∧ Kp w w' := by
 refine @NodesAt.ind w0 (fun v l => ∀ (k : Int) (p : PT) (a t : Bool) (w : World), Kp w0 w → l.length ≤ 9223372036854775807 →
   Calls Tryz.prog 25 #[ndV (.mk k p a t l) v] w fun e w' => e = .returned (.bool (shortN (.mk k p a t l))) ∧ Kp w w') ?_
 rintro v l ⟨ad, cp, rfl, hrow⟩ k p a t w k0 hl
 have ll := len_cntL l
 obtain ⟨pk, y, m, q⟩ := p
 have HR := Lib.hid hrow
 unfold ndV at *
 simp only [ND.k, ND.p, ND.a, ND.t] at *
 obtain ⟨W0, hW⟩ : ∃ x, x = w.alloc (.cells #[.int .i64 k, .int .i64 pk, .string y, .string m, .string q, .bool a, .bool t, .slice ad l.length cp] 26) := ⟨_, rfl⟩
 have kw : Kp w W0 := by rw [hW]; exact Kp.alloc _ _
 have gB : W0.heap[w.heap.size]? = some (.cells #[.int .i64 k, .int .i64 pk, .string y, .string m, .string q, .bool a, .bool t, .slice ad l.length cp] 26 (0, 0)) := by rw [hW]; exact heap_at _ _ _ rfl
 have KW := Lib.hid kw
 have K0W := Lib.hid (k0.trans kw)
 have GB := Lib.hid (fun w1 (q : Kp W0 w1) => heap_block q gB)
 have HW := Lib.hid hW
 clear hrow k0 kw gB hW
 have es : shortN (.mk k ⟨pk, y, m, q⟩ a t l) = ((decide (y.size ≤ 10) && (decide (m.size ≤ 10) && decide (q.size ≤ 10))) && shortL l) := by simp only [shortN]
 rw [es]
 clear es
 by_cases hy : y.size ≤ 10
 ·have y1 : decide (10 < (y.size : Int)) = false := decide_eq_false (by omega)
  rw [decide_eq_true hy, Bool.true_and]
  by_cases hm : m.size ≤ 10
  ·have m1 : decide (10 < (m.size : Int)) = false := decide_eq_false (by omega)
   rw [decide_eq_true hm, Bool.true_and]
   by_cases hq : q.size ≤ 10
   ·have q1 : decide (10 < (q.size : Int)) = false := decide_eq_false (by omega)
    rw [decide_eq_true hq, Bool.true_and]
    have SA := Lib.hid (shortL_all l)
    obtain ⟨res, hres⟩ : ∃ r, shortL l = r := ⟨_, rfl⟩
    rw [hres] at SA ⊢
    clear hres hy hm hq
    go_enter Tryz.func25, Tryz.ntmps25
    go_wp2_with fail
    rw [← HW.out]
    obtain ⟨_, _, x2, x3, x4, _, _, x7⟩ := row8 (GB.out _ (Kp.refl _))
    go_wp2
    go_loopw [3] (fun i ws => ∃ j : Nat, j ≤ l.length ∧ i = .int .i64 j ∧ Hid (Kp W0 ws) ∧ Hid (∀ x, x < j → shortN (nth l x) = true)) (fun i _ => l.length - (intOf i).toNat)
    case atStart => exact ⟨0, Nat.zero_le _, rfl, Lib.hid (Kp.refl _), Lib.hid (fun x hx => by omega)⟩
    case round =>
     clear x2 x3 x4 x7
     obtain ⟨j, hj, rfl, KL, LO⟩ := hrel
     by_cases hlt : j < l.length
     ·obtain ⟨bk, off, rfl, hall⟩ := HR.out (by omega)
      obtain ⟨vi, hrow, hsub, ih⟩ := hall j hlt
      have kw0 : Kp w0 wr := K0W.out.trans KL.out
      obtain ⟨e0, e1, e2, e3, e4, e5, e6, e7⟩ := hrow.kp kw0
      have KW0 := Lib.hid kw0
      have ca := cnt_at hlt
      have ct := cntL_take hlt
      clear hall
      obtain ⟨x, hx⟩ : ∃ x, nth l j = x := ⟨_, rfl⟩
      rw [hx] at e0 e1 e2 e3 e4 e5 e6 ca ct ih hsub
      have NTH := Lib.hid hx
      clear hx hrow
      obtain ⟨k1, ⟨pk1, y1', m1', q1'⟩, a1, t1, l1⟩ := x
      simp only [ND.k, ND.p, ND.a, ND.t, ND.l] at e0 e1 e2 e3 e4 e5 e6 ih hsub
      obtain ⟨ad1, cp1, rfl⟩ := hsub.slice
      have cc1 : cntN (.mk k1 ⟨pk1, y1', m1', q1'⟩ a1 t1 l1) = cntL l1 + 1 := rfl
      have IHc := ih k1 ⟨pk1, y1', m1', q1'⟩ a1 t1
      (try unfold ndV at IHc)
      simp only [ND.k, ND.p, ND.a, ND.t, ND.l] at IHc
      have IH := Lib.hid IHc
      have HC1 := Lib.hid (show l1.length ≤ 9223372036854775807 from hsub.len)
      obtain ⟨_, _, _, _, _, _, _, x7⟩ := row8 (GB.out _ KL.out)
      have z1 : (j : Int) < (l.length : Int) := by omega
      have z3 : (0 : Int) ≤ (j : Int) := by omega
      have HLT := Lib.hid hlt
      clear kw0 ih hsub IHc
      obtain ⟨sb, hsb⟩ : ∃ r, shortN (.mk k1 ⟨pk1, y1', m1', q1'⟩ a1 t1 l1) = r := ⟨_, rfl⟩
      have IHd := IH.out
      rw [hsb] at IHd
      have IH := Lib.hid IHd
      have HSB := Lib.hid hsb
      clear IHd hsb
      go_wp2_with fail
      refine (IH.out _ KW0.out HC1.out).mono ?_
      rintro e w5 ⟨rfl, kk⟩
      have KL5 := Lib.hid (KL.out.trans kk)
      clear kk e0 e1 e2 e3 e4 e5 e6 e7 x7
      cases sb with
      | true =>
       go_wp2
       go_roundw
       case rel => exact ⟨j + 1, HLT.out, by go_num, KL5, Lib.hid (fun x hx => by
        by_cases hxj : x < j
        ·exact LO.out x hxj
        ·obtain rfl : x = j := by omega
         rw [NTH.out]; exact HSB.out)⟩
       case measure => have := HLT.out; simp [intOf]; omega
      | false =>
       obtain rfl : res = false := by
        rw [SA.out]
        rcases Bool.eq_false_or_eq_true (l.all shortN) with h | h
        ·have := List.all_eq_true.1 h _ (nth_mem HLT.out)
         rw [NTH.out, HSB.out] at this
         cases this
        ·exact h
       go_wp2
       go_ret
       exact ⟨rfl, KW.out.trans KL5.out⟩
     ·obtain rfl : j = l.length := by omega
      obtain rfl : res = true := by
       rw [SA.out, List.all_eq_true]
       intro x hx
       obtain ⟨i, hi, rfl⟩ := List.getElem_of_mem hx
       have := LO.out i hi
       have en : nth l i = l[i] := by unfold nth; simp [List.getD, hi]
       rw [← en]; exact this
      obtain ⟨_, _, _, _, _, _, _, x7⟩ := row8 (GB.out _ KL.out)
      go_wp2
      go_ret
      exact ⟨rfl, KW.out.trans KL.out⟩
   ·have q1 : decide (10 < (q.size : Int)) = true := decide_eq_true (by omega)
    rw [decide_eq_false hq, Bool.false_and]
    go_enter Tryz.func25, Tryz.ntmps25
    go_wp2_with fail
    rw [← HW.out]
    obtain ⟨_, _, x2, x3, x4, _, _, x7⟩ := row8 (GB.out _ (Kp.refl _))
    go_wp2
    go_ret
    exact ⟨rfl, KW.out⟩
  ·have m1 : decide (10 < (m.size : Int)) = true := decide_eq_true (by omega)
   rw [decide_eq_false hm, Bool.false_and, Bool.false_and]
   go_enter Tryz.func25, Tryz.ntmps25
   go_wp2_with fail
   rw [← HW.out]
   obtain ⟨_, _, x2, x3, x4, _, _, x7⟩ := row8 (GB.out _ (Kp.refl _))
   go_wp2
   go_ret
   exact ⟨rfl, KW.out⟩
 ·have y1 : decide (10 < (y.size : Int)) = true := decide_eq_true (by omega)
  rw [decide_eq_false hy, Bool.false_and, Bool.false_and]
  go_enter Tryz.func25, Tryz.ntmps25
  go_wp2_with fail
  rw [← HW.out]
  obtain ⟨_, _, x2, x3, x4, _, _, x7⟩ := row8 (GB.out _ (Kp.refl _))
  go_wp2
  go_ret
  exact ⟨rfl, KW.out⟩
set_option maxHeartbeats 16000000 in
set_option maxRecDepth 100000 in
theorem rfewG_any (n : ND) (v : Value) (w : World) (h : NodesAt w v n.l) :
  Calls Tryz.prog 13 #[ndV n v] w fun e w' => e = .returned (.bool (fewG n)) ∧ Kp w w' := by
 have C1 := fun w1 (q : Kp w w1) => rCountG_any w h n.k n.p n.a n.t w1 q h.len
 have C2 := fun w1 (q : Kp w w1) => rshortG_any w h n.k n.p n.a n.t w1 q h.len
 rw [← eta_nd n] at C1 C2
 obtain ⟨cm, hcm⟩ : ∃ x : Int, wrap64 (cntN n : Int) = x := ⟨_, rfl⟩
 unfold fewG
 rw [hcm] at C1 ⊢
 generalize shortN n = sb at *
 obtain ⟨ad, cp, rfl⟩ := h.slice
 obtain ⟨k, pk, y, m, q, a, t, l, rfl⟩ := nd_dest n
 have C1H := Lib.hid C1
 have C2H := Lib.hid C2
 unfold ndV at *
 simp only [ND.k, ND.p, ND.a, ND.t, ND.l] at C1H C2H ⊢
 clear h C1 C2 hcm
 obtain ⟨cb, hcb⟩ : ∃ b, decide ((cm : Int) ≤ 120) = b := ⟨_, rfl⟩
 rw [hcb]
 cases cb with
 | false =>
  rw [Bool.false_and]
  go_enter Tryz.func13, Tryz.ntmps13
  go_wp2_with fail
  refine (C1H.out _ (Kp.alloc _ _)).mono ?_
  rintro e w1 ⟨rfl, kk⟩
  have K1 := Lib.hid ((Kp.alloc _ _).trans kk)
  clear kk
  go_wp2
  go_ret
  exact ⟨rfl, K1.out⟩
 | true =>
  rw [Bool.true_and]
  go_enter Tryz.func13, Tryz.ntmps13
  go_wp2_with fail
  refine (C1H.out _ (Kp.alloc _ _)).mono ?_
  rintro e w1 ⟨rfl, kk⟩
  have K1 := Lib.hid ((Kp.alloc _ _).trans kk)
  obtain ⟨x0, x1, x2, x3, x4, x5, x6, x7⟩ := row8 (heap_block kk (heap_at w (.cells #[.int .i64 k, .int .i64 pk, .string y, .string m, .string q, .bool a, .bool t, .slice ad l.length cp] 26) w.heap.size rfl))
  clear kk
  go_wp2_with fail
  refine (C2H.out _ K1.out).mono ?_
  rintro e w2 ⟨rfl, kk⟩
  have K2 := Lib.hid (K1.out.trans kk)
  clear kk
  go_wp2
  go_ret
  exact ⟨rfl, K2.out⟩
abbrev NV := ND × Value
def cellsN : List NV → List Value
 | [] => []
 | (n, x) :: t => .int .i64 n.k :: .int .i64 n.p.k :: .string n.p.y :: .string n.p.m :: .string n.p.d :: .bool n.a :: .bool n.t :: x :: cellsN t
theorem cellsN_length : ∀ l : List NV, (cellsN l).length = l.length * 8 := by
 intro l
 induction l with
 | nil => rfl
 | cons f t ih => obtain ⟨f, x⟩ := f; unfold cellsN; simp [ih]; omega
theorem cellsN_append (l m : List NV) : cellsN (l ++ m) = cellsN l ++ cellsN m := by
 induction l with
 | nil => rfl
 | cons f t ih => obtain ⟨f, x⟩ := f; simp only [List.cons_append, cellsN, ih]
def ReadsN (w : World) (l : List NV) : Prop := ∀ p ∈ l, NodesAt w p.2 p.1.l
theorem ReadsN.kp {w w' : World} {l : List NV} (h : ReadsN w l) (k : Kp w w') : ReadsN w' l := fun p hp => (h p hp).kp k
theorem ReadsN.append {w : World} {l m : List NV} (h : ReadsN w l) (g : ReadsN w m) : ReadsN w (l ++ m) := fun p hp => (List.mem_append.1 hp).elim (h p) (g p)
theorem cellsN_at : ∀ (l : List NV) (i : Nat) (h : i < l.length), (cellsN l)[i * 8]? = some (.int .i64 (l[i]'h).1.k) ∧ (cellsN l)[i * 8 + 1]? = some (.int .i64 (l[i]'h).1.p.k) ∧ (cellsN l)[i * 8 + 2]? = some (.string (l[i]'h).1.p.y) ∧ (cellsN l)[i * 8 + 3]? = some (.string (l[i]'h).1.p.m) ∧
  (cellsN l)[i * 8 + 4]? = some (.string (l[i]'h).1.p.d) ∧ (cellsN l)[i * 8 + 5]? = some (.bool (l[i]'h).1.a) ∧ (cellsN l)[i * 8 + 6]? = some (.bool (l[i]'h).1.t) ∧ (cellsN l)[i * 8 + 7]? = some (l[i]'h).2 := by
 intro l
 induction l with
 | nil => intro i h; simp at h
 | cons f t ih =>
  intro i h
  obtain ⟨f, x⟩ := f
  unfold cellsN
  cases i with
  | zero => exact ⟨rfl, rfl, rfl, rfl, rfl, rfl, rfl, rfl⟩
  | succ i =>
   have g := ih i (by simpa using h)
   rw [show (i + 1) * 8 = i * 8 + 1 + 1 + 1 + 1 + 1 + 1 + 1 + 1 by omega]
   simp only [List.getElem?_cons_succ, List.getElem_cons_succ]
   exact g
theorem nodes_one {w : World} {v : Value} {l : List ND} (h : NodesAt w v l) : v.oneCell' = true := by
 obtain ⟨ad, c, rfl⟩ := h.slice
 rfl
theorem cellsN_one {w : World} : ∀ {l : List NV}, ReadsN w l → ∀ u ∈ cellsN l, u.oneCell' = true := by
 intro l
 induction l with
 | nil => intro _ u hu; cases hu
 | cons f t ih =>
  intro h u hu
  obtain ⟨f, x⟩ := f
  have h0 := h (f, x) List.mem_cons_self
  unfold cellsN at hu
  simp only [List.mem_cons] at hu
  rcases hu with rfl | rfl | rfl | rfl | rfl | rfl | rfl | rfl | hu
  ·rfl
  ·rfl
  ·rfl
  ·rfl
  ·rfl
  ·rfl
  ·rfl
  ·exact nodes_one h0
  ·exact ih (fun p hp => h p (List.mem_cons_of_mem _ hp)) u hu
theorem nodesAt_own {w : World} {base : Nat} {e : TypeId} {v : Value} {m : List NV} (h : w.ownsRow base e 8 v m.length (cellsN m)) (r : ReadsN w m) : NodesAt w v (m.map Prod.fst) := by
 rcases h.2 with ⟨e1, h0⟩ | ⟨g, cp, cur, rfl, h2, h3, h4, h5, h6, h7⟩
 ·have : m = [] := List.length_eq_zero_iff.1 h0
  subst this
  rw [e1]
  exact .none _ _
 ·by_cases hz : m.length = 0
  ·have : m = [] := List.length_eq_zero_iff.1 hz
   subst this
   exact .none _ _
  ·have := NodesAt.row (w := w) (m.map Prod.fst) g 0 cp (fun i => (m.map Prod.snd).getD i (.bool false)) (by rw [List.length_map]; omega) (by rw [List.length_map]; exact h4) h5 (fun i hi => by
    rw [List.length_map] at hi
    obtain ⟨c0, c1, c2, c3, c4, c5, c6, c7⟩ := cellsN_at m i hi
    have e : nth (m.map Prod.fst) i = (m[i]'hi).1 := by unfold nth; rw [List.getD_eq_getElem?_getD, List.getElem?_map, List.getElem?_eq_getElem hi]; rfl
    have e2 : (m.map Prod.snd).getD i (.bool false) = (m[i]'hi).2 := by rw [List.getD_eq_getElem?_getD, List.getElem?_map, List.getElem?_eq_getElem hi]; rfl
    rw [e, e2, Nat.zero_add]
    refine ⟨?_, ?_, ?_, ?_, ?_, ?_, ?_, ?_⟩
    ·rw [h.cellAt _ (by omega)]; exact c0
    ·rw [h.cellAt _ (by omega)]; exact c1
    ·rw [h.cellAt _ (by omega)]; exact c2
    ·rw [h.cellAt _ (by omega)]; exact c3
    ·rw [h.cellAt _ (by omega)]; exact c4
    ·rw [h.cellAt _ (by omega)]; exact c5
    ·rw [h.cellAt _ (by omega)]; exact c6
    ·rw [h.cellAt _ (by omega)]; exact c7) (fun i hi => by
    rw [List.length_map] at hi
    have e : nth (m.map Prod.fst) i = (m[i]'hi).1 := by unfold nth; rw [List.getD_eq_getElem?_getD, List.getElem?_map, List.getElem?_eq_getElem hi]; rfl
    have e2 : (m.map Prod.snd).getD i (.bool false) = (m[i]'hi).2 := by rw [List.getD_eq_getElem?_getD, List.getElem?_map, List.getElem?_eq_getElem hi]; rfl
    rw [e, e2]
    exact r _ (List.getElem_mem hi))
   rwa [List.length_map] at this
theorem infoNode : (Tryz.prog.info? 26).map (fun i => (i.zero, i.size, i.bytes)) = some (some (.agg #[.int .i64 0, .int .i64 0, .string ⟨#[]⟩, .string ⟨#[]⟩, .string ⟨#[]⟩, .bool false, .bool false, .slice none 0 0]), 8, 96) := by kernel_rfl
theorem setCell_grown (w : World) (b o : Nat) (u : Value) : w.grownBy (w.setCell ⟨b, o, none⟩ u) (some b) :=
 ⟨rfl, rfl, rfl, by unfold World.setCell; simp, fun k hk hn => ps_other (fun e => hn (by rw [e])) o u⟩
theorem own_setCell {w : World} {base : Nat} {e : TypeId} {size : Nat} {v : Value} {n : Nat} {xs : List Value} {b : Nat} (h : w.ownsRow base e size v n xs) (hb : b < base) (o : Nat) (u : Value) : (w.setCell ⟨b, o, none⟩ u).ownsRow base e size v n xs := by
 refine h.kept (setCell_grown w b o u) ?_
 cases hv : v.ownBlock with
 | none => exact .inl rfl
 | some k => exact .inr fun c => by cases c; have := (h.lt b hv).1; omega
theorem kp_setCell {w w' : World} (k : Kp w w') {b : Nat} (hb : w.heap.size ≤ b) (o : Nat) (u : Value) : Kp w (w'.setCell ⟨b, o, none⟩ u) := Below.setCell k (p := ⟨b, o, none⟩) hb u
theorem own_slice8 {w : World} {base : Nat} {e : TypeId} {v : Value} {n : Nat} {xs : List Value} (h : w.ownsRow base e 8 v n xs) : ∃ ad c, v = .slice ad n c := by
 rcases h.2 with ⟨e1, h0⟩ | ⟨g, cp, cur, rfl, _⟩
 ·exact ⟨none, 0, by rw [e1, h0]⟩
 ·exact ⟨_, _, rfl⟩
theorem one_srcN {w : World} {b : Nat} (hb : w.heap.size = b) (n : ND) (v : Value) (t : TypeId) : SrcAt (w.alloc (.cells #[.int .i64 n.k, .int .i64 n.p.k, .string n.p.y, .string n.p.m, .string n.p.d, .bool n.a, .bool n.t, v] t)) (.slice (some ⟨b, 0, none⟩) 1 1) 1 (cellsN [(n, v)]) := by
 refine .inr ⟨_, _, rfl, fun j u hu => ?_⟩
 rw [Addr.add_lit]
 have h := heap_at w (.cells #[.int .i64 n.k, .int .i64 n.p.k, .string n.p.y, .string n.p.m, .string n.p.d, .bool n.a, .bool n.t, v] t) b hb
 have q := row8 h
 unfold cellsN at hu
 match j, hu with
 | 0, hu => cases hu; exact q.1
 | 1, hu => cases hu; exact q.2.1
 | 2, hu => cases hu; exact q.2.2.1
 | 3, hu => cases hu; exact q.2.2.2.1
 | 4, hu => cases hu; exact q.2.2.2.2.1
 | 5, hu => cases hu; exact q.2.2.2.2.2.1
 | 6, hu => cases hu; exact q.2.2.2.2.2.2.1
 | 7, hu => cases hu; exact q.2.2.2.2.2.2.2
 | j + 8, hu => simp [cellsN] at hu
def flt (e : Int) : List PanicEntry := [{ v := .iface 49 (.agg #[.int .i64 e]), recovered := false }]
theorem own_day (w : World) (lo hi' : Int) : (w.alloc (.cells #[.int .i64 lo, .int .i64 hi'] 45)).ownsRow w.heap.size 45 2 (.slice (some ⟨w.heap.size, 0, none⟩) 1 1) 1 (cellsR [(lo, hi')]) :=
 ⟨rfl, .inr ⟨w.heap.size, 1, #[.int .i64 lo, .int .i64 hi'], rfl, Nat.le_refl _, heap_at _ _ _ rfl, Nat.le_refl _, by decide, rfl, rfl⟩⟩
theorem dn_days (lo hi' : Int) (w : World) :
  Calls Tryz.prog 40 #[.int .i64 lo, .int .i64 hi'] w fun e w' => ∃ v' : Value, e = .returned v' ∧ w'.ownsRow w.heap.size 45 2 v' [(lo, hi')].length (cellsR [(lo, hi')]) ∧ Kp w w' := by
 have O := Lib.hid (own_day w lo hi')
 go_enter Tryz.func40, Tryz.ntmps40
 go_wp2
 go_ret
 exact ⟨_, rfl, O.out, Kp.alloc _ _⟩
theorem dn_narrow_yes (ad : Option Addr) (n c : Nat) (w : World) :
  Calls Tryz.prog 41 #[.slice ad n c, .bool true] w fun e w' => e = .returned (.slice ad n c) ∧ Kp w w' := by
 go_enter Tryz.func41, Tryz.ntmps41
 go_wp2
 go_ret
 exact ⟨rfl, Kp.refl _⟩
theorem unE_f (k : Int) (p : PT) (a : Bool) (l : List ND) : unE (.mk k p a false l) = setE p := rfl
theorem unE_t (k : Int) (p : PT) (a : Bool) (l : List ND) : unE (.mk k p a true l) = nearE p := rfl
theorem unS_f (k : Int) (p : PT) (a : Bool) (l : List ND) : unS (.mk k p a false l) = setS p := rfl
theorem unS_t (k : Int) (p : PT) (a : Bool) (l : List ND) : unS (.mk k p a true l) = nearS p := rfl
theorem siR_3 (V : Int → Int → Int) (d : Int) (p : PT) (a t : Bool) (l : List ND) : siR V d (.mk 3 p a t l) = [(d, d)] := rfl
theorem siR_4 (V : Int → Int → Int) (d : Int) (p : PT) (a t : Bool) (l : List ND) : siR V d (.mk 4 p a t l) = [(0, 3652424)] := rfl
theorem siR_k (V : Int → Int → Int) (d : Int) {k : Int} (p : PT) (a t : Bool) (l : List ND) (h3 : ¬ k = 3) (h4 : ¬ k = 4) : siR V d (.mk k p a t l) = edgR (V p.k) p.k (unS (.mk k p a t l)) := by
 show (if k = 3 then [(d, d)] else if k = 4 then [(0, 3652424)] else edgR (V p.k) p.k (unS (.mk k p a t l))) = _
 rw [if_neg h3, if_neg h4]
theorem siE_k {k : Int} (p : PT) (a t : Bool) (l : List ND) (h3 : ¬ k = 3) (h4 : ¬ k = 4) : siE (.mk k p a t l) = unE (.mk k p a t l) := by
 show (if k = 3 ∨ k = 4 then 0 else unE (.mk k p a t l)) = _
 rw [if_neg (by omega)]
theorem siE_no {k : Int} {p : PT} {a t : Bool} {l : List ND} (h : ¬ siE (.mk k p a t l) = 0) : ¬ k = 3 ∧ ¬ k = 4 := by
 by_cases h34 : k = 3 ∨ k = 4
 ·exfalso
  apply h
  show (if k = 3 ∨ k = 4 then 0 else unE (.mk k p a t l)) = _
  rw [if_pos h34]
 ·omega
set_option maxHeartbeats 16000000 in
set_option maxRecDepth 100000 in
theorem dn_units_ok (n : ND) (v : Value) (w : World) (hv : ∃ ad c, v = .slice ad n.l.length c) (T : Tabs8 w) (h : unE n = 0) :
  Calls Tryz.prog 29 #[ndV n v] w fun e w' => ∃ v' : Value, e = .returned v' ∧ w'.ownsRow w.heap.size 45 2 v' (unS n).length (cellsR (unS n)) ∧ Kp w w' := by
 obtain ⟨ad, cp, rfl⟩ := hv
 obtain ⟨k, pk, y, m, q, a, t, l, rfl⟩ := nd_dest n
 unfold ndV
 simp only [ND.k, ND.p, ND.a, ND.t, ND.l]
 cases t with
 | false =>
  rw [unE_f] at h
  rw [unS_f]
  obtain ⟨W0, hW⟩ : ∃ x, x = w.alloc (.cells #[.int .i64 k, .int .i64 pk, .string y, .string m, .string q, .bool a, .bool false, .slice ad l.length cp] 26) := ⟨_, rfl⟩
  have k0 : Kp w W0 := by rw [hW]; exact Kp.alloc _ _
  have hg : W0.heap[w.heap.size]? = some (.cells #[.int .i64 k, .int .i64 pk, .string y, .string m, .string q, .bool a, .bool false, .slice ad l.length cp] 26 (0, 0)) := by rw [hW]; exact heap_at _ _ _ rfl
  have HB := Lib.hid (fun w1 (qq : Kp W0 w1) => show w1.cell? ⟨w.heap.size, 0, none⟩ = some (.int .i64 k) ∧ w1.cell? ⟨w.heap.size, 1, none⟩ = some (.int .i64 pk) ∧ w1.cell? ⟨w.heap.size, 2, none⟩ = some (.string y) ∧ w1.cell? ⟨w.heap.size, 3, none⟩ = some (.string m) ∧ w1.cell? ⟨w.heap.size, 4, none⟩ = some (.string q) ∧ w1.cell? ⟨w.heap.size, 5, none⟩ = some (.bool a) ∧ w1.cell? ⟨w.heap.size, 6, none⟩ = some (.bool false) ∧ w1.cell? ⟨w.heap.size, 7, none⟩ = some (.slice ad l.length cp) from row8 (heap_block qq hg))
  have HW := Lib.hid hW
  have K00 := Lib.hid k0
  have K0 := Lib.hid (Kp.refl W0)
  have TT := Lib.hid (fun w1 (qq : Kp W0 w1) => T.kp (k0.trans qq))
  clear hW k0 hg
  have CS := Lib.hid (fun w1 (qq : Kp W0 w1) => (show Calls Tryz.prog 44 #[.agg #[.int .i64 pk, .string y, .string m, .string q]] w1 _ from pset_any ⟨pk, y, m, q⟩ w1 (TT.out _ qq)))
  clear T
  rw [h] at CS
  go_enter Tryz.func29, Tryz.ntmps29
  go_wp2_with fail
  rw [← HW.out]
  obtain ⟨c0, c1, c2, c3, c4, c5, c6, c7⟩ := HB.out W0 (Kp.refl _)
  go_wp2_with fail
  refine (CS.out _ (Kp.refl _)).mono ?_
  rintro e w1 ⟨v1, rfl, own1, kk⟩
  have K1 := Lib.hid (K00.out.trans kk)
  have O1 := Lib.hid (own_mono own1 K00.out.size)
  obtain ⟨a1, b1, rfl⟩ := own_slice own1
  clear own1 kk c0 c1 c2 c3 c4 c5 c6 c7
  go_wp2
  go_ret
  exact ⟨_, rfl, O1.out, K1.out⟩
 | true =>
  rw [unE_t] at h
  rw [unS_t]
  obtain ⟨W0, hW⟩ : ∃ x, x = w.alloc (.cells #[.int .i64 k, .int .i64 pk, .string y, .string m, .string q, .bool a, .bool true, .slice ad l.length cp] 26) := ⟨_, rfl⟩
  have k0 : Kp w W0 := by rw [hW]; exact Kp.alloc _ _
  have hg : W0.heap[w.heap.size]? = some (.cells #[.int .i64 k, .int .i64 pk, .string y, .string m, .string q, .bool a, .bool true, .slice ad l.length cp] 26 (0, 0)) := by rw [hW]; exact heap_at _ _ _ rfl
  have HB := Lib.hid (fun w1 (qq : Kp W0 w1) => show w1.cell? ⟨w.heap.size, 0, none⟩ = some (.int .i64 k) ∧ w1.cell? ⟨w.heap.size, 1, none⟩ = some (.int .i64 pk) ∧ w1.cell? ⟨w.heap.size, 2, none⟩ = some (.string y) ∧ w1.cell? ⟨w.heap.size, 3, none⟩ = some (.string m) ∧ w1.cell? ⟨w.heap.size, 4, none⟩ = some (.string q) ∧ w1.cell? ⟨w.heap.size, 5, none⟩ = some (.bool a) ∧ w1.cell? ⟨w.heap.size, 6, none⟩ = some (.bool true) ∧ w1.cell? ⟨w.heap.size, 7, none⟩ = some (.slice ad l.length cp) from row8 (heap_block qq hg))
  have HW := Lib.hid hW
  have K00 := Lib.hid k0
  have K0 := Lib.hid (Kp.refl W0)
  have TT := Lib.hid (fun w1 (qq : Kp W0 w1) => T.kp (k0.trans qq))
  clear hW k0 hg
  have CS := Lib.hid (fun w1 (qq : Kp W0 w1) => (show Calls Tryz.prog 45 #[.agg #[.int .i64 pk, .string y, .string m, .string q]] w1 _ from pnear_any ⟨pk, y, m, q⟩ w1 (TT.out _ qq)))
  clear T
  rw [h] at CS
  go_enter Tryz.func29, Tryz.ntmps29
  go_wp2_with fail
  rw [← HW.out]
  obtain ⟨c0, c1, c2, c3, c4, c5, c6, c7⟩ := HB.out W0 (Kp.refl _)
  go_wp2_with fail
  refine (CS.out _ (Kp.refl _)).mono ?_
  rintro e w1 ⟨v1, rfl, own1, kk⟩
  have K1 := Lib.hid (K00.out.trans kk)
  have O1 := Lib.hid (own_mono own1 K00.out.size)
  obtain ⟨a1, b1, rfl⟩ := own_slice own1
  clear own1 kk c0 c1 c2 c3 c4 c5 c6 c7
  go_wp2
  go_ret
  exact ⟨_, rfl, O1.out, K1.out⟩
set_option maxHeartbeats 16000000 in
set_option maxRecDepth 100000 in
theorem dn_units_no (n : ND) (v : Value) (w : World) (hv : ∃ ad c, v = .slice ad n.l.length c) (T : Tabs8 w) (h : ¬ unE n = 0) :
  Calls Tryz.prog 29 #[ndV n v] w fun e w' => e = .panicked (flt (unE n)) ∧ Kp w w' := by
 obtain ⟨ad, cp, rfl⟩ := hv
 obtain ⟨k, pk, y, m, q, a, t, l, rfl⟩ := nd_dest n
 unfold ndV
 simp only [ND.k, ND.p, ND.a, ND.t, ND.l]
 cases t with
 | false =>
  rw [unE_f] at h ⊢
  obtain ⟨W0, hW⟩ : ∃ x, x = w.alloc (.cells #[.int .i64 k, .int .i64 pk, .string y, .string m, .string q, .bool a, .bool false, .slice ad l.length cp] 26) := ⟨_, rfl⟩
  have k0 : Kp w W0 := by rw [hW]; exact Kp.alloc _ _
  have hg : W0.heap[w.heap.size]? = some (.cells #[.int .i64 k, .int .i64 pk, .string y, .string m, .string q, .bool a, .bool false, .slice ad l.length cp] 26 (0, 0)) := by rw [hW]; exact heap_at _ _ _ rfl
  have HB := Lib.hid (fun w1 (qq : Kp W0 w1) => show w1.cell? ⟨w.heap.size, 0, none⟩ = some (.int .i64 k) ∧ w1.cell? ⟨w.heap.size, 1, none⟩ = some (.int .i64 pk) ∧ w1.cell? ⟨w.heap.size, 2, none⟩ = some (.string y) ∧ w1.cell? ⟨w.heap.size, 3, none⟩ = some (.string m) ∧ w1.cell? ⟨w.heap.size, 4, none⟩ = some (.string q) ∧ w1.cell? ⟨w.heap.size, 5, none⟩ = some (.bool a) ∧ w1.cell? ⟨w.heap.size, 6, none⟩ = some (.bool false) ∧ w1.cell? ⟨w.heap.size, 7, none⟩ = some (.slice ad l.length cp) from row8 (heap_block qq hg))
  have HW := Lib.hid hW
  have K00 := Lib.hid k0
  have K0 := Lib.hid (Kp.refl W0)
  have TT := Lib.hid (fun w1 (qq : Kp W0 w1) => T.kp (k0.trans qq))
  clear hW k0 hg
  have CS := Lib.hid (fun w1 (qq : Kp W0 w1) => (show Calls Tryz.prog 44 #[.agg #[.int .i64 pk, .string y, .string m, .string q]] w1 _ from pset_any ⟨pk, y, m, q⟩ w1 (TT.out _ qq)))
  clear T
  have GE : (setE ⟨pk, y, m, q⟩ == 0) = false := beq_eq_false_iff_ne.2 h
  generalize setE ⟨pk, y, m, q⟩ = er at *
  have GE2 : (er != 0) = true := by simp [h]
  clear h
  go_enter Tryz.func29, Tryz.ntmps29
  go_wp2_with fail
  rw [← HW.out]
  obtain ⟨c0, c1, c2, c3, c4, c5, c6, c7⟩ := HB.out W0 (Kp.refl _)
  go_wp2_with fail
  refine (CS.out _ (Kp.refl _)).mono ?_
  rintro e w1 ⟨v1, rfl, own1, kk⟩
  have K1 := Lib.hid (K00.out.trans kk)
  have O1 := Lib.hid (own_mono own1 K00.out.size)
  obtain ⟨a1, b1, rfl⟩ := own_slice own1
  clear own1 kk c0 c1 c2 c3 c4 c5 c6 c7
  go_wp2
  exact ⟨rfl, rfl, K1.out⟩
 | true =>
  rw [unE_t] at h ⊢
  obtain ⟨W0, hW⟩ : ∃ x, x = w.alloc (.cells #[.int .i64 k, .int .i64 pk, .string y, .string m, .string q, .bool a, .bool true, .slice ad l.length cp] 26) := ⟨_, rfl⟩
  have k0 : Kp w W0 := by rw [hW]; exact Kp.alloc _ _
  have hg : W0.heap[w.heap.size]? = some (.cells #[.int .i64 k, .int .i64 pk, .string y, .string m, .string q, .bool a, .bool true, .slice ad l.length cp] 26 (0, 0)) := by rw [hW]; exact heap_at _ _ _ rfl
  have HB := Lib.hid (fun w1 (qq : Kp W0 w1) => show w1.cell? ⟨w.heap.size, 0, none⟩ = some (.int .i64 k) ∧ w1.cell? ⟨w.heap.size, 1, none⟩ = some (.int .i64 pk) ∧ w1.cell? ⟨w.heap.size, 2, none⟩ = some (.string y) ∧ w1.cell? ⟨w.heap.size, 3, none⟩ = some (.string m) ∧ w1.cell? ⟨w.heap.size, 4, none⟩ = some (.string q) ∧ w1.cell? ⟨w.heap.size, 5, none⟩ = some (.bool a) ∧ w1.cell? ⟨w.heap.size, 6, none⟩ = some (.bool true) ∧ w1.cell? ⟨w.heap.size, 7, none⟩ = some (.slice ad l.length cp) from row8 (heap_block qq hg))
  have HW := Lib.hid hW
  have K00 := Lib.hid k0
  have K0 := Lib.hid (Kp.refl W0)
  have TT := Lib.hid (fun w1 (qq : Kp W0 w1) => T.kp (k0.trans qq))
  clear hW k0 hg
  have CS := Lib.hid (fun w1 (qq : Kp W0 w1) => (show Calls Tryz.prog 45 #[.agg #[.int .i64 pk, .string y, .string m, .string q]] w1 _ from pnear_any ⟨pk, y, m, q⟩ w1 (TT.out _ qq)))
  clear T
  have GE : (nearE ⟨pk, y, m, q⟩ == 0) = false := beq_eq_false_iff_ne.2 h
  generalize nearE ⟨pk, y, m, q⟩ = er at *
  have GE2 : (er != 0) = true := by simp [h]
  clear h
  go_enter Tryz.func29, Tryz.ntmps29
  go_wp2_with fail
  rw [← HW.out]
  obtain ⟨c0, c1, c2, c3, c4, c5, c6, c7⟩ := HB.out W0 (Kp.refl _)
  go_wp2_with fail
  refine (CS.out _ (Kp.refl _)).mono ?_
  rintro e w1 ⟨v1, rfl, own1, kk⟩
  have K1 := Lib.hid (K00.out.trans kk)
  have O1 := Lib.hid (own_mono own1 K00.out.size)
  obtain ⟨a1, b1, rfl⟩ := own_slice own1
  clear own1 kk c0 c1 c2 c3 c4 c5 c6 c7
  go_wp2
  exact ⟨rfl, rfl, K1.out⟩
abbrev dnS0 : Oper := { dst := some 11, op := Go.Op.fieldAddr 26 (Go.Operand.tmp 1) 1, type := 0, pos := "denote.go:85", after := #[], guard := none }
abbrev dnS1 : Oper := { dst := some 12, op := Go.Op.fieldAddr 23 (Go.Operand.tmp 11) 0, type := 0, pos := "denote.go:85", after := #[{ on := 0, ground := Go.Ground.data }], guard := none }
abbrev dnS2 : Oper := { dst := some 13, op := Go.Op.load 3 (Go.Operand.tmp 12), type := 3, pos := "denote.go:85", after := #[{ on := 1, ground := Go.Ground.data }], guard := none }
abbrev dnS3 : Oper := { dst := some 14, op := Go.Op.load 26 (Go.Operand.tmp 1), type := 26, pos := "denote.go:85", after := #[], guard := none }
abbrev dnS4 : Oper := { dst := some 15, op := Go.Op.call { callee := Go.Callee.value (Go.Operand.func 29), args := #[Go.Operand.tmp 14], argTypes := #[26] }, type := 41, pos := "denote.go:85", after := #[{ on := 3, ground := Go.Ground.data }], guard := none }
abbrev dnS5 : Oper := { dst := some 16, op := Go.Op.call { callee := Go.Callee.value (Go.Operand.func 42), args := #[Go.Operand.tmp 13, Go.Operand.tmp 15], argTypes := #[3, 41] }, type := 85, pos := "denote.go:85", after := #[{ on := 2, ground := Go.Ground.data }, { on := 4, ground := Go.Ground.data }, { on := 4, ground := Go.Ground.chain }], guard := none }
abbrev dnS6 : Oper := { dst := some 17, op := Go.Op.extract (Go.Operand.tmp 16) 0, type := 41, pos := "denote.go:85", after := #[{ on := 5, ground := Go.Ground.data }], guard := none }
abbrev dnS7 : Oper := { dst := some 18, op := Go.Op.extract (Go.Operand.tmp 16) 1, type := 4, pos := "denote.go:85", after := #[{ on := 5, ground := Go.Ground.data }], guard := none }
abbrev dnS8 : Oper := { dst := some 19, op := Go.Op.call { callee := Go.Callee.value (Go.Operand.func 41), args := #[Go.Operand.tmp 17, Go.Operand.tmp 18], argTypes := #[41, 4] }, type := 41, pos := "denote.go:85", after := #[{ on := 6, ground := Go.Ground.data }, { on := 7, ground := Go.Ground.data }, { on := 5, ground := Go.Ground.chain }], guard := none }
abbrev dnS9 : Oper := { dst := some 2, op := Go.Op.assign (Go.Operand.tmp 19), type := 41, pos := "denote.go:85", after := #[{ on := 8, ground := Go.Ground.data }, { on := 8, ground := Go.Ground.chain }, { on := 0, ground := Go.Ground.phase }, { on := 1, ground := Go.Ground.phase }, { on := 2, ground := Go.Ground.phase }, { on := 3, ground := Go.Ground.phase }, { on := 4, ground := Go.Ground.phase }, { on := 5, ground := Go.Ground.phase }, { on := 6, ground := Go.Ground.phase }, { on := 7, ground := Go.Ground.phase }, { on := 8, ground := Go.Ground.phase }], guard := none }
set_option maxHeartbeats 16000000 in
set_option maxRecDepth 100000 in
theorem dn_starts_ok (n : ND) (v : Value) (w : World) (hv : ∃ ad c, v = .slice ad n.l.length c) (T : Tabs8 w) (h : siE n = 0) :
  Calls Tryz.prog 27 #[ndV n v] w fun e w' => ∃ v' : Value, e = .returned v' ∧ w'.ownsRow w.heap.size 45 2 v' (staS n).length (cellsR (staS n)) ∧ Kp w w' := by
 obtain ⟨ad, cp, rfl⟩ := hv
 obtain ⟨k, pk, y, m, q, a, t, l, rfl⟩ := nd_dest n
 unfold staS
 unfold ndV
 simp only [ND.k, ND.p, ND.a, ND.t, ND.l]
 by_cases h3 : k = 3
 ·subst h3
  rw [siR_3]
  obtain ⟨W0, hW⟩ : ∃ x, x = w.alloc (.cells #[.int .i64 3, .int .i64 pk, .string y, .string m, .string q, .bool a, .bool t, .slice ad l.length cp] 26) := ⟨_, rfl⟩
  have k0 : Kp w W0 := by rw [hW]; exact Kp.alloc _ _
  have hg : W0.heap[w.heap.size]? = some (.cells #[.int .i64 3, .int .i64 pk, .string y, .string m, .string q, .bool a, .bool t, .slice ad l.length cp] 26 (0, 0)) := by rw [hW]; exact heap_at _ _ _ rfl
  have HB := Lib.hid (fun w1 (qq : Kp W0 w1) => show w1.cell? ⟨w.heap.size, 0, none⟩ = some (.int .i64 3) ∧ w1.cell? ⟨w.heap.size, 1, none⟩ = some (.int .i64 pk) ∧ w1.cell? ⟨w.heap.size, 2, none⟩ = some (.string y) ∧ w1.cell? ⟨w.heap.size, 3, none⟩ = some (.string m) ∧ w1.cell? ⟨w.heap.size, 4, none⟩ = some (.string q) ∧ w1.cell? ⟨w.heap.size, 5, none⟩ = some (.bool a) ∧ w1.cell? ⟨w.heap.size, 6, none⟩ = some (.bool t) ∧ w1.cell? ⟨w.heap.size, 7, none⟩ = some (.slice ad l.length cp) from row8 (heap_block qq hg))
  have HW := Lib.hid hW
  have K00 := Lib.hid k0
  have K0 := Lib.hid (Kp.refl W0)
  have TT := Lib.hid (fun w1 (qq : Kp W0 w1) => T.kp (k0.trans qq))
  clear hW k0 hg
  have CD := Lib.hid (fun a b w1 => dn_days a b w1)
  clear T
  go_enter Tryz.func27, Tryz.ntmps27
  go_wp2_with fail
  rw [← HW.out]
  obtain ⟨c0, c1, c2, c3, c4, c5, c6, c7⟩ := HB.out W0 (Kp.refl _)
  go_wp2_with fail
  refine (CD.out _ _ _).mono ?_
  rintro e w1 ⟨v1, rfl, own1, kk⟩
  have K1 := Lib.hid (K00.out.trans kk)
  have O1 := Lib.hid (own_mono own1 K00.out.size)
  obtain ⟨a1, b1, rfl⟩ := own_slice own1
  clear own1 kk c0 c1 c2 c3 c4 c5 c6 c7
  go_wp2
  go_ret
  exact ⟨_, rfl, O1.out, K1.out⟩
 by_cases h4 : k = 4
 ·subst h4
  rw [siR_4]
  obtain ⟨W0, hW⟩ : ∃ x, x = w.alloc (.cells #[.int .i64 4, .int .i64 pk, .string y, .string m, .string q, .bool a, .bool t, .slice ad l.length cp] 26) := ⟨_, rfl⟩
  have k0 : Kp w W0 := by rw [hW]; exact Kp.alloc _ _
  have hg : W0.heap[w.heap.size]? = some (.cells #[.int .i64 4, .int .i64 pk, .string y, .string m, .string q, .bool a, .bool t, .slice ad l.length cp] 26 (0, 0)) := by rw [hW]; exact heap_at _ _ _ rfl
  have HB := Lib.hid (fun w1 (qq : Kp W0 w1) => show w1.cell? ⟨w.heap.size, 0, none⟩ = some (.int .i64 4) ∧ w1.cell? ⟨w.heap.size, 1, none⟩ = some (.int .i64 pk) ∧ w1.cell? ⟨w.heap.size, 2, none⟩ = some (.string y) ∧ w1.cell? ⟨w.heap.size, 3, none⟩ = some (.string m) ∧ w1.cell? ⟨w.heap.size, 4, none⟩ = some (.string q) ∧ w1.cell? ⟨w.heap.size, 5, none⟩ = some (.bool a) ∧ w1.cell? ⟨w.heap.size, 6, none⟩ = some (.bool t) ∧ w1.cell? ⟨w.heap.size, 7, none⟩ = some (.slice ad l.length cp) from row8 (heap_block qq hg))
  have HW := Lib.hid hW
  have K00 := Lib.hid k0
  have K0 := Lib.hid (Kp.refl W0)
  have TT := Lib.hid (fun w1 (qq : Kp W0 w1) => T.kp (k0.trans qq))
  clear hW k0 hg
  have CD := Lib.hid (fun a b w1 => dn_days a b w1)
  clear T
  go_enter Tryz.func27, Tryz.ntmps27
  go_wp2_with fail
  rw [← HW.out]
  obtain ⟨c0, c1, c2, c3, c4, c5, c6, c7⟩ := HB.out W0 (Kp.refl _)
  go_wp2_with fail
  refine (CD.out _ _ _).mono ?_
  rintro e w1 ⟨v1, rfl, own1, kk⟩
  have K1 := Lib.hid (K00.out.trans kk)
  have O1 := Lib.hid (own_mono own1 K00.out.size)
  obtain ⟨a1, b1, rfl⟩ := own_slice own1
  clear own1 kk c0 c1 c2 c3 c4 c5 c6 c7
  go_wp2
  go_ret
  exact ⟨_, rfl, O1.out, K1.out⟩
 rw [siE_k _ _ _ _ h3 h4] at h
 rw [siR_k _ _ _ _ _ _ h3 h4]
 simp only
 have e3 : (k == 3) = false := beq_eq_false_iff_ne.2 h3
 have e4 : (k == 4) = false := beq_eq_false_iff_ne.2 h4
 clear h3 h4
 obtain ⟨W0, hW⟩ : ∃ x, x = w.alloc (.cells #[.int .i64 k, .int .i64 pk, .string y, .string m, .string q, .bool a, .bool t, .slice ad l.length cp] 26) := ⟨_, rfl⟩
 have k0 : Kp w W0 := by rw [hW]; exact Kp.alloc _ _
 have hg : W0.heap[w.heap.size]? = some (.cells #[.int .i64 k, .int .i64 pk, .string y, .string m, .string q, .bool a, .bool t, .slice ad l.length cp] 26 (0, 0)) := by rw [hW]; exact heap_at _ _ _ rfl
 have HB := Lib.hid (fun w1 (qq : Kp W0 w1) => show w1.cell? ⟨w.heap.size, 0, none⟩ = some (.int .i64 k) ∧ w1.cell? ⟨w.heap.size, 1, none⟩ = some (.int .i64 pk) ∧ w1.cell? ⟨w.heap.size, 2, none⟩ = some (.string y) ∧ w1.cell? ⟨w.heap.size, 3, none⟩ = some (.string m) ∧ w1.cell? ⟨w.heap.size, 4, none⟩ = some (.string q) ∧ w1.cell? ⟨w.heap.size, 5, none⟩ = some (.bool a) ∧ w1.cell? ⟨w.heap.size, 6, none⟩ = some (.bool t) ∧ w1.cell? ⟨w.heap.size, 7, none⟩ = some (.slice ad l.length cp) from row8 (heap_block qq hg))
 have HW := Lib.hid hW
 have K00 := Lib.hid k0
 have K0 := Lib.hid (Kp.refl W0)
 have TT := Lib.hid (fun w1 (qq : Kp W0 w1) => T.kp (k0.trans qq))
 clear hW k0 hg
 have CU := Lib.hid (fun w1 (qq : Kp W0 w1) => (show Calls Tryz.prog 29 #[.agg #[.int .i64 k, .int .i64 pk, .string y, .string m, .string q, .bool a, .bool t, .slice ad l.length cp]] w1 _ from dn_units_ok (.mk k ⟨pk, y, m, q⟩ a t l : ND) (.slice ad l.length cp) w1 ⟨_, _, rfl⟩ (TT.out _ qq) h))
 have ok := un_ok h
 simp only [ND.p] at ok
 have ed := ok.edg
 have i6 := sane_i64 ok.sane
 have l4 := ok.len
 clear h ok
 generalize unS (.mk k ⟨pk, y, m, q⟩ a t l : ND) = U at *
 have CI := Lib.hid (fun v w1 (hr : RunsAt w1 v U) (qq : Kp W0 w1) => by
  have c := starts_any pk v U w1 hr i6 (by omega) (TT.out _ qq).1
  rw [ed] at c
  exact c)
 generalize edgR (firV pk) pk U = E at *
 have CN := Lib.hid (fun ad n c w1 => dn_narrow_yes ad n c w1)
 clear T ed i6 l4
 go_enter Tryz.func27, Tryz.ntmps27
 go_wp2_with fail
 rw [← HW.out]
 obtain ⟨c0, c1, c2, c3, c4, c5, c6, c7⟩ := HB.out W0 (Kp.refl _)
 have KS := Lib.hid (fun w' (kq : Kp W0 w') => show w'.cell? ⟨w.heap.size, 0, none⟩ = some (.int .i64 k) ∧ w'.cell? ⟨w.heap.size, 1, none⟩ = some (.int .i64 pk) ∧ w'.cell? ⟨w.heap.size, 2, none⟩ = some (.string y) ∧ w'.cell? ⟨w.heap.size, 3, none⟩ = some (.string m) ∧ w'.cell? ⟨w.heap.size, 4, none⟩ = some (.string q) ∧ w'.cell? ⟨w.heap.size, 5, none⟩ = some (.bool a) ∧ w'.cell? ⟨w.heap.size, 6, none⟩ = some (.bool t) ∧ w'.cell? ⟨w.heap.size, 7, none⟩ = some (.slice ad l.length cp) ∧ Kp W0 w' from ⟨(HB.out w' (K0.out.trans kq)).1, (HB.out w' (K0.out.trans kq)).2.1, (HB.out w' (K0.out.trans kq)).2.2.1, (HB.out w' (K0.out.trans kq)).2.2.2.1, (HB.out w' (K0.out.trans kq)).2.2.2.2.1, (HB.out w' (K0.out.trans kq)).2.2.2.2.2.1, (HB.out w' (K0.out.trans kq)).2.2.2.2.2.2.1, (HB.out w' (K0.out.trans kq)).2.2.2.2.2.2.2, kq⟩)
 go_wp2_with fail
 refine wp_region_held_drew (S := fun w' => w'.cell? ⟨w.heap.size, 0, none⟩ = some (.int .i64 k) ∧ w'.cell? ⟨w.heap.size, 1, none⟩ = some (.int .i64 pk) ∧ w'.cell? ⟨w.heap.size, 2, none⟩ = some (.string y) ∧ w'.cell? ⟨w.heap.size, 3, none⟩ = some (.string m) ∧ w'.cell? ⟨w.heap.size, 4, none⟩ = some (.string q) ∧ w'.cell? ⟨w.heap.size, 5, none⟩ = some (.bool a) ∧ w'.cell? ⟨w.heap.size, 6, none⟩ = some (.bool t) ∧ w'.cell? ⟨w.heap.size, 7, none⟩ = some (.slice ad l.length cp) ∧ Kp W0 w') (by kernel_rfl) ?_ (fun hHeld0 => ?_)
 ·(try dsimp only); exact KS.out _ (by first | assumption | exact Kp.drew _)
 refine tkv 0 dnS0 ?_
 (try simp only [Act.put, dnS0, List.setIfInBounds_toArray, List.set_cons_zero, List.set_cons_succ])
 refine tkv 1 dnS1 ?_
 (try simp only [Act.put, dnS1, List.setIfInBounds_toArray, List.set_cons_zero, List.set_cons_succ])
 refine tkv 2 dnS2 ?_
 (try simp only [Act.put, dnS2, List.setIfInBounds_toArray, List.set_cons_zero, List.set_cons_succ])
 refine tkv 3 dnS3 ?_
 (try simp only [Act.put, dnS3, List.setIfInBounds_toArray, List.set_cons_zero, List.set_cons_succ])
 refine tkE 4 dnS4 rfl (by kernel_rfl) (fun K hK => ?_)
 go_simp
 (refine (CU.out _ (K0.out.trans (by first | assumption | exact Kp.drew _))).mono ?_; rintro e wu ⟨vu, rfl, owu, k1⟩; obtain ⟨au, cu, rfl⟩ := own_slice owu; have RU := Lib.hid (runsAt_own owu); clear owu; have k2 := Kp.trans (show Kp W0 _ from (by first | assumption | exact Kp.drew _)) k1; clear k1)
 (try go_wp2_with fail)
 refine hK.out _ _ ?_ (fun hHeld1 => ?_)
 ·(try dsimp only); exact KS.out _ (by first | assumption | exact Kp.drew _)
 clear hK K hHeld0
 (try simp only [Act.put, dnS4, List.setIfInBounds_toArray, List.set_cons_zero, List.set_cons_succ])
 refine tkE 5 dnS5 rfl (by kernel_rfl) (fun K hK => ?_)
 go_simp
 (refine (CI.out _ _ (RU.out.kp (show Kp wu _ from (by first | with_reducible exact Kp.refl _ | with_reducible exact Kp.alloc _ _ | with_reducible exact (Kp.alloc _ _).trans (Kp.alloc _ _) | with_reducible exact ((Kp.alloc _ _).trans (Kp.alloc _ _)).trans (Kp.alloc _ _) | with_reducible exact Kp.drew _ | with_reducible exact Kp.drewN _ _))) (K0.out.trans (by first | assumption | exact Kp.drew _))).mono ?_; rintro e wi ⟨vi, rfl, owi, k1⟩; obtain ⟨ai, ci, rfl⟩ := own_slice owi; have OI := Lib.hid (own_mono owi (Below.size (show Kp w _ from K00.out.trans (by first | assumption | exact Kp.drew _)))); clear owi; have k2 := Kp.trans (show Kp W0 _ from (by first | assumption | exact Kp.drew _)) k1; clear k1)
 (try go_wp2_with fail)
 refine hK.out _ _ ?_ (fun hHeld2 => ?_)
 ·(try dsimp only); exact KS.out _ (by first | assumption | exact Kp.drew _)
 clear hK K hHeld1
 (try simp only [Act.put, dnS5, List.setIfInBounds_toArray, List.set_cons_zero, List.set_cons_succ])
 refine tkv 6 dnS6 ?_
 (try simp only [Act.put, dnS6, List.setIfInBounds_toArray, List.set_cons_zero, List.set_cons_succ])
 refine tkv 7 dnS7 ?_
 (try simp only [Act.put, dnS7, List.setIfInBounds_toArray, List.set_cons_zero, List.set_cons_succ])
 refine tkE 8 dnS8 rfl (by kernel_rfl) (fun K hK => ?_)
 go_simp
 (refine (CN.out _ _ _ _).mono ?_; rintro e wj ⟨rfl, k1⟩; have OJ := Lib.hid (own_kp OI.out (Kp.trans (show Kp wi _ from (by first | with_reducible exact Kp.refl _ | with_reducible exact Kp.alloc _ _ | with_reducible exact (Kp.alloc _ _).trans (Kp.alloc _ _) | with_reducible exact ((Kp.alloc _ _).trans (Kp.alloc _ _)).trans (Kp.alloc _ _) | with_reducible exact Kp.drew _ | with_reducible exact Kp.drewN _ _)) k1)); have k2 := Kp.trans (show Kp W0 _ from (by first | assumption | exact Kp.drew _)) k1; clear k1)
 (try go_wp2_with fail)
 refine hK.out _ _ ?_ (fun hHeld3 => ?_)
 ·(try dsimp only); exact KS.out _ (by first | assumption | exact Kp.drew _)
 clear hK K hHeld2
 (try simp only [Act.put, dnS8, List.setIfInBounds_toArray, List.set_cons_zero, List.set_cons_succ])
 refine tkv 9 dnS9 ?_
 (try simp only [Act.put, dnS9, List.setIfInBounds_toArray, List.set_cons_zero, List.set_cons_succ])
 refine wpAnyH_done (by kernel_rfl) ?_ _
 go_wp2
 go_ret
 exact ⟨_, rfl, OJ.out, K00.out.trans k2⟩
set_option maxHeartbeats 16000000 in
set_option maxRecDepth 100000 in
theorem dn_starts_no (n : ND) (v : Value) (w : World) (hv : ∃ ad c, v = .slice ad n.l.length c) (T : Tabs8 w) (h : ¬ siE n = 0) :
  Calls Tryz.prog 27 #[ndV n v] w fun e w' => e = .panicked (flt (siE n)) ∧ Kp w w' := by
 obtain ⟨ad, cp, rfl⟩ := hv
 obtain ⟨k, pk, y, m, q, a, t, l, rfl⟩ := nd_dest n
 obtain ⟨h3, h4⟩ := siE_no h
 rw [siE_k _ _ _ _ h3 h4] at h ⊢
 unfold ndV
 simp only [ND.k, ND.p, ND.a, ND.t, ND.l]
 have e3 : (k == 3) = false := beq_eq_false_iff_ne.2 h3
 have e4 : (k == 4) = false := beq_eq_false_iff_ne.2 h4
 clear h3 h4
 obtain ⟨W0, hW⟩ : ∃ x, x = w.alloc (.cells #[.int .i64 k, .int .i64 pk, .string y, .string m, .string q, .bool a, .bool t, .slice ad l.length cp] 26) := ⟨_, rfl⟩
 have k0 : Kp w W0 := by rw [hW]; exact Kp.alloc _ _
 have hg : W0.heap[w.heap.size]? = some (.cells #[.int .i64 k, .int .i64 pk, .string y, .string m, .string q, .bool a, .bool t, .slice ad l.length cp] 26 (0, 0)) := by rw [hW]; exact heap_at _ _ _ rfl
 have HB := Lib.hid (fun w1 (qq : Kp W0 w1) => show w1.cell? ⟨w.heap.size, 0, none⟩ = some (.int .i64 k) ∧ w1.cell? ⟨w.heap.size, 1, none⟩ = some (.int .i64 pk) ∧ w1.cell? ⟨w.heap.size, 2, none⟩ = some (.string y) ∧ w1.cell? ⟨w.heap.size, 3, none⟩ = some (.string m) ∧ w1.cell? ⟨w.heap.size, 4, none⟩ = some (.string q) ∧ w1.cell? ⟨w.heap.size, 5, none⟩ = some (.bool a) ∧ w1.cell? ⟨w.heap.size, 6, none⟩ = some (.bool t) ∧ w1.cell? ⟨w.heap.size, 7, none⟩ = some (.slice ad l.length cp) from row8 (heap_block qq hg))
 have HW := Lib.hid hW
 have K00 := Lib.hid k0
 have K0 := Lib.hid (Kp.refl W0)
 have TT := Lib.hid (fun w1 (qq : Kp W0 w1) => T.kp (k0.trans qq))
 clear hW k0 hg
 have CU := Lib.hid (fun w1 (qq : Kp W0 w1) => (show Calls Tryz.prog 29 #[.agg #[.int .i64 k, .int .i64 pk, .string y, .string m, .string q, .bool a, .bool t, .slice ad l.length cp]] w1 _ from dn_units_no (.mk k ⟨pk, y, m, q⟩ a t l : ND) (.slice ad l.length cp) w1 ⟨_, _, rfl⟩ (TT.out _ qq) h))
 generalize unE (.mk k ⟨pk, y, m, q⟩ a t l : ND) = er at *
 clear h T
 go_enter Tryz.func27, Tryz.ntmps27
 go_wp2_with fail
 rw [← HW.out]
 obtain ⟨c0, c1, c2, c3, c4, c5, c6, c7⟩ := HB.out W0 (Kp.refl _)
 have KS := Lib.hid (fun w' (kq : Kp W0 w') => show w'.cell? ⟨w.heap.size, 0, none⟩ = some (.int .i64 k) ∧ w'.cell? ⟨w.heap.size, 1, none⟩ = some (.int .i64 pk) ∧ w'.cell? ⟨w.heap.size, 2, none⟩ = some (.string y) ∧ w'.cell? ⟨w.heap.size, 3, none⟩ = some (.string m) ∧ w'.cell? ⟨w.heap.size, 4, none⟩ = some (.string q) ∧ w'.cell? ⟨w.heap.size, 5, none⟩ = some (.bool a) ∧ w'.cell? ⟨w.heap.size, 6, none⟩ = some (.bool t) ∧ w'.cell? ⟨w.heap.size, 7, none⟩ = some (.slice ad l.length cp) ∧ Kp W0 w' from ⟨(HB.out w' (K0.out.trans kq)).1, (HB.out w' (K0.out.trans kq)).2.1, (HB.out w' (K0.out.trans kq)).2.2.1, (HB.out w' (K0.out.trans kq)).2.2.2.1, (HB.out w' (K0.out.trans kq)).2.2.2.2.1, (HB.out w' (K0.out.trans kq)).2.2.2.2.2.1, (HB.out w' (K0.out.trans kq)).2.2.2.2.2.2.1, (HB.out w' (K0.out.trans kq)).2.2.2.2.2.2.2, kq⟩)
 go_wp2_with fail
 refine wp_region_held_drew (S := fun w' => w'.cell? ⟨w.heap.size, 0, none⟩ = some (.int .i64 k) ∧ w'.cell? ⟨w.heap.size, 1, none⟩ = some (.int .i64 pk) ∧ w'.cell? ⟨w.heap.size, 2, none⟩ = some (.string y) ∧ w'.cell? ⟨w.heap.size, 3, none⟩ = some (.string m) ∧ w'.cell? ⟨w.heap.size, 4, none⟩ = some (.string q) ∧ w'.cell? ⟨w.heap.size, 5, none⟩ = some (.bool a) ∧ w'.cell? ⟨w.heap.size, 6, none⟩ = some (.bool t) ∧ w'.cell? ⟨w.heap.size, 7, none⟩ = some (.slice ad l.length cp) ∧ Kp W0 w') (by kernel_rfl) ?_ (fun hHeld0 => ?_)
 ·(try dsimp only); exact KS.out _ (by first | assumption | exact Kp.drew _)
 refine tkv 0 dnS0 ?_
 (try simp only [Act.put, dnS0, List.setIfInBounds_toArray, List.set_cons_zero, List.set_cons_succ])
 refine tkv 1 dnS1 ?_
 (try simp only [Act.put, dnS1, List.setIfInBounds_toArray, List.set_cons_zero, List.set_cons_succ])
 refine tkv 2 dnS2 ?_
 (try simp only [Act.put, dnS2, List.setIfInBounds_toArray, List.set_cons_zero, List.set_cons_succ])
 refine tkv 3 dnS3 ?_
 (try simp only [Act.put, dnS3, List.setIfInBounds_toArray, List.set_cons_zero, List.set_cons_succ])
 refine tkE 4 dnS4 rfl (by kernel_rfl) (fun K hK => ?_)
 go_simp
 (refine (CU.out _ (K0.out.trans (by first | assumption | exact Kp.drew _))).mono ?_; rintro e wu ⟨rfl, k1⟩; have k2 := Kp.trans (show Kp W0 _ from (by first | assumption | exact Kp.drew _)) k1; clear k1)
 go_wp2
 exact ⟨rfl, rfl, K00.out.trans k2⟩
abbrev dnE0 : Oper := { dst := some 11, op := Go.Op.fieldAddr 26 (Go.Operand.tmp 1) 1, type := 0, pos := "denote.go:96", after := #[], guard := none }
abbrev dnE1 : Oper := { dst := some 12, op := Go.Op.fieldAddr 23 (Go.Operand.tmp 11) 0, type := 0, pos := "denote.go:96", after := #[{ on := 0, ground := Go.Ground.data }], guard := none }
abbrev dnE2 : Oper := { dst := some 13, op := Go.Op.load 3 (Go.Operand.tmp 12), type := 3, pos := "denote.go:96", after := #[{ on := 1, ground := Go.Ground.data }], guard := none }
abbrev dnE3 : Oper := { dst := some 14, op := Go.Op.load 26 (Go.Operand.tmp 1), type := 26, pos := "denote.go:96", after := #[], guard := none }
abbrev dnE4 : Oper := { dst := some 15, op := Go.Op.call { callee := Go.Callee.value (Go.Operand.func 29), args := #[Go.Operand.tmp 14], argTypes := #[26] }, type := 41, pos := "denote.go:96", after := #[{ on := 3, ground := Go.Ground.data }], guard := none }
abbrev dnE5 : Oper := { dst := some 16, op := Go.Op.call { callee := Go.Callee.value (Go.Operand.func 43), args := #[Go.Operand.tmp 13, Go.Operand.tmp 15], argTypes := #[3, 41] }, type := 85, pos := "denote.go:96", after := #[{ on := 2, ground := Go.Ground.data }, { on := 4, ground := Go.Ground.data }, { on := 4, ground := Go.Ground.chain }], guard := none }
abbrev dnE6 : Oper := { dst := some 17, op := Go.Op.extract (Go.Operand.tmp 16) 0, type := 41, pos := "denote.go:96", after := #[{ on := 5, ground := Go.Ground.data }], guard := none }
abbrev dnE7 : Oper := { dst := some 18, op := Go.Op.extract (Go.Operand.tmp 16) 1, type := 4, pos := "denote.go:96", after := #[{ on := 5, ground := Go.Ground.data }], guard := none }
abbrev dnE8 : Oper := { dst := some 19, op := Go.Op.call { callee := Go.Callee.value (Go.Operand.func 41), args := #[Go.Operand.tmp 17, Go.Operand.tmp 18], argTypes := #[41, 4] }, type := 41, pos := "denote.go:96", after := #[{ on := 6, ground := Go.Ground.data }, { on := 7, ground := Go.Ground.data }, { on := 5, ground := Go.Ground.chain }], guard := none }
abbrev dnE9 : Oper := { dst := some 2, op := Go.Op.assign (Go.Operand.tmp 19), type := 41, pos := "denote.go:96", after := #[{ on := 8, ground := Go.Ground.data }, { on := 8, ground := Go.Ground.chain }, { on := 0, ground := Go.Ground.phase }, { on := 1, ground := Go.Ground.phase }, { on := 2, ground := Go.Ground.phase }, { on := 3, ground := Go.Ground.phase }, { on := 4, ground := Go.Ground.phase }, { on := 5, ground := Go.Ground.phase }, { on := 6, ground := Go.Ground.phase }, { on := 7, ground := Go.Ground.phase }, { on := 8, ground := Go.Ground.phase }], guard := none }
set_option maxHeartbeats 16000000 in
set_option maxRecDepth 100000 in
theorem dn_ends_ok (n : ND) (v : Value) (w : World) (hv : ∃ ad c, v = .slice ad n.l.length c) (T : Tabs8 w) (h : siE n = 0) :
  Calls Tryz.prog 28 #[ndV n v] w fun e w' => ∃ v' : Value, e = .returned v' ∧ w'.ownsRow w.heap.size 45 2 v' (endS n).length (cellsR (endS n)) ∧ Kp w w' := by
 obtain ⟨ad, cp, rfl⟩ := hv
 obtain ⟨k, pk, y, m, q, a, t, l, rfl⟩ := nd_dest n
 unfold endS
 unfold ndV
 simp only [ND.k, ND.p, ND.a, ND.t, ND.l]
 by_cases h3 : k = 3
 ·subst h3
  rw [siR_3]
  obtain ⟨W0, hW⟩ : ∃ x, x = w.alloc (.cells #[.int .i64 3, .int .i64 pk, .string y, .string m, .string q, .bool a, .bool t, .slice ad l.length cp] 26) := ⟨_, rfl⟩
  have k0 : Kp w W0 := by rw [hW]; exact Kp.alloc _ _
  have hg : W0.heap[w.heap.size]? = some (.cells #[.int .i64 3, .int .i64 pk, .string y, .string m, .string q, .bool a, .bool t, .slice ad l.length cp] 26 (0, 0)) := by rw [hW]; exact heap_at _ _ _ rfl
  have HB := Lib.hid (fun w1 (qq : Kp W0 w1) => show w1.cell? ⟨w.heap.size, 0, none⟩ = some (.int .i64 3) ∧ w1.cell? ⟨w.heap.size, 1, none⟩ = some (.int .i64 pk) ∧ w1.cell? ⟨w.heap.size, 2, none⟩ = some (.string y) ∧ w1.cell? ⟨w.heap.size, 3, none⟩ = some (.string m) ∧ w1.cell? ⟨w.heap.size, 4, none⟩ = some (.string q) ∧ w1.cell? ⟨w.heap.size, 5, none⟩ = some (.bool a) ∧ w1.cell? ⟨w.heap.size, 6, none⟩ = some (.bool t) ∧ w1.cell? ⟨w.heap.size, 7, none⟩ = some (.slice ad l.length cp) from row8 (heap_block qq hg))
  have HW := Lib.hid hW
  have K00 := Lib.hid k0
  have K0 := Lib.hid (Kp.refl W0)
  have TT := Lib.hid (fun w1 (qq : Kp W0 w1) => T.kp (k0.trans qq))
  clear hW k0 hg
  have CD := Lib.hid (fun a b w1 => dn_days a b w1)
  clear T
  go_enter Tryz.func28, Tryz.ntmps28
  go_wp2_with fail
  rw [← HW.out]
  obtain ⟨c0, c1, c2, c3, c4, c5, c6, c7⟩ := HB.out W0 (Kp.refl _)
  go_wp2_with fail
  refine (CD.out _ _ _).mono ?_
  rintro e w1 ⟨v1, rfl, own1, kk⟩
  have K1 := Lib.hid (K00.out.trans kk)
  have O1 := Lib.hid (own_mono own1 K00.out.size)
  obtain ⟨a1, b1, rfl⟩ := own_slice own1
  clear own1 kk c0 c1 c2 c3 c4 c5 c6 c7
  go_wp2
  go_ret
  exact ⟨_, rfl, O1.out, K1.out⟩
 by_cases h4 : k = 4
 ·subst h4
  rw [siR_4]
  obtain ⟨W0, hW⟩ : ∃ x, x = w.alloc (.cells #[.int .i64 4, .int .i64 pk, .string y, .string m, .string q, .bool a, .bool t, .slice ad l.length cp] 26) := ⟨_, rfl⟩
  have k0 : Kp w W0 := by rw [hW]; exact Kp.alloc _ _
  have hg : W0.heap[w.heap.size]? = some (.cells #[.int .i64 4, .int .i64 pk, .string y, .string m, .string q, .bool a, .bool t, .slice ad l.length cp] 26 (0, 0)) := by rw [hW]; exact heap_at _ _ _ rfl
  have HB := Lib.hid (fun w1 (qq : Kp W0 w1) => show w1.cell? ⟨w.heap.size, 0, none⟩ = some (.int .i64 4) ∧ w1.cell? ⟨w.heap.size, 1, none⟩ = some (.int .i64 pk) ∧ w1.cell? ⟨w.heap.size, 2, none⟩ = some (.string y) ∧ w1.cell? ⟨w.heap.size, 3, none⟩ = some (.string m) ∧ w1.cell? ⟨w.heap.size, 4, none⟩ = some (.string q) ∧ w1.cell? ⟨w.heap.size, 5, none⟩ = some (.bool a) ∧ w1.cell? ⟨w.heap.size, 6, none⟩ = some (.bool t) ∧ w1.cell? ⟨w.heap.size, 7, none⟩ = some (.slice ad l.length cp) from row8 (heap_block qq hg))
  have HW := Lib.hid hW
  have K00 := Lib.hid k0
  have K0 := Lib.hid (Kp.refl W0)
  have TT := Lib.hid (fun w1 (qq : Kp W0 w1) => T.kp (k0.trans qq))
  clear hW k0 hg
  have CD := Lib.hid (fun a b w1 => dn_days a b w1)
  clear T
  go_enter Tryz.func28, Tryz.ntmps28
  go_wp2_with fail
  rw [← HW.out]
  obtain ⟨c0, c1, c2, c3, c4, c5, c6, c7⟩ := HB.out W0 (Kp.refl _)
  go_wp2_with fail
  refine (CD.out _ _ _).mono ?_
  rintro e w1 ⟨v1, rfl, own1, kk⟩
  have K1 := Lib.hid (K00.out.trans kk)
  have O1 := Lib.hid (own_mono own1 K00.out.size)
  obtain ⟨a1, b1, rfl⟩ := own_slice own1
  clear own1 kk c0 c1 c2 c3 c4 c5 c6 c7
  go_wp2
  go_ret
  exact ⟨_, rfl, O1.out, K1.out⟩
 rw [siE_k _ _ _ _ h3 h4] at h
 rw [siR_k _ _ _ _ _ _ h3 h4]
 simp only
 have e3 : (k == 3) = false := beq_eq_false_iff_ne.2 h3
 have e4 : (k == 4) = false := beq_eq_false_iff_ne.2 h4
 clear h3 h4
 obtain ⟨W0, hW⟩ : ∃ x, x = w.alloc (.cells #[.int .i64 k, .int .i64 pk, .string y, .string m, .string q, .bool a, .bool t, .slice ad l.length cp] 26) := ⟨_, rfl⟩
 have k0 : Kp w W0 := by rw [hW]; exact Kp.alloc _ _
 have hg : W0.heap[w.heap.size]? = some (.cells #[.int .i64 k, .int .i64 pk, .string y, .string m, .string q, .bool a, .bool t, .slice ad l.length cp] 26 (0, 0)) := by rw [hW]; exact heap_at _ _ _ rfl
 have HB := Lib.hid (fun w1 (qq : Kp W0 w1) => show w1.cell? ⟨w.heap.size, 0, none⟩ = some (.int .i64 k) ∧ w1.cell? ⟨w.heap.size, 1, none⟩ = some (.int .i64 pk) ∧ w1.cell? ⟨w.heap.size, 2, none⟩ = some (.string y) ∧ w1.cell? ⟨w.heap.size, 3, none⟩ = some (.string m) ∧ w1.cell? ⟨w.heap.size, 4, none⟩ = some (.string q) ∧ w1.cell? ⟨w.heap.size, 5, none⟩ = some (.bool a) ∧ w1.cell? ⟨w.heap.size, 6, none⟩ = some (.bool t) ∧ w1.cell? ⟨w.heap.size, 7, none⟩ = some (.slice ad l.length cp) from row8 (heap_block qq hg))
 have HW := Lib.hid hW
 have K00 := Lib.hid k0
 have K0 := Lib.hid (Kp.refl W0)
 have TT := Lib.hid (fun w1 (qq : Kp W0 w1) => T.kp (k0.trans qq))
 clear hW k0 hg
 have CU := Lib.hid (fun w1 (qq : Kp W0 w1) => (show Calls Tryz.prog 29 #[.agg #[.int .i64 k, .int .i64 pk, .string y, .string m, .string q, .bool a, .bool t, .slice ad l.length cp]] w1 _ from dn_units_ok (.mk k ⟨pk, y, m, q⟩ a t l : ND) (.slice ad l.length cp) w1 ⟨_, _, rfl⟩ (TT.out _ qq) h))
 have ok := un_ok h
 simp only [ND.p] at ok
 have ed := ok.edg
 have i6 := sane_i64 ok.sane
 have l4 := ok.len
 clear h ok
 generalize unS (.mk k ⟨pk, y, m, q⟩ a t l : ND) = U at *
 have CI := Lib.hid (fun v w1 (hr : RunsAt w1 v U) (qq : Kp W0 w1) => by
  have c := ends_any pk v U w1 hr i6 (by omega) (TT.out _ qq).1
  rw [ed] at c
  exact c)
 generalize edgR (lasV pk) pk U = E at *
 have CN := Lib.hid (fun ad n c w1 => dn_narrow_yes ad n c w1)
 clear T ed i6 l4
 go_enter Tryz.func28, Tryz.ntmps28
 go_wp2_with fail
 rw [← HW.out]
 obtain ⟨c0, c1, c2, c3, c4, c5, c6, c7⟩ := HB.out W0 (Kp.refl _)
 have KS := Lib.hid (fun w' (kq : Kp W0 w') => show w'.cell? ⟨w.heap.size, 0, none⟩ = some (.int .i64 k) ∧ w'.cell? ⟨w.heap.size, 1, none⟩ = some (.int .i64 pk) ∧ w'.cell? ⟨w.heap.size, 2, none⟩ = some (.string y) ∧ w'.cell? ⟨w.heap.size, 3, none⟩ = some (.string m) ∧ w'.cell? ⟨w.heap.size, 4, none⟩ = some (.string q) ∧ w'.cell? ⟨w.heap.size, 5, none⟩ = some (.bool a) ∧ w'.cell? ⟨w.heap.size, 6, none⟩ = some (.bool t) ∧ w'.cell? ⟨w.heap.size, 7, none⟩ = some (.slice ad l.length cp) ∧ Kp W0 w' from ⟨(HB.out w' (K0.out.trans kq)).1, (HB.out w' (K0.out.trans kq)).2.1, (HB.out w' (K0.out.trans kq)).2.2.1, (HB.out w' (K0.out.trans kq)).2.2.2.1, (HB.out w' (K0.out.trans kq)).2.2.2.2.1, (HB.out w' (K0.out.trans kq)).2.2.2.2.2.1, (HB.out w' (K0.out.trans kq)).2.2.2.2.2.2.1, (HB.out w' (K0.out.trans kq)).2.2.2.2.2.2.2, kq⟩)
 go_wp2_with fail
 refine wp_region_held_drew (S := fun w' => w'.cell? ⟨w.heap.size, 0, none⟩ = some (.int .i64 k) ∧ w'.cell? ⟨w.heap.size, 1, none⟩ = some (.int .i64 pk) ∧ w'.cell? ⟨w.heap.size, 2, none⟩ = some (.string y) ∧ w'.cell? ⟨w.heap.size, 3, none⟩ = some (.string m) ∧ w'.cell? ⟨w.heap.size, 4, none⟩ = some (.string q) ∧ w'.cell? ⟨w.heap.size, 5, none⟩ = some (.bool a) ∧ w'.cell? ⟨w.heap.size, 6, none⟩ = some (.bool t) ∧ w'.cell? ⟨w.heap.size, 7, none⟩ = some (.slice ad l.length cp) ∧ Kp W0 w') (by kernel_rfl) ?_ (fun hHeld0 => ?_)
 ·(try dsimp only); exact KS.out _ (by first | assumption | exact Kp.drew _)
 refine tkv 0 dnE0 ?_
 (try simp only [Act.put, dnE0, List.setIfInBounds_toArray, List.set_cons_zero, List.set_cons_succ])
 refine tkv 1 dnE1 ?_
 (try simp only [Act.put, dnE1, List.setIfInBounds_toArray, List.set_cons_zero, List.set_cons_succ])
 refine tkv 2 dnE2 ?_
 (try simp only [Act.put, dnE2, List.setIfInBounds_toArray, List.set_cons_zero, List.set_cons_succ])
 refine tkv 3 dnE3 ?_
 (try simp only [Act.put, dnE3, List.setIfInBounds_toArray, List.set_cons_zero, List.set_cons_succ])
 refine tkE 4 dnE4 rfl (by kernel_rfl) (fun K hK => ?_)
 go_simp
 (refine (CU.out _ (K0.out.trans (by first | assumption | exact Kp.drew _))).mono ?_; rintro e wu ⟨vu, rfl, owu, k1⟩; obtain ⟨au, cu, rfl⟩ := own_slice owu; have RU := Lib.hid (runsAt_own owu); clear owu; have k2 := Kp.trans (show Kp W0 _ from (by first | assumption | exact Kp.drew _)) k1; clear k1)
 (try go_wp2_with fail)
 refine hK.out _ _ ?_ (fun hHeld1 => ?_)
 ·(try dsimp only); exact KS.out _ (by first | assumption | exact Kp.drew _)
 clear hK K hHeld0
 (try simp only [Act.put, dnE4, List.setIfInBounds_toArray, List.set_cons_zero, List.set_cons_succ])
 refine tkE 5 dnE5 rfl (by kernel_rfl) (fun K hK => ?_)
 go_simp
 (refine (CI.out _ _ (RU.out.kp (show Kp wu _ from (by first | with_reducible exact Kp.refl _ | with_reducible exact Kp.alloc _ _ | with_reducible exact (Kp.alloc _ _).trans (Kp.alloc _ _) | with_reducible exact ((Kp.alloc _ _).trans (Kp.alloc _ _)).trans (Kp.alloc _ _) | with_reducible exact Kp.drew _ | with_reducible exact Kp.drewN _ _))) (K0.out.trans (by first | assumption | exact Kp.drew _))).mono ?_; rintro e wi ⟨vi, rfl, owi, k1⟩; obtain ⟨ai, ci, rfl⟩ := own_slice owi; have OI := Lib.hid (own_mono owi (Below.size (show Kp w _ from K00.out.trans (by first | assumption | exact Kp.drew _)))); clear owi; have k2 := Kp.trans (show Kp W0 _ from (by first | assumption | exact Kp.drew _)) k1; clear k1)
 (try go_wp2_with fail)
 refine hK.out _ _ ?_ (fun hHeld2 => ?_)
 ·(try dsimp only); exact KS.out _ (by first | assumption | exact Kp.drew _)
 clear hK K hHeld1
 (try simp only [Act.put, dnE5, List.setIfInBounds_toArray, List.set_cons_zero, List.set_cons_succ])
 refine tkv 6 dnE6 ?_
 (try simp only [Act.put, dnE6, List.setIfInBounds_toArray, List.set_cons_zero, List.set_cons_succ])
 refine tkv 7 dnE7 ?_
 (try simp only [Act.put, dnE7, List.setIfInBounds_toArray, List.set_cons_zero, List.set_cons_succ])
 refine tkE 8 dnE8 rfl (by kernel_rfl) (fun K hK => ?_)
 go_simp
 (refine (CN.out _ _ _ _).mono ?_; rintro e wj ⟨rfl, k1⟩; have OJ := Lib.hid (own_kp OI.out (Kp.trans (show Kp wi _ from (by first | with_reducible exact Kp.refl _ | with_reducible exact Kp.alloc _ _ | with_reducible exact (Kp.alloc _ _).trans (Kp.alloc _ _) | with_reducible exact ((Kp.alloc _ _).trans (Kp.alloc _ _)).trans (Kp.alloc _ _) | with_reducible exact Kp.drew _ | with_reducible exact Kp.drewN _ _)) k1)); have k2 := Kp.trans (show Kp W0 _ from (by first | assumption | exact Kp.drew _)) k1; clear k1)
 (try go_wp2_with fail)
 refine hK.out _ _ ?_ (fun hHeld3 => ?_)
 ·(try dsimp only); exact KS.out _ (by first | assumption | exact Kp.drew _)
 clear hK K hHeld2
 (try simp only [Act.put, dnE8, List.setIfInBounds_toArray, List.set_cons_zero, List.set_cons_succ])
 refine tkv 9 dnE9 ?_
 (try simp only [Act.put, dnE9, List.setIfInBounds_toArray, List.set_cons_zero, List.set_cons_succ])
 refine wpAnyH_done (by kernel_rfl) ?_ _
 go_wp2
 go_ret
 exact ⟨_, rfl, OJ.out, K00.out.trans k2⟩
set_option maxHeartbeats 16000000 in
set_option maxRecDepth 100000 in
theorem dn_ends_no (n : ND) (v : Value) (w : World) (hv : ∃ ad c, v = .slice ad n.l.length c) (T : Tabs8 w) (h : ¬ siE n = 0) :
  Calls Tryz.prog 28 #[ndV n v] w fun e w' => e = .panicked (flt (siE n)) ∧ Kp w w' := by
 obtain ⟨ad, cp, rfl⟩ := hv
 obtain ⟨k, pk, y, m, q, a, t, l, rfl⟩ := nd_dest n
 obtain ⟨h3, h4⟩ := siE_no h
 rw [siE_k _ _ _ _ h3 h4] at h ⊢
 unfold ndV
 simp only [ND.k, ND.p, ND.a, ND.t, ND.l]
 have e3 : (k == 3) = false := beq_eq_false_iff_ne.2 h3
 have e4 : (k == 4) = false := beq_eq_false_iff_ne.2 h4
 clear h3 h4
 obtain ⟨W0, hW⟩ : ∃ x, x = w.alloc (.cells #[.int .i64 k, .int .i64 pk, .string y, .string m, .string q, .bool a, .bool t, .slice ad l.length cp] 26) := ⟨_, rfl⟩
 have k0 : Kp w W0 := by rw [hW]; exact Kp.alloc _ _
 have hg : W0.heap[w.heap.size]? = some (.cells #[.int .i64 k, .int .i64 pk, .string y, .string m, .string q, .bool a, .bool t, .slice ad l.length cp] 26 (0, 0)) := by rw [hW]; exact heap_at _ _ _ rfl
 have HB := Lib.hid (fun w1 (qq : Kp W0 w1) => show w1.cell? ⟨w.heap.size, 0, none⟩ = some (.int .i64 k) ∧ w1.cell? ⟨w.heap.size, 1, none⟩ = some (.int .i64 pk) ∧ w1.cell? ⟨w.heap.size, 2, none⟩ = some (.string y) ∧ w1.cell? ⟨w.heap.size, 3, none⟩ = some (.string m) ∧ w1.cell? ⟨w.heap.size, 4, none⟩ = some (.string q) ∧ w1.cell? ⟨w.heap.size, 5, none⟩ = some (.bool a) ∧ w1.cell? ⟨w.heap.size, 6, none⟩ = some (.bool t) ∧ w1.cell? ⟨w.heap.size, 7, none⟩ = some (.slice ad l.length cp) from row8 (heap_block qq hg))
 have HW := Lib.hid hW
 have K00 := Lib.hid k0
 have K0 := Lib.hid (Kp.refl W0)
 have TT := Lib.hid (fun w1 (qq : Kp W0 w1) => T.kp (k0.trans qq))
 clear hW k0 hg
 have CU := Lib.hid (fun w1 (qq : Kp W0 w1) => (show Calls Tryz.prog 29 #[.agg #[.int .i64 k, .int .i64 pk, .string y, .string m, .string q, .bool a, .bool t, .slice ad l.length cp]] w1 _ from dn_units_no (.mk k ⟨pk, y, m, q⟩ a t l : ND) (.slice ad l.length cp) w1 ⟨_, _, rfl⟩ (TT.out _ qq) h))
 generalize unE (.mk k ⟨pk, y, m, q⟩ a t l : ND) = er at *
 clear h T
 go_enter Tryz.func28, Tryz.ntmps28
 go_wp2_with fail
 rw [← HW.out]
 obtain ⟨c0, c1, c2, c3, c4, c5, c6, c7⟩ := HB.out W0 (Kp.refl _)
 have KS := Lib.hid (fun w' (kq : Kp W0 w') => show w'.cell? ⟨w.heap.size, 0, none⟩ = some (.int .i64 k) ∧ w'.cell? ⟨w.heap.size, 1, none⟩ = some (.int .i64 pk) ∧ w'.cell? ⟨w.heap.size, 2, none⟩ = some (.string y) ∧ w'.cell? ⟨w.heap.size, 3, none⟩ = some (.string m) ∧ w'.cell? ⟨w.heap.size, 4, none⟩ = some (.string q) ∧ w'.cell? ⟨w.heap.size, 5, none⟩ = some (.bool a) ∧ w'.cell? ⟨w.heap.size, 6, none⟩ = some (.bool t) ∧ w'.cell? ⟨w.heap.size, 7, none⟩ = some (.slice ad l.length cp) ∧ Kp W0 w' from ⟨(HB.out w' (K0.out.trans kq)).1, (HB.out w' (K0.out.trans kq)).2.1, (HB.out w' (K0.out.trans kq)).2.2.1, (HB.out w' (K0.out.trans kq)).2.2.2.1, (HB.out w' (K0.out.trans kq)).2.2.2.2.1, (HB.out w' (K0.out.trans kq)).2.2.2.2.2.1, (HB.out w' (K0.out.trans kq)).2.2.2.2.2.2.1, (HB.out w' (K0.out.trans kq)).2.2.2.2.2.2.2, kq⟩)
 go_wp2_with fail
 refine wp_region_held_drew (S := fun w' => w'.cell? ⟨w.heap.size, 0, none⟩ = some (.int .i64 k) ∧ w'.cell? ⟨w.heap.size, 1, none⟩ = some (.int .i64 pk) ∧ w'.cell? ⟨w.heap.size, 2, none⟩ = some (.string y) ∧ w'.cell? ⟨w.heap.size, 3, none⟩ = some (.string m) ∧ w'.cell? ⟨w.heap.size, 4, none⟩ = some (.string q) ∧ w'.cell? ⟨w.heap.size, 5, none⟩ = some (.bool a) ∧ w'.cell? ⟨w.heap.size, 6, none⟩ = some (.bool t) ∧ w'.cell? ⟨w.heap.size, 7, none⟩ = some (.slice ad l.length cp) ∧ Kp W0 w') (by kernel_rfl) ?_ (fun hHeld0 => ?_)
 ·(try dsimp only); exact KS.out _ (by first | assumption | exact Kp.drew _)
 refine tkv 0 dnE0 ?_
 (try simp only [Act.put, dnE0, List.setIfInBounds_toArray, List.set_cons_zero, List.set_cons_succ])
 refine tkv 1 dnE1 ?_
 (try simp only [Act.put, dnE1, List.setIfInBounds_toArray, List.set_cons_zero, List.set_cons_succ])
 refine tkv 2 dnE2 ?_
 (try simp only [Act.put, dnE2, List.setIfInBounds_toArray, List.set_cons_zero, List.set_cons_succ])
 refine tkv 3 dnE3 ?_
 (try simp only [Act.put, dnE3, List.setIfInBounds_toArray, List.set_cons_zero, List.set_cons_succ])
 refine tkE 4 dnE4 rfl (by kernel_rfl) (fun K hK => ?_)
 go_simp
 (refine (CU.out _ (K0.out.trans (by first | assumption | exact Kp.drew _))).mono ?_; rintro e wu ⟨rfl, k1⟩; have k2 := Kp.trans (show Kp W0 _ from (by first | assumption | exact Kp.drew _)) k1; clear k1)
 go_wp2
 exact ⟨rfl, rfl, K00.out.trans k2⟩
def OwnV (w : World) (base : Nat) (l : List (LF × VV)) : Prop := ∀ p ∈ l, w.ownsRow base 45 2 p.2.1 p.1.a.length (cellsR p.1.a) ∧ w.ownsRow base 45 2 p.2.2 p.1.b.length (cellsR p.1.b)
theorem OwnV.reads {w : World} {base : Nat} {l : List (LF × VV)} (h : OwnV w base l) : ReadsV w l := fun p hp => ⟨runsAt_own (h p hp).1, runsAt_own (h p hp).2⟩
theorem OwnV.kp {w w' : World} {base : Nat} {l : List (LF × VV)} (h : OwnV w base l) (k : Kp w w') : OwnV w' base l := fun p hp => ⟨own_kp (h p hp).1 k, own_kp (h p hp).2 k⟩
theorem OwnV.mono {w : World} {base base' : Nat} {l : List (LF × VV)} (h : OwnV w base l) (hb : base' ≤ base) : OwnV w base' l := fun p hp => ⟨own_mono (h p hp).1 hb, own_mono (h p hp).2 hb⟩
theorem OwnV.append {w : World} {base : Nat} {l m : List (LF × VV)} (h : OwnV w base l) (g : OwnV w base m) : OwnV w base (l ++ m) := fun p hp => (List.mem_append.1 hp).elim (h p) (g p)
theorem own_types {w : World} {b b' s s' n n' : Nat} {e e' : TypeId} {v u : Value} {xs ys : List Value} (h : w.ownsRow b e s v n xs) (g : w.ownsRow b' e' s' u n' ys) (ne : e ≠ e') : Apart v u := by
 intro k hv hu
 rcases h.2 with ⟨rfl, _⟩ | ⟨i, c, cur, rfl, _, h1, _⟩
 ·cases hv
 ·rcases g.2 with ⟨rfl, _⟩ | ⟨j, c', cur', rfl, _, g1, _⟩
  ·cases hu
  ·simp only [Value.ownBlock, Option.some.injEq] at hv hu
   subst hv
   subst hu
   rw [h1] at g1
   simp only [Option.some.injEq, Obj.cells.injEq] at g1
   exact ne g1.2.1
theorem OwnV.grown {w w1 : World} {base b s n : Nat} {v : Value} {xs : List Value} {l : List (LF × VV)} (h : OwnV w base l) (g : w.grownBy w1 v.ownBlock) (hv : w.ownsRow b 43 s v n xs) : OwnV w1 base l :=
 fun p hp => ⟨own_apart (h p hp).1 g (own_types hv (h p hp).1 (by decide)), own_apart (h p hp).2 g (own_types hv (h p hp).2 (by decide))⟩
theorem own_srcV {w : World} {base : Nat} {e : TypeId} {v : Value} {m : List (LF × VV)} (h : w.ownsRow base e 4 v m.length (cellsV m)) : SrcAt w v m.length (cellsV m) := by
 rcases h.2 with ⟨e1, h0⟩ | ⟨g, cp, cur, rfl, _⟩
 ·have : m = [] := List.length_eq_zero_iff.1 h0
  subst this
  exact .inl ⟨_, _, e1, rfl, rfl⟩
 ·refine .inr ⟨_, _, rfl, fun j u hu => ?_⟩
  have hj : j < m.length * 4 := by
   have := (List.getElem?_eq_some_iff.1 hu).1
   rwa [cellsV_length] at this
  rw [Addr.add_lit, Nat.zero_add, h.cellAt _ hj]
  exact hu
theorem own_leaf (w : World) (f : LF) (va vb : Value) : (w.alloc (.cells #[.bool f.sp, .int .i64 f.u, va, vb] 43)).ownsRow w.heap.size 43 4 (.slice (some ⟨w.heap.size, 0, none⟩) 1 1) [(f, (va, vb))].length (cellsV [(f, (va, vb))]) :=
 ⟨rfl, .inr ⟨w.heap.size, 1, #[.bool f.sp, .int .i64 f.u, va, vb], rfl, Nat.le_refl _, heap_at _ _ _ rfl, Nat.le_refl _, by decide, rfl, rfl⟩⟩
theorem own_slice4 {w : World} {base : Nat} {e : TypeId} {v : Value} {n : Nat} {xs : List Value} (h : w.ownsRow base e 4 v n xs) : ∃ ad c, v = .slice ad n c := by
 rcases h.2 with ⟨e1, h0⟩ | ⟨g, cp, cur, rfl, _⟩
 ·exact ⟨none, 0, by rw [e1, h0]⟩
 ·exact ⟨_, _, rfl⟩
theorem map_fst_len {l : List (LF × VV)} {m : List LF} (h : l.map Prod.fst = m) : l.length = m.length := by rw [← h, List.length_map]
abbrev lvP0 : Oper := { dst := some 37, op := Go.Op.fieldAddr 26 (Go.Operand.tmp 1) 1, type := 0, pos := "denote.go:61", after := #[], guard := none }
abbrev lvP1 : Oper := { dst := some 38, op := Go.Op.fieldAddr 23 (Go.Operand.tmp 37) 0, type := 0, pos := "denote.go:61", after := #[{ on := 0, ground := Go.Ground.data }], guard := none }
abbrev lvP2 : Oper := { dst := some 39, op := Go.Op.load 3 (Go.Operand.tmp 38), type := 3, pos := "denote.go:61", after := #[{ on := 1, ground := Go.Ground.data }], guard := none }
abbrev lvP3 : Oper := { dst := some 40, op := Go.Op.load 26 (Go.Operand.tmp 1), type := 26, pos := "denote.go:61", after := #[], guard := none }
abbrev lvP4 : Oper := { dst := some 41, op := Go.Op.call { callee := Go.Callee.value (Go.Operand.func 29), args := #[Go.Operand.tmp 40], argTypes := #[26] }, type := 41, pos := "denote.go:61", after := #[{ on := 3, ground := Go.Ground.data }], guard := none }
abbrev lvP5 : Oper := { dst := some 42, op := Go.Op.build 43 #[(1, Go.Operand.tmp 39), (2, Go.Operand.tmp 41)], type := 43, pos := "denote.go:61", after := #[{ on := 2, ground := Go.Ground.data }, { on := 4, ground := Go.Ground.data }], guard := none }
abbrev lvP6 : Oper := { dst := some 43, op := Go.Op.buildSlice 31 1 #[(0, Go.Operand.tmp 42)], type := 31, pos := "denote.go:61", after := #[{ on := 5, ground := Go.Ground.data }], guard := none }
abbrev lvP7 : Oper := { dst := some 2, op := Go.Op.assign (Go.Operand.tmp 43), type := 31, pos := "denote.go:61", after := #[{ on := 6, ground := Go.Ground.data }, { on := 4, ground := Go.Ground.chain }, { on := 0, ground := Go.Ground.phase }, { on := 1, ground := Go.Ground.phase }, { on := 2, ground := Go.Ground.phase }, { on := 3, ground := Go.Ground.phase }, { on := 4, ground := Go.Ground.phase }, { on := 5, ground := Go.Ground.phase }, { on := 6, ground := Go.Ground.phase }], guard := none }
abbrev lvS0 : Oper := { dst := some 10, op := Go.Op.fieldAddr 26 (Go.Operand.tmp 1) 4, type := 0, pos := "denote.go:53", after := #[], guard := none }
abbrev lvS1 : Oper := { dst := some 11, op := Go.Op.load 24 (Go.Operand.tmp 10), type := 24, pos := "denote.go:53", after := #[{ on := 0, ground := Go.Ground.data }], guard := none }
abbrev lvS2 : Oper := { dst := some 12, op := Go.Op.indexAddr 24 (Go.Operand.tmp 11) (Go.Operand.const (Go.Value.int Go.IntKind.i64 0)), type := 0, pos := "denote.go:53", after := #[{ on := 1, ground := Go.Ground.data }], guard := none }
abbrev lvS3 : Oper := { dst := some 13, op := Go.Op.load 26 (Go.Operand.tmp 12), type := 26, pos := "denote.go:53", after := #[{ on := 2, ground := Go.Ground.data }], guard := none }
abbrev lvS4 : Oper := { dst := some 14, op := Go.Op.call { callee := Go.Callee.value (Go.Operand.func 27), args := #[Go.Operand.tmp 13], argTypes := #[26] }, type := 41, pos := "denote.go:53", after := #[{ on := 3, ground := Go.Ground.data }], guard := none }
abbrev lvS5 : Oper := { dst := some 15, op := Go.Op.fieldAddr 26 (Go.Operand.tmp 1) 4, type := 0, pos := "denote.go:53", after := #[], guard := none }
abbrev lvS6 : Oper := { dst := some 16, op := Go.Op.load 24 (Go.Operand.tmp 15), type := 24, pos := "denote.go:53", after := #[{ on := 5, ground := Go.Ground.data }], guard := none }
abbrev lvS7 : Oper := { dst := some 17, op := Go.Op.indexAddr 24 (Go.Operand.tmp 16) (Go.Operand.const (Go.Value.int Go.IntKind.i64 1)), type := 0, pos := "denote.go:53", after := #[{ on := 6, ground := Go.Ground.data }], guard := none }
abbrev lvS8 : Oper := { dst := some 18, op := Go.Op.load 26 (Go.Operand.tmp 17), type := 26, pos := "denote.go:53", after := #[{ on := 7, ground := Go.Ground.data }], guard := none }
abbrev lvS9 : Oper := { dst := some 19, op := Go.Op.call { callee := Go.Callee.value (Go.Operand.func 28), args := #[Go.Operand.tmp 18], argTypes := #[26] }, type := 41, pos := "denote.go:53", after := #[{ on := 8, ground := Go.Ground.data }, { on := 4, ground := Go.Ground.chain }], guard := none }
abbrev lvS10 : Oper := { dst := some 20, op := Go.Op.build 43 #[(0, Go.Operand.const (Go.Value.bool true)), (2, Go.Operand.tmp 14), (3, Go.Operand.tmp 19)], type := 43, pos := "denote.go:53", after := #[{ on := 4, ground := Go.Ground.data }, { on := 9, ground := Go.Ground.data }], guard := none }
abbrev lvS11 : Oper := { dst := some 21, op := Go.Op.buildSlice 31 1 #[(0, Go.Operand.tmp 20)], type := 31, pos := "denote.go:53", after := #[{ on := 10, ground := Go.Ground.data }], guard := none }
abbrev lvS12 : Oper := { dst := some 2, op := Go.Op.assign (Go.Operand.tmp 21), type := 31, pos := "denote.go:53", after := #[{ on := 11, ground := Go.Ground.data }, { on := 9, ground := Go.Ground.chain }, { on := 0, ground := Go.Ground.phase }, { on := 1, ground := Go.Ground.phase }, { on := 2, ground := Go.Ground.phase }, { on := 3, ground := Go.Ground.phase }, { on := 4, ground := Go.Ground.phase }, { on := 5, ground := Go.Ground.phase }, { on := 6, ground := Go.Ground.phase }, { on := 7, ground := Go.Ground.phase }, { on := 8, ground := Go.Ground.phase }, { on := 9, ground := Go.Ground.phase }, { on := 10, ground := Go.Ground.phase }, { on := 11, ground := Go.Ground.phase }], guard := none }
set_option maxHeartbeats 16000000 in
set_option maxRecDepth 100000 in
theorem lv0_any (w0 : World) (T : Tabs8 w0) (v : Value) (l : List ND) (hh : ∃ ad cp, v = .slice ad l.length cp ∧ (0 < l.length → ∃ b off, ad = some ⟨b, off, none⟩ ∧ ∀ i, i < l.length → ∃ vi, RowN w0 b (off + i * 8) (nth l i) vi ∧ NodesAt w0 vi (nth l i).l ∧ (fun v l => ∀ (k : Int) (p : PT) (a t : Bool) (w : World), Kp w0 w → rightN saneP (.mk k p a t l) = true → cntL l ≤ 64 →
   Calls Tryz.prog 20 #[ndV (.mk k p a t l) v] w fun e w' => Kp w w' ∧ ((dnE (.mk k p a t l) = 0 ∧ ∃ (v' : Value) (m : List (LF × VV)), e = .returned v' ∧ m.map Prod.fst = dnS (.mk k p a t l) ∧ OwnV w' w.heap.size m ∧ w'.ownsRow w.heap.size 43 4 v' m.length (cellsV m)) ∨ (¬ dnE (.mk k p a t l) = 0 ∧ e = .panicked (flt (dnE (.mk k p a t l)))))) vi (nth l i).l)) :
  ∀ (p : PT) (a t : Bool) (w : World), Kp w0 w → rightN saneP (.mk 0 p a t l) = true → cntL l ≤ 64 →
   Calls Tryz.prog 20 #[ndV (.mk 0 p a t l) v] w fun e w' => Kp w w' ∧ ((dnE (.mk 0 p a t l) = 0 ∧ ∃ (v' : Value) (m : List (LF × VV)), e = .returned v' ∧ m.map Prod.fst = dnS (.mk 0 p a t l) ∧ OwnV w' w.heap.size m ∧ w'.ownsRow w.heap.size 43 4 v' m.length (cellsV m)) ∨ (¬ dnE (.mk 0 p a t l) = 0 ∧ e = .panicked (flt (dnE (.mk 0 p a t l))))) := by
 obtain ⟨ad, cp, rfl, hrow⟩ := hh
 clear hrow
 intro p a t w k0 hr hc
 obtain ⟨pk, y, m, q⟩ := p
 obtain rfl : l = [] := by
  rcases dk_kind hr with ⟨p', a', t', e', hp⟩ | ⟨x, y, e', hx, hy⟩ | ⟨l', e', hl⟩ <;> injection e' with e1 e2 e3 e4 e5
  ·omega
  ·omega
 have DE : dnE (.mk 0 ⟨pk, y, m, q⟩ a t [] : ND) = unE (.mk 0 ⟨pk, y, m, q⟩ a t [] : ND) := by simp only [dnE]; rw [if_neg (by decide), if_neg (by decide)]
 have DS : dnS (.mk 0 ⟨pk, y, m, q⟩ a t [] : ND) = [⟨false, pk, unS (.mk 0 ⟨pk, y, m, q⟩ a t [] : ND), []⟩] := by simp only [dnS]; rw [if_neg (by decide), if_neg (by decide)]
 rw [DE, DS]
 have KW9 := Lib.hid k0
 unfold ndV
 simp only [ND.k, ND.p, ND.a, ND.t, ND.l, List.length_nil]
 clear hr hc DE DS k0
 by_cases h : unE (.mk 0 ⟨pk, y, m, q⟩ a t [] : ND) = 0
 ·obtain ⟨W0, hW⟩ : ∃ x, x = w.alloc (.cells #[.int .i64 0, .int .i64 pk, .string y, .string m, .string q, .bool a, .bool t, .slice ad 0 cp] 26) := ⟨_, rfl⟩
  have k0 : Kp w W0 := by rw [hW]; exact Kp.alloc _ _
  have hg : W0.heap[w.heap.size]? = some (.cells #[.int .i64 0, .int .i64 pk, .string y, .string m, .string q, .bool a, .bool t, .slice ad 0 cp] 26 (0, 0)) := by rw [hW]; exact heap_at _ _ _ rfl
  have HB := Lib.hid (fun w1 (qq : Kp W0 w1) => show w1.cell? ⟨w.heap.size, 0, none⟩ = some (.int .i64 0) ∧ w1.cell? ⟨w.heap.size, 1, none⟩ = some (.int .i64 pk) ∧ w1.cell? ⟨w.heap.size, 2, none⟩ = some (.string y) ∧ w1.cell? ⟨w.heap.size, 3, none⟩ = some (.string m) ∧ w1.cell? ⟨w.heap.size, 4, none⟩ = some (.string q) ∧ w1.cell? ⟨w.heap.size, 5, none⟩ = some (.bool a) ∧ w1.cell? ⟨w.heap.size, 6, none⟩ = some (.bool t) ∧ w1.cell? ⟨w.heap.size, 7, none⟩ = some (.slice ad 0 cp) from ⟨(row8 (heap_block qq hg)).1, (row8 (heap_block qq hg)).2.1, (row8 (heap_block qq hg)).2.2.1, (row8 (heap_block qq hg)).2.2.2.1, (row8 (heap_block qq hg)).2.2.2.2.1, (row8 (heap_block qq hg)).2.2.2.2.2.1, (row8 (heap_block qq hg)).2.2.2.2.2.2.1, (row8 (heap_block qq hg)).2.2.2.2.2.2.2⟩)
  have HW := Lib.hid hW
  have K00 := Lib.hid k0
  have K0 := Lib.hid (Kp.refl W0)
  have TT := Lib.hid (fun w1 (qq : Kp W0 w1) => T.kp (KW9.out.trans (k0.trans qq)))
  clear hW k0 hg T
  have CU := Lib.hid (fun w1 (qq : Kp W0 w1) => (show Calls Tryz.prog 29 #[.agg #[.int .i64 0, .int .i64 pk, .string y, .string m, .string q, .bool a, .bool t, .slice ad 0 cp]] w1 _ from dn_units_ok (.mk 0 ⟨pk, y, m, q⟩ a t [] : ND) (.slice ad 0 cp) w1 ⟨_, _, rfl⟩ (TT.out _ qq) h))
  have HH := Lib.hid h
  clear h
  generalize unE (.mk 0 ⟨pk, y, m, q⟩ a t [] : ND) = er at *
  generalize unS (.mk 0 ⟨pk, y, m, q⟩ a t [] : ND) = U at *
  go_enter Tryz.func20, Tryz.ntmps20
  go_wp2_with fail
  rw [← HW.out]
  obtain ⟨c0, c1, c2, c3, c4, c5, c6, c7⟩ := HB.out W0 (Kp.refl _)
  have KS := Lib.hid (fun w' (kq : Kp W0 w') => show w'.cell? ⟨w.heap.size, 0, none⟩ = some (.int .i64 0) ∧ w'.cell? ⟨w.heap.size, 1, none⟩ = some (.int .i64 pk) ∧ w'.cell? ⟨w.heap.size, 2, none⟩ = some (.string y) ∧ w'.cell? ⟨w.heap.size, 3, none⟩ = some (.string m) ∧ w'.cell? ⟨w.heap.size, 4, none⟩ = some (.string q) ∧ w'.cell? ⟨w.heap.size, 5, none⟩ = some (.bool a) ∧ w'.cell? ⟨w.heap.size, 6, none⟩ = some (.bool t) ∧ w'.cell? ⟨w.heap.size, 7, none⟩ = some (.slice ad 0 cp) ∧ Kp W0 w' from ⟨(HB.out w' (K0.out.trans kq)).1, (HB.out w' (K0.out.trans kq)).2.1, (HB.out w' (K0.out.trans kq)).2.2.1, (HB.out w' (K0.out.trans kq)).2.2.2.1, (HB.out w' (K0.out.trans kq)).2.2.2.2.1, (HB.out w' (K0.out.trans kq)).2.2.2.2.2.1, (HB.out w' (K0.out.trans kq)).2.2.2.2.2.2.1, (HB.out w' (K0.out.trans kq)).2.2.2.2.2.2.2, kq⟩)
  go_wp2_with fail
  refine wp_region_held_drew (S := fun w' => w'.cell? ⟨w.heap.size, 0, none⟩ = some (.int .i64 0) ∧ w'.cell? ⟨w.heap.size, 1, none⟩ = some (.int .i64 pk) ∧ w'.cell? ⟨w.heap.size, 2, none⟩ = some (.string y) ∧ w'.cell? ⟨w.heap.size, 3, none⟩ = some (.string m) ∧ w'.cell? ⟨w.heap.size, 4, none⟩ = some (.string q) ∧ w'.cell? ⟨w.heap.size, 5, none⟩ = some (.bool a) ∧ w'.cell? ⟨w.heap.size, 6, none⟩ = some (.bool t) ∧ w'.cell? ⟨w.heap.size, 7, none⟩ = some (.slice ad 0 cp) ∧ Kp W0 w') (by kernel_rfl) ?_ (fun hHeld0 => ?_)
  ·(try dsimp only); exact KS.out _ (by first | assumption | exact Kp.drew _ | exact k2.trans (Kp.alloc _ _))
  refine tkv 0 lvP0 ?_
  (try simp only [Act.put, lvP0, List.setIfInBounds_toArray, List.set_cons_zero, List.set_cons_succ])
  refine tkv 1 lvP1 ?_
  (try simp only [Act.put, lvP1, List.setIfInBounds_toArray, List.set_cons_zero, List.set_cons_succ])
  refine tkv 2 lvP2 ?_
  (try simp only [Act.put, lvP2, List.setIfInBounds_toArray, List.set_cons_zero, List.set_cons_succ])
  refine tkv 3 lvP3 ?_
  (try simp only [Act.put, lvP3, List.setIfInBounds_toArray, List.set_cons_zero, List.set_cons_succ])
  refine tkE 4 lvP4 rfl (by kernel_rfl) (fun K hK => ?_)
  go_simp
  (refine (CU.out _ (K0.out.trans (by first | assumption | exact Kp.drew _))).mono ?_; rintro e wu ⟨vu, rfl, owu, k1⟩; have OU := Lib.hid (own_mono owu (Below.size (show Kp w _ from K00.out.trans (by first | assumption | exact Kp.drew _)))); obtain ⟨au, cu, rfl⟩ := own_slice owu; clear owu; have k2 := Kp.trans (show Kp W0 _ from (by first | assumption | exact Kp.drew _)) k1; clear k1)
  (try go_wp2_with fail)
  refine hK.out _ _ ?_ (fun hHeld1 => ?_)
  ·(try dsimp only); exact KS.out _ (by first | assumption | exact Kp.drew _ | exact k2.trans (Kp.alloc _ _))
  clear hK K hHeld0
  (try simp only [Act.put, lvP4, List.setIfInBounds_toArray, List.set_cons_zero, List.set_cons_succ])
  refine tkv 5 lvP5 ?_
  (try simp only [Act.put, lvP5, List.setIfInBounds_toArray, List.set_cons_zero, List.set_cons_succ])
  refine tkE 6 lvP6 rfl (by kernel_rfl) (fun K hK => ?_)
  go_simp
  skip
  (try go_wp2_with fail)
  refine hK.out _ _ ?_ (fun hHeld2 => ?_)
  ·(try dsimp only); exact KS.out _ (by first | assumption | exact Kp.drew _ | exact k2.trans (Kp.alloc _ _))
  clear hK K hHeld1
  (try simp only [Act.put, lvP6, List.setIfInBounds_toArray, List.set_cons_zero, List.set_cons_succ])
  refine tkv 7 lvP7 ?_
  (try simp only [Act.put, lvP7, List.setIfInBounds_toArray, List.set_cons_zero, List.set_cons_succ])
  refine wpAnyH_done (by kernel_rfl) ?_ _
  go_wp2
  go_ret
  have k3 := K00.out.trans k2
  exact ⟨k3.trans (Kp.alloc _ _), .inl ⟨HH.out, _, [(⟨false, pk, U, []⟩, (.slice au U.length cu, .slice none 0 0))], rfl, rfl, fun p hp => by rw [List.mem_singleton.1 hp]; exact ⟨own_kp OU.out (Kp.alloc _ _), World.ownsRow_nil _ _ _ _⟩, own_mono (own_leaf _ _ _ _) k3.size⟩⟩
 ·obtain ⟨W0, hW⟩ : ∃ x, x = w.alloc (.cells #[.int .i64 0, .int .i64 pk, .string y, .string m, .string q, .bool a, .bool t, .slice ad 0 cp] 26) := ⟨_, rfl⟩
  have k0 : Kp w W0 := by rw [hW]; exact Kp.alloc _ _
  have hg : W0.heap[w.heap.size]? = some (.cells #[.int .i64 0, .int .i64 pk, .string y, .string m, .string q, .bool a, .bool t, .slice ad 0 cp] 26 (0, 0)) := by rw [hW]; exact heap_at _ _ _ rfl
  have HB := Lib.hid (fun w1 (qq : Kp W0 w1) => show w1.cell? ⟨w.heap.size, 0, none⟩ = some (.int .i64 0) ∧ w1.cell? ⟨w.heap.size, 1, none⟩ = some (.int .i64 pk) ∧ w1.cell? ⟨w.heap.size, 2, none⟩ = some (.string y) ∧ w1.cell? ⟨w.heap.size, 3, none⟩ = some (.string m) ∧ w1.cell? ⟨w.heap.size, 4, none⟩ = some (.string q) ∧ w1.cell? ⟨w.heap.size, 5, none⟩ = some (.bool a) ∧ w1.cell? ⟨w.heap.size, 6, none⟩ = some (.bool t) ∧ w1.cell? ⟨w.heap.size, 7, none⟩ = some (.slice ad 0 cp) from ⟨(row8 (heap_block qq hg)).1, (row8 (heap_block qq hg)).2.1, (row8 (heap_block qq hg)).2.2.1, (row8 (heap_block qq hg)).2.2.2.1, (row8 (heap_block qq hg)).2.2.2.2.1, (row8 (heap_block qq hg)).2.2.2.2.2.1, (row8 (heap_block qq hg)).2.2.2.2.2.2.1, (row8 (heap_block qq hg)).2.2.2.2.2.2.2⟩)
  have HW := Lib.hid hW
  have K00 := Lib.hid k0
  have K0 := Lib.hid (Kp.refl W0)
  have TT := Lib.hid (fun w1 (qq : Kp W0 w1) => T.kp (KW9.out.trans (k0.trans qq)))
  clear hW k0 hg T
  have CU := Lib.hid (fun w1 (qq : Kp W0 w1) => (show Calls Tryz.prog 29 #[.agg #[.int .i64 0, .int .i64 pk, .string y, .string m, .string q, .bool a, .bool t, .slice ad 0 cp]] w1 _ from dn_units_no (.mk 0 ⟨pk, y, m, q⟩ a t [] : ND) (.slice ad 0 cp) w1 ⟨_, _, rfl⟩ (TT.out _ qq) h))
  have HH := Lib.hid h
  clear h
  generalize unE (.mk 0 ⟨pk, y, m, q⟩ a t [] : ND) = er at *
  generalize unS (.mk 0 ⟨pk, y, m, q⟩ a t [] : ND) = U at *
  go_enter Tryz.func20, Tryz.ntmps20
  go_wp2_with fail
  rw [← HW.out]
  obtain ⟨c0, c1, c2, c3, c4, c5, c6, c7⟩ := HB.out W0 (Kp.refl _)
  have KS := Lib.hid (fun w' (kq : Kp W0 w') => show w'.cell? ⟨w.heap.size, 0, none⟩ = some (.int .i64 0) ∧ w'.cell? ⟨w.heap.size, 1, none⟩ = some (.int .i64 pk) ∧ w'.cell? ⟨w.heap.size, 2, none⟩ = some (.string y) ∧ w'.cell? ⟨w.heap.size, 3, none⟩ = some (.string m) ∧ w'.cell? ⟨w.heap.size, 4, none⟩ = some (.string q) ∧ w'.cell? ⟨w.heap.size, 5, none⟩ = some (.bool a) ∧ w'.cell? ⟨w.heap.size, 6, none⟩ = some (.bool t) ∧ w'.cell? ⟨w.heap.size, 7, none⟩ = some (.slice ad 0 cp) ∧ Kp W0 w' from ⟨(HB.out w' (K0.out.trans kq)).1, (HB.out w' (K0.out.trans kq)).2.1, (HB.out w' (K0.out.trans kq)).2.2.1, (HB.out w' (K0.out.trans kq)).2.2.2.1, (HB.out w' (K0.out.trans kq)).2.2.2.2.1, (HB.out w' (K0.out.trans kq)).2.2.2.2.2.1, (HB.out w' (K0.out.trans kq)).2.2.2.2.2.2.1, (HB.out w' (K0.out.trans kq)).2.2.2.2.2.2.2, kq⟩)
  go_wp2_with fail
  refine wp_region_held_drew (S := fun w' => w'.cell? ⟨w.heap.size, 0, none⟩ = some (.int .i64 0) ∧ w'.cell? ⟨w.heap.size, 1, none⟩ = some (.int .i64 pk) ∧ w'.cell? ⟨w.heap.size, 2, none⟩ = some (.string y) ∧ w'.cell? ⟨w.heap.size, 3, none⟩ = some (.string m) ∧ w'.cell? ⟨w.heap.size, 4, none⟩ = some (.string q) ∧ w'.cell? ⟨w.heap.size, 5, none⟩ = some (.bool a) ∧ w'.cell? ⟨w.heap.size, 6, none⟩ = some (.bool t) ∧ w'.cell? ⟨w.heap.size, 7, none⟩ = some (.slice ad 0 cp) ∧ Kp W0 w') (by kernel_rfl) ?_ (fun hHeld0 => ?_)
  ·(try dsimp only); exact KS.out _ (by first | assumption | exact Kp.drew _)
  refine tkv 0 lvP0 ?_
  (try simp only [Act.put, lvP0, List.setIfInBounds_toArray, List.set_cons_zero, List.set_cons_succ])
  refine tkv 1 lvP1 ?_
  (try simp only [Act.put, lvP1, List.setIfInBounds_toArray, List.set_cons_zero, List.set_cons_succ])
  refine tkv 2 lvP2 ?_
  (try simp only [Act.put, lvP2, List.setIfInBounds_toArray, List.set_cons_zero, List.set_cons_succ])
  refine tkv 3 lvP3 ?_
  (try simp only [Act.put, lvP3, List.setIfInBounds_toArray, List.set_cons_zero, List.set_cons_succ])
  refine tkE 4 lvP4 rfl (by kernel_rfl) (fun K hK => ?_)
  go_simp
  (refine (CU.out _ (K0.out.trans (by first | assumption | exact Kp.drew _))).mono ?_; rintro e wu ⟨rfl, k1⟩; have k2 := Kp.trans (show Kp W0 _ from (by first | assumption | exact Kp.drew _)) k1; clear k1)
  go_wp2
  exact ⟨rfl, K00.out.trans k2, .inr ⟨HH.out, rfl⟩⟩
set_option maxHeartbeats 16000000 in
set_option maxRecDepth 100000 in
theorem lv1_any (w0 : World) (T : Tabs8 w0) (v : Value) (l : List ND) (hh : ∃ ad cp, v = .slice ad l.length cp ∧ (0 < l.length → ∃ b off, ad = some ⟨b, off, none⟩ ∧ ∀ i, i < l.length → ∃ vi, RowN w0 b (off + i * 8) (nth l i) vi ∧ NodesAt w0 vi (nth l i).l ∧ (fun v l => ∀ (k : Int) (p : PT) (a t : Bool) (w : World), Kp w0 w → rightN saneP (.mk k p a t l) = true → cntL l ≤ 64 →
   Calls Tryz.prog 20 #[ndV (.mk k p a t l) v] w fun e w' => Kp w w' ∧ ((dnE (.mk k p a t l) = 0 ∧ ∃ (v' : Value) (m : List (LF × VV)), e = .returned v' ∧ m.map Prod.fst = dnS (.mk k p a t l) ∧ OwnV w' w.heap.size m ∧ w'.ownsRow w.heap.size 43 4 v' m.length (cellsV m)) ∨ (¬ dnE (.mk k p a t l) = 0 ∧ e = .panicked (flt (dnE (.mk k p a t l)))))) vi (nth l i).l)) :
  ∀ (p : PT) (a t : Bool) (w : World), Kp w0 w → rightN saneP (.mk 1 p a t l) = true → cntL l ≤ 64 →
   Calls Tryz.prog 20 #[ndV (.mk 1 p a t l) v] w fun e w' => Kp w w' ∧ ((dnE (.mk 1 p a t l) = 0 ∧ ∃ (v' : Value) (m : List (LF × VV)), e = .returned v' ∧ m.map Prod.fst = dnS (.mk 1 p a t l) ∧ OwnV w' w.heap.size m ∧ w'.ownsRow w.heap.size 43 4 v' m.length (cellsV m)) ∨ (¬ dnE (.mk 1 p a t l) = 0 ∧ e = .panicked (flt (dnE (.mk 1 p a t l))))) := by
 obtain ⟨ad, cp, rfl, hrow⟩ := hh
 intro p a t w k0 hr hc
 obtain ⟨pk, y, m, q⟩ := p
 obtain ⟨x, z, rfl, ex, ez⟩ : ∃ x z, l = [x, z] ∧ endN saneP x = true ∧ endN saneP z = true := by
  rcases dk_kind hr with ⟨p', a', t', e', hp⟩ | ⟨x, z, e', hx, hz⟩ | ⟨l', e', hl⟩ <;> injection e' with e1 e2 e3 e4 e5
  ·omega
  ·exact ⟨x, z, e5, hx, hz⟩
  ·omega
 have DE : dnE (.mk 1 ⟨pk, y, m, q⟩ a t [x, z] : ND) = (if siE x = 0 then siE z else siE x) := by simp only [dnE]; first | (rw [if_pos trivial]; rfl) | (rw [if_pos rfl]; rfl)
 have DS : dnS (.mk 1 ⟨pk, y, m, q⟩ a t [x, z] : ND) = [⟨true, 0, staS x, endS z⟩] := by simp only [dnS]; first | (rw [if_pos trivial]; rfl) | (rw [if_pos rfl]; rfl)
 rw [DE, DS]
 obtain ⟨bk, off, rfl, hall⟩ := hrow (by simp)
 obtain ⟨vx, rx, sx, _⟩ := hall 0 (by simp)
 obtain ⟨vz, rz, sz, _⟩ := hall 1 (by simp)
 rw [show nth [x, z] 0 = x from rfl] at rx sx
 rw [show nth [x, z] 1 = z from rfl] at rz sz
 have KW9 := Lib.hid k0
 clear hrow hall hr hc DE DS
 have CXS := fun w1 (qq : Kp w0 w1) (h : siE x = 0) => dn_starts_ok x vx w1 sx.slice (T.kp qq) h
 have CXN := fun w1 (qq : Kp w0 w1) (h : ¬ siE x = 0) => dn_starts_no x vx w1 sx.slice (T.kp qq) h
 have CZS := fun w1 (qq : Kp w0 w1) (h : siE z = 0) => dn_ends_ok z vz w1 sz.slice (T.kp qq) h
 have CZN := fun w1 (qq : Kp w0 w1) (h : ¬ siE z = 0) => dn_ends_no z vz w1 sz.slice (T.kp qq) h
 have ix : siE x = 0 → I64R (staS x) := fun h => sane_i64 (setB_sane (sta_set h).1)
 generalize siE x = e1 at *
 generalize siE z = e2 at *
 generalize staS x = SA at *
 generalize endS z = SB at *
 obtain ⟨ad1, cp1, rfl⟩ := sx.slice
 obtain ⟨ad2, cp2, rfl⟩ := sz.slice
 clear ex ez sx sz ix
 obtain ⟨k1, ⟨pk1, y1, m1, q1⟩, a1, t1, l1⟩ := x
 obtain ⟨k2, ⟨pk2, y2, m2, q2⟩, a2, t2, l2⟩ := z
 unfold RowN at rx rz
 unfold ndV at *
 simp only [ND.k, ND.p, ND.a, ND.t, ND.l, List.length_cons, List.length_nil, Nat.reduceAdd, Nat.zero_mul, Nat.add_zero, Nat.one_mul] at *
 obtain ⟨g0, g1, g2, g3, g4, g5, g6, g7⟩ := rx
 obtain ⟨h0, h1, h2, h3, h4, h5, h6, h7⟩ := rz
 clear k0
 by_cases he1 : e1 = 0
 ·rw [if_pos he1]
  by_cases he2 : e2 = 0
  ·obtain ⟨W0, hW⟩ : ∃ x, x = w.alloc (.cells #[.int .i64 1, .int .i64 pk, .string y, .string m, .string q, .bool a, .bool t, .slice (some ⟨bk, off, none⟩) 2 cp] 26) := ⟨_, rfl⟩
   have k0 : Kp w W0 := by rw [hW]; exact Kp.alloc _ _
   have hg : W0.heap[w.heap.size]? = some (.cells #[.int .i64 1, .int .i64 pk, .string y, .string m, .string q, .bool a, .bool t, .slice (some ⟨bk, off, none⟩) 2 cp] 26 (0, 0)) := by rw [hW]; exact heap_at _ _ _ rfl
   have HB := Lib.hid (fun w1 (qq : Kp W0 w1) => show w1.cell? ⟨w.heap.size, 0, none⟩ = some (.int .i64 1) ∧ w1.cell? ⟨w.heap.size, 1, none⟩ = some (.int .i64 pk) ∧ w1.cell? ⟨w.heap.size, 2, none⟩ = some (.string y) ∧ w1.cell? ⟨w.heap.size, 3, none⟩ = some (.string m) ∧ w1.cell? ⟨w.heap.size, 4, none⟩ = some (.string q) ∧ w1.cell? ⟨w.heap.size, 5, none⟩ = some (.bool a) ∧ w1.cell? ⟨w.heap.size, 6, none⟩ = some (.bool t) ∧ w1.cell? ⟨w.heap.size, 7, none⟩ = some (.slice (some ⟨bk, off, none⟩) 2 cp) ∧ w1.cell? ⟨bk, off, none⟩ = some (.int .i64 k1) ∧ w1.cell? ⟨bk, off + 1, none⟩ = some (.int .i64 pk1) ∧ w1.cell? ⟨bk, off + 2, none⟩ = some (.string y1) ∧ w1.cell? ⟨bk, off + 3, none⟩ = some (.string m1) ∧ w1.cell? ⟨bk, off + 4, none⟩ = some (.string q1) ∧ w1.cell? ⟨bk, off + 5, none⟩ = some (.bool a1) ∧ w1.cell? ⟨bk, off + 6, none⟩ = some (.bool t1) ∧ w1.cell? ⟨bk, off + 7, none⟩ = some (.slice ad1 l1.length cp1) ∧ w1.cell? ⟨bk, off + 8, none⟩ = some (.int .i64 k2) ∧ w1.cell? ⟨bk, off + 9, none⟩ = some (.int .i64 pk2) ∧ w1.cell? ⟨bk, off + 10, none⟩ = some (.string y2) ∧ w1.cell? ⟨bk, off + 11, none⟩ = some (.string m2) ∧ w1.cell? ⟨bk, off + 12, none⟩ = some (.string q2) ∧ w1.cell? ⟨bk, off + 13, none⟩ = some (.bool a2) ∧ w1.cell? ⟨bk, off + 14, none⟩ = some (.bool t2) ∧ w1.cell? ⟨bk, off + 15, none⟩ = some (.slice ad2 l2.length cp2) from ⟨(row8 (heap_block qq hg)).1, (row8 (heap_block qq hg)).2.1, (row8 (heap_block qq hg)).2.2.1, (row8 (heap_block qq hg)).2.2.2.1, (row8 (heap_block qq hg)).2.2.2.2.1, (row8 (heap_block qq hg)).2.2.2.2.2.1, (row8 (heap_block qq hg)).2.2.2.2.2.2.1, (row8 (heap_block qq hg)).2.2.2.2.2.2.2, cell_up (KW9.out.trans (k0.trans qq)) g0, cell_up (KW9.out.trans (k0.trans qq)) g1, cell_up (KW9.out.trans (k0.trans qq)) g2, cell_up (KW9.out.trans (k0.trans qq)) g3, cell_up (KW9.out.trans (k0.trans qq)) g4, cell_up (KW9.out.trans (k0.trans qq)) g5, cell_up (KW9.out.trans (k0.trans qq)) g6, cell_up (KW9.out.trans (k0.trans qq)) g7, cell_up (KW9.out.trans (k0.trans qq)) h0, cell_up (KW9.out.trans (k0.trans qq)) h1, cell_up (KW9.out.trans (k0.trans qq)) h2, cell_up (KW9.out.trans (k0.trans qq)) h3, cell_up (KW9.out.trans (k0.trans qq)) h4, cell_up (KW9.out.trans (k0.trans qq)) h5, cell_up (KW9.out.trans (k0.trans qq)) h6, cell_up (KW9.out.trans (k0.trans qq)) h7⟩)
   have HW := Lib.hid hW
   have K00 := Lib.hid k0
   have K0 := Lib.hid (Kp.refl W0)
   have TT := Lib.hid (fun w1 (qq : Kp W0 w1) => T.kp (KW9.out.trans (k0.trans qq)))
   clear hW k0 hg T
   have CX := Lib.hid (fun w1 (qq : Kp W0 w1) => CXS w1 (KW9.out.trans (K00.out.trans qq)) he1)
   have CZ := Lib.hid (fun w1 (qq : Kp W0 w1) => CZS w1 (KW9.out.trans (K00.out.trans qq)) he2)
   have HE1 := Lib.hid he1
   have HE2 := Lib.hid he2
   clear CXS CXN CZS CZN he1 he2
   clear g0 h0 g1 h1 g2 h2 g3 h3 g4 h4 g5 h5 g6 h6 g7 h7
   go_enter Tryz.func20, Tryz.ntmps20
   go_wp2_with fail
   rw [← HW.out]
   obtain ⟨c0, c1, c2, c3, c4, c5, c6, c7, c8, c9, c10, c11, c12, c13, c14, c15, c16, c17, c18, c19, c20, c21, c22, c23⟩ := HB.out W0 (Kp.refl _)
   have KS := Lib.hid (fun w' (kq : Kp W0 w') => show w'.cell? ⟨w.heap.size, 0, none⟩ = some (.int .i64 1) ∧ w'.cell? ⟨w.heap.size, 1, none⟩ = some (.int .i64 pk) ∧ w'.cell? ⟨w.heap.size, 2, none⟩ = some (.string y) ∧ w'.cell? ⟨w.heap.size, 3, none⟩ = some (.string m) ∧ w'.cell? ⟨w.heap.size, 4, none⟩ = some (.string q) ∧ w'.cell? ⟨w.heap.size, 5, none⟩ = some (.bool a) ∧ w'.cell? ⟨w.heap.size, 6, none⟩ = some (.bool t) ∧ w'.cell? ⟨w.heap.size, 7, none⟩ = some (.slice (some ⟨bk, off, none⟩) 2 cp) ∧ w'.cell? ⟨bk, off, none⟩ = some (.int .i64 k1) ∧ w'.cell? ⟨bk, off + 1, none⟩ = some (.int .i64 pk1) ∧ w'.cell? ⟨bk, off + 2, none⟩ = some (.string y1) ∧ w'.cell? ⟨bk, off + 3, none⟩ = some (.string m1) ∧ w'.cell? ⟨bk, off + 4, none⟩ = some (.string q1) ∧ w'.cell? ⟨bk, off + 5, none⟩ = some (.bool a1) ∧ w'.cell? ⟨bk, off + 6, none⟩ = some (.bool t1) ∧ w'.cell? ⟨bk, off + 7, none⟩ = some (.slice ad1 l1.length cp1) ∧ w'.cell? ⟨bk, off + 8, none⟩ = some (.int .i64 k2) ∧ w'.cell? ⟨bk, off + 9, none⟩ = some (.int .i64 pk2) ∧ w'.cell? ⟨bk, off + 10, none⟩ = some (.string y2) ∧ w'.cell? ⟨bk, off + 11, none⟩ = some (.string m2) ∧ w'.cell? ⟨bk, off + 12, none⟩ = some (.string q2) ∧ w'.cell? ⟨bk, off + 13, none⟩ = some (.bool a2) ∧ w'.cell? ⟨bk, off + 14, none⟩ = some (.bool t2) ∧ w'.cell? ⟨bk, off + 15, none⟩ = some (.slice ad2 l2.length cp2) ∧ Kp W0 w' from ⟨(HB.out w' (K0.out.trans kq)).1, (HB.out w' (K0.out.trans kq)).2.1, (HB.out w' (K0.out.trans kq)).2.2.1, (HB.out w' (K0.out.trans kq)).2.2.2.1, (HB.out w' (K0.out.trans kq)).2.2.2.2.1, (HB.out w' (K0.out.trans kq)).2.2.2.2.2.1, (HB.out w' (K0.out.trans kq)).2.2.2.2.2.2.1, (HB.out w' (K0.out.trans kq)).2.2.2.2.2.2.2.1, (HB.out w' (K0.out.trans kq)).2.2.2.2.2.2.2.2.1, (HB.out w' (K0.out.trans kq)).2.2.2.2.2.2.2.2.2.1, (HB.out w' (K0.out.trans kq)).2.2.2.2.2.2.2.2.2.2.1, (HB.out w' (K0.out.trans kq)).2.2.2.2.2.2.2.2.2.2.2.1, (HB.out w' (K0.out.trans kq)).2.2.2.2.2.2.2.2.2.2.2.2.1, (HB.out w' (K0.out.trans kq)).2.2.2.2.2.2.2.2.2.2.2.2.2.1, (HB.out w' (K0.out.trans kq)).2.2.2.2.2.2.2.2.2.2.2.2.2.2.1, (HB.out w' (K0.out.trans kq)).2.2.2.2.2.2.2.2.2.2.2.2.2.2.2.1, (HB.out w' (K0.out.trans kq)).2.2.2.2.2.2.2.2.2.2.2.2.2.2.2.2.1, (HB.out w' (K0.out.trans kq)).2.2.2.2.2.2.2.2.2.2.2.2.2.2.2.2.2.1, (HB.out w' (K0.out.trans kq)).2.2.2.2.2.2.2.2.2.2.2.2.2.2.2.2.2.2.1, (HB.out w' (K0.out.trans kq)).2.2.2.2.2.2.2.2.2.2.2.2.2.2.2.2.2.2.2.1, (HB.out w' (K0.out.trans kq)).2.2.2.2.2.2.2.2.2.2.2.2.2.2.2.2.2.2.2.2.1, (HB.out w' (K0.out.trans kq)).2.2.2.2.2.2.2.2.2.2.2.2.2.2.2.2.2.2.2.2.2.1, (HB.out w' (K0.out.trans kq)).2.2.2.2.2.2.2.2.2.2.2.2.2.2.2.2.2.2.2.2.2.2.1, (HB.out w' (K0.out.trans kq)).2.2.2.2.2.2.2.2.2.2.2.2.2.2.2.2.2.2.2.2.2.2.2, kq⟩)
   go_wp2_with fail
   refine wp_region_held_drew (S := fun w' => w'.cell? ⟨w.heap.size, 0, none⟩ = some (.int .i64 1) ∧ w'.cell? ⟨w.heap.size, 1, none⟩ = some (.int .i64 pk) ∧ w'.cell? ⟨w.heap.size, 2, none⟩ = some (.string y) ∧ w'.cell? ⟨w.heap.size, 3, none⟩ = some (.string m) ∧ w'.cell? ⟨w.heap.size, 4, none⟩ = some (.string q) ∧ w'.cell? ⟨w.heap.size, 5, none⟩ = some (.bool a) ∧ w'.cell? ⟨w.heap.size, 6, none⟩ = some (.bool t) ∧ w'.cell? ⟨w.heap.size, 7, none⟩ = some (.slice (some ⟨bk, off, none⟩) 2 cp) ∧ w'.cell? ⟨bk, off, none⟩ = some (.int .i64 k1) ∧ w'.cell? ⟨bk, off + 1, none⟩ = some (.int .i64 pk1) ∧ w'.cell? ⟨bk, off + 2, none⟩ = some (.string y1) ∧ w'.cell? ⟨bk, off + 3, none⟩ = some (.string m1) ∧ w'.cell? ⟨bk, off + 4, none⟩ = some (.string q1) ∧ w'.cell? ⟨bk, off + 5, none⟩ = some (.bool a1) ∧ w'.cell? ⟨bk, off + 6, none⟩ = some (.bool t1) ∧ w'.cell? ⟨bk, off + 7, none⟩ = some (.slice ad1 l1.length cp1) ∧ w'.cell? ⟨bk, off + 8, none⟩ = some (.int .i64 k2) ∧ w'.cell? ⟨bk, off + 9, none⟩ = some (.int .i64 pk2) ∧ w'.cell? ⟨bk, off + 10, none⟩ = some (.string y2) ∧ w'.cell? ⟨bk, off + 11, none⟩ = some (.string m2) ∧ w'.cell? ⟨bk, off + 12, none⟩ = some (.string q2) ∧ w'.cell? ⟨bk, off + 13, none⟩ = some (.bool a2) ∧ w'.cell? ⟨bk, off + 14, none⟩ = some (.bool t2) ∧ w'.cell? ⟨bk, off + 15, none⟩ = some (.slice ad2 l2.length cp2) ∧ Kp W0 w') (by kernel_rfl) ?_ (fun hHeld0 => ?_)
   ·(try dsimp only); exact KS.out _ (by first | assumption | exact Kp.drew _ | exact k2.trans (Kp.alloc _ _))
   refine tkv 0 lvS0 ?_
   (try simp only [Act.put, lvS0, List.setIfInBounds_toArray, List.set_cons_zero, List.set_cons_succ])
   refine tkv 1 lvS1 ?_
   (try simp only [Act.put, lvS1, List.setIfInBounds_toArray, List.set_cons_zero, List.set_cons_succ])
   refine tkv 2 lvS2 ?_
   (try simp only [Act.put, lvS2, List.setIfInBounds_toArray, List.set_cons_zero, List.set_cons_succ])
   refine tkv 3 lvS3 ?_
   (try simp only [Act.put, lvS3, List.setIfInBounds_toArray, List.set_cons_zero, List.set_cons_succ])
   refine tkv 5 lvS5 ?_
   (try simp only [Act.put, lvS5, List.setIfInBounds_toArray, List.set_cons_zero, List.set_cons_succ])
   refine tkv 6 lvS6 ?_
   (try simp only [Act.put, lvS6, List.setIfInBounds_toArray, List.set_cons_zero, List.set_cons_succ])
   refine tkv 7 lvS7 ?_
   (try simp only [Act.put, lvS7, List.setIfInBounds_toArray, List.set_cons_zero, List.set_cons_succ])
   refine tkv 8 lvS8 ?_
   (try simp only [Act.put, lvS8, List.setIfInBounds_toArray, List.set_cons_zero, List.set_cons_succ])
   refine tkE 4 lvS4 rfl (by kernel_rfl) (fun K hK => ?_)
   go_simp
   (refine (CX.out _ (K0.out.trans (by first | assumption | exact Kp.drew _))).mono ?_; rintro e wa ⟨va, rfl, owa, k1⟩; have OA := Lib.hid (own_mono owa (Below.size (show Kp w _ from K00.out.trans (by first | assumption | exact Kp.drew _)))); obtain ⟨aa, ca, rfl⟩ := own_slice owa; clear owa; have k2 := Kp.trans (show Kp W0 _ from (by first | assumption | exact Kp.drew _)) k1; clear k1)
   (try go_wp2_with fail)
   refine hK.out _ _ ?_ (fun hHeld1 => ?_)
   ·(try dsimp only); exact KS.out _ (by first | assumption | exact Kp.drew _ | exact k2.trans (Kp.alloc _ _))
   clear hK K hHeld0
   (try simp only [Act.put, lvS4, List.setIfInBounds_toArray, List.set_cons_zero, List.set_cons_succ])
   refine tkE 9 lvS9 rfl (by kernel_rfl) (fun K hK => ?_)
   go_simp
   (refine (CZ.out _ (K0.out.trans (by first | assumption | exact Kp.drew _))).mono ?_; rintro e wb ⟨vb, rfl, owb, k1⟩; have OB := Lib.hid (own_mono owb (Below.size (show Kp w _ from K00.out.trans (by first | assumption | exact Kp.drew _)))); obtain ⟨ab, cb, rfl⟩ := own_slice owb; clear owb; have OA2 := Lib.hid (own_kp OA.out (Kp.trans (show Kp wa _ from (by first | with_reducible exact Kp.refl _ | with_reducible exact Kp.alloc _ _ | with_reducible exact (Kp.alloc _ _).trans (Kp.alloc _ _) | with_reducible exact ((Kp.alloc _ _).trans (Kp.alloc _ _)).trans (Kp.alloc _ _) | with_reducible exact Kp.drew _ | with_reducible exact Kp.drewN _ _)) k1)); have k2 := Kp.trans (show Kp W0 _ from (by first | assumption | exact Kp.drew _)) k1; clear k1)
   (try go_wp2_with fail)
   refine hK.out _ _ ?_ (fun hHeld2 => ?_)
   ·(try dsimp only); exact KS.out _ (by first | assumption | exact Kp.drew _ | exact k2.trans (Kp.alloc _ _))
   clear hK K hHeld1
   (try simp only [Act.put, lvS9, List.setIfInBounds_toArray, List.set_cons_zero, List.set_cons_succ])
   refine tkv 10 lvS10 ?_
   (try simp only [Act.put, lvS10, List.setIfInBounds_toArray, List.set_cons_zero, List.set_cons_succ])
   refine tkE 11 lvS11 rfl (by kernel_rfl) (fun K hK => ?_)
   go_simp
   skip
   (try go_wp2_with fail)
   refine hK.out _ _ ?_ (fun hHeld3 => ?_)
   ·(try dsimp only); exact KS.out _ (by first | assumption | exact Kp.drew _ | exact k2.trans (Kp.alloc _ _))
   clear hK K hHeld2
   (try simp only [Act.put, lvS11, List.setIfInBounds_toArray, List.set_cons_zero, List.set_cons_succ])
   refine tkv 12 lvS12 ?_
   (try simp only [Act.put, lvS12, List.setIfInBounds_toArray, List.set_cons_zero, List.set_cons_succ])
   refine wpAnyH_done (by kernel_rfl) ?_ _
   go_wp2
   go_ret
   have k3 := K00.out.trans k2
   exact ⟨k3.trans (Kp.alloc _ _), .inl ⟨HE2.out, _, [(⟨true, 0, SA, SB⟩, (.slice aa SA.length ca, .slice ab SB.length cb))], rfl, rfl, fun p hp => by rw [List.mem_singleton.1 hp]; exact ⟨own_kp OA2.out (Kp.alloc _ _), own_kp OB.out (Kp.alloc _ _)⟩, own_mono (own_leaf _ _ _ _) k3.size⟩⟩
  ·obtain ⟨W0, hW⟩ : ∃ x, x = w.alloc (.cells #[.int .i64 1, .int .i64 pk, .string y, .string m, .string q, .bool a, .bool t, .slice (some ⟨bk, off, none⟩) 2 cp] 26) := ⟨_, rfl⟩
   have k0 : Kp w W0 := by rw [hW]; exact Kp.alloc _ _
   have hg : W0.heap[w.heap.size]? = some (.cells #[.int .i64 1, .int .i64 pk, .string y, .string m, .string q, .bool a, .bool t, .slice (some ⟨bk, off, none⟩) 2 cp] 26 (0, 0)) := by rw [hW]; exact heap_at _ _ _ rfl
   have HB := Lib.hid (fun w1 (qq : Kp W0 w1) => show w1.cell? ⟨w.heap.size, 0, none⟩ = some (.int .i64 1) ∧ w1.cell? ⟨w.heap.size, 1, none⟩ = some (.int .i64 pk) ∧ w1.cell? ⟨w.heap.size, 2, none⟩ = some (.string y) ∧ w1.cell? ⟨w.heap.size, 3, none⟩ = some (.string m) ∧ w1.cell? ⟨w.heap.size, 4, none⟩ = some (.string q) ∧ w1.cell? ⟨w.heap.size, 5, none⟩ = some (.bool a) ∧ w1.cell? ⟨w.heap.size, 6, none⟩ = some (.bool t) ∧ w1.cell? ⟨w.heap.size, 7, none⟩ = some (.slice (some ⟨bk, off, none⟩) 2 cp) ∧ w1.cell? ⟨bk, off, none⟩ = some (.int .i64 k1) ∧ w1.cell? ⟨bk, off + 1, none⟩ = some (.int .i64 pk1) ∧ w1.cell? ⟨bk, off + 2, none⟩ = some (.string y1) ∧ w1.cell? ⟨bk, off + 3, none⟩ = some (.string m1) ∧ w1.cell? ⟨bk, off + 4, none⟩ = some (.string q1) ∧ w1.cell? ⟨bk, off + 5, none⟩ = some (.bool a1) ∧ w1.cell? ⟨bk, off + 6, none⟩ = some (.bool t1) ∧ w1.cell? ⟨bk, off + 7, none⟩ = some (.slice ad1 l1.length cp1) ∧ w1.cell? ⟨bk, off + 8, none⟩ = some (.int .i64 k2) ∧ w1.cell? ⟨bk, off + 9, none⟩ = some (.int .i64 pk2) ∧ w1.cell? ⟨bk, off + 10, none⟩ = some (.string y2) ∧ w1.cell? ⟨bk, off + 11, none⟩ = some (.string m2) ∧ w1.cell? ⟨bk, off + 12, none⟩ = some (.string q2) ∧ w1.cell? ⟨bk, off + 13, none⟩ = some (.bool a2) ∧ w1.cell? ⟨bk, off + 14, none⟩ = some (.bool t2) ∧ w1.cell? ⟨bk, off + 15, none⟩ = some (.slice ad2 l2.length cp2) from ⟨(row8 (heap_block qq hg)).1, (row8 (heap_block qq hg)).2.1, (row8 (heap_block qq hg)).2.2.1, (row8 (heap_block qq hg)).2.2.2.1, (row8 (heap_block qq hg)).2.2.2.2.1, (row8 (heap_block qq hg)).2.2.2.2.2.1, (row8 (heap_block qq hg)).2.2.2.2.2.2.1, (row8 (heap_block qq hg)).2.2.2.2.2.2.2, cell_up (KW9.out.trans (k0.trans qq)) g0, cell_up (KW9.out.trans (k0.trans qq)) g1, cell_up (KW9.out.trans (k0.trans qq)) g2, cell_up (KW9.out.trans (k0.trans qq)) g3, cell_up (KW9.out.trans (k0.trans qq)) g4, cell_up (KW9.out.trans (k0.trans qq)) g5, cell_up (KW9.out.trans (k0.trans qq)) g6, cell_up (KW9.out.trans (k0.trans qq)) g7, cell_up (KW9.out.trans (k0.trans qq)) h0, cell_up (KW9.out.trans (k0.trans qq)) h1, cell_up (KW9.out.trans (k0.trans qq)) h2, cell_up (KW9.out.trans (k0.trans qq)) h3, cell_up (KW9.out.trans (k0.trans qq)) h4, cell_up (KW9.out.trans (k0.trans qq)) h5, cell_up (KW9.out.trans (k0.trans qq)) h6, cell_up (KW9.out.trans (k0.trans qq)) h7⟩)
   have HW := Lib.hid hW
   have K00 := Lib.hid k0
   have K0 := Lib.hid (Kp.refl W0)
   have TT := Lib.hid (fun w1 (qq : Kp W0 w1) => T.kp (KW9.out.trans (k0.trans qq)))
   clear hW k0 hg T
   have CX := Lib.hid (fun w1 (qq : Kp W0 w1) => CXS w1 (KW9.out.trans (K00.out.trans qq)) he1)
   have CZ := Lib.hid (fun w1 (qq : Kp W0 w1) => CZN w1 (KW9.out.trans (K00.out.trans qq)) he2)
   have HE1 := Lib.hid he1
   have HE2 := Lib.hid he2
   clear CXS CXN CZS CZN he1 he2
   clear g0 h0 g1 h1 g2 h2 g3 h3 g4 h4 g5 h5 g6 h6 g7 h7
   go_enter Tryz.func20, Tryz.ntmps20
   go_wp2_with fail
   rw [← HW.out]
   obtain ⟨c0, c1, c2, c3, c4, c5, c6, c7, c8, c9, c10, c11, c12, c13, c14, c15, c16, c17, c18, c19, c20, c21, c22, c23⟩ := HB.out W0 (Kp.refl _)
   have KS := Lib.hid (fun w' (kq : Kp W0 w') => show w'.cell? ⟨w.heap.size, 0, none⟩ = some (.int .i64 1) ∧ w'.cell? ⟨w.heap.size, 1, none⟩ = some (.int .i64 pk) ∧ w'.cell? ⟨w.heap.size, 2, none⟩ = some (.string y) ∧ w'.cell? ⟨w.heap.size, 3, none⟩ = some (.string m) ∧ w'.cell? ⟨w.heap.size, 4, none⟩ = some (.string q) ∧ w'.cell? ⟨w.heap.size, 5, none⟩ = some (.bool a) ∧ w'.cell? ⟨w.heap.size, 6, none⟩ = some (.bool t) ∧ w'.cell? ⟨w.heap.size, 7, none⟩ = some (.slice (some ⟨bk, off, none⟩) 2 cp) ∧ w'.cell? ⟨bk, off, none⟩ = some (.int .i64 k1) ∧ w'.cell? ⟨bk, off + 1, none⟩ = some (.int .i64 pk1) ∧ w'.cell? ⟨bk, off + 2, none⟩ = some (.string y1) ∧ w'.cell? ⟨bk, off + 3, none⟩ = some (.string m1) ∧ w'.cell? ⟨bk, off + 4, none⟩ = some (.string q1) ∧ w'.cell? ⟨bk, off + 5, none⟩ = some (.bool a1) ∧ w'.cell? ⟨bk, off + 6, none⟩ = some (.bool t1) ∧ w'.cell? ⟨bk, off + 7, none⟩ = some (.slice ad1 l1.length cp1) ∧ w'.cell? ⟨bk, off + 8, none⟩ = some (.int .i64 k2) ∧ w'.cell? ⟨bk, off + 9, none⟩ = some (.int .i64 pk2) ∧ w'.cell? ⟨bk, off + 10, none⟩ = some (.string y2) ∧ w'.cell? ⟨bk, off + 11, none⟩ = some (.string m2) ∧ w'.cell? ⟨bk, off + 12, none⟩ = some (.string q2) ∧ w'.cell? ⟨bk, off + 13, none⟩ = some (.bool a2) ∧ w'.cell? ⟨bk, off + 14, none⟩ = some (.bool t2) ∧ w'.cell? ⟨bk, off + 15, none⟩ = some (.slice ad2 l2.length cp2) ∧ Kp W0 w' from ⟨(HB.out w' (K0.out.trans kq)).1, (HB.out w' (K0.out.trans kq)).2.1, (HB.out w' (K0.out.trans kq)).2.2.1, (HB.out w' (K0.out.trans kq)).2.2.2.1, (HB.out w' (K0.out.trans kq)).2.2.2.2.1, (HB.out w' (K0.out.trans kq)).2.2.2.2.2.1, (HB.out w' (K0.out.trans kq)).2.2.2.2.2.2.1, (HB.out w' (K0.out.trans kq)).2.2.2.2.2.2.2.1, (HB.out w' (K0.out.trans kq)).2.2.2.2.2.2.2.2.1, (HB.out w' (K0.out.trans kq)).2.2.2.2.2.2.2.2.2.1, (HB.out w' (K0.out.trans kq)).2.2.2.2.2.2.2.2.2.2.1, (HB.out w' (K0.out.trans kq)).2.2.2.2.2.2.2.2.2.2.2.1, (HB.out w' (K0.out.trans kq)).2.2.2.2.2.2.2.2.2.2.2.2.1, (HB.out w' (K0.out.trans kq)).2.2.2.2.2.2.2.2.2.2.2.2.2.1, (HB.out w' (K0.out.trans kq)).2.2.2.2.2.2.2.2.2.2.2.2.2.2.1, (HB.out w' (K0.out.trans kq)).2.2.2.2.2.2.2.2.2.2.2.2.2.2.2.1, (HB.out w' (K0.out.trans kq)).2.2.2.2.2.2.2.2.2.2.2.2.2.2.2.2.1, (HB.out w' (K0.out.trans kq)).2.2.2.2.2.2.2.2.2.2.2.2.2.2.2.2.2.1, (HB.out w' (K0.out.trans kq)).2.2.2.2.2.2.2.2.2.2.2.2.2.2.2.2.2.2.1, (HB.out w' (K0.out.trans kq)).2.2.2.2.2.2.2.2.2.2.2.2.2.2.2.2.2.2.2.1, (HB.out w' (K0.out.trans kq)).2.2.2.2.2.2.2.2.2.2.2.2.2.2.2.2.2.2.2.2.1, (HB.out w' (K0.out.trans kq)).2.2.2.2.2.2.2.2.2.2.2.2.2.2.2.2.2.2.2.2.2.1, (HB.out w' (K0.out.trans kq)).2.2.2.2.2.2.2.2.2.2.2.2.2.2.2.2.2.2.2.2.2.2.1, (HB.out w' (K0.out.trans kq)).2.2.2.2.2.2.2.2.2.2.2.2.2.2.2.2.2.2.2.2.2.2.2, kq⟩)
   go_wp2_with fail
   refine wp_region_held_drew (S := fun w' => w'.cell? ⟨w.heap.size, 0, none⟩ = some (.int .i64 1) ∧ w'.cell? ⟨w.heap.size, 1, none⟩ = some (.int .i64 pk) ∧ w'.cell? ⟨w.heap.size, 2, none⟩ = some (.string y) ∧ w'.cell? ⟨w.heap.size, 3, none⟩ = some (.string m) ∧ w'.cell? ⟨w.heap.size, 4, none⟩ = some (.string q) ∧ w'.cell? ⟨w.heap.size, 5, none⟩ = some (.bool a) ∧ w'.cell? ⟨w.heap.size, 6, none⟩ = some (.bool t) ∧ w'.cell? ⟨w.heap.size, 7, none⟩ = some (.slice (some ⟨bk, off, none⟩) 2 cp) ∧ w'.cell? ⟨bk, off, none⟩ = some (.int .i64 k1) ∧ w'.cell? ⟨bk, off + 1, none⟩ = some (.int .i64 pk1) ∧ w'.cell? ⟨bk, off + 2, none⟩ = some (.string y1) ∧ w'.cell? ⟨bk, off + 3, none⟩ = some (.string m1) ∧ w'.cell? ⟨bk, off + 4, none⟩ = some (.string q1) ∧ w'.cell? ⟨bk, off + 5, none⟩ = some (.bool a1) ∧ w'.cell? ⟨bk, off + 6, none⟩ = some (.bool t1) ∧ w'.cell? ⟨bk, off + 7, none⟩ = some (.slice ad1 l1.length cp1) ∧ w'.cell? ⟨bk, off + 8, none⟩ = some (.int .i64 k2) ∧ w'.cell? ⟨bk, off + 9, none⟩ = some (.int .i64 pk2) ∧ w'.cell? ⟨bk, off + 10, none⟩ = some (.string y2) ∧ w'.cell? ⟨bk, off + 11, none⟩ = some (.string m2) ∧ w'.cell? ⟨bk, off + 12, none⟩ = some (.string q2) ∧ w'.cell? ⟨bk, off + 13, none⟩ = some (.bool a2) ∧ w'.cell? ⟨bk, off + 14, none⟩ = some (.bool t2) ∧ w'.cell? ⟨bk, off + 15, none⟩ = some (.slice ad2 l2.length cp2) ∧ Kp W0 w') (by kernel_rfl) ?_ (fun hHeld0 => ?_)
   ·(try dsimp only); exact KS.out _ (by first | assumption | exact Kp.drew _)
   refine tkv 0 lvS0 ?_
   (try simp only [Act.put, lvS0, List.setIfInBounds_toArray, List.set_cons_zero, List.set_cons_succ])
   refine tkv 1 lvS1 ?_
   (try simp only [Act.put, lvS1, List.setIfInBounds_toArray, List.set_cons_zero, List.set_cons_succ])
   refine tkv 2 lvS2 ?_
   (try simp only [Act.put, lvS2, List.setIfInBounds_toArray, List.set_cons_zero, List.set_cons_succ])
   refine tkv 3 lvS3 ?_
   (try simp only [Act.put, lvS3, List.setIfInBounds_toArray, List.set_cons_zero, List.set_cons_succ])
   refine tkv 5 lvS5 ?_
   (try simp only [Act.put, lvS5, List.setIfInBounds_toArray, List.set_cons_zero, List.set_cons_succ])
   refine tkv 6 lvS6 ?_
   (try simp only [Act.put, lvS6, List.setIfInBounds_toArray, List.set_cons_zero, List.set_cons_succ])
   refine tkv 7 lvS7 ?_
   (try simp only [Act.put, lvS7, List.setIfInBounds_toArray, List.set_cons_zero, List.set_cons_succ])
   refine tkv 8 lvS8 ?_
   (try simp only [Act.put, lvS8, List.setIfInBounds_toArray, List.set_cons_zero, List.set_cons_succ])
   refine tkE 4 lvS4 rfl (by kernel_rfl) (fun K hK => ?_)
   go_simp
   (refine (CX.out _ (K0.out.trans (by first | assumption | exact Kp.drew _))).mono ?_; rintro e wa ⟨va, rfl, owa, k1⟩; have OA := Lib.hid (own_mono owa (Below.size (show Kp w _ from K00.out.trans (by first | assumption | exact Kp.drew _)))); obtain ⟨aa, ca, rfl⟩ := own_slice owa; clear owa; have k2 := Kp.trans (show Kp W0 _ from (by first | assumption | exact Kp.drew _)) k1; clear k1)
   (try go_wp2_with fail)
   refine hK.out _ _ ?_ (fun hHeld1 => ?_)
   ·(try dsimp only); exact KS.out _ (by first | assumption | exact Kp.drew _)
   clear hK K hHeld0
   (try simp only [Act.put, lvS4, List.setIfInBounds_toArray, List.set_cons_zero, List.set_cons_succ])
   refine tkE 9 lvS9 rfl (by kernel_rfl) (fun K hK => ?_)
   go_simp
   (refine (CZ.out _ (K0.out.trans (by first | assumption | exact Kp.drew _))).mono ?_; rintro e wb ⟨rfl, k1⟩; have k2 := Kp.trans (show Kp W0 _ from (by first | assumption | exact Kp.drew _)) k1; clear k1)
   go_wp2
   exact ⟨rfl, K00.out.trans k2, .inr ⟨HE2.out, rfl⟩⟩
 ·rw [if_neg he1]
  obtain ⟨W0, hW⟩ : ∃ x, x = w.alloc (.cells #[.int .i64 1, .int .i64 pk, .string y, .string m, .string q, .bool a, .bool t, .slice (some ⟨bk, off, none⟩) 2 cp] 26) := ⟨_, rfl⟩
  have k0 : Kp w W0 := by rw [hW]; exact Kp.alloc _ _
  have hg : W0.heap[w.heap.size]? = some (.cells #[.int .i64 1, .int .i64 pk, .string y, .string m, .string q, .bool a, .bool t, .slice (some ⟨bk, off, none⟩) 2 cp] 26 (0, 0)) := by rw [hW]; exact heap_at _ _ _ rfl
  have HB := Lib.hid (fun w1 (qq : Kp W0 w1) => show w1.cell? ⟨w.heap.size, 0, none⟩ = some (.int .i64 1) ∧ w1.cell? ⟨w.heap.size, 1, none⟩ = some (.int .i64 pk) ∧ w1.cell? ⟨w.heap.size, 2, none⟩ = some (.string y) ∧ w1.cell? ⟨w.heap.size, 3, none⟩ = some (.string m) ∧ w1.cell? ⟨w.heap.size, 4, none⟩ = some (.string q) ∧ w1.cell? ⟨w.heap.size, 5, none⟩ = some (.bool a) ∧ w1.cell? ⟨w.heap.size, 6, none⟩ = some (.bool t) ∧ w1.cell? ⟨w.heap.size, 7, none⟩ = some (.slice (some ⟨bk, off, none⟩) 2 cp) ∧ w1.cell? ⟨bk, off, none⟩ = some (.int .i64 k1) ∧ w1.cell? ⟨bk, off + 1, none⟩ = some (.int .i64 pk1) ∧ w1.cell? ⟨bk, off + 2, none⟩ = some (.string y1) ∧ w1.cell? ⟨bk, off + 3, none⟩ = some (.string m1) ∧ w1.cell? ⟨bk, off + 4, none⟩ = some (.string q1) ∧ w1.cell? ⟨bk, off + 5, none⟩ = some (.bool a1) ∧ w1.cell? ⟨bk, off + 6, none⟩ = some (.bool t1) ∧ w1.cell? ⟨bk, off + 7, none⟩ = some (.slice ad1 l1.length cp1) ∧ w1.cell? ⟨bk, off + 8, none⟩ = some (.int .i64 k2) ∧ w1.cell? ⟨bk, off + 9, none⟩ = some (.int .i64 pk2) ∧ w1.cell? ⟨bk, off + 10, none⟩ = some (.string y2) ∧ w1.cell? ⟨bk, off + 11, none⟩ = some (.string m2) ∧ w1.cell? ⟨bk, off + 12, none⟩ = some (.string q2) ∧ w1.cell? ⟨bk, off + 13, none⟩ = some (.bool a2) ∧ w1.cell? ⟨bk, off + 14, none⟩ = some (.bool t2) ∧ w1.cell? ⟨bk, off + 15, none⟩ = some (.slice ad2 l2.length cp2) from ⟨(row8 (heap_block qq hg)).1, (row8 (heap_block qq hg)).2.1, (row8 (heap_block qq hg)).2.2.1, (row8 (heap_block qq hg)).2.2.2.1, (row8 (heap_block qq hg)).2.2.2.2.1, (row8 (heap_block qq hg)).2.2.2.2.2.1, (row8 (heap_block qq hg)).2.2.2.2.2.2.1, (row8 (heap_block qq hg)).2.2.2.2.2.2.2, cell_up (KW9.out.trans (k0.trans qq)) g0, cell_up (KW9.out.trans (k0.trans qq)) g1, cell_up (KW9.out.trans (k0.trans qq)) g2, cell_up (KW9.out.trans (k0.trans qq)) g3, cell_up (KW9.out.trans (k0.trans qq)) g4, cell_up (KW9.out.trans (k0.trans qq)) g5, cell_up (KW9.out.trans (k0.trans qq)) g6, cell_up (KW9.out.trans (k0.trans qq)) g7, cell_up (KW9.out.trans (k0.trans qq)) h0, cell_up (KW9.out.trans (k0.trans qq)) h1, cell_up (KW9.out.trans (k0.trans qq)) h2, cell_up (KW9.out.trans (k0.trans qq)) h3, cell_up (KW9.out.trans (k0.trans qq)) h4, cell_up (KW9.out.trans (k0.trans qq)) h5, cell_up (KW9.out.trans (k0.trans qq)) h6, cell_up (KW9.out.trans (k0.trans qq)) h7⟩)
  have HW := Lib.hid hW
  have K00 := Lib.hid k0
  have K0 := Lib.hid (Kp.refl W0)
  have TT := Lib.hid (fun w1 (qq : Kp W0 w1) => T.kp (KW9.out.trans (k0.trans qq)))
  clear hW k0 hg T
  have CX := Lib.hid (fun w1 (qq : Kp W0 w1) => CXN w1 (KW9.out.trans (K00.out.trans qq)) he1)
  have HE1 := Lib.hid he1
  clear CXS CXN CZS CZN he1 
  clear g0 h0 g1 h1 g2 h2 g3 h3 g4 h4 g5 h5 g6 h6 g7 h7
  go_enter Tryz.func20, Tryz.ntmps20
  go_wp2_with fail
  rw [← HW.out]
  obtain ⟨c0, c1, c2, c3, c4, c5, c6, c7, c8, c9, c10, c11, c12, c13, c14, c15, c16, c17, c18, c19, c20, c21, c22, c23⟩ := HB.out W0 (Kp.refl _)
  have KS := Lib.hid (fun w' (kq : Kp W0 w') => show w'.cell? ⟨w.heap.size, 0, none⟩ = some (.int .i64 1) ∧ w'.cell? ⟨w.heap.size, 1, none⟩ = some (.int .i64 pk) ∧ w'.cell? ⟨w.heap.size, 2, none⟩ = some (.string y) ∧ w'.cell? ⟨w.heap.size, 3, none⟩ = some (.string m) ∧ w'.cell? ⟨w.heap.size, 4, none⟩ = some (.string q) ∧ w'.cell? ⟨w.heap.size, 5, none⟩ = some (.bool a) ∧ w'.cell? ⟨w.heap.size, 6, none⟩ = some (.bool t) ∧ w'.cell? ⟨w.heap.size, 7, none⟩ = some (.slice (some ⟨bk, off, none⟩) 2 cp) ∧ w'.cell? ⟨bk, off, none⟩ = some (.int .i64 k1) ∧ w'.cell? ⟨bk, off + 1, none⟩ = some (.int .i64 pk1) ∧ w'.cell? ⟨bk, off + 2, none⟩ = some (.string y1) ∧ w'.cell? ⟨bk, off + 3, none⟩ = some (.string m1) ∧ w'.cell? ⟨bk, off + 4, none⟩ = some (.string q1) ∧ w'.cell? ⟨bk, off + 5, none⟩ = some (.bool a1) ∧ w'.cell? ⟨bk, off + 6, none⟩ = some (.bool t1) ∧ w'.cell? ⟨bk, off + 7, none⟩ = some (.slice ad1 l1.length cp1) ∧ w'.cell? ⟨bk, off + 8, none⟩ = some (.int .i64 k2) ∧ w'.cell? ⟨bk, off + 9, none⟩ = some (.int .i64 pk2) ∧ w'.cell? ⟨bk, off + 10, none⟩ = some (.string y2) ∧ w'.cell? ⟨bk, off + 11, none⟩ = some (.string m2) ∧ w'.cell? ⟨bk, off + 12, none⟩ = some (.string q2) ∧ w'.cell? ⟨bk, off + 13, none⟩ = some (.bool a2) ∧ w'.cell? ⟨bk, off + 14, none⟩ = some (.bool t2) ∧ w'.cell? ⟨bk, off + 15, none⟩ = some (.slice ad2 l2.length cp2) ∧ Kp W0 w' from ⟨(HB.out w' (K0.out.trans kq)).1, (HB.out w' (K0.out.trans kq)).2.1, (HB.out w' (K0.out.trans kq)).2.2.1, (HB.out w' (K0.out.trans kq)).2.2.2.1, (HB.out w' (K0.out.trans kq)).2.2.2.2.1, (HB.out w' (K0.out.trans kq)).2.2.2.2.2.1, (HB.out w' (K0.out.trans kq)).2.2.2.2.2.2.1, (HB.out w' (K0.out.trans kq)).2.2.2.2.2.2.2.1, (HB.out w' (K0.out.trans kq)).2.2.2.2.2.2.2.2.1, (HB.out w' (K0.out.trans kq)).2.2.2.2.2.2.2.2.2.1, (HB.out w' (K0.out.trans kq)).2.2.2.2.2.2.2.2.2.2.1, (HB.out w' (K0.out.trans kq)).2.2.2.2.2.2.2.2.2.2.2.1, (HB.out w' (K0.out.trans kq)).2.2.2.2.2.2.2.2.2.2.2.2.1, (HB.out w' (K0.out.trans kq)).2.2.2.2.2.2.2.2.2.2.2.2.2.1, (HB.out w' (K0.out.trans kq)).2.2.2.2.2.2.2.2.2.2.2.2.2.2.1, (HB.out w' (K0.out.trans kq)).2.2.2.2.2.2.2.2.2.2.2.2.2.2.2.1, (HB.out w' (K0.out.trans kq)).2.2.2.2.2.2.2.2.2.2.2.2.2.2.2.2.1, (HB.out w' (K0.out.trans kq)).2.2.2.2.2.2.2.2.2.2.2.2.2.2.2.2.2.1, (HB.out w' (K0.out.trans kq)).2.2.2.2.2.2.2.2.2.2.2.2.2.2.2.2.2.2.1, (HB.out w' (K0.out.trans kq)).2.2.2.2.2.2.2.2.2.2.2.2.2.2.2.2.2.2.2.1, (HB.out w' (K0.out.trans kq)).2.2.2.2.2.2.2.2.2.2.2.2.2.2.2.2.2.2.2.2.1, (HB.out w' (K0.out.trans kq)).2.2.2.2.2.2.2.2.2.2.2.2.2.2.2.2.2.2.2.2.2.1, (HB.out w' (K0.out.trans kq)).2.2.2.2.2.2.2.2.2.2.2.2.2.2.2.2.2.2.2.2.2.2.1, (HB.out w' (K0.out.trans kq)).2.2.2.2.2.2.2.2.2.2.2.2.2.2.2.2.2.2.2.2.2.2.2, kq⟩)
  go_wp2_with fail
  refine wp_region_held_drew (S := fun w' => w'.cell? ⟨w.heap.size, 0, none⟩ = some (.int .i64 1) ∧ w'.cell? ⟨w.heap.size, 1, none⟩ = some (.int .i64 pk) ∧ w'.cell? ⟨w.heap.size, 2, none⟩ = some (.string y) ∧ w'.cell? ⟨w.heap.size, 3, none⟩ = some (.string m) ∧ w'.cell? ⟨w.heap.size, 4, none⟩ = some (.string q) ∧ w'.cell? ⟨w.heap.size, 5, none⟩ = some (.bool a) ∧ w'.cell? ⟨w.heap.size, 6, none⟩ = some (.bool t) ∧ w'.cell? ⟨w.heap.size, 7, none⟩ = some (.slice (some ⟨bk, off, none⟩) 2 cp) ∧ w'.cell? ⟨bk, off, none⟩ = some (.int .i64 k1) ∧ w'.cell? ⟨bk, off + 1, none⟩ = some (.int .i64 pk1) ∧ w'.cell? ⟨bk, off + 2, none⟩ = some (.string y1) ∧ w'.cell? ⟨bk, off + 3, none⟩ = some (.string m1) ∧ w'.cell? ⟨bk, off + 4, none⟩ = some (.string q1) ∧ w'.cell? ⟨bk, off + 5, none⟩ = some (.bool a1) ∧ w'.cell? ⟨bk, off + 6, none⟩ = some (.bool t1) ∧ w'.cell? ⟨bk, off + 7, none⟩ = some (.slice ad1 l1.length cp1) ∧ w'.cell? ⟨bk, off + 8, none⟩ = some (.int .i64 k2) ∧ w'.cell? ⟨bk, off + 9, none⟩ = some (.int .i64 pk2) ∧ w'.cell? ⟨bk, off + 10, none⟩ = some (.string y2) ∧ w'.cell? ⟨bk, off + 11, none⟩ = some (.string m2) ∧ w'.cell? ⟨bk, off + 12, none⟩ = some (.string q2) ∧ w'.cell? ⟨bk, off + 13, none⟩ = some (.bool a2) ∧ w'.cell? ⟨bk, off + 14, none⟩ = some (.bool t2) ∧ w'.cell? ⟨bk, off + 15, none⟩ = some (.slice ad2 l2.length cp2) ∧ Kp W0 w') (by kernel_rfl) ?_ (fun hHeld0 => ?_)
  ·(try dsimp only); exact KS.out _ (by first | assumption | exact Kp.drew _)
  refine tkv 0 lvS0 ?_
  (try simp only [Act.put, lvS0, List.setIfInBounds_toArray, List.set_cons_zero, List.set_cons_succ])
  refine tkv 1 lvS1 ?_
  (try simp only [Act.put, lvS1, List.setIfInBounds_toArray, List.set_cons_zero, List.set_cons_succ])
  refine tkv 2 lvS2 ?_
  (try simp only [Act.put, lvS2, List.setIfInBounds_toArray, List.set_cons_zero, List.set_cons_succ])
  refine tkv 3 lvS3 ?_
  (try simp only [Act.put, lvS3, List.setIfInBounds_toArray, List.set_cons_zero, List.set_cons_succ])
  refine tkv 5 lvS5 ?_
  (try simp only [Act.put, lvS5, List.setIfInBounds_toArray, List.set_cons_zero, List.set_cons_succ])
  refine tkv 6 lvS6 ?_
  (try simp only [Act.put, lvS6, List.setIfInBounds_toArray, List.set_cons_zero, List.set_cons_succ])
  refine tkv 7 lvS7 ?_
  (try simp only [Act.put, lvS7, List.setIfInBounds_toArray, List.set_cons_zero, List.set_cons_succ])
  refine tkv 8 lvS8 ?_
  (try simp only [Act.put, lvS8, List.setIfInBounds_toArray, List.set_cons_zero, List.set_cons_succ])
  refine tkE 4 lvS4 rfl (by kernel_rfl) (fun K hK => ?_)
  go_simp
  (refine (CX.out _ (K0.out.trans (by first | assumption | exact Kp.drew _))).mono ?_; rintro e wa ⟨rfl, k1⟩; have k2 := Kp.trans (show Kp W0 _ from (by first | assumption | exact Kp.drew _)) k1; clear k1)
  go_wp2
  exact ⟨rfl, K00.out.trans k2, .inr ⟨HE1.out, rfl⟩⟩
set_option maxHeartbeats 16000000 in
set_option maxRecDepth 100000 in
theorem lv2_any (w0 : World) (T : Tabs8 w0) (v : Value) (l : List ND) (hh : ∃ ad cp, v = .slice ad l.length cp ∧ (0 < l.length → ∃ b off, ad = some ⟨b, off, none⟩ ∧ ∀ i, i < l.length → ∃ vi, RowN w0 b (off + i * 8) (nth l i) vi ∧ NodesAt w0 vi (nth l i).l ∧ (fun v l => ∀ (k : Int) (p : PT) (a t : Bool) (w : World), Kp w0 w → rightN saneP (.mk k p a t l) = true → cntL l ≤ 64 →
   Calls Tryz.prog 20 #[ndV (.mk k p a t l) v] w fun e w' => Kp w w' ∧ ((dnE (.mk k p a t l) = 0 ∧ ∃ (v' : Value) (m : List (LF × VV)), e = .returned v' ∧ m.map Prod.fst = dnS (.mk k p a t l) ∧ OwnV w' w.heap.size m ∧ w'.ownsRow w.heap.size 43 4 v' m.length (cellsV m)) ∨ (¬ dnE (.mk k p a t l) = 0 ∧ e = .panicked (flt (dnE (.mk k p a t l)))))) vi (nth l i).l)) :
  ∀ (p : PT) (a t : Bool) (w : World), Kp w0 w → rightN saneP (.mk 2 p a t l) = true → cntL l ≤ 64 →
   Calls Tryz.prog 20 #[ndV (.mk 2 p a t l) v] w fun e w' => Kp w w' ∧ ((dnE (.mk 2 p a t l) = 0 ∧ ∃ (v' : Value) (m : List (LF × VV)), e = .returned v' ∧ m.map Prod.fst = dnS (.mk 2 p a t l) ∧ OwnV w' w.heap.size m ∧ w'.ownsRow w.heap.size 43 4 v' m.length (cellsV m)) ∨ (¬ dnE (.mk 2 p a t l) = 0 ∧ e = .panicked (flt (dnE (.mk 2 p a t l))))) := by
 obtain ⟨ad, cp, rfl, hrow⟩ := hh
 intro p a t w k0 hr hc
 obtain ⟨pk, y, m, q⟩ := p
 have hall : ∀ i, i < l.length → rightN saneP (nth l i) = true := by
  rcases dk_kind hr with ⟨p', a', t', e', hp⟩ | ⟨x, z, e', hx, hz⟩ | ⟨l', e', hl⟩ <;> injection e' with e1 e2 e3 e4 e5
  ·omega
  ·omega
  ·intro i hi
   rw [e5] at hi ⊢
   exact hl _ (nth_mem hi)
 have DE : dnE (.mk 2 ⟨pk, y, m, q⟩ a t l : ND) = dnEL l := by simp only [dnE]; rw [if_neg (by decide)]; first | rw [if_pos trivial] | rw [if_pos rfl]
 have DS : dnS (.mk 2 ⟨pk, y, m, q⟩ a t l : ND) = dnSL l := by simp only [dnS]; rw [if_neg (by decide)]; first | rw [if_pos trivial] | rw [if_pos rfl]
 rw [DE, DS]
 have HA := Lib.hid hall
 have CA := Lib.hid (fun i (hi : i < l.length) => (show cntL (nth l i).l ≤ 64 by have := cnt_at hi; have := cntN_mk (nth l i); omega))
 have EA := Lib.hid (fun i (hi : i < l.length) => dnEL_at (l := l) (i := i) hi)
 have EZ := Lib.hid (fun h => dnEL_all (l := l) h)
 have TK := Lib.hid (fun i (hi : i < l.length) => show dnSL (l.take (i + 1)) = dnSL (l.take i) ++ dnS (nth l i) by rw [nth_take hi, dnSL_append]; simp [dnSL])
 have LB := Lib.hid (fun i => show (dnSL (l.take i)).length ≤ 64 by
  have a := dnSL_len (l.take i)
  have b := ptsCL_cnt (l.take i)
  have c := cntL_append (l.take i) (l.drop i)
  rw [List.take_append_drop] at c
  omega)
 have LN := Lib.hid (fun i (hi : i < l.length) => show (dnS (nth l i)).length ≤ 64 by
  have a := dnS_len (nth l i)
  have b := ptsC_cnt (nth l i)
  have c := cnt_at hi
  omega)
 have T0 := Lib.hid (show dnSL (l.take 0) = [] by rw [List.take_zero]; rfl)
 have TL := Lib.hid (show l.take l.length = l from List.take_length)
 have ll : l.length ≤ 64 := by have := len_cntL l; omega
 have HR := Lib.hid hrow
 have KW9 := Lib.hid k0
 generalize dnEL l = EL at *
 obtain ⟨SL, hsl⟩ : ∃ x, dnSL l = x := ⟨_, rfl⟩
 rw [hsl]
 have HSL := Lib.hid hsl
 unfold ndV
 simp only [ND.k, ND.p, ND.a, ND.t, ND.l]
 clear hr hc DE DS k0 hall hsl hrow
 obtain ⟨W0, hW⟩ : ∃ x, x = w.alloc (.cells #[.int .i64 2, .int .i64 pk, .string y, .string m, .string q, .bool a, .bool t, .slice ad l.length cp] 26) := ⟨_, rfl⟩
 have k0 : Kp w W0 := by rw [hW]; exact Kp.alloc _ _
 have hg : W0.heap[w.heap.size]? = some (.cells #[.int .i64 2, .int .i64 pk, .string y, .string m, .string q, .bool a, .bool t, .slice ad l.length cp] 26 (0, 0)) := by rw [hW]; exact heap_at _ _ _ rfl
 have HB := Lib.hid (fun w1 (qq : Kp W0 w1) => show w1.cell? ⟨w.heap.size, 0, none⟩ = some (.int .i64 2) ∧ w1.cell? ⟨w.heap.size, 1, none⟩ = some (.int .i64 pk) ∧ w1.cell? ⟨w.heap.size, 2, none⟩ = some (.string y) ∧ w1.cell? ⟨w.heap.size, 3, none⟩ = some (.string m) ∧ w1.cell? ⟨w.heap.size, 4, none⟩ = some (.string q) ∧ w1.cell? ⟨w.heap.size, 5, none⟩ = some (.bool a) ∧ w1.cell? ⟨w.heap.size, 6, none⟩ = some (.bool t) ∧ w1.cell? ⟨w.heap.size, 7, none⟩ = some (.slice ad l.length cp) from ⟨(row8 (heap_block qq hg)).1, (row8 (heap_block qq hg)).2.1, (row8 (heap_block qq hg)).2.2.1, (row8 (heap_block qq hg)).2.2.2.1, (row8 (heap_block qq hg)).2.2.2.2.1, (row8 (heap_block qq hg)).2.2.2.2.2.1, (row8 (heap_block qq hg)).2.2.2.2.2.2.1, (row8 (heap_block qq hg)).2.2.2.2.2.2.2⟩)
 have HW := Lib.hid hW
 have K00 := Lib.hid k0
 have K0 := Lib.hid (Kp.refl W0)
 have TT := Lib.hid (fun w1 (qq : Kp W0 w1) => T.kp (KW9.out.trans (k0.trans qq)))
 clear hW k0 hg T
 go_enter Tryz.func20, Tryz.ntmps20
 go_wp2_with fail
 rw [← HW.out]
 obtain ⟨c0, c1, c2, c3, c4, c5, c6, c7⟩ := HB.out W0 (Kp.refl _)
 obtain ⟨i0, hi, hz0, hz1, hz2⟩ := info_parts infoLeaf
 go_wp2
 go_loopw [3, 27] (fun s i ws => ∃ (j : Nat) (ms : List (LF × VV)), j ≤ l.length ∧ i = .int .i64 j ∧ Hid (ms.map Prod.fst = dnSL (l.take j)) ∧ Hid (OwnV ws W0.heap.size ms) ∧ Hid (ws.ownsRow W0.heap.size 43 4 s ms.length (cellsV ms)) ∧ Hid (∀ i, i < j → dnE (nth l i) = 0) ∧ Hid (Kp W0 ws)) (fun _ i _ => l.length - (intOf i).toNat)
 case atStart => exact ⟨0, [], Nat.zero_le _, rfl, Lib.hid T0.out.symm, Lib.hid (fun p hp => by cases hp), Lib.hid (World.ownsRow_nil _ _ _ _), Lib.hid (fun i hi => by omega), K0⟩
 case round =>
  clear c0 c1 c2 c3 c4 c5 c6 c7
  obtain ⟨j, ms, hj, rfl, MJ, VJ, OJ, FJ, KJ⟩ := hrel
  by_cases hlt : j < l.length
  ·obtain ⟨bk, off, rfl, hall⟩ := HR.out (by omega)
   obtain ⟨vi, hrow, hsub, ih⟩ := hall j hlt
   have kw0 : Kp w0 wr := KW9.out.trans (K00.out.trans KJ.out)
   obtain ⟨e0, e1, e2, e3, e4, e5, e6, e7⟩ := hrow.kp kw0
   have wj := HA.out j hlt
   have cj := CA.out j hlt
   have tk := TK.out j hlt
   have ej := EA.out j hlt FJ.out
   have lj := LN.out j hlt
   obtain ⟨x, hx⟩ : ∃ x, nth l j = x := ⟨_, rfl⟩
   rw [hx] at e0 e1 e2 e3 e4 e5 e6 wj cj tk ej lj hsub ih
   have IX := fun w1 (k1 : Kp w0 w1) => ih x.k x.p x.a x.t w1 k1 (by rw [← eta_nd]; exact wj) cj
   rw [← eta_nd x] at IX
   have HX := Lib.hid hx
   have EJ := Lib.hid ej
   have TJ := Lib.hid tk
   have LJ := Lib.hid lj
   have l0 := LB.out j
   have L0 := Lib.hid (show ms.length ≤ 64 by rw [map_fst_len MJ.out]; exact l0)
   clear hall hrow wj cj tk ej lj ih hx l0
   obtain ⟨dn, hdn⟩ : ∃ u, dnE x = u := ⟨_, rfl⟩
   obtain ⟨ds, hds⟩ : ∃ u, dnS x = u := ⟨_, rfl⟩
   rw [hdn, hds] at IX
   rw [hdn] at EJ
   rw [hds] at TJ LJ
   have HDN := Lib.hid hdn
   clear hdn hds
   obtain ⟨k1, ⟨pk1, y1, m1, q1⟩, a1, t1, l1⟩ := x
   simp only [ND.k, ND.p, ND.a, ND.t, ND.l] at e0 e1 e2 e3 e4 e5 e6 hsub
   obtain ⟨ad1, cp1, rfl⟩ := hsub.slice
   (try unfold ndV at IX)
   simp only [ND.k, ND.p, ND.a, ND.t, ND.l] at IX
   have IXH := Lib.hid IX
   have z1 : (j : Int) < (l.length : Int) := by omega
   have z3 : (0 : Int) ≤ (j : Int) := by omega
   have HLT := Lib.hid hlt
   have hbk := World.block_lt_of_cell? _ _ e0
   simp only at hbk
   obtain ⟨c0, c1, c2, c3, c4, c5, c6, c7⟩ := HB.out wr KJ.out
   obtain ⟨W5, hW5⟩ : ∃ x, x = wr.alloc (.cells #[.int .i64 k1, .int .i64 pk1, .string y1, .string m1, .string q1, .bool a1, .bool t1, .slice ad1 l1.length cp1] 26) := ⟨_, rfl⟩
   have k5 : Kp wr W5 := by rw [hW5]; exact Kp.alloc _ _
   have K5 := Lib.hid k5
   have KW5 := Lib.hid (kw0.trans k5)
   have KJ5 := Lib.hid (KJ.out.trans k5)
   have HW5 := Lib.hid hW5
   have VJ5 := Lib.hid (VJ.out.kp k5)
   have OJ5 := Lib.hid (own_kp OJ.out k5)
   clear hsub IX kw0 k5 hW5 VJ OJ
   go_wp2_with fail
   rw [← HW5.out]
   refine (IXH.out _ KW5.out).mono ?_
   rintro e w6 ⟨k6, ⟨hn, v6, m6, rfl, hm6, ov6, own6⟩ | ⟨hn, rfl⟩⟩
   ·have K6 := Lib.hid k6
    have B6 := Lib.hid (Below.size KJ5.out)
    have VJ6 := Lib.hid (VJ5.out.kp k6)
    have OJ6 := Lib.hid (own_kp OJ5.out k6)
    have OV6 := Lib.hid (ov6.mono B6.out)
    have OW6 := Lib.hid (own_mono own6 B6.out)
    have SR6 := Lib.hid (own_srcV own6)
    have H6 := Lib.hid (cellsV_length m6)
    have ONE6 := Lib.hid (cellsV_one ov6.reads)
    have M6 := Lib.hid hm6
    have FN := Lib.hid hn
    have N6 := Lib.hid (show m6.length ≤ 64 by rw [map_fst_len hm6]; exact LJ.out)
    have KE := Lib.hid (show Kp W0 w6 from KJ5.out.trans k6)
    obtain ⟨ad6, cp6, rfl⟩ := own_slice4 own6
    clear k6 ov6 own6 hm6 hn e0 e1 e2 e3 e4 e5 e6 e7 c0 c1 c2 c3 c4 c5 c6 c7
    go_wp2_with (first
     | (at_builtin; refine wpList_app rfl (.tmp 31) (.tmp 33) 31 rfl W0.heap.size 43 i0 (.agg #[.bool false, .int .i64 0, .slice none 0 0, .slice none 0 0]) 4 64 Tryz.underlying31 hi hz0 hz1 hz2 rfl (by decide) _ _ _ rfl OJ6.out _ _ _ rfl SR6.out H6.out ONE6.out (by have a := L0.out; have b := N6.out; unfold maxLen; omega) (by have a := L0.out; have b := N6.out; omega) (Below.size KE.out) ?_; intro v7 w7 own7 hgrow7 hat7; have K7 := Lib.hid (KE.out.grown hgrow7 (fun j hj => (OJ6.out.lt j hj).1)); have V7 := Lib.hid ((VJ6.out.append OV6.out).grown hgrow7 OJ6.out); have O7 := Lib.hid own7; clear hgrow7 hat7 own7))
    go_wp2
    go_roundw
    case rel => exact ⟨j + 1, ms ++ m6, HLT.out, by go_num, Lib.hid (by rw [List.map_append, MJ.out, M6.out, TJ.out]), V7, Lib.hid (by rw [List.length_append, cellsV_append]; exact O7.out), Lib.hid (fun i hi => by
     by_cases c : i < j
     ·exact FJ.out i c
     ·obtain rfl : i = j := by omega
      rw [HX.out, HDN.out]; exact FN.out), K7⟩
    case measure => have := HLT.out; simp [intOf]; omega
   ·have K6 := Lib.hid (show Kp w w6 from K00.out.trans (KJ5.out.trans k6))
    have hel := EJ.out hn
    have HEL := Lib.hid hel
    have FN := Lib.hid hn
    clear k6 hn hel e0 e1 e2 e3 e4 e5 e6 e7 c0 c1 c2 c3 c4 c5 c6 c7
    go_wp2
    exact ⟨rfl, K6.out, .inr ⟨by rw [HEL.out]; exact FN.out, by rw [HEL.out]⟩⟩
  ·obtain rfl : j = l.length := by omega
   have mj := MJ.out
   rw [TL.out, HSL.out] at mj
   have MF := Lib.hid mj
   have EF := Lib.hid (EZ.out FJ.out)
   clear mj
   go_wp2
   go_ret
   exact ⟨K00.out.trans KJ.out, .inl ⟨EF.out, _, ms, rfl, MF.out, VJ.out.mono K00.out.size, own_mono OJ.out K00.out.size⟩⟩
theorem leaves_any (w0 : World) (T : Tabs8 w0) : ∀ {v : Value} {l : List ND}, NodesAt w0 v l → ∀ (k : Int) (p : PT) (a t : Bool) (w : World), Kp w0 w → rightN saneP (.mk k p a t l) = true → cntL l ≤ 64 →
   Calls Tryz.prog 20 #[ndV (.mk k p a t l) v] w fun e w' => Kp w w' ∧ ((dnE (.mk k p a t l) = 0 ∧ ∃ (v' : Value) (m : List (LF × VV)), e = .returned v' ∧ m.map Prod.fst = dnS (.mk k p a t l) ∧ OwnV w' w.heap.size m ∧ w'.ownsRow w.heap.size 43 4 v' m.length (cellsV m)) ∨ (¬ dnE (.mk k p a t l) = 0 ∧ e = .panicked (flt (dnE (.mk k p a t l))))) := by
 refine @NodesAt.ind w0 (fun v l => ∀ (k : Int) (p : PT) (a t : Bool) (w : World), Kp w0 w → rightN saneP (.mk k p a t l) = true → cntL l ≤ 64 →
   Calls Tryz.prog 20 #[ndV (.mk k p a t l) v] w fun e w' => Kp w w' ∧ ((dnE (.mk k p a t l) = 0 ∧ ∃ (v' : Value) (m : List (LF × VV)), e = .returned v' ∧ m.map Prod.fst = dnS (.mk k p a t l) ∧ OwnV w' w.heap.size m ∧ w'.ownsRow w.heap.size 43 4 v' m.length (cellsV m)) ∨ (¬ dnE (.mk k p a t l) = 0 ∧ e = .panicked (flt (dnE (.mk k p a t l)))))) ?_
 intro v l hh k p a t w k0 hr hc
 rcases dk_kind hr with ⟨p', a', t', e', hp⟩ | ⟨x, y, e', hx, hy⟩ | ⟨l', e', hl⟩ <;> injection e' with e1 e2 e3 e4 e5
 ·subst e1
  exact lv0_any w0 T v l hh p a t w k0 hr hc
 ·subst e1
  exact lv1_any w0 T v l hh p a t w k0 hr hc
 ·subst e1
  exact lv2_any w0 T v l hh p a t w k0 hr hc
def Fams (w : World) (base : Nat) (v : Value) (L : List LF) : Prop := ∃ m : List (LF × VV), m.map Prod.fst = L ∧ OwnV w base m ∧ w.ownsRow base 43 4 v m.length (cellsV m)
theorem Fams.nil (w : World) (base : Nat) : Fams w base (.slice none 0 0) [] := ⟨[], rfl, (by intro p hp; cases hp), World.ownsRow_nil _ _ _ _⟩
theorem Fams.kp {w w' : World} {base : Nat} {v : Value} {L : List LF} (h : Fams w base v L) (k : Kp w w') : Fams w' base v L := by
 obtain ⟨m, h1, h2, h3⟩ := h
 exact ⟨m, h1, h2.kp k, own_kp h3 k⟩
theorem Fams.leaves {w : World} {base : Nat} {v : Value} {L : List LF} (h : Fams w base v L) : LeavesAt w v L := by
 obtain ⟨m, h1, h2, h3⟩ := h
 have := leavesAt_own h3 h2.reads
 rwa [h1] at this
def ofE (n : ND) : Int := if saneN saneP n = true then dnE n else 3
def ofS (n : ND) : List LF := if saneN saneP n = true ∧ dnE n = 0 then dnS n else []
theorem asF (v : Value) (w : World) : (Instr.typeAssert (.iface 49 v) 20 49 true).run Tryz.prog w = .ok (.tuple #[v, .bool true]) w := by kernel_rfl
theorem asN (w : World) : (Instr.typeAssert .nilIface 20 49 true).run Tryz.prog w = .ok (.tuple #[.agg #[.int .i64 0], .bool false]) w := by kernel_rfl
set_option maxHeartbeats 4000000 in
set_option maxRecDepth 100000 in
theorem catch_pan (P Q : Nat) (er : Int) (w : World) (v0 : Value) (x0 : Int) (hp : Cel w P 31 v0) (hq : Cel w Q 32 (.int .i64 x0)) (hne : P ≠ Q) :
  CallsD Tryz.prog 19 #[.pointer (some ⟨P, 0, none⟩), .pointer (some ⟨Q, 0, none⟩)] (.panicking (flt er)) w fun e u' w' =>
   e = .returned (.tuple #[]) ∧ u' = .panicking [{ v := .iface 49 (.agg #[.int .i64 er]), recovered := true }] ∧ Cel w' P 31 (.slice none 0 0) ∧ Cel w' Q 32 (.int .i64 er) ∧ KX (fun b => b = P ∨ b = Q) w w' := by
 have p1 := hp.cell
 have p2 := hp.frozen
 have p3 := hp.lt
 have q1 := hq.cell
 have q2 := hq.frozen
 have q3 := hq.lt
 have hs : ¬ P = w.heap.size := by omega
 have hs2 : ¬ Q = w.heap.size := by omega
 have hs3 : ¬ Q = P := fun e => hne e.symm
 refine callsD_of_wpS Tryz.func19 rfl fun c₀ cs hu => ?_
 unfold flt at hu
 change Code.wpS _ _ _ ⟨#[.pointer (some ⟨P, 0, none⟩), .pointer (some ⟨Q, 0, none⟩), undef, undef, undef, undef, undef, undef, undef, undef, undef, undef], []⟩ _ _
 have a1 := asF
 apply wpS_seq
 apply wpS_region
 simp [wpOpsS, a1, go_sem, recoverD, hu, Tryz.ntmps19, Exit.thenS]
 apply wpS_seq
 apply wpS_region
 simp [wpOpsS, go_sem, Exit.thenS]
 refine wpS_cond (t := true) (by simp [Act.eval]) ?_
 simp only [if_true]
 refine wpS_of_wp ?_
 obtain ⟨W1, hW1⟩ : ∃ x, x = w.alloc (.cells #[.int .i64 er] 49) := ⟨_, rfl⟩
 have k1 : Kp w W1 := by rw [hW1]; exact Kp.alloc _ _
 have cf : Cel W1 w.heap.size 49 (.int .i64 er) := by rw [hW1]; exact heap_at _ _ _ rfl
 have cp := hp.kp k1
 have cq := hq.kp k1
 rw [← hW1]
 have f1 := cf.cell
 have f2 := cf.frozen
 have f3 := cf.lt
 have p1 := cp.cell
 have p2 := cp.frozen
 have q1 := cq.cell
 have q2 := cq.frozen
 have KF := Lib.hid k1
 have CP := Lib.hid cp
 have CQ := Lib.hid cq
 clear hW1 k1 cf cp cq hp hq a1
 go_region
 simp only [bodyPostS]
 refine ⟨by first | trivial | rfl, _, rfl, .tuple #[], by simp [results, Tryz.results19, go_sem], rfl, rfl, ?_, ?_, ?_⟩
 ·exact ((CP.out.set _).other hne _).kp (Kp.drew _)
 ·exact ((CQ.out.other (fun e => hne e.symm) _).set _).kp (Kp.drew _)
 ·exact (KX.kp KF.out).trans ((KX.set (X := fun b => b = P ∨ b = Q) (Or.inl rfl) _ _).trans ((KX.set (X := fun b => b = P ∨ b = Q) (Or.inr rfl) _ _).trans (KX.kp (Kp.drew _))))
set_option maxHeartbeats 4000000 in
set_option maxRecDepth 100000 in
theorem catch_idle (p q : Value) (w : World) :
  CallsD Tryz.prog 19 #[p, q] .returning w fun e u' w' => e = .returned (.tuple #[]) ∧ u' = .returning ∧ Kp w w' := by
 refine callsD_of_wpS Tryz.func19 rfl fun c₀ cs hu => ?_
 change Code.wpS _ _ _ ⟨#[p, q, undef, undef, undef, undef, undef, undef, undef, undef, undef, undef], []⟩ _ _
 have a1 := asN
 apply wpS_seq
 apply wpS_region
 simp [wpOpsS, a1, go_sem, recoverD, hu, Tryz.ntmps19, Exit.thenS]
 apply wpS_seq
 apply wpS_region
 simp [wpOpsS, go_sem, Exit.thenS]
 refine wpS_cond (t := false) (by simp [Act.eval]) ?_
 simp only [Bool.false_eq_true, if_false]
 refine wpS_of_wp (wp_skip ?_)
 have kk := Kp.alloc w (.cells #[.int .i64 0] 49)
 cases c₀
 simp_all [bodyPostS, results, Tryz.results19]
set_option maxHeartbeats 16000000 in
set_option maxRecDepth 100000 in
theorem dnOf_no (n : ND) (v : Value) (w : World) (h : NodesAt w v n.l) (T : Tabs8 w) (hs : saneN saneP n = false) :
  Calls Tryz.prog 7 #[ndV n v] w fun e w' => ∃ v' : Value, e = .returned (.tuple #[v', .int .i64 3]) ∧ Fams w' w.heap.size v' [] ∧ Kp w w' := by
 have hmf : ∀ (fn : Fn) (first cap : Array Value) (w : World), (Instr.makeFunc fn first cap).run Tryz.prog w = .ok (.func fn first cap) w := fun _ _ _ _ => rfl
 have CS := Lib.hid (fun w1 (qq : Kp w w1) => tSaneG_any n v w1 (h.kp qq) (T.kp qq).2.1)
 rw [hs] at CS
 clear hs
 obtain ⟨ad, cp, rfl⟩ := h.slice
 obtain ⟨k, pk, y, m, q, a, t, l, rfl⟩ := nd_dest n
 unfold ndV at *
 simp only [ND.k, ND.p, ND.a, ND.t, ND.l] at *
 obtain ⟨W0, hW⟩ : ∃ x, x = ((w.alloc (.cells #[.int .i64 k, .int .i64 pk, .string y, .string m, .string q, .bool a, .bool t, .slice ad l.length cp] 26)).alloc (.cells #[.slice none 0 0] 31)).alloc (.cells #[.int .i64 0] 32) := ⟨_, rfl⟩
 have kw : Kp w W0 := by rw [hW]; exact ((Kp.alloc _ _).trans (Kp.alloc _ _)).trans (Kp.alloc _ _)
 have gB : W0.heap[w.heap.size]? = some (.cells #[.int .i64 k, .int .i64 pk, .string y, .string m, .string q, .bool a, .bool t, .slice ad l.length cp] 26 (0, 0)) := by rw [hW]; exact heap_block ((Kp.alloc _ _).trans (Kp.alloc _ _)) (heap_at _ _ _ rfl)
 have cP : Cel W0 (w.heap.size + 1) 31 (.slice none 0 0) := by rw [hW]; exact heap_block (Kp.alloc _ _) (heap_at _ _ _ (by simp))
 have cQ : Cel W0 (w.heap.size + 1 + 1) 32 (.int .i64 0) := by rw [hW]; exact heap_at _ _ _ (by simp)
 have hz : W0.heap.size = w.heap.size + 1 + 1 + 1 := by rw [hW]; simp
 have GB := Lib.hid (fun w1 (qq : Kp W0 w1) => heap_block qq gB)
 have CP := Lib.hid cP
 have CQ := Lib.hid cQ
 have HZ := Lib.hid hz
 have KW := Lib.hid kw
 have HW := Lib.hid hW
 clear kw gB hW cP cQ hz h T
 go_enter_defers Tryz.func7, Tryz.ntmps7
 go_wp2_with fail
 rw [← HW.out]
 obtain ⟨x0, x1, x2, x3, x4, x5, x6, x7⟩ := row8 (GB.out _ (Kp.refl _))
 go_wp2_with fail
 refine (CS.out _ KW.out).mono ?_
 rintro e w1 ⟨rfl, kk⟩
 have K1 := Lib.hid kk
 have CP1 := Lib.hid (CP.out.kp kk)
 have CQ1 := Lib.hid (CQ.out.kp kk)
 have z1 := kk.size
 have HZ1 := Lib.hid (show w.heap.size + 1 + 1 + 1 ≤ w1.heap.size by have := HZ.out; omega)
 clear kk x0 x1 x2 x3 x4 x5 x6 x7 z1
 go_wp2
 refine leaves_cons (f := 19) (args := #[.pointer (some ⟨w.heap.size + 1, 0, none⟩), .pointer (some ⟨w.heap.size + 1 + 1, 0, none⟩)]) (by simp) (by simp [go_sem]) ?_
 refine (show CallsD Tryz.prog 19 _ (.panicking [{ v := .iface 49 (.agg #[.int .i64 3]), recovered := false }]) w1 _ from catch_pan _ _ 3 w1 _ _ CP1.out CQ1.out (by omega)).mono ?_
 rintro e u' w9 ⟨rfl, rfl, c1, c2, kx⟩
 have K9 := Lib.hid (kx.to (KW.out.trans K1.out) (fun b hb => by rcases hb with rfl | rfl <;> omega))
 have p1 := c1.cell
 have p2 := c2.cell
 clear c1 c2 kx
 simp [Leaves, settle, results, Tryz.results7, go_sem, p1, p2]
 exact ⟨Fams.nil _ _, K9.out⟩
set_option maxHeartbeats 16000000 in
set_option maxRecDepth 100000 in
theorem dnOf_wide (n : ND) (v : Value) (w : World) (h : NodesAt w v n.l) (T : Tabs8 w) (hs : saneN saneP n = true) (hd : ¬ dnE n = 0) :
  Calls Tryz.prog 7 #[ndV n v] w fun e w' => ∃ v' : Value, e = .returned (.tuple #[v', .int .i64 (dnE n)]) ∧ Fams w' w.heap.size v' [] ∧ Kp w w' := by
 have hmf : ∀ (fn : Fn) (first cap : Array Value) (w : World), (Instr.makeFunc fn first cap).run Tryz.prog w = .ok (.func fn first cap) w := fun _ _ _ _ => rfl
 have CS := Lib.hid (fun w1 (qq : Kp w w1) => tSaneG_any n v w1 (h.kp qq) (T.kp qq).2.1)
 have CL := Lib.hid (fun w1 (qq : Kp w w1) => leaves_any w T h n.k n.p n.a n.t w1 qq (by rw [← eta_nd]; exact sane_rightD hs) (by have := sane_cntD hs; have := cntN_mk n; omega))
 rw [← eta_nd n] at CL
 rw [hs] at CS
 obtain ⟨er, her⟩ : ∃ x, dnE n = x := ⟨_, rfl⟩
 obtain ⟨F, hF⟩ : ∃ x, dnS n = x := ⟨_, rfl⟩
 rw [her, hF] at CL
 rw [her] at hd ⊢
 clear hs her hF
 have HD := Lib.hid hd
 clear hd
 obtain ⟨ad, cp, rfl⟩ := h.slice
 obtain ⟨k, pk, y, m, q, a, t, l, rfl⟩ := nd_dest n
 unfold ndV at *
 simp only [ND.k, ND.p, ND.a, ND.t, ND.l] at *
 obtain ⟨W0, hW⟩ : ∃ x, x = ((w.alloc (.cells #[.int .i64 k, .int .i64 pk, .string y, .string m, .string q, .bool a, .bool t, .slice ad l.length cp] 26)).alloc (.cells #[.slice none 0 0] 31)).alloc (.cells #[.int .i64 0] 32) := ⟨_, rfl⟩
 have kw : Kp w W0 := by rw [hW]; exact ((Kp.alloc _ _).trans (Kp.alloc _ _)).trans (Kp.alloc _ _)
 have gB : W0.heap[w.heap.size]? = some (.cells #[.int .i64 k, .int .i64 pk, .string y, .string m, .string q, .bool a, .bool t, .slice ad l.length cp] 26 (0, 0)) := by rw [hW]; exact heap_block ((Kp.alloc _ _).trans (Kp.alloc _ _)) (heap_at _ _ _ rfl)
 have cP : Cel W0 (w.heap.size + 1) 31 (.slice none 0 0) := by rw [hW]; exact heap_block (Kp.alloc _ _) (heap_at _ _ _ (by simp))
 have cQ : Cel W0 (w.heap.size + 1 + 1) 32 (.int .i64 0) := by rw [hW]; exact heap_at _ _ _ (by simp)
 have hz : W0.heap.size = w.heap.size + 1 + 1 + 1 := by rw [hW]; simp
 have GB := Lib.hid (fun w1 (qq : Kp W0 w1) => heap_block qq gB)
 have CP := Lib.hid cP
 have CQ := Lib.hid cQ
 have HZ := Lib.hid hz
 have KW := Lib.hid kw
 have HW := Lib.hid hW
 clear kw gB hW cP cQ hz h T
 go_enter_defers Tryz.func7, Tryz.ntmps7
 go_wp2_with fail
 rw [← HW.out]
 obtain ⟨x0, x1, x2, x3, x4, x5, x6, x7⟩ := row8 (GB.out _ (Kp.refl _))
 go_wp2_with fail
 refine (CS.out _ KW.out).mono ?_
 rintro e w1 ⟨rfl, kk⟩
 have K1 := Lib.hid kk
 have CP1 := Lib.hid (CP.out.kp kk)
 have CQ1 := Lib.hid (CQ.out.kp kk)
 have z1 := kk.size
 have HZ1 := Lib.hid (show w.heap.size + 1 + 1 + 1 ≤ w1.heap.size by have := HZ.out; omega)
 clear kk x0 x1 x2 x3 x4 x5 x6 x7 z1
 obtain ⟨x0, x1, x2, x3, x4, x5, x6, x7⟩ := row8 (GB.out _ K1.out)
 go_wp2_with fail
 refine (CL.out _ (KW.out.trans K1.out)).mono ?_
 rintro e w2 ⟨kk, ⟨hn, v6, m6, rfl, hm, ov, own⟩ | ⟨hn, rfl⟩⟩
 ·exact absurd hn HD.out
 ·have K2 := Lib.hid (K1.out.trans kk)
  have CP2 := Lib.hid (CP1.out.kp kk)
  have CQ2 := Lib.hid (CQ1.out.kp kk)
  clear kk hn x0 x1 x2 x3 x4 x5 x6 x7
  go_wp2
  refine leaves_cons (f := 19) (args := #[.pointer (some ⟨w.heap.size + 1, 0, none⟩), .pointer (some ⟨w.heap.size + 1 + 1, 0, none⟩)]) (by simp) (by simp [go_sem]) ?_
  refine (show CallsD Tryz.prog 19 _ (.panicking [{ v := .iface 49 (.agg #[.int .i64 er]), recovered := false }]) w2 _ from catch_pan _ _ er w2 _ _ CP2.out CQ2.out (by omega)).mono ?_
  rintro e u' w9 ⟨rfl, rfl, c1, c2, kx⟩
  have K9 := Lib.hid (kx.to (KW.out.trans K2.out) (fun b hb => by rcases hb with rfl | rfl <;> omega))
  have p1 := c1.cell
  have p2 := c2.cell
  clear c1 c2 kx
  simp [Leaves, settle, results, Tryz.results7, go_sem, p1, p2]
  exact ⟨Fams.nil _ _, K9.out⟩
set_option maxHeartbeats 16000000 in
set_option maxRecDepth 100000 in
theorem dnOf_ok (n : ND) (v : Value) (w : World) (h : NodesAt w v n.l) (T : Tabs8 w) (hs : saneN saneP n = true) (hd : dnE n = 0) :
  Calls Tryz.prog 7 #[ndV n v] w fun e w' => ∃ v' : Value, e = .returned (.tuple #[v', .int .i64 0]) ∧ Fams w' w.heap.size v' (dnS n) ∧ Kp w w' := by
 have hmf : ∀ (fn : Fn) (first cap : Array Value) (w : World), (Instr.makeFunc fn first cap).run Tryz.prog w = .ok (.func fn first cap) w := fun _ _ _ _ => rfl
 have CS := Lib.hid (fun w1 (qq : Kp w w1) => tSaneG_any n v w1 (h.kp qq) (T.kp qq).2.1)
 have CL := Lib.hid (fun w1 (qq : Kp w w1) => leaves_any w T h n.k n.p n.a n.t w1 qq (by rw [← eta_nd]; exact sane_rightD hs) (by have := sane_cntD hs; have := cntN_mk n; omega))
 rw [← eta_nd n] at CL
 rw [hs] at CS
 obtain ⟨er, her⟩ : ∃ x, dnE n = x := ⟨_, rfl⟩
 obtain ⟨F, hF⟩ : ∃ x, dnS n = x := ⟨_, rfl⟩
 rw [her, hF] at CL
 rw [her] at hd
 rw [hF]
 clear hs her hF
 have HD := Lib.hid hd
 clear hd
 obtain ⟨ad, cp, rfl⟩ := h.slice
 obtain ⟨k, pk, y, m, q, a, t, l, rfl⟩ := nd_dest n
 unfold ndV at *
 simp only [ND.k, ND.p, ND.a, ND.t, ND.l] at *
 obtain ⟨W0, hW⟩ : ∃ x, x = ((w.alloc (.cells #[.int .i64 k, .int .i64 pk, .string y, .string m, .string q, .bool a, .bool t, .slice ad l.length cp] 26)).alloc (.cells #[.slice none 0 0] 31)).alloc (.cells #[.int .i64 0] 32) := ⟨_, rfl⟩
 have kw : Kp w W0 := by rw [hW]; exact ((Kp.alloc _ _).trans (Kp.alloc _ _)).trans (Kp.alloc _ _)
 have gB : W0.heap[w.heap.size]? = some (.cells #[.int .i64 k, .int .i64 pk, .string y, .string m, .string q, .bool a, .bool t, .slice ad l.length cp] 26 (0, 0)) := by rw [hW]; exact heap_block ((Kp.alloc _ _).trans (Kp.alloc _ _)) (heap_at _ _ _ rfl)
 have cP : Cel W0 (w.heap.size + 1) 31 (.slice none 0 0) := by rw [hW]; exact heap_block (Kp.alloc _ _) (heap_at _ _ _ (by simp))
 have cQ : Cel W0 (w.heap.size + 1 + 1) 32 (.int .i64 0) := by rw [hW]; exact heap_at _ _ _ (by simp)
 have hz : W0.heap.size = w.heap.size + 1 + 1 + 1 := by rw [hW]; simp
 have GB := Lib.hid (fun w1 (qq : Kp W0 w1) => heap_block qq gB)
 have CP := Lib.hid cP
 have CQ := Lib.hid cQ
 have HZ := Lib.hid hz
 have KW := Lib.hid kw
 have HW := Lib.hid hW
 clear kw gB hW cP cQ hz h T
 go_enter_defers Tryz.func7, Tryz.ntmps7
 go_wp2_with fail
 rw [← HW.out]
 obtain ⟨x0, x1, x2, x3, x4, x5, x6, x7⟩ := row8 (GB.out _ (Kp.refl _))
 go_wp2_with fail
 refine (CS.out _ KW.out).mono ?_
 rintro e w1 ⟨rfl, kk⟩
 have K1 := Lib.hid kk
 have CP1 := Lib.hid (CP.out.kp kk)
 have CQ1 := Lib.hid (CQ.out.kp kk)
 have z1 := kk.size
 have HZ1 := Lib.hid (show w.heap.size + 1 + 1 + 1 ≤ w1.heap.size by have := HZ.out; omega)
 clear kk x0 x1 x2 x3 x4 x5 x6 x7 z1
 obtain ⟨x0, x1, x2, x3, x4, x5, x6, x7⟩ := row8 (GB.out _ K1.out)
 go_wp2_with fail
 refine (CL.out _ (KW.out.trans K1.out)).mono ?_
 rintro e w2 ⟨kk, ⟨hn, v6, m6, rfl, hm, ov, own⟩ | ⟨hn, rfl⟩⟩
 ·have K2 := Lib.hid (K1.out.trans kk)
  have CP2 := Lib.hid (CP1.out.kp kk)
  have CQ2 := Lib.hid (CQ1.out.kp kk)
  have OW := Lib.hid own
  have OV := Lib.hid ov
  have HM := Lib.hid hm
  obtain ⟨ad6, cp6, rfl⟩ := own_slice4 own
  have p1 := CP2.out.cell
  have p2 := CP2.out.frozen
  have p3 := CP2.out.lt
  have q1 := CQ2.out.cell
  have q2 := CQ2.out.frozen
  have q3 := CQ2.out.lt
  have ne1 : ¬ w.heap.size + 1 = w.heap.size + 1 + 1 := by omega
  have ne2 : ¬ w.heap.size + 1 + 1 = w.heap.size + 1 := by omega
  clear kk hn own ov hm x0 x1 x2 x3 x4 x5 x6 x7
  obtain ⟨W3, hW3⟩ : ∃ x, x = (w2.setCell ⟨w.heap.size + 1, 0, none⟩ (.slice ad6 m6.length cp6)).setCell ⟨w.heap.size + 1 + 1, 0, none⟩ (.int .i64 0) := ⟨_, rfl⟩
  have c1 : Cel W3 (w.heap.size + 1) 31 (.slice ad6 m6.length cp6) := by rw [hW3]; exact (CP2.out.set _).other ne1 _
  have c2 : Cel W3 (w.heap.size + 1 + 1) 32 (.int .i64 0) := by rw [hW3]; exact (CQ2.out.other ne2 _).set _
  have lt1 : w.heap.size + 1 < w1.heap.size := by have := HZ1.out; omega
  have lt2 : w.heap.size + 1 + 1 < w1.heap.size := by have := HZ1.out; omega
  have o3 : W3.ownsRow w1.heap.size 43 4 (.slice ad6 m6.length cp6) m6.length (cellsV m6) := by rw [hW3]; exact own_setCell (own_setCell OW.out lt1 _ _) lt2 _ _
  have v3 : OwnV W3 w1.heap.size m6 := by rw [hW3]; exact fun p hp => ⟨own_setCell (own_setCell (OV.out p hp).1 lt1 _ _) lt2 _ _, own_setCell (own_setCell (OV.out p hp).2 lt1 _ _) lt2 _ _⟩
  have l3 : Fams W3 w.heap.size (.slice ad6 m6.length cp6) F := ⟨m6, HM.out, v3.mono (Below.size (KW.out.trans K1.out)), own_mono o3 (Below.size (KW.out.trans K1.out))⟩
  have k3 : Kp w W3 := by rw [hW3]; exact kp_setCell (kp_setCell (KW.out.trans K2.out) (by omega) _ _) (by omega) _ _
  have L3 := Lib.hid l3
  have K3 := Lib.hid k3
  have C1 := Lib.hid c1
  have C2 := Lib.hid c2
  have HW3 := Lib.hid hW3
  clear hW3 c1 c2 o3 v3 l3 k3 lt1 lt2
  go_wp2
  rw [← HW3.out]
  refine leaves_cons (f := 19) (args := #[.pointer (some ⟨w.heap.size + 1, 0, none⟩), .pointer (some ⟨w.heap.size + 1 + 1, 0, none⟩)]) (by simp) (by simp [go_sem]) ?_
  refine (catch_idle _ _ W3).mono ?_
  rintro e u' w9 ⟨rfl, rfl, kk⟩
  have p1 := (C1.out.kp kk).cell
  have p2 := (C2.out.kp kk).cell
  have L9 := Lib.hid (L3.out.kp kk)
  have K9 := Lib.hid (K3.out.trans kk)
  clear kk
  simp [Leaves, settle, results, Tryz.results7, go_sem, p1, p2]
  exact ⟨L9.out, K9.out⟩
 ·exact absurd HD.out hn
theorem dnOf_own (n : ND) (v : Value) (w : World) (h : NodesAt w v n.l) (T : Tabs8 w) :
  Calls Tryz.prog 7 #[ndV n v] w fun e w' => ∃ v' : Value, e = .returned (.tuple #[v', .int .i64 (ofE n)]) ∧ Fams w' w.heap.size v' (ofS n) ∧ Kp w w' := by
 unfold ofE ofS
 rcases Bool.eq_false_or_eq_true (saneN saneP n) with hs | hs
 ·rw [if_pos hs]
  by_cases hd : dnE n = 0
  ·rw [if_pos ⟨hs, hd⟩, hd]
   exact dnOf_ok n v w h T hs hd
  ·rw [if_neg (fun h => hd h.2)]
   exact dnOf_wide n v w h T hs hd
 ·rw [hs, if_neg (by decide), if_neg (fun h => by simp at h)]
  exact dnOf_no n v w h T hs
theorem dnOf_any (n : ND) (v : Value) (w : World) (h : NodesAt w v n.l) (T : Tabs8 w) :
  Calls Tryz.prog 7 #[ndV n v] w fun e w' => ∃ v' : Value, e = .returned (.tuple #[v', .int .i64 (ofE n)]) ∧ LeavesAt w' v' (ofS n) ∧ Kp w w' := by
 refine (dnOf_own n v w h T).mono ?_
 rintro e w' ⟨v', rfl, hf, kk⟩
 exact ⟨v', rfl, hf.leaves, kk⟩
def sizeL (l : List LF) : Nat := (l.map fun f => f.a.length + f.b.length).sum
theorem sizeL_take {l : List LF} {k : Nat} (h : k < l.length) : sizeL (l.take (k + 1)) = sizeL (l.take k) + ((lat l k).a.length + (lat l k).b.length) := by
 rw [take_lat l k h]
 unfold sizeL
 simp
theorem sizeL_le {l : List LF} (h : LsOk l) (k : Nat) : sizeL (l.take k) ≤ 2000 * l.length := by
 have g : ∀ m : List LF, (∀ f ∈ m, f.a.length ≤ 1000 ∧ f.b.length ≤ 1000) → sizeL m ≤ 2000 * m.length := by
  intro m
  induction m with
  | nil => intro _; simp [sizeL]
  | cons x m ih =>
   intro h
   have a := ih (fun f hf => h f (by simp [hf]))
   have b := h x (by simp)
   unfold sizeL at a ⊢
   simp only [List.map_cons, List.sum_cons, List.length_cons]
   omega
 have a := g (l.take k) (fun f hf => ⟨(h f (List.mem_of_mem_take hf)).2.2.1, (h f (List.mem_of_mem_take hf)).2.2.2⟩)
 have b := List.length_take_le k l
 have c : (l.take k).length ≤ l.length := by rw [List.length_take]; omega
 omega
theorem shortL_at : ∀ {l : List ND} {i : Nat}, shortL l = true → i < l.length → shortN (nth l i) = true
 | x :: l, 0, h, _ => by simp only [shortL, Bool.and_eq_true] at h; exact h.1
 | x :: l, i + 1, h, hi => by
  simp only [shortL, Bool.and_eq_true] at h
  show shortN (nth l i) = true
  exact shortL_at (l := l) h.2 (by simpa using hi)
theorem sx_str (s : ByteArray) (k : Nat) (h : k < s.size) (wx : World) : (Instr.index 9 (.string s) (.int .i64 (k : Int))).run Tryz.prog wx = .ok (.int .u8 ((s[k]'h).toNat : Int)) wx := by
 rw [run_index_string _ _ _ _ _ Tryz.underlying9]
 have e : (k : Int).toNat = k := by omega
 rw [dif_pos ⟨by omega, by omega⟩]
 simp only [e]
set_option maxHeartbeats 16000000 in
set_option maxRecDepth 100000 in
theorem dn_size (v : Value) (l : List LF) (w : World) (hv : LeavesAt w v l) (hl : LsOk l) (hn : l.length ≤ 1000) :
  Calls Tryz.prog 10 #[v] w fun e w' => e = .returned (.int .i64 (sizeL l)) ∧ Kp w w' := by
 obtain ⟨ad, cp, rfl⟩ := hv.slice
 have HV := Lib.hid hv
 have HL := Lib.hid hl
 have ST := Lib.hid (fun k (h : k < l.length) => sizeL_take h)
 have SB := Lib.hid (fun k => sizeL_le hl k)
 have S0 := Lib.hid (show sizeL (l.take 0) = 0 by rw [List.take_zero]; rfl)
 have SL := Lib.hid (show sizeL (l.take l.length) = sizeL l by rw [List.take_length])
 obtain ⟨r, hr⟩ : ∃ r, sizeL l = r := ⟨_, rfl⟩
 rw [hr]
 rw [hr] at SL
 have KW := Lib.hid (Kp.refl w)
 clear hv hl hr
 go_enter Tryz.func10, Tryz.ntmps10
 go_wp2_with fail
 go_loopw [3, 8] (fun s i ws => ∃ k sz : Nat, k ≤ l.length ∧ i = .int .i64 k ∧ s = .int .i64 sz ∧ Hid (sizeL (l.take k) = sz) ∧ Hid (Kp w ws)) (fun _ i _ => l.length - (intOf i).toNat)
 case atStart => exact ⟨0, 0, Nat.zero_le _, rfl, rfl, S0, KW⟩
 case round =>
  obtain ⟨k, sz, hk, rfl, rfl, SZ, J⟩ := hrel
  by_cases hlt : k < l.length
  ·rcases HV.out.kp J.out with ⟨_, _, _, e⟩ | ⟨b0, off, cap, ev, hc, hmx, hx⟩
   ·rw [e] at hlt; simp at hlt
   cases ev
   obtain ⟨va, vb, d0, d1, d2, d3, ra, rb⟩ := hx k hlt
   have LOK := HL.out _ (lat_mem hlt)
   obtain ⟨f, hf⟩ : ∃ f, lat l k = f := ⟨_, rfl⟩
   rw [hf] at d0 d1 ra rb
   (try rw [hf] at LOK)
   obtain ⟨sp, u, a, b⟩ := f
   simp only at d0 d1 ra rb
   (try simp only at LOK)
   obtain ⟨aa, ca, rfl⟩ := ra.slice
   obtain ⟨ab, cb, rfl⟩ := rb.slice
   have HF := Lib.hid hf
   have z1 : (k : Int) < (l.length : Int) := by omega
   have z2 : (0 : Int) ≤ (k : Int) := by omega
   clear hx hc hmx hf
   have sb := SB.out k
   rw [SZ.out] at sb
   have st := ST.out k hlt
   rw [HF.out, SZ.out] at st
   have ST2 := Lib.hid st
   have la := LOK.2.2.1
   have lb := LOK.2.2.2
   have sz1 : (sz : Int) ≤ 2000000 := by omega
   have sz2 : (0 : Int) ≤ (sz : Int) := by omega
   have la1 : (a.length : Int) ≤ 1000 := by omega
   have lb1 : (b.length : Int) ≤ 1000 := by omega
   have zs := World.block_lt_of_cell? wr _ d0
   have zs' : ¬ b0 = wr.heap.size := by simp at zs; omega
   clear ra rb sb st la lb
   go_wp2_with fail
   go_wp2
   go_roundw
   case rel => exact ⟨k + 1, sz + (a.length + b.length), by omega, by go_num, by go_num, Lib.hid (by simpa using ST2.out), Lib.hid (J.out.trans (by first | exact Kp.alloc _ _ | exact Kp.refl _))⟩
   case measure => simp [intOf]; omega
  ·obtain rfl : k = l.length := by omega
   have e := SZ.out
   rw [SL.out] at e
   subst e
   go_wp2
   go_ret
   exact ⟨rfl, J.out⟩
set_option maxHeartbeats 16000000 in
set_option maxRecDepth 100000 in
theorem plain_step (w0 : World) (v : Value) (l : List ND) (hh : ∃ ad cp, v = .slice ad l.length cp ∧ (0 < l.length → ∃ b off, ad = some ⟨b, off, none⟩ ∧ ∀ i, i < l.length → ∃ vi, RowN w0 b (off + i * 8) (nth l i) vi ∧ NodesAt w0 vi (nth l i).l ∧ (fun v l => ∀ (k : Int) (p : PT) (a t : Bool) (w : World), Kp w0 w → shortN (.mk k p a t l) = true → l.length ≤ 9223372036854775807 → Calls Tryz.prog 15 #[ndV (.mk k p a t l) v] w fun e w' => (∃ b : Value, (b = .bool true ∨ b = .bool false) ∧ e = .returned b) ∧ Kp w w') vi (nth l i).l)) :
  ∀ (k : Int) (p : PT) (a t : Bool) (w : World), Kp w0 w → shortN (.mk k p a t l) = true → l.length ≤ 9223372036854775807 → Calls Tryz.prog 15 #[ndV (.mk k p a t l) v] w fun e w' => (∃ b : Value, (b = .bool true ∨ b = .bool false) ∧ e = .returned b) ∧ Kp w w' := by
 obtain ⟨ad, cp, rfl, hrow⟩ := hh
 intro k p a t w k0 hs hm
 obtain ⟨pk, y, m, q⟩ := p
 simp only [shortN, Bool.and_eq_true, decide_eq_true_eq] at hs
 have hy := hs.1.1
 have SA := Lib.hid (fun i (hi : i < l.length) => shortL_at hs.2 hi)
 clear hs
 have HR := Lib.hid hrow
 have K0 := Lib.hid k0
 unfold ndV
 simp only [ND.k, ND.p, ND.a, ND.t, ND.l]
 clear hrow k0
 obtain ⟨W0, hW⟩ : ∃ x, x = w.alloc (.cells #[.int .i64 k, .int .i64 pk, .string y, .string m, .string q, .bool a, .bool t, .slice ad l.length cp] 26) := ⟨_, rfl⟩
 have kw : Kp w W0 := by rw [hW]; exact Kp.alloc _ _
 have gB : W0.heap[w.heap.size]? = some (.cells #[.int .i64 k, .int .i64 pk, .string y, .string m, .string q, .bool a, .bool t, .slice ad l.length cp] 26 (0, 0)) := by rw [hW]; exact heap_at _ _ _ rfl
 have GB := Lib.hid (fun w1 (q : Kp W0 w1) => heap_block q gB)
 have KW := Lib.hid kw
 have HW := Lib.hid hW
 have KR := Lib.hid (Kp.refl W0)
 clear kw gB hW
 go_enter Tryz.func15, Tryz.ntmps15
 go_wp2_with fail
 rw [← HW.out]
 go_loopw [3, 4] (fun c i ws => ∃ j n : Nat, j ≤ y.size ∧ n ≤ j ∧ i = .int .i64 j ∧ c = .int .i64 n ∧ Hid (Kp W0 ws)) (fun _ i _ => y.size - (intOf i).toNat)
 case atStart => exact ⟨0, 0, Nat.zero_le _, Nat.zero_le _, rfl, rfl, KR⟩
 case round =>
  obtain ⟨j, n, hj, hn, rfl, rfl, KJ⟩ := hrel
  obtain ⟨x0, x1, x2, x3, x4, x5, x6, x7⟩ := row8 (GB.out _ KJ.out)
  by_cases hlt : j < y.size
  ·have IX := sx_str y j hlt
   obtain ⟨u, hu⟩ : ∃ u : Nat, (y[j]'hlt).toNat = u := ⟨_, rfl⟩
   rw [hu] at IX
   have HLT := Lib.hid hlt
   clear hu
   obtain ⟨b, hb⟩ : ∃ b, ((u : Int) == 88) = b := ⟨_, rfl⟩
   cases b with
   | true =>
    go_wp2
    go_roundw
    case rel => exact ⟨j + 1, n + 1, HLT.out, by omega, by go_num, by go_num, KJ⟩
    case measure => have := HLT.out; simp [intOf]; omega
   | false =>
    go_wp2
    go_roundw
    case rel => exact ⟨j + 1, n, HLT.out, by omega, by go_num, rfl, KJ⟩
    case measure => have := HLT.out; simp [intOf]; omega
  ·obtain rfl : j = y.size := by omega
   go_wp2
   clear x0 x1 x2 x3 x4 x5 x6 x7
   go_loopw [5] (fun i ws => ∃ j : Nat, j ≤ l.length ∧ i = .int .i64 j ∧ Hid (Kp W0 ws)) (fun i _ => l.length - (intOf i).toNat)
   case atStart => exact ⟨0, Nat.zero_le _, rfl, KJ⟩
   case round =>
    obtain ⟨j, hj, rfl, KJ⟩ := hrel
    obtain ⟨x0, x1, x2, x3, x4, x5, x6, x7⟩ := row8 (GB.out _ KJ.out)
    by_cases hlt : j < l.length
    ·obtain ⟨bk, off, rfl, hall⟩ := HR.out (by omega)
     obtain ⟨vi, hrow, hsub, ih⟩ := hall j hlt
     have kw0 : Kp w0 wr := K0.out.trans (KW.out.trans KJ.out)
     obtain ⟨e0, e1, e2, e3, e4, e5, e6, e7⟩ := hrow.kp kw0
     obtain ⟨x, hx⟩ : ∃ x, nth l j = x := ⟨_, rfl⟩
     rw [hx] at e0 e1 e2 e3 e4 e5 e6 hsub ih
     have sx := SA.out j hlt
     rw [hx] at sx
     have IX := fun w1 (k1 : Kp w0 w1) => ih x.k x.p x.a x.t w1 k1 (by rw [← eta_nd]; exact sx) hsub.len
     rw [← eta_nd x] at IX
     clear hall hrow ih hx sx
     obtain ⟨k1, ⟨pk1, y1, m1, q1⟩, a1, t1, l1⟩ := x
     simp only [ND.k, ND.p, ND.a, ND.t, ND.l] at e0 e1 e2 e3 e4 e5 e6 hsub
     obtain ⟨ad1, cp1, rfl⟩ := hsub.slice
     (try unfold ndV at IX)
     simp only [ND.k, ND.p, ND.a, ND.t, ND.l] at IX
     have IXH := Lib.hid (IX _ kw0)
     have z1 : (j : Int) < (l.length : Int) := by omega
     have z3 : (0 : Int) ≤ (j : Int) := by omega
     have HLT := Lib.hid hlt
     clear hsub IX kw0
     go_wp2_with fail
     refine IXH.out.mono ?_
     rintro e w6 ⟨⟨b, hb, rfl⟩, k6⟩
     have K6 := Lib.hid (KJ.out.trans k6)
     clear k6 e0 e1 e2 e3 e4 e5 e6 e7 x0 x1 x2 x3 x4 x5 x6 x7
     rcases hb with rfl | rfl
     ·go_wp2
      go_roundw
      case rel => exact ⟨j + 1, HLT.out, by go_num, K6⟩
      case measure => have := HLT.out; simp [intOf]; omega
     ·go_wp2
      go_ret
      exact ⟨⟨_, .inr rfl, rfl⟩, KW.out.trans K6.out⟩
    ·obtain rfl : j = l.length := by omega
     obtain ⟨b, hb⟩ : ∃ b, decide ((n : Int) ≤ 2) = b := ⟨_, rfl⟩
     go_wp2
     go_ret
     exact ⟨⟨.bool b, by cases b <;> simp, rfl⟩, KW.out.trans KJ.out⟩
theorem plain_any (w0 : World) : ∀ {v : Value} {l : List ND}, NodesAt w0 v l → ∀ (k : Int) (p : PT) (a t : Bool) (w : World), Kp w0 w → shortN (.mk k p a t l) = true → l.length ≤ 9223372036854775807 → Calls Tryz.prog 15 #[ndV (.mk k p a t l) v] w fun e w' => (∃ b : Value, (b = .bool true ∨ b = .bool false) ∧ e = .returned b) ∧ Kp w w' := by
 refine @NodesAt.ind w0 (fun v l => ∀ (k : Int) (p : PT) (a t : Bool) (w : World), Kp w0 w → shortN (.mk k p a t l) = true → l.length ≤ 9223372036854775807 → Calls Tryz.prog 15 #[ndV (.mk k p a t l) v] w fun e w' => (∃ b : Value, (b = .bool true ∨ b = .bool false) ∧ e = .returned b) ∧ Kp w w') ?_
 intro v l hh
 exact plain_step w0 v l hh
set_option maxHeartbeats 16000000 in
set_option maxRecDepth 100000 in
theorem small_any (n : ND) (v : Value) (w : World) (h : NodesAt w v n.l) :
  Calls Tryz.prog 5 #[ndV n v] w fun e w' => (∃ b : Value, (b = .bool true ∨ b = .bool false) ∧ e = .returned b) ∧ Kp w w' := by
 have CF := Lib.hid (fun w1 (q : Kp w w1) => rfewG_any n v w1 (h.kp q))
 have CC := Lib.hid (fun w1 (q : Kp w w1) => rCountG_any w h n.k n.p n.a n.t w1 q h.len)
 have CP := Lib.hid (fun w1 (q : Kp w w1) (hs : shortN n = true) => plain_any w h n.k n.p n.a n.t w1 q (by rw [← eta_nd]; exact hs) h.len)
 rw [← eta_nd n] at CC CP
 have HS := Lib.hid (show fewG n = true → shortN n = true from fun h => by unfold fewG at h; rw [Bool.and_eq_true] at h; exact h.2)
 generalize fewG n = fb at *
 obtain ⟨c, hc⟩ : ∃ c, wrap64 (cntN n : Int) = c := ⟨_, rfl⟩
 rw [hc] at CC
 obtain ⟨ad, cp, rfl⟩ := h.slice
 have CPH := Lib.hid (fun w1 q (hf : fb = true) => CP.out w1 q (HS.out hf))
 obtain ⟨k, pk, y, m, q, a, t, l, rfl⟩ := nd_dest n
 unfold ndV at *
 simp only [ND.k, ND.p, ND.a, ND.t, ND.l] at *
 clear h CP HS hc
 obtain ⟨W0, hW⟩ : ∃ x, x = w.alloc (.cells #[.int .i64 k, .int .i64 pk, .string y, .string m, .string q, .bool a, .bool t, .slice ad l.length cp] 26) := ⟨_, rfl⟩
 have kw : Kp w W0 := by rw [hW]; exact Kp.alloc _ _
 have gB : W0.heap[w.heap.size]? = some (.cells #[.int .i64 k, .int .i64 pk, .string y, .string m, .string q, .bool a, .bool t, .slice ad l.length cp] 26 (0, 0)) := by rw [hW]; exact heap_at _ _ _ rfl
 have GB := Lib.hid (fun w1 (q : Kp W0 w1) => heap_block q gB)
 have KW := Lib.hid kw
 have HW := Lib.hid hW
 clear kw gB hW
 go_enter Tryz.func5, Tryz.ntmps5
 go_wp2_with fail
 rw [← HW.out]
 obtain ⟨x0, x1, x2, x3, x4, x5, x6, x7⟩ := row8 (GB.out _ (Kp.refl _))
 go_wp2_with fail
 refine (CF.out _ KW.out).mono ?_
 rintro e w1 ⟨rfl, kk⟩
 have K1 := Lib.hid kk
 clear kk x0 x1 x2 x3 x4 x5 x6 x7
 cases fb with
 | false =>
  go_wp2
  go_ret
  exact ⟨⟨_, .inr rfl, rfl⟩, KW.out.trans K1.out⟩
 | true =>
  have CP := Lib.hid (fun w1 q => CPH.out w1 q rfl)
  clear CPH
  obtain ⟨x0, x1, x2, x3, x4, x5, x6, x7⟩ := row8 (GB.out _ K1.out)
  go_wp2_with fail
  refine (CC.out _ (KW.out.trans K1.out)).mono ?_
  rintro e w2 ⟨rfl, kk⟩
  have K2 := Lib.hid (K1.out.trans kk)
  clear kk x0 x1 x2 x3 x4 x5 x6 x7
  obtain ⟨b, hb⟩ : ∃ b, decide (c ≤ 30) = b := ⟨_, rfl⟩
  cases b with
  | false =>
   go_wp2
   go_ret
   exact ⟨⟨_, .inr rfl, rfl⟩, KW.out.trans K2.out⟩
  | true =>
   obtain ⟨x0, x1, x2, x3, x4, x5, x6, x7⟩ := row8 (GB.out _ K2.out)
   go_wp2_with fail
   refine (CP.out _ (KW.out.trans K2.out)).mono ?_
   rintro e w3 ⟨⟨b, hb, rfl⟩, kk⟩
   have K3 := Lib.hid (K2.out.trans kk)
   clear kk x0 x1 x2 x3 x4 x5 x6 x7
   rcases hb with rfl | rfl
   ·go_wp2
    go_ret
    exact ⟨⟨_, .inl rfl, rfl⟩, KW.out.trans K3.out⟩
   ·go_wp2
    go_ret
    exact ⟨⟨_, .inr rfl, rfl⟩, KW.out.trans K3.out⟩
open Go.RowKit Go.Shelf
def e15 : PT := ⟨0, ⟨#[]⟩, ⟨#[]⟩, ⟨#[]⟩⟩
def y15 : PT := ⟨3, ⟨#[49, 57, 56, 52]⟩, ⟨#[]⟩, ⟨#[]⟩⟩
def n15 : ND := .mk 0 y15 false false []
def o15 : ND := .mk 3 e15 false false []
def s15 : ND := .mk 1 e15 false false [n15, o15]
theorem sane_n15 : saneN saneP n15 = true := by decide +kernel
theorem sane_s15 : saneN saneP s15 = true := by decide +kernel
theorem setE_y15 : setE y15 = 0 := by decide +kernel
theorem setS_y15 : setS y15 = [(1984, 1984)] := by decide +kernel
theorem unE_n15 : unE n15 = 0 := by unfold unE; exact setE_y15
theorem unS_n15 : unS n15 = [(1984, 1984)] := by unfold unS; exact setS_y15
theorem siE_n15 : siE n15 = 0 := by unfold siE; rw [if_neg (by decide)]; exact unE_n15
theorem sta_n15 : staS n15 = [(724641, 724641)] := by
 unfold staS siR
 rw [if_neg (by decide), if_neg (by decide), unS_n15]
 decide +kernel
theorem dnE_n15 : dnE n15 = 0 := by
 show dnE (.mk 0 y15 false false []) = 0
 simp only [dnE]
 rw [if_neg (by decide), if_neg (by decide)]
 exact unE_n15
theorem dnS_n15 : dnS n15 = [⟨false, 3, [(1984, 1984)], []⟩] := by
 show dnS (.mk 0 y15 false false []) = _
 simp only [dnS]
 rw [if_neg (by decide), if_neg (by decide), show unS (.mk 0 y15 false false []) = _ from unS_n15]
 rfl
theorem dnE_s15 : dnE s15 = 0 := by
 show dnE (.mk 1 e15 false false [n15, o15]) = 0
 simp only [dnE]
 rw [if_pos trivial, show nth [n15, o15] 0 = n15 from rfl, if_pos siE_n15]
 rfl
theorem dnS_s15 : dnS s15 = [⟨true, 0, [(724641, 724641)], [(3652424, 3652424)]⟩] := by
 show dnS (.mk 1 e15 false false [n15, o15]) = _
 simp only [dnS]
 rw [if_pos trivial, show nth [n15, o15] 0 = n15 from rfl, show nth [n15, o15] 1 = o15 from rfl, sta_n15]
 rfl
theorem of_n15 : ofE n15 = 0 ∧ ofS n15 = [⟨false, 3, [(1984, 1984)], []⟩] := by
 unfold ofE ofS
 rw [if_pos sane_n15, if_pos ⟨sane_n15, dnE_n15⟩]
 exact ⟨dnE_n15, dnS_n15⟩
theorem of_s15 : ofE s15 = 0 ∧ ofS s15 = [⟨true, 0, [(724641, 724641)], [(3652424, 3652424)]⟩] := by
 unfold ofE ofS
 rw [if_pos sane_s15, if_pos ⟨sane_s15, dnE_s15⟩]
 exact ⟨dnE_s15, dnS_s15⟩
theorem dw_i64 {a b : Int} (h1 : -9223372036854775808 ≤ a) (h2 : a ≤ b) (h3 : b ≤ 9223372036854775807) : I64R [(a, b)] := by
 intro r hr
 rw [List.mem_singleton.1 hr]
 refine ⟨?_, ?_, ?_, ?_⟩ <;> simp only <;> omega
theorem dw_nil : I64R [] := by
 intro r hr
 cases hr
theorem ok_n15 : LsOk [⟨false, 3, [(1984, 1984)], []⟩] := by
 intro f hf
 rw [List.mem_singleton.1 hf]
 exact And.intro (dw_i64 (by decide) (by decide) (by decide)) (And.intro dw_nil (And.intro (by decide) (by decide)))
theorem ok_s15 : LsOk [⟨true, 0, [(724641, 724641)], [(3652424, 3652424)]⟩] := by
 intro f hf
 rw [List.mem_singleton.1 hf]
 exact And.intro (dw_i64 (by decide) (by decide) (by decide)) (And.intro (dw_i64 (by decide) (by decide) (by decide)) (And.intro (by decide) (by decide)))
theorem has_n15 : hasL [⟨false, 3, [(1984, 1984)], []⟩] 724641 725006 = true := by
 unfold hasL
 rw [List.any_cons, List.any_nil, Bool.or_false]
 refine (hasF_un (f := ⟨false, 3, [(1984, 1984)], []⟩) (by decide +kernel) rfl 724641 725006).2 ⟨1984, ⟨(1984, 1984), by simp, by decide, by decide, by decide, by decide⟩, by decide +kernel, by decide +kernel⟩
theorem dw_leaf {w : World} {v : Value} {f : LF} (h : LeavesAt w v [f]) : ∃ b off cap va vb, v = .slice (some ⟨b, off, none⟩) 1 cap ∧ w.cell? ⟨b, off, none⟩ = some (.bool f.sp) ∧ w.cell? ⟨b, off + 1, none⟩ = some (.int .i64 f.u) ∧ w.cell? ⟨b, off + 2, none⟩ = some va ∧ w.cell? ⟨b, off + 3, none⟩ = some vb ∧ RunsAt w va f.a ∧ RunsAt w vb f.b := by
 rcases h with ⟨_, _, _, e⟩ | ⟨b, off, cap, e, hc, hm, hx⟩
 ·cases e
 ·obtain ⟨va, vb, c0, c1, c2, c3, ra, rb⟩ := hx 0 (by simp)
  rw [Nat.zero_mul, Nat.add_zero] at c0 c1 c2 c3
  exact ⟨b, off, cap, va, vb, e, c0, c1, c2, c3, ra, rb⟩
theorem dw_run {w : World} {v : Value} {r : R} (h : RunsAt w v [r]) : ∃ b off cap, v = .slice (some ⟨b, off, none⟩) 1 cap ∧ w.cell? ⟨b, off, none⟩ = some (.int .i64 r.1) ∧ w.cell? ⟨b, off + 1, none⟩ = some (.int .i64 r.2) := by
 rcases h with ⟨_, _, _, e⟩ | ⟨b, off, cap, e, hc, hm, hx⟩
 ·cases e
 ·obtain ⟨c0, c1⟩ := hx 0 (by simp)
  rw [Nat.zero_mul, Nat.add_zero] at c0 c1
  exact ⟨b, off, cap, e, c0, c1⟩
set_option maxHeartbeats 16000000 in
set_option maxRecDepth 100000 in
theorem awake15 (w : World) (T : Tabs8 w) : Calls Tryz.prog 4 #[] w fun e w' => e = .returned (.bool true) ∧ Kp w w' := by
 have C1 : ∀ w1, Calls Tryz.prog 11 #[.agg #[.int .i64 3, .string ⟨#[49, 57, 56, 52]⟩, .string ⟨#[]⟩, .string ⟨#[]⟩], .bool false, .bool false] w1 fun e w' => e = .returned (.agg #[.int .i64 0, .int .i64 3, .string ⟨#[49, 57, 56, 52]⟩, .string ⟨#[]⟩, .string ⟨#[]⟩, .bool false, .bool false, .slice none 0 0]) ∧ Kp w1 w' := fun w1 => of_node_any y15 false false w1
 have C2 : ∀ w1, Kp w w1 → Calls Tryz.prog 7 #[.agg #[.int .i64 0, .int .i64 3, .string ⟨#[49, 57, 56, 52]⟩, .string ⟨#[]⟩, .string ⟨#[]⟩, .bool false, .bool false, .slice none 0 0]] w1 fun e w' => ∃ v' : Value, e = .returned (.tuple #[v', .int .i64 0]) ∧ LeavesAt w' v' [⟨false, 3, [(1984, 1984)], []⟩] ∧ Kp w1 w' := fun w1 q => by
  have c := dnOf_any n15 (.slice none 0 0) w1 (.none none 0) (T.kp q)
  rw [of_n15.1, of_n15.2] at c
  exact c
 have C3 : ∀ w1, Calls Tryz.prog 12 #[.agg #[.int .i64 0, .int .i64 3, .string ⟨#[49, 57, 56, 52]⟩, .string ⟨#[]⟩, .string ⟨#[]⟩, .bool false, .bool false, .slice none 0 0], .agg #[.int .i64 3, .int .i64 0, .string ⟨#[]⟩, .string ⟨#[]⟩, .string ⟨#[]⟩, .bool false, .bool false, .slice none 0 0]] w1 fun e w' => ∃ ad c, e = .returned (.agg #[.int .i64 1, .int .i64 0, .string ⟨#[]⟩, .string ⟨#[]⟩, .string ⟨#[]⟩, .bool false, .bool false, .slice ad 2 c]) ∧ NodesAt w' (.slice ad 2 c) [n15, o15] ∧ Kp w1 w' := fun w1 => by
  refine (show Calls Tryz.prog 12 #[.agg #[.int .i64 0, .int .i64 3, .string ⟨#[49, 57, 56, 52]⟩, .string ⟨#[]⟩, .string ⟨#[]⟩, .bool false, .bool false, .slice none 0 0], .agg #[.int .i64 3, .int .i64 0, .string ⟨#[]⟩, .string ⟨#[]⟩, .string ⟨#[]⟩, .bool false, .bool false, .slice none 0 0]] w1 _ from between_any n15 o15 (.slice none 0 0) (.slice none 0 0) w1 (.none none 0) (.none none 0)).mono ?_
  rintro e w2 ⟨s, rfl, hs, kk⟩
  obtain ⟨ad, c, rfl⟩ := hs.slice
  exact ⟨ad, c, rfl, hs, kk⟩
 have C4 : ∀ w1 ad c, Kp w w1 → NodesAt w1 (.slice ad 2 c) [n15, o15] → Calls Tryz.prog 7 #[.agg #[.int .i64 1, .int .i64 0, .string ⟨#[]⟩, .string ⟨#[]⟩, .string ⟨#[]⟩, .bool false, .bool false, .slice ad 2 c]] w1 fun e w' => ∃ v' : Value, e = .returned (.tuple #[v', .int .i64 0]) ∧ LeavesAt w' v' [⟨true, 0, [(724641, 724641)], [(3652424, 3652424)]⟩] ∧ Kp w1 w' := fun w1 ad c q h => by
  have c := dnOf_any s15 (.slice ad 2 c) w1 h (T.kp q)
  rw [of_s15.1, of_s15.2] at c
  exact c
 have C5 : ∀ w1 v, Kp w w1 → LeavesAt w1 v [⟨false, 3, [(1984, 1984)], []⟩] → Calls Tryz.prog 9 #[v, .agg #[.int .i64 724641, .int .i64 725006]] w1 fun e w' => e = .returned (.bool true) ∧ Kp w1 w' := fun w1 v q h => by
  have c := denHas_any v _ 724641 725006 w1 h ok_n15 (T.kp q).1 (by decide) (by decide) (by decide) (by decide)
  rw [has_n15] at c
  exact c
 have C6 : ∀ w1 v, LeavesAt w1 v [⟨true, 0, [(724641, 724641)], [(3652424, 3652424)]⟩] → Calls Tryz.prog 10 #[v] w1 fun e w' => e = .returned (.int .i64 2) ∧ Kp w1 w' := fun w1 v h => dn_size v _ w1 h ok_s15 (by decide)
 have H1 := Lib.hid C1
 have H2 := Lib.hid C2
 have H3 := Lib.hid C3
 have H4 := Lib.hid C4
 have H5 := Lib.hid C5
 have H6 := Lib.hid C6
 clear C1 C2 C3 C4 C5 C6 T
 go_enter Tryz.func4, Tryz.ntmps4
 go_wp2_with fail
 refine (H1.out _).mono ?_
 rintro e w1 ⟨rfl, kk⟩
 have K1 := Lib.hid kk
 clear kk
 go_wp2_with fail
 have G1 := heap_at w1 (.cells #[.int .i64 0, .int .i64 3, .string ⟨#[49, 57, 56, 52]⟩, .string ⟨#[]⟩, .string ⟨#[]⟩, .bool false, .bool false, .slice none 0 0] 26) w1.heap.size rfl
 refine (H2.out _ (K1.out.trans (Kp.alloc _ _))).mono ?_
 rintro e w2 ⟨v2, rfl, hl2, kk⟩
 have K2 := Lib.hid (K1.out.trans ((Kp.alloc _ _).trans kk))
 have G2 := Lib.hid (heap_block kk G1)
 have L2 := Lib.hid hl2
 obtain ⟨ad2, cp2, rfl⟩ := hl2.slice
 clear kk G1 hl2
 obtain ⟨x0, x1, x2, x3, x4, x5, x6, x7⟩ := row8 G2.out
 go_wp2_with fail
 refine (H3.out _).mono ?_
 rintro e w3 ⟨ad, c, rfl, hs, kk⟩
 have K3 := Lib.hid (K2.out.trans kk)
 have L3 := Lib.hid (L2.out.kp kk)
 have N3 := Lib.hid hs
 clear kk hs x0 x1 x2 x3 x4 x5 x6 x7
 go_wp2_with fail
 refine (H4.out _ _ _ K3.out N3.out).mono ?_
 rintro e w4 ⟨v4, rfl, hl4, kk⟩
 have K4 := Lib.hid (K3.out.trans kk)
 have L4 := Lib.hid (L3.out.kp kk)
 have M4 := Lib.hid hl4
 obtain ⟨b1, o1, c1, va1, vb1, e1, d0, d1, d2, d3, ra1, rb1⟩ := dw_leaf L4.out
 cases e1
 obtain ⟨b2, o2, c2, va2, vb2, rfl, f0, f1, f2, f3, ra2, rb2⟩ := dw_leaf M4.out
 obtain ⟨b3, o3, c3, rfl, g0, g1⟩ := dw_run ra1
 obtain ⟨b4, o4, c4, rfl, h0, h1⟩ := dw_run ra2
 obtain ⟨b5, o5, c5, rfl, i0, i1⟩ := dw_run rb2
 simp only at d0 d1 f0 f1 g0 g1 h0 h1 i0 i1
 clear kk hl4 ra1 rb1 ra2 rb2
 go_wp2_with fail
 refine (H5.out _ _ K4.out L4.out).mono ?_
 rintro e w5 ⟨rfl, kk⟩
 have K5 := Lib.hid (K4.out.trans kk)
 have M5 := Lib.hid (M4.out.kp kk)
 clear kk d0 d1 d2 d3 f0 f1 f2 f3 g0 g1 h0 h1 i0 i1
 go_wp2_with fail
 refine (H6.out _ _ M5.out).mono ?_
 rintro e w6 ⟨rfl, kk⟩
 have K6 := Lib.hid (K5.out.trans kk)
 clear kk
 go_wp2
 go_ret
 exact ⟨rfl, K6.out⟩
end Go.Proofs.YtajllgjfndfdjaaGreatDoor
