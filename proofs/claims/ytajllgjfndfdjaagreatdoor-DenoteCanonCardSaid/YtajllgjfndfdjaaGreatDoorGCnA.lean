import Derived.Test.YtajllgjfndfdjaaGreatDoorGPrA
import Derived.Test.YtajllgjfndfdjaaGreatDoorGDn
import Derived.Test.YtajllgjfndfdjaaGreatDoorGBa
import Derived.Deep.MidRow
import Derived.Laws.EntriesVeiled
import Derived.Test.YtajllgjfndfdjaaGreatDoorGLeafA
import Derived.LoopTactic
import Derived.Test.YtajllgjfndfdjaaGreatDoorGOrdA
namespace Go.Proofs.YtajllgjfndfdjaaGreatDoor
set_option linter.unusedVariables false
set_option linter.unusedSimpArgs false
def bl (a b : List UInt8) : Bool := Go.Op.bytesLess a b
theorem bl_nil (a : List UInt8) : bl a [] = false := by cases a <;> rfl
theorem bl_nc (b : UInt8) (y : List UInt8) : bl [] (b :: y) = true := rfl
theorem bl_cc (a b : UInt8) (x y : List UInt8) : bl (a :: x) (b :: y) = true ↔ a.toNat < b.toNat ∨ (a = b ∧ bl x y = true) := by
 show (decide (a < b) || (a == b && Go.Op.bytesLess x y)) = true ↔ _
 rw [Bool.or_eq_true, Bool.and_eq_true, decide_eq_true_eq, beq_iff_eq, UInt8.lt_iff_toNat_lt]
 exact Iff.rfl
theorem bl_irr : ∀ a : List UInt8, bl a a = false
 | [] => rfl
 | a :: x => by
  rw [Bool.eq_false_iff, ne_eq, bl_cc]
  rintro (h | ⟨_, h⟩)
  ·omega
  ·rw [bl_irr x] at h; cases h
theorem bl_trans : ∀ {a b c : List UInt8}, bl a b = true → bl b c = true → bl a c = true
 | [], _, [], _, h => by rw [bl_nil] at h; cases h
 | _, [], _, h, _ => by rw [bl_nil] at h; cases h
 | [], _ :: _, c :: z, _, _ => rfl
 | _ :: _, _ :: _, [], _, h => by rw [bl_nil] at h; cases h
 | a :: x, b :: y, c :: z, h, g => by
  rw [bl_cc] at *
  rcases h with h | ⟨rfl, h⟩
  ·rcases g with g | ⟨rfl, g⟩
   ·exact .inl (by omega)
   ·exact .inl h
  ·rcases g with g | ⟨rfl, g⟩
   ·exact .inl g
   ·exact .inr ⟨rfl, bl_trans h g⟩
theorem bl_tri : ∀ {a b : List UInt8}, bl a b = false → bl b a = false → a = b
 | [], [], _, _ => rfl
 | [], _ :: _, h, _ => by rw [bl_nc] at h; cases h
 | _ :: _, [], _, h => by rw [bl_nc] at h; cases h
 | a :: x, b :: y, h, g => by
  rw [Bool.eq_false_iff, ne_eq, bl_cc] at h g
  have e : a = b := by
   have : a.toNat = b.toNat := by
    have h1 : ¬ a.toNat < b.toNat := fun c => h (.inl c)
    have h2 : ¬ b.toNat < a.toNat := fun c => g (.inl c)
    omega
   exact UInt8.toNat_inj.1 this
  subst e
  rw [bl_tri (Bool.eq_false_iff.2 fun c => h (.inr ⟨rfl, c⟩)) (Bool.eq_false_iff.2 fun c => g (.inr ⟨rfl, c⟩))]
def Rise (L : List ND) : Prop := L.Pairwise fun a b => bl (txN a) (txN b) = true
def Sns (L : List ND) : Prop := ∀ x ∈ L, saneN saneP x = true
def putT : List ND → ND → List ND
 | [], n => [n]
 | x :: l, n => if bl (txN n) (txN x) = true then n :: x :: l else if txN n = txN x then x :: l else x :: putT l n
def cnS (L : List ND) : List ND := L.foldl putT []
theorem putT_mem : ∀ {l : List ND} {n : ND}, (∀ x ∈ l, txN n = txN x → n = x) → ∀ y, y ∈ putT l n ↔ y ∈ l ∨ y = n
 | [], n, _, y => by simp [putT]
 | x :: l, n, h, y => by
  unfold putT
  split
  ·simp only [List.mem_cons]; exact ⟨fun h => h.elim .inr .inl, fun h => h.elim .inr .inl⟩
  ·split
   ·rename_i e
    have := h x (by simp) e
    subst this
    simp only [List.mem_cons]
    exact ⟨.inl, fun h => h.elim id fun e => .inl e⟩
   ·simp only [List.mem_cons, putT_mem (l := l) (n := n) (fun x hx => h x (by simp [hx])) y, or_assoc]
theorem putT_rise : ∀ {l : List ND} {n : ND}, (∀ x ∈ l, txN n = txN x → n = x) → Rise l → Rise (putT l n)
 | [], n, _, _ => List.pairwise_singleton _ _
 | x :: l, n, h, g => by
  obtain ⟨g1, g2⟩ := List.pairwise_cons.1 g
  unfold putT
  split
  ·rename_i c
   refine List.pairwise_cons.2 ⟨fun y hy => ?_, g⟩
   rcases List.mem_cons.1 hy with rfl | hy
   ·exact c
   ·exact bl_trans c (g1 y hy)
  ·split
   ·exact g
   ·rename_i c e
    have hl : ∀ x ∈ l, txN n = txN x → n = x := fun x hx => h x (by simp [hx])
    refine List.pairwise_cons.2 ⟨fun y hy => ?_, putT_rise hl g2⟩
    rcases (putT_mem hl y).1 hy with hy | rfl
    ·exact g1 y hy
    ·cases hb : bl (txN x) (txN y) with
     | true => rfl
     | false => exact absurd (bl_tri (by simpa using c) hb) e
theorem putT_cnt : ∀ (l : List ND) (n : ND), cntL (putT l n) ≤ cntL l + cntN n
 | [], n => by simp [putT, cntL]
 | x :: l, n => by
  have := putT_cnt l n
  unfold putT
  split
  ·simp only [cntL]; omega
  ·split
   ·simp only [cntL]; omega
   ·simp only [cntL]; omega
theorem sns_inj {L : List ND} (h : Sns L) {x y : ND} (hx : x ∈ L) (hy : y ∈ L) (e : txN x = txN y) : x = y := (text_apart (h x hx) (h y hy)).1 e
theorem cnS_step {l : List ND} : ∀ {L : List ND}, Sns (l ++ L) → Rise l → Rise (L.foldl putT l) ∧ (∀ y, y ∈ L.foldl putT l ↔ y ∈ l ∨ y ∈ L) ∧ cntL (L.foldl putT l) ≤ cntL l + cntL L := by
 intro L
 induction L generalizing l with
 | nil => intro _ h; exact ⟨h, fun y => by simp, by simp [cntL]⟩
 | cons n L ih =>
  intro hs hr
  have hi : ∀ x ∈ l, txN n = txN x → n = x := fun x hx e => sns_inj hs (by simp) (by simp [hx]) e
  have hm := putT_mem hi
  have := ih (l := putT l n) (fun x hx => by
   rcases List.mem_append.1 hx with h | h
   ·rcases (hm x).1 h with h | rfl
    ·exact hs x (by simp [h])
    ·exact hs x (by simp)
   ·exact hs x (by simp [h])) (putT_rise hi hr)
  obtain ⟨h1, h2, h3⟩ := this
  refine ⟨h1, fun y => ?_, ?_⟩
  ·rw [List.foldl_cons, h2 y, hm y, List.mem_cons, or_assoc]
  ·have := putT_cnt l n
   simp only [List.foldl_cons, cntL]
   omega
theorem cnS_rise {L : List ND} (h : Sns L) : Rise (cnS L) := (cnS_step (l := []) (by simpa using h) List.Pairwise.nil).1
theorem cnS_mem {L : List ND} (h : Sns L) (y : ND) : y ∈ cnS L ↔ y ∈ L := by
 have := (cnS_step (l := []) (L := L) (by simpa using h) List.Pairwise.nil).2.1 y
 simpa [cnS] using this
theorem cnS_cnt {L : List ND} (h : Sns L) : cntL (cnS L) ≤ cntL L := by
 have := (cnS_step (l := []) (L := L) (by simpa using h) List.Pairwise.nil).2.2
 simpa [cnS, cntL] using this
theorem rise_nodup {L : List ND} (h : Rise L) : L.Nodup := List.Pairwise.imp (fun {a b} h e => by subst e; rw [bl_irr] at h; cases h) h
theorem rise_ext {a b : List ND} (ha : Rise a) (hb : Rise b) (h : ∀ y, y ∈ a ↔ y ∈ b) : a = b :=
 List.Perm.eq_of_pairwise (le := fun a b => bl (txN a) (txN b) = true) (fun x y _ _ h g => by have := bl_trans h g; rw [bl_irr] at this; cases this) ha hb ((List.perm_ext_iff_of_nodup (rise_nodup ha) (rise_nodup hb)).2 h)
theorem cnS_ext {a b : List ND} (ha : Sns a) (hb : Sns b) (h : ∀ y, y ∈ a ↔ y ∈ b) : cnS a = cnS b :=
 rise_ext (cnS_rise ha) (cnS_rise hb) fun y => by rw [cnS_mem ha, cnS_mem hb, h]
mutual
def flR : ND → List ND
 | .mk k p a t l => if k = 2 then flRL l else [.mk k p a t l]
def flRL : List ND → List ND
 | [] => []
 | x :: l => flR x ++ flRL l
end
theorem flR_k {k : Int} {p : PT} {a t : Bool} {l : List ND} (h : ¬ k = 2) : flR (.mk k p a t l) = [.mk k p a t l] := by simp only [flR]; rw [if_neg h]
theorem flR_2 (p : PT) (a t : Bool) (l : List ND) : flR (.mk 2 p a t l) = flRL l := by simp only [flR]; first | rw [if_pos trivial] | rw [if_pos rfl]
theorem flR_n {n : ND} (h : ¬ n.k = 2) : flR n = [n] := by cases n; exact flR_k h
theorem flRL_mem : ∀ {l : List ND} {y : ND}, y ∈ flRL l ↔ ∃ x ∈ l, y ∈ flR x
 | [], y => by simp [flRL]
 | x :: l, y => by simp [flRL, flRL_mem (l := l) (y := y)]
def pz : PT := ⟨0, ⟨#[]⟩, ⟨#[]⟩, ⟨#[]⟩⟩
def wrapC (e : List ND) : ND := if e.length = 1 then nth e 0 else .mk 2 pz false false e
def canN (n : ND) : ND := if n.k = 2 then wrapC (cnS (flR n)) else n
def canF (n : ND) : ND := if saneN saneP n = true then canN n else nd0
def partsN (c : ND) : List ND := if c.k = 2 then c.l else [c]
def flL (l : List ND) : List ND := l.flatMap fun x => partsN (canN x)
theorem one_dep {n : ND} (h : rightN saneP n = true) (hk : ¬ n.k = 2) : depN n = 0 := by
 have en : ∀ {x : ND}, endN saneP x = true → depN x = 0 := by
  intro x hx
  rcases endN_kind hx with ⟨p, a, t, rfl, _⟩ | rfl | rfl <;> rfl
 rcases rightN_kind h with ⟨p, a, t, rfl, _⟩ | ⟨x, y, rfl, hx, hy⟩ | ⟨x, l, rfl, _⟩
 ·rfl
 ·simp only [depN, depL, en hx, en hy]
  rfl
 ·exact absurd rfl hk
theorem one_sane {n : ND} (h : rightN saneP n = true) (hk : ¬ n.k = 2) (hc : cntN n ≤ 64) : saneN saneP n = true := by
 unfold saneN
 rw [one_dep h hk, h, decide_eq_true hc]
 rfl
mutual
theorem flR_facts : ∀ {n : ND}, rightN saneP n = true → flR n ≠ [] ∧ cntL (flR n) ≤ cntN n ∧ ∀ y ∈ flR n, rightN saneP y = true ∧ ¬ y.k = 2
 | .mk k p a t l, h => by
  by_cases hk : k = 2
  ·subst hk
   rw [flR_2]
   rcases rightN_kind h with ⟨p', a', t', e', hp⟩ | ⟨x, y, e', hx, hy⟩ | ⟨x, l', e', hl⟩ <;> injection e' with e1 e2 e3 e4 e5
   ·omega
   ·omega
   ·rw [rightL_all] at hl
    have g := flRL_facts (l := l) (by rw [e5]; exact fun y hy => List.all_eq_true.1 hl y hy)
    exact ⟨g.1 (by rw [e5]; simp), by simp only [cntN]; omega, g.2.2⟩
  ·rw [flR_k hk]
   exact ⟨by simp, by simp [cntL], fun y hy => by rw [List.mem_singleton.1 hy]; exact ⟨h, hk⟩⟩
theorem flRL_facts : ∀ {l : List ND}, (∀ x ∈ l, rightN saneP x = true) → (l ≠ [] → flRL l ≠ []) ∧ cntL (flRL l) ≤ cntL l ∧ ∀ y ∈ flRL l, rightN saneP y = true ∧ ¬ y.k = 2
 | [], _ => ⟨fun h => absurd rfl h, by simp [flRL], fun y hy => by simp [flRL] at hy⟩
 | x :: l, h => by
  have a := flR_facts (h x (by simp))
  have b := flRL_facts (l := l) (fun y hy => h y (by simp [hy]))
  refine ⟨fun _ e => a.1 (List.append_eq_nil_iff.1 e).1, ?_, fun y hy => ?_⟩
  ·simp only [flRL, cntL_append, cntL]; omega
  ·rcases List.mem_append.1 hy with hy | hy
   ·exact a.2.2 y hy
   ·exact b.2.2 y hy
end
theorem cn_right {n : ND} (h : saneN saneP n = true) : rightN saneP n = true ∧ cntN n ≤ 64 := by
 unfold saneN at h
 simp only [Bool.and_eq_true, decide_eq_true_eq] at h
 exact ⟨h.2.2, h.1⟩
theorem flR_sns {n : ND} (h : saneN saneP n = true) : Sns (flR n) := fun y hy => by
 obtain ⟨h1, h2⟩ := cn_right h
 obtain ⟨_, g2, g3⟩ := flR_facts h1
 have := cnt_mem hy
 exact one_sane (g3 y hy).1 (g3 y hy).2 (by omega)
theorem cnS_ne {L : List ND} (h : Sns L) (hn : L ≠ []) : cnS L ≠ [] := by
 intro e
 match L, hn with
 | x :: l, _ =>
  have := (cnS_mem h x).2 (by simp)
  rw [e] at this
  cases this
theorem len_one {l : List ND} (h : l.length = 1) : l = [nth l 0] := by
 match l, h with
 | [x], _ => rfl
theorem can_sane {n : ND} (h : saneN saneP n = true) : saneN saneP (canN n) = true ∧ cntN (canN n) ≤ cntN n ∧ (n.k = 2 → depN (canN n) ≤ 1) ∧ depN (canN n) ≤ max 1 (depN n) ∧ ((canN n).k = 2 → n.k = 2 ∧ 2 ≤ (canN n).l.length ∧ (canN n).l = cnS (flR n)) := by
 unfold canN
 by_cases hk : n.k = 2
 ·rw [if_pos hk]
  obtain ⟨h1, h2⟩ := cn_right h
  obtain ⟨g1, g2, g3⟩ := flR_facts h1
  have sn := flR_sns h
  have cm := cnS_mem sn
  have cc := cnS_cnt sn
  have ne := cnS_ne sn g1
  unfold wrapC
  split
  ·rename_i e1
   have m : nth (cnS (flR n)) 0 ∈ flR n := (cm _).1 (nth_mem (by omega))
   have q := g3 _ m
   have := cnt_mem m
   exact ⟨sn _ m, by omega, fun _ => by rw [one_dep q.1 q.2]; omega, by rw [one_dep q.1 q.2]; omega, fun c => absurd c q.2⟩
  ·rename_i e1
   have l2 : 2 ≤ (cnS (flR n)).length := by have := List.length_pos_iff.2 ne; omega
   have dz : ∀ x ∈ cnS (flR n), depN x = 0 := fun x hx => one_dep (g3 x ((cm x).1 hx)).1 (g3 x ((cm x).1 hx)).2
   have dl : ∀ l : List ND, (∀ x ∈ l, depN x = 0) → depL l = 0 := by
    intro l
    induction l with
    | nil => intro _; rfl
    | cons x l ih => intro h; simp only [depL, h x (by simp), ih fun y hy => h y (by simp [hy])]; rfl
   have d1 : depN (.mk 2 pz false false (cnS (flR n))) = 1 := by simp only [depN, dl _ dz]; rfl
   have c1 : cntN (.mk 2 pz false false (cnS (flR n))) ≤ cntN n := by
    have e : cntL (flR n) + 1 ≤ cntN n := by
     obtain ⟨k, p, a, t, l⟩ := n
     simp only [ND.k] at hk
     subst hk
     rw [flR_2]
     rcases rightN_kind h1 with ⟨p', a', t', e', hp⟩ | ⟨x, y, e', hx, hy⟩ | ⟨x, l', e', hl⟩ <;> injection e' with e1 e2 e3 e4 e5
     ·omega
     ·omega
     ·rw [rightL_all] at hl
      have g := flRL_facts (l := l) (by rw [e5]; exact fun y hy => List.all_eq_true.1 hl y hy)
      simp only [cntN]
      omega
    simp only [cntN]
    omega
   have r1 : rightN saneP (.mk 2 pz false false (cnS (flR n))) = true := by
    have : rightL saneP (cnS (flR n)) = true := by
     rw [rightL_all]
     exact List.all_eq_true.2 fun x hx => (g3 x ((cm x).1 hx)).1
    have hb : bareN (.mk 2 pz false false (cnS (flR n))) = true := rfl
    have hi : (cnS (flR n)).isEmpty = false := by cases h : cnS (flR n) with
     | nil => exact absurd h ne
     | cons x l => rfl
    simp only [rightN, this, hb, hi]
    rfl
   refine ⟨?_, c1, fun _ => by omega, by omega, fun _ => ⟨hk, l2, rfl⟩⟩
   unfold saneN
   rw [d1, r1, decide_eq_true (by omega)]
   rfl
 ·rw [if_neg hk]
  exact ⟨h, Nat.le_refl _, fun c => absurd c hk, by omega, fun c => absurd c hk⟩
theorem parts_mem {n : ND} (h : saneN saneP n = true) (y : ND) : y ∈ partsN (canN n) ↔ y ∈ flR n := by
 unfold canN
 by_cases hk : n.k = 2
 ·rw [if_pos hk]
  have sn := flR_sns h
  have cm := cnS_mem sn
  obtain ⟨g1, g2, g3⟩ := flR_facts (cn_right h).1
  unfold wrapC
  split
  ·rename_i e1
   have m : nth (cnS (flR n)) 0 ∈ flR n := (cm _).1 (nth_mem (by omega))
   unfold partsN
   rw [if_neg (g3 _ m).2, ← cm y]
   rw [len_one e1]
   rfl
  ·exact cm y
 ·rw [if_neg hk]
  unfold partsN
  rw [if_neg hk, flR_n hk]
theorem can_flR {n : ND} (h : saneN saneP n = true) (y : ND) : y ∈ flR (canN n) ↔ y ∈ flR n := by
 have cs := can_sane h
 by_cases hk : (canN n).k = 2
 ·have e := parts_mem h y
  unfold partsN at e
  rw [if_pos hk] at e
  rw [← e]
  have q := (cs.2.2.2.2 hk).2.2
  have sn := flR_sns h
  obtain ⟨g1, g2, g3⟩ := flR_facts (cn_right h).1
  have fl : ∀ l : List ND, (∀ x ∈ l, ¬ x.k = 2) → flRL l = l := by
   intro l
   induction l with
   | nil => intro _; rfl
   | cons x l ih => intro h; simp only [flRL, flR_n (h x (by simp)), ih fun y hy => h y (by simp [hy])]; rfl
  have : flR (canN n) = (canN n).l := by
   rw [eta_nd (canN n), show (canN n).k = 2 from hk, flR_2]
   exact fl _ fun x hx => by rw [q] at hx; exact (g3 x ((cnS_mem sn x).1 hx)).2
  rw [this]
 ·have e := parts_mem h y
  unfold partsN at e
  rw [if_neg hk] at e
  rw [flR_n hk, e]
theorem flL_mem {l : List ND} (h : Sns l) (y : ND) : y ∈ flL l ↔ y ∈ flRL l := by
 unfold flL
 rw [List.mem_flatMap, flRL_mem]
 exact ⟨fun ⟨x, hx, hy⟩ => ⟨x, hx, (parts_mem (h x hx) y).1 hy⟩, fun ⟨x, hx, hy⟩ => ⟨x, hx, (parts_mem (h x hx) y).2 hy⟩⟩
theorem flL_take {l : List ND} {i : Nat} (h : i < l.length) : flL (l.take (i + 1)) = flL (l.take i) ++ partsN (canN (nth l i)) := by
 unfold flL
 rw [nth_take h, List.flatMap_append]
 simp
theorem parts_len {n : ND} (h : saneN saneP n = true) : (partsN (canN n)).length ≤ cntN n := by
 have cs := can_sane h
 unfold partsN
 split
 ·have := len_cntL (canN n).l
  have e : cntN (canN n) = cntL (canN n).l + 1 := by rw [eta_nd (canN n)]; rfl
  omega
 ·have := cnt_pos n
  simpa using this
structure EL where
 n : ND
 v : Value
 tx : ByteArray
def EL.t (e : EL) : List UInt8 := e.tx.toList
def el0 : EL := ⟨nd0, .slice none 0 0, ⟨#[]⟩⟩
instance instEL : Inhabited EL := ⟨el0⟩
def lessE (a b : EL) : Bool := bl a.t b.t
def leE (a b : EL) : Prop := lessE b a = false
theorem leE_refl (a : EL) : leE a a := bl_irr _
theorem leE_trans {a b c : EL} (h : leE a b) (g : leE b c) : leE a c := by
 unfold leE lessE at *
 cases hc : bl c.t a.t with
 | false => rfl
 | true =>
  cases hb : bl a.t b.t with
  | true => have := bl_trans hc hb; rw [g] at this; cases this
  | false => have e := bl_tri hb h; rw [e] at hc; rw [g] at hc; cases hc
theorem lessE_le {a b : EL} (h : lessE a b = true) : leE a b := by
 unfold leE lessE at *
 cases hc : bl b.t a.t with
 | false => rfl
 | true => have := bl_trans h hc; rw [bl_irr] at this; cases this
def elAt (L : List EL) (i : Nat) : EL := L.getD i el0
theorem elAt_eq {L : List EL} {i : Nat} (h : i < L.length) : elAt L i = L[i] := by unfold elAt; simp [List.getD, h]
def swe (L : List EL) (i j : Nat) : List EL := (L.set i (elAt L j)).set j (elAt L i)
theorem swe_length (L : List EL) (i j : Nat) : (swe L i j).length = L.length := by unfold swe; simp
theorem swe_perm {L : List EL} {i j : Nat} (hi : i < L.length) (hj : j < L.length) : (swe L i j).Perm L := by
 unfold swe
 rw [elAt_eq hi, elAt_eq hj]
 exact List.set_set_perm hi hj
theorem elAt_swe {L : List EL} {i j : Nat} (hi : i < L.length) (hj : j < L.length) (k : Nat) : elAt (swe L i j) k = if k = j then elAt L i else if k = i then elAt L j else elAt L k := by
 unfold swe
 by_cases hk : k < L.length
 ·rw [elAt_eq (by simpa using hk), List.getElem_set]
  by_cases h1 : j = k
  ·rw [if_pos h1, if_pos h1.symm]
  ·rw [if_neg h1, if_neg (fun e => h1 e.symm), List.getElem_set]
   by_cases h2 : i = k
   ·rw [if_pos h2, if_pos h2.symm]
   ·rw [if_neg h2, if_neg (fun e => h2 e.symm), elAt_eq hk]
 ·rw [if_neg (by omega), if_neg (by omega)]
  unfold elAt
  simp [List.getD, hk]
def kie (c k : Nat) : Prop := c = 2 * k + 1 ∨ c = 2 * k + 2
def hpE (L : List EL) (i n : Nat) : Prop := ∀ k c, i ≤ k → kie c k → c < n → leE (elAt L k) (elAt L c)
structure sfe (L : List EL) (i0 i n : Nat) : Prop where
 a : ∀ k c, i0 ≤ k → k ≠ i → kie c k → c < n → leE (elAt L k) (elAt L c)
 b : ∀ p c, i0 ≤ p → kie i p → kie c i → c < n → leE (elAt L p) (elAt L c)
theorem sfe_first {L : List EL} {i0 n : Nat} (h : hpE L (i0 + 1) n) : sfe L i0 i0 n :=
 ⟨fun k c h1 h2 h3 h4 => h k c (by omega) h3 h4, fun p c h1 h2 _ _ => by unfold kie at h2; omega⟩
theorem sfe_last {L : List EL} {i0 i n : Nat} (h : sfe L i0 i n) (g : ∀ c, kie c i → c < n → leE (elAt L i) (elAt L c)) : hpE L i0 n := fun k c h1 h2 h3 => by
 by_cases e : k = i
 ·subst e; exact g c h2 h3
 ·exact h.a k c h1 e h2 h3
theorem sfe_step {L : List EL} {i0 i j n : Nat} (h : sfe L i0 i n) (hi0 : i0 ≤ i) (hj : kie j i) (hjn : j < n) (hn : n ≤ L.length) (hl : lessE (elAt L j) (elAt L i) = true) (hm : ∀ c, kie c i → c < n → leE (elAt L j) (elAt L c)) : sfe (swe L i j) i0 j n := by
 have hij : i < j := by unfold kie at hj; omega
 have hi : i < L.length := by omega
 have hjl : j < L.length := by omega
 constructor
 ·intro k c h1 h2 h3 h4
  rw [elAt_swe hi hjl, elAt_swe hi hjl, if_neg h2]
  by_cases e : k = i
  ·subst e
   rw [if_pos rfl]
   by_cases e2 : c = j
   ·rw [if_pos e2]; exact lessE_le hl
   ·rw [if_neg e2, if_neg (by unfold kie at h3; omega)]; exact hm c h3 h4
  ·rw [if_neg e]
   by_cases e2 : c = j
   ·subst e2
    unfold kie at h3 hj
    omega
   ·rw [if_neg e2]
    by_cases e3 : c = i
    ·subst e3; rw [if_pos rfl]; exact h.b k j h1 h3 hj hjn
    ·rw [if_neg e3]; exact h.a k c h1 e h3 h4
 ·intro p c h1 h2 h3 h4
  have e : p = i := by unfold kie at h2 hj; omega
  subst e
  rw [elAt_swe hi hjl, elAt_swe hi hjl, if_neg (by omega), if_pos rfl, if_neg (by unfold kie at h3; omega), if_neg (by unfold kie at h3; omega)]
  exact h.a j c (by omega) (by omega) h3 h4
theorem he_root {L : List EL} {n : Nat} (h : hpE L 0 n) : ∀ i, i < n → leE (elAt L 0) (elAt L i) := by
 intro i
 induction i using Nat.strongRecOn with
 | ind i ih =>
  intro hi
  by_cases e : i = 0
  ·subst e; exact leE_refl _
  ·have h1 := ih ((i - 1) / 2) (by omega) (by omega)
   have h2 := h ((i - 1) / 2) i (Nat.zero_le _) (by unfold kie; omega) hi
   exact leE_trans h1 h2
theorem he_take {L : List EL} {i n : Nat} (h : hpE L i n) : hpE (L.take n) i n := fun k c h1 h2 h3 => by
 have e : ∀ m, m < n → elAt (L.take n) m = elAt L m := fun m hm => by unfold elAt; simp [List.getD, List.getElem?_take, hm]
 rw [e k (by unfold kie at h2; omega), e c h3]
 exact h k c h1 h2 h3
theorem he_swap {L : List EL} {n : Nat} (h : hpE L 0 (n + 1)) (hn : n < L.length) : hpE (swe L 0 n) 1 n := fun k c h1 h2 h3 => by
 rw [elAt_swe (by omega) hn, elAt_swe (by omega) hn, if_neg (by unfold kie at h2; omega), if_neg (by omega), if_neg (by omega), if_neg (by unfold kie at h2; omega)]
 exact h k c (Nat.zero_le _) h2 (by omega)
def ddE : List UInt8 → List EL → List ND
 | _, [] => []
 | last, e :: l => if e.t = last then ddE e.t l else e.n :: ddE e.t l
def TxE (L : List EL) : Prop := ∀ e ∈ L, e.t = txN e.n
def snE (L : List EL) : List ND := L.map EL.n
theorem ddE_rise : ∀ {l : List EL} {last : List UInt8}, TxE l → Sns (snE l) → l.Pairwise leE → (∀ e ∈ l, bl e.t last = false) → Rise (ddE last l) ∧ (∀ y, y ∈ ddE last l ↔ y ∈ snE l ∧ ¬ txN y = last) ∧ ∀ y ∈ ddE last l, bl last (txN y) = true
 | [], last, _, _, _, _ => ⟨List.Pairwise.nil, fun y => by simp [ddE, snE], fun y hy => by cases hy⟩
 | e :: l, last, ht, hs, hp, hl => by
  obtain ⟨p1, p2⟩ := List.pairwise_cons.1 hp
  have ht2 : TxE l := fun x hx => ht x (by simp [hx])
  have hs2 : Sns (snE l) := fun x hx => hs x (by simp only [snE, List.map_cons, List.mem_cons]; exact .inr hx)
  have te := ht e (by simp)
  obtain ⟨r1, r2, r3⟩ := ddE_rise (l := l) (last := e.t) ht2 hs2 p2 (fun x hx => p1 x hx)
  unfold ddE
  split
  ·rename_i h
   rw [h] at r1 r2 r3 ⊢
   refine ⟨r1, fun y => ?_, r3⟩
   rw [r2]
   simp only [snE, List.map_cons, List.mem_cons]
   constructor
   ·rintro ⟨a, b⟩; exact ⟨.inr a, b⟩
   ·rintro ⟨a | a, b⟩
    ·subst a; exact absurd (by rw [← te]; exact h) b
    ·exact ⟨a, b⟩
  ·rename_i h
   have lt : bl last e.t = true := by
    cases hb : bl last e.t with
    | true => rfl
    | false => exact absurd (bl_tri (hl e (by simp)) hb) h
   refine ⟨List.pairwise_cons.2 ⟨fun y hy => ?_, r1⟩, fun y => ?_, fun y hy => ?_⟩
   ·rw [← te]; exact r3 y hy
   ·rw [List.mem_cons, r2]
    simp only [snE, List.map_cons, List.mem_cons]
    constructor
    ·rintro (rfl | ⟨a, b⟩)
     ·exact ⟨.inl rfl, by rw [← te]; exact h⟩
     ·refine ⟨.inr a, fun c => ?_⟩
      obtain ⟨x, hx, rfl⟩ := List.mem_map.1 a
      have q := p1 x hx
      unfold leE lessE at q
      rw [ht2 x hx, c] at q
      rw [q] at lt
      cases lt
    ·rintro ⟨a | a, b⟩
     ·exact .inl a
     ·by_cases c : txN y = e.t
      ·left
       obtain ⟨x, hx, rfl⟩ := List.mem_map.1 a
       exact sns_inj hs (by simp only [snE, List.map_cons, List.mem_cons]; exact .inr a) (by simp [snE]) (by rw [c, te])
      ·exact .inr ⟨a, c⟩
   ·rcases List.mem_cons.1 hy with rfl | hy
    ·rw [← te]; exact lt
    ·exact bl_trans lt (r3 y hy)
theorem ddE_cn {L : List ND} {l : List EL} (hs : Sns L) (hm : ∀ y, y ∈ snE l ↔ y ∈ L) (ht : TxE l) (hp : l.Pairwise leE) : ddE [] l = cnS L := by
 have hs2 : Sns (snE l) := fun x hx => hs x ((hm x).1 hx)
 obtain ⟨r1, r2, r3⟩ := ddE_rise (last := []) ht hs2 hp (fun e _ => bl_nil _)
 refine rise_ext r1 (cnS_rise hs) fun y => ?_
 rw [r2, cnS_mem hs, hm]
 refine ⟨fun h => h.1, fun h => ⟨h, fun c => ?_⟩⟩
 have := (txN_len900 (hs y h)).2
 rw [c] at this
 simp at this
theorem ddE_append : ∀ (l m : List EL) (last : List UInt8), ddE last (l ++ m) = ddE last l ++ ddE ((l.getLast?.map EL.t).getD last) m
 | [], m, last => rfl
 | e :: l, m, last => by
  have ih := ddE_append l m e.t
  have g : ((e :: l).getLast?.map EL.t).getD last = (l.getLast?.map EL.t).getD e.t := by
   cases l with
   | nil => rfl
   | cons f l => rw [List.getLast?_cons_cons]; cases h : (f :: l).getLast? with
    | none => simp at h
    | some x => rfl
  rw [g]
  simp only [List.cons_append, ddE]
  split
  ·exact ih
  ·rw [ih]; rfl
open Go.RowKit
theorem ch_heap {w : World} {B : Nat} {t : TypeId} {c : Array Value} {fr : Nat × Nat} (hB : w.heap[B]? = some (.cells c t fr)) (o : Nat) (x : Value) : (w.setCell ⟨B, o, none⟩ x).heap[B]? = some (.cells (c.setIfInBounds o x) t fr) := by
 unfold World.setCell
 simp only
 rw [Array.getElem?_modify, if_pos rfl, hB]
 rfl
theorem ch_other {w : World} {B C : Nat} (h : C ≠ B) (o : Nat) (x : Value) : (w.setCell ⟨B, o, none⟩ x).heap[C]? = w.heap[C]? := by
 unfold World.setCell
 simp only
 rw [Array.getElem?_modify, if_neg (Ne.symm h)]
def cellsX (e : EL) : List Value := [.int .i64 e.n.k, .int .i64 e.n.p.k, .string e.n.p.y, .string e.n.p.m, .string e.n.p.d, .bool e.n.a, .bool e.n.t, e.v, .string e.tx]
def cellsY : List EL → List Value
 | [] => []
 | e :: t => cellsX e ++ cellsY t
theorem cellsX_length (e : EL) : (cellsX e).length = 9 := rfl
theorem cellsY_length : ∀ L : List EL, (cellsY L).length = L.length * 9
 | [] => rfl
 | e :: t => by simp only [cellsY, List.length_append, cellsX_length, cellsY_length t, List.length_cons]; omega
theorem cellsY_append : ∀ L M : List EL, cellsY (L ++ M) = cellsY L ++ cellsY M
 | [], M => rfl
 | e :: t, M => by simp only [List.cons_append, cellsY, cellsY_append t M, List.append_assoc]
theorem cellsY_at : ∀ (L : List EL) (i j : Nat), i < L.length → j < 9 → (cellsY L)[i * 9 + j]? = (cellsX (elAt L i))[j]?
 | [], i, j, h, _ => by simp at h
 | e :: t, 0, j, h, hj => by
  have e0 : elAt (e :: t) 0 = e := rfl
  rw [e0, Nat.zero_mul, Nat.zero_add]
  simp only [cellsY]
  exact List.getElem?_append_left (by rw [cellsX_length]; exact hj)
 | e :: t, i + 1, j, h, hj => by
  have e0 : elAt (e :: t) (i + 1) = elAt t i := rfl
  rw [e0, ← cellsY_at t i j (by simpa using h) hj]
  simp only [cellsY]
  rw [List.getElem?_append_right (by rw [cellsX_length]; omega), cellsX_length]
  congr 1
  omega
theorem cellsY_set : ∀ (L : List EL) (i : Nat) (p : EL), i < L.length → ∀ q, (cellsY (L.set i p))[q]? = if i * 9 ≤ q ∧ q < i * 9 + 9 then (cellsX p)[q - i * 9]? else (cellsY L)[q]?
 | [], i, p, h, q => by simp at h
 | e :: t, 0, p, h, q => by
  simp only [List.set_cons_zero, cellsY, Nat.zero_mul, Nat.zero_add, Nat.sub_zero, Nat.zero_le, true_and]
  split
  ·rename_i c
   exact List.getElem?_append_left (by rw [cellsX_length]; exact c)
  ·rename_i c
   rw [List.getElem?_append_right (by rw [cellsX_length]; omega), List.getElem?_append_right (by rw [cellsX_length]; omega)]
   rfl
 | e :: t, i + 1, p, h, q => by
  simp only [List.set_cons_succ, cellsY]
  by_cases c : q < 9
  ·rw [List.getElem?_append_left (by rw [cellsX_length]; exact c), List.getElem?_append_left (by rw [cellsX_length]; exact c), if_neg (by omega)]
  ·rw [List.getElem?_append_right (by rw [cellsX_length]; omega), List.getElem?_append_right (by rw [cellsX_length]; omega), cellsX_length, cellsY_set t i p (by simpa using h) (q - 9)]
   by_cases d : i * 9 ≤ q - 9 ∧ q - 9 < i * 9 + 9
   ·rw [if_pos d, if_pos (by omega)]
    congr 1
    omega
   ·rw [if_neg d, if_neg (by omega)]
theorem cellsY_take : ∀ (L : List EL) (n : Nat), (cellsY L).take (n * 9) = cellsY (L.take n)
 | [], n => by simp [cellsY]
 | e :: t, 0 => by simp [cellsY]
 | e :: t, n + 1 => by
  simp only [List.take_succ_cons, cellsY]
  rw [List.take_append, List.take_of_length_le (by rw [cellsX_length]; omega), cellsX_length, show (n + 1) * 9 - 9 = n * 9 by omega, cellsY_take t n]
def SlE (L : List EL) : Prop := ∀ e ∈ L, ∃ ad n c, e.v = .slice ad n c
theorem sl_one {e : EL} (h : ∃ ad n c, e.v = .slice ad n c) : ∀ u ∈ cellsX e, u.oneCell' = true := by
 obtain ⟨ad, n, c, h⟩ := h
 intro u hu
 unfold cellsX at hu
 rw [h] at hu
 simp only [List.mem_cons, List.not_mem_nil, or_false] at hu
 rcases hu with rfl | rfl | rfl | rfl | rfl | rfl | rfl | rfl | rfl <;> rfl
theorem elAt_mem {L : List EL} {i : Nat} (h : i < L.length) : elAt L i ∈ L := by rw [elAt_eq h]; exact List.getElem_mem h
theorem ch_ne {w : World} {base : Nat} {e t : TypeId} {size n B : Nat} {v : Value} {y : Array Value} {xs : List Value} {fr : Nat × Nat} (h : w.ownsRow base e size v n xs) (hB : w.heap[B]? = some (.cells y t fr)) (ht : (t == e) = false) : ∀ j, v.ownBlock = some j → j ≠ B := by
 intro j hj e1
 subst e1
 rcases h.2 with ⟨rfl, _⟩ | ⟨g, cap, cur, rfl, hb, hg, rest⟩
 ·cases hj
 ·cases hj
  rw [hB] at hg
  cases hg
  simp at ht
def HEs (w0 : World) (top B : Nat) (L : List EL) (w : World) : Prop :=
 Kp w0 w ∧ (w0.heap.size ≤ B ∧ B < top ∧ top ≤ w.heap.size) ∧ SlE L ∧ ∃ v, w.heap[B]? = some (.cells #[v] 60 (0, 0)) ∧ w.ownsRow w0.heap.size 64 9 v L.length (cellsY L) ∧ ∀ j, v.ownBlock = some j → j < top
theorem HEs.kp {w0 w w' : World} {top B : Nat} {L : List EL} (h : HEs w0 top B L w) (k : Kp w w') : HEs w0 top B L w' := by
 obtain ⟨h1, h2, h3, v, h4, h5, h6⟩ := h
 exact ⟨h1.trans k, ⟨h2.1, h2.2.1, Nat.le_trans h2.2.2 k.size⟩, h3, v, heap_block k h4, own_kp h5 k, h6⟩
theorem HEs.raise {w0 w : World} {top B : Nat} {L : List EL} (h : HEs w0 top B L w) : HEs w0 w.heap.size B L w := by
 obtain ⟨h1, h2, h3, v, h4, h5, h6⟩ := h
 exact ⟨h1, ⟨h2.1, by omega, Nat.le_refl _⟩, h3, v, h4, h5, fun j hj => Nat.lt_of_lt_of_le (h6 j hj) h2.2.2⟩
def XAt (w : World) (g i : Nat) (e : EL) : Prop := ∀ j u, (cellsX e)[j]? = some u → w.cell? ⟨g, i * 9 + j, none⟩ = some u
theorem XAt.kp {w w' : World} {g i : Nat} {e : EL} (h : XAt w g i e) (k : Kp w w') : XAt w' g i e := fun j u hu => cell_up k (h j u hu)
theorem xat_own {w : World} {base g cap : Nat} {L : List EL} (h : w.ownsRow base 64 9 (.slice (some ⟨g, 0, none⟩) L.length cap) L.length (cellsY L)) {i : Nat} (hi : i < L.length) : XAt w g i (elAt L i) := fun j u hu => by
 have hj : j < 9 := by rw [← cellsX_length (elAt L i)]; exact (List.getElem?_eq_some_iff.1 hu).1
 rw [h.cellAt _ (by omega), cellsY_at L i j hi hj]
 exact hu
theorem HEs.open {w0 w : World} {top B : Nat} {L : List EL} (h : HEs w0 top B L w) (h0 : 0 < L.length) : ∃ g cap, w.heap[B]? = some (.cells #[.slice (some ⟨g, 0, none⟩) L.length cap] 60 (0, 0)) ∧ w.ownsRow w0.heap.size 64 9 (.slice (some ⟨g, 0, none⟩) L.length cap) L.length (cellsY L) ∧ L.length ≤ cap ∧ (∀ i, i < L.length → XAt w g i (elAt L i)) ∧ g ≠ B ∧ g < top ∧ w0.heap.size ≤ g := by
 obtain ⟨h1, h2, _, v, h3, h4, h5⟩ := h
 have h4' := h4
 rcases h4.2 with ⟨_, e⟩ | ⟨g, cap, cur, rfl, hb, hg, hc, _⟩
 ·omega
 ·refine ⟨g, cap, h3, h4', hc, fun i hi => xat_own h4' hi, ?_, h5 g rfl, hb⟩
  rintro rfl
  rw [h3] at hg
  cases hg
structure EW (top : Nat) (w w' : World) : Prop where
 size : w.heap.size ≤ w'.heap.size
 same : ∀ (k : Nat), top ≤ k → k < w.heap.size → w'.heap[k]? = w.heap[k]?
theorem EW.refl (top : Nat) (w : World) : EW top w w := ⟨Nat.le_refl _, fun _ _ _ => rfl⟩
theorem EW.trans {top : Nat} {a b c : World} (h : EW top a b) (k : EW top b c) : EW top a c := ⟨Nat.le_trans h.size k.size, fun i h1 h2 => (k.same i h1 (Nat.lt_of_lt_of_le h2 h.size)).trans (h.same i h1 h2)⟩
theorem EW.kp {top : Nat} {w w' : World} (k : Kp w w') : EW top w w' := ⟨k.size, fun i _ hi => k.block i hi⟩
theorem EW.set {top : Nat} {w : World} {b : Nat} (h : b < top) (o : Nat) (x : Value) : EW top w (w.setCell ⟨b, o, none⟩ x) :=
 ⟨by unfold World.setCell; simp, fun k hk _ => ch_other (by omega) _ _⟩
theorem EW.sets {top g : Nat} (hg : g < top) : ∀ (cs : List Value) (o : Nat) (w : World), EW top w (w.setCells g o cs) ∧ ∀ C, C ≠ g → (w.setCells g o cs).heap[C]? = w.heap[C]?
 | [], o, w => ⟨EW.refl _ _, fun _ _ => rfl⟩
 | v :: cs, o, w => by
  obtain ⟨a, c⟩ := EW.sets hg cs (o + 1) (w.setCell ⟨g, o, none⟩ v)
  exact ⟨(EW.set hg o v).trans a, fun C hC => (c C hC).trans (ch_other hC _ _)⟩
theorem EW.grown {top : Nat} {w w' : World} {row : Option Nat} (g : w.grownBy w' row) (h : ∀ j, row = some j → j < top) : EW top w w' :=
 ⟨g.size, fun k hk hl => g.block k hl (fun e => by have := h k e.symm; omega)⟩
theorem EW.own {top : Nat} {w w' : World} (k : EW top w w') {base : Nat} {e : TypeId} {size : Nat} {v : Value} {n : Nat} {xs : List Value} (h : w.ownsRow base e size v n xs) (hb : top ≤ base) : w'.ownsRow base e size v n xs := by
 refine ⟨h.1, ?_⟩
 rcases h.2 with h2 | ⟨g, cap, cur, e1, hq, hg, rest⟩
 ·exact .inl h2
 ·exact .inr ⟨g, cap, cur, e1, hq, (k.same g (by omega) (Array.getElem?_eq_some_iff.1 hg).1).trans hg, rest⟩
theorem HEs.grown {w0 w w1 : World} {top B : Nat} {L : List EL} (h : HEs w0 top B L w) {base : Nat} {e : TypeId} {size n : Nat} {v : Value} {xs : List Value} (hown : w.ownsRow base e size v n xs) (hb : top ≤ base) (g : w.grownBy w1 v.ownBlock) : HEs w0 top B L w1 := by
 obtain ⟨k, hB, hs, u, hu, hr, ht⟩ := h
 have nb : ∀ j, v.ownBlock = some j → top ≤ j := by
  intro j hj
  rcases hown.2 with ⟨rfl, _⟩ | ⟨q, cap, cur, rfl, hq, _⟩
  ·cases hj
  ·cases hj; exact Nat.le_trans hb hq
 have kg : Kp w0 w1 := k.grown g (fun j hj => by have := nb j hj; omega)
 have lt : ∀ {k : Nat} {o : Obj}, w.heap[k]? = some o → k < w.heap.size := fun hk => (Array.getElem?_eq_some_iff.1 hk).1
 refine ⟨kg, ⟨hB.1, hB.2.1, Nat.le_trans hB.2.2 g.size⟩, hs, u, (g.block B (lt hu) (fun e => by have := nb B e.symm; omega)).trans hu, ⟨hr.1, ?_⟩, ht⟩
 rcases hr.2 with q | ⟨q, cap, cur, e1, hq, hg, rest⟩
 ·exact .inl q
 ·exact .inr ⟨q, cap, cur, e1, hq, (g.block q (lt hg) (fun e => by have := nb q e.symm; have := ht q (by rw [e1]; rfl); omega)).trans hg, rest⟩
def setAll : List Value → Nat → List Value → List Value
 | xs, _, [] => xs
 | xs, o, c :: cs => setAll (xs.set o c) (o + 1) cs
theorem setAll_at : ∀ (cs xs : List Value) (o q : Nat), o + cs.length ≤ xs.length → (setAll xs o cs)[q]? = if o ≤ q ∧ q < o + cs.length then cs[q - o]? else xs[q]?
 | [], xs, o, q, _ => by
  simp only [setAll, List.length_nil, Nat.add_zero]
  rw [if_neg (by omega)]
 | c :: cs, xs, o, q, h => by
  simp only [List.length_cons] at h
  simp only [setAll, List.length_cons]
  rw [setAll_at cs (xs.set o c) (o + 1) q (by rw [List.length_set]; omega)]
  by_cases h1 : q = o
  ·subst h1
   rw [if_neg (by omega), if_pos (by omega), Nat.sub_self, List.getElem?_set_self (by omega)]
   rfl
  ·rw [List.getElem?_set_ne (fun e => h1 e.symm)]
   by_cases h2 : o + 1 ≤ q ∧ q < o + 1 + cs.length
   ·rw [if_pos h2, if_pos (by omega), show q - o = q - (o + 1) + 1 by omega]
    rfl
   ·rw [if_neg h2, if_neg (by omega)]
theorem own_sets : ∀ (cs : List Value) (o : Nat) {w : World} {base g cap n : Nat} {e : TypeId} {size : Nat} {xs : List Value}, w.ownsRow base e size (.slice (some ⟨g, 0, none⟩) n cap) n xs → (w.setCells g o cs).ownsRow base e size (.slice (some ⟨g, 0, none⟩) n cap) n (setAll xs o cs)
 | [], o, w, base, g, cap, n, e, size, xs, h => h
 | c :: cs, o, w, base, g, cap, n, e, size, xs, h => own_sets cs (o + 1) (h.stored o c).1
theorem setAll_row (L : List EL) {i : Nat} (hi : i < L.length) (p : EL) : setAll (cellsY L) (i * 9) (cellsX p) = cellsY (L.set i p) := by
 apply List.ext_getElem?
 intro q
 rw [setAll_at _ _ _ _ (by rw [cellsX_length, cellsY_length]; omega), cellsY_set L i p hi q, cellsX_length]
theorem kp_sets {w0 : World} {g : Nat} (hg : w0.heap.size ≤ g) : ∀ (cs : List Value) (o : Nat) {w : World}, Kp w0 w → Kp w0 (w.setCells g o cs)
 | [], _, _, k => k
 | c :: cs, o, w, k => kp_sets hg cs (o + 1) (Below.setCell k (p := ⟨g, o, none⟩) hg c)
theorem HEs.put {w0 w : World} {top B g cap : Nat} {L : List EL} (k : Kp w0 w) (hB : w0.heap.size ≤ B) (hg : g ≠ B) (hgt : g < top) (hg0 : w0.heap.size ≤ g) (hb : w.heap[B]? = some (.cells #[.slice (some ⟨g, 0, none⟩) L.length cap] 60 (0, 0))) (h : w.ownsRow w0.heap.size 64 9 (.slice (some ⟨g, 0, none⟩) L.length cap) L.length (cellsY L)) {i : Nat} (hi : i < L.length) (p : EL) :
  Kp w0 (w.setCells g (i * 9) (cellsX p)) ∧ (w.setCells g (i * 9) (cellsX p)).heap[B]? = some (.cells #[.slice (some ⟨g, 0, none⟩) (L.set i p).length cap] 60 (0, 0)) ∧ (w.setCells g (i * 9) (cellsX p)).ownsRow w0.heap.size 64 9 (.slice (some ⟨g, 0, none⟩) (L.set i p).length cap) (L.set i p).length (cellsY (L.set i p)) ∧ EW top w (w.setCells g (i * 9) (cellsX p)) := by
 obtain ⟨e1, e3⟩ := EW.sets hgt (cellsX p) (i * 9) w
 refine ⟨kp_sets hg0 _ _ k, ?_, ?_, e1⟩
 ·rw [List.length_set]
  exact (e3 B (Ne.symm hg)).trans hb
 ·rw [List.length_set, ← setAll_row L hi p]
  exact own_sets _ _ h
theorem ce_cell {w : World} {base : Nat} {e : TypeId} {size g n cap : Nat} {xs : List Value} (h : w.ownsRow base e size (.slice (some ⟨g, 0, none⟩) n cap) n xs) (j : Nat) (hj : j < n * size) : ∃ v, w.cell? ⟨g, j, none⟩ = some v ∧ w.frozen? ⟨g, j, none⟩ = false := by
 have hl := h.1
 refine ⟨xs[j]'(by omega), ?_, h.frozenAt j⟩
 rw [h.cellAt j hj]
 exact List.getElem?_eq_getElem _
theorem ce_load {P : Program} {w : World} {ops : Array Oper} {o : Oper} {a : Act} {K : Act → World → Prop} {Q : Exit → Act → World → Prop} {E : Prop} (hgd : o.guard = none) (ty : TypeId) (x : Operand) (ho : o.op = .load ty x)
  (b f : Nat) (hx : a.eval x = .pointer (some ⟨b, f, none⟩)) (cs : List Value) (d : TypeDesc) (hc : w.rangeAt b f cs) (hu : P.underlying ty = some d) (hd : d.isRow = true) (hi : (P.info? ty).map (·.size) = some cs.length)
  (h : K (a.put o.dst (.agg cs.toArray)) w) : if Region.wanted o (yielded ops a.tmps) = true then Oper.wp P o a w K Q else E := by
 rw [if_pos (by simp [Region.wanted, hgd])]
 exact wp_load_mid ty x ho b f hx cs d hc hu hd hi h
theorem ce_store {P : Program} {w : World} {ops : Array Oper} {o : Oper} {a : Act} {K : Act → World → Prop} {Q : Exit → Act → World → Prop} {E : Prop} (hgd : o.guard = none) (ty : TypeId) (x y : Operand) (ho : o.op = .store ty x y)
  (b f : Nat) (cs : List Value) (hx : a.eval x = .pointer (some ⟨b, f, none⟩)) (hy : a.eval y = .agg cs.toArray) (ht : w.there b f cs.length) (hi : (P.info? ty).map (·.size) = some cs.length) (h1 : cs.toArray.all (·.oneCell') = true)
  {w' : World} (hw : w.setCells b f cs = w') (h : K (a.put o.dst undef) w') : if Region.wanted o (yielded ops a.tmps) = true then Oper.wp P o a w K Q else E := by
 subst hw
 rw [if_pos (by simp [Region.wanted, hgd])]
 exact wp_store_mid ty x y ho b f cs.toArray hx hy (by simpa using ht) (by simpa using hi) h1 h
theorem XAt.range {w : World} {g i : Nat} {p : EL} (h : XAt w g i p) : w.rangeAt g (i * 9) (cellsX p) := fun j v hv => h j v hv
theorem there_x {w : World} {base : Nat} {e : TypeId} {g n cap : Nat} {xs : List Value} (h : w.ownsRow base e 9 (.slice (some ⟨g, 0, none⟩) n cap) n xs) {i : Nat} (hi : i < n) : w.there g (i * 9) 9 := fun j hj => by
 obtain ⟨v, a, b⟩ := ce_cell h (i * 9 + j) (by omega)
 exact ⟨by rw [a]; rfl, b⟩
theorem swe_sl {L : List EL} {i j : Nat} (h : SlE L) (hi : i < L.length) (hj : j < L.length) : SlE (swe L i j) := fun e he => h e ((swe_perm hi hj).mem_iff.1 he)
set_option maxHeartbeats 16000000 in
set_option maxRecDepth 100000 in
theorem clen_any (w0 : World) (top B : Nat) (L : List EL) (w : World) (h : HEs w0 top B L w) :
  Calls Tryz.prog 162 #[.pointer (some ⟨B, 0, none⟩)] w fun e w' => e = .returned (.int .i64 L.length) ∧ w = w' := by
 obtain ⟨h1, h2, _, v, h3, h4, h5⟩ := h
 obtain ⟨ad, c, rfl⟩ := own_slice h4
 have q : w.cell? ⟨B, 0, none⟩ = some (.slice ad L.length c) := by simp [World.cell?, h3]
 clear h1 h2 h3 h4 h5
 go_enter Tryz.func162, Tryz.ntmps162
 go_wp2
 go_ret
 exact ⟨rfl, rfl⟩
abbrev lE0 : Oper := { dst := some 7, op := Go.Op.move (Go.Operand.tmp 0), type := 57, pos := "canon.go:75", after := #[], guard := none }
abbrev lE1 : Oper := { dst := some 8, op := Go.Op.nilCheck (Go.Operand.tmp 7), type := 0, pos := "canon.go:75", after := #[{ on := 0, ground := Go.Ground.data }], guard := none }
abbrev lE2 : Oper := { dst := some 9, op := Go.Op.fieldAddr 60 (Go.Operand.tmp 8) 0, type := 0, pos := "canon.go:75", after := #[{ on := 1, ground := Go.Ground.data }], guard := none }
abbrev lE3 : Oper := { dst := some 10, op := Go.Op.load 58 (Go.Operand.tmp 9), type := 58, pos := "canon.go:75", after := #[{ on := 2, ground := Go.Ground.data }], guard := none }
abbrev lE4 : Oper := { dst := some 11, op := Go.Op.move (Go.Operand.tmp 1), type := 3, pos := "canon.go:75", after := #[], guard := none }
abbrev lE5 : Oper := { dst := some 12, op := Go.Op.indexAddr 58 (Go.Operand.tmp 10) (Go.Operand.tmp 11), type := 0, pos := "canon.go:75", after := #[{ on := 3, ground := Go.Ground.data }, { on := 4, ground := Go.Ground.data }], guard := none }
abbrev lE6 : Oper := { dst := some 13, op := Go.Op.fieldAddr 64 (Go.Operand.tmp 12) 1, type := 0, pos := "canon.go:75", after := #[{ on := 5, ground := Go.Ground.data }], guard := none }
abbrev lE7 : Oper := { dst := some 14, op := Go.Op.load 9 (Go.Operand.tmp 13), type := 9, pos := "canon.go:75", after := #[{ on := 6, ground := Go.Ground.data }], guard := none }
abbrev lE8 : Oper := { dst := some 15, op := Go.Op.move (Go.Operand.tmp 0), type := 57, pos := "canon.go:75", after := #[], guard := none }
abbrev lE9 : Oper := { dst := some 16, op := Go.Op.nilCheck (Go.Operand.tmp 15), type := 0, pos := "canon.go:75", after := #[{ on := 8, ground := Go.Ground.data }], guard := none }
abbrev lE10 : Oper := { dst := some 17, op := Go.Op.fieldAddr 60 (Go.Operand.tmp 16) 0, type := 0, pos := "canon.go:75", after := #[{ on := 9, ground := Go.Ground.data }], guard := none }
abbrev lE11 : Oper := { dst := some 18, op := Go.Op.load 58 (Go.Operand.tmp 17), type := 58, pos := "canon.go:75", after := #[{ on := 10, ground := Go.Ground.data }], guard := none }
abbrev lE12 : Oper := { dst := some 19, op := Go.Op.move (Go.Operand.tmp 2), type := 3, pos := "canon.go:75", after := #[], guard := none }
abbrev lE13 : Oper := { dst := some 20, op := Go.Op.indexAddr 58 (Go.Operand.tmp 18) (Go.Operand.tmp 19), type := 0, pos := "canon.go:75", after := #[{ on := 11, ground := Go.Ground.data }, { on := 12, ground := Go.Ground.data }], guard := none }
abbrev lE14 : Oper := { dst := some 21, op := Go.Op.fieldAddr 64 (Go.Operand.tmp 20) 1, type := 0, pos := "canon.go:75", after := #[{ on := 13, ground := Go.Ground.data }], guard := none }
abbrev lE15 : Oper := { dst := some 22, op := Go.Op.load 9 (Go.Operand.tmp 21), type := 9, pos := "canon.go:75", after := #[{ on := 14, ground := Go.Ground.data }], guard := none }
abbrev lE16 : Oper := { dst := some 23, op := Go.Op.binOp Go.BinOp.lss 9 (Go.Operand.tmp 14) (Go.Operand.tmp 22) 9, type := 4, pos := "canon.go:75", after := #[{ on := 7, ground := Go.Ground.data }, { on := 15, ground := Go.Ground.data }], guard := none }
abbrev lE17 : Oper := { dst := some 6, op := Go.Op.assign (Go.Operand.tmp 23), type := 4, pos := "canon.go:75", after := #[{ on := 16, ground := Go.Ground.data }, { on := 0, ground := Go.Ground.phase }, { on := 1, ground := Go.Ground.phase }, { on := 2, ground := Go.Ground.phase }, { on := 3, ground := Go.Ground.phase }, { on := 4, ground := Go.Ground.phase }, { on := 5, ground := Go.Ground.phase }, { on := 6, ground := Go.Ground.phase }, { on := 7, ground := Go.Ground.phase }, { on := 8, ground := Go.Ground.phase }, { on := 9, ground := Go.Ground.phase }, { on := 10, ground := Go.Ground.phase }, { on := 11, ground := Go.Ground.phase }, { on := 12, ground := Go.Ground.phase }, { on := 13, ground := Go.Ground.phase }, { on := 14, ground := Go.Ground.phase }, { on := 15, ground := Go.Ground.phase }, { on := 16, ground := Go.Ground.phase }], guard := none }
set_option maxHeartbeats 16000000 in
set_option maxRecDepth 100000 in
theorem cless_any (w0 : World) (top B : Nat) (L : List EL) (i j : Nat) (w : World) (h : HEs w0 top B L w) (hi : i < L.length) (hj : j < L.length) :
  Calls Tryz.prog 163 #[.pointer (some ⟨B, 0, none⟩), .int .i64 i, .int .i64 j] w fun e w' => e = .returned (.bool (lessE (elAt L i) (elAt L j))) ∧ Kp w w' := by
 obtain ⟨g, cap, h3, h4, hc, hx, hgB, hg1, hg2⟩ := h.open (by omega)
 have ci := hx i hi 8 _ rfl
 have cj := hx j hj 8 _ rfl
 have q : w.cell? ⟨B, 0, none⟩ = some (.slice (some ⟨g, 0, none⟩) L.length cap) := by simp [World.cell?, h3]
 have z1 : (i : Int) < (L.length : Int) := by omega
 have z2 : (0 : Int) ≤ (i : Int) := by omega
 have z3 : (j : Int) < (L.length : Int) := by omega
 have z4 : (0 : Int) ≤ (j : Int) := by omega
 obtain ⟨r, hr⟩ : ∃ r, lessE (elAt L i) (elAt L j) = r := ⟨_, rfl⟩
 have hr2 : Go.Op.bytesLess (elAt L i).tx.toList (elAt L j).tx.toList = r := hr
 rw [hr]
 generalize (elAt L i).tx = xi at *
 generalize (elAt L j).tx = xj at *
 have HB := Lib.hid (fun w1 (k : Kp w w1) => show w1.cell? ⟨B, 0, none⟩ = some (.slice (some ⟨g, 0, none⟩) L.length cap) ∧ w1.cell? ⟨g, i * 9 + 8, none⟩ = some (.string xi) ∧ w1.cell? ⟨g, j * 9 + 8, none⟩ = some (.string xj) from ⟨cell_up k q, cell_up k ci, cell_up k cj⟩)
 have K0 := Lib.hid (Kp.refl w)
 clear h3 h4 hx h hr
 go_enter Tryz.func163, Tryz.ntmps163
 obtain ⟨c0, c1, c2⟩ := HB.out w (Kp.refl _)
 have KS := Lib.hid (fun w' (kq : Kp w w') => show w'.cell? ⟨B, 0, none⟩ = some (.slice (some ⟨g, 0, none⟩) L.length cap) ∧ w'.cell? ⟨g, i * 9 + 8, none⟩ = some (.string xi) ∧ w'.cell? ⟨g, j * 9 + 8, none⟩ = some (.string xj) ∧ Kp w w' from ⟨(HB.out w' (K0.out.trans kq)).1, (HB.out w' (K0.out.trans kq)).2.1, (HB.out w' (K0.out.trans kq)).2.2, kq⟩)
 go_wp2_with fail
 refine wp_region_held_drew (S := fun w' => w'.cell? ⟨B, 0, none⟩ = some (.slice (some ⟨g, 0, none⟩) L.length cap) ∧ w'.cell? ⟨g, i * 9 + 8, none⟩ = some (.string xi) ∧ w'.cell? ⟨g, j * 9 + 8, none⟩ = some (.string xj) ∧ Kp w w') (by kernel_rfl) ?_ (fun hHeld0 => ?_)
 ·(try dsimp only); exact KS.out _ (by first | assumption | exact Kp.drew _)
 refine tkv 0 lE0 ?_
 (try simp only [Act.put, lE0, List.setIfInBounds_toArray, List.set_cons_zero, List.set_cons_succ])
 refine tkv 1 lE1 ?_
 (try simp only [Act.put, lE1, List.setIfInBounds_toArray, List.set_cons_zero, List.set_cons_succ])
 refine tkv 2 lE2 ?_
 (try simp only [Act.put, lE2, List.setIfInBounds_toArray, List.set_cons_zero, List.set_cons_succ])
 refine tkv 3 lE3 ?_
 (try simp only [Act.put, lE3, List.setIfInBounds_toArray, List.set_cons_zero, List.set_cons_succ])
 refine tkv 4 lE4 ?_
 (try simp only [Act.put, lE4, List.setIfInBounds_toArray, List.set_cons_zero, List.set_cons_succ])
 refine tkv 5 lE5 ?_
 (try simp only [Act.put, lE5, List.setIfInBounds_toArray, List.set_cons_zero, List.set_cons_succ])
 refine tkv 6 lE6 ?_
 (try simp only [Act.put, lE6, List.setIfInBounds_toArray, List.set_cons_zero, List.set_cons_succ])
 refine tkv 7 lE7 ?_
 (try simp only [Act.put, lE7, List.setIfInBounds_toArray, List.set_cons_zero, List.set_cons_succ])
 refine tkv 8 lE8 ?_
 (try simp only [Act.put, lE8, List.setIfInBounds_toArray, List.set_cons_zero, List.set_cons_succ])
 refine tkv 9 lE9 ?_
 (try simp only [Act.put, lE9, List.setIfInBounds_toArray, List.set_cons_zero, List.set_cons_succ])
 refine tkv 10 lE10 ?_
 (try simp only [Act.put, lE10, List.setIfInBounds_toArray, List.set_cons_zero, List.set_cons_succ])
 refine tkv 11 lE11 ?_
 (try simp only [Act.put, lE11, List.setIfInBounds_toArray, List.set_cons_zero, List.set_cons_succ])
 refine tkv 12 lE12 ?_
 (try simp only [Act.put, lE12, List.setIfInBounds_toArray, List.set_cons_zero, List.set_cons_succ])
 refine tkv 13 lE13 ?_
 (try simp only [Act.put, lE13, List.setIfInBounds_toArray, List.set_cons_zero, List.set_cons_succ])
 refine tkv 14 lE14 ?_
 (try simp only [Act.put, lE14, List.setIfInBounds_toArray, List.set_cons_zero, List.set_cons_succ])
 refine tkv 15 lE15 ?_
 (try simp only [Act.put, lE15, List.setIfInBounds_toArray, List.set_cons_zero, List.set_cons_succ])
 refine tkv 16 lE16 ?_
 (try simp only [Act.put, lE16, List.setIfInBounds_toArray, List.set_cons_zero, List.set_cons_succ])
 refine tkv 17 lE17 ?_
 (try simp only [Act.put, lE17, List.setIfInBounds_toArray, List.set_cons_zero, List.set_cons_succ])
 refine wpAnyH_done (by kernel_rfl) ?_ _
 go_wp2
 go_ret
 exact ⟨by first | rfl | rw [hr2] | simp [hr2], (by first | assumption | exact Kp.drew _)⟩
abbrev sE0 : Oper := { dst := some 6, op := Go.Op.move (Go.Operand.tmp 0), type := 57, pos := "canon.go:76", after := #[], guard := none }
abbrev sE1 : Oper := { dst := some 7, op := Go.Op.nilCheck (Go.Operand.tmp 6), type := 0, pos := "canon.go:76", after := #[{ on := 0, ground := Go.Ground.data }], guard := none }
abbrev sE2 : Oper := { dst := some 8, op := Go.Op.fieldAddr 60 (Go.Operand.tmp 7) 0, type := 0, pos := "canon.go:76", after := #[{ on := 1, ground := Go.Ground.data }], guard := none }
abbrev sE3 : Oper := { dst := some 9, op := Go.Op.load 58 (Go.Operand.tmp 8), type := 58, pos := "canon.go:76", after := #[{ on := 2, ground := Go.Ground.data }], guard := none }
abbrev sE4 : Oper := { dst := some 10, op := Go.Op.move (Go.Operand.tmp 1), type := 3, pos := "canon.go:76", after := #[], guard := none }
abbrev sE5 : Oper := { dst := some 11, op := Go.Op.move (Go.Operand.tmp 0), type := 57, pos := "canon.go:76", after := #[], guard := none }
abbrev sE6 : Oper := { dst := some 12, op := Go.Op.nilCheck (Go.Operand.tmp 11), type := 0, pos := "canon.go:76", after := #[{ on := 5, ground := Go.Ground.data }], guard := none }
abbrev sE7 : Oper := { dst := some 13, op := Go.Op.fieldAddr 60 (Go.Operand.tmp 12) 0, type := 0, pos := "canon.go:76", after := #[{ on := 6, ground := Go.Ground.data }], guard := none }
abbrev sE8 : Oper := { dst := some 14, op := Go.Op.load 58 (Go.Operand.tmp 13), type := 58, pos := "canon.go:76", after := #[{ on := 7, ground := Go.Ground.data }], guard := none }
abbrev sE9 : Oper := { dst := some 15, op := Go.Op.move (Go.Operand.tmp 2), type := 3, pos := "canon.go:76", after := #[{ on := 25, ground := Go.Ground.gcOnly Go.Departure.lateStores }], guard := none }
abbrev sE10 : Oper := { dst := some 16, op := Go.Op.move (Go.Operand.tmp 0), type := 57, pos := "canon.go:76", after := #[], guard := none }
abbrev sE11 : Oper := { dst := some 17, op := Go.Op.nilCheck (Go.Operand.tmp 16), type := 0, pos := "canon.go:76", after := #[{ on := 10, ground := Go.Ground.data }], guard := none }
abbrev sE12 : Oper := { dst := some 18, op := Go.Op.fieldAddr 60 (Go.Operand.tmp 17) 0, type := 0, pos := "canon.go:76", after := #[{ on := 11, ground := Go.Ground.data }], guard := none }
abbrev sE13 : Oper := { dst := some 19, op := Go.Op.load 58 (Go.Operand.tmp 18), type := 58, pos := "canon.go:76", after := #[{ on := 12, ground := Go.Ground.data }], guard := none }
abbrev sE14 : Oper := { dst := some 20, op := Go.Op.move (Go.Operand.tmp 2), type := 3, pos := "canon.go:76", after := #[], guard := none }
abbrev sE15 : Oper := { dst := some 21, op := Go.Op.indexAddr 58 (Go.Operand.tmp 19) (Go.Operand.tmp 20), type := 0, pos := "canon.go:76", after := #[{ on := 13, ground := Go.Ground.data }, { on := 14, ground := Go.Ground.data }], guard := none }
abbrev sE16 : Oper := { dst := some 22, op := Go.Op.load 64 (Go.Operand.tmp 21), type := 64, pos := "canon.go:76", after := #[{ on := 15, ground := Go.Ground.data }], guard := none }
abbrev sE17 : Oper := { dst := some 23, op := Go.Op.move (Go.Operand.tmp 0), type := 57, pos := "canon.go:76", after := #[], guard := none }
abbrev sE18 : Oper := { dst := some 24, op := Go.Op.nilCheck (Go.Operand.tmp 23), type := 0, pos := "canon.go:76", after := #[{ on := 17, ground := Go.Ground.data }], guard := none }
abbrev sE19 : Oper := { dst := some 25, op := Go.Op.fieldAddr 60 (Go.Operand.tmp 24) 0, type := 0, pos := "canon.go:76", after := #[{ on := 18, ground := Go.Ground.data }], guard := none }
abbrev sE20 : Oper := { dst := some 26, op := Go.Op.load 58 (Go.Operand.tmp 25), type := 58, pos := "canon.go:76", after := #[{ on := 19, ground := Go.Ground.data }], guard := none }
abbrev sE21 : Oper := { dst := some 27, op := Go.Op.move (Go.Operand.tmp 1), type := 3, pos := "canon.go:76", after := #[], guard := none }
abbrev sE22 : Oper := { dst := some 28, op := Go.Op.indexAddr 58 (Go.Operand.tmp 26) (Go.Operand.tmp 27), type := 0, pos := "canon.go:76", after := #[{ on := 20, ground := Go.Ground.data }, { on := 21, ground := Go.Ground.data }], guard := none }
abbrev sE23 : Oper := { dst := some 29, op := Go.Op.load 64 (Go.Operand.tmp 28), type := 64, pos := "canon.go:76", after := #[{ on := 22, ground := Go.Ground.data }], guard := none }
abbrev sE24 : Oper := { dst := some 30, op := Go.Op.indexAddr 58 (Go.Operand.tmp 9) (Go.Operand.tmp 10), type := 0, pos := "canon.go:76", after := #[{ on := 3, ground := Go.Ground.data }, { on := 4, ground := Go.Ground.data }, { on := 0, ground := Go.Ground.phase }, { on := 1, ground := Go.Ground.phase }, { on := 2, ground := Go.Ground.phase }, { on := 3, ground := Go.Ground.phase }, { on := 4, ground := Go.Ground.phase }, { on := 5, ground := Go.Ground.textOnly Go.Departure.lateStores }, { on := 6, ground := Go.Ground.textOnly Go.Departure.lateStoresUnsure }, { on := 7, ground := Go.Ground.textOnly Go.Departure.lateStoresUnsure }, { on := 8, ground := Go.Ground.phase }, { on := 9, ground := Go.Ground.textOnly Go.Departure.lateStores }, { on := 10, ground := Go.Ground.phase }, { on := 11, ground := Go.Ground.phase }, { on := 12, ground := Go.Ground.phase }, { on := 13, ground := Go.Ground.phase }, { on := 14, ground := Go.Ground.phase }, { on := 15, ground := Go.Ground.phase }, { on := 16, ground := Go.Ground.phase }, { on := 17, ground := Go.Ground.textOnly Go.Departure.lateStores }, { on := 18, ground := Go.Ground.textOnly Go.Departure.lateStoresUnsure }, { on := 19, ground := Go.Ground.textOnly Go.Departure.lateStoresUnsure }, { on := 20, ground := Go.Ground.phase }, { on := 21, ground := Go.Ground.textOnly Go.Departure.lateStores }, { on := 22, ground := Go.Ground.textOnly Go.Departure.lateStoresUnsure }, { on := 23, ground := Go.Ground.phase }], guard := none }
abbrev sE25 : Oper := { dst := none, op := Go.Op.store 64 (Go.Operand.tmp 30) (Go.Operand.tmp 22), type := 0, pos := "canon.go:76", after := #[{ on := 24, ground := Go.Ground.data }, { on := 16, ground := Go.Ground.data }, { on := 0, ground := Go.Ground.phase }, { on := 1, ground := Go.Ground.phase }, { on := 2, ground := Go.Ground.phase }, { on := 3, ground := Go.Ground.phase }, { on := 4, ground := Go.Ground.phase }, { on := 5, ground := Go.Ground.textOnly Go.Departure.lateStores }, { on := 6, ground := Go.Ground.textOnly Go.Departure.lateStoresUnsure }, { on := 7, ground := Go.Ground.textOnly Go.Departure.lateStoresUnsure }, { on := 8, ground := Go.Ground.phase }, { on := 9, ground := Go.Ground.textOnly Go.Departure.lateStores }, { on := 10, ground := Go.Ground.phase }, { on := 11, ground := Go.Ground.phase }, { on := 12, ground := Go.Ground.phase }, { on := 13, ground := Go.Ground.phase }, { on := 14, ground := Go.Ground.phase }, { on := 15, ground := Go.Ground.phase }, { on := 16, ground := Go.Ground.phase }, { on := 17, ground := Go.Ground.textOnly Go.Departure.lateStores }, { on := 18, ground := Go.Ground.textOnly Go.Departure.lateStoresUnsure }, { on := 19, ground := Go.Ground.textOnly Go.Departure.lateStoresUnsure }, { on := 20, ground := Go.Ground.phase }, { on := 21, ground := Go.Ground.textOnly Go.Departure.lateStores }, { on := 22, ground := Go.Ground.textOnly Go.Departure.lateStoresUnsure }, { on := 23, ground := Go.Ground.phase }], guard := none }
abbrev sE26 : Oper := { dst := some 31, op := Go.Op.indexAddr 58 (Go.Operand.tmp 14) (Go.Operand.tmp 15), type := 0, pos := "canon.go:76", after := #[{ on := 8, ground := Go.Ground.data }, { on := 9, ground := Go.Ground.data }, { on := 0, ground := Go.Ground.phase }, { on := 1, ground := Go.Ground.phase }, { on := 2, ground := Go.Ground.phase }, { on := 3, ground := Go.Ground.phase }, { on := 4, ground := Go.Ground.phase }, { on := 5, ground := Go.Ground.phase }, { on := 6, ground := Go.Ground.phase }, { on := 7, ground := Go.Ground.phase }, { on := 8, ground := Go.Ground.phase }, { on := 9, ground := Go.Ground.phase }, { on := 10, ground := Go.Ground.phase }, { on := 11, ground := Go.Ground.phase }, { on := 12, ground := Go.Ground.phase }, { on := 13, ground := Go.Ground.phase }, { on := 14, ground := Go.Ground.phase }, { on := 15, ground := Go.Ground.phase }, { on := 16, ground := Go.Ground.phase }, { on := 17, ground := Go.Ground.phase }, { on := 18, ground := Go.Ground.phase }, { on := 19, ground := Go.Ground.phase }, { on := 20, ground := Go.Ground.phase }, { on := 21, ground := Go.Ground.phase }, { on := 22, ground := Go.Ground.phase }, { on := 23, ground := Go.Ground.phase }, { on := 24, ground := Go.Ground.phase }, { on := 25, ground := Go.Ground.phase }], guard := none }
abbrev sE27 : Oper := { dst := none, op := Go.Op.store 64 (Go.Operand.tmp 31) (Go.Operand.tmp 29), type := 0, pos := "canon.go:76", after := #[{ on := 26, ground := Go.Ground.data }, { on := 23, ground := Go.Ground.data }, { on := 25, ground := Go.Ground.chain }, { on := 0, ground := Go.Ground.phase }, { on := 1, ground := Go.Ground.phase }, { on := 2, ground := Go.Ground.phase }, { on := 3, ground := Go.Ground.phase }, { on := 4, ground := Go.Ground.phase }, { on := 5, ground := Go.Ground.phase }, { on := 6, ground := Go.Ground.phase }, { on := 7, ground := Go.Ground.phase }, { on := 8, ground := Go.Ground.phase }, { on := 9, ground := Go.Ground.phase }, { on := 10, ground := Go.Ground.phase }, { on := 11, ground := Go.Ground.phase }, { on := 12, ground := Go.Ground.phase }, { on := 13, ground := Go.Ground.phase }, { on := 14, ground := Go.Ground.phase }, { on := 15, ground := Go.Ground.phase }, { on := 16, ground := Go.Ground.phase }, { on := 17, ground := Go.Ground.phase }, { on := 18, ground := Go.Ground.phase }, { on := 19, ground := Go.Ground.phase }, { on := 20, ground := Go.Ground.phase }, { on := 21, ground := Go.Ground.phase }, { on := 22, ground := Go.Ground.phase }, { on := 23, ground := Go.Ground.phase }, { on := 24, ground := Go.Ground.phase }, { on := 25, ground := Go.Ground.phase }], guard := none }
set_option maxHeartbeats 16000000 in
set_option maxRecDepth 100000 in
theorem cswap_any (w0 : World) (top B : Nat) (L : List EL) (i j : Nat) (w : World) (h : HEs w0 top B L w) (hi : i < L.length) (hj : j < L.length) :
  Calls Tryz.prog 165 #[.pointer (some ⟨B, 0, none⟩), .int .i64 i, .int .i64 j] w fun e w' => e = .returned (.tuple #[]) ∧ HEs w0 top B (swe L i j) w' ∧ EW top w w' := by
 obtain ⟨g, cap, h3, h4, hc, hx, hgB, hg1, hg2⟩ := h.open (by omega)
 have k0 : Kp w w.drew := Kp.drew w
 have Ri := Lib.hid ((hx i hi).kp k0).range
 have Rj := Lib.hid ((hx j hj).kp k0).range
 have b0 := heap_block k0 h3
 have o0 := own_kp h4 k0
 obtain ⟨kq, hb1, o1, p1⟩ := HEs.put (top := top) (h.1.trans k0) h.2.1.1 hgB hg1 hg2 b0 o0 hi (elAt L j)
 obtain ⟨W1, hW1⟩ : ∃ x, w.drew.setCells g (i * 9) (cellsX (elAt L j)) = x := ⟨_, rfl⟩
 rw [hW1] at kq hb1 o1 p1
 have hj2 : j < (L.set i (elAt L j)).length := by rw [List.length_set]; exact hj
 obtain ⟨kq2, hb2, o2, p2⟩ := HEs.put (top := top) kq h.2.1.1 hgB hg1 hg2 hb1 o1 hj2 (elAt L i)
 obtain ⟨W2, hW2⟩ : ∃ x, W1.setCells g (j * 9) (cellsX (elAt L i)) = x := ⟨_, rfl⟩
 rw [hW2] at kq2 hb2 o2 p2
 have TH0 := Lib.hid (there_x o0 hi)
 have TH1 := Lib.hid (there_x o1 hj2)
 have DN := Lib.hid (show HEs w0 top B (swe L i j) W2 ∧ EW top w W2 from ⟨⟨kq2, ⟨h.2.1.1, h.2.1.2.1, Nat.le_trans h.2.1.2.2 (Nat.le_trans k0.size (Nat.le_trans p1.size p2.size))⟩, swe_sl h.2.2.1 hi hj, _, hb2, o2, fun j hj => by cases hj; exact hg1⟩, ((EW.kp k0).trans p1).trans p2⟩)
 rw [List.length_set] at hb1
 rw [List.length_set, List.length_set] at hb2
 have s0 : w.drew.cell? ⟨B, 0, none⟩ = some (.slice (some ⟨g, 0, none⟩) L.length cap) := by simp [World.cell?, b0]
 have s1 : W1.cell? ⟨B, 0, none⟩ = some (.slice (some ⟨g, 0, none⟩) L.length cap) := by simp [World.cell?, hb1]
 have s2 : W2.cell? ⟨B, 0, none⟩ = some (.slice (some ⟨g, 0, none⟩) L.length cap) := by simp [World.cell?, hb2]
 have S0 := Lib.hid s0
 have S1 := Lib.hid s1
 have S2 := Lib.hid s2
 have HW1 := Lib.hid hW1
 have HW2 := Lib.hid hW2
 have q : w.cell? ⟨B, 0, none⟩ = some (.slice (some ⟨g, 0, none⟩) L.length cap) := by simp [World.cell?, h3]
 have z1 : (i : Int) < (L.length : Int) := by omega
 have z2 : (0 : Int) ≤ (i : Int) := by omega
 have z3 : (j : Int) < (L.length : Int) := by omega
 have z4 : (0 : Int) ≤ (j : Int) := by omega
 obtain ⟨iad, in_, ic, hiv⟩ := h.2.2.1 _ (elAt_mem hi)
 obtain ⟨jad, jn, jc, hjv⟩ := h.2.2.1 _ (elAt_mem hj)
 clear h3 h4 hx h b0 o0 kq hb1 o1 p1 kq2 hb2 o2 p2 s0 s1 s2 hj2 k0 hW1 hW2
 generalize elAt L i = pi at *
 generalize elAt L j = pj at *
 generalize swe L i j = L2 at *
 obtain ⟨⟨ik, ⟨ipk, iy, im, id⟩, ia, it, il⟩, iv, ix⟩ := pi
 obtain ⟨⟨jk, ⟨jpk, jy, jm, jd⟩, ja, jt, jl⟩, jv, jx⟩ := pj
 simp only at hiv hjv
 subst hiv
 subst hjv
 simp only [cellsX, ND.k, ND.p, ND.a, ND.t] at Ri Rj HW1 HW2
 clear il jl
 go_enter Tryz.func165, Tryz.ntmps165
 go_wp2_with fail
 refine wp_region_held_drew (S := fun w' => w'.cell? ⟨B, 0, none⟩ = some (.slice (some ⟨g, 0, none⟩) L.length cap)) (by kernel_rfl) ?_ (fun hHeld0 => ?_)
 ·(try dsimp only); first | with_reducible exact S0.out | with_reducible exact S1.out | with_reducible exact S2.out
 refine tkv 0 sE0 ?_
 (try simp only [Act.put, sE0, List.setIfInBounds_toArray, List.set_cons_zero, List.set_cons_succ])
 refine tkv 1 sE1 ?_
 (try simp only [Act.put, sE1, List.setIfInBounds_toArray, List.set_cons_zero, List.set_cons_succ])
 refine tkv 2 sE2 ?_
 (try simp only [Act.put, sE2, List.setIfInBounds_toArray, List.set_cons_zero, List.set_cons_succ])
 refine tkv 3 sE3 ?_
 (try simp only [Act.put, sE3, List.setIfInBounds_toArray, List.set_cons_zero, List.set_cons_succ])
 refine tkv 4 sE4 ?_
 (try simp only [Act.put, sE4, List.setIfInBounds_toArray, List.set_cons_zero, List.set_cons_succ])
 refine tkv 5 sE5 ?_
 (try simp only [Act.put, sE5, List.setIfInBounds_toArray, List.set_cons_zero, List.set_cons_succ])
 refine tkv 6 sE6 ?_
 (try simp only [Act.put, sE6, List.setIfInBounds_toArray, List.set_cons_zero, List.set_cons_succ])
 refine tkv 7 sE7 ?_
 (try simp only [Act.put, sE7, List.setIfInBounds_toArray, List.set_cons_zero, List.set_cons_succ])
 refine tkv 8 sE8 ?_
 (try simp only [Act.put, sE8, List.setIfInBounds_toArray, List.set_cons_zero, List.set_cons_succ])
 refine tkv 9 sE9 ?_
 (try simp only [Act.put, sE9, List.setIfInBounds_toArray, List.set_cons_zero, List.set_cons_succ])
 refine tkv 10 sE10 ?_
 (try simp only [Act.put, sE10, List.setIfInBounds_toArray, List.set_cons_zero, List.set_cons_succ])
 refine tkv 11 sE11 ?_
 (try simp only [Act.put, sE11, List.setIfInBounds_toArray, List.set_cons_zero, List.set_cons_succ])
 refine tkv 12 sE12 ?_
 (try simp only [Act.put, sE12, List.setIfInBounds_toArray, List.set_cons_zero, List.set_cons_succ])
 refine tkv 13 sE13 ?_
 (try simp only [Act.put, sE13, List.setIfInBounds_toArray, List.set_cons_zero, List.set_cons_succ])
 refine tkv 14 sE14 ?_
 (try simp only [Act.put, sE14, List.setIfInBounds_toArray, List.set_cons_zero, List.set_cons_succ])
 refine tkv 15 sE15 ?_
 (try simp only [Act.put, sE15, List.setIfInBounds_toArray, List.set_cons_zero, List.set_cons_succ])
 refine tkv 17 sE17 ?_
 (try simp only [Act.put, sE17, List.setIfInBounds_toArray, List.set_cons_zero, List.set_cons_succ])
 refine tkv 18 sE18 ?_
 (try simp only [Act.put, sE18, List.setIfInBounds_toArray, List.set_cons_zero, List.set_cons_succ])
 refine tkv 19 sE19 ?_
 (try simp only [Act.put, sE19, List.setIfInBounds_toArray, List.set_cons_zero, List.set_cons_succ])
 refine tkv 20 sE20 ?_
 (try simp only [Act.put, sE20, List.setIfInBounds_toArray, List.set_cons_zero, List.set_cons_succ])
 refine tkv 21 sE21 ?_
 (try simp only [Act.put, sE21, List.setIfInBounds_toArray, List.set_cons_zero, List.set_cons_succ])
 refine tkv 22 sE22 ?_
 (try simp only [Act.put, sE22, List.setIfInBounds_toArray, List.set_cons_zero, List.set_cons_succ])
 refine tkE2 16 23 sE16 sE23 rfl rfl (by kernel_rfl) (fun K hK => ?_) (fun K hK => ?_)
 ·(refine ce_load rfl 64 (.tmp 21) rfl g (j * 9) (by simp [Act.eval, Act.put]) [.int .i64 jk, .int .i64 jpk, .string jy, .string jm, .string jd, .bool ja, .bool jt, .slice jad jn jc, .string jx] _ Rj.out Tryz.underlying64 rfl (by kernel_rfl) ?_)
  (try go_wp2_with fail)
  refine hK.out _ _ ?_ (fun hHeld1 => ?_)
  ·(try dsimp only); first | with_reducible exact S0.out | with_reducible exact S1.out | with_reducible exact S2.out
  clear hK K hHeld0
  (try simp only [Act.put, sE16, List.setIfInBounds_toArray, List.set_cons_zero, List.set_cons_succ])
  refine tkE 23 sE23 rfl (by kernel_rfl) (fun K hK => ?_)
  (refine ce_load rfl 64 (.tmp 28) rfl g (i * 9) (by simp [Act.eval, Act.put]) [.int .i64 ik, .int .i64 ipk, .string iy, .string im, .string id, .bool ia, .bool it, .slice iad in_ ic, .string ix] _ Ri.out Tryz.underlying64 rfl (by kernel_rfl) ?_)
  (try go_wp2_with fail)
  refine hK.out _ _ ?_ (fun hHeld2 => ?_)
  ·(try dsimp only); first | with_reducible exact S0.out | with_reducible exact S1.out | with_reducible exact S2.out
  clear hK K hHeld1
  (try simp only [Act.put, sE23, List.setIfInBounds_toArray, List.set_cons_zero, List.set_cons_succ])
  refine tkv 24 sE24 ?_
  (try simp only [Act.put, sE24, List.setIfInBounds_toArray, List.set_cons_zero, List.set_cons_succ])
  refine tkE 25 sE25 rfl (by kernel_rfl) (fun K hK => ?_)
  (refine ce_store rfl 64 (.tmp 30) (.tmp 22) rfl g (i * 9) [.int .i64 jk, .int .i64 jpk, .string jy, .string jm, .string jd, .bool ja, .bool jt, .slice jad jn jc, .string jx] (by simp [Act.eval, Act.put]) (by simp [Act.eval, Act.put]) TH0.out (by kernel_rfl) (all_oneCell_toArray (by intro v hv; simp only [List.mem_cons, List.not_mem_nil, or_false] at hv; rcases hv with rfl | rfl | rfl | rfl | rfl | rfl | rfl | rfl | rfl <;> rfl)) HW1.out ?_)
  (try go_wp2_with fail)
  refine hK.out _ _ ?_ (fun hHeld3 => ?_)
  ·(try dsimp only); first | with_reducible exact S0.out | with_reducible exact S1.out | with_reducible exact S2.out
  clear hK K hHeld2
  (try simp only [Act.put, sE25, List.setIfInBounds_toArray, List.set_cons_zero, List.set_cons_succ])
  refine tkv 26 sE26 ?_
  (try simp only [Act.put, sE26, List.setIfInBounds_toArray, List.set_cons_zero, List.set_cons_succ])
  refine tkE 27 sE27 rfl (by kernel_rfl) (fun K hK => ?_)
  (refine ce_store rfl 64 (.tmp 31) (.tmp 29) rfl g (j * 9) [.int .i64 ik, .int .i64 ipk, .string iy, .string im, .string id, .bool ia, .bool it, .slice iad in_ ic, .string ix] (by simp [Act.eval, Act.put]) (by simp [Act.eval, Act.put]) TH1.out (by kernel_rfl) (all_oneCell_toArray (by intro v hv; simp only [List.mem_cons, List.not_mem_nil, or_false] at hv; rcases hv with rfl | rfl | rfl | rfl | rfl | rfl | rfl | rfl | rfl <;> rfl)) HW2.out ?_)
  (try go_wp2_with fail)
  refine hK.out _ _ ?_ (fun hHeld4 => ?_)
  ·(try dsimp only); first | with_reducible exact S0.out | with_reducible exact S1.out | with_reducible exact S2.out
  clear hK K hHeld3
  (try simp only [Act.put, sE27, List.setIfInBounds_toArray, List.set_cons_zero, List.set_cons_succ])
  refine wpAnyH_done (by kernel_rfl) ?_ _
  go_wp2
  go_end0
  exact ⟨rfl, DN.out⟩
 ·(refine ce_load rfl 64 (.tmp 28) rfl g (i * 9) (by simp [Act.eval, Act.put]) [.int .i64 ik, .int .i64 ipk, .string iy, .string im, .string id, .bool ia, .bool it, .slice iad in_ ic, .string ix] _ Ri.out Tryz.underlying64 rfl (by kernel_rfl) ?_)
  (try go_wp2_with fail)
  refine hK.out _ _ ?_ (fun hHeld1 => ?_)
  ·(try dsimp only); first | with_reducible exact S0.out | with_reducible exact S1.out | with_reducible exact S2.out
  clear hK K hHeld0
  (try simp only [Act.put, sE23, List.setIfInBounds_toArray, List.set_cons_zero, List.set_cons_succ])
  refine tkE 16 sE16 rfl (by kernel_rfl) (fun K hK => ?_)
  (refine ce_load rfl 64 (.tmp 21) rfl g (j * 9) (by simp [Act.eval, Act.put]) [.int .i64 jk, .int .i64 jpk, .string jy, .string jm, .string jd, .bool ja, .bool jt, .slice jad jn jc, .string jx] _ Rj.out Tryz.underlying64 rfl (by kernel_rfl) ?_)
  (try go_wp2_with fail)
  refine hK.out _ _ ?_ (fun hHeld2 => ?_)
  ·(try dsimp only); first | with_reducible exact S0.out | with_reducible exact S1.out | with_reducible exact S2.out
  clear hK K hHeld1
  (try simp only [Act.put, sE16, List.setIfInBounds_toArray, List.set_cons_zero, List.set_cons_succ])
  refine tkv 24 sE24 ?_
  (try simp only [Act.put, sE24, List.setIfInBounds_toArray, List.set_cons_zero, List.set_cons_succ])
  refine tkE 25 sE25 rfl (by kernel_rfl) (fun K hK => ?_)
  (refine ce_store rfl 64 (.tmp 30) (.tmp 22) rfl g (i * 9) [.int .i64 jk, .int .i64 jpk, .string jy, .string jm, .string jd, .bool ja, .bool jt, .slice jad jn jc, .string jx] (by simp [Act.eval, Act.put]) (by simp [Act.eval, Act.put]) TH0.out (by kernel_rfl) (all_oneCell_toArray (by intro v hv; simp only [List.mem_cons, List.not_mem_nil, or_false] at hv; rcases hv with rfl | rfl | rfl | rfl | rfl | rfl | rfl | rfl | rfl <;> rfl)) HW1.out ?_)
  (try go_wp2_with fail)
  refine hK.out _ _ ?_ (fun hHeld3 => ?_)
  ·(try dsimp only); first | with_reducible exact S0.out | with_reducible exact S1.out | with_reducible exact S2.out
  clear hK K hHeld2
  (try simp only [Act.put, sE25, List.setIfInBounds_toArray, List.set_cons_zero, List.set_cons_succ])
  refine tkv 26 sE26 ?_
  (try simp only [Act.put, sE26, List.setIfInBounds_toArray, List.set_cons_zero, List.set_cons_succ])
  refine tkE 27 sE27 rfl (by kernel_rfl) (fun K hK => ?_)
  (refine ce_store rfl 64 (.tmp 31) (.tmp 29) rfl g (j * 9) [.int .i64 ik, .int .i64 ipk, .string iy, .string im, .string id, .bool ia, .bool it, .slice iad in_ ic, .string ix] (by simp [Act.eval, Act.put]) (by simp [Act.eval, Act.put]) TH1.out (by kernel_rfl) (all_oneCell_toArray (by intro v hv; simp only [List.mem_cons, List.not_mem_nil, or_false] at hv; rcases hv with rfl | rfl | rfl | rfl | rfl | rfl | rfl | rfl | rfl <;> rfl)) HW2.out ?_)
  (try go_wp2_with fail)
  refine hK.out _ _ ?_ (fun hHeld4 => ?_)
  ·(try dsimp only); first | with_reducible exact S0.out | with_reducible exact S1.out | with_reducible exact S2.out
  clear hK K hHeld3
  (try simp only [Act.put, sE27, List.setIfInBounds_toArray, List.set_cons_zero, List.set_cons_succ])
  refine wpAnyH_done (by kernel_rfl) ?_ _
  go_wp2
  go_end0
  exact ⟨rfl, DN.out⟩
def eIf (B : Nat) : Value := .iface 57 (.pointer (some ⟨B, 0, none⟩))
theorem eLen (B : Nat) (w : World) : (method 305 57 (.pointer (some ⟨B, 0, none⟩)) "Len").run Tryz.prog w = .ok (162, .pointer (some ⟨B, 0, none⟩)) w := by kernel_rfl
theorem eLess (B : Nat) (w : World) : (method 305 57 (.pointer (some ⟨B, 0, none⟩)) "Less").run Tryz.prog w = .ok (163, .pointer (some ⟨B, 0, none⟩)) w := by kernel_rfl
theorem eSwap (B : Nat) (w : World) : (method 305 57 (.pointer (some ⟨B, 0, none⟩)) "Swap").run Tryz.prog w = .ok (165, .pointer (some ⟨B, 0, none⟩)) w := by kernel_rfl
theorem ePop (B : Nat) (w : World) : (method 305 57 (.pointer (some ⟨B, 0, none⟩)) "Pop").run Tryz.prog w = .ok (164, .pointer (some ⟨B, 0, none⟩)) w := by kernel_rfl
set_option maxHeartbeats 16000000 in
set_option maxRecDepth 100000 in
theorem edown_any (w0 : World) (top B : Nat) (L : List EL) (x y : Int) (i0 n : Nat) (w : World) (h : HEs w0 top B L w) (hn : n ≤ L.length) (hL : L.length ≤ 1000) (h0 : i0 ≤ 1000) (hh : hpE L (i0 + 1) n) (hx : x = i0) (hy : y = n) :
  Calls Tryz.prog 70 #[eIf B, .int .i64 x, .int .i64 y] w fun e w' => ∃ v L', e = .returned v ∧ HEs w0 top B L' w' ∧ EW top w w' ∧ L'.Perm L ∧ hpE L' i0 n ∧ ∀ q, n ≤ q → elAt L' q = elAt L q := by
 subst hx hy
 have CL := Lib.hid (fun (x y : Int) (a b : Nat) (LL : List EL) (w1 : World) (h1 : HEs w0 top B LL w1) (ha : a < LL.length) (hb : b < LL.length) (hx : x = a) (hy : y = b) => (by subst hx hy; exact cless_any w0 top B LL a b w1 h1 ha hb : Calls Tryz.prog 163 #[.pointer (some ⟨B, 0, none⟩), .int .i64 x, .int .i64 y] w1 fun e w' => e = .returned (.bool (lessE (elAt LL a) (elAt LL b))) ∧ Kp w1 w'))
 have CS := Lib.hid (fun (x y : Int) (a b : Nat) (LL : List EL) (w1 : World) (h1 : HEs w0 top B LL w1) (ha : a < LL.length) (hb : b < LL.length) (hx : x = a) (hy : y = b) => (by subst hx hy; exact cswap_any w0 top B LL a b w1 h1 ha hb : Calls Tryz.prog 165 #[.pointer (some ⟨B, 0, none⟩), .int .i64 x, .int .i64 y] w1 fun e w' => e = .returned (.tuple #[]) ∧ HEs w0 top B (swe LL a b) w' ∧ EW top w1 w'))
 have ml := eLess B
 have ms := eSwap B
 have SF0 := Lib.hid (sfe_first hh)
 have HP0 := Lib.hid h
 have PW0 := Lib.hid (EW.refl top w)
 unfold eIf
 clear h hh
 go_enter Tryz.func70, Tryz.ntmps70
 go_wp2
 go_loopw [7] (fun i wr => ∃ (k : Nat) (Lc : List EL), k ≤ 1000 ∧ i = .int .i64 k ∧ Hid (i0 ≤ k ∧ Lc.length = L.length) ∧ Hid (HEs w0 top B Lc wr) ∧ Hid (EW top w wr) ∧ Hid (Lc.Perm L) ∧ Hid (sfe Lc i0 k n) ∧ Hid (∀ q, n ≤ q → elAt Lc q = elAt L q)) (fun i _ => 1000 - (intOf i).toNat)
 case atStart => exact ⟨i0, L, h0, rfl, Lib.hid ⟨Nat.le_refl _, rfl⟩, HP0, PW0, Lib.hid (List.Perm.refl _), SF0, Lib.hid (fun _ _ => rfl)⟩
 case round =>
  obtain ⟨k, Lc, hk, rfl, LN, HPL, PWL, PM, SF, TL⟩ := hrel
  by_cases h1 : 2 * k + 1 < n
  ·by_cases h2 : 2 * k + 2 < n
   ·cases hlb : lessE (elAt Lc (2 * k + 2)) (elAt Lc (2 * k + 1)) with
    | true =>
     have HLB := Lib.hid hlb
     have CLb := Lib.hid (fun x y w1 (h1 : HEs w0 top B Lc w1) hx hy => CL.out x y (2 * k + 2) (2 * k + 1) Lc w1 h1 (by have := LN.out.2; omega) (by have := LN.out.2; omega) hx hy)
     rw [hlb] at CLb
     clear hlb
     go_wp2_with fail
     refine (CLb.out _ _ _ HPL.out (by omega) (by omega)).mono ?_
     rintro e w7 ⟨rfl, kk⟩
     replace PWL := Lib.hid (PWL.out.trans (EW.kp kk))
     replace HPL := Lib.hid (HPL.out.kp kk)
     clear kk CLb
     have MN := Lib.hid (show ∀ c, kie c k → c < n → leE (elAt Lc (2 * k + 2)) (elAt Lc c) from fun c hc hcn => by rcases hc with rfl | rfl; exact lessE_le HLB.out; exact leE_refl _)
     clear HLB
     cases hl : lessE (elAt Lc (2 * k + 2)) (elAt Lc k) with
     | true =>
      have HL2 := Lib.hid hl
      have CL2 := Lib.hid (fun x y w1 (h1 : HEs w0 top B Lc w1) hx hy => CL.out x y (2 * k + 2) k Lc w1 h1 (by have := LN.out.2; omega) (by have := LN.out.2; omega) hx hy)
      rw [hl] at CL2
      clear hl
      go_wp2_with fail
      refine (CL2.out _ _ _ HPL.out (by omega) (by omega)).mono ?_
      rintro e w8 ⟨rfl, kk⟩
      have HP8 := Lib.hid (HPL.out.kp kk)
      have PW8 := Lib.hid (PWL.out.trans (EW.kp kk))
      clear kk
      go_wp2_with fail
      refine (CS.out _ _ k (2 * k + 2) Lc _ HP8.out (by have := LN.out.2; omega) (by have := LN.out.2; omega) (by omega) (by omega)).mono ?_
      rintro e w9 ⟨rfl, hp9, pw9⟩
      have HP9 := Lib.hid hp9
      have PW9 := Lib.hid (PW8.out.trans pw9)
      clear hp9 pw9
      go_wp2
      go_roundw
      case rel => exact ⟨(2 * k + 2), swe Lc k (2 * k + 2), by omega, by go_num, Lib.hid ⟨by have := LN.out.1; omega, by rw [swe_length]; exact LN.out.2⟩, HP9, PW9, Lib.hid ((swe_perm (by have := LN.out.2; omega) (by have := LN.out.2; omega)).trans PM.out), Lib.hid (sfe_step SF.out LN.out.1 (by unfold kie; omega) (by omega) (by have := LN.out.2; omega) HL2.out MN.out), Lib.hid (fun q hq => by rw [elAt_swe (by have := LN.out.2; omega) (by have := LN.out.2; omega), if_neg (by omega), if_neg (by omega)]; exact TL.out q hq)⟩
      case measure => simp [intOf]; omega
     | false =>
      have HL2 := Lib.hid (show leE (elAt Lc k) (elAt Lc (2 * k + 2)) from hl)
      have CL2 := Lib.hid (fun x y w1 (h1 : HEs w0 top B Lc w1) hx hy => CL.out x y (2 * k + 2) k Lc w1 h1 (by have := LN.out.2; omega) (by have := LN.out.2; omega) hx hy)
      rw [hl] at CL2
      clear hl
      go_wp2_with fail
      refine (CL2.out _ _ _ HPL.out (by omega) (by omega)).mono ?_
      rintro e w8 ⟨rfl, kk⟩
      have HP8 := Lib.hid (HPL.out.kp kk)
      have PW8 := Lib.hid (PWL.out.trans (EW.kp kk))
      clear kk
      go_wp2
      go_ret
      first | exact ⟨_, Lc, rfl, HP8.out, PW8.out, PM.out, sfe_last SF.out (fun c hc hcn => leE_trans HL2.out (MN.out c hc hcn)), TL.out⟩ | exact ⟨Lc, HP8.out, PW8.out, PM.out, sfe_last SF.out (fun c hc hcn => leE_trans HL2.out (MN.out c hc hcn)), TL.out⟩
    | false =>
     have HLB := Lib.hid (show leE (elAt Lc (2 * k + 1)) (elAt Lc (2 * k + 2)) from hlb)
     have CLb := Lib.hid (fun x y w1 (h1 : HEs w0 top B Lc w1) hx hy => CL.out x y (2 * k + 2) (2 * k + 1) Lc w1 h1 (by have := LN.out.2; omega) (by have := LN.out.2; omega) hx hy)
     rw [hlb] at CLb
     clear hlb
     go_wp2_with fail
     refine (CLb.out _ _ _ HPL.out (by omega) (by omega)).mono ?_
     rintro e w7 ⟨rfl, kk⟩
     replace PWL := Lib.hid (PWL.out.trans (EW.kp kk))
     replace HPL := Lib.hid (HPL.out.kp kk)
     clear kk CLb
     have MN := Lib.hid (show ∀ c, kie c k → c < n → leE (elAt Lc (2 * k + 1)) (elAt Lc c) from fun c hc hcn => by rcases hc with rfl | rfl; exact leE_refl _; exact HLB.out)
     clear HLB
     cases hl : lessE (elAt Lc (2 * k + 1)) (elAt Lc k) with
     | true =>
      have HL2 := Lib.hid hl
      have CL2 := Lib.hid (fun x y w1 (h1 : HEs w0 top B Lc w1) hx hy => CL.out x y (2 * k + 1) k Lc w1 h1 (by have := LN.out.2; omega) (by have := LN.out.2; omega) hx hy)
      rw [hl] at CL2
      clear hl
      go_wp2_with fail
      refine (CL2.out _ _ _ HPL.out (by omega) (by omega)).mono ?_
      rintro e w8 ⟨rfl, kk⟩
      have HP8 := Lib.hid (HPL.out.kp kk)
      have PW8 := Lib.hid (PWL.out.trans (EW.kp kk))
      clear kk
      go_wp2_with fail
      refine (CS.out _ _ k (2 * k + 1) Lc _ HP8.out (by have := LN.out.2; omega) (by have := LN.out.2; omega) (by omega) (by omega)).mono ?_
      rintro e w9 ⟨rfl, hp9, pw9⟩
      have HP9 := Lib.hid hp9
      have PW9 := Lib.hid (PW8.out.trans pw9)
      clear hp9 pw9
      go_wp2
      go_roundw
      case rel => exact ⟨(2 * k + 1), swe Lc k (2 * k + 1), by omega, by go_num, Lib.hid ⟨by have := LN.out.1; omega, by rw [swe_length]; exact LN.out.2⟩, HP9, PW9, Lib.hid ((swe_perm (by have := LN.out.2; omega) (by have := LN.out.2; omega)).trans PM.out), Lib.hid (sfe_step SF.out LN.out.1 (by unfold kie; omega) (by omega) (by have := LN.out.2; omega) HL2.out MN.out), Lib.hid (fun q hq => by rw [elAt_swe (by have := LN.out.2; omega) (by have := LN.out.2; omega), if_neg (by omega), if_neg (by omega)]; exact TL.out q hq)⟩
      case measure => simp [intOf]; omega
     | false =>
      have HL2 := Lib.hid (show leE (elAt Lc k) (elAt Lc (2 * k + 1)) from hl)
      have CL2 := Lib.hid (fun x y w1 (h1 : HEs w0 top B Lc w1) hx hy => CL.out x y (2 * k + 1) k Lc w1 h1 (by have := LN.out.2; omega) (by have := LN.out.2; omega) hx hy)
      rw [hl] at CL2
      clear hl
      go_wp2_with fail
      refine (CL2.out _ _ _ HPL.out (by omega) (by omega)).mono ?_
      rintro e w8 ⟨rfl, kk⟩
      have HP8 := Lib.hid (HPL.out.kp kk)
      have PW8 := Lib.hid (PWL.out.trans (EW.kp kk))
      clear kk
      go_wp2
      go_ret
      first | exact ⟨_, Lc, rfl, HP8.out, PW8.out, PM.out, sfe_last SF.out (fun c hc hcn => leE_trans HL2.out (MN.out c hc hcn)), TL.out⟩ | exact ⟨Lc, HP8.out, PW8.out, PM.out, sfe_last SF.out (fun c hc hcn => leE_trans HL2.out (MN.out c hc hcn)), TL.out⟩
   ·have HLB := Lib.hid h2
    have MN := Lib.hid (show ∀ c, kie c k → c < n → leE (elAt Lc (2 * k + 1)) (elAt Lc c) from fun c hc hcn => by rcases hc with rfl | rfl; exact leE_refl _; exact absurd hcn HLB.out)
    clear HLB
    cases hl : lessE (elAt Lc (2 * k + 1)) (elAt Lc k) with
    | true =>
     have HL2 := Lib.hid hl
     have CL2 := Lib.hid (fun x y w1 (h1 : HEs w0 top B Lc w1) hx hy => CL.out x y (2 * k + 1) k Lc w1 h1 (by have := LN.out.2; omega) (by have := LN.out.2; omega) hx hy)
     rw [hl] at CL2
     clear hl
     go_wp2_with fail
     refine (CL2.out _ _ _ HPL.out (by omega) (by omega)).mono ?_
     rintro e w8 ⟨rfl, kk⟩
     have HP8 := Lib.hid (HPL.out.kp kk)
     have PW8 := Lib.hid (PWL.out.trans (EW.kp kk))
     clear kk
     go_wp2_with fail
     refine (CS.out _ _ k (2 * k + 1) Lc _ HP8.out (by have := LN.out.2; omega) (by have := LN.out.2; omega) (by omega) (by omega)).mono ?_
     rintro e w9 ⟨rfl, hp9, pw9⟩
     have HP9 := Lib.hid hp9
     have PW9 := Lib.hid (PW8.out.trans pw9)
     clear hp9 pw9
     go_wp2
     go_roundw
     case rel => exact ⟨(2 * k + 1), swe Lc k (2 * k + 1), by omega, by go_num, Lib.hid ⟨by have := LN.out.1; omega, by rw [swe_length]; exact LN.out.2⟩, HP9, PW9, Lib.hid ((swe_perm (by have := LN.out.2; omega) (by have := LN.out.2; omega)).trans PM.out), Lib.hid (sfe_step SF.out LN.out.1 (by unfold kie; omega) (by omega) (by have := LN.out.2; omega) HL2.out MN.out), Lib.hid (fun q hq => by rw [elAt_swe (by have := LN.out.2; omega) (by have := LN.out.2; omega), if_neg (by omega), if_neg (by omega)]; exact TL.out q hq)⟩
     case measure => simp [intOf]; omega
    | false =>
     have HL2 := Lib.hid (show leE (elAt Lc k) (elAt Lc (2 * k + 1)) from hl)
     have CL2 := Lib.hid (fun x y w1 (h1 : HEs w0 top B Lc w1) hx hy => CL.out x y (2 * k + 1) k Lc w1 h1 (by have := LN.out.2; omega) (by have := LN.out.2; omega) hx hy)
     rw [hl] at CL2
     clear hl
     go_wp2_with fail
     refine (CL2.out _ _ _ HPL.out (by omega) (by omega)).mono ?_
     rintro e w8 ⟨rfl, kk⟩
     have HP8 := Lib.hid (HPL.out.kp kk)
     have PW8 := Lib.hid (PWL.out.trans (EW.kp kk))
     clear kk
     go_wp2
     go_ret
     first | exact ⟨_, Lc, rfl, HP8.out, PW8.out, PM.out, sfe_last SF.out (fun c hc hcn => leE_trans HL2.out (MN.out c hc hcn)), TL.out⟩ | exact ⟨Lc, HP8.out, PW8.out, PM.out, sfe_last SF.out (fun c hc hcn => leE_trans HL2.out (MN.out c hc hcn)), TL.out⟩
  ·go_wp2
   go_ret
   have DN := show HEs w0 top B Lc wr ∧ EW top w wr ∧ Lc.Perm L ∧ hpE Lc i0 n ∧ ∀ q, n ≤ q → elAt Lc q = elAt L q from ⟨HPL.out, PWL.out, PM.out, sfe_last SF.out (fun c hc hcn => by unfold kie at hc; omega), TL.out⟩
   first
    | exact ⟨_, Lc, rfl, DN⟩
    | exact ⟨⟨_, rfl⟩, Lc, DN⟩
set_option maxHeartbeats 16000000 in
set_option maxRecDepth 100000 in
theorem einit_any (w0 : World) (top B : Nat) (L : List EL) (w : World) (h : HEs w0 top B L w) (hL : L.length ≤ 1000) :
  Calls Tryz.prog 48 #[eIf B] w fun e w' => ∃ L', e = .returned (.tuple #[]) ∧ HEs w0 top B L' w' ∧ EW top w w' ∧ L'.Perm L ∧ hpE L' 0 L'.length := by
 have CN := Lib.hid (clen_any w0 top B L w h)
 have CD := Lib.hid (fun (x y : Int) (i0 : Nat) (LL : List EL) (w1 : World) (h1 : HEs w0 top B LL w1) (hl : LL.length = L.length) (hi : i0 ≤ 1000) (hh : hpE LL (i0 + 1) L.length) (hx : x = i0) (hy : y = L.length) => edown_any w0 top B LL x y i0 L.length w1 h1 (by omega) (by omega) hi hh hx hy)
 have ml := eLen B
 have HP0 := Lib.hid h
 have PW0 := Lib.hid (EW.refl top w)
 have SF0 := Lib.hid (show hpE L (L.length / 2) L.length from fun k c h1 h2 h3 => by unfold kie at h2; omega)
 have z0 : (0 : Int) ≤ (L.length : Int) := by omega
 unfold eIf at *
 clear h
 generalize hN : L.length = n at *
 have NN := Lib.hid hN
 clear hN
 go_enter Tryz.func48, Tryz.ntmps48
 go_wp2_with fail
 refine CN.out.mono ?_
 rintro e w1 ⟨rfl, rfl⟩
 go_wp2
 go_loopw [3] (fun i wr => ∃ (k : Nat) (Lc : List EL), k ≤ 1000 ∧ i = .int .i64 ((k : Int) - 1) ∧ Hid (Lc.length = n) ∧ Hid (HEs w0 top B Lc wr) ∧ Hid (EW top w wr) ∧ Hid (Lc.Perm L) ∧ Hid (hpE Lc k n)) (fun i _ => (intOf i + 1).toNat)
 case atStart => exact ⟨n / 2, L, by omega, by first | rfl | (congr 1; omega), NN, HP0, PW0, Lib.hid (List.Perm.refl _), SF0⟩
 case round =>
  obtain ⟨k, Lc, hk, rfl, LN, HPL, PWL, PM, SF⟩ := hrel
  by_cases h1 : 0 < k
  ·go_wp2_with fail
   refine (CD.out _ _ (k - 1) Lc _ HPL.out LN.out (by omega) (by rw [show k - 1 + 1 = k by omega]; exact SF.out) (by omega) rfl).mono ?_
   rintro e w2 ⟨b, L2, rfl, hp2, pw2, pm2, hf2, tl2⟩
   have HP2 := Lib.hid hp2
   have PW2 := Lib.hid (PWL.out.trans pw2)
   have PM2 := Lib.hid (pm2.trans PM.out)
   have SF2 := Lib.hid hf2
   have LN2 := Lib.hid (pm2.length_eq.trans LN.out)
   clear hp2 pw2 pm2 hf2 tl2
   go_wp2
   go_roundw
   case rel => exact ⟨k - 1, L2, by omega, by first | rfl | go_num | (congr 1; omega), LN2, HP2, PW2, PM2, SF2⟩
   case measure => simp [intOf]; omega
  ·obtain rfl : k = 0 := by omega
   go_wp2
   go_end0
   exact ⟨Lc, rfl, HPL.out, PWL.out, PM.out, by rw [LN.out]; exact SF.out⟩
def exV (e : EL) : Value := .agg (cellsX e).toArray
theorem ce_take {w : World} {base : Nat} {e : TypeId} {size g n m cap : Nat} {xs : List Value} (h : w.ownsRow base e size (.slice (some ⟨g, 0, none⟩) n cap) n xs) (hm : m ≤ n) : w.ownsRow base e size (.slice (some ⟨g, 0, none⟩) m cap) m (xs.take (m * size)) := by
 obtain ⟨hl, h⟩ := h
 have hq : m * size ≤ n * size := Nat.mul_le_mul_right _ hm
 refine ⟨by rw [List.length_take, hl]; omega, ?_⟩
 rcases h with ⟨h, _⟩ | ⟨g', cap', cur, e1, hb, hg, h1, h2, h3, h4⟩
 ·cases h
 ·cases e1
  refine .inr ⟨g, cap, cur, rfl, hb, hg, by omega, h2, h3, ?_⟩
  rw [← h4, List.take_take, Nat.min_eq_left hq]
set_option maxHeartbeats 16000000 in
set_option maxRecDepth 100000 in
theorem cpop_any (w0 : World) (top B : Nat) (L : List EL) (n : Nat) (w : World) (h : HEs w0 top B L w) (hn : L.length = n + 1) (hm : L.length ≤ 1000) :
  Calls Tryz.prog 164 #[.pointer (some ⟨B, 0, none⟩)] w fun e w' => e = .returned (.iface 64 (exV (elAt L n))) ∧ HEs w0 top B (L.take n) w' ∧ EW top w w' := by
 obtain ⟨g, cap, h3, h4, hc, hx, hgB, hg1, hg2⟩ := h.open (by omega)
 have ca0 := hx n (by omega) 0 _ rfl
 have ca1 := hx n (by omega) 1 _ rfl
 have ca2 := hx n (by omega) 2 _ rfl
 have ca3 := hx n (by omega) 3 _ rfl
 have ca4 := hx n (by omega) 4 _ rfl
 have ca5 := hx n (by omega) 5 _ rfl
 have ca6 := hx n (by omega) 6 _ rfl
 have ca7 := hx n (by omega) 7 _ rfl
 have ca8 := hx n (by omega) 8 _ rfl
 rw [Nat.add_zero] at ca0
 obtain ⟨pad, pn, pc, hpv⟩ := h.2.2.1 _ (elAt_mem (L := L) (i := n) (by omega))
 have hlt : (L.take n).length = n := by rw [List.length_take]; omega
 have o1 := ce_take h4 (m := n) (by omega)
 rw [cellsY_take] at o1
 have gB := (Array.getElem?_eq_some_iff.1 h3).1
 obtain ⟨W1, hW1⟩ : ∃ x, w.setCell ⟨B, 0, none⟩ (.slice (some ⟨g, 0, none⟩) n cap) = x := ⟨_, rfl⟩
 have k1 : Kp w0 W1 := by rw [← hW1]; exact Below.setCell h.1 (p := ⟨B, 0, none⟩) h.2.1.1 _
 have b1 : W1.heap[B]? = some (.cells #[.slice (some ⟨g, 0, none⟩) n cap] 60 (0, 0)) := by rw [← hW1]; exact ch_heap h3 0 _
 have r1 : W1.ownsRow w0.heap.size 64 9 (.slice (some ⟨g, 0, none⟩) n cap) (L.take n).length (cellsY (L.take n)) := by
  rw [hlt]
  refine ⟨o1.1, ?_⟩
  rcases o1.2 with q | ⟨g', cap', cur, e1, hb, hg, rest⟩
  ·exact .inl q
  ·cases e1
   exact .inr ⟨g, cap, cur, rfl, hb, by rw [← hW1]; exact (ch_other hgB _ _).trans hg, rest⟩
 have p1 : EW top w W1 := by rw [← hW1]; exact EW.set h.2.1.2.1 0 _
 have DN := Lib.hid (fun w' (k : Kp W1 w') => show HEs w0 top B (L.take n) w' ∧ EW top w w' from ⟨HEs.kp ⟨k1, ⟨h.2.1.1, h.2.1.2.1, Nat.le_trans h.2.1.2.2 p1.size⟩, fun e he => h.2.2.1 e (List.mem_of_mem_take he), _, b1, r1, fun j hj => by cases hj; exact hg1⟩ k, p1.trans (EW.kp k)⟩)
 have HW1 := Lib.hid hW1
 have q : w.cell? ⟨B, 0, none⟩ = some (.slice (some ⟨g, 0, none⟩) L.length cap) := by simp [World.cell?, h3]
 have f : w.frozen? ⟨B, 0, none⟩ = false := by simp [World.frozen?, h3]
 have hcn : n ≤ cap := by omega
 rw [hn] at q
 generalize L.take n = M at *
 generalize elAt L n = p at *
 obtain ⟨⟨pk, ⟨ppk, py, pm, pd⟩, pa, pt, pl⟩, pv, px⟩ := p
 simp only at hpv
 subst hpv
 simp only [exV, cellsX, ND.k, ND.p, ND.a, ND.t] at *
 have hn2 : n ≤ 1000 := by omega
 clear h3 h4 hx h o1 r1 b1 k1 p1 hW1 hc hn hm hlt hg1 hg2
 go_enter Tryz.func164, Tryz.ntmps164
 go_wp2
 rw [HW1.out]
 go_ret
 exact ⟨rfl, DN.out _ (Kp.alloc _ _)⟩
abbrev pU0 : Oper := { dst := some 12, op := Go.Op.move (Go.Operand.tmp 0), type := 57, pos := "canon.go:81", after := #[], guard := none }
abbrev pU1 : Oper := { dst := some 13, op := Go.Op.move (Go.Operand.tmp 0), type := 57, pos := "canon.go:81", after := #[], guard := none }
abbrev pU2 : Oper := { dst := some 14, op := Go.Op.nilCheck (Go.Operand.tmp 13), type := 0, pos := "canon.go:81", after := #[{ on := 1, ground := Go.Ground.data }], guard := none }
abbrev pU3 : Oper := { dst := some 15, op := Go.Op.fieldAddr 60 (Go.Operand.tmp 14) 0, type := 0, pos := "canon.go:81", after := #[{ on := 2, ground := Go.Ground.data }], guard := none }
abbrev pU4 : Oper := { dst := some 16, op := Go.Op.load 58 (Go.Operand.tmp 15), type := 58, pos := "canon.go:81", after := #[{ on := 3, ground := Go.Ground.data }], guard := none }
abbrev pU5 : Oper := { dst := some 17, op := Go.Op.load 64 (Go.Operand.tmp 4), type := 64, pos := "canon.go:81", after := #[], guard := none }
abbrev pU6 : Oper := { dst := some 18, op := Go.Op.buildSlice 58 1 #[(0, Go.Operand.tmp 17)], type := 58, pos := "canon.go:81", after := #[{ on := 5, ground := Go.Ground.data }], guard := none }
abbrev pU7 : Oper := { dst := some 19, op := Go.Op.call { callee := Go.Callee.builtin Go.Builtin.append, args := #[Go.Operand.tmp 16, Go.Operand.tmp 18], argTypes := #[58, 58] }, type := 58, pos := "canon.go:81", after := #[{ on := 4, ground := Go.Ground.data }, { on := 6, ground := Go.Ground.data }], guard := none }
abbrev pU8 : Oper := { dst := some 20, op := Go.Op.nilCheck (Go.Operand.tmp 12), type := 0, pos := "canon.go:81", after := #[{ on := 0, ground := Go.Ground.data }, { on := 0, ground := Go.Ground.phase }, { on := 1, ground := Go.Ground.phase }, { on := 2, ground := Go.Ground.phase }, { on := 3, ground := Go.Ground.phase }, { on := 4, ground := Go.Ground.phase }, { on := 5, ground := Go.Ground.phase }, { on := 6, ground := Go.Ground.phase }, { on := 7, ground := Go.Ground.phase }], guard := none }
abbrev pU9 : Oper := { dst := some 21, op := Go.Op.fieldAddr 60 (Go.Operand.tmp 20) 0, type := 0, pos := "canon.go:81", after := #[{ on := 8, ground := Go.Ground.data }, { on := 0, ground := Go.Ground.phase }, { on := 1, ground := Go.Ground.phase }, { on := 2, ground := Go.Ground.phase }, { on := 3, ground := Go.Ground.phase }, { on := 4, ground := Go.Ground.phase }, { on := 5, ground := Go.Ground.phase }, { on := 6, ground := Go.Ground.phase }, { on := 7, ground := Go.Ground.phase }], guard := none }
abbrev pU10 : Oper := { dst := none, op := Go.Op.store 58 (Go.Operand.tmp 21) (Go.Operand.tmp 19), type := 0, pos := "canon.go:81", after := #[{ on := 9, ground := Go.Ground.data }, { on := 7, ground := Go.Ground.data }, { on := 7, ground := Go.Ground.chain }, { on := 0, ground := Go.Ground.phase }, { on := 1, ground := Go.Ground.phase }, { on := 2, ground := Go.Ground.phase }, { on := 3, ground := Go.Ground.phase }, { on := 4, ground := Go.Ground.phase }, { on := 5, ground := Go.Ground.phase }, { on := 6, ground := Go.Ground.phase }, { on := 7, ground := Go.Ground.phase }], guard := none }
theorem infoElem : (Tryz.prog.info? 64).map (fun i => (i.zero, i.size, i.bytes)) = some (some (.agg #[.int .i64 0, .int .i64 0, .string ⟨#[]⟩, .string ⟨#[]⟩, .string ⟨#[]⟩, .bool false, .bool false, .slice none 0 0, .string ⟨#[]⟩]), 9, 112) := by kernel_rfl
theorem ce_setc {w : World} {base : Nat} {e t : TypeId} {size n B : Nat} {v y x : Value} {xs : List Value} {fr : Nat × Nat} (h : w.ownsRow base e size v n xs) (hB : w.heap[B]? = some (.cells #[y] t fr)) (ht : (t == e) = false) : (w.setCell ⟨B, 0, none⟩ x).ownsRow base e size v n xs := by
 have hn := ch_ne h hB ht
 refine ⟨h.1, ?_⟩
 rcases h.2 with h2 | ⟨g, cap, cur, e1, hb, hg, rest⟩
 ·exact .inl h2
 ·exact .inr ⟨g, cap, cur, e1, hb, (ch_other (hn g (by rw [e1]; rfl)) _ _).trans hg, rest⟩
theorem elem_src {w' : World} {g : Nat} {p : EL} (h : w'.heap[g]? = some (.cells (cellsX p).toArray 64 (0, 0))) : SrcAt w' (.slice (some ⟨g, 0, none⟩) 1 1) 1 (cellsX p) := by
 refine .inr ⟨_, _, rfl, fun j u hu => ?_⟩
 rw [Addr.add_lit]
 have hj : j < 9 := (List.getElem?_eq_some_iff.1 hu).1
 simp [World.cell?, h, hu]
set_option maxHeartbeats 16000000 in
set_option maxRecDepth 100000 in
theorem cpush_any (w0 : World) (top B : Nat) (L : List EL) (p : EL) (w : World) (h : HEs w0 top B L w) (hp : ∃ ad n c, p.v = .slice ad n c) (hm : L.length ≤ 1000) :
  Calls Tryz.prog 30 #[.pointer (some ⟨B, 0, none⟩), .iface 64 (exV p)] w fun e w' => e = .returned (.tuple #[]) ∧ HEs w0 w'.heap.size B (L ++ [p]) w' ∧ EW top w w' := by
 have as_ : ∀ (v : Value) (w : World), (Instr.typeAssert (.iface 64 v) 20 64 true).run Tryz.prog w = .ok (.tuple #[v, .bool true]) w := fun _ _ => by kernel_rfl
 obtain ⟨i0, hi, hz0, hz1, hz2⟩ := info_parts infoElem
 obtain ⟨k0, ⟨hB, hBt, _⟩, hsl, v0, bx, own, hrt⟩ := h
 obtain ⟨ad, c0, rfl⟩ := own_slice own
 obtain ⟨⟨pk, ⟨ppk, py, pm, pd⟩, pa, pt, pl⟩, pv, px⟩ := p
 obtain ⟨pad, pn, pc, hpv⟩ := hp
 simp only at hpv
 subst hpv
 have SLH := Lib.hid hsl
 have HRT := Lib.hid hrt
 simp only [exV, cellsX, ND.k, ND.p, ND.a, ND.t]
 clear hsl hrt
 obtain ⟨V, hV⟩ : ∃ x, x = w.alloc (.cells #[.int .i64 pk, .int .i64 ppk, .string py, .string pm, .string pd, .bool pa, .bool pt, .slice pad pn pc, .string px] 64) := ⟨_, rfl⟩
 have kv : Kp w V := by rw [hV]; exact Kp.alloc _ _
 have hgq : V.heap[w.heap.size]? = some (.cells #[.int .i64 pk, .int .i64 ppk, .string py, .string pm, .string pd, .bool pa, .bool pt, .slice pad pn pc, .string px] 64 (0, 0)) := by rw [hV]; exact heap_at _ _ _ rfl
 have gBw := (Array.getElem?_eq_some_iff.1 bx).1
 have bxV := heap_block kv bx
 have ownV := own_kp own kv
 have cB : V.cell? ⟨B, 0, none⟩ = some (.slice ad L.length c0) := by simp [World.cell?, bxV]
 have gB := (Array.getElem?_eq_some_iff.1 bxV).1
 have neB : (⟨B, 0, none⟩ : Addr).block ≠ w.heap.size := by simp only; omega
 have HS := Lib.hid (fun w' (k : Kp V w') => show w'.cell? ⟨w.heap.size, 0, none⟩ = some (.int .i64 pk) ∧ w'.cell? ⟨w.heap.size, 1, none⟩ = some (.int .i64 ppk) ∧ w'.cell? ⟨w.heap.size, 2, none⟩ = some (.string py) ∧ w'.cell? ⟨w.heap.size, 3, none⟩ = some (.string pm) ∧ w'.cell? ⟨w.heap.size, 4, none⟩ = some (.string pd) ∧ w'.cell? ⟨w.heap.size, 5, none⟩ = some (.bool pa) ∧ w'.cell? ⟨w.heap.size, 6, none⟩ = some (.bool pt) ∧ w'.cell? ⟨w.heap.size, 7, none⟩ = some (.slice pad pn pc) ∧ w'.cell? ⟨w.heap.size, 8, none⟩ = some (.string px) from ⟨cell_up k (by simp [World.cell?, hgq]), cell_up k (by simp [World.cell?, hgq]), cell_up k (by simp [World.cell?, hgq]), cell_up k (by simp [World.cell?, hgq]), cell_up k (by simp [World.cell?, hgq]), cell_up k (by simp [World.cell?, hgq]), cell_up k (by simp [World.cell?, hgq]), cell_up k (by simp [World.cell?, hgq]), cell_up k (by simp [World.cell?, hgq])⟩)
 have HVV := Lib.hid hV
 have KV0 := Lib.hid (k0.trans kv)
 have KWV := Lib.hid kv
 have kx := ((Kp.alloc _ _).trans (Kp.drew _) : Kp V (V.alloc (.cells #[.int .i64 pk, .int .i64 ppk, .string py, .string pm, .string pd, .bool pa, .bool pt, .slice pad pn pc, .string px] 64)).drew)
 have SRC := Lib.hid (elem_src (w' := (V.alloc (.cells #[.int .i64 pk, .int .i64 ppk, .string py, .string pm, .string pd, .bool pa, .bool pt, .slice pad pn pc, .string px] 64)).drew) (g := V.heap.size) (p := (EL.mk (.mk pk ⟨ppk, py, pm, pd⟩ pa pt pl) (.slice pad pn pc) px)) (heap_block (Kp.drew _) (heap_at V _ _ rfl)))
 have own5 := Lib.hid (own_kp ownV kx)
 have BX5 := Lib.hid (heap_block kx bxV)
 have NE5 := Lib.hid (ch_ne own5.out BX5.out (by kernel_rfl))
 have LT5 := Lib.hid ((Array.getElem?_eq_some_iff.1 BX5.out).1)
 have NEB := Lib.hid (fun j (hj : (Value.slice ad L.length c0).ownBlock = some j) => (fun (e : j = w.heap.size) => by have := (own.lt j hj).2; omega : j ≠ w.heap.size))
 have LB5 := Lib.hid (Nat.lt_of_lt_of_le (Array.getElem?_eq_some_iff.1 hgq).1 kx.size)
 have LE5 := Lib.hid (Nat.le_trans k0.size (Nat.le_trans kv.size kx.size))
 have hS5 := Lib.hid (HS.out _ kx)
 clear own bx hV kv hgq bxV ownV k0 kx
 go_enter Tryz.func30, Tryz.ntmps30
 go_wp2_with fail
 rw [← HVV.out]
 refine wp_region_held_drew (S := fun w' => w'.cell? ⟨w.heap.size, 0, none⟩ = some (.int .i64 pk) ∧ w'.cell? ⟨w.heap.size, 1, none⟩ = some (.int .i64 ppk) ∧ w'.cell? ⟨w.heap.size, 2, none⟩ = some (.string py) ∧ w'.cell? ⟨w.heap.size, 3, none⟩ = some (.string pm) ∧ w'.cell? ⟨w.heap.size, 4, none⟩ = some (.string pd) ∧ w'.cell? ⟨w.heap.size, 5, none⟩ = some (.bool pa) ∧ w'.cell? ⟨w.heap.size, 6, none⟩ = some (.bool pt) ∧ w'.cell? ⟨w.heap.size, 7, none⟩ = some (.slice pad pn pc) ∧ w'.cell? ⟨w.heap.size, 8, none⟩ = some (.string px)) (by kernel_rfl) ?_ (fun hHeld0 => ?_)
 ·(try dsimp only); first | with_reducible exact HS.out _ (Kp.drew _) | with_reducible exact HS.out _ ((Kp.alloc _ _).trans (Kp.drew _)) | with_reducible exact hS6 | exact ⟨by rw [World.cell?_setCell_far _ _ _ _ neB]; exact hS6.1, by rw [World.cell?_setCell_far _ _ _ _ neB]; exact hS6.2.1, by rw [World.cell?_setCell_far _ _ _ _ neB]; exact hS6.2.2.1, by rw [World.cell?_setCell_far _ _ _ _ neB]; exact hS6.2.2.2.1, by rw [World.cell?_setCell_far _ _ _ _ neB]; exact hS6.2.2.2.2.1, by rw [World.cell?_setCell_far _ _ _ _ neB]; exact hS6.2.2.2.2.2.1, by rw [World.cell?_setCell_far _ _ _ _ neB]; exact hS6.2.2.2.2.2.2.1, by rw [World.cell?_setCell_far _ _ _ _ neB]; exact hS6.2.2.2.2.2.2.2.1, by rw [World.cell?_setCell_far _ _ _ _ neB]; exact hS6.2.2.2.2.2.2.2.2⟩
 refine tkv 0 pU0 ?_
 (try simp only [Act.put, pU0, List.setIfInBounds_toArray, List.set_cons_zero, List.set_cons_succ])
 refine tkv 1 pU1 ?_
 (try simp only [Act.put, pU1, List.setIfInBounds_toArray, List.set_cons_zero, List.set_cons_succ])
 refine tkv 2 pU2 ?_
 (try simp only [Act.put, pU2, List.setIfInBounds_toArray, List.set_cons_zero, List.set_cons_succ])
 refine tkv 3 pU3 ?_
 (try simp only [Act.put, pU3, List.setIfInBounds_toArray, List.set_cons_zero, List.set_cons_succ])
 refine tkv 5 pU5 ?_
 (try simp only [Act.put, pU5, List.setIfInBounds_toArray, List.set_cons_zero, List.set_cons_succ])
 refine tkE2 4 6 pU4 pU6 rfl rfl (by kernel_rfl) (fun K hK => ?_) (fun K hK => ?_)
 ·go_simp
  skip
  (try go_wp2_with fail)
  refine hK.out _ _ ?_ (fun hHeld1 => ?_)
  ·(try dsimp only); first | with_reducible exact HS.out _ (Kp.drew _) | with_reducible exact HS.out _ ((Kp.alloc _ _).trans (Kp.drew _)) | with_reducible exact hS6 | exact ⟨by rw [World.cell?_setCell_far _ _ _ _ neB]; exact hS6.1, by rw [World.cell?_setCell_far _ _ _ _ neB]; exact hS6.2.1, by rw [World.cell?_setCell_far _ _ _ _ neB]; exact hS6.2.2.1, by rw [World.cell?_setCell_far _ _ _ _ neB]; exact hS6.2.2.2.1, by rw [World.cell?_setCell_far _ _ _ _ neB]; exact hS6.2.2.2.2.1, by rw [World.cell?_setCell_far _ _ _ _ neB]; exact hS6.2.2.2.2.2.1, by rw [World.cell?_setCell_far _ _ _ _ neB]; exact hS6.2.2.2.2.2.2.1, by rw [World.cell?_setCell_far _ _ _ _ neB]; exact hS6.2.2.2.2.2.2.2.1, by rw [World.cell?_setCell_far _ _ _ _ neB]; exact hS6.2.2.2.2.2.2.2.2⟩
  clear hK K hHeld0
  (try simp only [Act.put, pU4, List.setIfInBounds_toArray, List.set_cons_zero, List.set_cons_succ])
  refine tkE 6 pU6 rfl (by kernel_rfl) (fun K hK => ?_)
  go_simp
  skip
  (try go_wp2_with fail)
  refine hK.out _ _ ?_ (fun hHeld2 => ?_)
  ·(try dsimp only); first | with_reducible exact HS.out _ (Kp.drew _) | with_reducible exact HS.out _ ((Kp.alloc _ _).trans (Kp.drew _)) | with_reducible exact hS6 | exact ⟨by rw [World.cell?_setCell_far _ _ _ _ neB]; exact hS6.1, by rw [World.cell?_setCell_far _ _ _ _ neB]; exact hS6.2.1, by rw [World.cell?_setCell_far _ _ _ _ neB]; exact hS6.2.2.1, by rw [World.cell?_setCell_far _ _ _ _ neB]; exact hS6.2.2.2.1, by rw [World.cell?_setCell_far _ _ _ _ neB]; exact hS6.2.2.2.2.1, by rw [World.cell?_setCell_far _ _ _ _ neB]; exact hS6.2.2.2.2.2.1, by rw [World.cell?_setCell_far _ _ _ _ neB]; exact hS6.2.2.2.2.2.2.1, by rw [World.cell?_setCell_far _ _ _ _ neB]; exact hS6.2.2.2.2.2.2.2.1, by rw [World.cell?_setCell_far _ _ _ _ neB]; exact hS6.2.2.2.2.2.2.2.2⟩
  clear hK K hHeld1
  (try simp only [Act.put, pU6, List.setIfInBounds_toArray, List.set_cons_zero, List.set_cons_succ])
  refine tkE 7 pU7 rfl (by kernel_rfl) (fun K hK => ?_)
  (refine step_app rfl (.tmp 16) (.tmp 18) 58 rfl w0.heap.size 64 i0 (.agg #[.int .i64 0, .int .i64 0, .string ⟨#[]⟩, .string ⟨#[]⟩, .string ⟨#[]⟩, .bool false, .bool false, .slice none 0 0, .string ⟨#[]⟩]) 9 112 Tryz.underlying58 hi hz0 hz1 hz2 rfl (by decide) _ _ _ (by simp [Act.eval, Act.put]) own5.out _ _ _ (by simp [Act.eval, Act.put]) SRC.out rfl (sl_one ⟨_, _, _, rfl⟩) (by unfold maxLen; omega) (by omega) LE5.out ?_; intro v6 w6 own6 grow6; obtain ⟨ad6, c6, rfl⟩ := own_slice own6; have bx6 : w6.heap[B]? = some (.cells #[.slice ad L.length c0] 60 (0, 0)) := (grow6.block B LT5.out (fun c => NE5.out B c.symm rfl)).trans BX5.out; have hS6 : w6.cell? ⟨w.heap.size, 0, none⟩ = some (.int .i64 pk) ∧ w6.cell? ⟨w.heap.size, 1, none⟩ = some (.int .i64 ppk) ∧ w6.cell? ⟨w.heap.size, 2, none⟩ = some (.string py) ∧ w6.cell? ⟨w.heap.size, 3, none⟩ = some (.string pm) ∧ w6.cell? ⟨w.heap.size, 4, none⟩ = some (.string pd) ∧ w6.cell? ⟨w.heap.size, 5, none⟩ = some (.bool pa) ∧ w6.cell? ⟨w.heap.size, 6, none⟩ = some (.bool pt) ∧ w6.cell? ⟨w.heap.size, 7, none⟩ = some (.slice pad pn pc) ∧ w6.cell? ⟨w.heap.size, 8, none⟩ = some (.string px) := ⟨(grown_cell grow6 LB5.out NEB.out).trans hS5.out.1, (grown_cell grow6 LB5.out NEB.out).trans hS5.out.2.1, (grown_cell grow6 LB5.out NEB.out).trans hS5.out.2.2.1, (grown_cell grow6 LB5.out NEB.out).trans hS5.out.2.2.2.1, (grown_cell grow6 LB5.out NEB.out).trans hS5.out.2.2.2.2.1, (grown_cell grow6 LB5.out NEB.out).trans hS5.out.2.2.2.2.2.1, (grown_cell grow6 LB5.out NEB.out).trans hS5.out.2.2.2.2.2.2.1, (grown_cell grow6 LB5.out NEB.out).trans hS5.out.2.2.2.2.2.2.2.1, (grown_cell grow6 LB5.out NEB.out).trans hS5.out.2.2.2.2.2.2.2.2⟩; have cB6 : w6.cell? ⟨B, 0, none⟩ = some (.slice ad L.length c0) := (by simp [World.cell?, bx6]); have fB6 : w6.frozen? ⟨B, 0, none⟩ = false := (by simp [World.frozen?, bx6]))
  (try go_wp2_with fail)
  refine hK.out _ _ ?_ (fun hHeld3 => ?_)
  ·(try dsimp only); first | with_reducible exact HS.out _ (Kp.drew _) | with_reducible exact HS.out _ ((Kp.alloc _ _).trans (Kp.drew _)) | with_reducible exact hS6 | exact ⟨by rw [World.cell?_setCell_far _ _ _ _ neB]; exact hS6.1, by rw [World.cell?_setCell_far _ _ _ _ neB]; exact hS6.2.1, by rw [World.cell?_setCell_far _ _ _ _ neB]; exact hS6.2.2.1, by rw [World.cell?_setCell_far _ _ _ _ neB]; exact hS6.2.2.2.1, by rw [World.cell?_setCell_far _ _ _ _ neB]; exact hS6.2.2.2.2.1, by rw [World.cell?_setCell_far _ _ _ _ neB]; exact hS6.2.2.2.2.2.1, by rw [World.cell?_setCell_far _ _ _ _ neB]; exact hS6.2.2.2.2.2.2.1, by rw [World.cell?_setCell_far _ _ _ _ neB]; exact hS6.2.2.2.2.2.2.2.1, by rw [World.cell?_setCell_far _ _ _ _ neB]; exact hS6.2.2.2.2.2.2.2.2⟩
  clear hK K hHeld2
  (try simp only [Act.put, pU7, List.setIfInBounds_toArray, List.set_cons_zero, List.set_cons_succ])
  refine tkv 8 pU8 ?_
  (try simp only [Act.put, pU8, List.setIfInBounds_toArray, List.set_cons_zero, List.set_cons_succ])
  refine tkv 9 pU9 ?_
  (try simp only [Act.put, pU9, List.setIfInBounds_toArray, List.set_cons_zero, List.set_cons_succ])
  refine tkE 10 pU10 rfl (by kernel_rfl) (fun K hK => ?_)
  go_simp
  skip
  (try go_wp2_with fail)
  refine hK.out _ _ ?_ (fun hHeld4 => ?_)
  ·(try dsimp only); first | with_reducible exact HS.out _ (Kp.drew _) | with_reducible exact HS.out _ ((Kp.alloc _ _).trans (Kp.drew _)) | with_reducible exact hS6 | exact ⟨by rw [World.cell?_setCell_far _ _ _ _ neB]; exact hS6.1, by rw [World.cell?_setCell_far _ _ _ _ neB]; exact hS6.2.1, by rw [World.cell?_setCell_far _ _ _ _ neB]; exact hS6.2.2.1, by rw [World.cell?_setCell_far _ _ _ _ neB]; exact hS6.2.2.2.1, by rw [World.cell?_setCell_far _ _ _ _ neB]; exact hS6.2.2.2.2.1, by rw [World.cell?_setCell_far _ _ _ _ neB]; exact hS6.2.2.2.2.2.1, by rw [World.cell?_setCell_far _ _ _ _ neB]; exact hS6.2.2.2.2.2.2.1, by rw [World.cell?_setCell_far _ _ _ _ neB]; exact hS6.2.2.2.2.2.2.2.1, by rw [World.cell?_setCell_far _ _ _ _ neB]; exact hS6.2.2.2.2.2.2.2.2⟩
  clear hK K hHeld3
  (try simp only [Act.put, pU10, List.setIfInBounds_toArray, List.set_cons_zero, List.set_cons_succ])
  refine wpAnyH_done (by kernel_rfl) ?_ _
  have O6 : w6.ownsRow w0.heap.size 64 9 (.slice ad6 (L.length + 1) c6) (L ++ [(EL.mk (.mk pk ⟨ppk, py, pm, pd⟩ pa pt pl) (.slice pad pn pc) px)]).length (cellsY (L ++ [(EL.mk (.mk pk ⟨ppk, py, pm, pd⟩ pa pt pl) (.slice pad pn pc) px)])) := by rewrite [cellsY_append, List.length_append]; exact own6
  have K6 : Kp w0 w6 := (KV0.out.trans ((Kp.alloc _ _).trans (Kp.drew _))).grown grow6 (fun j hj => (own5.out.lt j hj).1)
  have OF := ce_setc (x := .slice ad6 (L.length + 1) c6) O6 bx6 (by kernel_rfl)
  have HF := ch_heap bx6 0 (.slice ad6 (L.length + 1) c6)
  have DF : HEs w0 (w6.setCell ⟨B, 0, none⟩ (.slice ad6 (L.length + 1) c6)).heap.size B (L ++ [(EL.mk (.mk pk ⟨ppk, py, pm, pd⟩ pa pt pl) (.slice pad pn pc) px)]) (w6.setCell ⟨B, 0, none⟩ (.slice ad6 (L.length + 1) c6)) := ⟨Below.setCell K6 (p := ⟨B, 0, none⟩) hB _, ⟨hB, (Array.getElem?_eq_some_iff.1 HF).1, Nat.le_refl _⟩, fun e he => (List.mem_append.1 he).elim (SLH.out e) (fun q => by rw [List.mem_singleton.1 q]; exact ⟨_, _, _, rfl⟩), _, HF, OF, fun j hj => (OF.lt j hj).2⟩
  have DH := Lib.hid DF
  have EH := Lib.hid (show EW top w (w6.setCell ⟨B, 0, none⟩ (.slice ad6 (L.length + 1) c6)) from ((EW.kp KWV.out).trans ((EW.kp ((Kp.alloc _ _).trans (Kp.drew _))).trans (EW.grown grow6 HRT.out))).trans (EW.set hBt 0 _))
  clear O6 K6 DF OF HF
  go_wp2
  go_end0
  exact ⟨rfl, DH.out, EH.out⟩
 ·go_simp
  skip
  (try go_wp2_with fail)
  refine hK.out _ _ ?_ (fun hHeld1 => ?_)
  ·(try dsimp only); first | with_reducible exact HS.out _ (Kp.drew _) | with_reducible exact HS.out _ ((Kp.alloc _ _).trans (Kp.drew _)) | with_reducible exact hS6 | exact ⟨by rw [World.cell?_setCell_far _ _ _ _ neB]; exact hS6.1, by rw [World.cell?_setCell_far _ _ _ _ neB]; exact hS6.2.1, by rw [World.cell?_setCell_far _ _ _ _ neB]; exact hS6.2.2.1, by rw [World.cell?_setCell_far _ _ _ _ neB]; exact hS6.2.2.2.1, by rw [World.cell?_setCell_far _ _ _ _ neB]; exact hS6.2.2.2.2.1, by rw [World.cell?_setCell_far _ _ _ _ neB]; exact hS6.2.2.2.2.2.1, by rw [World.cell?_setCell_far _ _ _ _ neB]; exact hS6.2.2.2.2.2.2.1, by rw [World.cell?_setCell_far _ _ _ _ neB]; exact hS6.2.2.2.2.2.2.2.1, by rw [World.cell?_setCell_far _ _ _ _ neB]; exact hS6.2.2.2.2.2.2.2.2⟩
  clear hK K hHeld0
  (try simp only [Act.put, pU6, List.setIfInBounds_toArray, List.set_cons_zero, List.set_cons_succ])
  refine tkE 4 pU4 rfl (by kernel_rfl) (fun K hK => ?_)
  go_simp
  skip
  (try go_wp2_with fail)
  refine hK.out _ _ ?_ (fun hHeld2 => ?_)
  ·(try dsimp only); first | with_reducible exact HS.out _ (Kp.drew _) | with_reducible exact HS.out _ ((Kp.alloc _ _).trans (Kp.drew _)) | with_reducible exact hS6 | exact ⟨by rw [World.cell?_setCell_far _ _ _ _ neB]; exact hS6.1, by rw [World.cell?_setCell_far _ _ _ _ neB]; exact hS6.2.1, by rw [World.cell?_setCell_far _ _ _ _ neB]; exact hS6.2.2.1, by rw [World.cell?_setCell_far _ _ _ _ neB]; exact hS6.2.2.2.1, by rw [World.cell?_setCell_far _ _ _ _ neB]; exact hS6.2.2.2.2.1, by rw [World.cell?_setCell_far _ _ _ _ neB]; exact hS6.2.2.2.2.2.1, by rw [World.cell?_setCell_far _ _ _ _ neB]; exact hS6.2.2.2.2.2.2.1, by rw [World.cell?_setCell_far _ _ _ _ neB]; exact hS6.2.2.2.2.2.2.2.1, by rw [World.cell?_setCell_far _ _ _ _ neB]; exact hS6.2.2.2.2.2.2.2.2⟩
  clear hK K hHeld1
  (try simp only [Act.put, pU4, List.setIfInBounds_toArray, List.set_cons_zero, List.set_cons_succ])
  refine tkE 7 pU7 rfl (by kernel_rfl) (fun K hK => ?_)
  (refine step_app rfl (.tmp 16) (.tmp 18) 58 rfl w0.heap.size 64 i0 (.agg #[.int .i64 0, .int .i64 0, .string ⟨#[]⟩, .string ⟨#[]⟩, .string ⟨#[]⟩, .bool false, .bool false, .slice none 0 0, .string ⟨#[]⟩]) 9 112 Tryz.underlying58 hi hz0 hz1 hz2 rfl (by decide) _ _ _ (by simp [Act.eval, Act.put]) own5.out _ _ _ (by simp [Act.eval, Act.put]) SRC.out rfl (sl_one ⟨_, _, _, rfl⟩) (by unfold maxLen; omega) (by omega) LE5.out ?_; intro v6 w6 own6 grow6; obtain ⟨ad6, c6, rfl⟩ := own_slice own6; have bx6 : w6.heap[B]? = some (.cells #[.slice ad L.length c0] 60 (0, 0)) := (grow6.block B LT5.out (fun c => NE5.out B c.symm rfl)).trans BX5.out; have hS6 : w6.cell? ⟨w.heap.size, 0, none⟩ = some (.int .i64 pk) ∧ w6.cell? ⟨w.heap.size, 1, none⟩ = some (.int .i64 ppk) ∧ w6.cell? ⟨w.heap.size, 2, none⟩ = some (.string py) ∧ w6.cell? ⟨w.heap.size, 3, none⟩ = some (.string pm) ∧ w6.cell? ⟨w.heap.size, 4, none⟩ = some (.string pd) ∧ w6.cell? ⟨w.heap.size, 5, none⟩ = some (.bool pa) ∧ w6.cell? ⟨w.heap.size, 6, none⟩ = some (.bool pt) ∧ w6.cell? ⟨w.heap.size, 7, none⟩ = some (.slice pad pn pc) ∧ w6.cell? ⟨w.heap.size, 8, none⟩ = some (.string px) := ⟨(grown_cell grow6 LB5.out NEB.out).trans hS5.out.1, (grown_cell grow6 LB5.out NEB.out).trans hS5.out.2.1, (grown_cell grow6 LB5.out NEB.out).trans hS5.out.2.2.1, (grown_cell grow6 LB5.out NEB.out).trans hS5.out.2.2.2.1, (grown_cell grow6 LB5.out NEB.out).trans hS5.out.2.2.2.2.1, (grown_cell grow6 LB5.out NEB.out).trans hS5.out.2.2.2.2.2.1, (grown_cell grow6 LB5.out NEB.out).trans hS5.out.2.2.2.2.2.2.1, (grown_cell grow6 LB5.out NEB.out).trans hS5.out.2.2.2.2.2.2.2.1, (grown_cell grow6 LB5.out NEB.out).trans hS5.out.2.2.2.2.2.2.2.2⟩; have cB6 : w6.cell? ⟨B, 0, none⟩ = some (.slice ad L.length c0) := (by simp [World.cell?, bx6]); have fB6 : w6.frozen? ⟨B, 0, none⟩ = false := (by simp [World.frozen?, bx6]))
  (try go_wp2_with fail)
  refine hK.out _ _ ?_ (fun hHeld3 => ?_)
  ·(try dsimp only); first | with_reducible exact HS.out _ (Kp.drew _) | with_reducible exact HS.out _ ((Kp.alloc _ _).trans (Kp.drew _)) | with_reducible exact hS6 | exact ⟨by rw [World.cell?_setCell_far _ _ _ _ neB]; exact hS6.1, by rw [World.cell?_setCell_far _ _ _ _ neB]; exact hS6.2.1, by rw [World.cell?_setCell_far _ _ _ _ neB]; exact hS6.2.2.1, by rw [World.cell?_setCell_far _ _ _ _ neB]; exact hS6.2.2.2.1, by rw [World.cell?_setCell_far _ _ _ _ neB]; exact hS6.2.2.2.2.1, by rw [World.cell?_setCell_far _ _ _ _ neB]; exact hS6.2.2.2.2.2.1, by rw [World.cell?_setCell_far _ _ _ _ neB]; exact hS6.2.2.2.2.2.2.1, by rw [World.cell?_setCell_far _ _ _ _ neB]; exact hS6.2.2.2.2.2.2.2.1, by rw [World.cell?_setCell_far _ _ _ _ neB]; exact hS6.2.2.2.2.2.2.2.2⟩
  clear hK K hHeld2
  (try simp only [Act.put, pU7, List.setIfInBounds_toArray, List.set_cons_zero, List.set_cons_succ])
  refine tkv 8 pU8 ?_
  (try simp only [Act.put, pU8, List.setIfInBounds_toArray, List.set_cons_zero, List.set_cons_succ])
  refine tkv 9 pU9 ?_
  (try simp only [Act.put, pU9, List.setIfInBounds_toArray, List.set_cons_zero, List.set_cons_succ])
  refine tkE 10 pU10 rfl (by kernel_rfl) (fun K hK => ?_)
  go_simp
  skip
  (try go_wp2_with fail)
  refine hK.out _ _ ?_ (fun hHeld4 => ?_)
  ·(try dsimp only); first | with_reducible exact HS.out _ (Kp.drew _) | with_reducible exact HS.out _ ((Kp.alloc _ _).trans (Kp.drew _)) | with_reducible exact hS6 | exact ⟨by rw [World.cell?_setCell_far _ _ _ _ neB]; exact hS6.1, by rw [World.cell?_setCell_far _ _ _ _ neB]; exact hS6.2.1, by rw [World.cell?_setCell_far _ _ _ _ neB]; exact hS6.2.2.1, by rw [World.cell?_setCell_far _ _ _ _ neB]; exact hS6.2.2.2.1, by rw [World.cell?_setCell_far _ _ _ _ neB]; exact hS6.2.2.2.2.1, by rw [World.cell?_setCell_far _ _ _ _ neB]; exact hS6.2.2.2.2.2.1, by rw [World.cell?_setCell_far _ _ _ _ neB]; exact hS6.2.2.2.2.2.2.1, by rw [World.cell?_setCell_far _ _ _ _ neB]; exact hS6.2.2.2.2.2.2.2.1, by rw [World.cell?_setCell_far _ _ _ _ neB]; exact hS6.2.2.2.2.2.2.2.2⟩
  clear hK K hHeld3
  (try simp only [Act.put, pU10, List.setIfInBounds_toArray, List.set_cons_zero, List.set_cons_succ])
  refine wpAnyH_done (by kernel_rfl) ?_ _
  have O6 : w6.ownsRow w0.heap.size 64 9 (.slice ad6 (L.length + 1) c6) (L ++ [(EL.mk (.mk pk ⟨ppk, py, pm, pd⟩ pa pt pl) (.slice pad pn pc) px)]).length (cellsY (L ++ [(EL.mk (.mk pk ⟨ppk, py, pm, pd⟩ pa pt pl) (.slice pad pn pc) px)])) := by rewrite [cellsY_append, List.length_append]; exact own6
  have K6 : Kp w0 w6 := (KV0.out.trans ((Kp.alloc _ _).trans (Kp.drew _))).grown grow6 (fun j hj => (own5.out.lt j hj).1)
  have OF := ce_setc (x := .slice ad6 (L.length + 1) c6) O6 bx6 (by kernel_rfl)
  have HF := ch_heap bx6 0 (.slice ad6 (L.length + 1) c6)
  have DF : HEs w0 (w6.setCell ⟨B, 0, none⟩ (.slice ad6 (L.length + 1) c6)).heap.size B (L ++ [(EL.mk (.mk pk ⟨ppk, py, pm, pd⟩ pa pt pl) (.slice pad pn pc) px)]) (w6.setCell ⟨B, 0, none⟩ (.slice ad6 (L.length + 1) c6)) := ⟨Below.setCell K6 (p := ⟨B, 0, none⟩) hB _, ⟨hB, (Array.getElem?_eq_some_iff.1 HF).1, Nat.le_refl _⟩, fun e he => (List.mem_append.1 he).elim (SLH.out e) (fun q => by rw [List.mem_singleton.1 q]; exact ⟨_, _, _, rfl⟩), _, HF, OF, fun j hj => (OF.lt j hj).2⟩
  have DH := Lib.hid DF
  have EH := Lib.hid (show EW top w (w6.setCell ⟨B, 0, none⟩ (.slice ad6 (L.length + 1) c6)) from ((EW.kp KWV.out).trans ((EW.kp ((Kp.alloc _ _).trans (Kp.drew _))).trans (EW.grown grow6 HRT.out))).trans (EW.set hBt 0 _))
  clear O6 K6 DF OF HF
  go_wp2
  go_end0
  exact ⟨rfl, DH.out, EH.out⟩
theorem epopped {L L2 : List EL} {n : Nat} (hn : L.length = n + 1) (pm : L2.Perm (swe L 0 n)) (hf : hpE L2 0 n) (tl : ∀ q, n ≤ q → elAt L2 q = elAt (swe L 0 n) q) :
  L2.length = n + 1 ∧ elAt L2 n = elAt L 0 ∧ (L2.take n ++ [elAt L 0]).Perm L ∧ hpE (L2.take n) 0 (L2.take n).length := by
 have hl : L2.length = n + 1 := by rw [pm.length_eq, swe_length]; exact hn
 have e : elAt L2 n = elAt L 0 := by rw [tl n (Nat.le_refl _), elAt_swe (by omega) (by omega), if_pos rfl]
 refine ⟨hl, e, ?_, ?_⟩
 ·rw [← e, elAt_eq (by omega), ← List.take_succ_eq_append_getElem (by omega), List.take_of_length_le (by omega)]
  exact pm.trans (swe_perm (by omega) (by omega))
 ·rw [List.length_take, Nat.min_eq_left (by omega)]
  exact he_take hf
set_option maxHeartbeats 16000000 in
set_option maxRecDepth 100000 in
theorem eheapPop_any (w0 : World) (top B : Nat) (L : List EL) (n : Nat) (w : World) (h : HEs w0 top B L w) (hn : L.length = n + 1) (hm : L.length ≤ 1000) (hh : hpE L 0 L.length) :
  Calls Tryz.prog 49 #[eIf B] w fun e w' => ∃ M, e = .returned (.iface 64 (exV (elAt L 0))) ∧ HEs w0 top B M w' ∧ EW top w w' ∧ (M ++ [elAt L 0]).Perm L ∧ hpE M 0 M.length := by
 have CN := Lib.hid (clen_any w0 top B L w h)
 rw [hn] at CN
 have CS := Lib.hid (fun (x y : Int) (hx : x = (0 : Nat)) (hy : y = n) => (by subst hx hy; exact cswap_any w0 top B L 0 n w h (by omega) (by omega) : Calls Tryz.prog 165 #[.pointer (some ⟨B, 0, none⟩), .int .i64 x, .int .i64 y] w fun e w' => e = .returned (.tuple #[]) ∧ HEs w0 top B (swe L 0 n) w' ∧ EW top w w'))
 rw [hn] at hh
 have hf1 := he_swap hh (by omega)
 have hl1 : (swe L 0 n).length = n + 1 := by rw [swe_length]; exact hn
 have CD := Lib.hid (fun (x y : Int) (w1 : World) (h1 : HEs w0 top B (swe L 0 n) w1) (hx : x = (0 : Nat)) (hy : y = n) => edown_any w0 top B (swe L 0 n) x y 0 n w1 h1 (by omega) (by omega) (by omega) hf1 hx hy)
 have CP := Lib.hid (fun (L2 : List EL) (w1 : World) (h1 : HEs w0 top B L2 w1) (pm : L2.Perm (swe L 0 n)) (hf : hpE L2 0 n) (tl : ∀ q, n ≤ q → elAt L2 q = elAt (swe L 0 n) q) => (by
  have p := epopped hn pm hf tl
  have := cpop_any w0 top B L2 n w1 h1 p.1 (by omega)
  rw [p.2.1] at this
  exact this : Calls Tryz.prog 164 #[.pointer (some ⟨B, 0, none⟩)] w1 fun e w' => e = .returned (.iface 64 (exV (elAt L 0))) ∧ HEs w0 top B (L2.take n) w' ∧ EW top w1 w'))
 have PP := Lib.hid (fun (L2 : List EL) (pm : L2.Perm (swe L 0 n)) (hf : hpE L2 0 n) (tl : ∀ q, n ≤ q → elAt L2 q = elAt (swe L 0 n) q) => (epopped hn pm hf tl).2.2)
 have ml := eLen B
 have ms := eSwap B
 have mp := ePop B
 have hn2 : n ≤ 1000 := by omega
 clear h hn hm hh hf1 hl1
 generalize swe L 0 n = L1 at *
 obtain ⟨u, hu⟩ : ∃ u, Value.iface 64 (exV (elAt L 0)) = u := ⟨_, rfl⟩
 rw [hu] at CP ⊢
 clear hu
 generalize elAt L 0 = p0 at *
 unfold eIf at *
 go_enter Tryz.func49, Tryz.ntmps49
 go_wp2_with fail
 refine CN.out.mono ?_
 rintro e w1 ⟨rfl, rfl⟩
 go_wp2_with fail
 refine (CS.out _ _ (by first | rfl | omega) (by first | rfl | omega)).mono ?_
 rintro e w2 ⟨rfl, hp2, pw2⟩
 have HP2 := Lib.hid hp2
 have PW2 := Lib.hid pw2
 clear hp2 pw2
 go_wp2_with fail
 refine (CD.out _ _ _ HP2.out (by first | rfl | omega) (by first | rfl | omega)).mono ?_
 rintro e w3 ⟨v3, L2, rfl, hp3, pw3, pm3, hf3, tl3⟩
 have HP3 := Lib.hid hp3
 have PW3 := Lib.hid (PW2.out.trans pw3)
 have PM3 := Lib.hid pm3
 have HF3 := Lib.hid hf3
 have TL3 := Lib.hid tl3
 clear hp3 pw3 pm3 hf3 tl3
 go_wp2_with fail
 refine (CP.out L2 _ HP3.out PM3.out HF3.out TL3.out).mono ?_
 rintro e w4 ⟨rfl, hp4, pw4⟩
 have HP4 := Lib.hid hp4
 have PW4 := Lib.hid (PW3.out.trans pw4)
 clear hp4 pw4
 go_wp2
 go_ret
 exact ⟨_, rfl, HP4.out, PW4.out, PP.out L2 PM3.out HF3.out TL3.out⟩
theorem HEs.first (w : World) : HEs w (w.heap.size + 1) w.heap.size [] (w.alloc (.cells #[.slice none 0 0] 60)) :=
 ⟨Kp.alloc _ _, ⟨Nat.le_refl _, by omega, by simp⟩, (by intro e he; cases he), _, heap_at _ _ _ rfl, World.ownsRow_nil _ _ _ _, fun j hj => by cases hj⟩
theorem elRow {w : World} {base : Nat} {e : TypeId} {v : Value} (O : List EL) (p : EL) (h : w.ownsRow base e 9 v (O.length + 1) (cellsY O ++ cellsX p)) : w.ownsRow base e 9 v (O ++ [p]).length (cellsY (O ++ [p])) := by
 rw [List.length_append, cellsY_append]
 simpa [cellsY] using h
structure DrE (L O M : List EL) : Prop where
 perm : (O ++ M).Perm L
 rise : O.Pairwise leE
 low : ∀ a ∈ O, ∀ b ∈ M, leE a b
theorem DrE.next {L O M M' : List EL} (h : DrE L O M) (h0 : 0 < M.length) (hf : hpE M 0 M.length) (pm : (M' ++ [elAt M 0]).Perm M) : DrE L (O ++ [elAt M 0]) M' := by
 have root : ∀ b ∈ M, leE (elAt M 0) b := fun b hb => by
  obtain ⟨i, hi, rfl⟩ := List.mem_iff_getElem.1 hb
  have := he_root hf i hi
  rwa [elAt_eq hi] at this
 have hm : ∀ b ∈ M', b ∈ M := fun b hb => pm.mem_iff.1 (List.mem_append_left _ hb)
 refine ⟨?_, ?_, fun a ha b hb => ?_⟩
 ·rw [List.append_assoc]
  exact ((List.Perm.append_left O (List.perm_append_comm.trans pm))).trans h.perm
 ·rw [List.pairwise_append]
  exact ⟨h.rise, List.pairwise_singleton _ _, fun a ha b hb => by rw [List.mem_singleton.1 hb]; exact h.low a ha _ (elAt_mem h0)⟩
 ·rcases List.mem_append.1 ha with ha | ha
  ·exact h.low a ha b (hm b hb)
  ·rw [List.mem_singleton.1 ha]
   exact root b (hm b hb)
def slN : Value → Nat
 | .slice _ n _ => n
 | _ => 0
theorem slN_s (a : Option Addr) (n c : Nat) : slN (.slice a n c) = n := rfl
set_option maxHeartbeats 16000000 in
set_option maxRecDepth 100000 in
theorem cdrained_any (w0 : World) (top B : Nat) (L : List EL) (w : World) (h : HEs w0 top B L w) (hm : L.length ≤ 1000) :
  Calls Tryz.prog 32 #[eIf B] w fun e w' => ∃ v' S, e = .returned v' ∧ S.Perm L ∧ S.Pairwise leE ∧ w'.ownsRow w.heap.size 64 9 v' S.length (cellsY S) ∧ Kp w0 w' := by
 obtain ⟨i0, hi, hz0, hz1, hz2⟩ := info_parts infoElem
 have as_ : ∀ (v : Value) (w : World), (Instr.typeAssert (.iface 64 v) 20 64 true).run Tryz.prog w = .ok (.tuple #[v, .bool true]) w := fun _ _ => by kernel_rfl
 have H0 := Lib.hid h.raise
 have CI := Lib.hid (fun (L : List EL) w1 (h1 : HEs w0 w.heap.size B L w1) (hL : L.length ≤ 1000) => einit_any w0 w.heap.size B L w1 h1 hL)
 have CN := Lib.hid (fun (L : List EL) w1 (h1 : HEs w0 w.heap.size B L w1) => clen_any w0 w.heap.size B L w1 h1)
 have CO := Lib.hid (fun (L : List EL) n w1 (h1 : HEs w0 w.heap.size B L w1) (hn : L.length = n + 1) (hL : L.length ≤ 1000) (hh : hpE L 0 L.length) => eheapPop_any w0 w.heap.size B L n w1 h1 hn hL hh)
 have ml := eLen B
 unfold eIf at *
 clear h
 go_enter Tryz.func32, Tryz.ntmps32
 go_wp2_with fail
 refine (CI.out _ _ H0.out hm).mono ?_
 rintro e w1 ⟨L1, rfl, hp1, pw1, pm1, hf1⟩
 have HP1 := Lib.hid hp1
 have DR1 := Lib.hid (show DrE L [] L1 from ⟨pm1, List.Pairwise.nil, fun a ha => by cases ha⟩)
 have HF1 := Lib.hid hf1
 have LN1 := Lib.hid (show ([] : List EL).length + L1.length = L.length by rw [pm1.length_eq]; simp)
 clear hp1 pw1 pm1 hf1
 go_wp2
 go_loopw [3] (fun s wr => ∃ (O M : List EL), Hid (wr.ownsRow w.heap.size 64 9 s O.length (cellsY O)) ∧ Hid (HEs w0 w.heap.size B M wr) ∧ Hid (DrE L O M) ∧ Hid (hpE M 0 M.length) ∧ Hid (O.length + M.length = L.length)) (fun s _ => L.length - slN s)
 case atStart => exact ⟨[], L1, Lib.hid (World.ownsRow_nil _ _ _ _), HP1, DR1, HF1, LN1⟩
 case round =>
  obtain ⟨O, M, OW, HPL, DR, HF, LN⟩ := hrel
  obtain ⟨sa, sc, rfl⟩ := own_slice OW.out
  have CNn := CN.out M
  cases hn : M.length with
  | zero =>
   rw [hn] at CNn
   have CN2 := Lib.hid CNn
   have hL0 := Lib.hid hn
   clear CNn hn
   go_wp2_with fail
   refine (CN2.out _ HPL.out).mono ?_
   rintro e w3 ⟨rfl, rfl⟩
   go_wp2
   go_ret
   exact ⟨_, O, rfl, by have a := DR.out.perm; rw [List.length_eq_zero_iff.1 hL0.out, List.append_nil] at a; exact a, DR.out.rise, OW.out, HPL.out.1⟩
  | succ n =>
   rw [hn] at CNn
   have CN2 := Lib.hid CNn
   have HN := Lib.hid hn
   have hO : O.length ≤ 1000 := by have := LN.out; omega
   have hO2 : O.length < L.length := by have := LN.out; omega
   have hL3 : M.length ≤ 1000 := by have := LN.out; omega
   have C3 := Lib.hid (CO.out M n _ HPL.out hn hL3 HF.out)
   have NX := Lib.hid (fun M' (g : (M' ++ [elAt M 0]).Perm M) => DR.out.next (by omega) HF.out g)
   obtain ⟨pad, pn, pc, hpv⟩ := HPL.out.2.2.1 _ (elAt_mem (L := M) (i := 0) (by omega))
   clear CNn hn hL3
   generalize elAt M 0 = p at *
   obtain ⟨⟨pk, ⟨ppk, py, pm, pd⟩, pa, pt, pl⟩, pv, px⟩ := p
   simp only at hpv
   subst hpv
   simp only [exV, cellsX, ND.k, ND.p, ND.a, ND.t] at C3
   go_wp2_with fail
   refine (CN2.out _ HPL.out).mono ?_
   rintro e w3 ⟨rfl, rfl⟩
   go_wp2_with fail
   refine (C3.out).mono ?_
   rintro e w4 ⟨M', rfl, hp4, pw4, pm4, hf4⟩
   have OW4 := Lib.hid (pw4.own OW.out (Nat.le_refl _))
   have HP4 := Lib.hid hp4
   have hsz4 := hp4.2.1.2.2
   have DR4 := Lib.hid (NX.out M' pm4)
   have HF4 := Lib.hid hf4
   have LN4 := Lib.hid (show (O ++ [EL.mk (.mk pk ⟨ppk, py, pm, pd⟩ pa pt pl) (.slice pad pn pc) px]).length + M'.length = L.length by
    have a := pm4.length_eq
    have b := LN.out
    rw [List.length_append, List.length_singleton] at a
    rw [List.length_append, List.length_singleton]
    omega)
   clear hp4 pw4 pm4 hf4 NX
   obtain ⟨W5, hW5⟩ : ∃ x, x = w4.alloc (.cells #[.int .i64 pk, .int .i64 ppk, .string py, .string pm, .string pd, .bool pa, .bool pt, .slice pad pn pc, .string px] 64) := ⟨_, rfl⟩
   have k5 : Kp w4 W5 := by rw [hW5]; exact Kp.alloc _ _
   have g5 : W5.heap[w4.heap.size]? = some (.cells #[.int .i64 pk, .int .i64 ppk, .string py, .string pm, .string pd, .bool pa, .bool pt, .slice pad pn pc, .string px] 64 (0, 0)) := by rw [hW5]; exact heap_at _ _ _ rfl
   have OW5 := Lib.hid (own_kp OW4.out k5)
   have z5 : W5.heap.size = w4.heap.size + 1 := by rw [hW5]; simp
   have HP5 := Lib.hid (HP4.out.kp k5)
   have SRC := Lib.hid (elem_src (w' := W5.alloc (.cells #[.int .i64 pk, .int .i64 ppk, .string py, .string pm, .string pd, .bool pa, .bool pt, .slice pad pn pc, .string px] 64)) (g := w4.heap.size + 1) (p := EL.mk (.mk pk ⟨ppk, py, pm, pd⟩ pa pt pl) (.slice pad pn pc) px) (by rw [← z5]; exact heap_at W5 _ _ rfl))
   have LE5 := Lib.hid (show w.heap.size ≤ (W5.alloc (.cells #[.int .i64 pk, .int .i64 ppk, .string py, .string pm, .string pd, .bool pa, .bool pt, .slice pad pn pc, .string px] 64)).heap.size from Nat.le_trans hsz4 (Nat.le_trans k5.size (Kp.alloc _ _).size))
   have z4 : ¬ w4.heap.size = W5.heap.size := by rw [hW5]; simp
   have HW5 := Lib.hid hW5
   have x0 : W5.cell? ⟨w4.heap.size, 0, none⟩ = some (.int .i64 pk) := by simp [World.cell?, g5]
   have x1 : W5.cell? ⟨w4.heap.size, 1, none⟩ = some (.int .i64 ppk) := by simp [World.cell?, g5]
   have x2 : W5.cell? ⟨w4.heap.size, 2, none⟩ = some (.string py) := by simp [World.cell?, g5]
   have x3 : W5.cell? ⟨w4.heap.size, 3, none⟩ = some (.string pm) := by simp [World.cell?, g5]
   have x4 : W5.cell? ⟨w4.heap.size, 4, none⟩ = some (.string pd) := by simp [World.cell?, g5]
   have x5 : W5.cell? ⟨w4.heap.size, 5, none⟩ = some (.bool pa) := by simp [World.cell?, g5]
   have x6 : W5.cell? ⟨w4.heap.size, 6, none⟩ = some (.bool pt) := by simp [World.cell?, g5]
   have x7 : W5.cell? ⟨w4.heap.size, 7, none⟩ = some (.slice pad pn pc) := by simp [World.cell?, g5]
   have x8 : W5.cell? ⟨w4.heap.size, 8, none⟩ = some (.string px) := by simp [World.cell?, g5]
   clear k5 g5 hW5 hsz4 z5
   go_wp2_with (at_builtin; refine Hid.out ?_)
   refine Lib.hid ?_
   rw [← HW5.out]
   refine wpList_app rfl (.tmp 18) (.tmp 20) 58 rfl w.heap.size 64 i0 (.agg #[.int .i64 0, .int .i64 0, .string ⟨#[]⟩, .string ⟨#[]⟩, .string ⟨#[]⟩, .bool false, .bool false, .slice none 0 0, .string ⟨#[]⟩]) 9 112 Tryz.underlying58 hi hz0 hz1 hz2 rfl (by decide) _ O.length (cellsY O) (by rfl) (own_kp OW5.out (Kp.alloc _ _)) _ 1 (cellsX (EL.mk (.mk pk ⟨ppk, py, pm, pd⟩ pa pt pl) (.slice pad pn pc) px)) (by rfl) SRC.out rfl (sl_one (e := (EL.mk (.mk pk ⟨ppk, py, pm, pd⟩ pa pt pl) (.slice pad pn pc) px)) ⟨pad, pn, pc, rfl⟩) (by unfold maxLen; omega) (by omega) LE5.out ?_
   intro v6 w6 own6 grow6 at6; obtain ⟨s6, c6, rfl⟩ := own_slice own6; have HP6 := Lib.hid ((HP5.out.kp (Kp.alloc _ _)).grown (own_kp OW5.out (Kp.alloc _ _)) (Nat.le_refl _) grow6); have OW6 := Lib.hid (elRow O _ own6); clear own6 grow6 at6
   (try go_wp2)
   go_roundw
   case rel => exact ⟨O ++ [EL.mk (.mk pk ⟨ppk, py, pm, pd⟩ pa pt pl) (.slice pad pn pc) px], M', OW6, HP6, DR4, HF4, LN4⟩
   case measure => simp only [slN_s]; omega
open Go.RowKit Go.Shelf
def RowsN (w0 w : World) (base : Nat) (v : Value) (L : List ND) : Prop := ∃ m : List NV, m.map Prod.fst = L ∧ ReadsN w0 m ∧ w.ownsRow base 26 8 v m.length (cellsN m)
theorem RowsN.kp {w0 w w' : World} {base : Nat} {v : Value} {L : List ND} (h : RowsN w0 w base v L) (k : Kp w w') : RowsN w0 w' base v L := by
 obtain ⟨m, h1, h2, h3⟩ := h
 exact ⟨m, h1, h2, own_kp h3 k⟩
theorem RowsN.nodes {w0 w : World} {base : Nat} {v : Value} {L : List ND} (h : RowsN w0 w base v L) (k : Kp w0 w) : NodesAt w v L := by
 obtain ⟨m, h1, h2, h3⟩ := h
 have := nodesAt_own h3 (h2.kp k)
 rwa [h1] at this
def nvAt (m : List NV) (i : Nat) : NV := m.getD i (nd0, .slice none 0 0)
theorem nvAt_eq {m : List NV} {i : Nat} (h : i < m.length) : nvAt m i = m[i] := by unfold nvAt; simp [List.getD, h]
theorem nvAt_mem {m : List NV} {i : Nat} (h : i < m.length) : nvAt m i ∈ m := by rw [nvAt_eq h]; exact List.getElem_mem h
theorem nv_take {m : List NV} {i : Nat} (h : i < m.length) : m.take (i + 1) = m.take i ++ [nvAt m i] := by
 rw [nvAt_eq h]
 exact List.take_succ_eq_append_getElem h
theorem own_rowN {w : World} {base : Nat} {e : TypeId} {v : Value} {m : List NV} (h : w.ownsRow base e 8 v m.length (cellsN m)) {i : Nat} (hi : i < m.length) : ∃ g cap, v = .slice (some ⟨g, 0, none⟩) m.length cap ∧ RowN w g (i * 8) (nvAt m i).1 (nvAt m i).2 := by
 rcases h.2 with ⟨_, e⟩ | ⟨g, cap, cur, rfl, hb, hg, hc, _⟩
 ·omega
 ·obtain ⟨c0, c1, c2, c3, c4, c5, c6, c7⟩ := cellsN_at m i hi
  rw [← nvAt_eq hi] at c0 c1 c2 c3 c4 c5 c6 c7
  refine ⟨g, cap, rfl, ?_, ?_, ?_, ?_, ?_, ?_, ?_, ?_⟩
  ·rw [h.cellAt _ (by omega)]; exact c0
  ·rw [h.cellAt _ (by omega)]; exact c1
  ·rw [h.cellAt _ (by omega)]; exact c2
  ·rw [h.cellAt _ (by omega)]; exact c3
  ·rw [h.cellAt _ (by omega)]; exact c4
  ·rw [h.cellAt _ (by omega)]; exact c5
  ·rw [h.cellAt _ (by omega)]; exact c6
  ·rw [h.cellAt _ (by omega)]; exact c7
def elOf (q : NV) : EL := ⟨q.1, q.2, bs (txN q.1)⟩
theorem bs_toList (L : List UInt8) : (bs L).toList = L := by
 rw [ByteArray.toList_eq]
 unfold bs
 simp
theorem elOf_t (q : NV) : (elOf q).t = txN q.1 := bs_toList _
theorem elOf_nodes (m : List NV) : snE (m.map elOf) = m.map Prod.fst := by
 unfold snE
 rw [List.map_map]
 rfl
def lastE (l : List EL) : List UInt8 := (l.getLast?.map EL.t).getD []
theorem lastE_take {l : List EL} {i : Nat} (h : i < l.length) : lastE (l.take (i + 1)) = (elAt l i).t := by
 unfold lastE
 rw [List.take_succ_eq_append_getElem h, elAt_eq h, List.getLast?_concat]
 rfl
theorem ddE_take {l : List EL} {i : Nat} (h : i < l.length) : ddE [] (l.take (i + 1)) = ddE [] (l.take i) ++ (if (elAt l i).t = lastE (l.take i) then [] else [(elAt l i).n]) := by
 rw [List.take_succ_eq_append_getElem h, ddE_append, elAt_eq h]
 congr 1
theorem ddE_len : ∀ (l : List EL) (last : List UInt8), (ddE last l).length ≤ l.length
 | [], _ => Nat.le_refl _
 | e :: l, last => by
  have := ddE_len l e.t
  simp only [ddE]
  split
  ·simp only [List.length_cons]; omega
  ·simp only [List.length_cons]; omega
abbrev soA0 : Oper := { dst := some 18, op := Go.Op.move (Go.Operand.tmp 3), type := 57, pos := "canon.go:50", after := #[], guard := none }
abbrev soA1 : Oper := { dst := some 19, op := Go.Op.load 26 (Go.Operand.tmp 5), type := 26, pos := "canon.go:50", after := #[], guard := none }
abbrev soA2 : Oper := { dst := some 20, op := Go.Op.load 26 (Go.Operand.tmp 5), type := 26, pos := "canon.go:50", after := #[], guard := none }
abbrev soA3 : Oper := { dst := some 21, op := Go.Op.call { callee := Go.Callee.value (Go.Operand.func 31), args := #[Go.Operand.tmp 20], argTypes := #[26] }, type := 9, pos := "canon.go:50", after := #[{ on := 2, ground := Go.Ground.data }], guard := none }
abbrev soA4 : Oper := { dst := some 22, op := Go.Op.build 64 #[(0, Go.Operand.tmp 19), (1, Go.Operand.tmp 21)], type := 64, pos := "canon.go:50", after := #[{ on := 1, ground := Go.Ground.data }, { on := 3, ground := Go.Ground.data }], guard := none }
abbrev soA5 : Oper := { dst := some 23, op := Go.Op.makeInterface 64 (Go.Operand.tmp 22), type := 20, pos := "canon.go:50", after := #[{ on := 4, ground := Go.Ground.data }], guard := none }
abbrev soA6 : Oper := { dst := some 24, op := Go.Op.call { callee := Go.Callee.value (Go.Operand.func 30), args := #[Go.Operand.tmp 18, Go.Operand.tmp 23], argTypes := #[57, 20] }, type := 0, pos := "canon.go:50", after := #[{ on := 0, ground := Go.Ground.data }, { on := 5, ground := Go.Ground.data }, { on := 3, ground := Go.Ground.chain }], guard := none }
set_option maxHeartbeats 16000000 in
set_option maxRecDepth 100000 in
theorem csorted_any (w0 : World) (T : TabSH w0) (L : List ND) (v : Value) (base : Nat) (w : World) (k : Kp w0 w) (h : RowsN w0 w base v L) (bb : base ≤ w.heap.size) (hs : Sns L) (hl : L.length ≤ 64) :
  Calls Tryz.prog 21 #[v] w fun e w' => ∃ v' : Value, e = .returned v' ∧ RowsN w0 w' w.heap.size v' (cnS L) ∧ Kp w w' := by
 obtain ⟨ms, hms, hrd, own⟩ := h
 obtain ⟨i0, hi, hz0, hz1, hz2⟩ := info_parts infoNode
 have lm : ms.length ≤ 64 := by have := congrArg List.length hms; rw [List.length_map] at this; omega
 obtain ⟨ad0, cp0, rfl⟩ := own_slice8 own
 have OW := Lib.hid own
 have RD := Lib.hid hrd
 have SN := Lib.hid (fun i (hi : i < ms.length) => hs _ (by rw [← hms]; exact List.mem_map_of_mem (nvAt_mem hi)))
 have KB := Lib.hid k
 have TT := Lib.hid (fun w1 (qq : Kp w w1) => T.kp (k.trans qq))
 have FIN := Lib.hid (fun (S : List EL) (p : S.Perm (ms.map elOf)) (r : S.Pairwise leE) => show ddE [] S = cnS L from ddE_cn hs (fun y => by
  rw [← hms, ← elOf_nodes]
  unfold snE
  exact (p.map EL.n).mem_iff) (fun e he => by
  obtain ⟨q, _, rfl⟩ := List.mem_map.1 (p.mem_iff.1 he)
  exact elOf_t q) r)
 have EL2 := Lib.hid (fun (S : List EL) (p : S.Perm (ms.map elOf)) (i : Nat) (hi : i < S.length) => show ∃ q ∈ ms, elAt S i = elOf q from by
  obtain ⟨q, hq, e⟩ := List.mem_map.1 (p.mem_iff.1 (elAt_mem hi))
  exact ⟨q, hq, e.symm⟩)
 obtain ⟨LC, hLC⟩ : ∃ x, cnS L = x := ⟨_, rfl⟩
 rw [hLC] at FIN ⊢
 have H0 := Lib.hid (HEs.first w)
 have bw := Lib.hid bb
 clear own hrd hs k T hms hLC hl bb
 go_enter Tryz.func21, Tryz.ntmps21
 go_wp2
 go_loopw [14] (fun i wr => ∃ (j top : Nat), j ≤ ms.length ∧ i = .int .i64 j ∧ Hid (HEs w top w.heap.size ((ms.take j).map elOf) wr)) (fun i _ => ms.length - (intOf i).toNat)
 case atStart => exact ⟨0, _, Nat.zero_le _, rfl, H0⟩
 case round =>
  obtain ⟨j, top, hj, rfl, J⟩ := hrel
  by_cases hlt : j < ms.length
  ·obtain ⟨g, cap, ev, hrow⟩ := own_rowN (own_kp OW.out J.out.1) hlt
   cases ev
   have sj := SN.out j hlt
   have nj := RD.out _ (nvAt_mem hlt)
   have tk := congrArg (List.map elOf) (nv_take hlt)
   rw [List.map_append, List.map_singleton] at tk
   have hlen : ((ms.take j).map elOf).length ≤ 1000 := by rw [List.length_map, List.length_take]; omega
   obtain ⟨x, hx⟩ : ∃ x, nvAt ms j = x := ⟨_, rfl⟩
   rw [hx] at hrow sj nj tk
   obtain ⟨xn, xv⟩ := x
   simp only at hrow sj nj
   have CT0 := Lib.hid (fun w1 (kk : Kp w w1) => ptext_any xn xv w1 (nj.kp (KB.out.trans kk)) (by have := (cn_right sj).2; omega) (TT.out w1 kk))
   rw [show textN xn = txN xn by unfold textN; rw [if_pos sj]] at CT0
   obtain ⟨ad, n, cp, hxv⟩ : ∃ ad n cp, xv = .slice ad n cp := by obtain ⟨a, c, e⟩ := nj.slice; exact ⟨a, _, c, e⟩
   obtain ⟨tx, htx⟩ : ∃ u, bs (txN xn) = u := ⟨_, rfl⟩
   rw [htx] at CT0
   have TK := Lib.hid (show (ms.take (j + 1)).map elOf = (ms.take j).map elOf ++ [EL.mk xn xv tx] by rw [tk]; unfold elOf; simp only; rw [htx])
   clear tk nj sj hx htx
   obtain ⟨k, ⟨pk, y, m, q⟩, a, t, l⟩ := xn
   subst hxv
   unfold ndV at CT0
   unfold RowN at hrow
   simp only [ND.k, ND.p, ND.a, ND.t, ND.l] at hrow CT0
   obtain ⟨e0, e1, e2, e3, e4, e5, e6, e7⟩ := hrow
   obtain ⟨W5, hW5⟩ : ∃ x, x = wr.alloc (.cells #[.int .i64 k, .int .i64 pk, .string y, .string m, .string q, .bool a, .bool t, .slice ad n cp] 26) := ⟨_, rfl⟩
   have k5 : Kp wr W5 := by rw [hW5]; exact Kp.alloc _ _
   have g5 : W5.heap[wr.heap.size]? = some (.cells #[.int .i64 k, .int .i64 pk, .string y, .string m, .string q, .bool a, .bool t, .slice ad n cp] 26 (0, 0)) := by rw [hW5]; exact heap_at _ _ _ rfl
   have HP5 := Lib.hid (J.out.kp k5)
   have KW5 := Lib.hid (J.out.1.trans k5)
   have tp := J.out.2.1.2.2
   have KS := Lib.hid (fun w1 (e : EW top W5 w1) => show w1.cell? ⟨wr.heap.size, 0, none⟩ = some (.int .i64 k) ∧ w1.cell? ⟨wr.heap.size, 1, none⟩ = some (.int .i64 pk) ∧ w1.cell? ⟨wr.heap.size, 2, none⟩ = some (.string y) ∧ w1.cell? ⟨wr.heap.size, 3, none⟩ = some (.string m) ∧ w1.cell? ⟨wr.heap.size, 4, none⟩ = some (.string q) ∧ w1.cell? ⟨wr.heap.size, 5, none⟩ = some (.bool a) ∧ w1.cell? ⟨wr.heap.size, 6, none⟩ = some (.bool t) ∧ w1.cell? ⟨wr.heap.size, 7, none⟩ = some (.slice ad n cp) from row8 ((e.same wr.heap.size tp (Array.getElem?_eq_some_iff.1 g5).1).trans g5))
   have CT := Lib.hid (fun w1 (kk : Kp W5 w1) => CT0.out w1 (KW5.out.trans kk))
   have CP := Lib.hid (fun w1 (h1 : HEs w top w.heap.size ((ms.take j).map elOf) w1) => cpush_any w top w.heap.size _ (EL.mk (.mk k ⟨pk, y, m, q⟩ a t l) (.slice ad n cp) tx) w1 h1 ⟨_, _, _, rfl⟩ hlen)
   simp only [exV, cellsX, ND.k, ND.p, ND.a, ND.t] at CP
   have HW5 := Lib.hid hW5
   have z1 : (j : Int) < (ms.length : Int) := by omega
   have z3 : (0 : Int) ≤ (j : Int) := by omega
   have HLT := Lib.hid hlt
   have hbk := World.block_lt_of_cell? _ _ e0
   simp only at hbk
   clear CT0 k5 g5 hW5 tp hlen J
   go_wp2_with fail
   rw [← HW5.out]
   obtain ⟨x0, x1, x2, x3, x4, x5, x6, x7⟩ := KS.out _ (EW.refl _ _)
   go_wp2_with fail
   refine wp_region_held_drew (S := fun w' => w'.cell? ⟨wr.heap.size, 0, none⟩ = some (.int .i64 k) ∧ w'.cell? ⟨wr.heap.size, 1, none⟩ = some (.int .i64 pk) ∧ w'.cell? ⟨wr.heap.size, 2, none⟩ = some (.string y) ∧ w'.cell? ⟨wr.heap.size, 3, none⟩ = some (.string m) ∧ w'.cell? ⟨wr.heap.size, 4, none⟩ = some (.string q) ∧ w'.cell? ⟨wr.heap.size, 5, none⟩ = some (.bool a) ∧ w'.cell? ⟨wr.heap.size, 6, none⟩ = some (.bool t) ∧ w'.cell? ⟨wr.heap.size, 7, none⟩ = some (.slice ad n cp)) (by kernel_rfl) ?_ (fun hHeld0 => ?_)
   ·(try dsimp only); exact KS.out _ (by first | assumption | exact EW.kp (by first | assumption | exact Kp.drew _))
   refine tkv 0 soA0 ?_
   (try simp only [Act.put, soA0, List.setIfInBounds_toArray, List.set_cons_zero, List.set_cons_succ])
   refine tkv 1 soA1 ?_
   (try simp only [Act.put, soA1, List.setIfInBounds_toArray, List.set_cons_zero, List.set_cons_succ])
   refine tkv 2 soA2 ?_
   (try simp only [Act.put, soA2, List.setIfInBounds_toArray, List.set_cons_zero, List.set_cons_succ])
   refine tkE 3 soA3 rfl (by kernel_rfl) (fun K hK => ?_)
   go_simp
   (refine (CT.out _ (by first | assumption | exact Kp.drew _)).mono ?_; rintro e wt ⟨rfl, k1⟩; have k2 : Kp W5 wt := Kp.trans (by first | assumption | exact Kp.drew _) k1; clear k1)
   (try go_wp2_with fail)
   refine hK.out _ _ ?_ (fun hHeld1 => ?_)
   ·(try dsimp only); exact KS.out _ (by first | assumption | exact EW.kp (by first | assumption | exact Kp.drew _))
   clear hK K hHeld0
   (try simp only [Act.put, soA3, List.setIfInBounds_toArray, List.set_cons_zero, List.set_cons_succ])
   refine tkv 4 soA4 ?_
   (try simp only [Act.put, soA4, List.setIfInBounds_toArray, List.set_cons_zero, List.set_cons_succ])
   refine tkv 5 soA5 ?_
   (try simp only [Act.put, soA5, List.setIfInBounds_toArray, List.set_cons_zero, List.set_cons_succ])
   refine tkE 6 soA6 rfl (by kernel_rfl) (fun K hK => ?_)
   go_simp
   (refine (CP.out _ (HP5.out.kp (by first | assumption | exact Kp.drew _))).mono ?_; rintro e wp ⟨rfl, hp, ew⟩; have e2 : EW top W5 wp := (EW.kp (show Kp W5 _ from (by first | assumption | exact Kp.drew _))).trans ew; have HPF := Lib.hid hp; clear hp ew)
   (try go_wp2_with fail)
   refine hK.out _ _ ?_ (fun hHeld2 => ?_)
   ·(try dsimp only); exact KS.out _ (by first | assumption | exact EW.kp (by first | assumption | exact Kp.drew _))
   clear hK K hHeld1
   (try simp only [Act.put, soA6, List.setIfInBounds_toArray, List.set_cons_zero, List.set_cons_succ])
   refine wpAnyH_done (by kernel_rfl) ?_ _
   clear x0 x1 x2 x3 x4 x5 x6 x7 e0 e1 e2 e3 e4 e5 e6 e7
   go_wp2
   go_roundw
   case rel => exact ⟨j + 1, _, HLT.out, by go_num, by rw [TK.out]; exact HPF⟩
   case measure => have := HLT.out; simp [intOf]; omega
  ·obtain rfl : j = ms.length := by omega
   have hp := J.out
   rw [List.take_length] at hp
   have CD := Lib.hid (cdrained_any w top w.heap.size _ wr hp (by rw [List.length_map]; omega))
   unfold eIf at CD
   clear hp J
   go_wp2_with fail
   refine CD.out.mono ?_
   rintro e w6 ⟨v6, S, rfl, pm, rs, own6, k6⟩
   have FS := Lib.hid (FIN.out S pm rs)
   have ES := Lib.hid (EL2.out S pm)
   have OS := Lib.hid own6
   have K6 := Lib.hid k6
   have ls : S.length ≤ 64 := by rw [pm.length_eq, List.length_map]; exact lm
   have LD := Lib.hid (fun i => show (ddE [] (S.take i)).length ≤ 64 by have a := ddE_len (S.take i) []; have b : (S.take i).length ≤ S.length := by rw [List.length_take]; omega
                                                                        omega)
   have TKD := Lib.hid (fun i (hi : i < S.length) => ddE_take (l := S) hi)
   have TKL := Lib.hid (fun i (hi : i < S.length) => lastE_take (l := S) hi)
   obtain ⟨ad6, cp6, rfl⟩ := own_slice own6
   clear pm rs own6 k6
   go_wp2
   go_loopw [6, 7, 30] (fun r t i ws => ∃ (j : Nat) (ns : List NV) (tb : ByteArray), j ≤ S.length ∧ i = .int .i64 j ∧ t = .string tb ∧ Hid (tb.toList = lastE (S.take j)) ∧ Hid (ns.map Prod.fst = ddE [] (S.take j)) ∧ Hid (ReadsN w0 ns) ∧ Hid (ws.ownsRow w6.heap.size 26 8 r ns.length (cellsN ns)) ∧ Hid (Kp w6 ws)) (fun _ _ i _ => S.length - (intOf i).toNat)
   case atStart => exact ⟨0, [], ⟨#[]⟩, Nat.zero_le _, rfl, rfl, Lib.hid (by simp [lastE, ByteArray.toList_eq]), Lib.hid rfl, Lib.hid (by intro p hp; cases hp), Lib.hid (World.ownsRow_nil _ _ _ _), Lib.hid (Kp.refl w6)⟩
   case round =>
    obtain ⟨j, ns, tb, hj, rfl, rfl, TB, NJ, RJ, OJ, KJ⟩ := hrel
    obtain ⟨sad, scp, rfl⟩ := own_slice8 OJ.out
    by_cases hlt : j < S.length
    ·have own7 := own_kp OS.out KJ.out
     rcases own7.2 with ⟨_, e⟩ | ⟨g, cap, cur, ev, hb, hg, hc, _⟩
     ·omega
     cases ev
     have xa := xat_own own7 hlt
     obtain ⟨qq, hq, he⟩ := ES.out j hlt
     have td := TKD.out j hlt
     have tl := TKL.out j hlt
     have ld := LD.out j
     rw [he] at xa td tl
     have rq := RD.out qq hq
     rw [elOf_t] at td tl
     obtain ⟨xn, xv⟩ := qq
     simp only at rq
     obtain ⟨ad, n, cp, hxv⟩ : ∃ ad n cp, xv = .slice ad n cp := by obtain ⟨a, c, e⟩ := rq.slice; exact ⟨a, _, c, e⟩
     obtain ⟨tx, htx⟩ : ∃ u, bs (txN xn) = u := ⟨_, rfl⟩
     have tt : tx.toList = txN xn := by rw [← htx]; exact bs_toList _
     unfold elOf at xa td
     simp only at xa td tl
     rw [htx] at xa
     rw [← tt] at td tl
     have NL := Lib.hid (show ns.length ≤ 64 by have a := congrArg List.length NJ.out; rw [List.length_map] at a; omega)
     have TD := Lib.hid td
     have TLH := Lib.hid tl
     subst hxv
     have RQ := Lib.hid (fun p (hp : p ∈ [(xn, Value.slice ad n cp)]) => show NodesAt w0 p.2 p.1.l by rw [List.mem_singleton.1 hp]; exact rq)
     clear td tl ld htx tt he hq own7 hb hg hc rq
     obtain ⟨k, ⟨pk, y, m, q⟩, a, t, l⟩ := xn
     unfold XAt cellsX at xa
     simp only [ND.k, ND.p, ND.a, ND.t] at xa
     have e0 := xa 0 _ rfl
     have e1 := xa 1 _ rfl
     have e2 := xa 2 _ rfl
     have e3 := xa 3 _ rfl
     have e4 := xa 4 _ rfl
     have e5 := xa 5 _ rfl
     have e6 := xa 6 _ rfl
     have e7 := xa 7 _ rfl
     have e8 := xa 8 _ rfl
     rw [Nat.add_zero] at e0
     have hbk := World.block_lt_of_cell? _ _ e0
     simp only at hbk
     have z1 : (j : Int) < (S.length : Int) := by omega
     have z3 : (0 : Int) ≤ (j : Int) := by omega
     have HLT := Lib.hid hlt
     obtain ⟨W5, hW5⟩ : ∃ x, x = wr.alloc (.cells #[.int .i64 k, .int .i64 pk, .string y, .string m, .string q, .bool a, .bool t, .slice ad n cp, .string tx] 64) := ⟨_, rfl⟩
     have k5 : Kp wr W5 := by rw [hW5]; exact Kp.alloc _ _
     have g5 : W5.heap[wr.heap.size]? = some (.cells #[.int .i64 k, .int .i64 pk, .string y, .string m, .string q, .bool a, .bool t, .slice ad n cp, .string tx] 64 (0, 0)) := by rw [hW5]; exact heap_at _ _ _ rfl
     have HW5 := Lib.hid hW5
     have KJ5 := Lib.hid (KJ.out.trans k5)
     have OJ5 := Lib.hid (own_kp OJ.out k5)
     have XB := Lib.hid (fun w1 (kk : Kp W5 w1) => show w1.cell? ⟨wr.heap.size, 0, none⟩ = some (.int .i64 k) ∧ w1.cell? ⟨wr.heap.size, 1, none⟩ = some (.int .i64 pk) ∧ w1.cell? ⟨wr.heap.size, 2, none⟩ = some (.string y) ∧ w1.cell? ⟨wr.heap.size, 3, none⟩ = some (.string m) ∧ w1.cell? ⟨wr.heap.size, 4, none⟩ = some (.string q) ∧ w1.cell? ⟨wr.heap.size, 5, none⟩ = some (.bool a) ∧ w1.cell? ⟨wr.heap.size, 6, none⟩ = some (.bool t) ∧ w1.cell? ⟨wr.heap.size, 7, none⟩ = some (.slice ad n cp) ∧ w1.cell? ⟨wr.heap.size, 8, none⟩ = some (.string tx) from ⟨cell_up kk (by simp [World.cell?, g5]), cell_up kk (by simp [World.cell?, g5]), cell_up kk (by simp [World.cell?, g5]), cell_up kk (by simp [World.cell?, g5]), cell_up kk (by simp [World.cell?, g5]), cell_up kk (by simp [World.cell?, g5]), cell_up kk (by simp [World.cell?, g5]), cell_up kk (by simp [World.cell?, g5]), cell_up kk (by simp [World.cell?, g5])⟩)
     have z4 : wr.heap.size < W5.heap.size := (Array.getElem?_eq_some_iff.1 g5).1
     have z5 : ¬ wr.heap.size = W5.heap.size := by omega
     have Z6 := Lib.hid (show W5.heap.size = wr.heap.size + 1 by rw [hW5]; simp)
     have G5 := Lib.hid (fun w1 (kk : Kp W5 w1) => heap_block kk g5)
     have LTJ := Lib.hid (fun j (hj : _ = some j) => (OJ.out.lt j hj).2)
     clear xa k5 g5 hW5
     rcases Bool.eq_false_or_eq_true (tx.toList == tb.toList) with hq | hq
     ·have hq1 : (tx.toList == tb.toList) = true := hq
      have hq2 : (!(tx.toList == tb.toList)) = false := by rw [hq]; rfl
      have NE := Lib.hid (show ns.map Prod.fst = ddE [] (S.take (j + 1)) by
       rw [TD.out, if_pos (by rw [← TB.out]; exact beq_iff_eq.1 hq), List.append_nil]
       exact NJ.out)
      clear hq
      have KJA := Lib.hid (show Kp w6 (wr.alloc (.cells #[.int .i64 k, .int .i64 pk, .string y, .string m, .string q, .bool a, .bool t, .slice ad n cp, .string tx] 64)) from KJ.out.trans (Kp.alloc _ _))
      have OJA := Lib.hid (own_kp OJ.out (Kp.alloc wr (.cells #[.int .i64 k, .int .i64 pk, .string y, .string m, .string q, .bool a, .bool t, .slice ad n cp, .string tx] 64)))
      go_wp2
      go_roundw
      case rel => exact ⟨j + 1, ns, tx, HLT.out, by go_num, rfl, Lib.hid TLH.out.symm, NE, RJ, OJA, KJA⟩
      case measure => have := HLT.out; simp [intOf]; omega
     ·have hq1 : (tx.toList == tb.toList) = false := hq
      have hq2 : (!(tx.toList == tb.toList)) = true := by rw [hq]; rfl
      have NE := Lib.hid (show (ns ++ [((.mk k ⟨pk, y, m, q⟩ a t l : ND), Value.slice ad n cp)]).map Prod.fst = ddE [] (S.take (j + 1)) by
       rw [TD.out, if_neg (by rw [← TB.out]; exact beq_eq_false_iff_ne.1 hq), List.map_append, NJ.out]
       rfl)
      have SRC := Lib.hid (one_srcN (w := W5) rfl (.mk k ⟨pk, y, m, q⟩ a t l) (.slice ad n cp) 26)
      simp only [ND.k, ND.p, ND.a, ND.t] at SRC
      rw [Z6.out] at SRC
      have ONE := Lib.hid (cellsN_one RQ.out)
      clear hq
      go_wp2_with (at_builtin; refine Hid.out ?_)
      refine Lib.hid ?_
      rw [← HW5.out]
      refine wpList_app rfl (.tmp 38) (.tmp 41) 24 rfl w6.heap.size 26 i0 (.agg #[.int .i64 0, .int .i64 0, .string ⟨#[]⟩, .string ⟨#[]⟩, .string ⟨#[]⟩, .bool false, .bool false, .slice none 0 0]) 8 96 Tryz.underlying24 hi hz0 hz1 hz2 rfl (by decide) _ _ _ rfl (own_kp OJ5.out (Kp.alloc _ _)) _ _ _ rfl SRC.out rfl ONE.out (by have a := NL.out; unfold maxLen; omega) (by have a := NL.out; omega) (Nat.le_trans KJ5.out.size (Kp.alloc _ _).size) ?_
      intro v8 w8 own8 grow8 at8; have K8 := Lib.hid ((KJ5.out.trans (Kp.alloc _ _)).grown grow8 (fun j hj => (OJ5.out.lt j hj).1)); have O8 := Lib.hid own8; have bx := (grow8.block wr.heap.size (Nat.lt_of_lt_of_le z4 (Kp.alloc _ _).size) (fun e => by have := LTJ.out _ e.symm; omega)).trans (G5.out _ (Kp.alloc _ _)); have y8 : w8.cell? ⟨wr.heap.size, 8, none⟩ = some (.string tx) := (by simp [World.cell?, bx]); clear grow8 at8 own8 bx
      go_wp2
      go_roundw
      case rel => exact ⟨j + 1, _, tx, HLT.out, by go_num, rfl, Lib.hid TLH.out.symm, NE, Lib.hid (RJ.out.append RQ.out), Lib.hid (by rw [List.length_append, cellsN_append]; exact O8.out), K8⟩
      case measure => have := HLT.out; simp [intOf]; omega
    ·obtain rfl : j = S.length := by omega
     have nj := NJ.out
     rw [List.take_length, FS.out] at nj
     have NF := Lib.hid nj
     clear nj
     go_wp2
     go_ret
     exact ⟨_, rfl, ⟨ns, NF.out, RJ.out, own_mono OJ.out K6.out.size⟩, K6.out.trans KJ.out⟩
end Go.Proofs.YtajllgjfndfdjaaGreatDoor
