/-
  Joined: PsA, PsB, PsC, PsD.
-/
import Derived.Test.YtndmohamjffpcaaDoorGLex
import Derived.Test.YtndmohamjffpcaaDoorGCnB
import Derived.Test.YtndmohamjffpcaaDoorGPtA
import Derived.Test.YtndmohamjffpcaaDoorGL8
import Derived.Test.YtndmohamjffpcaaDoorGPrA
namespace Go.Proofs.YtndmohamjffpcaaDoor
set_option linter.unusedVariables false
set_option linter.unusedSimpArgs false
/-- the list of two ends -/
def btN (a b : ND) : ND := .mk 1 pz false false [a, b]
def nOpen : ND := .mk 3 pz false false []
def nUnk : ND := .mk 4 pz false false []
def setA : ND → ND | .mk k p _ t l => .mk k p true t l
def setT : ND → ND | .mk k p a _ l => .mk k p a true l
/-- what is awaited; how many nodes have begun, the lists that stand open (the last one first), what has been read -/
inductive St where
  | ex (n : Nat) (sk : List (List ND))
  | en (n : Nat) (sk : List (List ND)) (st : ND)
  | b1 (n : Nat) (sk : List (List ND)) (wh : ND)
  | b2 (n : Nat) (sk : List (List ND)) (st wh : ND)
  | sl (n : Nat) (sk : List (List ND)) (wh : ND)
  | bs (n : Nat) (sk : List (List ND)) (st wh : ND)
  | be (n : Nat) (sk : List (List ND)) (wh : ND)
inductive Res where
  | go (s : St)
  | stop (n : ND)
  | er (e : Int)
inductive Out where
  | ok (n : ND)
  | er (at_ e : Int)
def misM (t : Tk) : Int := if t.1 = 9 then 4 else 3
def beM (n : Nat) (sk : List (List ND)) (wh : ND) (t : Tk) : Res :=
  match sk with
  | [] => if t.1 = 9 then .stop wh else .er (misM t)
  | top :: r => if t.1 = 6 then .go (.ex n ((top ++ [wh]) :: r)) else if t.1 = 5 then .go (.be n r (orN (top ++ [wh]))) else .er (misM t)
def slM (n : Nat) (sk : List (List ND)) (wh : ND) (t : Tk) : Res := if t.1 = 1 then (if n = 64 then .er 6 else .go (.en (n + 1) sk wh)) else .er (misM t)
def b1M (n : Nat) (sk : List (List ND)) (wh : ND) (t : Tk) : Res :=
  if t.1 = 7 ∧ wh.a = false then .go (.b1 n sk (setA wh)) else if t.1 = 8 ∧ wh.t = false then .go (.b1 n sk (setT wh)) else if t.1 = 1 then slM n sk wh t else beM n sk wh t
def b2M (n : Nat) (sk : List (List ND)) (st wh : ND) (t : Tk) : Res :=
  if t.1 = 7 ∧ wh.a = false then .go (.b2 n sk st (setA wh)) else if t.1 = 8 ∧ wh.t = false then .go (.b2 n sk st (setT wh)) else beM n sk (btN st wh) t
def endM (n : Nat) (sk : List (List ND)) (o : Option ND) (t : Tk) : Res :=
  if t.1 = 0 ∨ t.1 = 2 ∨ t.1 = 3 then
    if n = 64 then .er 6
    else if t.1 = 0 then
      if (readP (bs t.2.2)).2 = true then .go (match o with | none => .b1 (n + 1) sk (.mk 0 (readP (bs t.2.2)).1 false false []) | some st => .b2 (n + 1) sk st (.mk 0 (readP (bs t.2.2)).1 false false []))
      else .er 2
    else .go (match o with | none => .sl (n + 1) sk (if t.1 = 2 then nOpen else nUnk) | some st => .bs (n + 1) sk st (if t.1 = 2 then nOpen else nUnk))
  else .er (misM t)
def exM (n : Nat) (sk : List (List ND)) (t : Tk) : Res :=
  if t.1 = 4 then (if sk.length = 8 then .er 5 else if n = 64 then .er 6 else .go (.ex (n + 1) ([] :: sk))) else endM n sk none t
def stepM : St → Tk → Res
  | .ex n sk, t => exM n sk t
  | .en n sk st, t => endM n sk (some st) t
  | .b1 n sk wh, t => b1M n sk wh t
  | .b2 n sk st wh, t => b2M n sk st wh t
  | .sl n sk wh, t => slM n sk wh t
  | .bs n sk st wh, t => beM n sk (btN st wh) t
  | .be n sk wh, t => beM n sk wh t
def runM : St → List Tk → Out
  | _, [] => .er 0 0
  | s, t :: ts => match stepM s t with
    | .go s' => runM s' ts
    | .stop n => .ok n
    | .er e => .er t.2.1 e
theorem run_go {s s' : St} {t : Tk} (h : stepM s t = .go s') (ts : List Tk) : runM s (t :: ts) = runM s' ts := by simp only [runM, h]
theorem run_er {s : St} {t : Tk} {e : Int} (h : stepM s t = .er e) (ts : List Tk) : runM s (t :: ts) = .er t.2.1 e := by simp only [runM, h]
theorem run_stop {s : St} {t : Tk} {n : ND} (h : stepM s t = .stop n) (ts : List Tk) : runM s (t :: ts) = .ok n := by simp only [runM, h]
theorem run_as {s s' : St} {t : Tk} (h : stepM s t = stepM s' t) (ts : List Tk) : runM s (t :: ts) = runM s' (t :: ts) := by simp only [runM, h]
/-! the token lists of an expression -/
/-- the marks behind a point, in either order -/
inductive Mks : Bool → Bool → List Tk → Prop
  | no : Mks false false []
  | a (i : Int) (x : List UInt8) : Mks true false [(7, i, x)]
  | t (i : Int) (x : List UInt8) : Mks false true [(8, i, x)]
  | at_ (i j : Int) (x y : List UInt8) : Mks true true [(7, i, x), (8, j, y)]
  | ta (i j : Int) (x y : List UInt8) : Mks true true [(8, i, x), (7, j, y)]
inductive RdE : ND → List Tk → Prop
  | pt {p : PT} {w : List UInt8} (h : readP (bs w) = (p, true)) (i : Int) {a t : Bool} {ms : List Tk} (hm : Mks a t ms) : RdE (.mk 0 p a t []) ((0, i, w) :: ms)
  | op (i : Int) (x : List UInt8) : RdE nOpen [(2, i, x)]
  | un (i : Int) (x : List UInt8) : RdE nUnk [(3, i, x)]
mutual
inductive Rd : ND → List Tk → Prop
  | pt {n : ND} {ts : List Tk} (h : RdE n ts) (hk : n.k = 0) : Rd n ts
  | sp {a b : ND} {ts us : List Tk} (ha : RdE a ts) (hb : RdE b us) (i : Int) (x : List UInt8) : Rd (btN a b) (ts ++ (1, i, x) :: us)
  | ls {l : List ND} {ts : List Tk} (h : RdL l ts) (i : Int) (x : List UInt8) : Rd (orN l) ((4, i, x) :: ts)
inductive RdL : List ND → List Tk → Prop
  | one {n : ND} {ts : List Tk} (h : Rd n ts) (i : Int) (x : List UInt8) : RdL [n] (ts ++ [(5, i, x)])
  | cons {n : ND} {ts : List Tk} {l : List ND} {us : List Tk} (h : Rd n ts) (g : RdL l us) (i : Int) (x : List UInt8) : RdL (n :: l) (ts ++ (6, i, x) :: us)
end
/-- a token that ends an expression -/
def isEnd (t : Tk) : Prop := t.1 = 5 ∨ t.1 = 6 ∨ t.1 = 9
theorem b1_end {n : Nat} {sk : List (List ND)} {wh : ND} {t : Tk} (h : isEnd t) : b1M n sk wh t = beM n sk wh t := by
  unfold isEnd at h
  unfold b1M
  rw [if_neg (by omega), if_neg (by omega), if_neg (by omega)]
theorem b2_end {n : Nat} {sk : List (List ND)} {st wh : ND} {t : Tk} (h : isEnd t) : b2M n sk st wh t = beM n sk (btN st wh) t := by
  unfold isEnd at h
  unfold b2M
  rw [if_neg (by omega), if_neg (by omega)]
theorem b1_marks {a t : Bool} {ms : List Tk} (h : Mks a t ms) (n : Nat) (sk : List (List ND)) (p : PT) (ts : List Tk) :
    runM (.b1 n sk (.mk 0 p false false [])) (ms ++ ts) = runM (.b1 n sk (.mk 0 p a t [])) ts := by
  cases h with
  | no => rfl
  | a i x => rfl
  | t i x => rfl
  | at_ i j x y => rfl
  | ta i j x y => rfl
theorem b2_marks {a t : Bool} {ms : List Tk} (h : Mks a t ms) (n : Nat) (sk : List (List ND)) (st : ND) (p : PT) (ts : List Tk) :
    runM (.b2 n sk st (.mk 0 p false false [])) (ms ++ ts) = runM (.b2 n sk st (.mk 0 p a t [])) ts := by
  cases h with
  | no => rfl
  | a i x => rfl
  | t i x => rfl
  | at_ i j x y => rfl
  | ta i j x y => rfl
/-- what has been read behind the first end -/
def aftE (n : Nat) (sk : List (List ND)) (e : ND) : St := if e.k = 0 then .b1 n sk e else .sl n sk e
theorem end_first {e : ND} {ts : List Tk} (h : RdE e ts) {n : Nat} (hn : n + 1 ≤ 64) (sk : List (List ND)) (rest : List Tk) : runM (.ex n sk) (ts ++ rest) = runM (aftE (n + 1) sk e) rest := by
  have n64 : ¬ n = 64 := by omega
  cases h with
  | @pt p w h i a t ms hm =>
    have e1 : stepM (.ex n sk) (0, i, w) = .go (.b1 (n + 1) sk (.mk 0 p false false [])) := by
      show exM n sk (0, i, w) = _
      unfold exM endM
      rw [if_neg (by simp), if_pos (by simp), if_neg n64, if_pos rfl, h]
      rfl
    rw [List.cons_append, run_go e1, b1_marks hm]
    rfl
  | op i x =>
    have e1 : stepM (.ex n sk) (2, i, x) = .go (.sl (n + 1) sk nOpen) := by
      show exM n sk (2, i, x) = _
      unfold exM endM
      rw [if_neg (by simp), if_pos (by simp), if_neg n64, if_neg (by simp)]
      rfl
    rw [List.cons_append, run_go e1]
    rfl
  | un i x =>
    have e1 : stepM (.ex n sk) (3, i, x) = .go (.sl (n + 1) sk nUnk) := by
      show exM n sk (3, i, x) = _
      unfold exM endM
      rw [if_neg (by simp), if_pos (by simp), if_neg n64, if_neg (by simp)]
      rfl
    rw [List.cons_append, run_go e1]
    rfl
theorem aft_slash (n : Nat) (sk : List (List ND)) (e : ND) (i : Int) (x : List UInt8) (ts : List Tk) (hn : n + 1 ≤ 64) : runM (aftE n sk e) ((1, i, x) :: ts) = runM (.en (n + 1) sk e) ts := by
  have e0 : slM n sk e (1, i, x) = .go (.en (n + 1) sk e) := by
    unfold slM
    rw [if_pos rfl, if_neg (by omega)]
  unfold aftE
  split
  · refine run_go ?_ ts
    show b1M n sk e (1, i, x) = _
    unfold b1M
    rw [if_neg (by simp), if_neg (by simp), if_pos rfl]
    exact e0
  · exact run_go (show stepM (.sl n sk e) (1, i, x) = _ from e0) ts
theorem end_second {e : ND} {ts : List Tk} (h : RdE e ts) {n : Nat} (hn : n + 1 ≤ 64) (sk : List (List ND)) (st : ND) {t : Tk} (ht : isEnd t) (rest : List Tk) : runM (.en n sk st) (ts ++ t :: rest) = runM (.be (n + 1) sk (btN st e)) (t :: rest) := by
  have n64 : ¬ n = 64 := by omega
  cases h with
  | @pt p w h i a t' ms hm =>
    have e1 : stepM (.en n sk st) (0, i, w) = .go (.b2 (n + 1) sk st (.mk 0 p false false [])) := by
      show endM n sk (some st) (0, i, w) = _
      unfold endM
      rw [if_pos (by simp), if_neg n64, if_pos rfl, h]
      rfl
    rw [List.cons_append, run_go e1, b2_marks hm]
    exact run_as (show stepM (.b2 _ _ _ _) t = stepM (.be _ _ _) t from b2_end ht) rest
  | op i x =>
    have e1 : stepM (.en n sk st) (2, i, x) = .go (.bs (n + 1) sk st nOpen) := by
      show endM n sk (some st) (2, i, x) = _
      unfold endM
      rw [if_pos (by simp), if_neg n64, if_neg (by simp)]
      rfl
    rw [List.cons_append, run_go e1]
    exact run_as rfl rest
  | un i x =>
    have e1 : stepM (.en n sk st) (3, i, x) = .go (.bs (n + 1) sk st nUnk) := by
      show endM n sk (some st) (3, i, x) = _
      unfold endM
      rw [if_pos (by simp), if_neg n64, if_neg (by simp)]
      rfl
    rw [List.cons_append, run_go e1]
    exact run_as rfl rest
theorem rdE_cnt {e : ND} {ts : List Tk} (h : RdE e ts) : cntN e = 1 ∧ depN e = 0 := by
  cases h <;> exact ⟨rfl, rfl⟩
/-! an expression's tokens are read as it -/
mutual
theorem rd_run : ∀ {x : ND} {ts : List Tk}, Rd x ts → ∀ (n : Nat) (sk : List (List ND)) (t : Tk) (rest : List Tk), isEnd t → n + cntN x ≤ 64 → sk.length + depN x ≤ 8 →
    runM (.ex n sk) (ts ++ t :: rest) = runM (.be (n + cntN x) sk x) (t :: rest)
  | _, _, .pt h hk, n, sk, t, rest, ht, hn, hd => by
    have c := (rdE_cnt h).1
    rw [c] at hn ⊢
    rw [end_first h hn]
    unfold aftE
    rw [if_pos hk]
    exact run_as (show stepM (.b1 _ _ _) t = stepM (.be _ _ _) t from b1_end ht) rest
  | _, _, .sp (a := a) (b := b) ha hb i x, n, sk, t, rest, ht, hn, hd => by
    have ca := (rdE_cnt ha).1
    have cb := (rdE_cnt hb).1
    have cc : cntN (btN a b) = 3 := by show cntL [a, b] + 1 = 3; simp only [cntL]; omega
    rw [cc] at hn ⊢
    rw [List.append_assoc, end_first ha (by omega), List.cons_append, aft_slash _ _ _ _ _ _ (by omega), end_second hb (by omega) _ _ ht]
  | _, _, .ls (l := l) h i x, n, sk, t, rest, ht, hn, hd => by
    have cc : cntN (orN l) = cntL l + 1 := rfl
    have dd : depN (orN l) = depL l + 1 := rfl
    rw [cc] at hn ⊢
    rw [dd] at hd
    have e1 : stepM (.ex n sk) (4, i, x) = .go (.ex (n + 1) ([] :: sk)) := by
      show exM n sk (4, i, x) = _
      unfold exM
      rw [if_pos rfl, if_neg (by omega), if_neg (by omega)]
    rw [List.cons_append, run_go e1, rdL_run h (n + 1) sk [] (t :: rest) (by omega) (by omega)]
    rw [List.nil_append, show n + 1 + cntL l = n + (cntL l + 1) by omega]
theorem rdL_run : ∀ {l : List ND} {ts : List Tk}, RdL l ts → ∀ (n : Nat) (sk : List (List ND)) (top : List ND) (rest : List Tk), n + cntL l ≤ 64 → sk.length + 1 + depL l ≤ 8 →
    runM (.ex n (top :: sk)) (ts ++ rest) = runM (.be (n + cntL l) sk (orN (top ++ l))) rest
  | _, _, .one (n := x) h i y, n, sk, top, rest, hn, hd => by
    simp only [cntL, depL] at hn hd ⊢
    rw [List.append_assoc, List.singleton_append, rd_run h n (top :: sk) (5, i, y) rest (.inl rfl) (by omega) (by simp only [List.length_cons]; omega)]
    rw [run_go (show stepM (.be (n + cntN x) (top :: sk) x) (5, i, y) = .go (.be (n + cntN x) sk (orN (top ++ [x]))) from rfl)]
    rfl
  | _, _, .cons (n := x) (l := l) h g i y, n, sk, top, rest, hn, hd => by
    simp only [cntL, depL] at hn hd ⊢
    rw [List.append_assoc, List.cons_append, rd_run h n (top :: sk) (6, i, y) _ (.inr (.inl rfl)) (by omega) (by simp only [List.length_cons]; omega)]
    rw [run_go (show stepM (.be (n + cntN x) (top :: sk) x) (6, i, y) = .go (.ex (n + cntN x) ((top ++ [x]) :: sk)) from rfl), rdL_run g (n + cntN x) sk (top ++ [x]) rest (by omega) (by omega)]
    rw [List.append_assoc, List.singleton_append, show n + cntN x + cntL l = n + (cntN x + cntL l) by omega]
end
end Go.Proofs.YtndmohamjffpcaaDoor

namespace Go.Proofs.YtndmohamjffpcaaDoor
set_option linter.unusedVariables false
set_option linter.unusedSimpArgs false
theorem readM_yes {s : ByteArray} (h : (readP s).2 = true) : saneP (readP s).1 = true ∧ textP (readP s).1 = s := by
  have g : ∀ (n k : Nat), (rdF s n k).2 = true → saneP (rdF s n k).1 = true ∧ textP (rdF s n k).1 = s := by
    intro n
    induction n with
    | zero => intro k h; simp [rdF] at h
    | succ n ih =>
      intro k h
      unfold rdF at h ⊢
      by_cases c : rdB s (k : Nat) = true
      · rw [if_pos c] at h ⊢
        exact rdB_iff.1 c
      · rw [if_neg c] at h ⊢
        exact ih _ h
  exact g 6 0 h
theorem be_end {n : Nat} {sk : List (List ND)} {wh : ND} {t : Tk} {rest : List Tk} {r : ND} (h : runM (.be n sk wh) (t :: rest) = .ok r) : isEnd t := by
  unfold isEnd
  by_cases c : t.1 = 5 ∨ t.1 = 6 ∨ t.1 = 9
  · exact c
  · have e : stepM (.be n sk wh) t = .er (misM t) := by
      show beM n sk wh t = _
      unfold beM
      cases sk with
      | nil => exact if_neg (by omega)
      | cons a b => simp only; rw [if_neg (by omega), if_neg (by omega)]
    rw [run_er e] at h
    cases h
theorem run_nil {s : St} {r : ND} (h : runM s [] = .ok r) : False := by cases h
theorem ok_go {s s' : St} {t : Tk} {ts : List Tk} {r : ND} (h : runM s (t :: ts) = .ok r) (e : stepM s t = .go s') : runM s' ts = .ok r := by rwa [run_go e] at h
theorem ok_er {s : St} {t : Tk} {ts : List Tk} {r : ND} {x : Int} (h : runM s (t :: ts) = .ok r) (e : stepM s t = .er x) : False := by rw [run_er e] at h; cases h
theorem mks_a {t : Bool} {pre : List Tk} (h : Mks false t pre) (i : Int) (x : List UInt8) : Mks true t (pre ++ [(7, i, x)]) := by
  cases h with
  | no => exact .a i x
  | t j y => exact .ta j i y x
theorem mks_t {a : Bool} {pre : List Tk} (h : Mks a false pre) (i : Int) (x : List UInt8) : Mks a true (pre ++ [(8, i, x)]) := by
  cases h with
  | no => exact .t i x
  | a j y => exact .at_ j i y x
theorem b1_sound : ∀ {ts : List Tk} {n : Nat} {sk : List (List ND)} {p : PT} {a t : Bool} {pre : List Tk} {r : ND}, Mks a t pre → runM (.b1 n sk (.mk 0 p a t [])) ts = .ok r →
    ∃ a' t' ms u rest, ts = ms ++ u :: rest ∧ Mks a' t' (pre ++ ms) ∧ (u.1 = 1 ∨ isEnd u) ∧ runM (if u.1 = 1 then .sl n sk (.mk 0 p a' t' []) else .be n sk (.mk 0 p a' t' [])) (u :: rest) = .ok r
  | [], n, sk, p, a, t, pre, r, hm, h => (run_nil h).elim
  | u :: ts, n, sk, p, a, t, pre, r, hm, h => by
    by_cases c1 : u.1 = 7 ∧ a = false
    · obtain ⟨c1, rfl⟩ := c1
      have e : stepM (.b1 n sk (.mk 0 p false t [])) u = .go (.b1 n sk (.mk 0 p true t [])) := if_pos ⟨c1, rfl⟩
      have hm' := mks_a hm u.2.1 u.2.2
      rw [show ((7 : Int), u.2.1, u.2.2) = u by rw [← c1]] at hm'
      obtain ⟨a', t', ms, v, rest, g1, g2, g3, g4⟩ := b1_sound hm' (ok_go h e)
      exact ⟨a', t', u :: ms, v, rest, by rw [g1]; rfl, by rw [List.append_assoc] at g2; exact g2, g3, g4⟩
    · by_cases c2 : u.1 = 8 ∧ t = false
      · obtain ⟨c2, rfl⟩ := c2
        have e : stepM (.b1 n sk (.mk 0 p a false [])) u = .go (.b1 n sk (.mk 0 p a true [])) := by
          show b1M n sk (.mk 0 p a false []) u = _
          unfold b1M
          rw [if_neg (show ¬ (u.1 = 7 ∧ (ND.mk 0 p a false []).a = false) from c1), if_pos (show u.1 = 8 ∧ (ND.mk 0 p a false []).t = false from ⟨c2, rfl⟩)]
          rfl
        have hm' := mks_t hm u.2.1 u.2.2
        rw [show ((8 : Int), u.2.1, u.2.2) = u by rw [← c2]] at hm'
        obtain ⟨a', t', ms, v, rest, g1, g2, g3, g4⟩ := b1_sound hm' (ok_go h e)
        exact ⟨a', t', u :: ms, v, rest, by rw [g1]; rfl, by rw [List.append_assoc] at g2; exact g2, g3, g4⟩
      · have e : stepM (.b1 n sk (.mk 0 p a t [])) u = (if u.1 = 1 then slM n sk (.mk 0 p a t []) u else beM n sk (.mk 0 p a t []) u) := by
          show b1M n sk (.mk 0 p a t []) u = _
          unfold b1M
          rw [if_neg (show ¬ (u.1 = 7 ∧ (ND.mk 0 p a t []).a = false) from c1), if_neg (show ¬ (u.1 = 8 ∧ (ND.mk 0 p a t []).t = false) from c2)]
        by_cases c3 : u.1 = 1
        · rw [if_pos c3] at e
          refine ⟨a, t, [], u, ts, rfl, by simpa using hm, .inl c3, ?_⟩
          rw [if_pos c3, ← run_as (show stepM (.b1 n sk (.mk 0 p a t [])) u = stepM (.sl n sk (.mk 0 p a t [])) u from e)]
          exact h
        · rw [if_neg c3] at e
          have g : runM (.be n sk (.mk 0 p a t [])) (u :: ts) = .ok r := by
            rw [← run_as (show stepM (.b1 n sk (.mk 0 p a t [])) u = stepM (.be n sk (.mk 0 p a t [])) u from e)]
            exact h
          exact ⟨a, t, [], u, ts, rfl, by simpa using hm, .inr (be_end g), by rw [if_neg c3]; exact g⟩
theorem b2_sound : ∀ {ts : List Tk} {n : Nat} {sk : List (List ND)} {st : ND} {p : PT} {a t : Bool} {pre : List Tk} {r : ND}, Mks a t pre → runM (.b2 n sk st (.mk 0 p a t [])) ts = .ok r →
    ∃ a' t' ms u rest, ts = ms ++ u :: rest ∧ Mks a' t' (pre ++ ms) ∧ isEnd u ∧ runM (.be n sk (btN st (.mk 0 p a' t' []))) (u :: rest) = .ok r
  | [], n, sk, st, p, a, t, pre, r, hm, h => (run_nil h).elim
  | u :: ts, n, sk, st, p, a, t, pre, r, hm, h => by
    by_cases c1 : u.1 = 7 ∧ a = false
    · obtain ⟨c1, rfl⟩ := c1
      have e : stepM (.b2 n sk st (.mk 0 p false t [])) u = .go (.b2 n sk st (.mk 0 p true t [])) := if_pos ⟨c1, rfl⟩
      have hm' := mks_a hm u.2.1 u.2.2
      rw [show ((7 : Int), u.2.1, u.2.2) = u by rw [← c1]] at hm'
      obtain ⟨a', t', ms, v, rest, g1, g2, g3, g4⟩ := b2_sound hm' (ok_go h e)
      exact ⟨a', t', u :: ms, v, rest, by rw [g1]; rfl, by rw [List.append_assoc] at g2; exact g2, g3, g4⟩
    · by_cases c2 : u.1 = 8 ∧ t = false
      · obtain ⟨c2, rfl⟩ := c2
        have e : stepM (.b2 n sk st (.mk 0 p a false [])) u = .go (.b2 n sk st (.mk 0 p a true [])) := by
          show b2M n sk st (.mk 0 p a false []) u = _
          unfold b2M
          rw [if_neg (show ¬ (u.1 = 7 ∧ (ND.mk 0 p a false []).a = false) from c1), if_pos (show u.1 = 8 ∧ (ND.mk 0 p a false []).t = false from ⟨c2, rfl⟩)]
          rfl
        have hm' := mks_t hm u.2.1 u.2.2
        rw [show ((8 : Int), u.2.1, u.2.2) = u by rw [← c2]] at hm'
        obtain ⟨a', t', ms, v, rest, g1, g2, g3, g4⟩ := b2_sound hm' (ok_go h e)
        exact ⟨a', t', u :: ms, v, rest, by rw [g1]; rfl, by rw [List.append_assoc] at g2; exact g2, g3, g4⟩
      · have e : stepM (.b2 n sk st (.mk 0 p a t [])) u = beM n sk (btN st (.mk 0 p a t [])) u := by
          show b2M n sk st (.mk 0 p a t []) u = _
          unfold b2M
          rw [if_neg (show ¬ (u.1 = 7 ∧ (ND.mk 0 p a t []).a = false) from c1), if_neg (show ¬ (u.1 = 8 ∧ (ND.mk 0 p a t []).t = false) from c2)]
        have g : runM (.be n sk (btN st (.mk 0 p a t []))) (u :: ts) = .ok r := by
          rw [← run_as (show stepM (.b2 n sk st (.mk 0 p a t [])) u = stepM (.be n sk (btN st (.mk 0 p a t []))) u from e)]
          exact h
        exact ⟨a, t, [], u, ts, rfl, by simpa using hm, be_end g, g⟩
theorem endN_pt {p : PT} {a t : Bool} (h : saneP p = true) : endN saneP (.mk 0 p a t []) = true := by
  unfold endN
  simp [ND.k, ND.p, ND.l, h]
theorem endN_op : endN saneP nOpen = true := by decide
theorem endN_un : endN saneP nUnk = true := by decide
theorem tk_eta {t : Tk} {k : Int} (h : t.1 = k) : t = (k, t.2.1, t.2.2) := by rw [← h]
theorem en_sound {ts : List Tk} {n : Nat} {sk : List (List ND)} {st : ND} {r : ND} (hn : n ≤ 64) (h : runM (.en n sk st) ts = .ok r) :
    ∃ e us u rest, ts = us ++ u :: rest ∧ RdE e us ∧ endN saneP e = true ∧ isEnd u ∧ n + 1 ≤ 64 ∧ runM (.be (n + 1) sk (btN st e)) (u :: rest) = .ok r := by
  match ts, h with
  | [], h => exact (run_nil h).elim
  | t :: ts, h =>
    have hs : stepM (.en n sk st) t = endM n sk (some st) t := rfl
    unfold endM at hs
    by_cases c : t.1 = 0 ∨ t.1 = 2 ∨ t.1 = 3
    · rw [if_pos c] at hs
      by_cases c6 : n = 64
      · rw [if_pos c6] at hs
        exact (ok_er h hs).elim
      · rw [if_neg c6] at hs
        by_cases c0 : t.1 = 0
        · rw [if_pos c0] at hs
          by_cases cr : (readP (bs t.2.2)).2 = true
          · rw [if_pos cr] at hs
            obtain ⟨a', t', ms, u, rest, g1, g2, g3, g4⟩ := b2_sound .no (ok_go h hs)
            rw [List.nil_append] at g2
            have sp := (readM_yes cr).1
            refine ⟨_, t :: ms, u, rest, by rw [g1]; rfl, ?_, endN_pt sp, g3, by omega, g4⟩
            rw [tk_eta c0]
            exact .pt (by rw [← cr]) _ g2
          · rw [if_neg cr] at hs
            exact (ok_er h hs).elim
        · rw [if_neg c0] at hs
          have g := ok_go h hs
          match ts, g with
          | [], g => exact (run_nil g).elim
          | u :: rest, g =>
            by_cases c2 : t.1 = 2
            · rw [if_pos c2] at g
              have g' : runM (.be (n + 1) sk (btN st nOpen)) (u :: rest) = .ok r := g
              exact ⟨nOpen, [t], u, rest, rfl, by rw [tk_eta c2]; exact .op _ _, endN_op, be_end g', by omega, g'⟩
            · rw [if_neg c2] at g
              have g' : runM (.be (n + 1) sk (btN st nUnk)) (u :: rest) = .ok r := g
              exact ⟨nUnk, [t], u, rest, rfl, by rw [tk_eta (show t.1 = 3 by omega)]; exact .un _ _, endN_un, be_end g', by omega, g'⟩
    · rw [if_neg c] at hs
      exact (ok_er h hs).elim
theorem right_pt {n : ND} (h : endN saneP n = true) (hk : n.k = 0) : rightN saneP n = true := by
  obtain ⟨k, p, a, t, l⟩ := n
  simp only [ND.k] at hk
  subst hk
  simp only [rightN, h]
  rfl
theorem right_bt {a b : ND} (ha : endN saneP a = true) (hb : endN saneP b = true) : rightN saneP (btN a b) = true := by
  have hb' : bareN (.mk 1 pz false false [a, b]) = true := rfl
  show rightN saneP (.mk 1 pz false false [a, b]) = true
  simp only [rightN, hb', twoN, ha, hb]
  rfl
theorem end_cnt {e : ND} (h : endN saneP e = true) : cntN e = 1 ∧ depN e = 0 := by
  rcases endN_kind h with ⟨p, a, t, rfl, _⟩ | rfl | rfl <;> exact ⟨rfl, rfl⟩
theorem bt_cnt {a b : ND} (h : rightN saneP (btN a b) = true) : cntN (btN a b) = 3 ∧ depN (btN a b) = 0 := by
  have hb' : bareN (.mk 1 pz false false [a, b]) = true := rfl
  have g : endN saneP a = true ∧ endN saneP b = true := by
    have := h
    unfold btN at this
    simp only [rightN, hb', twoN] at this
    simpa using this
  have ca := end_cnt g.1
  have cb := end_cnt g.2
  constructor
  · show cntL [a, b] + 1 = 3
    simp only [cntL]
    omega
  · show depL [a, b] + 0 = 0
    simp only [depL]
    omega
/-- the slash behind the first end -/
theorem sl_sound {ts : List Tk} {n : Nat} {sk : List (List ND)} {e : ND} {r : ND} {us : List Tk} {u : Tk} (he : RdE e us) (hs : endN saneP e = true) (hn : n ≤ 64) (h : runM (.sl n sk e) (u :: ts) = .ok r) :
    ∃ e' vs v rest, u :: ts = u :: (vs ++ v :: rest) ∧ Rd (btN e e') (us ++ u :: vs) ∧ rightN saneP (btN e e') = true ∧ isEnd v ∧ n + 2 ≤ 64 ∧ runM (.be (n + 2) sk (btN e e')) (v :: rest) = .ok r := by
  have h0 : stepM (.sl n sk e) u = slM n sk e u := rfl
  unfold slM at h0
  by_cases c1 : u.1 = 1
  · rw [if_pos c1] at h0
    by_cases c6 : n = 64
    · rw [if_pos c6] at h0
      exact (ok_er h h0).elim
    · rw [if_neg c6] at h0
      obtain ⟨e', vs, v, rest, g1, g2, g3, g4, g5, g6⟩ := en_sound (by omega) (ok_go h h0)
      refine ⟨e', vs, v, rest, by rw [g1], ?_, right_bt hs g3, g4, by omega, g6⟩
      rw [tk_eta c1]
      exact .sp he g2 _ _
  · rw [if_neg c1] at h0
    exact (ok_er h h0).elim
/-- an expression is read -/
def ExOk (ts : List Tk) : Prop := ∀ (n : Nat) (sk : List (List ND)) (r : ND), n ≤ 64 → sk.length ≤ 8 → runM (.ex n sk) ts = .ok r →
  ∃ x us u rest, ts = us ++ u :: rest ∧ Rd x us ∧ rightN saneP x = true ∧ isEnd u ∧ n + cntN x ≤ 64 ∧ sk.length + depN x ≤ 8 ∧ runM (.be (n + cntN x) sk x) (u :: rest) = .ok r
def LsOk2 (ts : List Tk) : Prop := ∀ (n : Nat) (sk : List (List ND)) (top : List ND) (r : ND), n ≤ 64 → sk.length + 1 ≤ 8 → runM (.ex n (top :: sk)) ts = .ok r →
  ∃ l us rest, l ≠ [] ∧ ts = us ++ rest ∧ RdL l us ∧ (∀ x ∈ l, rightN saneP x = true) ∧ n + cntL l ≤ 64 ∧ sk.length + 1 + depL l ≤ 8 ∧ runM (.be (n + cntL l) sk (orN (top ++ l))) rest = .ok r
theorem right_or {l : List ND} (h : l ≠ []) (g : ∀ x ∈ l, rightN saneP x = true) : rightN saneP (orN l) = true := by
  have hb : bareN (.mk 2 pz false false l) = true := rfl
  have ha : l.all (rightN saneP) = true := List.all_eq_true.2 g
  have hi : l.isEmpty = false := by cases l with
    | nil => exact absurd rfl h
    | cons x l => rfl
  show rightN saneP (.mk 2 pz false false l) = true
  simp only [rightN, hb, rightL_all, ha, hi]
  rfl
theorem ex_sound : ∀ (K : Nat) (ts : List Tk), ts.length ≤ K → ExOk ts ∧ LsOk2 ts := by
  intro K
  induction K with
  | zero =>
    intro ts hk
    have : ts = [] := List.length_eq_zero_iff.1 (by omega)
    subst this
    exact ⟨fun n sk r _ _ h => (run_nil h).elim, fun n sk top r _ _ h => (run_nil h).elim⟩
  | succ K ih =>
    intro ts hk
    have A : ExOk ts := by
      intro n sk r hn hsk h
      match ts, hk, h with
      | [], _, h => exact (run_nil h).elim
      | t :: ts, hk, h =>
        simp only [List.length_cons] at hk
        by_cases c4 : t.1 = 4
        · have hs : stepM (.ex n sk) t = exM n sk t := rfl
          unfold exM at hs
          rw [if_pos c4] at hs
          by_cases c8 : sk.length = 8
          · rw [if_pos c8] at hs
            exact (ok_er h hs).elim
          · rw [if_neg c8] at hs
            by_cases c6 : n = 64
            · rw [if_pos c6] at hs
              exact (ok_er h hs).elim
            · rw [if_neg c6] at hs
              obtain ⟨l, us, rest, g0, g1, g2, g3, g4, g5, g6⟩ := (ih ts (by omega)).2 (n + 1) sk [] r (by omega) (by omega) (ok_go h hs)
              rw [List.nil_append] at g6
              match rest, g1, g6 with
              | [], _, g6 => exact (run_nil g6).elim
              | u :: rest, g1, g6 =>
                have cc : cntN (orN l) = cntL l + 1 := rfl
                have dd : depN (orN l) = depL l + 1 := rfl
                refine ⟨orN l, t :: us, u, rest, by rw [g1]; rfl, ?_, right_or g0 g3, be_end g6, by omega, by omega, ?_⟩
                · rw [tk_eta c4]
                  exact .ls g2 _ _
                · rw [cc, show n + (cntL l + 1) = n + 1 + cntL l by omega]
                  exact g6
        · have hs : stepM (.ex n sk) t = endM n sk none t := by
            show exM n sk t = _
            unfold exM
            exact if_neg c4
          unfold endM at hs
          by_cases c : t.1 = 0 ∨ t.1 = 2 ∨ t.1 = 3
          · rw [if_pos c] at hs
            by_cases c6 : n = 64
            · rw [if_pos c6] at hs
              exact (ok_er h hs).elim
            · rw [if_neg c6] at hs
              by_cases c0 : t.1 = 0
              · rw [if_pos c0] at hs
                by_cases cr : (readP (bs t.2.2)).2 = true
                · rw [if_pos cr] at hs
                  obtain ⟨a', t', ms, u, rest, g1, g2, g3, g4⟩ := b1_sound .no (ok_go h hs)
                  rw [List.nil_append] at g2
                  have sp := (readM_yes cr).1
                  have re : RdE (.mk 0 (readP (bs t.2.2)).1 a' t' []) (t :: ms) := by
                    rw [tk_eta c0]
                    exact .pt (by rw [← cr]) _ g2
                  by_cases c1 : u.1 = 1
                  · rw [if_pos c1] at g4
                    obtain ⟨e', vs, v, rest', k1, k2, k3, k4, k5, k6⟩ := sl_sound re (endN_pt sp) (by omega) g4
                    have cb : cntN (btN (.mk 0 (readP (bs t.2.2)).1 a' t' []) e') = 3 ∧ depN (btN (.mk 0 (readP (bs t.2.2)).1 a' t' []) e') = 0 := bt_cnt k3
                    refine ⟨_, t :: ms ++ u :: vs, v, rest', ?_, k2, k3, k4, by omega, by omega, ?_⟩
                    · rw [g1, k1]
                      simp
                    · rw [cb.1]
                      exact k6
                  · rw [if_neg c1] at g4
                    refine ⟨_, t :: ms, u, rest, by rw [g1]; rfl, .pt re rfl, right_pt (endN_pt sp) rfl, g3.resolve_left c1, ?_, ?_, g4⟩
                    · show n + 1 ≤ 64
                      omega
                    · show sk.length + 0 ≤ 8
                      omega
                · rw [if_neg cr] at hs
                  exact (ok_er h hs).elim
              · rw [if_neg c0] at hs
                have g := ok_go h hs
                match ts, g with
                | [], g => exact (run_nil g).elim
                | u :: rest, g =>
                  have key : ∀ e : ND, RdE e [t] → endN saneP e = true → runM (.sl (n + 1) sk e) (u :: rest) = .ok r →
                      ∃ x us u' rest', t :: u :: rest = us ++ u' :: rest' ∧ Rd x us ∧ rightN saneP x = true ∧ isEnd u' ∧ n + cntN x ≤ 64 ∧ sk.length + depN x ≤ 8 ∧ runM (.be (n + cntN x) sk x) (u' :: rest') = .ok r := by
                    intro e he hse hr
                    obtain ⟨e', vs, v, rest', k1, k2, k3, k4, k5, k6⟩ := sl_sound he hse (by omega) hr
                    have cb := bt_cnt k3
                    refine ⟨_, t :: u :: vs, v, rest', ?_, k2, k3, k4, by omega, by omega, ?_⟩
                    · rw [k1]
                      rfl
                    · rw [cb.1]
                      exact k6
                  by_cases c2 : t.1 = 2
                  · rw [if_pos c2] at g
                    exact key nOpen (by rw [tk_eta c2]; exact .op _ _) endN_op g
                  · rw [if_neg c2] at g
                    exact key nUnk (by rw [tk_eta (show t.1 = 3 by omega)]; exact .un _ _) endN_un g
          · rw [if_neg c] at hs
            exact (ok_er h hs).elim
    refine ⟨A, ?_⟩
    intro n sk top r hn hsk h
    obtain ⟨x, us, u, rest, g1, g2, g3, g4, g5, g6, g7⟩ := A n (top :: sk) r hn (by simpa using hsk) h
    simp only [List.length_cons] at g6
    have lt : rest.length ≤ K := by
      have := congrArg List.length g1
      simp only [List.length_append, List.length_cons] at this
      omega
    have hs : stepM (.be (n + cntN x) (top :: sk) x) u = (if u.1 = 6 then .go (.ex (n + cntN x) ((top ++ [x]) :: sk)) else if u.1 = 5 then .go (.be (n + cntN x) sk (orN (top ++ [x]))) else .er (misM u)) := rfl
    by_cases c6 : u.1 = 6
    · rw [if_pos c6] at hs
      obtain ⟨l, vs, rest', k0, k1, k2, k3, k4, k5, k6⟩ := (ih rest lt).2 (n + cntN x) sk (top ++ [x]) r (by omega) hsk (ok_go g7 hs)
      refine ⟨x :: l, us ++ u :: vs, rest', by simp, ?_, ?_, ?_, ?_, ?_, ?_⟩
      · rw [g1, k1]
        simp
      · rw [tk_eta c6]
        exact .cons g2 k2 _ _
      · intro y hy
        rcases List.mem_cons.1 hy with rfl | hy
        · exact g3
        · exact k3 y hy
      · simp only [cntL]; omega
      · simp only [depL]; omega
      · simp only [cntL]
        rw [show n + (cntN x + cntL l) = n + cntN x + cntL l by omega, show top ++ x :: l = top ++ [x] ++ l by simp]
        exact k6
    · rw [if_neg c6] at hs
      by_cases c5 : u.1 = 5
      · rw [if_pos c5] at hs
        refine ⟨[x], us ++ [u], rest, by simp, by rw [g1]; simp, ?_, ?_, ?_, ?_, ?_⟩
        · rw [tk_eta c5]
          exact .one g2 _ _
        · intro y hy
          rw [List.mem_singleton.1 hy]
          exact g3
        · simp only [cntL]; omega
        · simp only [depL]; omega
        · simp only [cntL]
          exact ok_go g7 hs
      · rw [if_neg c5] at hs
        exact (ok_er g7 hs).elim
/-- what is read of a whole text is an expression -/
theorem whole_sound {ts : List Tk} {r : ND} (hk : ∀ t ∈ ts, t.1 ≠ 9) (e : Tk) (h : runM (.ex 0 []) (ts ++ [e]) = .ok r) : Rd r ts ∧ saneN saneP r = true := by
  obtain ⟨x, us, u, rest, g1, g2, g3, g4, g5, g6, g7⟩ := (ex_sound _ _ (Nat.le_refl _)).1 0 [] r (by omega) (by simp) h
  have hs : stepM (.be (0 + cntN x) [] x) u = (if u.1 = 9 then .stop x else .er (misM u)) := rfl
  by_cases c9 : u.1 = 9
  · rw [if_pos c9] at hs
    rw [run_stop hs] at g7
    injection g7 with g7
    subst g7
    have er : rest = [] := by
      by_cases c : rest = []
      · exact c
      · have lst : ∃ r0 z, rest = r0 ++ [z] := ⟨rest.dropLast, rest.getLast c, (List.dropLast_concat_getLast c).symm⟩
        obtain ⟨r0, z, rfl⟩ := lst
        have : ts = us ++ u :: r0 := by
          have : ts ++ [e] = (us ++ u :: r0) ++ [z] := by rw [g1]; simp
          exact (List.append_inj' this rfl).1
        exact absurd c9 (hk u (by rw [this]; simp))
    subst er
    have : ts = us := (List.append_inj' g1 rfl).1
    rw [this]
    refine ⟨g2, ?_⟩
    unfold saneN
    rw [g3, decide_eq_true (by omega), decide_eq_true (by simpa using g6)]
    rfl
  · rw [if_neg c9] at hs
    exact (ok_er g7 hs).elim
end Go.Proofs.YtndmohamjffpcaaDoor

namespace Go.Proofs.YtndmohamjffpcaaDoor
set_option linter.unusedVariables false
set_option linter.unusedSimpArgs false
/-- a text that is read as tokens of some kind, whatever follows: it begins, or ends, with a word -/
def Tkx (x : List UInt8) (f g : Bool) (P : List Tk → Prop) : Prop :=
  x ≠ [] ∧ startsW x = f ∧ ∀ p : Nat, ∃ ts' : List Tk, P ts' ∧ ∀ r ts e, (g = true → startsW r = false) → Lx r (p + x.length) ts e → Lx (x ++ r) p (ts' ++ ts) e
theorem Tkx.mono {x : List UInt8} {f g : Bool} {P Q : List Tk → Prop} (h : Tkx x f g P) (k : ∀ ts, P ts → Q ts) : Tkx x f g Q := by
  obtain ⟨h1, h2, h3⟩ := h
  refine ⟨h1, h2, fun p => ?_⟩
  obtain ⟨ts, a, b⟩ := h3 p
  exact ⟨ts, k ts a, b⟩
theorem Tkx.append {x y : List UInt8} {f g f' g' : Bool} {P Q : List Tk → Prop} (a : Tkx x f g P) (b : Tkx y f' g' Q) (h : g = true → f' = false) : Tkx (x ++ y) f g' (fun ts => ∃ u v, ts = u ++ v ∧ P u ∧ Q v) := by
  obtain ⟨a1, a2, a3⟩ := a
  obtain ⟨b1, b2, b3⟩ := b
  have st : ∀ {x : List UInt8} (y : List UInt8), x ≠ [] → startsW (x ++ y) = startsW x := by
    intro x y h
    cases x with
    | nil => exact absurd rfl h
    | cons c t => rfl
  refine ⟨by simp [a1], by rw [st y a1]; exact a2, fun p => ?_⟩
  obtain ⟨t1, c1, e1⟩ := a3 p
  obtain ⟨t2, c2, e2⟩ := b3 (p + x.length)
  refine ⟨t1 ++ t2, ⟨t1, t2, rfl, c1, c2⟩, fun r ts e hr hl => ?_⟩
  rw [List.append_assoc, List.append_assoc]
  refine e1 _ _ _ (fun hg => by rw [st r b1, b2]; exact h hg) (e2 _ _ _ hr ?_)
  rwa [Nat.add_assoc, ← List.length_append]
theorem Tkx.word {x : List UInt8} (h : ∀ c ∈ x, isW c = true) (h0 : x ≠ []) : Tkx x true true (fun ts => ∃ i, ts = [(0, i, x)]) := by
  refine ⟨h0, ?_, fun p => ⟨[(0, (p : Int), x)], ⟨_, rfl⟩, fun r ts e hr hl => ?_⟩⟩
  · cases x with
    | nil => exact absurd rfl h0
    | cons c t => exact h c (by simp)
  have tw := tok_word h h0 (hr rfl)
  cases x with
  | nil => exact absurd rfl h0
  | cons c t =>
    have hc : c ≠ 32 := by have := h c (by simp); rintro rfl; simp [isW] at this
    refine Lx.step hc tw ?_
    have : (c :: (t ++ r)).drop (c :: t).length = r := by simp
    show Lx ((c :: (t ++ r)).drop (c :: t).length) _ _ _
    rw [this]
    exact hl
theorem Tkx.sign {k : Int} (h1 : 1 ≤ k) (h2 : k ≤ 8) : Tkx (shw k) false false (fun ts => ∃ i, ts = [(k, i, [])]) := by
  have g := shw_sgn h1 h2
  refine ⟨g.2.1, ?_, fun p => ⟨[(k, (p : Int), [])], ⟨_, rfl⟩, fun r ts e hr hl => ?_⟩⟩
  · cases hq : shw k with
    | nil => exact absurd hq g.2.1
    | cons c t => exact (g.2.2.1 c (by rw [hq]; simp)).1
  · have tw := tok_sign h1 h2 r
    cases hq : shw k with
    | nil => exact absurd hq g.2.1
    | cons c t =>
      rw [hq] at tw hl
      refine Lx.step (g.2.2.1 c (by rw [hq]; simp)).2 tw ?_
      have : (c :: (t ++ r)).drop (c :: t).length = r := by simp
      show Lx ((c :: (t ++ r)).drop (c :: t).length) _ _ _
      rw [this]
      exact hl
theorem Tkx.comma : Tkx [44, 32] false false (fun ts => ∃ i, ts = [(6, i, [])]) := by
  refine ⟨by simp, by decide, fun p => ⟨[(6, (p : Int), [])], ⟨_, rfl⟩, fun r ts e hr hl => ?_⟩⟩
  have tw := tok_sign (k := 6) (by decide) (by decide) (32 :: r)
  exact Lx.step (n := 1) (by decide) tw (.blank hl)
theorem point_tkx {p : PT} (a t : Bool) (h : saneP p = true) : ∃ g, Tkx (tlP p ++ (mrk a 63 ++ mrk t 126)) true g (RdE (.mk 0 p a t [])) := by
  obtain ⟨h1, h2⟩ := tlP_w h
  have hr : readP (bs (tlP p)) = (p, true) := by rw [show bs (tlP p) = textP p from bs_list _]; exact read_back h
  have w := Tkx.word h1 h2
  have q : Tkx [63] false false (fun ts => ∃ i, ts = [(7, i, [])]) := Tkx.sign (k := 7) (by decide) (by decide)
  have u : Tkx [126] false false (fun ts => ∃ i, ts = [(8, i, [])]) := Tkx.sign (k := 8) (by decide) (by decide)
  cases a <;> cases t <;> simp only [mrk, if_true, List.append_nil, List.nil_append, Bool.false_eq_true, if_false]
  · exact ⟨_, w.mono (by rintro ts ⟨i, rfl⟩; exact .pt hr i .no)⟩
  · exact ⟨_, (w.append u (fun _ => rfl)).mono (by rintro ts ⟨x, y, rfl, ⟨i, rfl⟩, ⟨j, rfl⟩⟩; exact .pt hr i (.t j []))⟩
  · exact ⟨_, (w.append q (fun _ => rfl)).mono (by rintro ts ⟨x, y, rfl, ⟨i, rfl⟩, ⟨j, rfl⟩⟩; exact .pt hr i (.a j []))⟩
  · exact ⟨_, (w.append (q.append u (fun h => by cases h)) (fun _ => rfl)).mono (by rintro ts ⟨x, y, rfl, ⟨i, rfl⟩, ⟨z, z', rfl, ⟨j, rfl⟩, ⟨k, rfl⟩⟩⟩; exact .pt hr i (.at_ j k [] []))⟩
theorem end_tkx {n : ND} (h : endN saneP n = true) : ∃ f g, Tkx (txN n) f g (RdE n) := by
  rcases endN_kind h with ⟨p, a, t, rfl, hp⟩ | rfl | rfl
  · obtain ⟨g, w⟩ := point_tkx a t hp
    refine ⟨true, g, ?_⟩
    simpa [txN] using w
  · exact ⟨false, false, (Tkx.sign (k := 2) (by decide) (by decide)).mono (by rintro ts ⟨i, rfl⟩; exact .op i [])⟩
  · exact ⟨false, false, (Tkx.sign (k := 3) (by decide) (by decide)).mono (by rintro ts ⟨i, rfl⟩; exact .un i [])⟩
mutual
theorem txN_tkx : ∀ n : ND, rightN saneP n = true → ∃ f g, Tkx (txN n) f g (Rd n)
  | .mk k p a t l, h => by
    rcases rightN_kind h with ⟨p', a', t', e, hp⟩ | ⟨x, y, e, hx, hy⟩ | ⟨x, l', e, hl⟩
    · rw [e]
      obtain ⟨f, g, w⟩ := end_tkx (end_point (a := a') (t := t') hp)
      exact ⟨f, g, w.mono fun ts h => .pt h rfl⟩
    · rw [e, txN_span]
      obtain ⟨f, g, a⟩ := end_tkx hx
      obtain ⟨f', g', b⟩ := end_tkx hy
      have s : Tkx [47] false false (fun ts => ∃ i, ts = [(1, i, [])]) := Tkx.sign (k := 1) (by decide) (by decide)
      refine ⟨f, g', (a.append (s.append b (fun h => by cases h)) (fun _ => rfl)).mono ?_⟩
      rintro ts ⟨u, v, rfl, hu, ⟨z, z', rfl, ⟨i, rfl⟩, hv⟩⟩
      exact .sp hu hv i []
    · simp only [ND.mk.injEq] at e
      obtain ⟨rfl, rfl, rfl, rfl, e5⟩ := e
      rw [← e5] at hl
      rw [txN_listJ]
      have o : Tkx [91] false false (fun ts => ∃ i, ts = [(4, i, [])]) := Tkx.sign (k := 4) (by decide) (by decide)
      have c : Tkx [93] false false (fun ts => ∃ i, ts = [(5, i, [])]) := Tkx.sign (k := 5) (by decide) (by decide)
      obtain ⟨g, b⟩ := txJ_tkx l hl (by rw [e5]; simp) [91] _ o
      refine ⟨false, false, (b.append c (fun _ => rfl)).mono ?_⟩
      rintro ts ⟨u, v, rfl, ⟨z, z', rfl, ⟨i, rfl⟩, hr⟩, ⟨j, rfl⟩⟩
      have := Rd.ls (hr j []) i []
      simpa [orN, pz] using this
theorem txJ_tkx : ∀ l : List ND, rightL saneP l = true → l ≠ [] → ∀ (b : List UInt8) (P : List Tk → Prop), Tkx b false false P → ∃ g, Tkx (txJ l b [44, 32]) false g (fun ts => ∃ u v, ts = u ++ v ∧ P u ∧ ∀ i x, RdL l (v ++ [(5, i, x)]))
  | [], _, h, _, _, _ => absurd rfl h
  | x :: l, h, _, b, P, hb => by
    simp only [rightL, Bool.and_eq_true] at h
    obtain ⟨f, g, a⟩ := txN_tkx x h.1
    by_cases hl : l = []
    · refine ⟨g, ?_⟩
      rw [hl]
      have e := (hb.append a (fun h => by cases h)).mono (Q := fun ts => ∃ u v, ts = u ++ v ∧ P u ∧ ∀ i y, RdL [x] (v ++ [(5, i, y)])) (by
        rintro ts ⟨u, v, rfl, hu, hv⟩
        exact ⟨u, v, rfl, hu, fun i y => .one hv i y⟩)
      simpa [txJ] using e
    · obtain ⟨g', d⟩ := txJ_tkx l h.2 hl [44, 32] _ Tkx.comma
      refine ⟨g', ?_⟩
      have := (hb.append (a.append d (fun _ => rfl)) (fun h => by cases h)).mono (Q := fun ts => ∃ u v, ts = u ++ v ∧ P u ∧ ∀ i y, RdL (x :: l) (v ++ [(5, i, y)])) (by
        rintro ts ⟨u, v, rfl, hu, ⟨z, z', rfl, hz, ⟨q, q', rfl, ⟨j, rfl⟩, hq⟩⟩⟩
        refine ⟨u, _, rfl, hu, fun i y => ?_⟩
        have := RdL.cons hz (hq i y) j []
        simpa using this)
      simpa [txJ] using this
end
/-- the machine, from a text's beginning, whose tokens are these -/
def wholeM (ts : List Tk) (len : Int) : Out := runM (.ex 0 []) (ts ++ [(9, len, [])])
theorem whole_rd {n : ND} {ts : List Tk} (h : Rd n ts) (hs : saneN saneP n = true) (len : Int) : wholeM ts len = .ok n := by
  unfold saneN at hs
  simp only [Bool.and_eq_true, decide_eq_true_eq] at hs
  unfold wholeM
  rw [rd_run h 0 [] (9, len, []) [] (.inr (.inr rfl)) (by omega) (by simp only [List.length_nil]; omega)]
  exact run_stop rfl []
theorem text_rd {n : ND} (h : saneN saneP n = true) : ∃ ts, Lx (txN n) 0 ts none ∧ Rd n ts := by
  have g := h
  unfold saneN at g
  simp only [Bool.and_eq_true, decide_eq_true_eq] at g
  obtain ⟨f, q, _, _, a⟩ := txN_tkx n g.2.2
  obtain ⟨ts, hp, hl⟩ := a 0
  have h1 := hl [] [] none (fun _ => rfl) .nil
  rw [List.append_nil, List.append_nil] at h1
  exact ⟨ts, h1, hp⟩
/-- an expression's text is read as it -/
theorem text_back {n : ND} (h : saneN saneP n = true) {ts : List Tk} {e : Option Nat} (hl : Lx (txN n) 0 ts e) (len : Int) : e = none ∧ wholeM ts len = .ok n := by
  obtain ⟨us, h1, h2⟩ := text_rd h
  obtain ⟨rfl, rfl⟩ := lx_one h1 hl
  exact ⟨rfl, whole_rd h2 h len⟩
/-- only the tokens' kinds and words matter -/
theorem step_ks (s : St) {t u : Tk} (h1 : t.1 = u.1) (h2 : t.2.2 = u.2.2) : stepM s t = stepM s u := by
  have b : ∀ n sk wh, beM n sk wh t = beM n sk wh u := fun n sk wh => by unfold beM misM; rw [h1]
  have e : ∀ n sk o, endM n sk o t = endM n sk o u := fun n sk o => by unfold endM misM; rw [h1, h2]
  have l : ∀ n sk wh, slM n sk wh t = slM n sk wh u := fun n sk wh => by unfold slM misM; rw [h1]
  have b1 : ∀ n sk wh, b1M n sk wh t = b1M n sk wh u := fun n sk wh => by unfold b1M; rw [b n sk wh, l n sk wh, h1]
  have b2 : ∀ n sk st wh, b2M n sk st wh t = b2M n sk st wh u := fun n sk st wh => by unfold b2M; rw [b n sk (btN st wh), h1]
  have x : ∀ n sk, exM n sk t = exM n sk u := fun n sk => by unfold exM; rw [e n sk none, h1]
  cases s with
  | ex n sk => exact x n sk
  | en n sk st => exact e n sk (some st)
  | b1 n sk wh => exact b1 n sk wh
  | b2 n sk st wh => exact b2 n sk st wh
  | sl n sk wh => exact l n sk wh
  | bs n sk st wh => exact b n sk (btN st wh)
  | be n sk wh => exact b n sk wh
theorem run_ks : ∀ {ts us : List Tk}, SameKS ts us → ∀ s, (∀ n, runM s ts = .ok n → runM s us = .ok n) ∧ ∀ i e, runM s ts = .er i e → ∃ j, runM s us = .er j e
  | [], us, h, s => by
    have : us = [] := by
      unfold SameKS at h
      exact List.map_eq_nil_iff.1 h.symm
    subst this
    exact ⟨fun n h => h, fun i e h => ⟨i, h⟩⟩
  | t :: ts, us, h, s => by
    unfold SameKS at h
    match us, h with
    | u :: us, h =>
      simp only [List.map_cons, List.cons.injEq, Prod.mk.injEq] at h
      have st := step_ks s h.1.1 h.1.2
      have ih := run_ks (ts := ts) (us := us) h.2
      cases hq : stepM s t with
      | go s' =>
        rw [run_go hq, run_go (st ▸ hq)]
        exact ih s'
      | stop n =>
        rw [run_stop hq, run_stop (st ▸ hq)]
        exact ⟨fun n h => h, fun i e h => ⟨i, h⟩⟩
      | er x =>
        rw [run_er hq, run_er (st ▸ hq)]
        refine ⟨fun n h => (by cases h), fun i e h => ?_⟩
        injection h with h1 h2
        subst h2
        exact ⟨_, rfl⟩
end Go.Proofs.YtndmohamjffpcaaDoor

namespace Go.Proofs.YtndmohamjffpcaaDoor
set_option linter.unusedVariables false
set_option linter.unusedSimpArgs false
def Over (o : Out) : Prop := ∃ i e, (e = 5 ∨ e = 6) ∧ o = .er i e
theorem over_er {s : St} {t : Tk} {e : Int} (h : stepM s t = .er e) (he : e = 5 ∨ e = 6) (ts : List Tk) : Over (runM s (t :: ts)) := ⟨_, e, he, run_er h ts⟩
theorem end_many {e : ND} {ts : List Tk} (h : RdE e ts) (sk : List (List ND)) (rest : List Tk) : Over (runM (.ex 64 sk) (ts ++ rest)) := by
  cases h with
  | pt h i hm =>
    refine over_er (e := 6) ?_ (.inr rfl) _
    show exM 64 sk _ = _
    unfold exM endM
    rw [if_neg (by simp), if_pos (by simp), if_pos rfl]
  | op i x =>
    refine over_er (e := 6) ?_ (.inr rfl) _
    show exM 64 sk _ = _
    unfold exM endM
    rw [if_neg (by simp), if_pos (by simp), if_pos rfl]
  | un i x =>
    refine over_er (e := 6) ?_ (.inr rfl) _
    show exM 64 sk _ = _
    unfold exM endM
    rw [if_neg (by simp), if_pos (by simp), if_pos rfl]
theorem en_many {e : ND} {ts : List Tk} (h : RdE e ts) (sk : List (List ND)) (st : ND) (rest : List Tk) : Over (runM (.en 64 sk st) (ts ++ rest)) := by
  cases h with
  | pt h i hm =>
    refine over_er (e := 6) ?_ (.inr rfl) _
    show endM 64 sk (some st) _ = _
    unfold endM
    rw [if_pos (by simp), if_pos rfl]
  | op i x =>
    refine over_er (e := 6) ?_ (.inr rfl) _
    show endM 64 sk (some st) _ = _
    unfold endM
    rw [if_pos (by simp), if_pos rfl]
  | un i x =>
    refine over_er (e := 6) ?_ (.inr rfl) _
    show endM 64 sk (some st) _ = _
    unfold endM
    rw [if_pos (by simp), if_pos rfl]
theorem slash_many {e : ND} (sk : List (List ND)) (i : Int) (x : List UInt8) (ts : List Tk) : Over (runM (aftE 64 sk e) ((1, i, x) :: ts)) := by
  have e0 : slM 64 sk e (1, i, x) = .er 6 := by
    unfold slM
    rw [if_pos rfl, if_pos rfl]
  unfold aftE
  split
  · refine over_er (e := 6) ?_ (.inr rfl) _
    show b1M 64 sk e (1, i, x) = _
    unfold b1M
    rw [if_neg (by simp), if_neg (by simp), if_pos rfl]
    exact e0
  · exact over_er (show stepM (.sl 64 sk e) _ = _ from e0) (.inr rfl) _
mutual
theorem rd_over : ∀ {x : ND} {ts : List Tk}, Rd x ts → ∀ (n : Nat) (sk : List (List ND)) (t : Tk) (rest : List Tk), isEnd t → n ≤ 64 → sk.length ≤ 8 → ¬ (n + cntN x ≤ 64 ∧ sk.length + depN x ≤ 8) →
    Over (runM (.ex n sk) (ts ++ t :: rest))
  | _, _, .pt h hk, n, sk, t, rest, ht, hn, hs, hc => by
    have c := rdE_cnt h
    rw [c.1, c.2] at hc
    obtain rfl : n = 64 := by omega
    exact end_many h sk _
  | _, _, .sp (a := a) (b := b) ha hb i x, n, sk, t, rest, ht, hn, hs, hc => by
    have ca := rdE_cnt ha
    have cb := rdE_cnt hb
    have cc : cntN (btN a b) = 3 := by show cntL [a, b] + 1 = 3; simp only [cntL]; omega
    have cd : depN (btN a b) = 0 := by show depL [a, b] + 0 = 0; simp only [depL]; omega
    rw [cc, cd] at hc
    rw [List.append_assoc]
    by_cases c1 : n = 64
    · subst c1
      exact end_many ha sk _
    · rw [end_first ha (by omega), List.cons_append]
      by_cases c2 : n + 1 = 64
      · rw [c2]
        exact slash_many sk i x _
      · rw [aft_slash _ _ _ _ _ _ (by omega)]
        have : n + 1 + 1 = 64 := by omega
        rw [this]
        exact en_many hb sk _ _
  | _, _, .ls (l := l) h i x, n, sk, t, rest, ht, hn, hs, hc => by
    have cc : cntN (orN l) = cntL l + 1 := rfl
    have dd : depN (orN l) = depL l + 1 := rfl
    rw [cc, dd] at hc
    rw [List.cons_append]
    have hs1 : stepM (.ex n sk) (4, i, x) = (if sk.length = 8 then .er 5 else if n = 64 then .er 6 else .go (.ex (n + 1) ([] :: sk))) := by
      show exM n sk (4, i, x) = _
      unfold exM
      exact if_pos rfl
    by_cases c8 : sk.length = 8
    · rw [if_pos c8] at hs1
      exact over_er hs1 (.inl rfl) _
    · rw [if_neg c8] at hs1
      by_cases c6 : n = 64
      · rw [if_pos c6] at hs1
        exact over_er hs1 (.inr rfl) _
      · rw [if_neg c6] at hs1
        rw [run_go hs1]
        exact rdL_over h (n + 1) sk [] (t :: rest) (by omega) (by omega) (by omega)
theorem rdL_over : ∀ {l : List ND} {ts : List Tk}, RdL l ts → ∀ (n : Nat) (sk : List (List ND)) (top : List ND) (rest : List Tk), n ≤ 64 → sk.length + 1 ≤ 8 → ¬ (n + cntL l ≤ 64 ∧ sk.length + 1 + depL l ≤ 8) →
    Over (runM (.ex n (top :: sk)) (ts ++ rest))
  | _, _, .one (n := x) h i y, n, sk, top, rest, hn, hd, hc => by
    simp only [cntL, depL] at hc
    rw [List.append_assoc, List.singleton_append]
    exact rd_over h n (top :: sk) (5, i, y) rest (.inl rfl) hn (by simpa using hd) (by simp only [List.length_cons]; omega)
  | _, _, .cons (n := x) (l := l) h g i y, n, sk, top, rest, hn, hd, hc => by
    simp only [cntL, depL] at hc
    rw [List.append_assoc, List.cons_append]
    by_cases c : n + cntN x ≤ 64 ∧ (top :: sk).length + depN x ≤ 8
    · rw [rd_run h n (top :: sk) (6, i, y) _ (.inr (.inl rfl)) c.1 c.2]
      rw [run_go (show stepM (.be (n + cntN x) (top :: sk) x) (6, i, y) = .go (.ex (n + cntN x) ((top ++ [x]) :: sk)) from rfl)]
      simp only [List.length_cons] at c
      exact rdL_over g (n + cntN x) sk (top ++ [x]) rest (by omega) hd (by omega)
    · exact rd_over h n (top :: sk) (6, i, y) _ (.inr (.inl rfl)) hn (by simpa using hd) c
end
theorem rdL_ne {l : List ND} {ts : List Tk} (h : RdL l ts) : ts ≠ [] := by
  cases h with
  | one h i x => simp
  | cons h g i x => simp
/-- a list without its end is too short -/
theorem rdL_cut {l : List ND} {ts : List Tk} (h : RdL l ts) : ∀ (v : List Tk) (i : Int) (y : List UInt8), ts = v ++ [(5, i, y)] → ∀ (n : Nat) (sk : List (List ND)) (top : List ND) (len : Int) (rest : List Tk), n + cntL l ≤ 64 → sk.length + 1 + depL l ≤ 8 →
    runM (.ex n (top :: sk)) (v ++ (9, len, []) :: rest) = .er len 4 := by
  induction l generalizing ts with
  | nil => cases h
  | cons x l ih =>
    intro v i y e n sk top len rest hn hd
    simp only [cntL, depL] at hn hd
    cases h with
    | one h i' y' =>
      have : v = _ := ((List.append_inj' e rfl).1).symm
      subst this
      rw [rd_run h n (top :: sk) (9, len, []) rest (.inr (.inr rfl)) (by omega) (by simp only [List.length_cons]; omega)]
      exact run_er (show stepM (.be (n + cntN x) (top :: sk) x) (9, len, []) = .er 4 from rfl) rest
    | @cons _ us _ vs h g i' y' =>
      have hv : vs ≠ [] := rdL_ne g
      obtain ⟨v', z, hz⟩ : ∃ v' z, vs = v' ++ [z] := ⟨vs.dropLast, vs.getLast hv, (List.dropLast_concat_getLast hv).symm⟩
      subst hz
      have e2 : (us ++ (6, i', y') :: v') ++ [z] = v ++ [(5, i, y)] := by rw [← e]; simp
      obtain ⟨ev, ez⟩ := List.append_inj' e2 rfl
      subst ev
      have ez' : z = (5, i, y) := by simpa using ez
      subst ez'
      rw [List.append_assoc, List.cons_append, rd_run h n (top :: sk) (6, i', y') _ (.inr (.inl rfl)) (by omega) (by simp only [List.length_cons]; omega)]
      rw [run_go (show stepM (.be (n + cntN x) (top :: sk) x) (6, i', y') = .go (.ex (n + cntN x) ((top ++ [x]) :: sk)) from rfl)]
      exact ih g v' i y rfl (n + cntN x) sk (top ++ [x]) len rest (by omega) (by omega)
end Go.Proofs.YtndmohamjffpcaaDoor
