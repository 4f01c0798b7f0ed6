/-
  Layer 9: what lex.All tells, in short; the document's example (awake); the walk of LexIs.
-/
import Derived.Test.YtgaadakhkjfbnaaLexH
namespace Go.Proofs.Ytgaadakhkjfbnaa
open Go.RowKit Go.Shelf
set_option linter.unusedVariables false
set_option linter.unusedSimpArgs false
def endT (s : ByteArray) : Tk := (9, (s.size : Int), [])
theorem lallN (s : ByteArray) (ts : List Tk) (w : World) (hs : s.size ≤ 2000) (hx : Lx s.data.toList 0 ts none) :
    Calls Try.prog 54 #[.string s] w fun en w' => ∃ v, en = .returned (.tuple #[v, .int .i64 (s.size : Nat), .int .i64 0]) ∧ ToksAt w' v (ts ++ [endT s]) ∧ Kp w w' := by
  refine (lall_any s ts none w (by unfold maxLen; omega) hx).mono ?_
  rintro en w' ⟨kk, ⟨h, _⟩ | ⟨_, q, h, _⟩ | ⟨_, _, v, rfl, h⟩⟩
  · omega
  · cases h
  · exact ⟨v, rfl, toksAt_own h, kk⟩
theorem lallS (s : ByteArray) (ts : List Tk) (q : Nat) (w : World) (hs : s.size ≤ 2000) (hx : Lx s.data.toList 0 ts (some q)) :
    Calls Try.prog 54 #[.string s] w fun en w' => en = .returned (.tuple #[.slice none 0 0, .int .i64 (q : Nat), .int .i64 1]) ∧ Kp w w' := by
  refine (lall_any s ts (some q) w (by unfold maxLen; omega) hx).mono ?_
  rintro en w' ⟨kk, ⟨h, _⟩ | ⟨_, q', h, rfl⟩ | ⟨_, h, _⟩⟩
  · omega
  · cases h; exact ⟨rfl, kk⟩
  · cases h
theorem lallW (s : ByteArray) (w : World) (hs : 2000 < s.size) (hs2 : s.size ≤ maxLen) :
    Calls Try.prog 54 #[.string s] w fun en w' => en = .returned (.tuple #[.slice none 0 0, .int .i64 2000, .int .i64 7]) ∧ Kp w w' := by
  obtain ⟨ts, e, hx⟩ := lx_ex s.data.toList 0
  refine (lall_any s ts e w hs2 hx).mono ?_
  rintro en w' ⟨kk, ⟨_, rfl⟩ | ⟨h, _⟩ | ⟨h, _⟩⟩
  · exact ⟨rfl, kk⟩
  · omega
  · omega
theorem rallN (s : ByteArray) (ts : List Tk) (w : World) (hs : s.size ≤ 2000) (hx : Lx s.data.toList 0 ts none) :
    Calls Try.prog 55 #[.string s] w fun en w' => ∃ v, en = .returned (.tuple #[v, .int .i64 (s.size : Nat), .int .i64 0]) ∧ ToksAt w' v (ts ++ [endT s]) ∧ Kp w w' := by
  refine (rall_any s ts none w (by unfold maxLen; omega) hx).mono ?_
  rintro en w' ⟨kk, ⟨h, _⟩ | ⟨_, q, h, _⟩ | ⟨_, _, v, rfl, h⟩⟩
  · omega
  · cases h
  · exact ⟨v, rfl, h, kk⟩
theorem rallS (s : ByteArray) (ts : List Tk) (q : Nat) (w : World) (hs : s.size ≤ 2000) (hx : Lx s.data.toList 0 ts (some q)) :
    Calls Try.prog 55 #[.string s] w fun en w' => en = .returned (.tuple #[.slice none 0 0, .int .i64 (q : Nat), .int .i64 1]) ∧ Kp w w' := by
  refine (rall_any s ts (some q) w (by unfold maxLen; omega) hx).mono ?_
  rintro en w' ⟨kk, ⟨h, _⟩ | ⟨_, q', h, rfl⟩ | ⟨_, h, _⟩⟩
  · omega
  · cases h; exact ⟨rfl, kk⟩
  · cases h
theorem rallW (s : ByteArray) (w : World) (hs : 2000 < s.size) (hs2 : s.size ≤ maxLen) :
    Calls Try.prog 55 #[.string s] w fun en w' => en = .returned (.tuple #[.slice none 0 0, .int .i64 2000, .int .i64 7]) ∧ Kp w w' := by
  obtain ⟨ts, e, hx⟩ := lx_ex s.data.toList 0
  refine (rall_any s ts e w hs2 hx).mono ?_
  rintro en w' ⟨kk, ⟨_, rfl⟩ | ⟨h, _⟩ | ⟨h, _⟩⟩
  · exact ⟨rfl, kk⟩
  · omega
  · omega
/-- tokens of a text that is read may be shown -/
theorem good_wf {t : Tk} (h : goodT t) : (Lit.int .i64 t.1).wf = true := by
  have : 0 ≤ t.1 ∧ t.1 ≤ 8 := by rcases h with ⟨a, _⟩ | ⟨a, b, _⟩ <;> omega
  rw [show (Lit.int .i64 t.1).wf = (decide (-9223372036854775808 ≤ t.1) && decide (t.1 ≤ 9223372036854775807)) from rfl]
  simp
  omega
theorem lx_show {l : List UInt8} {ts : List Tk} {e : Option Nat} (s : ByteArray) (h : Lx l 0 ts e) (hl : l.length ≤ 900) : (ts ++ [endT s]).length ≤ 1000 ∧ (∀ t ∈ ts ++ [endT s], t.2.2.length ≤ 1000) ∧ ∀ t ∈ ts ++ [endT s], (Lit.int .i64 t.1).wf = true := by
  have h1 := lx_len h
  have h2 := lx_txt h
  have h3 := lx_good h
  refine ⟨by simp; omega, fun t ht => ?_, fun t ht => ?_⟩
  · rcases List.mem_append.1 ht with g | g
    · have := h2 t g; omega
    · rw [List.mem_singleton] at g; subst g; simp [endT]
  · rcases List.mem_append.1 ht with g | g
    · exact good_wf (h3 t g)
    · rw [List.mem_singleton] at g; subst g; rfl
/-- what is shown of a text that is read -/
theorem lshowT (s : ByteArray) (v : Value) (l : List UInt8) (ts : List Tk) (e : Option Nat) (w : World) (hv : ToksAt w v (ts ++ [endT s])) (hx : Lx l 0 ts e) (hl : l.length ≤ 900) :
    Calls Try.prog 57 #[v] w fun e w' => e = .returned (.string (bs (sh false ts))) ∧ Kp w w' := by
  obtain ⟨a, b, c⟩ := lx_show s hx hl
  have h := lshow_any v _ w hv a b c
  rwa [show sh false (ts ++ [endT s]) = sh false ts from sh_snoc_end ts false _] at h
theorem ex_lx : Lx [49, 57, 56, 52, 32, 47, 32, 46, 46] 0 [(0, 0, [49, 57, 56, 52]), (1, 5, []), (2, 7, [])] none :=
  .step (n := 4) (by decide) (by decide) (.blank (.step (n := 1) (by decide) (by decide) (.blank (.step (n := 2) (by decide) (by decide) .nil))))
set_option maxHeartbeats 4000000 in
set_option maxRecDepth 100000 in
theorem awake09 (w : World) : Calls Try.prog 52 #[] w fun e w' => e = .returned (.bool true) ∧ Kp w w' := by
  have C := Lib.hid (lallN { data := #[49, 57, 56, 52, 32, 47, 32, 46, 46] } _ w (by decide) ex_lx)
  have D := Lib.hid (fun v w1 h => lshowT { data := #[49, 57, 56, 52, 32, 47, 32, 46, 46] } v _ _ _ w1 h ex_lx (by decide))
  go_enter Try.func52, Try.ntmps52
  go_wp2_with fail
  refine (C.out).mono ?_
  rintro e w1 ⟨v, rfl, ht, kk⟩
  have K1 := Lib.hid kk
  have D1 := Lib.hid (D.out v w1 ht)
  obtain ⟨b, off, cap, ev, c0, c1, c2, c3⟩ : ∃ b off cap, v = .slice (some ⟨b, off, none⟩) 4 cap ∧ w1.cell? ⟨b, off + 2, none⟩ = some (.string { data := #[49, 57, 56, 52] }) ∧ w1.cell? ⟨b, off + 4, none⟩ = some (.int .i64 5) ∧ w1.cell? ⟨b, off + 6, none⟩ = some (.int .i64 2) ∧ w1.cell? ⟨b, off + 9, none⟩ = some (.int .i64 9) := by
    rcases ht with ⟨_, _, _, e⟩ | ⟨b, off, cap, ev, _, _, hx⟩
    · cases e
    · exact ⟨b, off, cap, ev, (hx 0 (by decide)).2.2, (hx 1 (by decide)).2.1, (hx 2 (by decide)).1, (hx 3 (by decide)).1⟩
  subst ev
  clear ht kk C D
  have D2 := Lib.hid (show Calls Try.prog 57 #[.slice (some ⟨b, off, none⟩) 4 cap] w1 fun e w' => e = .returned (.string { data := #[49, 57, 56, 52, 47, 46, 46] }) ∧ Kp w1 w' from D1.out)
  clear D1
  go_wp2_with fail
  refine (D2.out).mono ?_
  rintro e w2 ⟨rfl, kk⟩
  have K2 := Lib.hid (K1.out.trans kk)
  clear kk
  go_wp2
  go_ret
  exact ⟨rfl, K2.out⟩
end Go.Proofs.Ytgaadakhkjfbnaa
