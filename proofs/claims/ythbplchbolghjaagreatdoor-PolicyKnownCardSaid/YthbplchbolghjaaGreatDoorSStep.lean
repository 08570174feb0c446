/- What the reader does with one rune, by what it is in: contracts. Conditions: the reader lies in memory, and is not too long. -/
import Derived.Test.YthbplchbolghjaaGreatDoorSRead
namespace Go.Proofs.YthbplchbolghjaaGreatDoor.Sc
open Go.RowKit

def betF (s : RS) (c : Nat) : RS × Int :=
  if c = 10 ∨ blB c = true then (s, 0) else if c = 35 then ({ s with mode := .com }, 0) else if c = 34 then (beginF s 3 .str, 0) else
  if sgB c = true then (endF (addF (beginF s 4 .btw) c), 0) else if smB c = true then (addF (beginF s 1 .nam) c, 0) else if dgB c = true then (addF (beginF s 2 .num) c, 0) else (s, 4)
def goF (s : RS) (c : Nat) (bel : Bool) : RS × Int :=
  if bel = true then (addF s c, 0) else if blB c = false ∧ sgB c = false ∧ c ≠ 35 ∧ c ≠ 10 then (s, 4) else betF (endF s) c
def namB (c : Nat) : Bool := smB c || dgB c || decide (c = 45)
def numB (c : Nat) : Bool := smB c || cpB c || dgB c || decide (c = 46) || decide (c = 37)
def strF (s : RS) (c : Nat) : RS × Int :=
  if c = 10 then (s, 3) else if ctB c = true then (s, 4) else if c = 34 then (endF s, 0) else if c = 92 then ({ s with mode := .esc }, 0) else (addF s c, 0)
def escF (s : RS) (c : Nat) : RS × Int :=
  if c = 10 then (s, 3) else if c = 34 ∨ c = 92 then ({ addF s c with mode := .str }, 0) else if c = 110 then ({ addF s 10 with mode := .str }, 0) else (s, 4)
def comF (s : RS) (c : Nat) : RS × Int := if c = 10 then ({ s with mode := .btw }, 0) else (s, 0)
def stepF (s : RS) (c : Nat) : RS × Int :=
  match s.mode with
  | .btw => betF s c
  | .nam => goF s c (namB c)
  | .num => goF s c (numB c)
  | .str => strF s c
  | .esc => escF s c
  | .com => comF s c

/-- A store of the mode. -/
theorem mode_set {w : World} {B b : Nat} {s : RS} (h : RdR w B b s) : (∃ g, w.cell? ⟨b, 0, none⟩ = some (.func (Fn.func g) #[] #[])) ∧ w.frozen? ⟨b, 0, none⟩ = false ∧ ∀ (m : Mode) (g : Nat), fid m = g → RdR (w.setCell ⟨b, 0, none⟩ (.func (Fn.func g) #[] #[])) B b { s with mode := m } ∧ KeepI B w (w.setCell ⟨b, 0, none⟩ (.func (Fn.func g) #[] #[])) := by
  obtain ⟨vw, vt, st⟩ := h.st
  refine ⟨⟨_, st.blk.cell 0⟩, st.blk.free 0, fun m g hg => ?_⟩
  have st1 := st.set 0 (.func (Fn.func g) #[] #[])
  exact ⟨St.rd (s := { s with mode := m }) (g := g) st1 hg (by simp [cellsR]), st1.keep⟩

set_option maxHeartbeats 2000000 in
theorem comment_any (B b c : Nat) (s : RS) (w : World) (hc : c ≤ 2147483647) (hl : s.text.length ≤ 900000) (hw : s.words.length ≤ 900000) (h : RdR w B b s) :
    Calls Tryz.prog 88 #[.pointer (some ⟨b, 0, none⟩), .int .i32 (c : Int)] w (LeftE B b w (comF s c)) := by
  unfold comF
  by_cases h1 : c = 10
  · rw [if_pos h1]
    have q10 : ((c : Int) == 10) = true := by simp; omega
    obtain ⟨⟨g, c0⟩, f0, hs⟩ := mode_set h
    have HS := Lib.hid (hs .btw _ rfl)
    have H1 := Lib.hid h1
    clear hs h1 h
    go_enter Tryz.func88, Tryz.ntmps88
    go_wp2
    go_ret
    exact ⟨rfl, HS.out.1, HS.out.2⟩
  · rw [if_neg h1]
    have q10 : ((c : Int) == 10) = false := by simp; omega
    have H := Lib.hid h
    have H1 := Lib.hid h1
    clear h1 h
    go_enter Tryz.func88, Tryz.ntmps88
    go_wp2
    go_ret
    exact ⟨rfl, H.out, KeepI.refl _ _⟩
set_option maxHeartbeats 2000000 in
theorem string_any (B b c : Nat) (s : RS) (w : World) (hc : c ≤ 2147483647) (hl : s.text.length ≤ 900000) (hw : s.words.length ≤ 900000) (h : RdR w B b s) :
    Calls Tryz.prog 90 #[.pointer (some ⟨b, 0, none⟩), .int .i32 (c : Int)] w (LeftE B b w (strF s c)) := by
  unfold strF
  by_cases h10 : c = 10
  · rw [if_pos h10]
    have q10 : ((c : Int) == 10) = true := by simp; omega
    have H10 := Lib.hid h10
    clear h10
    have H := Lib.hid h
    clear h
    go_enter Tryz.func90, Tryz.ntmps90
    go_wp2_with (first | ((with_reducible refine (blank_any _ _).mono ?_); rintro e w9 ⟨rfl, rfl⟩) | ((with_reducible refine (sign_any _ _).mono ?_); rintro e w9 ⟨rfl, rfl⟩) | ((with_reducible refine (small_any _ _).mono ?_); rintro e w9 ⟨rfl, rfl⟩) | ((with_reducible refine (capital_any _ _).mono ?_); rintro e w9 ⟨rfl, rfl⟩) | ((with_reducible refine (digit_any _ _).mono ?_); rintro e w9 ⟨rfl, rfl⟩) | ((with_reducible refine (control_any _ _).mono ?_); rintro e w9 ⟨rfl, rfl⟩))
    go_ret
    exact ⟨rfl, H.out, KeepI.refl _ _⟩
  rw [if_neg h10]
  have q10 : ((c : Int) == 10) = false := by simp; omega
  by_cases hct : ctB c = true
  · rw [if_pos hct]
    have H10 := Lib.hid h10
    clear h10
    have H := Lib.hid h
    clear h
    go_enter Tryz.func90, Tryz.ntmps90
    go_wp2_with (first | ((with_reducible refine (blank_any _ _).mono ?_); rintro e w9 ⟨rfl, rfl⟩) | ((with_reducible refine (sign_any _ _).mono ?_); rintro e w9 ⟨rfl, rfl⟩) | ((with_reducible refine (small_any _ _).mono ?_); rintro e w9 ⟨rfl, rfl⟩) | ((with_reducible refine (capital_any _ _).mono ?_); rintro e w9 ⟨rfl, rfl⟩) | ((with_reducible refine (digit_any _ _).mono ?_); rintro e w9 ⟨rfl, rfl⟩) | ((with_reducible refine (control_any _ _).mono ?_); rintro e w9 ⟨rfl, rfl⟩))
    go_ret
    exact ⟨rfl, H.out, KeepI.refl _ _⟩
  rw [if_neg hct]
  replace hct : ctB c = false := by simpa using hct
  by_cases h34 : c = 34
  · rw [if_pos h34]
    have q34 : ((c : Int) == 34) = true := by simp; omega
    have KE := Lib.hid (end_any B b s w (by omega) h)
    have H10 := Lib.hid h10
    have H34 := Lib.hid h34
    clear h10 h34 h
    go_enter Tryz.func90, Tryz.ntmps90
    go_wp2_with (first | ((with_reducible refine (control_any _ _).mono ?_); rintro e w9 ⟨rfl, rfl⟩) | ((with_reducible refine KE.out.mono ?_); rintro e w1 ⟨rfl, hr, hk⟩; have HR := Lib.hid hr; have HK := Lib.hid hk; clear hr hk))
    go_ret
    exact ⟨rfl, HR.out, HK.out⟩
  rw [if_neg h34]
  have q34 : ((c : Int) == 34) = false := by simp; omega
  by_cases h92 : c = 92
  · rw [if_pos h92]
    have q92 : ((c : Int) == 92) = true := by simp; omega
    obtain ⟨⟨g, c0⟩, f0, hs⟩ := mode_set h
    have HS := Lib.hid (hs .esc _ rfl)
    have H10 := Lib.hid h10
    have H34 := Lib.hid h34
    have H92 := Lib.hid h92
    clear hs h10 h34 h92 h
    go_enter Tryz.func90, Tryz.ntmps90
    go_wp2_with ((with_reducible refine (control_any _ _).mono ?_); rintro e w9 ⟨rfl, rfl⟩)
    go_ret
    exact ⟨rfl, HS.out.1, HS.out.2⟩
  rw [if_neg h92]
  have q92 : ((c : Int) == 92) = false := by simp; omega
  have KA := Lib.hid (add_any B b (c : Int) s w (by omega) (by omega) (by omega) h)
  have H10 := Lib.hid h10
  have H34 := Lib.hid h34
  have H92 := Lib.hid h92
  clear h10 h34 h92 h
  go_enter Tryz.func90, Tryz.ntmps90
  go_wp2_with (first | ((with_reducible refine (control_any _ _).mono ?_); rintro e w9 ⟨rfl, rfl⟩) | ((with_reducible refine KA.out.mono ?_); rintro e w1 ⟨rfl, hr, hk⟩; have HR := Lib.hid hr; have HK := Lib.hid hk; clear hr hk))
  go_ret
  exact ⟨rfl, HR.out, HK.out⟩
set_option maxHeartbeats 2000000 in
theorem escape_any (B b c : Nat) (s : RS) (w : World) (hc : c ≤ 2147483647) (hl : s.text.length ≤ 900000) (hw : s.words.length ≤ 900000) (h : RdR w B b s) :
    Calls Tryz.prog 122 #[.pointer (some ⟨b, 0, none⟩), .int .i32 (c : Int)] w (LeftE B b w (escF s c)) := by
  unfold escF
  by_cases h10 : c = 10
  · rw [if_pos h10]
    have q10 : ((c : Int) == 10) = true := by simp; omega
    have H10 := Lib.hid h10
    clear h10
    have H := Lib.hid h
    clear h
    go_enter Tryz.func122, Tryz.ntmps122
    go_wp2_with (first | ((with_reducible refine (blank_any _ _).mono ?_); rintro e w9 ⟨rfl, rfl⟩) | ((with_reducible refine (sign_any _ _).mono ?_); rintro e w9 ⟨rfl, rfl⟩) | ((with_reducible refine (small_any _ _).mono ?_); rintro e w9 ⟨rfl, rfl⟩) | ((with_reducible refine (capital_any _ _).mono ?_); rintro e w9 ⟨rfl, rfl⟩) | ((with_reducible refine (digit_any _ _).mono ?_); rintro e w9 ⟨rfl, rfl⟩) | ((with_reducible refine (control_any _ _).mono ?_); rintro e w9 ⟨rfl, rfl⟩))
    go_ret
    exact ⟨rfl, H.out, KeepI.refl _ _⟩
  rw [if_neg h10]
  have q10 : ((c : Int) == 10) = false := by simp; omega
  have H10 := Lib.hid h10
  clear h10
  by_cases h2 : c = 34 ∨ c = 92
  · rw [if_pos h2]
    by_cases h34 : c = 34
    · have q34 : ((c : Int) == 34) = true := by simp; omega
      have KA := Lib.hid (add_any B b (c : Int) s w (by omega) (by omega) (by omega) h)
      clear h
      have H34 := Lib.hid h34
      have H2 := Lib.hid h2
      clear h34 h2
      go_enter Tryz.func122, Tryz.ntmps122
      go_wp2_with fail
      refine KA.out.mono ?_
      rintro e w1 ⟨rfl, hr, hk⟩
      obtain ⟨⟨g, c0⟩, f0, hs⟩ := mode_set hr
      have HS := Lib.hid (hs .str _ rfl)
      have HK := Lib.hid hk
      clear hs hr hk
      go_wp2
      go_ret
      exact ⟨rfl, HS.out.1, HK.out.trans HS.out.2⟩
    · have q34 : ((c : Int) == 34) = false := by simp; omega
      have q92 : ((c : Int) == 92) = true := by simp; omega
      have KA := Lib.hid (add_any B b (c : Int) s w (by omega) (by omega) (by omega) h)
      clear h
      have H34 := Lib.hid h34
      have H2 := Lib.hid h2
      clear h34 h2
      go_enter Tryz.func122, Tryz.ntmps122
      go_wp2_with fail
      refine KA.out.mono ?_
      rintro e w1 ⟨rfl, hr, hk⟩
      obtain ⟨⟨g, c0⟩, f0, hs⟩ := mode_set hr
      have HS := Lib.hid (hs .str _ rfl)
      have HK := Lib.hid hk
      clear hs hr hk
      go_wp2
      go_ret
      exact ⟨rfl, HS.out.1, HK.out.trans HS.out.2⟩
  rw [if_neg h2]
  have q34 : ((c : Int) == 34) = false := by simp; omega
  have q92 : ((c : Int) == 92) = false := by simp; omega
  have H2 := Lib.hid h2
  clear h2
  by_cases h110 : c = 110
  · rw [if_pos h110]
    have q110 : ((c : Int) == 110) = true := by simp; omega
    have KA := Lib.hid (add_any B b 10 s w (by omega) (by omega) (by omega) h)
    clear h
    have H110 := Lib.hid h110
    clear h110
    go_enter Tryz.func122, Tryz.ntmps122
    go_wp2_with fail
    refine KA.out.mono ?_
    rintro e w1 ⟨rfl, hr, hk⟩
    obtain ⟨⟨g, c0⟩, f0, hs⟩ := mode_set hr
    have HS := Lib.hid (hs .str _ rfl)
    have HK := Lib.hid hk
    clear hs hr hk
    go_wp2
    go_ret
    exact ⟨rfl, HS.out.1, HK.out.trans HS.out.2⟩
  rw [if_neg h110]
  have q110 : ((c : Int) == 110) = false := by simp; omega
  have H110 := Lib.hid h110
  clear h110
  have H := Lib.hid h
  clear h
  go_enter Tryz.func122, Tryz.ntmps122
  go_wp2_with (first | ((with_reducible refine (blank_any _ _).mono ?_); rintro e w9 ⟨rfl, rfl⟩) | ((with_reducible refine (sign_any _ _).mono ?_); rintro e w9 ⟨rfl, rfl⟩) | ((with_reducible refine (small_any _ _).mono ?_); rintro e w9 ⟨rfl, rfl⟩) | ((with_reducible refine (capital_any _ _).mono ?_); rintro e w9 ⟨rfl, rfl⟩) | ((with_reducible refine (digit_any _ _).mono ?_); rintro e w9 ⟨rfl, rfl⟩) | ((with_reducible refine (control_any _ _).mono ?_); rintro e w9 ⟨rfl, rfl⟩))
  go_ret
  exact ⟨rfl, H.out, KeepI.refl _ _⟩
set_option maxHeartbeats 2000000 in
theorem between_any (B b c : Nat) (s : RS) (w : World) (hc : c ≤ 2147483647) (hl : s.text.length ≤ 900000) (hw : s.words.length ≤ 950000) (h : RdR w B b s) :
    Calls Tryz.prog 60 #[.pointer (some ⟨b, 0, none⟩), .int .i32 (c : Int)] w (LeftE B b w (betF s c)) := by
  unfold betF
  by_cases h1 : c = 10 ∨ blB c = true
  · rw [if_pos h1]
    by_cases h10 : c = 10
    · have q10 : ((c : Int) == 10) = true := by simp; omega
      have H1 := Lib.hid h1
      have H10 := Lib.hid h10
      clear h1 h10
      have H := Lib.hid h
      clear h
      go_enter Tryz.func60, Tryz.ntmps60
      go_wp2_with (first | ((with_reducible refine (blank_any _ _).mono ?_); rintro e w9 ⟨rfl, rfl⟩) | ((with_reducible refine (sign_any _ _).mono ?_); rintro e w9 ⟨rfl, rfl⟩) | ((with_reducible refine (small_any _ _).mono ?_); rintro e w9 ⟨rfl, rfl⟩) | ((with_reducible refine (capital_any _ _).mono ?_); rintro e w9 ⟨rfl, rfl⟩) | ((with_reducible refine (digit_any _ _).mono ?_); rintro e w9 ⟨rfl, rfl⟩) | ((with_reducible refine (control_any _ _).mono ?_); rintro e w9 ⟨rfl, rfl⟩))
      go_ret
      exact ⟨rfl, H.out, KeepI.refl _ _⟩
    · have q10 : ((c : Int) == 10) = false := by simp; omega
      have hbl : blB c = true := h1.resolve_left h10
      have H1 := Lib.hid h1
      have H10 := Lib.hid h10
      clear h1 h10
      have H := Lib.hid h
      clear h
      go_enter Tryz.func60, Tryz.ntmps60
      go_wp2_with (first | ((with_reducible refine (blank_any _ _).mono ?_); rintro e w9 ⟨rfl, rfl⟩) | ((with_reducible refine (sign_any _ _).mono ?_); rintro e w9 ⟨rfl, rfl⟩) | ((with_reducible refine (small_any _ _).mono ?_); rintro e w9 ⟨rfl, rfl⟩) | ((with_reducible refine (capital_any _ _).mono ?_); rintro e w9 ⟨rfl, rfl⟩) | ((with_reducible refine (digit_any _ _).mono ?_); rintro e w9 ⟨rfl, rfl⟩) | ((with_reducible refine (control_any _ _).mono ?_); rintro e w9 ⟨rfl, rfl⟩))
      go_ret
      exact ⟨rfl, H.out, KeepI.refl _ _⟩
  rw [if_neg h1]
  have hbl : blB c = false := by simpa using fun e => h1 (.inr e)
  have q10 : ((c : Int) == 10) = false := by simp; omega
  have H1 := Lib.hid h1
  clear h1
  by_cases h35 : c = 35
  · rw [if_pos h35]
    have q35 : ((c : Int) == 35) = true := by simp; omega
    obtain ⟨⟨g, c0⟩, f0, hs⟩ := mode_set h
    have HS := Lib.hid (hs .com _ rfl)
    have H35 := Lib.hid h35
    clear hs h35 h
    go_enter Tryz.func60, Tryz.ntmps60
    go_wp2_with (first | ((with_reducible refine (blank_any _ _).mono ?_); rintro e w9 ⟨rfl, rfl⟩) | ((with_reducible refine (sign_any _ _).mono ?_); rintro e w9 ⟨rfl, rfl⟩) | ((with_reducible refine (small_any _ _).mono ?_); rintro e w9 ⟨rfl, rfl⟩) | ((with_reducible refine (capital_any _ _).mono ?_); rintro e w9 ⟨rfl, rfl⟩) | ((with_reducible refine (digit_any _ _).mono ?_); rintro e w9 ⟨rfl, rfl⟩) | ((with_reducible refine (control_any _ _).mono ?_); rintro e w9 ⟨rfl, rfl⟩))
    go_ret
    exact ⟨rfl, HS.out.1, HS.out.2⟩
  rw [if_neg h35]
  have q35 : ((c : Int) == 35) = false := by simp; omega
  have H35 := Lib.hid h35
  clear h35
  by_cases h34 : c = 34
  · rw [if_pos h34]
    have q34 : ((c : Int) == 34) = true := by simp; omega
    have KB := Lib.hid (begin_any B b 90 3 .str s w rfl h)
    have H34 := Lib.hid h34
    clear h34 h
    go_enter Tryz.func60, Tryz.ntmps60
    go_wp2_with (first | (first | ((with_reducible refine (blank_any _ _).mono ?_); rintro e w9 ⟨rfl, rfl⟩) | ((with_reducible refine (sign_any _ _).mono ?_); rintro e w9 ⟨rfl, rfl⟩) | ((with_reducible refine (small_any _ _).mono ?_); rintro e w9 ⟨rfl, rfl⟩) | ((with_reducible refine (capital_any _ _).mono ?_); rintro e w9 ⟨rfl, rfl⟩) | ((with_reducible refine (digit_any _ _).mono ?_); rintro e w9 ⟨rfl, rfl⟩) | ((with_reducible refine (control_any _ _).mono ?_); rintro e w9 ⟨rfl, rfl⟩)) | ((with_reducible refine KB.out.mono ?_); rintro e w1 ⟨rfl, hr, hk⟩; have HR := Lib.hid hr; have HK := Lib.hid hk; clear hr hk))
    go_ret
    exact ⟨rfl, HR.out, HK.out⟩
  rw [if_neg h34]
  have q34 : ((c : Int) == 34) = false := by simp; omega
  have H34 := Lib.hid h34
  clear h34
  by_cases hsg : sgB c = true
  · rw [if_pos hsg]
    have KB := Lib.hid (begin_any B b 60 4 .btw s w rfl h)
    clear h
    go_enter Tryz.func60, Tryz.ntmps60
    go_wp2_with (first | ((with_reducible refine (blank_any _ _).mono ?_); rintro e w9 ⟨rfl, rfl⟩) | ((with_reducible refine (sign_any _ _).mono ?_); rintro e w9 ⟨rfl, rfl⟩) | ((with_reducible refine (small_any _ _).mono ?_); rintro e w9 ⟨rfl, rfl⟩) | ((with_reducible refine (capital_any _ _).mono ?_); rintro e w9 ⟨rfl, rfl⟩) | ((with_reducible refine (digit_any _ _).mono ?_); rintro e w9 ⟨rfl, rfl⟩) | ((with_reducible refine (control_any _ _).mono ?_); rintro e w9 ⟨rfl, rfl⟩))
    refine KB.out.mono ?_
    rintro e w1 ⟨rfl, hr, hk⟩
    have KA := Lib.hid (add_any B b (c : Int) (beginF s 4 .btw) w1 (by omega) (by omega) (by simp [beginF]) hr)
    have HK := Lib.hid hk
    clear hr hk
    go_wp2_with fail
    refine KA.out.mono ?_
    rintro e w2 ⟨rfl, hr, hk⟩
    have KE := Lib.hid (end_any B b (addF (beginF s 4 .btw) c) w2 (by simp [beginF, addF]; omega) hr)
    have HK2 := Lib.hid (HK.out.trans hk)
    clear hr hk
    go_wp2_with fail
    refine KE.out.mono ?_
    rintro e w3 ⟨rfl, hr, hk⟩
    have HR := Lib.hid hr
    have HK3 := Lib.hid (HK2.out.trans hk)
    clear hr hk
    go_wp2
    go_ret
    exact ⟨rfl, HR.out, HK3.out⟩
  rw [if_neg hsg]
  replace hsg : sgB c = false := by simpa using hsg
  by_cases hsm : smB c = true
  · rw [if_pos hsm]
    have KB := Lib.hid (begin_any B b 95 1 .nam s w rfl h)
    clear h
    go_enter Tryz.func60, Tryz.ntmps60
    go_wp2_with (first | ((with_reducible refine (blank_any _ _).mono ?_); rintro e w9 ⟨rfl, rfl⟩) | ((with_reducible refine (sign_any _ _).mono ?_); rintro e w9 ⟨rfl, rfl⟩) | ((with_reducible refine (small_any _ _).mono ?_); rintro e w9 ⟨rfl, rfl⟩) | ((with_reducible refine (capital_any _ _).mono ?_); rintro e w9 ⟨rfl, rfl⟩) | ((with_reducible refine (digit_any _ _).mono ?_); rintro e w9 ⟨rfl, rfl⟩) | ((with_reducible refine (control_any _ _).mono ?_); rintro e w9 ⟨rfl, rfl⟩))
    refine KB.out.mono ?_
    rintro e w1 ⟨rfl, hr, hk⟩
    have KA := Lib.hid (add_any B b (c : Int) (beginF s 1 .nam) w1 (by omega) (by omega) (by simp [beginF]) hr)
    have HK := Lib.hid hk
    clear hr hk
    go_wp2_with fail
    refine KA.out.mono ?_
    rintro e w2 ⟨rfl, hr, hk⟩
    have HR := Lib.hid hr
    have HK3 := Lib.hid (HK.out.trans hk)
    clear hr hk
    go_wp2
    go_ret
    exact ⟨rfl, HR.out, HK3.out⟩
  rw [if_neg hsm]
  replace hsm : smB c = false := by simpa using hsm
  by_cases hdg : dgB c = true
  · rw [if_pos hdg]
    have KB := Lib.hid (begin_any B b 97 2 .num s w rfl h)
    clear h
    go_enter Tryz.func60, Tryz.ntmps60
    go_wp2_with (first | ((with_reducible refine (blank_any _ _).mono ?_); rintro e w9 ⟨rfl, rfl⟩) | ((with_reducible refine (sign_any _ _).mono ?_); rintro e w9 ⟨rfl, rfl⟩) | ((with_reducible refine (small_any _ _).mono ?_); rintro e w9 ⟨rfl, rfl⟩) | ((with_reducible refine (capital_any _ _).mono ?_); rintro e w9 ⟨rfl, rfl⟩) | ((with_reducible refine (digit_any _ _).mono ?_); rintro e w9 ⟨rfl, rfl⟩) | ((with_reducible refine (control_any _ _).mono ?_); rintro e w9 ⟨rfl, rfl⟩))
    refine KB.out.mono ?_
    rintro e w1 ⟨rfl, hr, hk⟩
    have KA := Lib.hid (add_any B b (c : Int) (beginF s 2 .num) w1 (by omega) (by omega) (by simp [beginF]) hr)
    have HK := Lib.hid hk
    clear hr hk
    go_wp2_with fail
    refine KA.out.mono ?_
    rintro e w2 ⟨rfl, hr, hk⟩
    have HR := Lib.hid hr
    have HK3 := Lib.hid (HK.out.trans hk)
    clear hr hk
    go_wp2
    go_ret
    exact ⟨rfl, HR.out, HK3.out⟩
  rw [if_neg hdg]
  replace hdg : dgB c = false := by simpa using hdg
  have H := Lib.hid h
  clear h
  go_enter Tryz.func60, Tryz.ntmps60
  go_wp2_with (first | ((with_reducible refine (blank_any _ _).mono ?_); rintro e w9 ⟨rfl, rfl⟩) | ((with_reducible refine (sign_any _ _).mono ?_); rintro e w9 ⟨rfl, rfl⟩) | ((with_reducible refine (small_any _ _).mono ?_); rintro e w9 ⟨rfl, rfl⟩) | ((with_reducible refine (capital_any _ _).mono ?_); rintro e w9 ⟨rfl, rfl⟩) | ((with_reducible refine (digit_any _ _).mono ?_); rintro e w9 ⟨rfl, rfl⟩) | ((with_reducible refine (control_any _ _).mono ?_); rintro e w9 ⟨rfl, rfl⟩))
  go_ret
  exact ⟨rfl, H.out, KeepI.refl _ _⟩
set_option maxHeartbeats 2000000 in
theorem goOn_any (B b c : Nat) (s : RS) (w : World) (hc : c ≤ 2147483647) (hl : s.text.length ≤ 900000) (hw : s.words.length ≤ 900000) (h : RdR w B b s) (bel : Bool) :
    Calls Tryz.prog 124 #[.pointer (some ⟨b, 0, none⟩), .int .i32 (c : Int), .bool bel] w (LeftE B b w (goF s c bel)) := by
  unfold goF
  cases bel
  · rw [if_neg (by simp)]
    by_cases h1 : blB c = false ∧ sgB c = false ∧ c ≠ 35 ∧ c ≠ 10
    · rw [if_pos h1]
      obtain ⟨hbl, hsg, h35, h10⟩ := h1
      have q35 : ((c : Int) != 35) = true := by simp; omega
      have q10 : ((c : Int) != 10) = true := by simp; omega
      have H35 := Lib.hid h35
      have H10 := Lib.hid h10
      have H := Lib.hid h
      clear h35 h10 h
      go_enter Tryz.func124, Tryz.ntmps124
      go_wp2_with (first | ((with_reducible refine (blank_any _ _).mono ?_); rintro e w9 ⟨rfl, rfl⟩) | ((with_reducible refine (sign_any _ _).mono ?_); rintro e w9 ⟨rfl, rfl⟩) | ((with_reducible refine (small_any _ _).mono ?_); rintro e w9 ⟨rfl, rfl⟩) | ((with_reducible refine (capital_any _ _).mono ?_); rintro e w9 ⟨rfl, rfl⟩) | ((with_reducible refine (digit_any _ _).mono ?_); rintro e w9 ⟨rfl, rfl⟩) | ((with_reducible refine (control_any _ _).mono ?_); rintro e w9 ⟨rfl, rfl⟩))
      go_ret
      exact ⟨rfl, H.out, KeepI.refl _ _⟩
    · rw [if_neg h1]
      have hq : blB c = true ∨ blB c = false ∧ sgB c = true ∨ blB c = false ∧ sgB c = false ∧ ((c : Int) != 35) = false ∨ blB c = false ∧ sgB c = false ∧ ((c : Int) != 35) = true ∧ ((c : Int) != 10) = false := by
        cases hbl : blB c <;> cases hsg : sgB c <;> simp_all
        by_cases h35 : (c : Int) = 35
        · exact .inl h35
        · refine .inr ⟨h35, ?_⟩
          have := h1 (by omega)
          omega
      have KE := Lib.hid (end_any B b s w (by omega) h)
      have H1 := Lib.hid h1
      clear h h1
      rcases hq with hbl | ⟨hbl, hsg⟩ | ⟨hbl, hsg, q35⟩ | ⟨hbl, hsg, q35, q10⟩
      all_goals
        go_enter Tryz.func124, Tryz.ntmps124
        go_wp2_with (first | ((with_reducible refine (blank_any _ _).mono ?_); rintro e w9 ⟨rfl, rfl⟩) | ((with_reducible refine (sign_any _ _).mono ?_); rintro e w9 ⟨rfl, rfl⟩) | ((with_reducible refine (small_any _ _).mono ?_); rintro e w9 ⟨rfl, rfl⟩) | ((with_reducible refine (capital_any _ _).mono ?_); rintro e w9 ⟨rfl, rfl⟩) | ((with_reducible refine (digit_any _ _).mono ?_); rintro e w9 ⟨rfl, rfl⟩) | ((with_reducible refine (control_any _ _).mono ?_); rintro e w9 ⟨rfl, rfl⟩))
        refine KE.out.mono ?_
        rintro e w1 ⟨rfl, hr, hk⟩
        have KB := Lib.hid (between_any B b c (endF s) w1 hc (by simp only [endF]; omega) (by simp [endF]; omega) hr)
        have HK := Lib.hid hk
        clear hr hk
        go_wp2_with fail
        refine KB.out.mono ?_
        rintro e w2 ⟨rfl, hr, hk⟩
        have HR := Lib.hid hr
        have HK2 := Lib.hid (HK.out.trans hk)
        clear hr hk
        go_wp2
        go_ret
        exact ⟨rfl, HR.out, HK2.out⟩
  · rw [if_pos rfl]
    have KA := Lib.hid (add_any B b (c : Int) s w (by omega) (by omega) (by omega) h)
    clear h
    go_enter Tryz.func124, Tryz.ntmps124
    go_wp2_with ((with_reducible refine KA.out.mono ?_); rintro e w1 ⟨rfl, hr, hk⟩; have HR := Lib.hid hr; have HK := Lib.hid hk; clear hr hk)
    go_ret
    exact ⟨rfl, HR.out, HK.out⟩
set_option maxHeartbeats 2000000 in
theorem name_any (B b c : Nat) (s : RS) (w : World) (hc : c ≤ 2147483647) (hl : s.text.length ≤ 900000) (hw : s.words.length ≤ 900000) (h : RdR w B b s) :
    Calls Tryz.prog 95 #[.pointer (some ⟨b, 0, none⟩), .int .i32 (c : Int)] w (LeftE B b w (goF s c (namB c))) := by
  have hq : (smB c = true ∧ namB c = true) ∨ (smB c = false ∧ dgB c = true ∧ namB c = true) ∨ (smB c = false ∧ dgB c = false ∧ ((c : Int) == 45) = true ∧ namB c = true) ∨ (smB c = false ∧ dgB c = false ∧ ((c : Int) == 45) = false ∧ namB c = false) := by
    unfold namB
    cases hsm : smB c
    cases hdg : dgB c
    all_goals simp only [Bool.false_or, Bool.true_or, Bool.or_true, Bool.or_false, true_and, false_and, and_true, and_false, or_false, false_or, true_or, or_true, reduceCtorEq, decide_eq_true_eq, decide_eq_false_iff_not, beq_iff_eq, beq_eq_false_iff_ne, Bool.or_eq_true, Bool.or_eq_false_iff, ne_eq]
    all_goals omega
  have KG := Lib.hid (fun bel : Bool => goOn_any B b c s w hc hl hw h bel)
  clear h
  rcases hq with ⟨g0, hv⟩ | ⟨g0, g1, hv⟩ | ⟨g0, g1, g2, hv⟩ | ⟨g0, g1, g2, hv⟩
  all_goals
    rw [hv]
    have HV := Lib.hid hv
    clear hv
    go_enter Tryz.func95, Tryz.ntmps95
    go_wp2_with (first | ((with_reducible refine (small_any _ _).mono ?_); rintro e w9 ⟨rfl, rfl⟩) | ((with_reducible refine (capital_any _ _).mono ?_); rintro e w9 ⟨rfl, rfl⟩) | ((with_reducible refine (digit_any _ _).mono ?_); rintro e w9 ⟨rfl, rfl⟩))
    refine (KG.out _).mono ?_
    rintro e w1 ⟨rfl, hr, hk⟩
    have HR := Lib.hid hr
    have HK := Lib.hid hk
    clear hr hk
    go_wp2
    go_ret
    exact ⟨rfl, HR.out, HK.out⟩
set_option maxHeartbeats 2000000 in
theorem number_any (B b c : Nat) (s : RS) (w : World) (hc : c ≤ 2147483647) (hl : s.text.length ≤ 900000) (hw : s.words.length ≤ 900000) (h : RdR w B b s) :
    Calls Tryz.prog 97 #[.pointer (some ⟨b, 0, none⟩), .int .i32 (c : Int)] w (LeftE B b w (goF s c (numB c))) := by
  have hq : (smB c = true ∧ numB c = true) ∨ (smB c = false ∧ cpB c = true ∧ numB c = true) ∨ (smB c = false ∧ cpB c = false ∧ dgB c = true ∧ numB c = true) ∨ (smB c = false ∧ cpB c = false ∧ dgB c = false ∧ ((c : Int) == 46) = true ∧ numB c = true) ∨ (smB c = false ∧ cpB c = false ∧ dgB c = false ∧ ((c : Int) == 46) = false ∧ ((c : Int) == 37) = true ∧ numB c = true) ∨ (smB c = false ∧ cpB c = false ∧ dgB c = false ∧ ((c : Int) == 46) = false ∧ ((c : Int) == 37) = false ∧ numB c = false) := by
    unfold numB
    cases hsm : smB c
    cases hcp : cpB c
    cases hdg : dgB c
    all_goals simp only [Bool.false_or, Bool.true_or, Bool.or_true, Bool.or_false, true_and, false_and, and_true, and_false, or_false, false_or, true_or, or_true, reduceCtorEq, decide_eq_true_eq, decide_eq_false_iff_not, beq_iff_eq, beq_eq_false_iff_ne, Bool.or_eq_true, Bool.or_eq_false_iff, ne_eq]
    all_goals omega
  have KG := Lib.hid (fun bel : Bool => goOn_any B b c s w hc hl hw h bel)
  clear h
  rcases hq with ⟨g0, hv⟩ | ⟨g0, g1, hv⟩ | ⟨g0, g1, g2, hv⟩ | ⟨g0, g1, g2, g3, hv⟩ | ⟨g0, g1, g2, g3, g4, hv⟩ | ⟨g0, g1, g2, g3, g4, hv⟩
  all_goals
    rw [hv]
    have HV := Lib.hid hv
    clear hv
    go_enter Tryz.func97, Tryz.ntmps97
    go_wp2_with (first | ((with_reducible refine (small_any _ _).mono ?_); rintro e w9 ⟨rfl, rfl⟩) | ((with_reducible refine (capital_any _ _).mono ?_); rintro e w9 ⟨rfl, rfl⟩) | ((with_reducible refine (digit_any _ _).mono ?_); rintro e w9 ⟨rfl, rfl⟩))
    refine (KG.out _).mono ?_
    rintro e w1 ⟨rfl, hr, hk⟩
    have HR := Lib.hid hr
    have HK := Lib.hid hk
    clear hr hk
    go_wp2
    go_ret
    exact ⟨rfl, HR.out, HK.out⟩
end Go.Proofs.YthbplchbolghjaaGreatDoor.Sc
