/- What Words answers of a text, as a plain function. No conditions but a text that can lie in memory. -/
import Derived.Test.YthbplchbolghjaaGreatDoorSStep
import Derived.Laws.RangeAny
namespace Go.Proofs.YthbplchbolghjaaGreatDoor.Sc
open Go.RowKit

theorem step_any (B b c : Nat) (s : RS) (w : World) (hc : c ≤ 2147483647) (hl : s.text.length ≤ 900000) (hw : s.words.length ≤ 900000) (h : RdR w B b s) :
    Calls Tryz.prog (fid s.mode) #[.pointer (some ⟨b, 0, none⟩), .int .i32 (c : Int)] w (LeftE B b w (stepF s c)) := by
  unfold stepF
  obtain ⟨m, s1, s2, s3, s4, s5, s6, s7, s8⟩ := s
  cases m
  · exact between_any B b c _ w hc hl (by simp only; simp only at hw; omega) h
  · exact name_any B b c _ w hc hl hw h
  · exact number_any B b c _ w hc hl hw h
  · exact string_any B b c _ w hc hl hw h
  · exact escape_any B b c _ w hc hl hw h
  · exact comment_any B b c _ w hc hl hw h
theorem fid_enter (m : Mode) (args : Array Value) (w : World) : (callFunc (fid m) args).run Tryz.prog w = .ok (.enter (fid m) args) w := by
  cases m <;> kernel_rfl

theorem bet_facts (s : RS) (c : Nat) : (betF s c).1.line = s.line ∧ (betF s c).1.col = s.col ∧ (betF s c).1.text.length ≤ s.text.length + 4 ∧ (betF s c).1.words.length ≤ s.words.length + 1 := by
  have he := enc_len (c : Int)
  unfold betF
  repeat' split
  all_goals refine ⟨rfl, rfl, ?_, ?_⟩
  all_goals simp [beginF, addF, endF]
  all_goals omega
theorem go_facts (s : RS) (c : Nat) (b : Bool) : (goF s c b).1.line = s.line ∧ (goF s c b).1.col = s.col ∧ (goF s c b).1.text.length ≤ s.text.length + 4 ∧ (goF s c b).1.words.length ≤ s.words.length + 2 := by
  have he := enc_len (c : Int)
  unfold goF
  split
  · refine ⟨rfl, rfl, ?_, ?_⟩ <;> simp [addF] <;> omega
  · split
    · refine ⟨rfl, rfl, ?_, ?_⟩ <;> simp
    · obtain ⟨h1, h2, h3, h4⟩ := bet_facts (endF s) c
      refine ⟨h1, h2, h3, Nat.le_trans h4 ?_⟩
      simp [endF]
theorem step_facts (s : RS) (c : Nat) : (stepF s c).1.line = s.line ∧ (stepF s c).1.col = s.col ∧ (stepF s c).1.text.length ≤ s.text.length + 4 ∧ (stepF s c).1.words.length ≤ s.words.length + 2 := by
  have he := enc_len (c : Int)
  have he2 := enc_len (10 : Int)
  unfold stepF
  split
  · have := bet_facts s c; omega
  · exact go_facts s c _
  · exact go_facts s c _
  · unfold strF
    repeat' split
    all_goals refine ⟨rfl, rfl, ?_, ?_⟩
    all_goals simp [addF, endF]
    all_goals omega
  · unfold escF
    repeat' split
    all_goals refine ⟨rfl, rfl, ?_, ?_⟩
    all_goals simp [addF]
    all_goals omega
  · unfold comF
    repeat' split
    all_goals refine ⟨rfl, rfl, ?_, ?_⟩
    all_goals simp

def advF (s : RS) (c : Nat) : RS := { s with line := if c = 10 then s.line + 1 else s.line, col := if c = 10 then 1 else s.col + 1 }
def readF (s : RS) (c : Nat) : RS × Int := if (stepF s c).2 = 0 then (advF (stepF s c).1 c, 0) else stepF s c
theorem read_facts (s : RS) (c : Nat) : (readF s c).1.line ≤ s.line + 1 ∧ (readF s c).1.col ≤ s.col + 1 ∧ (readF s c).1.text.length ≤ s.text.length + 4 ∧ (readF s c).1.words.length ≤ s.words.length + 2 := by
  obtain ⟨h1, h2, h3, h4⟩ := step_facts s c
  unfold readF
  split
  · unfold advF
    refine ⟨?_, ?_, h3, h4⟩
    · simp only
      split <;> omega
    · simp only
      split <;> omega
  · omega

set_option maxHeartbeats 2000000 in
theorem read_any (B b c : Nat) (s : RS) (w : World) (hc : c ≤ 2147483647) (hl : s.text.length ≤ 900000) (hw : s.words.length ≤ 900000) (hn : s.line ≤ 1000000) (hm : s.col ≤ 1000000) (h : RdR w B b s) :
    Calls Tryz.prog 62 #[.pointer (some ⟨b, 0, none⟩), .int .i32 (c : Int)] w (LeftE B b w (readF s c)) := by
  have KS := Lib.hid (step_any B b c s w hc hl hw h)
  have hent := fun args w => fid_enter s.mode args w
  obtain ⟨g1, g2, _, _⟩ := step_facts s c
  have c0 : w.cell? ⟨b, 0, none⟩ = some (.func (Fn.func (fid s.mode)) #[] #[]) := by
    obtain ⟨vw, vt, st⟩ := h.st
    exact st.blk.cell 0
  unfold readF
  generalize hx : stepF s c = x at KS g1 g2 ⊢
  obtain ⟨t, e0⟩ := x
  simp only at g1 g2 ⊢
  have tl : t.line ≤ 1000000 := by omega
  have tc : t.col ≤ 1000000 := by omega
  generalize hmo : fid s.mode = gm at KS hent c0
  clear hmo hx g1 g2 h
  by_cases he : e0 = 0
  · subst he
    rw [if_pos rfl]
    by_cases h10 : c = 10
    · have q10 : ((c : Int) == 10) = true := by simp; omega
      have H10 := Lib.hid h10
      clear h10
      go_enter Tryz.func62, Tryz.ntmps62
      go_wp2_with fail
      refine KS.out.mono ?_
      rintro e w1 ⟨rfl, hr, hk⟩
      obtain ⟨vw, vt, st⟩ := hr.st
      have c1 := st.blk.cell 1
      have c2 := st.blk.cell 2
      have f1 := st.blk.free 1
      have f2 := st.blk.free 2
      simp only [cellsR] at c1 c2
      have st2 := Lib.hid (((st.set 1 (.int .i64 ((t.line : Int) + 1))).set 2 (.int .i64 0)).set 2 (.int .i64 1))
      have HK := Lib.hid hk
      clear st hr hk hent c0
      go_wp2
      go_ret
      refine ⟨rfl, St.rd (s := advF t c) (g := fid t.mode) st2.out rfl ?_, HK.out.trans st2.out.keep⟩
      simp [cellsR, advF, H10.out]
    · have q10 : ((c : Int) == 10) = false := by simp; omega
      have H10 := Lib.hid h10
      clear h10
      go_enter Tryz.func62, Tryz.ntmps62
      go_wp2_with fail
      refine KS.out.mono ?_
      rintro e w1 ⟨rfl, hr, hk⟩
      obtain ⟨vw, vt, st⟩ := hr.st
      have c2 := st.blk.cell 2
      have f2 := st.blk.free 2
      simp only [cellsR] at c2
      have st2 := Lib.hid (st.set 2 (.int .i64 ((t.col : Int) + 1)))
      have HK := Lib.hid hk
      clear st hr hk hent c0
      go_wp2
      go_ret
      refine ⟨rfl, St.rd (s := advF t c) (g := fid t.mode) st2.out rfl ?_, HK.out.trans st2.out.keep⟩
      simp [cellsR, advF, H10.out]
  · rw [if_neg he]
    have heb : (e0 != 0) = true := by simpa using he
    have He := Lib.hid he
    clear he
    go_enter Tryz.func62, Tryz.ntmps62
    go_wp2_with fail
    refine KS.out.mono ?_
    rintro e w1 ⟨rfl, hr, hk⟩
    have HR := Lib.hid hr
    have HK := Lib.hid hk
    clear hr hk hent c0
    go_wp2
    go_ret
    exact ⟨rfl, HR.out, HK.out⟩
end Go.Proofs.YthbplchbolghjaaGreatDoor.Sc
