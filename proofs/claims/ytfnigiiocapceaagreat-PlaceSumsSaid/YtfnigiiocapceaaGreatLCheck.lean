/- What Check, CheckBears and CheckTerms answer, as plain functions. Condition: the lists lie in memory. -/
import Derived.Test.YtfnigiiocapceaaGreatLPrintB
import Derived.Test.YtfnigiiocapceaaGreatLSpan
namespace Go.Proofs.YtfnigiiocapceaaGreat.La
open Go.RowKit

def nameB (s : List UInt8) : Bool := decide (s ≠ []) && decide (spanF okName s 0 = s.length)
def valueB (s : List UInt8) : Bool := decide (s ≠ []) && decide (spanF okVal s 0 = s.length)

theorem nil_size : ((⟨#[]⟩ : ByteArray).size) = 0 := rfl
set_option maxHeartbeats 400000 in
theorem nameB_any (s : List UInt8) (w : World) (hl : s.length ≤ 9223372036854775807) :
    Calls Tryz.prog 100 #[strV s] w fun e w' => e = .returned (.bool (nameB s)) ∧ Below w.heap.size w w' := by
  have K := Lib.hid (nameLen_any s w hl)
  by_cases hs : s = []
  · have h1 : s.isEmpty = true := by simp [hs]
    have E : Hid (nameB s = false) := by show nameB s = false; unfold nameB; simp [hs]
    have Hs := Lib.hid hs
    clear hs
    go_enter Tryz.func100, Tryz.ntmps100
    go_wp2
    go_ret
    exact ⟨retB (by rw [E.out]), Below.refl _ _⟩
  · have h1 : s.isEmpty = false := by simpa using hs
    have h2 : (!s.isEmpty) = true := by simpa using hs
    have E : Hid (nameB s = decide (spanF okName s 0 = s.length)) := by show nameB s = _; unfold nameB; simp [hs]
    have Hs := Lib.hid hs
    clear hs
    go_enter Tryz.func100, Tryz.ntmps100
    go_wp2_with fail
    refine K.out.mono ?_
    rintro e w1 ⟨rfl, hb⟩
    have HB := Lib.hid hb
    clear hb
    go_wp2
    go_ret
    refine ⟨retB ?_, HB.out⟩
    rw [E.out, Bool.eq_iff_iff]
    simp
    try omega
set_option maxHeartbeats 400000 in
theorem valueB_any (s : List UInt8) (w : World) (hl : s.length ≤ 9223372036854775807) :
    Calls Tryz.prog 135 #[strV s] w fun e w' => e = .returned (.bool (valueB s)) ∧ Below w.heap.size w w' := by
  have K := Lib.hid (valueLen_any s w hl)
  by_cases hs : s = []
  · have h1 : s.isEmpty = true := by simp [hs]
    have E : Hid (valueB s = false) := by show valueB s = false; unfold valueB; simp [hs]
    have Hs := Lib.hid hs
    clear hs
    go_enter Tryz.func135, Tryz.ntmps135
    go_wp2
    go_ret
    exact ⟨retB (by rw [E.out]), Below.refl _ _⟩
  · have h1 : s.isEmpty = false := by simpa using hs
    have h2 : (!s.isEmpty) = true := by simpa using hs
    have E : Hid (valueB s = decide (spanF okVal s 0 = s.length)) := by show valueB s = _; unfold valueB; simp [hs]
    have Hs := Lib.hid hs
    clear hs
    go_enter Tryz.func135, Tryz.ntmps135
    go_wp2_with fail
    refine K.out.mono ?_
    rintro e w1 ⟨rfl, hb⟩
    have HB := Lib.hid hb
    clear hb
    go_wp2
    go_ret
    refine ⟨retB ?_, HB.out⟩
    rw [E.out, Bool.eq_iff_iff]
    simp
    try omega

def labB (x : List UInt8 × List UInt8) : Bool := nameB x.1 && valueB x.2
def borB (x : List UInt8 × List UInt8) : Bool := nameB x.1 && (decide (x.2 = [42]) || valueB x.2)
def terB (x : Int × List UInt8 × List UInt8) : Bool :=
  if x.1 = 1 ∨ x.1 = 2 then nameB x.2.1 && valueB x.2.2 else if x.1 = 3 ∨ x.1 = 4 then nameB x.2.1 && decide (x.2.2 = []) else false

set_option maxHeartbeats 400000 in
theorem labB_any (x : List UInt8 × List UInt8) (w : World) (h1 : x.1.length ≤ 9223372036854775807) (h2 : x.2.length ≤ 9223372036854775807) :
    Calls Tryz.prog 134 #[labV x] w fun e w' => e = .returned (.bool (labB x)) ∧ Below w.heap.size w w' := by
  obtain ⟨a, b⟩ := x
  have HX := Lib.hid (Blk.new w #[strV a, strV b] 91)
  have HB := Lib.hid (below1 w (.cells #[strV a, strV b] 91))
  have K1 := Lib.hid (fun w => nameB_any a w h1)
  have K2 := Lib.hid (fun w => valueB_any b w h2)
  cases hn : nameB a
  · have E : Hid (labB (a, b) = false) := by show labB _ = _; unfold labB; simp [hn]
    rw [hn] at K1
    clear hn
    go_enter Tryz.func134, Tryz.ntmps134
    go_wp2_with fail
    refine (K1.out _).mono ?_
    rintro e w1 ⟨rfl, hb⟩
    have HB1 := Lib.hid (HB.out.trans (hb.mono HB.out.size))
    clear hb
    go_wp2
    go_ret
    exact ⟨retB (by rw [E.out]), HB1.out⟩
  · have E : Hid (labB (a, b) = valueB b) := by show labB _ = _; unfold labB; simp [hn]
    rw [hn] at K1
    clear hn
    go_enter Tryz.func134, Tryz.ntmps134
    go_wp2_with fail
    refine (K1.out _).mono ?_
    rintro e w1 ⟨rfl, hb⟩
    have HX1 := Lib.hid (HX.out.below hb HX.out.lt)
    have HB1 := Lib.hid (HB.out.trans (hb.mono HB.out.size))
    clear hb
    obtain ⟨d0, d1, f0, f1⟩ := Blk.c2 HX1.out
    go_wp2_with fail
    refine (K2.out _).mono ?_
    rintro e w2 ⟨rfl, hb⟩
    have HB2 := Lib.hid (HB1.out.trans (hb.mono HB1.out.size))
    clear hb
    go_wp2
    go_ret
    exact ⟨retB (by rw [E.out]), HB2.out⟩

set_option maxHeartbeats 400000 in
theorem borB_any (x : List UInt8 × List UInt8) (w : World) (h1 : x.1.length ≤ 9223372036854775807) (h2 : x.2.length ≤ 9223372036854775807) :
    Calls Tryz.prog 140 #[labV x] w fun e w' => e = .returned (.bool (borB x)) ∧ Below w.heap.size w w' := by
  obtain ⟨a, b⟩ := x
  have HX := Lib.hid (Blk.new w #[strV a, strV b] 91)
  have HB := Lib.hid (below1 w (.cells #[strV a, strV b] 91))
  have K1 := Lib.hid (fun w => nameB_any a w h1)
  have K2 := Lib.hid (fun w => valueB_any b w h2)
  cases hn : nameB a
  · have E : Hid (borB (a, b) = false) := by show borB _ = _; unfold borB; simp [hn]
    rw [hn] at K1
    clear hn
    go_enter Tryz.func140, Tryz.ntmps140
    go_wp2_with fail
    refine (K1.out _).mono ?_
    rintro e w1 ⟨rfl, hb⟩
    have HB1 := Lib.hid (HB.out.trans (hb.mono HB.out.size))
    clear hb
    go_wp2
    go_ret
    exact ⟨retB (by rw [E.out]), HB1.out⟩
  · rw [hn] at K1
    by_cases hs : b = [42]
    · have E : Hid (borB (a, b) = true) := by show borB _ = _; unfold borB; simp [hn, hs]
      have hsb : (b == [42]) = true := by simpa using hs
      have Hs := Lib.hid hs
      clear hn hs
      go_enter Tryz.func140, Tryz.ntmps140
      go_wp2_with fail
      refine (K1.out _).mono ?_
      rintro e w1 ⟨rfl, hb⟩
      have HX1 := Lib.hid (HX.out.below hb HX.out.lt)
      have HB1 := Lib.hid (HB.out.trans (hb.mono HB.out.size))
      clear hb
      obtain ⟨d0, d1, f0, f1⟩ := Blk.c2 HX1.out
      go_wp2
      go_ret
      exact ⟨retB (by rw [E.out]), HB1.out⟩
    · have E : Hid (borB (a, b) = valueB b) := by show borB _ = _; unfold borB; simp [hn, hs]
      have hsb : (b == [42]) = false := by simpa using hs
      have Hs := Lib.hid hs
      clear hn hs
      go_enter Tryz.func140, Tryz.ntmps140
      go_wp2_with fail
      refine (K1.out _).mono ?_
      rintro e w1 ⟨rfl, hb⟩
      have HX1 := Lib.hid (HX.out.below hb HX.out.lt)
      have HB1 := Lib.hid (HB.out.trans (hb.mono HB.out.size))
      clear hb
      obtain ⟨d0, d1, f0, f1⟩ := Blk.c2 HX1.out
      go_wp2_with fail
      refine (K2.out _).mono ?_
      rintro e w2 ⟨rfl, hb⟩
      have HB2 := Lib.hid (HB1.out.trans (hb.mono HB1.out.size))
      clear hb
      go_wp2
      go_ret
      exact ⟨retB (by rw [E.out]), HB2.out⟩

set_option maxHeartbeats 1000000 in
theorem terB_any (x : Int × List UInt8 × List UInt8) (w : World) (h1 : x.2.1.length ≤ 9223372036854775807) (h2 : x.2.2.length ≤ 9223372036854775807) :
    Calls Tryz.prog 138 #[terV x] w fun e w' => e = .returned (.bool (terB x)) ∧ Below w.heap.size w w' := by
  obtain ⟨k, a, b⟩ := x
  have HX := Lib.hid (Blk.new w #[.int .i64 k, strV a, strV b] 158)
  have HB := Lib.hid (below1 w (.cells #[.int .i64 k, strV a, strV b] 158))
  have K1 := Lib.hid (fun w => nameB_any a w h1)
  have K2 := Lib.hid (fun w => valueB_any b w h2)
  simp only at h1 h2
  have hcs : k = 1 ∨ k = 2 ∨ k = 3 ∨ k = 4 ∨ (k ≠ 1 ∧ k ≠ 2 ∧ k ≠ 3 ∧ k ≠ 4) := by omega
  rcases hcs with hc | hc | hc | hc | hc
  · have hk1 : (k == 1) = true := by first | (simp; omega) | simp_all
    cases hn : nameB a
    · have E : Hid (terB (k, a, b) = false) := by show terB _ = _; unfold terB; simp [hn]
      rw [hn] at K1
      have Hc := Lib.hid hc
      clear hn hc
      go_enter Tryz.func138, Tryz.ntmps138
      go_wp2_with fail
      refine (K1.out _).mono ?_
      rintro e w1 ⟨rfl, hb⟩
      have HB1 := Lib.hid (HB.out.trans (hb.mono HB.out.size))
      clear hb
      go_wp2
      go_ret
      exact ⟨retB (by rw [E.out]), HB1.out⟩
    · have E : Hid (terB (k, a, b) = valueB b) := by show terB _ = _; unfold terB; rw [if_pos (by show k = 1 ∨ k = 2; omega)]; simp [hn]
      rw [hn] at K1
      have Hc := Lib.hid hc
      clear hn hc
      go_enter Tryz.func138, Tryz.ntmps138
      go_wp2_with fail
      refine (K1.out _).mono ?_
      rintro e w1 ⟨rfl, hb⟩
      have HX1 := Lib.hid (HX.out.below hb HX.out.lt)
      have HB1 := Lib.hid (HB.out.trans (hb.mono HB.out.size))
      clear hb
      obtain ⟨d0, d1, d2, f0, f1, f2⟩ := Blk.c3 HX1.out
      go_wp2_with fail
      refine (K2.out _).mono ?_
      rintro e w2 ⟨rfl, hb⟩
      have HB2 := Lib.hid (HB1.out.trans (hb.mono HB1.out.size))
      clear hb
      go_wp2
      go_ret
      exact ⟨retB (by rw [E.out]), HB2.out⟩
  · have hk1 : (k == 1) = false := by first | (simp; omega) | simp_all
    have hk2 : (k == 2) = true := by first | (simp; omega) | simp_all
    cases hn : nameB a
    · have E : Hid (terB (k, a, b) = false) := by show terB _ = _; unfold terB; simp [hn]
      rw [hn] at K1
      have Hc := Lib.hid hc
      clear hn hc
      go_enter Tryz.func138, Tryz.ntmps138
      go_wp2_with fail
      refine (K1.out _).mono ?_
      rintro e w1 ⟨rfl, hb⟩
      have HB1 := Lib.hid (HB.out.trans (hb.mono HB.out.size))
      clear hb
      go_wp2
      go_ret
      exact ⟨retB (by rw [E.out]), HB1.out⟩
    · have E : Hid (terB (k, a, b) = valueB b) := by show terB _ = _; unfold terB; rw [if_pos (by show k = 1 ∨ k = 2; omega)]; simp [hn]
      rw [hn] at K1
      have Hc := Lib.hid hc
      clear hn hc
      go_enter Tryz.func138, Tryz.ntmps138
      go_wp2_with fail
      refine (K1.out _).mono ?_
      rintro e w1 ⟨rfl, hb⟩
      have HX1 := Lib.hid (HX.out.below hb HX.out.lt)
      have HB1 := Lib.hid (HB.out.trans (hb.mono HB.out.size))
      clear hb
      obtain ⟨d0, d1, d2, f0, f1, f2⟩ := Blk.c3 HX1.out
      go_wp2_with fail
      refine (K2.out _).mono ?_
      rintro e w2 ⟨rfl, hb⟩
      have HB2 := Lib.hid (HB1.out.trans (hb.mono HB1.out.size))
      clear hb
      go_wp2
      go_ret
      exact ⟨retB (by rw [E.out]), HB2.out⟩
  · have hk1 : (k == 1) = false := by first | (simp; omega) | simp_all
    have hk2 : (k == 2) = false := by first | (simp; omega) | simp_all
    have hk3 : (k == 3) = true := by first | (simp; omega) | simp_all
    cases hn : nameB a
    · have E : Hid (terB (k, a, b) = false) := by show terB _ = _; unfold terB; simp [hn]
      rw [hn] at K1
      have Hc := Lib.hid hc
      clear hn hc
      go_enter Tryz.func138, Tryz.ntmps138
      go_wp2_with fail
      refine (K1.out _).mono ?_
      rintro e w1 ⟨rfl, hb⟩
      have HB1 := Lib.hid (HB.out.trans (hb.mono HB.out.size))
      clear hb
      go_wp2
      go_ret
      exact ⟨retB (by rw [E.out]), HB1.out⟩
    · have E : Hid (terB (k, a, b) = b.isEmpty) := by show terB _ = _; unfold terB; rw [if_neg (by show ¬ (k = 1 ∨ k = 2); omega), if_pos (by show k = 3 ∨ k = 4; omega)]; cases b <;> simp [hn]
      rw [hn] at K1
      have Hc := Lib.hid hc
      clear hn hc
      go_enter Tryz.func138, Tryz.ntmps138
      go_wp2_with fail
      refine (K1.out _).mono ?_
      rintro e w1 ⟨rfl, hb⟩
      have HX1 := Lib.hid (HX.out.below hb HX.out.lt)
      have HB1 := Lib.hid (HB.out.trans (hb.mono HB.out.size))
      clear hb
      obtain ⟨d0, d1, d2, f0, f1, f2⟩ := Blk.c3 HX1.out
      go_wp2
      go_ret
      exact ⟨retB (by rw [E.out]), HB1.out⟩
  · have hk1 : (k == 1) = false := by first | (simp; omega) | simp_all
    have hk2 : (k == 2) = false := by first | (simp; omega) | simp_all
    have hk3 : (k == 3) = false := by first | (simp; omega) | simp_all
    have hk4 : (k == 4) = true := by first | (simp; omega) | simp_all
    cases hn : nameB a
    · have E : Hid (terB (k, a, b) = false) := by show terB _ = _; unfold terB; simp [hn]
      rw [hn] at K1
      have Hc := Lib.hid hc
      clear hn hc
      go_enter Tryz.func138, Tryz.ntmps138
      go_wp2_with fail
      refine (K1.out _).mono ?_
      rintro e w1 ⟨rfl, hb⟩
      have HB1 := Lib.hid (HB.out.trans (hb.mono HB.out.size))
      clear hb
      go_wp2
      go_ret
      exact ⟨retB (by rw [E.out]), HB1.out⟩
    · have E : Hid (terB (k, a, b) = b.isEmpty) := by show terB _ = _; unfold terB; rw [if_neg (by show ¬ (k = 1 ∨ k = 2); omega), if_pos (by show k = 3 ∨ k = 4; omega)]; cases b <;> simp [hn]
      rw [hn] at K1
      have Hc := Lib.hid hc
      clear hn hc
      go_enter Tryz.func138, Tryz.ntmps138
      go_wp2_with fail
      refine (K1.out _).mono ?_
      rintro e w1 ⟨rfl, hb⟩
      have HX1 := Lib.hid (HX.out.below hb HX.out.lt)
      have HB1 := Lib.hid (HB.out.trans (hb.mono HB.out.size))
      clear hb
      obtain ⟨d0, d1, d2, f0, f1, f2⟩ := Blk.c3 HX1.out
      go_wp2
      go_ret
      exact ⟨retB (by rw [E.out]), HB1.out⟩
  · have hk1 : (k == 1) = false := by first | (simp; omega) | simp_all
    have hk2 : (k == 2) = false := by first | (simp; omega) | simp_all
    have hk3 : (k == 3) = false := by first | (simp; omega) | simp_all
    have hk4 : (k == 4) = false := by first | (simp; omega) | simp_all
    have E : Hid (terB (k, a, b) = false) := by show terB _ = _; unfold terB; rw [if_neg (by show ¬ (k = 1 ∨ k = 2); omega), if_neg (by show ¬ (k = 3 ∨ k = 4); omega)]
    have Hc := Lib.hid hc
    clear hc
    go_enter Tryz.func138, Tryz.ntmps138
    go_wp2
    go_ret
    exact ⟨retB (by rw [E.out]), HB.out⟩

/-- May x stand at k? -/
def okAt {α : Type} (mb : α → Bool) (ri : α → α → Bool) (l : List α) (k : Nat) (x : α) : Bool :=
  mb x && (decide (k = 0) || (match l[k - 1]? with | none => true | some y => ri y x))
theorem okAt_no {α : Type} {mb : α → Bool} {ri : α → α → Bool} {l : List α} {k : Nat} {x : α} (h : mb x = false) : okAt mb ri l k x = false := by unfold okAt; rw [h]; rfl
theorem okAt_zero {α : Type} {mb : α → Bool} {ri : α → α → Bool} {l : List α} {k : Nat} {x : α} (h : mb x = true) (h0 : k = 0) : okAt mb ri l k x = true := by unfold okAt; rw [h, h0]; rfl
theorem okAt_pos {α : Type} {mb : α → Bool} {ri : α → α → Bool} {l : List α} {k : Nat} {x y : α} (h : mb x = true) (h0 : ¬ k = 0) (hy : l[k - 1]? = some y) : okAt mb ri l k x = ri y x := by unfold okAt; rw [h, hy, decide_eq_false h0]; rfl
/-- May the first k stand there, each of them, and behind the one ahead? -/
def chkK {α : Type} (mb : α → Bool) (ri : α → α → Bool) (l : List α) : Nat → Bool
  | 0 => true
  | k + 1 => chkK mb ri l k && (match l[k]? with
    | none => true
    | some x => okAt mb ri l k x)
def chkA {α : Type} (mb : α → Bool) (ri : α → α → Bool) (l : List α) : Int := if 6 < l.length ∨ chkK mb ri l l.length = false then 2 else 0
theorem chkK_false {α : Type} {mb : α → Bool} {ri : α → α → Bool} {l : List α} {k : Nat} (h : chkK mb ri l k = false) : ∀ {n : Nat}, k ≤ n → chkK mb ri l n = false := by
  intro n hn
  induction n with
  | zero => obtain rfl : k = 0 := by omega
            exact h
  | succ n ih =>
    rcases Nat.lt_or_eq_of_le hn with g | rfl
    · rw [chkK, ih (by omega)]
      rfl
    · exact h

end Go.Proofs.YtfnigiiocapceaaGreat.La
