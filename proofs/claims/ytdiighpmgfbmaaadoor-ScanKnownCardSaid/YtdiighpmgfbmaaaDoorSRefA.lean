/- The document's questions about a rune, and a word's runes one by one: contracts. Condition: the tables of UTF-8 lie as they were laid. -/
import Derived.Test.YtdiighpmgfbmaaaDoorSRoad
namespace Go.Proofs.YtdiighpmgfbmaaaDoor
open Go.RowKit

def smI (c : Int) : Bool := decide (97 ≤ c ∧ c ≤ 122)
def dgI (c : Int) : Bool := decide (48 ≤ c ∧ c ≤ 57)
def sgI (c : Int) : Bool := decide (c = 123 ∨ c = 125 ∨ c = 58 ∨ c = 59 ∨ c = 42)
def goI (m : Bool) (c : Int) : Bool := smI c || dgI c || (if m = true then decide (c = 45) else decide (65 ≤ c ∧ c ≤ 90) || decide (c = 46) || decide (c = 37))
def enI (c : Int) : Bool := decide (c < 0 ∨ c = 32 ∨ c = 9 ∨ c = 10 ∨ c = 35) || sgI c
theorem rsmall_any (c : Int) (w : World) : Calls Tryd.prog 46 #[.int .i64 c] w fun e w' => e = .returned (.bool (smI c)) ∧ w = w' := by
  go_enter Tryd.func46, Tryd.ntmps46
  go_wp2
  all_goals
    go_ret
    refine ⟨retB ?_, rfl⟩
    unfold smI
    rw [Bool.eq_iff_iff]
    simp
    try omega
theorem rdigit_any (c : Int) (w : World) : Calls Tryd.prog 47 #[.int .i64 c] w fun e w' => e = .returned (.bool (dgI c)) ∧ w = w' := by
  go_enter Tryd.func47, Tryd.ntmps47
  go_wp2
  all_goals
    go_ret
    refine ⟨retB ?_, rfl⟩
    unfold dgI
    rw [Bool.eq_iff_iff]
    simp
    try omega
theorem rsign_any (c : Int) (w : World) : Calls Tryd.prog 48 #[.int .i64 c] w fun e w' => e = .returned (.bool (sgI c)) ∧ w = w' := by
  go_enter Tryd.func48, Tryd.ntmps48
  go_wp2
  all_goals
    go_ret
    refine ⟨retB ?_, rfl⟩
    unfold sgI
    rw [Bool.eq_iff_iff]
    simp at *
    omega
set_option maxHeartbeats 1000000 in
theorem goes1_any (c : Int) (w : World) : Calls Tryd.prog 63 #[.int .i64 c, .int .i64 1] w fun e w' => e = .returned (.bool (goI true c)) ∧ w = w' := by
  cases h1 : smI c <;> cases h2 : dgI c <;> cases h3 : (c == 45) <;>
  (go_enter Tryd.func63, Tryd.ntmps63
   go_wp2_with (first | ((with_reducible refine (rsmall_any _ _).mono ?_); rintro e w9 ⟨rfl, rfl⟩) | ((with_reducible refine (rdigit_any _ _).mono ?_); rintro e w9 ⟨rfl, rfl⟩))
   go_ret
   refine ⟨retB ?_, rfl⟩
   unfold goI
   first | (have h3' : c = 45 := by simpa using h3) | (have h3' : ¬ c = 45 := by simpa using h3)
   simp [h1, h2, h3'])
set_option maxHeartbeats 1000000 in
theorem goes2_any (c : Int) (w : World) : Calls Tryd.prog 63 #[.int .i64 c, .int .i64 2] w fun e w' => e = .returned (.bool (goI false c)) ∧ w = w' := by
  cases h1 : smI c <;> cases h2 : dgI c <;>
  (go_enter Tryd.func63, Tryd.ntmps63
   go_wp2_with (first | ((with_reducible refine (rsmall_any _ _).mono ?_); rintro e w9 ⟨rfl, rfl⟩) | ((with_reducible refine (rdigit_any _ _).mono ?_); rintro e w9 ⟨rfl, rfl⟩))
   all_goals
     go_ret
     refine ⟨retB ?_, rfl⟩
     unfold goI
     first
       | decide
       | (rw [h1, h2, Bool.eq_iff_iff]
          simp
          try omega))
set_option maxHeartbeats 1000000 in
theorem ends_any (c : Int) (w : World) : Calls Tryd.prog 64 #[.int .i64 c] w fun e w' => e = .returned (.bool (enI c)) ∧ w = w' := by
  cases h1 : sgI c <;>
  (go_enter Tryd.func64, Tryd.ntmps64
   go_wp2_with (first | ((with_reducible refine (rsign_any _ _).mono ?_); rintro e w9 ⟨rfl, rfl⟩))
   all_goals
     go_ret
     refine ⟨retB ?_, rfl⟩
     unfold enI
     rw [h1, Bool.eq_iff_iff]
     simp at *
     try omega)
def escS (c : Int) : List UInt8 × Bool := if c = 34 then ([34], true) else if c = 92 then ([92], true) else if c = 110 then ([10], true) else ([], false)
theorem rescape_any (c : Int) (w : World) : Calls Tryd.prog 62 #[.int .i64 c] w fun e w' => e = .returned (.tuple #[strV (escS c).1, .bool (escS c).2]) ∧ w = w' := by
  unfold escS
  by_cases h1 : c = 34
  · subst h1
    go_enter Tryd.func62, Tryd.ntmps62
    go_wp2
    go_ret2
    exact ⟨rfl, rfl⟩
  by_cases h2 : c = 92
  · subst h2
    go_enter Tryd.func62, Tryd.ntmps62
    go_wp2
    go_ret2
    exact ⟨rfl, rfl⟩
  by_cases h3 : c = 110
  · subst h3
    go_enter Tryd.func62, Tryd.ntmps62
    go_wp2
    go_ret2
    exact ⟨rfl, rfl⟩
  have q1 : (c == 34) = false := by simpa using h1
  have q2 : (c == 92) = false := by simpa using h2
  have q3 : (c == 110) = false := by simpa using h3
  rw [if_neg h1, if_neg h2, if_neg h3]
  have H1 := Lib.hid h1
  have H2 := Lib.hid h2
  have H3 := Lib.hid h3
  clear h1 h2 h3
  go_enter Tryd.func62, Tryd.ntmps62
  go_wp2
  go_ret2
  exact ⟨rfl, rfl⟩

/- Mathematics: a name, or a number, goes on and ends. -/
theorem go_nam (c : Nat) : goI true (c : Int) = namB c := by
  unfold goI namB smI dgI smB dgB
  rw [Bool.eq_iff_iff]
  simp
  omega
theorem go_num2 (c : Nat) : goI false (c : Int) = numB c := by
  unfold goI numB smI dgI smB dgB cpB
  rw [Bool.eq_iff_iff]
  simp
  omega
theorem en_nat (c : Nat) : enI (c : Int) = true ↔ blB c = true ∨ sgB c = true ∨ c = 35 ∨ c = 10 := by
  unfold enI sgI blB sgB
  simp
  omega
def wmode (m : Bool) : Mode := if m = true then .nam else .num
theorem step_word (m : Bool) (t : RS) (c : Nat) (ht : t.mode = wmode m) : stepF t c = goF t c (goI m (c : Int)) := by
  unfold stepF
  rw [ht]
  cases m
  · rw [go_num2]
    rfl
  · rw [go_nam]
    rfl

/-- The reader stands at p; at p0 it stood as s. -/
structure OnW (l : List UInt8) (p0 : Nat) (s : RS) (p : Nat) (t : RS) : Prop where
  le : p0 ≤ p
  here : p ≤ l.length
  line : t.line ≤ p + 1
  col : t.col ≤ p + 1
  mode : t.mode = s.mode
  kind : t.kind = s.kind
  wl : t.wl = s.wl
  wc : t.wc = s.wc
  words : t.words = s.words
  road : Proofs.YtdiighpmgfbmaaaDoor.road l p0 s = Proofs.YtdiighpmgfbmaaaDoor.road l p t

theorem go_low (m : Bool) (c : Int) (h : goI m c = true) : 37 ≤ c ∧ c ≤ 122 := by
  unfold goI smI dgI at h
  cases m <;> simp at h <;> omega
theorem OnW.next {l : List UInt8} {p0 p c n : Nat} {s t t1 : RS} (h : OnW l p0 s p t) (hp : p < l.length) (hd : Utf8.decode ⟨l.toArray⟩ p = (c, n)) (hb : (runeF l p).2 = true) (hr : stepF t c = (t1, 0)) (hm : t1.mode = s.mode) (hk : t1.kind = s.kind) (h1 : t1.wl = s.wl) (h2 : t1.wc = s.wc) (h3 : t1.words = s.words) :
    OnW l p0 s (p + n) (advF t1 c) := by
  have hw := Lib.decode_width_pos ⟨l.toArray⟩ p hp
  have hi := dec_in l p hp
  obtain ⟨f1, f2, _, _⟩ := step_facts t c
  rw [hr] at f1 f2
  rw [hd] at hw hi
  simp only at f1 f2 hw hi
  have := h.line
  have := h.col
  have := h.le
  refine ⟨by omega, hi, ?_, ?_, hm, hk, h1, h2, h3, ?_⟩
  · show (if c = 10 then t1.line + 1 else t1.line) ≤ _
    split <;> omega
  · show (if c = 10 then 1 else t1.col + 1) ≤ _
    split <;> omega
  · rw [h.road]
    exact road_step l p c n t t1 hp hd hb hr

theorem enc_take (l : List UInt8) (p c n : Nat) (hp : p < l.length) (hd : Utf8.decode ⟨l.toArray⟩ p = (c, n)) (hv : ¬ (c = 65533 ∧ n = 1)) : Lib.encodeRune (c : Int) = (l.drop p).take n := by
  have hne : l.drop p ≠ [] := by
    intro e
    have := congrArg List.length e
    simp at this
    omega
  have hdd := dec_drop l p
  have h := Lib.encode_decode (l.drop p) hne (by rw [hdd, hd]; exact hv)
  rw [hdd, hd] at h
  exact h
theorem take_more (l : List UInt8) (p0 p n : Nat) (h : p0 ≤ p) : (l.drop p0).take (p - p0) ++ (l.drop p).take n = (l.drop p0).take (p + n - p0) := by
  rw [show p + n - p0 = (p - p0) + n by omega, List.take_add, List.drop_drop, show p0 + (p - p0) = p by omega]
theorem rune_ok (l : List UInt8) (p c n : Nat) (hp : p < l.length) (hd : Utf8.decode ⟨l.toArray⟩ p = (c, n)) (hc : c ≠ 65533) : runeF l p = ((c : Int), true) := by
  rw [rune_at l p hp, hd]
  simp [hc]

theorem plain_step {l : List UInt8} {p0 p c n : Nat} {s t : RS} (m : Bool) (h : OnW l p0 s p t) (hm : s.mode = wmode m) (ht : t.text = (l.drop p0).take (p - p0)) (hp : p < l.length) (hd : Utf8.decode ⟨l.toArray⟩ p = (c, n)) (hg : goI m (c : Int) = true) :
    OnW l p0 s (p + n) (advF (addF t (c : Int)) c) ∧ (advF (addF t (c : Int)) c).text = (l.drop p0).take (p + n - p0) := by
  have hlow := go_low m _ hg
  have hc : c ≠ 65533 := by omega
  refine ⟨h.next hp hd (by rw [rune_ok l p c n hp hd hc]) ?_ h.mode h.kind h.wl h.wc h.words, ?_⟩
  · rw [step_word m t c (by rw [h.mode, hm]), hg]
    rfl
  · show t.text ++ Lib.encodeRune (c : Int) = _
    rw [ht, enc_take l p c n hp hd (by omega), take_more l p0 p n h.le]

theorem plain_end {l : List UInt8} {p0 p : Nat} {s t : RS} (m : Bool) (h : OnW l p0 s p t) (hm : s.mode = wmode m) (hg : goI m (runeF l p).1 = false) :
    (enI (runeF l p).1 = true → road l p0 s = road l p (endF t)) ∧ (enI (runeF l p).1 = false → road l p0 s = ([], t.line, t.col, 4)) := by
  rw [h.road]
  by_cases hp : p < l.length
  · obtain ⟨c, n, hd⟩ : ∃ c n, Utf8.decode ⟨l.toArray⟩ p = (c, n) := ⟨_, _, rfl⟩
    have hr := rune_at l p hp
    rw [hd] at hr
    simp only at hr
    have hr1 : (runeF l p).1 = (c : Int) := by rw [hr]
    rw [hr1] at hg ⊢
    have hst := step_word m t c (by rw [h.mode, hm])
    rw [hg] at hst
    unfold goF at hst
    rw [if_neg (by simp)] at hst
    constructor
    · intro he
      have hen := (en_nat c).1 he
      rw [if_neg (by
        rintro ⟨a1, a2, a3, a4⟩
        rcases hen with k | k | k | k
        · rw [a1] at k; cases k
        · rw [a2] at k; cases k
        · exact a3 k
        · exact a4 k)] at hst
      refine road_swap l p t (endF t) ?_ rfl rfl
      unfold nextC
      rw [if_pos hp, hd]
      simp only
      rw [hst]
      rfl
    · intro he
      cases hb : (runeF l p).2
      · exact road_bad l p t hp hb
      · refine road_err l p c n t 4 hp hd hb ?_ (by decide)
        rw [if_pos ?_] at hst
        · rw [hst]
        · have hen : ¬ (blB c = true ∨ sgB c = true ∨ c = 35 ∨ c = 10) := fun k => by
            rw [(en_nat c).2 k] at he
            cases he
          simp only [not_or, Bool.not_eq_true] at hen
          exact ⟨hen.1, hen.2.1, hen.2.2.1, hen.2.2.2⟩
  · rw [rune_end l p hp]
    constructor
    · intro _
      refine road_swap l p t (endF t) ?_ rfl rfl
      unfold nextC
      rw [if_neg hp]
      have hst := step_word m t 10 (by rw [h.mode, hm])
      rw [show goI m ((10 : Nat) : Int) = false by cases m <;> rfl] at hst
      rw [hst]
      rfl
    · intro he
      cases he
end Go.Proofs.YtdiighpmgfbmaaaDoor
