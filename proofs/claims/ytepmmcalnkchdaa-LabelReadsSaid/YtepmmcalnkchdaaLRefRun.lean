/- What the document's reader of a word answers, as a plain function. Condition: a text that can lie in memory. -/
import Derived.Test.YtepmmcalnkchdaaLRead
namespace Go.Proofs.Ytepmmcalnkchdaa
open Go.RowKit

def insB (n : Nat) : Bool := letB n || digB n
def insAt (l : List UInt8) (i : Nat) : Bool := match l[i]? with | some b => insB b.toNat | none => false

theorem rletter_any (b : UInt8) (w : World) :
    Calls Try.prog 88 #[.int .u8 (b.toNat : Int)] w fun e w' => e = .returned (.bool (letB b.toNat)) ∧ w = w' := by
  have hb : b.toNat < 256 := b.toNat_lt
  generalize b.toNat = c at *
  go_enter Try.func88, Try.ntmps88
  go_wp2
  all_goals
    go_ret
    refine ⟨retB ?_, rfl⟩
    unfold letB
    rw [Bool.eq_iff_iff]
    simp
    try omega
theorem rinside_any (b : UInt8) (w : World) :
    Calls Try.prog 87 #[.int .u8 (b.toNat : Int)] w fun e w' => e = .returned (.bool (insB b.toNat)) ∧ w = w' := by
  have K := Lib.hid (fun w => rletter_any b w)
  have hb : b.toNat < 256 := b.toNat_lt
  generalize b.toNat = c at *
  cases hl : letB c
  · rw [hl] at K
    have E : Hid (insB c = digB c) := by show insB c = _; unfold insB; rw [hl]; rfl
    clear hl
    go_enter Try.func87, Try.ntmps87
    go_wp2_with fail
    refine (K.out _).mono ?_
    rintro e w1 ⟨rfl, rfl⟩
    go_wp2
    all_goals
      go_ret
      refine ⟨retB ?_, rfl⟩
      rw [E.out]
      unfold digB
      rw [Bool.eq_iff_iff]
      simp
      try omega
  · rw [hl] at K
    have E : Hid (insB c = true) := by show insB c = _; unfold insB; rw [hl]; rfl
    clear hl
    go_enter Try.func87, Try.ntmps87
    go_wp2_with fail
    refine (K.out _).mono ?_
    rintro e w1 ⟨rfl, rfl⟩
    go_wp2
    go_ret
    exact ⟨retB (by rw [E.out]), rfl⟩

set_option maxHeartbeats 400000 in
theorem rsign_any (l : List UInt8) (a : Nat) (c : UInt8) (w : World) (hl : l.length ≤ 300) (ha : a ≤ 1000) :
    Calls Try.prog 82 #[strV l, .int .i64 (a : Int), .int .u8 (c.toNat : Int)] w fun e w' => e = .returned (.bool (signL l a c)) ∧ w = w' := by
  by_cases h : a < l.length
  · have E : Hid (signL l a c = decide (l[a].toNat = c.toNat)) := by
      show signL l a c = _
      unfold signL
      rw [List.getElem?_eq_getElem h, Bool.eq_iff_iff]
      simp [UInt8.toNat_inj]
    have h0 : (0 : Int) ≤ (a : Int) := by omega
    have h1 : (a : Int) < (l.length : Int) := by omega
    go_enter Try.func82, Try.ntmps82
    go_wp2
    go_ret
    refine ⟨retB ?_, rfl⟩
    rw [E.out, Bool.eq_iff_iff]
    simp
    show ((l[a].toNat : Nat) : Int) = (c.toNat : Int) ↔ l[a].toNat = c.toNat
    omega
  · have E : Hid (signL l a c = false) := by
      show signL l a c = _
      unfold signL
      rw [List.getElem?_eq_none (by omega)]
      simp
    have h1 : (l.length : Int) ≤ (a : Int) := by omega
    go_enter Try.func82, Try.ntmps82
    go_wp2
    go_ret
    exact ⟨retB (by rw [E.out]), rfl⟩

/-- A word that stands at a byte, and where it ends; where it is wrong, and how. -/
def runF (nm : Bool) (l : List UInt8) (a : Nat) : List UInt8 × Nat × Int :=
  if wordL (if nm = true then okName else okVal) l a = 0 ∧ a = l.length then ([], a, 3)
  else if wordL (if nm = true then okName else okVal) l a = 0 ∨ insAt l (a + wordL (if nm = true then okName else okVal) l a) = true then ([], a + wordL (if nm = true then okName else okVal) l a, 4)
  else ((l.drop a).take (wordL (if nm = true then okName else okVal) l a), a + wordL (if nm = true then okName else okVal) l a, 0)
/-- What the document's reader leaves. -/
def RunsTo (w : World) (x : List UInt8 × Nat × Int) (e : Ending) (w' : World) : Prop := e = .returned (.tuple #[strV x.1, .int .i64 (x.2.1 : Int), .int .i64 x.2.2]) ∧ w = w'

theorem run_word {nm : Bool} {l : List UInt8} {a p : Nat} (h : wordL (if nm = true then okName else okVal) l a = p - a) (ha : a ≤ p) (hp : p ≤ l.length) :
    runF nm l a = if p = a ∧ p = l.length then ([], p, 3) else if p = a ∨ insAt l p = true then ([], p, 4) else ((l.drop a).take (p - a), p, 0) := by
  unfold runF
  rw [h]
  by_cases hpa : p = a
  · subst hpa
    simp
  · have e : a + (p - a) = p := by omega
    have h0 : ¬ (p - a = 0) := by omega
    simp only [e, h0, hpa, false_and, if_false, false_or]
theorem slice_at (l : List UInt8) (a p : Nat) : (⟨l.toArray⟩ : ByteArray).extract a p = ⟨((l.drop a).take (p - a)).toArray⟩ := cut_eq l a p

set_option maxRecDepth 100000 in
set_option maxHeartbeats 8000000 in
theorem run_any (nm : Bool) (l : List UInt8) (a : Nat) (w : World) (hl : l.length ≤ 300) (ha : a ≤ l.length) :
    Calls Try.prog 83 #[strV l, .int .i64 (a : Int), .bool nm] w (RunsTo w (runF nm l a)) := by
  obtain ⟨ok, hok⟩ : ∃ ok, (if nm = true then okName else okVal) = ok := ⟨_, rfl⟩
  have Hok := Lib.hid hok
  clear hok
  go_enter Try.func83, Try.ntmps83
  go_wp2
  go_loop [1] (fun t => ∃ p : Nat, a ≤ p ∧ p ≤ l.length ∧ p - a ≤ 15 ∧ t = .int .i64 p ∧ spanF ok (l.drop p) (p - a) = wordL ok l a) (fun t => l.length - (intOf t).toNat)
  case atStart => exact ⟨a, by omega, ha, by omega, rfl, by rw [Nat.sub_self]; rfl⟩
  case round =>
    obtain ⟨p, hap, hpl, hp15, rfl, hsp⟩ := hrel
    have Hsp := Lib.hid hsp
    clear hsp
    have p0 : (0 : Int) ≤ (p : Int) := by omega
    have a0 : (0 : Int) ≤ (a : Int) := by omega
    have pa : (a : Int) ≤ (p : Int) := by omega
    by_cases hlt : p < l.length
    · have hlti : (p : Int) < (l.length : Int) := by omega
      have hd : l.drop p = l[p] :: l.drop (p + 1) := List.drop_eq_getElem_cons hlt
      have Hstep : Hid (spanF ok (l.drop p) (p - a) = if p - a = 15 ∨ ok (p - a) (l[p]).toNat = false then p - a else spanF ok (l.drop (p + 1)) (p - a + 1)) := by
        show spanF ok (l.drop p) (p - a) = _
        rw [hd, spanF]
      have Hins : Hid (insAt l p = insB (l[p]).toNat) := by
        show insAt l p = _
        unfold insAt
        rw [List.getElem?_eq_getElem hlt]
      clear hd
      have KI := Lib.hid (fun w => rinside_any (l[p]) w)
      have KL := Lib.hid (fun w => rletter_any (l[p]) w)
      have okF : insB (l[p]).toNat = false → ok (p - a) (l[p]).toNat = false := fun h => by
        rw [← Hok.out]
        unfold insB at h
        rw [Bool.or_eq_false_iff] at h
        split
        · unfold okName; rw [h.1, h.2]; simp
        · unfold okVal; rw [h.1, h.2]; rfl
      have okT : insB (l[p]).toNat = true → 0 < p - a → ok (p - a) (l[p]).toNat = true := fun h h0 => by
        rw [← Hok.out]
        unfold insB at h
        split
        · unfold okName; simp only [h0, decide_true, Bool.true_and]; exact h
        · exact h
      have okV : insB (l[p]).toNat = true → nm = false → ok (p - a) (l[p]).toNat = true := fun h h0 => by
        rw [← Hok.out, h0]
        exact h
      have okL : nm = true → p = a → ok (p - a) (l[p]).toNat = letB (l[p]).toNat := fun h h0 => by
        rw [← Hok.out, if_pos h, show p - a = 0 by omega]
        unfold okName
        simp
      have stop : ∀ h : (p - a = 15 ∨ ok (p - a) (l[p]).toNat = false), wordL (if nm = true then okName else okVal) l a = p - a := fun h => by
        rw [Hok.out, ← Hsp.out, Hstep.out, if_pos h]
      have OkF := Lib.hid okF
      have OkT := Lib.hid okT
      have OkV := Lib.hid okV
      have OkL := Lib.hid okL
      have Stop := Lib.hid stop
      clear okF okT okV okL stop
      cases hin : insB (l[p]).toNat
      · have HR := Lib.hid (run_word (Stop.out (.inr (OkF.out hin))) hap hpl)
        rw [hin] at KI
        have Hin := Lib.hid hin
        clear hin
        by_cases he : p = a
        · have heb : ((p : Int) == (a : Int)) = true := by simp; omega
          have hgt : decide (a < p) = false := by simp; omega
          have E : Hid (runF nm l a = ([], p, 4)) := by show runF nm l a = _; rw [HR.out, if_neg (by omega), if_pos (.inl he)]
          have hnl : ((p : Int) == (l.length : Int)) = false := by simp; omega
          have He := Lib.hid he
          clear he
          go_wp2_with (first | (go_at_call 87; refine (KI.out _).mono ?_; rintro e w1 ⟨rfl, rfl⟩) | (go_at_call 88; refine (KL.out _).mono ?_; rintro e w1 ⟨rfl, rfl⟩))
          go_ret3
          rw [E.out]
          exact ⟨rfl, rfl⟩
        · have heb : ((p : Int) == (a : Int)) = false := by simp; omega
          have hgt : decide (a < p) = true := by simp; omega
          have E : Hid (runF nm l a = ((l.drop a).take (p - a), p, 0)) := by
            show runF nm l a = _
            rw [HR.out, if_neg (by omega), if_neg (by rw [Hins.out, Hin.out]; simp; exact he)]
          have He := Lib.hid he
          clear he
          go_wp2_with (first | (go_at_call 87; refine (KI.out _).mono ?_; rintro e w1 ⟨rfl, rfl⟩) | (go_at_call 88; refine (KL.out _).mono ?_; rintro e w1 ⟨rfl, rfl⟩))
          go_ret3
          rw [E.out]
          exact ⟨by rw [slice_at]; rfl, rfl⟩
      · rw [hin] at KI
        by_cases he : p = a
        · have heb : ((p : Int) == (a : Int)) = true := by simp; omega
          have hgt : decide (a < p) = false := by simp; omega
          have hnl : ((p : Int) == (l.length : Int)) = false := by simp; omega
          have h15 : (p : Int) < (a : Int) + 15 := by omega
          have h15n : p - a ≠ 15 := by omega
          cases nm
          · have hk := OkV.out hin rfl
            have Hk := Lib.hid hk
            have He := Lib.hid he
            clear hk hin he
            go_wp2_with (first | (go_at_call 87; refine (KI.out _).mono ?_; rintro e w1 ⟨rfl, rfl⟩) | (go_at_call 88; refine (KL.out _).mono ?_; rintro e w1 ⟨rfl, rfl⟩))
            go_round
            case rel =>
              refine ⟨p + 1, by omega, by omega, by omega, by go_num, ?_⟩
              have hh : ¬ (p - a = 15 ∨ ok (p - a) (l[p]).toNat = false) := by
                rintro (h | h)
                · omega
                · rw [Hk.out] at h; cases h
              rw [← Hsp.out, Hstep.out, if_neg hh, show p + 1 - a = p - a + 1 by omega]
            case measure => simp [intOf]; omega
          · cases hlet : letB (l[p]).toNat
            · have hk := OkL.out rfl he
              rw [hlet] at hk KL
              have HR := Lib.hid (run_word (Stop.out (.inr hk)) hap hpl)
              have E : Hid (runF true l a = ([], p, 4)) := by show runF true l a = _; rw [HR.out, if_neg (by omega), if_pos (.inl he)]
              have He := Lib.hid he
              clear hk hin he hlet
              go_wp2_with (first | (go_at_call 87; refine (KI.out _).mono ?_; rintro e w1 ⟨rfl, rfl⟩) | (go_at_call 88; refine (KL.out _).mono ?_; rintro e w1 ⟨rfl, rfl⟩))
              go_ret3
              rw [E.out]
              exact ⟨rfl, rfl⟩
            · have hk := OkL.out rfl he
              rw [hlet] at hk KL
              have Hk := Lib.hid hk
              have He := Lib.hid he
              clear hk hin he hlet
              go_wp2_with (first | (go_at_call 87; refine (KI.out _).mono ?_; rintro e w1 ⟨rfl, rfl⟩) | (go_at_call 88; refine (KL.out _).mono ?_; rintro e w1 ⟨rfl, rfl⟩))
              go_round
              case rel =>
                refine ⟨p + 1, by omega, by omega, by omega, by go_num, ?_⟩
                have hh : ¬ (p - a = 15 ∨ ok (p - a) (l[p]).toNat = false) := by
                  rintro (h | h)
                  · omega
                  · rw [Hk.out] at h; cases h
                rw [← Hsp.out, Hstep.out, if_neg hh, show p + 1 - a = p - a + 1 by omega]
              case measure => simp [intOf]; omega
        · have heb : ((p : Int) == (a : Int)) = false := by simp; omega
          have hgt : decide (a < p) = true := by simp; omega
          by_cases h5 : p - a = 15
          · have h15 : ¬ (p : Int) < (a : Int) + 15 := by omega
            have h15b : (a : Int) + 15 ≤ (p : Int) := by omega
            have HR := Lib.hid (run_word (Stop.out (.inl h5)) hap hpl)
            have E : Hid (runF nm l a = ([], p, 4)) := by
              show runF nm l a = _
              rw [HR.out, if_neg (by omega), if_pos (.inr (by rw [Hins.out, hin]))]
            have H5 := Lib.hid h5
            have He := Lib.hid he
            clear hin h5 he
            go_wp2_with (first | (go_at_call 87; refine (KI.out _).mono ?_; rintro e w1 ⟨rfl, rfl⟩) | (go_at_call 88; refine (KL.out _).mono ?_; rintro e w1 ⟨rfl, rfl⟩))
            go_ret3
            rw [E.out]
            exact ⟨rfl, rfl⟩
          · have h15 : (p : Int) < (a : Int) + 15 := by omega
            have hk := OkT.out hin (by omega)
            have Hk := Lib.hid hk
            have He := Lib.hid he
            clear hk hin he
            go_wp2_with (first | (go_at_call 87; refine (KI.out _).mono ?_; rintro e w1 ⟨rfl, rfl⟩) | (go_at_call 88; refine (KL.out _).mono ?_; rintro e w1 ⟨rfl, rfl⟩))
            go_round
            case rel =>
              refine ⟨p + 1, by omega, by omega, by omega, by go_num, ?_⟩
              have hh : ¬ (p - a = 15 ∨ ok (p - a) (l[p]).toNat = false) := by
                rintro (h | h)
                · omega
                · rw [Hk.out] at h; cases h
              rw [← Hsp.out, Hstep.out, if_neg hh, show p + 1 - a = p - a + 1 by omega]
            case measure => simp [intOf]; omega
    · obtain rfl : p = l.length := by omega
      have Hw : Hid (wordL (if nm = true then okName else okVal) l a = l.length - a) := by
        show wordL _ l a = _
        rw [Hok.out, ← Hsp.out, List.drop_eq_nil_of_le (Nat.le_refl _), spanF]
      have HR := Lib.hid (run_word Hw.out hap (Nat.le_refl _))
      by_cases he : l.length = a
      · have heb : ((l.length : Int) == (a : Int)) = true := by simp; omega
        have hebn : (l.length == a) = true := by simpa using he
        have E : Hid (runF nm l a = ([], l.length, 3)) := by show runF nm l a = _; rw [HR.out, if_pos ⟨he, rfl⟩]
        have He := Lib.hid he
        clear he
        go_wp2
        go_ret3
        rw [E.out]
        exact ⟨rfl, rfl⟩
      · have heb : ((l.length : Int) == (a : Int)) = false := by simp; omega
        have hebn : (l.length == a) = false := by simpa using he
        have E : Hid (runF nm l a = ((l.drop a).take (l.length - a), l.length, 0)) := by
          show runF nm l a = _
          rw [HR.out, if_neg (fun h => he h.1), if_neg]
          rintro (h | h)
          · exact he h
          · unfold insAt at h
            rw [List.getElem?_eq_none (Nat.le_refl _)] at h
            cases h
        have He := Lib.hid he
        clear he
        go_wp2
        go_ret3
        rw [E.out]
        exact ⟨by rw [slice_at]; rfl, rfl⟩

end Go.Proofs.Ytepmmcalnkchdaa
