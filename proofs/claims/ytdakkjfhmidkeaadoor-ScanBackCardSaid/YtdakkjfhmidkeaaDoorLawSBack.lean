/- Words of what Quote makes are just one string, with that text: the walk. Condition: the tables of UTF-8 lie as they were laid. -/
import Derived.Test.YtdakkjfhmidkeaaDoorLawSQuotes
import Derived.Test.YtdakkjfhmidkeaaDoorSBackN
namespace Go.Proofs.YtdakkjfhmidkeaaDoor
open Go.RowKit

/-- Is it no UTF-8, or does a rune stand among the first k bytes that can't? -/
def oddK (l : List UInt8) (k : Nat) : Bool := !Lib.validD l || (l.take k).any (fun b => decide (b.toNat < 32 ∧ b.toNat ≠ 10))
theorem odd_step (l : List UInt8) (k : Nat) (x : UInt8) (hx : l[k]? = some x) : oddK l (k + 1) = (oddK l k || decide (x.toNat < 32 ∧ x.toNat ≠ 10)) := by
  unfold oddK
  rw [List.take_add_one, hx]
  simp [List.any_append, Bool.or_assoc]
theorem odd_yes (l : List UInt8) (h : oddK l l.length = true) : quoteF l = ([], 4) := by
  unfold quoteF
  cases hv : Lib.validD l
  · rfl
  · rw [if_neg (by simp)]
    unfold oddK at h
    rw [hv, List.take_length] at h
    simp only [Bool.not_true, Bool.false_or, List.any_eq_true, decide_eq_true_eq] at h
    have := (quo_none l (l.length + 1) 0 [34] (by omega) (by omega) hv).2 h
    rw [this]
theorem odd_no (l : List UInt8) (h : oddK l l.length = false) : Lib.validD l = true ∧ ∃ t, quoteF l = (t, 0) ∧ quoF l (l.length + 1) 0 [34] = some t := by
  unfold oddK at h
  rw [List.take_length] at h
  simp only [Bool.or_eq_false_iff, Bool.not_eq_false'] at h
  obtain ⟨hv, hb⟩ := h
  refine ⟨hv, ?_⟩
  cases hq : quoF l (l.length + 1) 0 [34] with
  | none =>
    obtain ⟨b, h1, h2⟩ := (quo_none l (l.length + 1) 0 [34] (by omega) (by omega) hv).1 hq
    have := List.any_eq_false.1 hb b h1
    simp at this
    exact absurd (this h2.1) h2.2
  | some t =>
    refine ⟨t, ?_, rfl⟩
    unfold quoteF
    rw [if_neg (by rw [hv]; simp), hq]

set_option maxRecDepth 100000 in
set_option maxHeartbeats 8000000 in
theorem back_any (s : ByteArray) (w : World) (hs : s.size ≤ 9223372036854775807) (hT : Utab w) :
    Calls Tryd.prog 5 #[.string s] w fun e w' => e = .returned (.bool true) ∧ Below w.heap.size w w' := by
  have HT := Lib.hid hT
  clear hT
  go_enter Tryd.func5, Tryd.ntmps5
  go_upto_region 2 with fail
  obtain ⟨l, hl, e⟩ := short_q s (min (s.size : Int) 400).toNat (by omega)
  rw [e]
  clear e
  have KQ : Hid (∀ w, Utab w → Calls Tryd.prog 15 #[strV l] w fun e w' => e = .returned (.tuple #[strV (quoteF l).1, .int .i64 (quoteF l).2]) ∧ Below w.heap.size w w') := Lib.hid (fun w h => quote_any l w (by omega) h)
  have KV : Hid (∀ w, Utab w → Calls Tryd.prog 17 #[strV l] w fun e w' => e = .returned (.bool (Lib.validD l)) ∧ Below w.heap.size w w') := Lib.hid (fun w h => Tryd.utf8_ValidString ⟨l.toArray⟩ w (by
    show l.toArray.size ≤ _
    simp
    omega) h)
  go_wp2_with fail
  refine (KQ.out _ HT.out).mono ?_
  rintro e w1 ⟨rfl, hb⟩
  have B1 := Lib.hid hb
  clear hb KQ
  go_wp2_with fail
  refine (KV.out _ (HT.out.below B1.out)).mono ?_
  rintro e w2 ⟨rfl, hb⟩
  have B2 := Lib.hid (B1.out.trans (hb.mono B1.out.size))
  clear hb KV
  go_wp2_with fail
  go_loopw [5, 6] (fun o i wr => ∃ k : Nat, k ≤ l.length ∧ i = .int .i64 k ∧ o = .bool (oddK l k) ∧ Below w2.heap.size w2 wr) (fun _ i _ => l.length - (intOf i).toNat)
  case atStart => exact ⟨0, by omega, rfl, by simp [oddK], Below.refl _ _⟩
  case round =>
    obtain ⟨k, hk, rfl, rfl, hbw⟩ := hrel
    have HB := Lib.hid hbw
    clear hbw
    by_cases hlt : k < l.length
    · have Hstep := Lib.hid (odd_step l k l[k] (List.getElem?_eq_getElem hlt))
      have h0 : (0 : Int) ≤ (k : Int) := by omega
      have h1 : (k : Int) < (l.length : Int) := by omega
      cases ho : oddK l k
      · rw [ho] at Hstep
        simp only [Bool.false_or] at Hstep
        clear ho
        go_wp2
        all_goals
          rename_i h
          go_roundw
          case rel =>
            refine ⟨k + 1, by omega, by go_num, ?_, HB.out⟩
            rw [Hstep.out]
            refine congrArg Value.bool ?_
            first
              | (have h' : ((l[k].toNat : Nat) : Int) < 32 := h
                 show (((l[k].toNat : Nat) : Int) != 10) = _
                 rw [Bool.eq_iff_iff]
                 simp
                 omega)
              | (have h' : ¬ ((l[k].toNat : Nat) : Int) < 32 := h
                 show false = _
                 simp
                 omega)
          case measure => simp [intOf]; omega
      · rw [ho] at Hstep
        simp only [Bool.true_or] at Hstep
        clear ho
        go_wp2
        go_roundw
        case rel => exact ⟨k + 1, by omega, by go_num, by rw [Hstep.out], HB.out⟩
        case measure => simp [intOf]; omega
    · obtain rfl : k = l.length := by omega
      cases ho : oddK l l.length
      · obtain ⟨hv, t, hq, hqt⟩ := odd_no l ho
        obtain ⟨kk, hkw⟩ := back_words l t hl hv hqt
        have hlen := quo_long l _ 0 _ t (by omega) hqt
        have KW := Lib.hid (fun w => words_any (32 :: (t ++ [59])) w (by simp; simp at hlen; omega))
        rw [hkw] at KW
        rw [hq]
        simp only
        have q0 : t.length ≤ 1700 := by simp at hlen; omega
        have Hj : Hid ((⟨#[32]⟩ : ByteArray) ++ ⟨t.toArray⟩ ++ ⟨#[59]⟩ = ⟨(32 :: (t ++ [59])).toArray⟩) := Lib.hid (by
          have h1 := join_baR [32] t
          have h2 := join_baR (32 :: t) [59]
          simp only [List.cons_append, List.nil_append] at h1 h2
          rw [← h2, ← h1])
        clear ho hv hq hqt hkw hlen
        go_wp2_with fail
        rw [Hj.out]
        refine (KW.out _).mono ?_
        rintro e w3 ⟨v, rfl, ho, hb⟩
        have ho1 : w3.ownsRow wr.heap.size 35 4 v 2 (cellsW [(3, l, 1, 2), (4, [59], 1, kk)]) := ho
        obtain ⟨gb, cb, rfl, _, _, hcb, hcbm, hcl⟩ := own_cells ho1 (by decide)
        have B3 := Lib.hid ((B2.out.trans (HB.out.mono B2.out.size)).trans (hb.mono (B2.out.trans (HB.out.mono B2.out.size)).size))
        have z0 : w3.cell? ⟨gb, 0, none⟩ = some (.int .i64 3) := hcl 0 _ rfl
        have z1 : w3.cell? ⟨gb, 1, none⟩ = some (strV l) := hcl 1 _ rfl
        have z2 : w3.cell? ⟨gb, 2, none⟩ = some (.int .i64 1) := hcl 2 _ rfl
        have z3 : w3.cell? ⟨gb, 3, none⟩ = some (.int .i64 2) := hcl 3 _ rfl
        have z4 : w3.cell? ⟨gb, 4, none⟩ = some (.int .i64 4) := hcl 4 _ rfl
        have z5 : w3.cell? ⟨gb, 5, none⟩ = some (strV [59]) := hcl 5 _ rfl
        have z6 : w3.cell? ⟨gb, 6, none⟩ = some (.int .i64 1) := hcl 6 _ rfl
        have z7 : w3.cell? ⟨gb, 7, none⟩ = some (.int .i64 (kk : Int)) := hcl 7 _ rfl
        have hq := fun w => eq_wor (3, l, 1, 2) w
        have hgd := wor_guard
        simp only
        clear ho ho1 hb hcb hcbm KW hcl
        go_wp2_with fail
        refine (works_any _).mono ?_
        rintro e w4 ⟨rfl, hb⟩
        have B4 := Lib.hid (B3.out.trans (hb.mono B3.out.size))
        clear hb z0 z1 z2 z3 z4 z5 z6 z7 hq hgd
        go_wp2
        go_ret
        exact ⟨rfl, B4.out⟩
      · rw [odd_yes l ho]
        simp only
        clear ho
        go_wp2_with fail
        refine (works_any _).mono ?_
        rintro e w3 ⟨rfl, hb⟩
        have B3 := Lib.hid (B2.out.trans (HB.out.mono B2.out.size))
        have B4 := Lib.hid (B3.out.trans (hb.mono B3.out.size))
        clear hb
        go_wp2
        go_ret
        exact ⟨rfl, B4.out⟩
end Go.Proofs.YtdakkjfhmidkeaaDoor
