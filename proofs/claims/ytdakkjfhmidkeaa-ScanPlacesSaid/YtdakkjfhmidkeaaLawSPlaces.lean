/- Words are told as they stand: the walk. Condition: the numbers lie in memory. -/
import Derived.Test.YtdakkjfhmidkeaaSSpelt
import Derived.Test.YtdakkjfhmidkeaaSWorks
namespace Go.Proofs.Ytdakkjfhmidkeaa
open Go.RowKit

set_option maxRecDepth 100000 in
set_option maxHeartbeats 8000000 in
theorem places_any (A : Option Addr) (c : Nat) (l : List Int) (w : World) (hc : l.length ≤ c) (hcm : c ≤ maxLen) (hs : SlAt w A (cellsI l)) :
    Calls Try.prog 3 #[.slice A l.length c] w fun e w' => e = .returned (.bool true) ∧ Below w.heap.size w w' := by
  have HS := Lib.hid hs
  have hl60 : (l.take 60).length ≤ 60 := List.length_take_le _ _
  obtain ⟨s1, s2, _, _, _, s6⟩ := sp_len (l.take 60)
  have hwl : (spF (l.take 60)).2.1.length ≤ 60 := by omega
  have htl : (spF (l.take 60)).1.length ≤ 65536 := by omega
  have KS := Lib.hid (fun w (hs : SlAt w A (cellsI l)) => spelt_any A c l w hc hcm hs)
  have KW : Hid (∀ w, Calls Try.prog 6 #[strV (spF (l.take 60)).1] w (WordsR w ((spF (l.take 60)).2.1, 0, 0, 0))) := Lib.hid (fun w => by
    rw [← sp_words (l.take 60) htl]
    exact words_any _ w (by omega))
  clear hs hl60 s1 s2 htl
  generalize spF (l.take 60) = R at hwl KS KW s6
  obtain ⟨t, ws, _, _⟩ := R
  simp only at hwl KS KW s6
  have HP := Lib.hid s6
  clear s6
  go_enter Try.func3, Try.ntmps3
  go_wp2_with fail
  refine (works_any _).mono ?_
  rintro e w1 ⟨rfl, hb⟩
  have B1 := Lib.hid hb
  have S1 := Lib.hid (HS.out.below hb)
  clear hb
  go_wp2_with fail
  refine (KS.out _ S1.out).mono ?_
  rintro e w2 ⟨v, rfl, ho, hb⟩
  obtain ⟨A2, c2, rfl, hc2, hm2⟩ := own_sliceS ho
  have W2 := Lib.hid (own_slat ho)
  have B2 := Lib.hid (B1.out.trans (hb.mono B1.out.size))
  clear ho hb
  go_wp2_with fail
  refine (KW.out _).mono ?_
  rintro e w3 ⟨v, rfl, ho, hb⟩
  simp only at ho
  obtain ⟨A3, c3, rfl, hc3, hm3⟩ := own_sliceS ho
  have W3 := Lib.hid (own_slat ho)
  replace W2 := Lib.hid (W2.out.below hb)
  have B3 := Lib.hid (B2.out.trans (hb.mono B2.out.size))
  clear ho hb KS KW S1
  unfold maxLen at hm2 hm3
  go_wp2_with fail
  go_loopw [9] (fun i wr => ∃ k : Nat, k ≤ ws.length ∧ i = .int .i64 k ∧ Below w3.heap.size w3 wr) (fun i _ => ws.length - (intOf i).toNat)
  case atStart => exact ⟨0, by omega, rfl, Below.refl _ _⟩
  case round =>
    obtain ⟨i, hi, rfl, hbw⟩ := hrel
    have HB := Lib.hid hbw
    clear hbw
    by_cases hlt : i < ws.length
    · obtain ⟨x, hx⟩ : ∃ x, ws[i]? = some x := ⟨ws[i], List.getElem?_eq_getElem hlt⟩
      obtain ⟨b2, o2, hA2, hb2, y0, y1, y2, y3⟩ := SlAt.wor (W2.out.below HB.out) hx
      obtain ⟨b3, o3, hA3, hb3, z0, z1, z2, z3⟩ := SlAt.wor (W3.out.below HB.out) hx
      subst hA2 hA3
      have hq := fun w => eq_wor x w
      have hgd := wor_guard
      have k0 : (0 : Int) ≤ (i : Int) := by omega
      have k1 : (i : Int) < (ws.length : Int) := by omega
      have HX := Lib.hid hx
      clear hx
      go_wp2_with fail
      go_quiet (fail)
      go_wp2_with fail
      have HB4 := Lib.hid (belowN HB.out nq)
      generalize wr.drewN nq = w4 at HB4 ⊢
      clear HB y0 y1 y2 y3 z0 z1 z2 z3 hb2 hb3 hq hgd
      go_loopw [10, 11] (fun n k wr => ∃ d : Nat, i + d ≤ ws.length ∧ k = .int .i64 ((i + d : Nat) : Int) ∧ n = .int .i64 (d : Int) ∧ (∀ j y, i ≤ j → j < i + d → ws[j]? = some y → y.2.2.1 = x.2.2.1) ∧ Below w3.heap.size w3 wr) (fun _ k _ => ws.length - (intOf k).toNat)
      case atStart => exact ⟨0, by omega, rfl, rfl, fun j y h1 h2 => by omega, HB4.out⟩
      case round =>
        obtain ⟨d, hd, rfl, rfl, hall, hbw⟩ := hrel
        have HB := Lib.hid hbw
        have HAll := Lib.hid hall
        have KL := Lib.hid (line_any (some ⟨b3, o3, none⟩) c3 i ws)
        clear hbw hall
        have d0 : (0 : Int) ≤ ((i + d : Nat) : Int) := by omega
        have e0 : (0 : Int) ≤ (d : Int) := by omega
        by_cases hlt2 : i + d < ws.length
        · obtain ⟨y, hy⟩ : ∃ y, ws[i + d]? = some y := ⟨ws[i + d], List.getElem?_eq_getElem hlt2⟩
          obtain ⟨_, _, _, u2, _⟩ := slat_at (W2.out.below HB.out) rfl hy
          obtain ⟨_, _, _, v2, _⟩ := slat_at (W2.out.below HB.out) rfl HX.out
          have d1 : ((i + d : Nat) : Int) < (ws.length : Int) := by omega
          have HY := Lib.hid hy
          obtain ⟨m, hm⟩ : ∃ m, i + d = m := ⟨_, rfl⟩
          rw [hm] at d0 d1 u2 hd ⊢
          have HM := Lib.hid hm
          clear hy hm
          by_cases hq : y.2.2.1 = x.2.2.1
          · have hqb : ((y.2.2.1 : Int) == (x.2.2.1 : Int)) = true := by simp [hq]
            have HQ := Lib.hid hq
            clear hq
            go_wp2_with fail
            go_quiet (fail)
            go_wp2
            go_roundw
            case rel =>
              have hm := HM.out
              refine ⟨d + 1, by omega, by rw [← hm]; go_num, by go_num, ?_, belowN HB.out _⟩
              intro j z h1 h2 hz
              by_cases hj : j < i + d
              · exact HAll.out j z h1 hj hz
              · obtain rfl : j = i + d := by omega
                rw [HY.out] at hz
                cases hz
                exact HQ.out
            case measure =>
              have hm := HM.out
              simp [intOf]
              omega
          · have hqb : ((y.2.2.1 : Int) == (x.2.2.1 : Int)) = false := by simp; omega
            have hL : lineF ws i = d := by
              have hm := HM.out
              have := line_run ws HP.out i (i + d) x HX.out (by omega) (by omega) HAll.out (fun z hz => by
                rw [HY.out] at hz
                cases hz
                exact hq)
              omega
            rw [hL] at KL
            have HQ := Lib.hid hq
            clear hq hL
            go_wp2_with fail
            go_quiet (fail)
            go_wp2_with fail
            refine (KL.out _ hc3 (by unfold maxLen; omega) (by omega) (W3.out.below (belowN HB.out _))).mono ?_
            rintro e w5 ⟨rfl, hb⟩
            have B5 := Lib.hid ((belowN HB.out _).trans (hb.mono (belowN HB.out _).size))
            clear hb KL
            go_wp2
            go_roundw
            case rel => exact ⟨i + 1, by omega, by go_num, B5.out⟩
            case measure => simp [intOf]; omega
        · obtain ⟨m, hm⟩ : ∃ m, i + d = m := ⟨_, rfl⟩
          rw [hm] at d0 hd ⊢
          have hL : lineF ws i = d := by
            have := line_run ws HP.out i (i + d) x HX.out (by omega) (by omega) HAll.out (fun z hz => by
              rw [List.getElem?_eq_none (by omega)] at hz
              cases hz)
            omega
          obtain rfl : m = ws.length := by omega
          rw [hL] at KL
          have HM := Lib.hid hm
          clear hL hm
          go_wp2_with fail
          go_quiet (fail)
          go_wp2_with fail
          refine (KL.out _ hc3 (by unfold maxLen; omega) (by omega) (W3.out.below (belowN HB.out _))).mono ?_
          rintro e w5 ⟨rfl, hb⟩
          have B5 := Lib.hid ((belowN HB.out _).trans (hb.mono (belowN HB.out _).size))
          clear hb KL
          go_wp2
          go_roundw
          case rel => exact ⟨i + 1, by omega, by go_num, B5.out⟩
          case measure => simp [intOf]; omega
    · obtain rfl : i = ws.length := by omega
      have KL := Lib.hid (line_any A3 c3 ws.length ws wr hc3 (by unfold maxLen; omega) (by omega) (W3.out.below HB.out))
      have e0 : lineF ws ws.length = 0 := by
        unfold lineF
        rw [List.getElem?_eq_none (Nat.le_refl _)]
      rw [e0] at KL
      clear e0
      go_wp2_with fail
      refine KL.out.mono ?_
      rintro e w5 ⟨rfl, hb⟩
      have B5 := Lib.hid ((B3.out.trans (HB.out.mono B3.out.size)).trans (hb.mono (B3.out.trans (HB.out.mono B3.out.size)).size))
      clear hb KL
      go_wp2
      go_ret
      exact ⟨rfl, B5.out⟩
end Go.Proofs.Ytdakkjfhmidkeaa
