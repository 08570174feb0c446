/- Words and Line answer as the chapter says: the walk. Condition: the tables of UTF-8 lie as they were laid. -/
import Derived.Test.YtdiighpmgfbmaaaDoorLawSQuotes
import Derived.Test.YtdiighpmgfbmaaaDoorSRefF
import Derived.Test.YtdiighpmgfbmaaaDoorSRefH
namespace Go.Proofs.YtdiighpmgfbmaaaDoor
open Go.RowKit

set_option maxRecDepth 100000 in
set_option maxHeartbeats 8000000 in
theorem swords_any (s : ByteArray) (fr : Int) (w : World) (hs : s.size ≤ 9223372036854775807) (h1 : -9223372036854775808 ≤ fr) (h2 : fr ≤ 9223372036854775807) (hT : Utab w) :
    Calls Tryd.prog 3 #[.string s, .int .i64 fr] w fun e w' => e = .returned (.bool true) ∧ Below w.heap.size w w' := by
  have HT := Lib.hid hT
  clear hT
  go_enter Tryd.func3, Tryd.ntmps3
  go_upto_region 2 with fail
  obtain ⟨l, hl, e⟩ := short_q s (min (s.size : Int) 400).toNat (by omega)
  rw [e]
  clear e
  have hri := words_rise l
  have hlen := words_len l
  rcases hW : wordsF l with ⟨ws, x, y, e0⟩
  rw [hW] at hri hlen
  simp only at hri hlen
  have KW : Hid (∀ w, Calls Tryd.prog 6 #[strV l] w (WordsR w (ws, x, y, e0))) := Lib.hid (fun w => by rw [← hW]; exact words_any l w (by omega))
  have KD : Hid (∀ w, Utab w → Calls Tryd.prog 7 #[strV l] w (WordsR w (ws, x, y, e0))) := Lib.hid (fun w h => by rw [← hW]; exact rwords_any l w (by omega) h)
  have HRi := Lib.hid hri
  have hwl : ws.length ≤ 1000 := by omega
  have x1 : ((x : Int) != (x : Int)) = false := by simp
  have y1 : ((y : Int) != (y : Int)) = false := by simp
  have z1 : (e0 != e0) = false := by simp
  clear hW hri hlen
  go_wp2_with fail
  refine (KW.out _).mono ?_
  rintro e w1 ⟨v, rfl, ho, hb⟩
  simp only at ho
  obtain ⟨A1, c1, rfl, hc1, hm1⟩ := own_sliceS ho
  have W1 := Lib.hid (own_slat ho)
  have B1 := Lib.hid hb
  clear ho hb KW
  simp only
  go_wp2_with fail
  refine (KD.out _ (HT.out.below B1.out)).mono ?_
  rintro e w2 ⟨v, rfl, ho, hb⟩
  simp only at ho
  obtain ⟨A2, c2, rfl, hc2, hm2⟩ := own_sliceS ho
  have W2 := Lib.hid (own_slat ho)
  replace W1 := Lib.hid (W1.out.below hb)
  have B2 := Lib.hid (B1.out.trans (hb.mono B1.out.size))
  clear ho hb KD
  simp only
  have KS := Lib.hid (same_any A1 A2 c1 c2 ws w2 hc1 hm1 hc2 hm2 W1.out W2.out)
  go_wp2_with fail
  refine KS.out.mono ?_
  rintro e w3 ⟨rfl, hb⟩
  replace W1 := Lib.hid (W1.out.below hb)
  replace W2 := Lib.hid (W2.out.below hb)
  have B3 := Lib.hid (B2.out.trans (hb.mono B2.out.size))
  clear hb KS
  have KL1 := Lib.hid (fun (at0 : Int) w (h : SlAt w A1 (cellsW ws)) => lineI_any A1 c1 at0 ws w hc1 hm1 (by omega) h)
  have KL2 := Lib.hid (fun (at0 : Int) (ha : at0 ≤ 9223372036854775807) w (h : SlAt w A2 (cellsW ws)) => rlineI_any A2 c2 at0 ws w hc2 hm2 (by omega) ha HRi.out h)
  have hcm1 := hc1
  unfold maxLen at hm1 hm2
  go_wp2_with fail
  · have hn : (0 : Int) < (ws.length : Int) := by omega
    have m1 := Int.emod_nonneg fr (show (ws.length : Int) ≠ 0 by omega)
    have m2 := Int.emod_lt_of_pos fr hn
    refine (bring_any fr ws.length w3 hn (by omega)).mono ?_
    rintro e w3' ⟨rfl, rfl⟩
    generalize fr % (ws.length : Int) = at0 at m1 m2 ⊢
    go_wp2_with fail
    refine (KL1.out _ _ W1.out).mono ?_
    rintro e w4 ⟨rfl, hb⟩
    replace W2 := Lib.hid (W2.out.below hb)
    have B4 := Lib.hid (B3.out.trans (hb.mono B3.out.size))
    clear hb KL1 W1
    go_wp2_with fail
    refine (KL2.out _ (by omega) _ W2.out).mono ?_
    rintro e w5 ⟨rfl, hb⟩
    have B5 := Lib.hid (B4.out.trans (hb.mono B4.out.size))
    clear hb KL2 W2
    go_wp2_with fail
    refine (works_any _).mono ?_
    rintro e w6 ⟨rfl, hb⟩
    have B6 := Lib.hid (B5.out.trans (hb.mono B5.out.size))
    clear hb
    go_wp2
    go_ret
    exact ⟨rfl, B6.out⟩
  · refine (KL1.out _ _ W1.out).mono ?_
    rintro e w4 ⟨rfl, hb⟩
    replace W2 := Lib.hid (W2.out.below hb)
    have B4 := Lib.hid (B3.out.trans (hb.mono B3.out.size))
    clear hb KL1 W1
    go_wp2_with fail
    refine (KL2.out _ (by omega) _ W2.out).mono ?_
    rintro e w5 ⟨rfl, hb⟩
    have B5 := Lib.hid (B4.out.trans (hb.mono B4.out.size))
    clear hb KL2 W2
    go_wp2_with fail
    refine (works_any _).mono ?_
    rintro e w6 ⟨rfl, hb⟩
    have B6 := Lib.hid (B5.out.trans (hb.mono B5.out.size))
    clear hb
    go_wp2
    go_ret
    exact ⟨rfl, B6.out⟩
  · refine (KL1.out _ _ W1.out).mono ?_
    rintro e w4 ⟨rfl, hb⟩
    replace W2 := Lib.hid (W2.out.below hb)
    have B4 := Lib.hid (B3.out.trans (hb.mono B3.out.size))
    clear hb KL1 W1
    go_wp2_with fail
    refine (KL2.out _ (by omega) _ W2.out).mono ?_
    rintro e w5 ⟨rfl, hb⟩
    have B5 := Lib.hid (B4.out.trans (hb.mono B4.out.size))
    clear hb KL2 W2
    go_wp2_with fail
    refine (works_any _).mono ?_
    rintro e w6 ⟨rfl, hb⟩
    have B6 := Lib.hid (B5.out.trans (hb.mono B5.out.size))
    clear hb
    go_wp2
    go_ret
    exact ⟨rfl, B6.out⟩
end Go.Proofs.YtdiighpmgfbmaaaDoor
