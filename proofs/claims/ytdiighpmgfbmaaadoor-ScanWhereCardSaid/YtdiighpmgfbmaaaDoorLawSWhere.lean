/- An error stands in the text, what stands ahead of its line is words, and a byte that is no UTF-8 is never read over: the walk. Condition: the tables of UTF-8 lie as they were laid. -/
import Derived.Test.YtdiighpmgfbmaaaDoorLawSQuotes
import Derived.Test.YtdiighpmgfbmaaaDoorSWhereT
namespace Go.Proofs.YtdiighpmgfbmaaaDoor
open Go.RowKit

theorem cut_front (l : List UInt8) (b : Nat) : (⟨l.toArray⟩ : ByteArray).extract 0 b = ⟨(l.take b).toArray⟩ := by
  rw [cut_mid]
  simp
theorem cnt_step (l : List UInt8) (k : Nat) (x : UInt8) (hx : l[k]? = some x) : cnt (l.take (k + 1)) = cnt (l.take k) + (if x = 10 then 1 else 0) := by
  unfold cnt
  rw [List.take_add_one, hx, List.countP_append]
  by_cases h : x = 10
  · rw [if_pos h]
    subst h
    rfl
  · rw [if_neg h]
    simp [h]
theorem cnt_mono (l : List UInt8) (a b : Nat) (h : a ≤ b) : cnt (l.take a) ≤ cnt (l.take b) := by
  unfold cnt
  have e : l.take b = l.take a ++ (l.take b).drop a := by
    have h1 := List.take_append_drop a (l.take b)
    rw [List.take_take, Nat.min_eq_left h] at h1
    exact h1.symm
  rw [e, List.countP_append]
  omega
theorem cnt_lt (l : List UInt8) (k beg : Nat) (h : k < beg) (hf : beg = 0 ∨ l[beg - 1]? = some 10) : cnt (l.take k) < cnt (l.take beg) := by
  rcases hf with hf | hf
  · omega
  · have h1 := cnt_step l (beg - 1) 10 hf
    rw [if_pos rfl, show beg - 1 + 1 = beg by omega] at h1
    have h2 := cnt_mono l k (beg - 1) (by omega)
    omega
theorem cnt_le (l : List UInt8) (k : Nat) : cnt (l.take k) ≤ l.length := by
  unfold cnt
  exact Nat.le_trans List.countP_le_length (by rw [List.length_take]; omega)
theorem rn_le (u : List UInt8) : rn u ≤ u.length := by
  rw [← rn_count]
  exact Lib.runeCount_le _

set_option maxRecDepth 100000 in
set_option maxHeartbeats 8000000 in
theorem where_any (s : ByteArray) (w : World) (hs : s.size ≤ 9223372036854775807) (hT : Utab w) :
    Calls Tryd.prog 4 #[.string s] w fun e w' => e = .returned (.bool true) ∧ Below w.heap.size w w' := by
  have HT := Lib.hid hT
  clear hT
  go_enter Tryd.func4, Tryd.ntmps4
  go_upto_region 2 with fail
  obtain ⟨l, hl, e⟩ := short_q s (min (s.size : Int) 400).toNat (by omega)
  rw [e]
  clear e
  rcases hW : wordsF l with ⟨ws, x, y, e0⟩
  have KW : Hid (∀ w, Calls Tryd.prog 6 #[strV l] w (WordsR w (ws, x, y, e0))) := Lib.hid (fun w => by rw [← hW]; exact words_any l w (by omega))
  by_cases he : e0 = 0
  · subst he
    obtain ⟨rfl, rfl, hv⟩ : x = 0 ∧ y = 0 ∧ Lib.validD l = true := by
      unfold wordsF at hW
      rw [if_neg (by omega)] at hW
      exact scan_ok l (l.length + 1) 0 rs0 ws x y (by omega) (by omega) hW
    have KV : Hid (∀ w, Utab w → Calls Tryd.prog 13 #[strV l] w fun e w' => e = .returned (.bool true) ∧ Below w.heap.size w w') := Lib.hid (fun w h => by
      have k := Tryd.utf8_ValidString ⟨l.toArray⟩ w (by
        show l.toArray.size ≤ _
        simp
        omega) h
      rw [← hv]
      exact k)
    clear hW hv
    go_wp2_with fail
    refine (KW.out _).mono ?_
    rintro e w1 ⟨v, rfl, ho, hb⟩
    have B1 := Lib.hid hb
    clear hb ho KW
    go_wp2_with fail
    refine (KV.out _ (HT.out.below B1.out)).mono ?_
    rintro e w2 ⟨rfl, hb⟩
    have B2 := Lib.hid (B1.out.trans (hb.mono B1.out.size))
    clear hb KV
    go_wp2_with fail
    refine (works_any _).mono ?_
    rintro e w3 ⟨rfl, hb⟩
    have B3 := Lib.hid (B2.out.trans (hb.mono B2.out.size))
    clear hb
    go_wp2
    go_ret
    exact ⟨rfl, B3.out⟩
  · obtain ⟨beg, en, h1, h2, hx, hf, hn, hen, hfi, hy1, hend⟩ := words_told l (by omega) ws x y e0 hW he
    rcases hW2 : wordsF (l.take beg) with ⟨ws2, x2, y2, e2⟩
    rw [hW2] at hfi
    simp only at hfi
    subst hfi
    have KW2 : Hid (∀ w, Calls Tryd.prog 6 #[strV (l.take beg)] w (WordsR w (ws2, x2, y2, 0))) := Lib.hid (fun w => by rw [← hW2]; exact words_any (l.take beg) w (by rw [List.length_take]; omega))
    have hR : (l.take en).drop beg = (l.drop beg).take (en - beg) := by rw [List.drop_take]
    rw [hR] at hend
    have KR : Hid (∀ w, Calls Tryd.prog 14 #[strV ((l.drop beg).take (en - beg))] w fun e w' => e = .returned (.int .i64 (rn ((l.drop beg).take (en - beg)) : Int)) ∧ ∃ pos, w' = w.iter ⟨((l.drop beg).take (en - beg)).toArray⟩ pos) := Lib.hid (fun w => by
      rw [← rn_count]
      exact Tryd.utf8_RuneCountInString ⟨((l.drop beg).take (en - beg)).toArray⟩ w (by
        show ((l.drop beg).take (en - beg)).toArray.size < _
        simp
        omega))
    have hrl : rn ((l.drop beg).take (en - beg)) ≤ 400 := Nat.le_trans (rn_le _) (by simp; omega)
    generalize rn ((l.drop beg).take (en - beg)) = R at hend KR hrl
    have q0 : (e0 == 0) = false := by simpa using he
    have q0' : (e0 != 0) = true := by simpa using he
    have hcl := cnt_le l beg
    have Hf := Lib.hid hf
    have Hn := Lib.hid hn
    have Hen := Lib.hid hen
    have Hx := Lib.hid hx
    have Hend := Lib.hid hend
    have HE := Lib.hid he
    clear hW hW2 hR hf hn hen hx hend he
    go_wp2_with fail
    refine (KW.out _).mono ?_
    rintro e w1 ⟨v, rfl, ho, hb⟩
    have B1 := Lib.hid hb
    clear hb ho KW
    simp only
    go_wp2_with fail
    go_loopw [7, 8] (fun a n wr => ∃ k : Nat, k ≤ beg ∧ a = .int .i64 k ∧ n = .int .i64 (1 + ((cnt (l.take k) : Nat) : Int)) ∧ Below w1.heap.size w1 wr) (fun a _ _ => l.length - (intOf a).toNat)
    case atStart => exact ⟨0, by omega, rfl, rfl, Below.refl _ _⟩
    case round =>
      obtain ⟨k, hk, rfl, rfl, hbw⟩ := hrel
      have HB := Lib.hid hbw
      clear hbw
      have k0 : (0 : Int) ≤ (k : Int) := by omega
      by_cases hlt : k < beg
      · have hkl : k < l.length := by omega
        have hcm := cnt_lt l k beg hlt Hf.out
        have hst := cnt_step l k l[k] (List.getElem?_eq_getElem hkl)
        have hkb : k < (⟨l.toArray⟩ : ByteArray).size := hkl
        have k1 : (k : Int) < (l.length : Int) := by omega
        have k2 : 1 + ((cnt (l.take k) : Nat) : Int) < (x : Int) := by have := Hx.out; omega
        have k3 : cnt (l.take k) ≤ 400 := by omega
        generalize cnt (l.take k) = C at hcm hst k2 k3 ⊢
        have Hst := Lib.hid hst
        clear hst hcm
        by_cases h10 : l[k] = 10
        · have qb : ((((⟨l.toArray⟩ : ByteArray)[k]'hkb).toNat : Int) == 10) = true := by
            show (((l[k].toNat : Nat) : Int) == 10) = true
            rw [h10]
            rfl
          have H10 := Lib.hid h10
          clear h10
          go_wp2
          all_goals
            go_roundw
            case rel => exact ⟨k + 1, by omega, by go_num, by rw [Hst.out, if_pos H10.out]; exact congrArg _ (by omega), HB.out⟩
            case measure => simp [intOf]; omega
        · have qb : ((((⟨l.toArray⟩ : ByteArray)[k]'hkb).toNat : Int) == 10) = false := by
            show (((l[k].toNat : Nat) : Int) == 10) = false
            rw [beq_eq_false_iff_ne]
            intro e
            exact h10 (UInt8.toNat_inj.1 (show l[k].toNat = (10 : UInt8).toNat from Int.ofNat.inj e))
          have H10 := Lib.hid h10
          clear h10
          go_wp2
          all_goals
            go_roundw
            case rel => exact ⟨k + 1, by omega, by go_num, by rw [Hst.out, if_neg H10.out, Nat.add_zero], HB.out⟩
            case measure => simp [intOf]; omega
      · obtain rfl : k = beg := by omega
        have hxn : 1 + ((cnt (l.take k) : Nat) : Int) = (x : Int) := by have := Hx.out; omega
        rw [hxn]
        have k2 : ¬ ((x : Int) < (x : Int)) := by omega
        have B2 := Lib.hid (B1.out.trans (HB.out.mono B1.out.size))
        generalize hwr : wr = w2 at HB B2 ⊢
        clear hwr hxn
        go_wp2_with fail
        all_goals
          go_loopw [9] (fun z wr => ∃ j : Nat, k ≤ j ∧ j ≤ en ∧ z = .int .i64 j ∧ Below w2.heap.size w2 wr) (fun z _ => l.length - (intOf z).toNat)
          case atStart => exact ⟨k, by omega, by omega, rfl, Below.refl _ _⟩
          case round =>
            obtain ⟨j, hj1, hj2, rfl, hbw⟩ := hrel
            have HB2 := Lib.hid hbw
            clear hbw
            have j0 : (0 : Int) ≤ (j : Int) := by omega
            by_cases hlt2 : j < en
            · have hjl : j < l.length := by omega
              have hjb : j < (⟨l.toArray⟩ : ByteArray).size := hjl
              have j1 : (j : Int) < (l.length : Int) := by omega
              have qb : ((((⟨l.toArray⟩ : ByteArray)[j]'hjb).toNat : Int) != 10) = true := by
                show (((l[j].toNat : Nat) : Int) != 10) = true
                rw [bne_iff_ne]
                intro e
                exact Hn.out j l[j] hj1 hlt2 (List.getElem?_eq_getElem hjl) (UInt8.toNat_inj.1 (show l[j].toNat = (10 : UInt8).toNat from Int.ofNat.inj e))
              go_wp2
              go_roundw
              case rel => exact ⟨j + 1, by omega, by omega, by go_num, HB2.out⟩
              case measure => simp [intOf]; omega
            · obtain rfl : j = en := by omega
              have B3 := Lib.hid (B2.out.trans (HB2.out.mono B2.out.size))
              rcases Hen.out with hje | hje
              · have j1 : ¬ (j : Int) < (l.length : Int) := by omega
                clear hje
                have n0 : (k : Int) ≤ (l.length : Int) := by omega
                have n1 : (k : Int) ≤ (j : Int) := by omega
                have n2 : (j : Int) ≤ (l.length : Int) := by omega
                go_wp2_with fail
                rw [cut_front]
                refine (KW2.out _).mono ?_
                rintro e w3 ⟨v3, rfl, ho, hb⟩
                have B4 := Lib.hid (B3.out.trans (hb.mono B3.out.size))
                clear hb ho
                simp only
                go_wp2_with fail
                rw [cut_mid]
                refine (KR.out _).mono ?_
                rintro e w4 ⟨rfl, pz, rfl⟩
                have B5 := Lib.hid (B4.out.alloc B4.out.size (Obj.stringIter ⟨((l.drop k).take (j - k)).toArray⟩ pz))
                have c1 : (1 : Int) ≤ (y : Int) := by omega
                rcases Hend.out with ⟨r1, r2⟩ | ⟨r1, r2⟩
                · have c2 : (y : Int) ≤ (R : Int) + 1 := by omega
                  have c3 : ((y : Int) == (R : Int) + 1) = true := by rw [beq_iff_eq]; omega
                  have c4 : (e0 == 3) = true := by rw [r1]; rfl
                  clear r1 r2 B4
                  go_wp2_with fail
                  refine (works_any _).mono ?_
                  rintro e w5 ⟨rfl, hb⟩
                  have B6 := Lib.hid (B5.out.trans (hb.mono B5.out.size))
                  clear hb
                  go_wp2
                  go_ret
                  exact ⟨rfl, B6.out⟩
                · have c2 : (y : Int) ≤ (R : Int) + 1 := by omega
                  have c3 : ((y : Int) == (R : Int) + 1) = false := by rw [beq_eq_false_iff_ne]; omega
                  have c4 : (e0 == 3) = false := by rw [r1]; rfl
                  clear r1 r2 B4
                  go_wp2_with fail
                  refine (works_any _).mono ?_
                  rintro e w5 ⟨rfl, hb⟩
                  have B6 := Lib.hid (B5.out.trans (hb.mono B5.out.size))
                  clear hb
                  go_wp2
                  go_ret
                  exact ⟨rfl, B6.out⟩
              · have hjl : j < l.length := by
                  rcases Nat.lt_or_ge j l.length with h | h
                  · exact h
                  · rw [List.getElem?_eq_none h] at hje
                    cases hje
                have hjb : j < (⟨l.toArray⟩ : ByteArray).size := hjl
                have j1 : (j : Int) < (l.length : Int) := by omega
                have qb : ((((⟨l.toArray⟩ : ByteArray)[j]'hjb).toNat : Int) != 10) = false := by
                  show (((l[j].toNat : Nat) : Int) != 10) = false
                  rw [List.getElem?_eq_getElem hjl] at hje
                  rw [Option.some.inj hje]
                  rfl
                clear hje
                have n0 : (k : Int) ≤ (l.length : Int) := by omega
                have n1 : (k : Int) ≤ (j : Int) := by omega
                have n2 : (j : Int) ≤ (l.length : Int) := by omega
                go_wp2_with fail
                rw [cut_front]
                refine (KW2.out _).mono ?_
                rintro e w3 ⟨v3, rfl, ho, hb⟩
                have B4 := Lib.hid (B3.out.trans (hb.mono B3.out.size))
                clear hb ho
                simp only
                go_wp2_with fail
                rw [cut_mid]
                refine (KR.out _).mono ?_
                rintro e w4 ⟨rfl, pz, rfl⟩
                have B5 := Lib.hid (B4.out.alloc B4.out.size (Obj.stringIter ⟨((l.drop k).take (j - k)).toArray⟩ pz))
                have c1 : (1 : Int) ≤ (y : Int) := by omega
                rcases Hend.out with ⟨r1, r2⟩ | ⟨r1, r2⟩
                · have c2 : (y : Int) ≤ (R : Int) + 1 := by omega
                  have c3 : ((y : Int) == (R : Int) + 1) = true := by rw [beq_iff_eq]; omega
                  have c4 : (e0 == 3) = true := by rw [r1]; rfl
                  clear r1 r2 B4
                  go_wp2_with fail
                  refine (works_any _).mono ?_
                  rintro e w5 ⟨rfl, hb⟩
                  have B6 := Lib.hid (B5.out.trans (hb.mono B5.out.size))
                  clear hb
                  go_wp2
                  go_ret
                  exact ⟨rfl, B6.out⟩
                · have c2 : (y : Int) ≤ (R : Int) + 1 := by omega
                  have c3 : ((y : Int) == (R : Int) + 1) = false := by rw [beq_eq_false_iff_ne]; omega
                  have c4 : (e0 == 3) = false := by rw [r1]; rfl
                  clear r1 r2 B4
                  go_wp2_with fail
                  refine (works_any _).mono ?_
                  rintro e w5 ⟨rfl, hb⟩
                  have B6 := Lib.hid (B5.out.trans (hb.mono B5.out.size))
                  clear hb
                  go_wp2
                  go_ret
                  exact ⟨rfl, B6.out⟩
end Go.Proofs.YtdiighpmgfbmaaaDoor
