/- An error stands at a rune's first byte, or at the end, and what stands ahead of it is a beginning of some quantity's text: the walk. Conditions: the library's tables of powers of ten and of UTF-8 lie as they were laid. -/
import Derived.Test.YtmhblnlbfhfegaaDoorWhereMath
import Derived.Test.YtmhblnlbfhfegaaDoorLawBack
import Derived.Test.YtmhblnlbfhfegaaDoorShelfValid
import Derived.LoopN
import Derived.Deep.DeepCutAuto
namespace Go.Proofs.YtmhblnlbfhfegaaDoor
open Go.RowKit

/-- The library's tables of UTF-8 lie as they were laid. -/
def Utab (w : World) : Prop := Lib.Utf8Tabs (Tryd.lays196_ren.g 3) (Tryd.lays196_ren.g 4) w

theorem valid_any (s : ByteArray) (w : World) (hs : s.size ≤ 100) (hT : Utab w) :
    Calls Tryd.prog 32 #[.string s] w fun e w' => e = .returned (.bool (Lib.validD s.data.toList)) ∧ Below w.heap.size w w' :=
  Tryd.utf8_ValidString s w (by omega) hT
theorem start_any (b : Int) (w : World) (h0 : 0 ≤ b) (h1 : b < 256) (r : Bool) (hr : Lib.runeStart b = r) :
    Calls Tryd.prog 31 #[.int .u8 b] w fun e w' => e = .returned (.bool r) ∧ w = w' := by
  refine (Tryd.utf8_RuneStart b w h0 h1).mono ?_
  rintro e w' ⟨rfl, rfl⟩
  exact ⟨by rw [hr], rfl⟩

theorem start_u8 (b : UInt8) (w : World) (r : Bool) (hr : Lib.runeStart (b.toNat : Int) = r) :
    Calls Tryd.prog 31 #[.int .u8 (b.toNat : Int)] w fun e w' => e = .returned (.bool r) ∧ w = w' :=
  start_any _ w (by omega) (by have := b.toNat_lt; omega) r hr

theorem no_way (a : Nat) (l : List UInt8) (h0 : ¬ (a : Int) < 0) (h1 : ¬ (l.length : Int) < (a : Int)) : Value.bool (decide ((a : Int) < 0) || decide (l.length < a)) = Value.bool false := by
  rw [decide_eq_false h0, decide_eq_false (by omega)]
  rfl

theorem cut_valid (l : List UInt8) (a : Nat) (h : a < l.length) (hp : ∀ b ∈ l.take a, b.toNat < 128) (hs : Lib.runeStart ((l[a]'h).toNat : Int) = false) : Lib.validD l = false := by
  have hl : l = l.take a ++ l[a] :: l.drop (a + 1) := by rw [← List.drop_eq_getElem_cons h, List.take_append_drop]
  have h3 : (l[a]'h).toNat / 64 = 2 := by
    unfold Lib.runeStart at hs
    simp at hs
    omega
  have hb := (l[a]'h).toNat_lt
  rw [hl]
  unfold Lib.validD
  exact not_valid (l.take a) _ _ _ hp (by omega) (by omega) (by simp; omega)

/-- The law's four endings, in a block. -/
def MoreAt (w : World) (B : Nat) : Prop := w.heap[B]? = some (.cells (moreL.map fun t => Value.string ⟨t.toArray⟩).toArray 9 (0, 0))
theorem MoreAt.lt {w : World} {B : Nat} (h : MoreAt w B) : B < w.heap.size := (Array.getElem?_eq_some_iff.1 h).1
theorem MoreAt.cell {w : World} {B : Nat} (h : MoreAt w B) (k : Nat) (hk : k < moreL.length) : w.cell? ⟨B, k, none⟩ = some (.string ⟨moreL[k].toArray⟩) := by
  rw [cell_of_row w B k _ _ _ h]
  simp [hk]
theorem MoreAt.below {w w' : World} {B C : Nat} (h : MoreAt w B) (hb : Below C w w') (hB : B < C) : MoreAt w' B := (hb.block B hB).trans h
theorem more_le (k : Nat) (hk : k < moreL.length) : moreL[k].length ≤ 1 := by
  have : ∀ t ∈ moreL, t.length ≤ 1 := by decide
  exact this _ (List.getElem_mem _)

theorem cut_join (l : List UInt8) (a : Nat) (T : List UInt8) : (⟨l.toArray⟩ : ByteArray).extract 0 a ++ ⟨T.toArray⟩ = ⟨(l.take a ++ T).toArray⟩ := by
  apply ByteArray.ext
  rw [ByteArray.data_append, ByteArray.data_extract]
  apply Array.ext'
  simp
theorem not_whole (n a e : Int) (h0 : ¬ e = 0) (h1 : ¬ e = 10) (h2 : e = 4 → ¬ a = 0) : ¬ WholeAns (n, a, e) := by
  rintro (h | h | ⟨h, k⟩)
  · exact h0 h
  · exact h1 h
  · exact h2 h k
theorem begin_empty (l : List UInt8) : ((⟨l.toArray⟩ : ByteArray).extract 0 0).toList.isEmpty = true := by
  have h : (⟨l.toArray⟩ : ByteArray).extract 0 0 = ByteArray.empty := by simp
  rw [h]
  first | rfl | decide | decide +kernel | (unfold ByteArray.toList ByteArray.toList.loop; simp)

theorem parse_at (l : List UInt8) (milli : Bool) (n a e : Int) (h : parseL ⟨l.toArray⟩ milli = (n, a, e)) : (e = 0 ∨ e = 10 → a = 0) ∧ (e = 3 → a = l.length) ∧ (e = 0 ∨ e = 10 ∨ e = 3 ∨ e = 4) := by
  unfold parseL at h
  rcases hq : readL ⟨l.toArray⟩ 3 sufM with ⟨v, sc, a', e'⟩
  rw [hq] at h
  simp only at h
  by_cases hz : e' = 0
  · rw [if_neg (by simpa using hz)] at h
    generalize (if milli = true then sc * 1000 else sc) = c at h
    by_cases h1 : 1099511627776000000 / c < v
    · rw [if_pos h1] at h
      cases h
      simp
    · rw [if_neg h1] at h
      by_cases h2 : v * c % 1000000 ≠ 0
      · rw [if_pos h2] at h
        cases h
        simp
      · rw [if_neg h2] at h
        cases h
        simp
  · rw [if_pos hz] at h
    cases h
    rw [read_list l 3 sufM suf_ascii] at hq
    rcases hs : scanL 3 sufM l 0 rd0 with ⟨o, q⟩
    rw [hs] at hq
    cases o with
    | none =>
      simp only [Prod.mk.injEq] at hq
      obtain ⟨_, _, rfl, rfl⟩ := hq
      simp
    | some r =>
      simp only at hq
      split at hq
      · simp only [Prod.mk.injEq] at hq
        obtain ⟨_, _, rfl, rfl⟩ := hq
        simp
      · simp only [Prod.mk.injEq] at hq
        obtain ⟨_, _, _, rfl⟩ := hq
        exact absurd rfl hz

set_option maxRecDepth 100000 in
set_option maxHeartbeats 4000000 in
theorem where_any (s : ByteArray) (milli : Bool) (w : World) (hs : s.size ≤ maxLen) (ht : Tab w) (hu : ∀ w', Below w.heap.size w w' → Utab w') :
    Calls Tryd.prog 8 #[.string s, .bool milli] w fun e w' => e = .returned (.bool true) ∧ Below w.heap.size w w' := by
  have HT := Lib.hid ht
  have HU := Lib.hid hu
  clear ht hu
  unfold maxLen at hs
  obtain ⟨l, hl, hl1, hl2⟩ := cut_list s
  have Hl := Lib.hid hl
  clear hl
  rcases hq : parseL ⟨l.toArray⟩ milli with ⟨n, a0, e0⟩
  obtain ⟨r0, r1, r2, r3, r4⟩ := parse_range l milli n a0 e0 hq
  obtain ⟨a, rfl⟩ := Int.eq_ofNat_of_zero_le r0
  have Hq := Lib.hid hq
  have hsz : (⟨l.toArray⟩ : ByteArray).size = l.length := size_l l
  have Hsz := Lib.hid hsz
  clear hq hsz r4 r2 r3
  go_enter Tryd.func8, Tryd.ntmps8
  go_wp2_with fail
  rw [Hl.out]
  refine (parse_is ⟨l.toArray⟩ milli _ n (a : Int) e0 Hq.out).mono ?_
  rintro e w1 ⟨rfl, hb⟩
  have HB := Lib.hid hb
  clear hb
  obtain ⟨p1, p2, p3⟩ := parse_at l milli n (a : Int) e0 Hq.out
  have P1 := Lib.hid p1
  have P2 := Lib.hid p2
  have P3 := Lib.hid p3
  clear p1 p2 p3
  by_cases he : e0 = 0
  · have ha0 := P1.out (.inl he)
    have hab : ((a : Int) == 0) = true := by simpa using ha0
    have heb : (e0 == 0) = true := by simpa using he
    clear ha0 he
    go_wp2_with fail
    refine (works_any _ (HT.out.below HB.out)).mono ?_
    rintro e w2 ⟨rfl, hb⟩
    have HB2 := Lib.hid (HB.out.trans (hb.mono HB.out.size))
    clear hb
    go_wp2
    go_ret
    exact ⟨rfl, HB2.out⟩
  · by_cases he2 : e0 = 10
    · have ha0 := P1.out (.inr he2)
      have hab : ((a : Int) == 0) = true := by simpa using ha0
      have heb : (e0 == 0) = false := by rw [beq_eq_false_iff_ne]; exact he
      have heb2 : (e0 == 10) = true := by simpa using he2
      clear ha0 he he2
      go_wp2_with fail
      refine (works_any _ (HT.out.below HB.out)).mono ?_
      rintro e w2 ⟨rfl, hb⟩
      have HB2 := Lib.hid (HB.out.trans (hb.mono HB.out.size))
      clear hb
      go_wp2
      go_ret
      exact ⟨rfl, HB2.out⟩
    · have heb : (e0 == 0) = false := by rw [beq_eq_false_iff_ne]; exact he
      have heb2 : (e0 == 10) = false := by rw [beq_eq_false_iff_ne]; exact he2
      have i0 : ¬ (a : Int) < 0 := by omega
      have i1 : ¬ (l.length : Int) < (a : Int) := by omega
      have He := Lib.hid he
      have He2 := Lib.hid he2
      clear he he2
      go_upto_region 5 with fail
      go_cut [76] (fun s76 wx => s76 = .bool false ∧ Below w.heap.size w wx)
      case first =>
        by_cases h3 : e0 = 3
        · have h3b : (e0 == 3) = true := by simpa using h3
          have hal : ((a : Int) != (l.length : Int)) = false := by have := P2.out h3; simp [this]
          have hlt : ¬ (a : Int) < (l.length : Int) := by have := P2.out h3; omega
          clear h3
          by_cases hp : 0 < a
          · have ip : (0 : Int) < (a : Int) := by omega
            go_wp2_with fail
            go_meet
            exact ⟨no_way a l (by omega) (by omega), HB.out⟩
          · have ip : ¬ (0 : Int) < (a : Int) := by omega
            go_wp2_with fail
            go_meet
            exact ⟨no_way a l (by omega) (by omega), HB.out⟩
        · have h3b : (e0 == 3) = false := by rw [beq_eq_false_iff_ne]; exact h3
          clear h3
          by_cases hp : 0 < a
          · have ip : (0 : Int) < (a : Int) := by omega
            by_cases hlt0 : a < l.length
            · have hlt : (a : Int) < (l.length : Int) := by omega
              obtain ⟨w1a, w1b, ⟨rr, w1c⟩, w1d⟩ := where_wrong l milli n a e0 Hq.out He.out He2.out hp
              obtain ⟨_, _, w1e⟩ := scan_fine _ 0 _ rd0 rr rd0_fine w1c
              have Hv := Lib.hid (cut_valid l a hlt0 w1e)
              have hsz2 : (⟨l.toArray⟩ : ByteArray).size ≤ 100 := by rw [size_l]; exact hl2
              have Hsz2 := Lib.hid hsz2
              clear w1a w1b w1c w1d w1e hsz2
              go_wp2_with fail
              by_cases hst : Lib.runeStart ((l[a]'hlt0).toNat : Int) = true
              · refine (start_u8 _ _ true hst).mono ?_
                rintro e w' ⟨rfl, rfl⟩
                clear hst
                go_wp2_with fail
                go_meet
                exact ⟨no_way a l (by omega) (by omega), HB.out⟩
              · have hst2 : Lib.runeStart ((l[a]'hlt0).toNat : Int) = false := by simpa using hst
                refine (start_u8 _ _ false hst2).mono ?_
                rintro e w' ⟨rfl, rfl⟩
                have hv := Hv.out hst2
                have Hv2 := Lib.hid hv
                clear hst hst2 hv
                go_wp2_with fail
                refine (valid_any ⟨l.toArray⟩ _ Hsz2.out (HU.out _ HB.out)).mono ?_
                rintro e w2 ⟨rfl, hb⟩
                have HB2 := Lib.hid (HB.out.trans (hb.mono HB.out.size))
                clear hb
                rw [Hv2.out]
                go_wp2_with fail
                go_meet
                exact ⟨no_way a l (by omega) (by omega), HB2.out⟩
            · have hlt : ¬ (a : Int) < (l.length : Int) := by omega
              go_wp2_with fail
              go_meet
              exact ⟨no_way a l (by omega) (by omega), HB.out⟩
          · have ip : ¬ (0 : Int) < (a : Int) := by omega
            go_wp2_with fail
            go_meet
            exact ⟨no_way a l (by omega) (by omega), HB.out⟩
      case rest =>
        obtain ⟨rfl, hb⟩ := hcut
        have HBx := Lib.hid hb
        clear hb
        go_wp2
        obtain ⟨Q, hQ⟩ : ∃ Q : Nat → Prop, Q = fun k => a = 0 ∨ ∃ i0, ∃ h : i0 < moreL.length, i0 < k ∧ WholeAns (parseL ⟨(l.take a ++ moreL[i0]).toArray⟩ milli) := ⟨_, rfl⟩
        have HQ := Lib.hid hQ
        clear hQ
        have HQ4 : Hid (Q 4) := by
          show Q 4
          rw [HQ.out]
          by_cases ha : a = 0
          · exact .inl ha
          · obtain ⟨w1a, _, ⟨rr, w1c⟩, _⟩ := where_wrong l milli n a e0 Hq.out He.out He2.out (by omega)
            obtain ⟨i, hi, hw⟩ := begins (l.take a) milli rr a (by intro h; have := congrArg List.length h; rw [List.length_take] at this; simp only [List.length_nil] at this; omega) w1c
            exact .inr ⟨i, hi, hi, hw⟩
        go_loopw [9, 11] (fun b i wr => ∃ (bb : Bool) (k : Nat), b = .bool bb ∧ i = .int .i64 (k : Int) ∧ k ≤ 4 ∧ (Q k → bb = true) ∧ MoreAt wr wc.heap.size ∧ Below w.heap.size w wr) (fun _ i _ => 4 - (intOf i).toNat)
        case atStart =>
          refine ⟨_, 0, rfl, rfl, by omega, ?_, ?_, ?_⟩
          · intro h
            rw [HQ.out] at h
            rcases h with h | ⟨i0, _, h, _⟩
            · subst h
              exact begin_empty l
            · omega
          · exact (MapKept.heap_alloc wc _).1
          · exact HBx.out.alloc HBx.out.size _
        case round =>
          obtain ⟨bb, k, rfl, rfl, hk, hg, hm, hb⟩ := hrel
          have Hg := Lib.hid hg
          have Hm := Lib.hid hm
          have Hb := Lib.hid hb
          clear hg hm hb
          by_cases hlt : k < 4
          · have ik : (k : Int) < 4 := by omega
            have ik0 : (0 : Int) ≤ (k : Int) := by omega
            obtain ⟨T, hT⟩ : ∃ T, T = moreL[k]'hlt := ⟨_, rfl⟩
            have hTl : T.length ≤ 1 := by rw [hT]; exact more_le k hlt
            have ct : wr.cell? ⟨wc.heap.size, k, none⟩ = some (.string ⟨T.toArray⟩) := by rw [hT]; exact Hm.out.cell k hlt
            have hj := fun W => join_l Tryd.prog W (l.take a) T (by rw [List.length_take]; omega) (by omega)
            have hszr : wc.heap.size < wr.heap.size := Hm.out.lt
            rcases hq2 : parseL ⟨(l.take a ++ T).toArray⟩ milli with ⟨n2, a2, e2⟩
            have Hq2 := Lib.hid hq2
            have HT2 := Lib.hid hT
            clear hq2 hT
            have HQk : Hid (Q (k + 1) → Q k ∨ WholeAns (n2, a2, e2)) := by
              show Q (k + 1) → _
              intro h
              rw [HQ.out] at h
              rw [HQ.out]
              rcases h with h | ⟨i0, hi, h, hw⟩
              · exact .inl (.inl h)
              · by_cases hk2 : i0 < k
                · exact .inl (.inr ⟨i0, hi, hk2, hw⟩)
                · obtain rfl : i0 = k := by omega
                  have h5 : T = moreL[i0]'hi := HT2.out
                  rw [← h5, Hq2.out] at hw
                  exact .inr hw
            go_wp2_with fail
            rw [cut_join l a T]
            refine (parse_is ⟨(l.take a ++ T).toArray⟩ milli _ n2 a2 e2 Hq2.out).mono ?_
            rintro e w4 ⟨rfl, hb4⟩
            have Hm4 := Lib.hid (Hm.out.below hb4 hszr)
            have Hb4 := Lib.hid (Hb.out.trans (hb4.mono Hb.out.size))
            clear hb4 ct hj
            cases bb with
            | true =>
              clear Hg
              go_wp2
              go_roundw
              case rel => exact ⟨true, k + 1, rfl, by go_num, by omega, fun _ => rfl, Hm4.out, Hb4.out⟩
              case measure => simp [intOf]; omega
            | false =>
              by_cases f0 : e2 = 0
              · have f0b : (e2 == 0) = true := by simpa using f0
                clear f0
                go_wp2
                go_roundw
                case rel => exact ⟨true, k + 1, rfl, by go_num, by omega, fun _ => rfl, Hm4.out, Hb4.out⟩
                case measure => simp [intOf]; omega
              · have f0b : (e2 == 0) = false := by rw [beq_eq_false_iff_ne]; exact f0
                have F0 := Lib.hid f0
                clear f0
                by_cases f1 : e2 = 10
                · have f1b : (e2 == 10) = true := by simpa using f1
                  clear f1
                  go_wp2
                  go_roundw
                  case rel => exact ⟨true, k + 1, rfl, by go_num, by omega, fun _ => rfl, Hm4.out, Hb4.out⟩
                  case measure => simp [intOf]; omega
                · have f1b : (e2 == 10) = false := by rw [beq_eq_false_iff_ne]; exact f1
                  have F1 := Lib.hid f1
                  clear f1
                  by_cases f2 : e2 = 4
                  · have f2b : (e2 == 4) = true := by simpa using f2
                    clear f2
                    by_cases f3 : a2 = 0
                    · have f3b : (a2 == 0) = true := by simpa using f3
                      clear f3
                      go_wp2
                      go_roundw
                      case rel => exact ⟨true, k + 1, rfl, by go_num, by omega, fun _ => rfl, Hm4.out, Hb4.out⟩
                      case measure => simp [intOf]; omega
                    · have f3b : (a2 == 0) = false := by rw [beq_eq_false_iff_ne]; exact f3
                      have F3 := Lib.hid f3
                      clear f3
                      go_wp2
                      go_roundw
                      case rel => exact ⟨false, k + 1, rfl, by go_num, by omega, fun h => (HQk.out h).elim Hg.out (fun h => (not_whole n2 a2 e2 F0.out F1.out (fun _ => F3.out) h).elim), Hm4.out, Hb4.out⟩
                      case measure => simp [intOf]; omega
                  · have f2b : (e2 == 4) = false := by rw [beq_eq_false_iff_ne]; exact f2
                    have F2 := Lib.hid f2
                    clear f2
                    go_wp2
                    go_roundw
                    case rel => exact ⟨false, k + 1, rfl, by go_num, by omega, fun h => (HQk.out h).elim Hg.out (fun h => (not_whole n2 a2 e2 F0.out F1.out (fun h => absurd h F2.out) h).elim), Hm4.out, Hb4.out⟩
                    case measure => simp [intOf]; omega
          · have ik : ¬ (k : Int) < 4 := by omega
            obtain rfl : k = 4 := by omega
            obtain rfl := Hg.out HQ4.out
            clear Hg
            go_wp2_with fail
            refine (works_any _ (HT.out.below Hb.out)).mono ?_
            rintro e w5 ⟨rfl, hb⟩
            have HB5 := Lib.hid (Hb.out.trans (hb.mono Hb.out.size))
            clear hb
            go_wp2
            go_ret
            exact ⟨rfl, HB5.out⟩

end Go.Proofs.YtmhblnlbfhfegaaDoor
