/- What the document's Parse and Percent answer: as the program's do. Condition: a text of a hundred bytes at most. -/
import Derived.Test.YtmhblnlbfhfegaaDoorRefSuffix
import Derived.Test.YtmhblnlbfhfegaaDoorDiv
namespace Go.Proofs.YtmhblnlbfhfegaaDoor
open Go.RowKit

theorem div_k (hi lo : Int) (w : World) (h0 : 0 ≤ lo) (h1 : lo < 18446744073709551616) (hh : 0 ≤ hi) (hh1 : hi < 1000) :
    Calls Tryd.prog 39 #[.int .u64 hi, .int .u64 lo, .int .u64 1000] w fun e w' => e = .returned (.tuple #[.int .u64 ((hi * 18446744073709551616 + lo) / 1000), .int .u64 ((hi * 18446744073709551616 + lo) % 1000)]) ∧ Below w.heap.size w w' := by
  by_cases hz : hi = 0
  · subst hz
    have h := div_small lo 1000 w h0 (by omega) (by decide) (by decide)
    rw [show (0 : Int) * 18446744073709551616 + lo = lo by omega]
    exact h
  · exact div_1000 hi lo w h0 h1 (by omega) hh1
theorem div_m (hi lo : Int) (w : World) (h0 : 0 ≤ lo) (h1 : lo < 18446744073709551616) (hh : 0 ≤ hi) (hh1 : hi < 1000000) :
    Calls Tryd.prog 39 #[.int .u64 hi, .int .u64 lo, .int .u64 1000000] w fun e w' => e = .returned (.tuple #[.int .u64 ((hi * 18446744073709551616 + lo) / 1000000), .int .u64 ((hi * 18446744073709551616 + lo) % 1000000)]) ∧ Below w.heap.size w w' := by
  by_cases hz : hi = 0
  · subst hz
    have h := div_small lo 1000000 w h0 (by omega) (by decide) (by decide)
    rw [show (0 : Int) * 18446744073709551616 + lo = lo by omega]
    exact h
  · exact div_million hi lo w h0 h1 (by omega) hh1

theorem mul_words (X sc : Int) (w : World) (h0 : 0 ≤ X) (h1 : X < 18446744073709551616) (h2 : 0 ≤ sc) (h3 : sc < 18446744073709551616) :
    Calls Tryd.prog 38 #[.int .u64 X, .int .u64 sc] w fun e w' => e = .returned (.tuple #[.int .u64 (X * sc / 18446744073709551616), .int .u64 (X * sc % 18446744073709551616)]) ∧ w = w' := by
  obtain ⟨x, rfl⟩ := Int.eq_ofNat_of_zero_le h0
  obtain ⟨y, rfl⟩ := Int.eq_ofNat_of_zero_le h2
  refine (Tryd.bits_Mul64 x y (by omega) (by omega) w).mono ?_
  rintro e w' ⟨rfl, rfl⟩
  have e := Int.natCast_mul x y
  refine ⟨ret2U ?_ ?_, rfl⟩
  · rw [← e]; omega
  · rw [← e]; omega

theorem parse_err {s : ByteArray} {milli : Bool} {k : Nat} {e : Int} (he : e ≠ 0) (h : readL s 3 sufM = (0, 0, (k : Int), e)) : parseL s milli = (0, (k : Int), e) := by
  unfold parseL
  rw [h]
  simp only
  rw [if_pos he]

theorem parse_milli {s : ByteArray} {X sc : Int} (h : readL s 3 sufM = (X, sc, 0, 0)) (h2 : 1 ≤ sc) :
    parseL s true = if 1099511627776 * 1000 < X * sc then (0, 0, 10) else if X * sc % 1000 ≠ 0 then (0, 0, 4) else (X * sc / 1000, 0, 0) := by
  unfold parseL
  rw [h]
  show (if 1099511627776000000 / (sc * 1000) < X then ((0, 0, 10) : Int × Int × Int) else if X * (sc * 1000) % 1000000 ≠ 0 then (0, 0, 4) else (X * (sc * 1000) / 1000000, 0, 0)) = _
  have hq : 1099511627776000000 / (sc * 1000) < X ↔ 1099511627776000000 < X * (sc * 1000) := Int.ediv_lt_iff_lt_mul (by omega)
  rw [← Int.mul_assoc] at hq ⊢
  generalize X * sc = A at *
  by_cases h1 : 1099511627776 * 1000 < A
  · rw [if_pos h1, if_pos (hq.2 (by omega))]
  · rw [if_neg h1, if_neg (fun h => by have := hq.1 h; omega)]
    by_cases h3 : A % 1000 = 0
    · rw [if_neg (by omega), if_neg (by omega)]
      congr 1
      omega
    · rw [if_pos (by omega), if_pos (by omega)]

theorem parse_plain {s : ByteArray} {X sc : Int} (h : readL s 3 sufM = (X, sc, 0, 0)) (h2 : 1 ≤ sc) :
    parseL s false = if 1099511627776 * 1000000 < X * sc then (0, 0, 10) else if X * sc % 1000000 ≠ 0 then (0, 0, 4) else (X * sc / 1000000, 0, 0) := by
  unfold parseL
  rw [h]
  show (if 1099511627776000000 / (sc) < X then ((0, 0, 10) : Int × Int × Int) else if X * (sc) % 1000000 ≠ 0 then (0, 0, 4) else (X * (sc) / 1000000, 0, 0)) = _
  have hq : 1099511627776000000 / (sc) < X ↔ 1099511627776000000 < X * (sc) := Int.ediv_lt_iff_lt_mul (by omega)
  generalize X * sc = A at *
  by_cases h1 : 1099511627776 * 1000000 < A
  · rw [if_pos h1, if_pos (hq.2 (by omega))]
  · rw [if_neg h1, if_neg (fun h => by have := hq.1 h; omega)]

set_option maxRecDepth 10000 in
set_option maxHeartbeats 4000000 in
theorem rparse_any (s : ByteArray) (milli : Bool) (w : World) (hs : s.size ≤ 100) :
    Calls Tryd.prog 12 #[.string s, .bool milli] w fun e w' => e = .returned (.tuple #[.int .i64 (parseL s milli).1, .int .i64 (parseL s milli).2.1, .int .i64 (parseL s milli).2.2]) ∧ Below w.heap.size w w' := by
  go_enter Tryd.func12, Tryd.ntmps12
  go_wp2_with fail
  refine (whole_any s 3 sufM suf_ascii _ hs).mono ?_
  rintro e w' ⟨n, k, x, rfl, hok, rfl⟩
  rcases hok with ⟨hx, rfl, hrd⟩ | ⟨rfl, hn0, hn1, hst, hnd⟩
  · have hxb : (x != 0) = true := by simpa using hx
    have Hval := Lib.hid (parse_err (milli := milli) hx hrd)
    clear hx hrd
    go_wp2
    go_ret3
    exact ⟨ret3I Hval.out.symm, Below.refl _ _⟩
  · have Hst := Lib.hid hst
    have Hnd := Lib.hid hnd
    clear hst hnd
    go_wp2_with fail
    refine (point_any s 3 k sufM n suf_ascii _ hs (by decide) (by decide) Hst.out Hnd.out).mono ?_
    rintro e w' ⟨f, k2, x, rfl, hok, rfl⟩
    rcases hok with ⟨hx, rfl, hrd⟩ | ⟨rfl, hf0, hf1, r, hst2, hrs, hrn, hrv, hshut⟩
    · have hxb : (x != 0) = true := by simpa using hx
      have Hval := Lib.hid (parse_err (milli := milli) hx hrd)
      clear hx hrd
      go_wp2
      go_ret3
      exact ⟨ret3I Hval.out.symm, Below.refl _ _⟩
    · have hf2 : f < 1000 := hf1
      have Hst2 := Lib.hid hst2
      have Hrs := Lib.hid hrs
      have Hrn := Lib.hid hrn
      have Hrv := Lib.hid hrv
      have Hsh := Lib.hid hshut
      clear hst2 hrs hrn hrv hshut hf1
      go_wp2_with fail
      refine (suffix_any s k2 r _ hs Hst2.out Hrs.out Hrn.out Hsh.out).mono ?_
      rintro e w' ⟨sc, k3, x, rfl, hok, rfl⟩
      rcases hok with ⟨hx, rfl, hrd⟩ | ⟨rfl, hs1, hs2, hrd⟩
      · have hxb : (x != 0) = true := by simpa using hx
        have Hval := Lib.hid (parse_err (milli := milli) hx hrd)
        clear hx hrd
        go_wp2
        go_ret3
        exact ⟨ret3I Hval.out.symm, Below.refl _ _⟩
      · rw [Hrv.out] at hrd
        have hX : n * 10 ^ 3 + f = 1000 * n + f := by omega
        rw [hX] at hrd
        obtain ⟨hi, hhi⟩ : ∃ hi, (1000 * n + f) * sc / 18446744073709551616 = hi := ⟨_, rfl⟩
        obtain ⟨lo, hlo⟩ : ∃ lo, (1000 * n + f) * sc % 18446744073709551616 = lo := ⟨_, rfl⟩
        have hA0 : 0 ≤ (1000 * n + f) * sc := Int.mul_nonneg (by omega) (by omega)
        have l0 : 0 ≤ lo := by omega
        have l1 : lo < 18446744073709551616 := by omega
        have hi0 : 0 ≤ hi := by omega
        have hA : hi * 18446744073709551616 + lo = (1000 * n + f) * sc := by omega
        have HA := Lib.hid hA
        have Hhi := Lib.hid hhi
        have Hlo := Lib.hid hlo
        cases milli
        · have Hp := Lib.hid (parse_plain hrd hs1)
          clear hrd hX
          obtain ⟨q, hq⟩ : ∃ q, (hi * 18446744073709551616 + lo) / 1000000 = q := ⟨_, rfl⟩
          obtain ⟨m, hm⟩ : ∃ m, (hi * 18446744073709551616 + lo) % 1000000 = m := ⟨_, rfl⟩
          have Hq := Lib.hid hq
          have Hr := Lib.hid hm
          have m0 : 0 ≤ m := by omega
          have m1 : m < 1000000 := by omega
          have q0 : 0 ≤ q := by omega
          by_cases hbig : 1000000 ≤ hi
          · have Hval : Hid (parseL s false = (0, 0, 10)) := by
              show parseL s false = _
              rw [Hp.out, if_pos (by omega)]
            clear hhi hlo hA hq hm
            go_wp2_with fail
            refine (mul_words (1000 * n + f) sc _ (by omega) (by omega) (by omega) (by omega)).mono ?_
            rintro e w' ⟨rfl, rfl⟩
            rw [Hhi.out, Hlo.out]
            go_wp2
            go_ret3
            exact ⟨ret3I Hval.out.symm, Below.refl _ _⟩
          · have q1 : q < 18446744073709551616 := by omega
            by_cases hq1 : 1099511627776 < q
            · have Hval : Hid (parseL s false = (0, 0, 10)) := by
                show parseL s false = _
                rw [Hp.out, if_pos (by omega)]
              clear hhi hlo hA hq hm
              go_wp2_with fail
              refine (mul_words (1000 * n + f) sc _ (by omega) (by omega) (by omega) (by omega)).mono ?_
              rintro e w' ⟨rfl, rfl⟩
              rw [Hhi.out, Hlo.out]
              go_wp2_with fail
              refine (div_m hi lo _ l0 l1 hi0 (by omega)).mono ?_
              rintro e w' ⟨rfl, hb⟩
              rw [Hq.out, Hr.out]
              have Hb := Lib.hid hb
              clear hb
              go_wp2
              go_ret3
              exact ⟨ret3I Hval.out.symm, Hb.out⟩
            · by_cases hq2 : q = 1099511627776 ∧ 0 < m
              · have Hval : Hid (parseL s false = (0, 0, 10)) := by
                  show parseL s false = _
                  rw [Hp.out, if_pos (by omega)]
                obtain ⟨hq2, hm0⟩ := hq2
                have hqb : (q == 1099511627776) = true := by rw [beq_iff_eq]; exact hq2
                clear hhi hlo hA hq hm hq2
                go_wp2_with fail
                refine (mul_words (1000 * n + f) sc _ (by omega) (by omega) (by omega) (by omega)).mono ?_
                rintro e w' ⟨rfl, rfl⟩
                rw [Hhi.out, Hlo.out]
                go_wp2_with fail
                refine (div_m hi lo _ l0 l1 hi0 (by omega)).mono ?_
                rintro e w' ⟨rfl, hb⟩
                rw [Hq.out, Hr.out]
                have Hb := Lib.hid hb
                clear hb
                go_wp2
                go_ret3
                exact ⟨ret3I Hval.out.symm, Hb.out⟩
              · have hov : ¬ 1099511627776 * 1000000 < (1000 * n + f) * sc := by omega
                by_cases hm0 : 0 < m
                · have Hval : Hid (parseL s false = (0, 0, 4)) := by
                    show parseL s false = _
                    rw [Hp.out, if_neg hov, if_pos (by omega)]
                  have hqb : (q == 1099511627776) = false := by rw [beq_eq_false_iff_ne]; omega
                  clear hhi hlo hA hq hm hq2 hov
                  go_wp2_with fail
                  refine (mul_words (1000 * n + f) sc _ (by omega) (by omega) (by omega) (by omega)).mono ?_
                  rintro e w' ⟨rfl, rfl⟩
                  rw [Hhi.out, Hlo.out]
                  go_wp2_with fail
                  refine (div_m hi lo _ l0 l1 hi0 (by omega)).mono ?_
                  rintro e w' ⟨rfl, hb⟩
                  rw [Hq.out, Hr.out]
                  have Hb := Lib.hid hb
                  clear hb
                  go_wp2
                  go_ret3
                  exact ⟨ret3I Hval.out.symm, Hb.out⟩
                · have Hval : Hid (parseL s false = (q, 0, 0)) := by
                    show parseL s false = _
                    rw [Hp.out, if_neg hov, if_neg (by omega), ← hA, hq]
                  clear hhi hlo hA hq hm hq2 hov
                  by_cases hqe : q = 1099511627776
                  · have hqb : (q == 1099511627776) = true := by rw [beq_iff_eq]; exact hqe
                    clear hqe
                    go_wp2_with fail
                    refine (mul_words (1000 * n + f) sc _ (by omega) (by omega) (by omega) (by omega)).mono ?_
                    rintro e w' ⟨rfl, rfl⟩
                    rw [Hhi.out, Hlo.out]
                    go_wp2_with fail
                    refine (div_m hi lo _ l0 l1 hi0 (by omega)).mono ?_
                    rintro e w' ⟨rfl, hb⟩
                    rw [Hq.out, Hr.out]
                    have Hb := Lib.hid hb
                    clear hb
                    go_wp2
                    go_ret3
                    exact ⟨ret3I Hval.out.symm, Hb.out⟩
                  · have hqb : (q == 1099511627776) = false := by rw [beq_eq_false_iff_ne]; exact hqe
                    clear hqe
                    go_wp2_with fail
                    refine (mul_words (1000 * n + f) sc _ (by omega) (by omega) (by omega) (by omega)).mono ?_
                    rintro e w' ⟨rfl, rfl⟩
                    rw [Hhi.out, Hlo.out]
                    go_wp2_with fail
                    refine (div_m hi lo _ l0 l1 hi0 (by omega)).mono ?_
                    rintro e w' ⟨rfl, hb⟩
                    rw [Hq.out, Hr.out]
                    have Hb := Lib.hid hb
                    clear hb
                    go_wp2
                    go_ret3
                    exact ⟨ret3I Hval.out.symm, Hb.out⟩
        · have Hp := Lib.hid (parse_milli hrd hs1)
          clear hrd hX
          obtain ⟨q, hq⟩ : ∃ q, (hi * 18446744073709551616 + lo) / 1000 = q := ⟨_, rfl⟩
          obtain ⟨m, hm⟩ : ∃ m, (hi * 18446744073709551616 + lo) % 1000 = m := ⟨_, rfl⟩
          have Hq := Lib.hid hq
          have Hr := Lib.hid hm
          have m0 : 0 ≤ m := by omega
          have m1 : m < 1000 := by omega
          have q0 : 0 ≤ q := by omega
          by_cases hbig : 1000 ≤ hi
          · have Hval : Hid (parseL s true = (0, 0, 10)) := by
              show parseL s true = _
              rw [Hp.out, if_pos (by omega)]
            clear hhi hlo hA hq hm
            go_wp2_with fail
            refine (mul_words (1000 * n + f) sc _ (by omega) (by omega) (by omega) (by omega)).mono ?_
            rintro e w' ⟨rfl, rfl⟩
            rw [Hhi.out, Hlo.out]
            go_wp2
            go_ret3
            exact ⟨ret3I Hval.out.symm, Below.refl _ _⟩
          · have q1 : q < 18446744073709551616 := by omega
            by_cases hq1 : 1099511627776 < q
            · have Hval : Hid (parseL s true = (0, 0, 10)) := by
                show parseL s true = _
                rw [Hp.out, if_pos (by omega)]
              clear hhi hlo hA hq hm
              go_wp2_with fail
              refine (mul_words (1000 * n + f) sc _ (by omega) (by omega) (by omega) (by omega)).mono ?_
              rintro e w' ⟨rfl, rfl⟩
              rw [Hhi.out, Hlo.out]
              go_wp2_with fail
              refine (div_k hi lo _ l0 l1 hi0 (by omega)).mono ?_
              rintro e w' ⟨rfl, hb⟩
              rw [Hq.out, Hr.out]
              have Hb := Lib.hid hb
              clear hb
              go_wp2
              go_ret3
              exact ⟨ret3I Hval.out.symm, Hb.out⟩
            · by_cases hq2 : q = 1099511627776 ∧ 0 < m
              · have Hval : Hid (parseL s true = (0, 0, 10)) := by
                  show parseL s true = _
                  rw [Hp.out, if_pos (by omega)]
                obtain ⟨hq2, hm0⟩ := hq2
                have hqb : (q == 1099511627776) = true := by rw [beq_iff_eq]; exact hq2
                clear hhi hlo hA hq hm hq2
                go_wp2_with fail
                refine (mul_words (1000 * n + f) sc _ (by omega) (by omega) (by omega) (by omega)).mono ?_
                rintro e w' ⟨rfl, rfl⟩
                rw [Hhi.out, Hlo.out]
                go_wp2_with fail
                refine (div_k hi lo _ l0 l1 hi0 (by omega)).mono ?_
                rintro e w' ⟨rfl, hb⟩
                rw [Hq.out, Hr.out]
                have Hb := Lib.hid hb
                clear hb
                go_wp2
                go_ret3
                exact ⟨ret3I Hval.out.symm, Hb.out⟩
              · have hov : ¬ 1099511627776 * 1000 < (1000 * n + f) * sc := by omega
                by_cases hm0 : 0 < m
                · have Hval : Hid (parseL s true = (0, 0, 4)) := by
                    show parseL s true = _
                    rw [Hp.out, if_neg hov, if_pos (by omega)]
                  have hqb : (q == 1099511627776) = false := by rw [beq_eq_false_iff_ne]; omega
                  clear hhi hlo hA hq hm hq2 hov
                  go_wp2_with fail
                  refine (mul_words (1000 * n + f) sc _ (by omega) (by omega) (by omega) (by omega)).mono ?_
                  rintro e w' ⟨rfl, rfl⟩
                  rw [Hhi.out, Hlo.out]
                  go_wp2_with fail
                  refine (div_k hi lo _ l0 l1 hi0 (by omega)).mono ?_
                  rintro e w' ⟨rfl, hb⟩
                  rw [Hq.out, Hr.out]
                  have Hb := Lib.hid hb
                  clear hb
                  go_wp2
                  go_ret3
                  exact ⟨ret3I Hval.out.symm, Hb.out⟩
                · have Hval : Hid (parseL s true = (q, 0, 0)) := by
                    show parseL s true = _
                    rw [Hp.out, if_neg hov, if_neg (by omega), ← hA, hq]
                  clear hhi hlo hA hq hm hq2 hov
                  by_cases hqe : q = 1099511627776
                  · have hqb : (q == 1099511627776) = true := by rw [beq_iff_eq]; exact hqe
                    clear hqe
                    go_wp2_with fail
                    refine (mul_words (1000 * n + f) sc _ (by omega) (by omega) (by omega) (by omega)).mono ?_
                    rintro e w' ⟨rfl, rfl⟩
                    rw [Hhi.out, Hlo.out]
                    go_wp2_with fail
                    refine (div_k hi lo _ l0 l1 hi0 (by omega)).mono ?_
                    rintro e w' ⟨rfl, hb⟩
                    rw [Hq.out, Hr.out]
                    have Hb := Lib.hid hb
                    clear hb
                    go_wp2
                    go_ret3
                    exact ⟨ret3I Hval.out.symm, Hb.out⟩
                  · have hqb : (q == 1099511627776) = false := by rw [beq_eq_false_iff_ne]; exact hqe
                    clear hqe
                    go_wp2_with fail
                    refine (mul_words (1000 * n + f) sc _ (by omega) (by omega) (by omega) (by omega)).mono ?_
                    rintro e w' ⟨rfl, rfl⟩
                    rw [Hhi.out, Hlo.out]
                    go_wp2_with fail
                    refine (div_k hi lo _ l0 l1 hi0 (by omega)).mono ?_
                    rintro e w' ⟨rfl, hb⟩
                    rw [Hq.out, Hr.out]
                    have Hb := Lib.hid hb
                    clear hb
                    go_wp2
                    go_ret3
                    exact ⟨ret3I Hval.out.symm, Hb.out⟩

end Go.Proofs.YtmhblnlbfhfegaaDoor
