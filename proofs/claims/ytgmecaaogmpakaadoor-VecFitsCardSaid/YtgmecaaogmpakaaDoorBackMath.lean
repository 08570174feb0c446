/- What was printed is parsed as it was: plain words on lists and numbers. No conditions. -/
import Derived.Test.YtgmecaaogmpakaaDoorScan
namespace Go.Proofs.YtgmecaaogmpakaaDoor
open Go.RowKit

theorem data_l (l : List UInt8) : (⟨l.toArray⟩ : ByteArray).data.toList = l := by simp
theorem size_la (l : List UInt8) : (⟨l.toArray⟩ : ByteArray).size = l.length := size_l l

theorem read_list (l : List UInt8) (P : Nat) (m : List (List UInt8 × Int)) (hm : Ascii m) : readL ⟨l.toArray⟩ P m = match scanL P m l 0 rd0 with
    | (none, pos) => (0, 0, (pos : Int), 4)
    | (some r, _) => if r.num = false ∨ (look m r.s).getD 0 = 0 then (0, 0, (l.length : Int), 3) else (r.v * 10 ^ (P - r.k), (look m r.s).getD 0, 0, 0) := by
  unfold readL
  rw [scan_all _ P m hm, data_l, size_la]
  rfl

theorem read_ok (l : List UInt8) (P : Nat) (m : List (List UInt8 × Int)) (hm : Ascii m) (r : Rd) (sc : Int) (hs : (scanL P m l 0 rd0).1 = some r) (hn : r.num = true) (hl : look m r.s = some sc) (hz : sc ≠ 0) :
    readL ⟨l.toArray⟩ P m = (r.v * 10 ^ (P - r.k), sc, 0, 0) := by
  rw [read_list l P m hm]
  rcases h : scanL P m l 0 rd0 with ⟨o, q⟩
  rw [h] at hs
  simp only at hs
  subst hs
  simp only
  rw [hl, Option.getD_some, if_neg]
  rw [hn]
  simp
  exact hz

/-- A text that is whole. -/
theorem parse_whole (l : List UInt8) (milli : Bool) (r : Rd) (sc c x : Int) (hs : (scanL 3 sufM l 0 rd0).1 = some r) (hn : r.num = true) (hl : look sufM r.s = some sc) (hz : sc ≠ 0)
    (hc : (if milli = true then sc * 1000 else sc) = c) (hx : r.v * 10 ^ (3 - r.k) = x) :
    parseL ⟨l.toArray⟩ milli = if 1099511627776000000 / c < x then (0, 0, 10) else if x * c % 1000000 ≠ 0 then (0, 0, 4) else (x * c / 1000000, 0, 0) := by
  unfold parseL
  rw [read_ok l 3 sufM suf_ascii r sc hs hn hl hz, hx]
  subst hc
  rfl

/-- .. that says just a quantity. -/
theorem parse_says (l : List UInt8) (milli : Bool) (r : Rd) (sc c x n : Int) (hs : (scanL 3 sufM l 0 rd0).1 = some r) (hn : r.num = true) (hl : look sufM r.s = some sc)
    (hc : (if milli = true then sc * 1000 else sc) = c) (hx : r.v * 10 ^ (3 - r.k) = x) (hcp : 0 < c) (hp : x * c = n * 1000000) (hn1 : n ≤ 1099511627776) :
    parseL ⟨l.toArray⟩ milli = (n, 0, 0) := by
  have hz : sc ≠ 0 := by
    rintro rfl
    cases milli <;> simp at hc <;> omega
  rw [parse_whole l milli r sc c x hs hn hl hz hc hx, if_neg, if_neg]
  · rw [hp, Int.mul_ediv_cancel _ (by decide)]
  · rw [hp]
    simp
  · rw [Int.ediv_lt_iff_lt_mul hcp, hp]
    omega

theorem scan_dec' (P : Nat) (m : List (List UInt8 × Int)) (n : Int) (h0 : 0 ≤ n) (h1 : n ≤ 1125899906842624) (t : List UInt8) :
    scanL P m (dec n ++ t) 0 rd0 = scanL P m t (dec n).length ⟨n, true, false, 0, []⟩ := by
  rw [scan_append]
  unfold dec
  rw [scan_dec P m n.toNat 0 (by omega)]
  simp only [Nat.zero_add]
  rw [Int.toNat_of_nonneg h0]

/-- A suffix of one byte that is no digit and no point. -/
theorem scan_suf1 (P : Nat) (m : List (List UInt8 × Int)) (b : UInt8) (pos : Nat) (r : Rd) (x : Int) (hb : b.toNat < 128) (hd : ¬ (48 ≤ b.toNat ∧ b.toNat ≤ 57)) (hp : b.toNat ≠ 46) (hn : r.num = true) (hl : look m (r.s ++ [b]) = some x) (t : List UInt8) :
    scanL P m (b :: t) pos r = scanL P m t (pos + 1) { r with s := r.s ++ [b] } := by
  have e : enc b.toNat = [b] := by rw [enc_ascii _ hb]; simp
  simp only [scanL, Rd.byte]
  rw [if_pos hb]
  unfold Rd.take
  rw [if_neg hd, if_neg hp]
  unfold Rd.suffix
  rw [if_neg (by rw [hn]; simp), e, hl, if_pos (by rfl)]

theorem back_milli (n : Int) (h0 : 0 ≤ n) (h1 : n ≤ 1099511627776) : parseL ⟨(milliL n).toArray⟩ true = (n, 0, 0) := by
  unfold milliL
  by_cases hz : n % 1000 = 0
  · rw [if_pos hz]
    refine parse_says _ true ⟨n / 1000, true, false, 0, []⟩ 1000 1000000 (n / 1000 * 1000) n ?_ rfl rfl rfl rfl (by decide) (by omega) h1
    have h := scan_dec' 3 sufM (n / 1000) (by omega) (by omega) []
    rw [List.append_nil] at h
    rw [h]
    rfl
  · rw [if_neg hz]
    refine parse_says _ true ⟨n, true, false, 0, [109]⟩ 1 1000 (n * 1000) n ?_ rfl rfl rfl rfl (by decide) (by omega) h1
    rw [scan_dec' 3 sufM n h0 (by omega), scan_suf1 3 sufM 109 _ _ 1 (by decide) (by decide) (by decide) rfl rfl]
    rfl

theorem back_whole (n : Int) (h0 : 0 ≤ n) (h1 : n ≤ 1099511627776) : parseL ⟨(wholeL n).toArray⟩ false = (n, 0, 0) := by
  unfold wholeL
  by_cases hz : n = 0
  · rw [if_pos hz, hz]
    decide +kernel
  · rw [if_neg hz]
    by_cases hg : n % 1073741824 = 0
    · rw [if_pos hg]
      refine parse_says _ false ⟨n / 1073741824, true, false, 0, [71, 105]⟩ 1073741824000 1073741824000 (n / 1073741824 * 1000) n ?_ rfl rfl rfl rfl (by decide) (by omega) h1
      rw [scan_dec' 3 sufM _ (by omega) (by omega), scan_suf1 3 sufM 71 _ _ 1000000000000 (by decide) (by decide) (by decide) rfl rfl, scan_suf1 3 sufM 105 _ _ 1073741824000 (by decide) (by decide) (by decide) rfl rfl]
      rfl
    · rw [if_neg hg]
      by_cases hm : n % 1048576 = 0
      · rw [if_pos hm]
        refine parse_says _ false ⟨n / 1048576, true, false, 0, [77, 105]⟩ 1048576000 1048576000 (n / 1048576 * 1000) n ?_ rfl rfl rfl rfl (by decide) (by omega) h1
        rw [scan_dec' 3 sufM _ (by omega) (by omega), scan_suf1 3 sufM 77 _ _ 1000000000 (by decide) (by decide) (by decide) rfl rfl, scan_suf1 3 sufM 105 _ _ 1048576000 (by decide) (by decide) (by decide) rfl rfl]
        rfl
      · rw [if_neg hm]
        by_cases hk : n % 1024 = 0
        · rw [if_pos hk]
          refine parse_says _ false ⟨n / 1024, true, false, 0, [75, 105]⟩ 1024000 1024000 (n / 1024 * 1000) n ?_ rfl rfl rfl rfl (by decide) (by omega) h1
          rw [scan_dec' 3 sufM _ (by omega) (by omega), scan_suf1 3 sufM 75 _ _ 0 (by decide) (by decide) (by decide) rfl rfl, scan_suf1 3 sufM 105 _ _ 1024000 (by decide) (by decide) (by decide) rfl rfl]
          rfl
        · rw [if_neg hk]
          refine parse_says _ false ⟨n, true, false, 0, []⟩ 1000 1000 (n * 1000) n ?_ rfl rfl rfl rfl (by decide) (by omega) h1
          have h := scan_dec' 3 sufM n (by omega) (by omega) []
          rw [List.append_nil] at h
          rw [h]
          rfl

/-- What was printed is parsed as it was. -/
theorem back_print (n : Int) (milli : Bool) (h0 : 0 ≤ n) (h1 : n ≤ 1099511627776) : ∃ t, printL n milli = (t, 0) ∧ parseL ⟨t.toArray⟩ milli = (n, 0, 0) := by
  unfold printL
  rw [if_neg (by omega)]
  cases milli
  · exact ⟨_, rfl, back_whole n h0 h1⟩
  · exact ⟨_, rfl, back_milli n h0 h1⟩

theorem percent_says (l : List UInt8) (r : Rd) (n : Int) (hs : (scanL 1 pctM l 0 rd0).1 = some r) (hn : r.num = true) (hl : look pctM r.s = some 1) (hx : r.v * 10 ^ (1 - r.k) = n) (h1 : n ≤ 1000) :
    percentL ⟨l.toArray⟩ = (n, 0, 0) := by
  unfold percentL
  rw [read_ok l 1 pctM pct_ascii r 1 hs hn hl (by decide), hx]
  simp only
  rw [if_neg (by simp), if_neg (by omega), Int.mul_one]

theorem back_percent (n : Int) (h0 : 0 ≤ n) (h1 : n ≤ 1000) : ∃ t, pctL n = (t, 0) ∧ percentL ⟨t.toArray⟩ = (n, 0, 0) := by
  unfold pctL
  rw [if_neg (by omega)]
  by_cases hz : n % 10 = 0
  · rw [if_pos hz]
    refine ⟨_, rfl, percent_says _ ⟨n / 10, true, false, 0, [37]⟩ n ?_ rfl rfl ?_ h1⟩
    · rw [scan_dec' 1 pctM _ (by omega) (by omega), scan_suf1 1 pctM 37 _ _ 1 (by decide) (by decide) (by decide) rfl rfl]
      rfl
    · show n / 10 * 10 ^ (1 - 0) = n
      omega
  · rw [if_neg hz]
    refine ⟨_, rfl, percent_says _ ⟨n, true, true, 1, [37]⟩ n ?_ rfl rfl ?_ h1⟩
    · rw [List.append_assoc, List.append_assoc, scan_dec' 1 pctM _ (by omega) (by omega)]
      have hd : dec (n % 10) = [UInt8.ofNat (48 + (n % 10).toNat)] := by unfold dec; rw [Lib.decDigits_one (by omega)]
      have hb : (UInt8.ofNat (48 + (n % 10).toNat)).toNat = 48 + (n % 10).toNat := by rw [UInt8.toNat_ofNat']; omega
      rw [hd]
      generalize (dec (n / 10)).length = pos
      show (scanL 1 pctM (46 :: UInt8.ofNat (48 + (n % 10).toNat) :: [37]) pos _).1 = _
      have e1 : Rd.byte ⟨n / 10, true, false, 0, []⟩ 46 1 pctM = some ⟨n / 10, true, true, 0, []⟩ := rfl
      have e2 : Rd.byte ⟨n / 10, true, true, 0, []⟩ (UInt8.ofNat (48 + (n % 10).toNat)) 1 pctM = some ⟨n, true, true, 1, []⟩ := by
        unfold Rd.byte
        rw [hb, if_pos (by omega)]
        unfold Rd.take
        rw [if_pos (by omega)]
        unfold Rd.digit
        simp only
        rw [if_neg (by simp), if_pos trivial, if_neg (by simp)]
        simp
        omega
      rw [scanL, e1]
      simp only
      rw [scanL, e2]
      simp only
      rw [scan_suf1 1 pctM 37 _ _ 1 (by decide) (by decide) (by decide) rfl rfl]
      rfl
    · show n * 10 ^ (1 - 1) = n
      omega

/-- Where reading stops. -/
theorem scan_pos (P : Nat) (m : List (List UInt8 × Int)) : ∀ (l : List UInt8) (pos : Nat) (r : Rd), pos ≤ (scanL P m l pos r).2 ∧ (scanL P m l pos r).2 ≤ pos + l.length
  | [], pos, r => by simp [scanL]
  | b :: t, pos, r => by
    simp only [scanL]
    cases r.byte b P m with
    | none => simp
    | some r' =>
      have := scan_pos P m t (pos + 1) r'
      simp only [List.length_cons]
      omega

/-- Beside an error stands no number, and a place in the text; without one a quantity. -/
theorem parse_range (l : List UInt8) (milli : Bool) (n a e : Int) (h : parseL ⟨l.toArray⟩ milli = (n, a, e)) :
    0 ≤ a ∧ a ≤ l.length ∧ 0 ≤ n ∧ n ≤ 1099511627776 ∧ (e ≠ 0 → n = 0) := by
  unfold parseL at h
  rcases hq : readL ⟨l.toArray⟩ 3 sufM with ⟨v, sc, a', e'⟩
  rw [hq] at h
  simp only at h
  by_cases he : e' = 0
  · subst he
    obtain ⟨hv0, hv1, hsc, k, hk⟩ := readL_ok suf_len hq
    have hs1 := suf_val hk
    rw [if_neg (by simp)] at h
    generalize hc : (if milli = true then sc * 1000 else sc) = c at h
    have hcp : 0 < c := by subst hc; split <;> omega
    by_cases h1 : 1099511627776000000 / c < v
    · rw [if_pos h1] at h
      cases h
      simp
    · rw [if_neg h1] at h
      by_cases h2 : v * c % 1000000 ≠ 0
      · rw [if_pos h2] at h
        cases h
        simp
      · rw [if_neg h2] at h
        cases h
        have h3 : v * c ≤ 1099511627776000000 := by
          have := mt (Int.ediv_lt_iff_lt_mul hcp).2 h1
          omega
        have h4 : 0 ≤ v * c := Int.mul_nonneg hv0 (Int.le_of_lt hcp)
        refine ⟨by omega, by omega, by omega, by omega, fun h => absurd rfl h⟩
  · rw [if_pos he] at h
    cases h
    rw [read_list l 3 sufM suf_ascii] at hq
    have hp := scan_pos 3 sufM l 0 rd0
    rcases hs : scanL 3 sufM l 0 rd0 with ⟨o, q⟩
    rw [hs] at hq hp
    cases o with
    | none =>
      simp only [Prod.mk.injEq] at hq
      obtain ⟨_, _, rfl, _⟩ := hq
      simp at hp ⊢
      omega
    | some r =>
      simp only at hq
      split at hq
      · simp only [Prod.mk.injEq] at hq
        obtain ⟨_, _, rfl, _⟩ := hq
        simp
      · simp only [Prod.mk.injEq] at hq
        obtain ⟨_, _, _, rfl⟩ := hq
        exact absurd rfl he

end Go.Proofs.YtgmecaaogmpakaaDoor
