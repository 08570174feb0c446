/- The document's reader of a policy's lines: numbers, shares, signs, names, and what a line does. Conditions: the words and the names lie in memory. -/
import Derived.Test.YthbplchbolghjaaGreatDoorParse
import Derived.Test.YthbplchbolghjaaGreatDoorPrint
import Derived.Test.YthbplchbolghjaaGreatDoorBase
import Derived.Test.YthbplchbolghjaaGreatDoorShelf
import Derived.WalkLawsBesides
import Derived.LoopN
import Derived.Laws.MathBits
import Derived.Laws.BitsAllLaws
import Derived.Test.YthbplchbolghjaaGreatDoorGNum
import Derived.Lib.AtoiTie
import Derived.Test.YthbplchbolghjaaGreatDoorGRead
import Derived.IntWalk
import Derived.Test.YthbplchbolghjaaGreatDoorGOn
import Derived.Test.YthbplchbolghjaaGreatDoorMa
import Derived.Test.YthbplchbolghjaaGreatDoorGParse
import Derived.Test.YthbplchbolghjaaGreatDoorGWordsM
namespace Go.Proofs.YthbplchbolghjaaGreatDoor.Qu
open Go.RowKit

/-- One byte, if it is ASCII. -/
def Rd.byte (r : Rd) (b : UInt8) (P : Nat) (m : List (List UInt8 × Int)) : Option Rd := if b.toNat < 128 then r.take b.toNat P m else none

/-- Byte by byte: what was read of all of it, or where it is wrong. -/
def scanL (P : Nat) (m : List (List UInt8 × Int)) : List UInt8 → Nat → Rd → Option Rd × Nat
  | [], pos, r => (some r, pos)
  | b :: t, pos, r => match r.byte b P m with
    | none => (none, pos)
    | some r' => scanL P m t (pos + 1) r'

/-- A code point's bytes. -/
def codeBytes (n : Nat) : ByteArray :=
  if n < 128 then ⟨#[UInt8.ofNat n]⟩
  else if n < 2048 then ⟨#[UInt8.ofNat (192 + n / 64), UInt8.ofNat (128 + n % 64)]⟩
  else if n < 65536 then ⟨#[UInt8.ofNat (224 + n / 4096), UInt8.ofNat (128 + n / 64 % 64), UInt8.ofNat (128 + n % 64)]⟩
  else ⟨#[UInt8.ofNat (240 + n / 262144), UInt8.ofNat (128 + n / 4096 % 64), UInt8.ofNat (128 + n / 64 % 64), UInt8.ofNat (128 + n % 64)]⟩
theorem encode_eq (r : Int) : Utf8.encode r = codeBytes (if Utf8.valid r = true then r.toNat else Utf8.runeError) := rfl
theorem code_ascii (n : Nat) (h : n < 128) : bytesOf (codeBytes n) = [UInt8.ofNat n] := by
  unfold codeBytes bytesOf
  rw [if_pos h]
theorem ofNat_ge {n : Nat} (h : 128 ≤ n) (h' : n < 256) : 128 ≤ (UInt8.ofNat n).toNat := by
  rw [UInt8.toNat_ofNat']
  omega
theorem code_high (n : Nat) (h1 : 128 ≤ n) (h2 : n ≤ 1114111) : ∃ b t, bytesOf (codeBytes n) = b :: t ∧ 128 ≤ b.toNat := by
  unfold codeBytes bytesOf
  rw [if_neg (by omega)]
  split
  · exact ⟨_, _, rfl, ofNat_ge (by omega) (by omega)⟩
  · split
    · exact ⟨_, _, rfl, ofNat_ge (by omega) (by omega)⟩
    · exact ⟨_, _, rfl, ofNat_ge (by omega) (by omega)⟩

theorem enc_ascii (c : Nat) (h : c < 128) : enc c = [UInt8.ofNat c] := by
  have hv : Utf8.valid (c : Int) = true := by
    unfold Utf8.valid
    simp
    omega
  unfold enc
  rw [encode_eq, if_pos hv, Int.toNat_natCast]
  exact code_ascii c h

/-- The bytes of a rune beyond ASCII: there is one that is not ASCII. -/
theorem enc_high (c : Nat) (h : 128 ≤ c) : ∃ b t, enc c = b :: t ∧ 128 ≤ b.toNat := by
  unfold enc
  rw [encode_eq]
  by_cases hv : Utf8.valid (c : Int) = true
  · rw [if_pos hv, Int.toNat_natCast]
    unfold Utf8.valid at hv
    simp at hv
    exact code_high c h (by omega)
  · rw [if_neg hv]
    exact code_high _ (by unfold Utf8.runeError; decide) (by unfold Utf8.runeError; decide)

/-- A table whose keys are ASCII. -/
def Ascii (m : List (List UInt8 × Int)) : Prop := ∀ k x, look m k = some x → ∀ b ∈ k, b.toNat < 128

theorem suf_ascii : Ascii sufM := by
  intro k x h
  simp only [sufM, look] at h
  repeat' (split at h)
  all_goals first | (rename_i e; subst e; decide) | (cases h)
theorem pct_ascii : Ascii pctM := by
  intro k x h
  simp only [pctM, look] at h
  repeat' (split at h)
  all_goals first | (rename_i e; subst e; decide) | (cases h)

theorem take_high {r : Rd} {c P : Nat} {m : List (List UInt8 × Int)} (hm : Ascii m) (h : 128 ≤ c) : r.take c P m = none := by
  unfold Rd.take
  rw [if_neg (by omega), if_neg (by omega)]
  unfold Rd.suffix
  by_cases hn : r.num = false
  · rw [if_pos hn]
  · rw [if_neg hn, if_neg]
    intro hs
    obtain ⟨x, hx⟩ := Option.isSome_iff_exists.1 hs
    obtain ⟨b, t, he, hb⟩ := enc_high c h
    have := hm _ x hx b (by rw [he]; simp)
    omega

theorem scan_list (s : ByteArray) (P : Nat) (m : List (List UInt8 × Int)) (hm : Ascii m) : ∀ (f pos : Nat) (r : Rd), s.size ≤ pos + f → scanF s P m f pos r = scanL P m (s.data.toList.drop pos) pos r
  | 0, pos, r, h => by
    rw [List.drop_eq_nil_of_le (by show s.size ≤ pos; omega)]
    rfl
  | f + 1, pos, r, h => by
    rw [scanF]
    by_cases hp : pos < s.size
    · rw [if_pos hp]
      have hd : s.data.toList.drop pos = s[pos] :: s.data.toList.drop (pos + 1) := by
        rw [List.drop_eq_getElem_cons (by simpa using hp)]
        rfl
      rw [hd, scanL]
      unfold Rd.byte
      by_cases ha : (s[pos]'hp).toNat < 128
      · rw [decode_ascii s pos hp ha, if_pos ha]
        simp only
        cases r.take (s[pos]'hp).toNat P m with
        | none => rfl
        | some r' => exact scan_list s P m hm f (pos + 1) r' (by omega)
      · rw [if_neg ha, take_high hm (decode_high s pos hp (by omega)).1]
    · rw [if_neg hp, List.drop_eq_nil_of_le (by show s.size ≤ pos; omega)]
      rfl

theorem scan_all (s : ByteArray) (P : Nat) (m : List (List UInt8 × Int)) (hm : Ascii m) : scanF s P m s.size 0 rd0 = scanL P m s.data.toList 0 rd0 := by
  rw [scan_list s P m hm s.size 0 rd0 (by omega)]
  rfl

theorem scan_append (P : Nat) (m : List (List UInt8 × Int)) : ∀ (a b : List UInt8) (pos : Nat) (r : Rd), scanL P m (a ++ b) pos r = match scanL P m a pos r with
    | (none, q) => (none, q)
    | (some r', q) => scanL P m b q r'
  | [], b, pos, r => rfl
  | x :: a, b, pos, r => by
    simp only [List.cons_append, scanL]
    cases r.byte x P m with
    | none => rfl
    | some r' => exact scan_append P m a b (pos + 1) r'

/-- Digits of a number, ahead of all else. -/
theorem scan_dec (P : Nat) (m : List (List UInt8 × Int)) (u : Nat) : ∀ (pos : Nat), u ≤ 1125899906842624 → scanL P m (Lib.decDigits u) pos rd0 = (some ⟨u, true, false, 0, []⟩, pos + (Lib.decDigits u).length) := by
  induction u using Nat.strongRecOn with
  | _ u ih =>
    intro pos hu
    by_cases h : u < 10
    · rw [Lib.decDigits_one h]
      have hb : (UInt8.ofNat (48 + u)).toNat = 48 + u := by rw [UInt8.toNat_ofNat']; omega
      simp only [scanL, Rd.byte, hb]
      rw [if_pos (by omega)]
      unfold Rd.take
      rw [if_pos (by omega)]
      unfold Rd.digit rd0
      simp only
      rw [if_neg (by simp), if_neg (by simp), if_neg (by simp), if_neg (by unfold enough; omega)]
      simp
      omega
    · rw [Lib.decDigits, dif_neg h, scan_append, ih (u / 10) (by omega) pos (by omega)]
      have hb : (UInt8.ofNat (48 + u % 10)).toNat = 48 + u % 10 := by rw [UInt8.toNat_ofNat']; omega
      simp only [scanL, Rd.byte, hb]
      rw [if_pos (by omega)]
      unfold Rd.take
      rw [if_pos (by omega)]
      unfold Rd.digit
      simp only
      rw [if_neg (by simp), if_neg (by simp), if_neg (by simp; omega), if_neg (by unfold enough; omega)]
      simp
      omega

end Go.Proofs.YthbplchbolghjaaGreatDoor.Qu

namespace Go.Proofs.YthbplchbolghjaaGreatDoor.Qu
open Go.RowKit

theorem data_l (l : List UInt8) : (⟨l.toArray⟩ : ByteArray).data.toList = l := by simp
theorem size_la (l : List UInt8) : (⟨l.toArray⟩ : ByteArray).size = l.length := size_l l

theorem read_list (l : List UInt8) (P : Nat) (m : List (List UInt8 × Int)) (hm : Ascii m) : readL ⟨l.toArray⟩ P m = match scanL P m l 0 rd0 with
    | (none, pos) => (0, 0, (pos : Int), 4)
    | (some r, _) => if r.num = false ∨ (look m r.s).getD 0 = 0 then (0, 0, (l.length : Int), 3) else (r.v * 10 ^ (P - r.k), (look m r.s).getD 0, 0, 0) := by
  unfold readL
  rw [scan_all _ P m hm, data_l, size_la]
  rfl

theorem read_ok (l : List UInt8) (P : Nat) (m : List (List UInt8 × Int)) (hm : Ascii m) (r : Rd) (sc : Int) (hs : (scanL P m l 0 rd0).1 = some r) (hn : r.num = true) (hl : look m r.s = some sc) (hz : sc ≠ 0) :
    readL ⟨l.toArray⟩ P m = (r.v * 10 ^ (P - r.k), sc, 0, 0) := by
  rw [read_list l P m hm]
  rcases h : scanL P m l 0 rd0 with ⟨o, q⟩
  rw [h] at hs
  simp only at hs
  subst hs
  simp only
  rw [hl, Option.getD_some, if_neg]
  rw [hn]
  simp
  exact hz

/-- A text that is whole. -/
theorem parse_whole (l : List UInt8) (milli : Bool) (r : Rd) (sc c x : Int) (hs : (scanL 3 sufM l 0 rd0).1 = some r) (hn : r.num = true) (hl : look sufM r.s = some sc) (hz : sc ≠ 0)
    (hc : (if milli = true then sc * 1000 else sc) = c) (hx : r.v * 10 ^ (3 - r.k) = x) :
    parseL ⟨l.toArray⟩ milli = if 1099511627776000000 / c < x then (0, 0, 10) else if x * c % 1000000 ≠ 0 then (0, 0, 4) else (x * c / 1000000, 0, 0) := by
  unfold parseL
  rw [read_ok l 3 sufM suf_ascii r sc hs hn hl hz, hx]
  subst hc
  rfl

/-- .. that says just a quantity. -/
theorem parse_says (l : List UInt8) (milli : Bool) (r : Rd) (sc c x n : Int) (hs : (scanL 3 sufM l 0 rd0).1 = some r) (hn : r.num = true) (hl : look sufM r.s = some sc)
    (hc : (if milli = true then sc * 1000 else sc) = c) (hx : r.v * 10 ^ (3 - r.k) = x) (hcp : 0 < c) (hp : x * c = n * 1000000) (hn1 : n ≤ 1099511627776) :
    parseL ⟨l.toArray⟩ milli = (n, 0, 0) := by
  have hz : sc ≠ 0 := by
    rintro rfl
    cases milli <;> simp at hc <;> omega
  rw [parse_whole l milli r sc c x hs hn hl hz hc hx, if_neg, if_neg]
  · rw [hp, Int.mul_ediv_cancel _ (by decide)]
  · rw [hp]
    simp
  · rw [Int.ediv_lt_iff_lt_mul hcp, hp]
    omega

theorem scan_dec' (P : Nat) (m : List (List UInt8 × Int)) (n : Int) (h0 : 0 ≤ n) (h1 : n ≤ 1125899906842624) (t : List UInt8) :
    scanL P m (dec n ++ t) 0 rd0 = scanL P m t (dec n).length ⟨n, true, false, 0, []⟩ := by
  rw [scan_append]
  unfold dec
  rw [scan_dec P m n.toNat 0 (by omega)]
  simp only [Nat.zero_add]
  rw [Int.toNat_of_nonneg h0]

/-- A suffix of one byte that is no digit and no point. -/
theorem scan_suf1 (P : Nat) (m : List (List UInt8 × Int)) (b : UInt8) (pos : Nat) (r : Rd) (x : Int) (hb : b.toNat < 128) (hd : ¬ (48 ≤ b.toNat ∧ b.toNat ≤ 57)) (hp : b.toNat ≠ 46) (hn : r.num = true) (hl : look m (r.s ++ [b]) = some x) (t : List UInt8) :
    scanL P m (b :: t) pos r = scanL P m t (pos + 1) { r with s := r.s ++ [b] } := by
  have e : enc b.toNat = [b] := by rw [enc_ascii _ hb]; simp
  simp only [scanL, Rd.byte]
  rw [if_pos hb]
  unfold Rd.take
  rw [if_neg hd, if_neg hp]
  unfold Rd.suffix
  rw [if_neg (by rw [hn]; simp), e, hl, if_pos (by rfl)]

theorem back_milli (n : Int) (h0 : 0 ≤ n) (h1 : n ≤ 1099511627776) : parseL ⟨(milliL n).toArray⟩ true = (n, 0, 0) := by
  unfold milliL
  by_cases hz : n % 1000 = 0
  · rw [if_pos hz]
    refine parse_says _ true ⟨n / 1000, true, false, 0, []⟩ 1000 1000000 (n / 1000 * 1000) n ?_ rfl rfl rfl rfl (by decide) (by omega) h1
    have h := scan_dec' 3 sufM (n / 1000) (by omega) (by omega) []
    rw [List.append_nil] at h
    rw [h]
    rfl
  · rw [if_neg hz]
    refine parse_says _ true ⟨n, true, false, 0, [109]⟩ 1 1000 (n * 1000) n ?_ rfl rfl rfl rfl (by decide) (by omega) h1
    rw [scan_dec' 3 sufM n h0 (by omega), scan_suf1 3 sufM 109 _ _ 1 (by decide) (by decide) (by decide) rfl rfl]
    rfl

theorem back_whole (n : Int) (h0 : 0 ≤ n) (h1 : n ≤ 1099511627776) : parseL ⟨(wholeL n).toArray⟩ false = (n, 0, 0) := by
  unfold wholeL
  by_cases hz : n = 0
  · rw [if_pos hz, hz]
    decide +kernel
  · rw [if_neg hz]
    by_cases hg : n % 1073741824 = 0
    · rw [if_pos hg]
      refine parse_says _ false ⟨n / 1073741824, true, false, 0, [71, 105]⟩ 1073741824000 1073741824000 (n / 1073741824 * 1000) n ?_ rfl rfl rfl rfl (by decide) (by omega) h1
      rw [scan_dec' 3 sufM _ (by omega) (by omega), scan_suf1 3 sufM 71 _ _ 1000000000000 (by decide) (by decide) (by decide) rfl rfl, scan_suf1 3 sufM 105 _ _ 1073741824000 (by decide) (by decide) (by decide) rfl rfl]
      rfl
    · rw [if_neg hg]
      by_cases hm : n % 1048576 = 0
      · rw [if_pos hm]
        refine parse_says _ false ⟨n / 1048576, true, false, 0, [77, 105]⟩ 1048576000 1048576000 (n / 1048576 * 1000) n ?_ rfl rfl rfl rfl (by decide) (by omega) h1
        rw [scan_dec' 3 sufM _ (by omega) (by omega), scan_suf1 3 sufM 77 _ _ 1000000000 (by decide) (by decide) (by decide) rfl rfl, scan_suf1 3 sufM 105 _ _ 1048576000 (by decide) (by decide) (by decide) rfl rfl]
        rfl
      · rw [if_neg hm]
        by_cases hk : n % 1024 = 0
        · rw [if_pos hk]
          refine parse_says _ false ⟨n / 1024, true, false, 0, [75, 105]⟩ 1024000 1024000 (n / 1024 * 1000) n ?_ rfl rfl rfl rfl (by decide) (by omega) h1
          rw [scan_dec' 3 sufM _ (by omega) (by omega), scan_suf1 3 sufM 75 _ _ 0 (by decide) (by decide) (by decide) rfl rfl, scan_suf1 3 sufM 105 _ _ 1024000 (by decide) (by decide) (by decide) rfl rfl]
          rfl
        · rw [if_neg hk]
          refine parse_says _ false ⟨n, true, false, 0, []⟩ 1000 1000 (n * 1000) n ?_ rfl rfl rfl rfl (by decide) (by omega) h1
          have h := scan_dec' 3 sufM n (by omega) (by omega) []
          rw [List.append_nil] at h
          rw [h]
          rfl

/-- What was printed is parsed as it was. -/
theorem back_print (n : Int) (milli : Bool) (h0 : 0 ≤ n) (h1 : n ≤ 1099511627776) : ∃ t, printL n milli = (t, 0) ∧ parseL ⟨t.toArray⟩ milli = (n, 0, 0) := by
  unfold printL
  rw [if_neg (by omega)]
  cases milli
  · exact ⟨_, rfl, back_whole n h0 h1⟩
  · exact ⟨_, rfl, back_milli n h0 h1⟩

theorem percent_says (l : List UInt8) (r : Rd) (n : Int) (hs : (scanL 1 pctM l 0 rd0).1 = some r) (hn : r.num = true) (hl : look pctM r.s = some 1) (hx : r.v * 10 ^ (1 - r.k) = n) (h1 : n ≤ 1000) :
    percentL ⟨l.toArray⟩ = (n, 0, 0) := by
  unfold percentL
  rw [read_ok l 1 pctM pct_ascii r 1 hs hn hl (by decide), hx]
  simp only
  rw [if_neg (by simp), if_neg (by omega), Int.mul_one]

theorem back_percent (n : Int) (h0 : 0 ≤ n) (h1 : n ≤ 1000) : ∃ t, pctL n = (t, 0) ∧ percentL ⟨t.toArray⟩ = (n, 0, 0) := by
  unfold pctL
  rw [if_neg (by omega)]
  by_cases hz : n % 10 = 0
  · rw [if_pos hz]
    refine ⟨_, rfl, percent_says _ ⟨n / 10, true, false, 0, [37]⟩ n ?_ rfl rfl ?_ h1⟩
    · rw [scan_dec' 1 pctM _ (by omega) (by omega), scan_suf1 1 pctM 37 _ _ 1 (by decide) (by decide) (by decide) rfl rfl]
      rfl
    · show n / 10 * 10 ^ (1 - 0) = n
      omega
  · rw [if_neg hz]
    refine ⟨_, rfl, percent_says _ ⟨n, true, true, 1, [37]⟩ n ?_ rfl rfl ?_ h1⟩
    · rw [List.append_assoc, List.append_assoc, scan_dec' 1 pctM _ (by omega) (by omega)]
      have hd : dec (n % 10) = [UInt8.ofNat (48 + (n % 10).toNat)] := by unfold dec; rw [Lib.decDigits_one (by omega)]
      have hb : (UInt8.ofNat (48 + (n % 10).toNat)).toNat = 48 + (n % 10).toNat := by rw [UInt8.toNat_ofNat']; omega
      rw [hd]
      generalize (dec (n / 10)).length = pos
      show (scanL 1 pctM (46 :: UInt8.ofNat (48 + (n % 10).toNat) :: [37]) pos _).1 = _
      have e1 : Rd.byte ⟨n / 10, true, false, 0, []⟩ 46 1 pctM = some ⟨n / 10, true, true, 0, []⟩ := rfl
      have e2 : Rd.byte ⟨n / 10, true, true, 0, []⟩ (UInt8.ofNat (48 + (n % 10).toNat)) 1 pctM = some ⟨n, true, true, 1, []⟩ := by
        unfold Rd.byte
        rw [hb, if_pos (by omega)]
        unfold Rd.take
        rw [if_pos (by omega)]
        unfold Rd.digit
        simp only
        rw [if_neg (by simp), if_pos trivial, if_neg (by simp)]
        simp
        omega
      rw [scanL, e1]
      simp only
      rw [scanL, e2]
      simp only
      rw [scan_suf1 1 pctM 37 _ _ 1 (by decide) (by decide) (by decide) rfl rfl]
      rfl
    · show n * 10 ^ (1 - 1) = n
      omega

/-- Where reading stops. -/
theorem scan_pos (P : Nat) (m : List (List UInt8 × Int)) : ∀ (l : List UInt8) (pos : Nat) (r : Rd), pos ≤ (scanL P m l pos r).2 ∧ (scanL P m l pos r).2 ≤ pos + l.length
  | [], pos, r => by simp [scanL]
  | b :: t, pos, r => by
    simp only [scanL]
    cases r.byte b P m with
    | none => simp
    | some r' =>
      have := scan_pos P m t (pos + 1) r'
      simp only [List.length_cons]
      omega

/-- Beside an error stands no number, and a place in the text; without one a quantity. -/
theorem parse_range (l : List UInt8) (milli : Bool) (n a e : Int) (h : parseL ⟨l.toArray⟩ milli = (n, a, e)) :
    0 ≤ a ∧ a ≤ l.length ∧ 0 ≤ n ∧ n ≤ 1099511627776 ∧ (e ≠ 0 → n = 0) := by
  unfold parseL at h
  rcases hq : readL ⟨l.toArray⟩ 3 sufM with ⟨v, sc, a', e'⟩
  rw [hq] at h
  simp only at h
  by_cases he : e' = 0
  · subst he
    obtain ⟨hv0, hv1, hsc, k, hk⟩ := readL_ok suf_len hq
    have hs1 := suf_val hk
    rw [if_neg (by simp)] at h
    generalize hc : (if milli = true then sc * 1000 else sc) = c at h
    have hcp : 0 < c := by subst hc; split <;> omega
    by_cases h1 : 1099511627776000000 / c < v
    · rw [if_pos h1] at h
      cases h
      simp
    · rw [if_neg h1] at h
      by_cases h2 : v * c % 1000000 ≠ 0
      · rw [if_pos h2] at h
        cases h
        simp
      · rw [if_neg h2] at h
        cases h
        have h3 : v * c ≤ 1099511627776000000 := by
          have := mt (Int.ediv_lt_iff_lt_mul hcp).2 h1
          omega
        have h4 : 0 ≤ v * c := Int.mul_nonneg hv0 (Int.le_of_lt hcp)
        refine ⟨by omega, by omega, by omega, by omega, fun h => absurd rfl h⟩
  · rw [if_pos he] at h
    cases h
    rw [read_list l 3 sufM suf_ascii] at hq
    have hp := scan_pos 3 sufM l 0 rd0
    rcases hs : scanL 3 sufM l 0 rd0 with ⟨o, q⟩
    rw [hs] at hq hp
    cases o with
    | none =>
      simp only [Prod.mk.injEq] at hq
      obtain ⟨_, _, rfl, _⟩ := hq
      simp at hp ⊢
      omega
    | some r =>
      simp only at hq
      split at hq
      · simp only [Prod.mk.injEq] at hq
        obtain ⟨_, _, rfl, _⟩ := hq
        simp
      · simp only [Prod.mk.injEq] at hq
        obtain ⟨_, _, _, rfl⟩ := hq
        exact absurd rfl he

end Go.Proofs.YthbplchbolghjaaGreatDoor.Qu

namespace Go.Proofs.YthbplchbolghjaaGreatDoor.Qu
open Go.RowKit

/-- A byte that is a digit. -/
def isDig (b : UInt8) : Prop := 48 ≤ b.toNat ∧ b.toNat ≤ 57

theorem getElem_list (s : ByteArray) (k : Nat) (h : k < s.size) : s.data.toList[k]? = some s[k] := by
  rw [List.getElem?_eq_getElem (by simpa using h)]
  rfl

set_option maxHeartbeats 400000 in
theorem digit_end (s : ByteArray) (k : Nat) (w : World) (hk : s.size ≤ k) :
    Calls Tryz.prog 145 #[.string s, .int .i64 (k : Int)] w fun e w' => e = .returned (.bool false) ∧ w = w' := by
  have i1 : ¬ (k : Int) < (s.size : Int) := by omega
  have i2 : ¬ k < s.size := by omega
  go_enter Tryz.func145, Tryz.ntmps145
  go_wp2
  go_ret
  exact ⟨rfl, rfl⟩

set_option maxHeartbeats 400000 in
theorem digit_yes (s : ByteArray) (k : Nat) (w : World) (hk : k < s.size) (hd : isDig s[k]) :
    Calls Tryz.prog 145 #[.string s, .int .i64 (k : Int)] w fun e w' => e = .returned (.bool true) ∧ w = w' := by
  obtain ⟨h1, h2⟩ := hd
  have i1 : (48 : Int) ≤ (s[k].toNat : Int) := by omega
  have i2 : (s[k].toNat : Int) ≤ 57 := by omega
  go_enter Tryz.func145, Tryz.ntmps145
  go_wp2
  go_ret
  exact ⟨rfl, rfl⟩

set_option maxHeartbeats 400000 in
theorem digit_no (s : ByteArray) (k : Nat) (w : World) (hk : k < s.size) (hd : ¬ isDig s[k]) :
    Calls Tryz.prog 145 #[.string s, .int .i64 (k : Int)] w fun e w' => e = .returned (.bool false) ∧ w = w' := by
  by_cases h1 : 48 ≤ s[k].toNat
  · have h2 : ¬ s[k].toNat ≤ 57 := fun h => hd ⟨h1, h⟩
    have i1 : (48 : Int) ≤ (s[k].toNat : Int) := by omega
    have i2 : ¬ (s[k].toNat : Int) ≤ 57 := by omega
    clear hd
    go_enter Tryz.func145, Tryz.ntmps145
    go_wp2
    go_ret
    exact ⟨rfl, rfl⟩
  · have i1 : ¬ (48 : Int) ≤ (s[k].toNat : Int) := by omega
    clear hd
    go_enter Tryz.func145, Tryz.ntmps145
    go_wp2
    go_ret
    exact ⟨rfl, rfl⟩

/-- Reading stands behind the first k bytes, with this read. -/
def Stands (s : ByteArray) (P : Nat) (m : List (List UInt8 × Int)) (k : Nat) (r : Rd) : Prop := k ≤ s.size ∧ scanL P m (s.data.toList.take k) 0 rd0 = (some r, k)

theorem Stands.start (s : ByteArray) (P : Nat) (m : List (List UInt8 × Int)) : Stands s P m 0 rd0 := ⟨Nat.zero_le _, rfl⟩

theorem Stands.step {s : ByteArray} {P : Nat} {m : List (List UInt8 × Int)} {k : Nat} {r r' : Rd} (h : Stands s P m k r) (hk : k < s.size) (hb : r.byte s[k] P m = some r') : Stands s P m (k + 1) r' := by
  refine ⟨hk, ?_⟩
  rw [List.take_add_one, getElem_list s k hk, scan_append, h.2]
  simp only [Option.toList_some, scanL, hb]

/-- A byte that can't stand: reading is wrong there. -/
theorem Stands.wrong {s : ByteArray} {P : Nat} {m : List (List UInt8 × Int)} (hm : Ascii m) {k : Nat} {r : Rd} (h : Stands s P m k r) (hk : k < s.size) (hb : r.byte s[k] P m = none) : readL s P m = (0, 0, (k : Int), 4) := by
  have e : s.data.toList = s.data.toList.take k ++ (s[k] :: s.data.toList.drop (k + 1)) := by
    conv => lhs; rw [← List.take_append_drop k s.data.toList]
    rw [List.drop_eq_getElem_cons (by simpa using hk)]
    rfl
  unfold readL
  rw [scan_all s P m hm, e, scan_append, h.2]
  simp only [scanL, hb]

/-- The end: what was read is all. -/
theorem Stands.all {s : ByteArray} {P : Nat} {m : List (List UInt8 × Int)} (hm : Ascii m) {k : Nat} {r : Rd} (h : Stands s P m k r) (hk : k = s.size) :
    readL s P m = if r.num = false ∨ (look m r.s).getD 0 = 0 then (0, 0, (s.size : Int), 3) else (r.v * 10 ^ (P - r.k), (look m r.s).getD 0, 0, 0) := by
  unfold readL
  have e : s.data.toList.take k = s.data.toList := List.take_of_length_le (by rw [hk]; exact Nat.le_refl _)
  have h2 := h.2
  rw [e] at h2
  rw [scan_all s P m hm, h2]

end Go.Proofs.YthbplchbolghjaaGreatDoor.Qu

namespace Go.Proofs.YthbplchbolghjaaGreatDoor.Qu
open Go.RowKit

theorem not_dig {r : Rd} {b : UInt8} {P : Nat} {m : List (List UInt8 × Int)} (hn : r.num = false) (hd : ¬ isDig b) (hp : r.b = false ∨ r.p = true) : r.byte b P m = none := by
  unfold Rd.byte
  by_cases h : b.toNat < 128
  · rw [if_pos h]
    unfold Rd.take
    rw [if_neg (show ¬ (48 ≤ b.toNat ∧ b.toNat ≤ 57) from hd)]
    by_cases hc : b.toNat = 46
    · rw [if_pos hc]
      unfold Rd.point
      rw [if_pos]
      rcases hp with hp | hp
      · exact .inl hp
      · exact .inr (.inl hp)
    · rw [if_neg hc]
      unfold Rd.suffix
      rw [if_pos hn]
  · rw [if_neg h]

theorem dig_step {n : Int} {k0 : Bool} {b : UInt8} {P : Nat} {m : List (List UInt8 × Int)} (hd : isDig b) (hz : ¬ (k0 = true ∧ n = 0)) :
    Rd.byte ⟨n, k0, false, 0, []⟩ b P m = some ⟨min (10 * n + ((b.toNat : Int) - 48)) 1125899906842624, true, false, 0, []⟩ := by
  unfold Rd.byte
  rw [if_pos (by have := hd.2; omega)]
  unfold Rd.take
  rw [if_pos (show 48 ≤ b.toNat ∧ b.toNat ≤ 57 from hd)]
  unfold Rd.digit
  simp only
  rw [if_neg (by simp), if_neg (by simp), if_neg hz]
  congr 2
  unfold enough
  split <;> omega
theorem dig_zero {b : UInt8} {P : Nat} {m : List (List UInt8 × Int)} (hd : isDig b) : Rd.byte ⟨0, true, false, 0, []⟩ b P m = none := by
  unfold Rd.byte
  rw [if_pos (by have := hd.2; omega)]
  unfold Rd.take
  rw [if_pos (show 48 ≤ b.toNat ∧ b.toNat ≤ 57 from hd)]
  unfold Rd.digit
  simp

def WholeOk (s : ByteArray) (P : Nat) (m : List (List UInt8 × Int)) (n : Int) (k : Nat) (e : Int) : Prop :=
  (e ≠ 0 ∧ n = 0 ∧ readL s P m = (0, 0, (k : Int), e)) ∨
  (e = 0 ∧ 0 ≤ n ∧ n ≤ 1125899906842624 ∧ Stands s P m k ⟨n, true, false, 0, []⟩ ∧ ∀ h : k < s.size, ¬ isDig s[k])
def WholePost (s : ByteArray) (P : Nat) (m : List (List UInt8 × Int)) (w : World) (e : Ending) (w' : World) : Prop :=
  ∃ (n : Int) (k : Nat) (x : Int), e = .returned (.tuple #[.int .i64 n, .int .i64 (k : Int), .int .i64 x]) ∧ WholeOk s P m n k x ∧ w = w'

def WholeRel (s : ByteArray) (P : Nat) (m : List (List UInt8 × Int)) (n : Int) (k : Nat) : Prop :=
  Stands s P m k ⟨n, decide (0 < k), false, 0, []⟩ ∧ 0 ≤ n ∧ n ≤ 1125899906842624 ∧ (∀ h : 0 < s.size, k = 1 → n = (s[0].toNat : Int) - 48) ∧ (2 ≤ k → 1 ≤ n)

set_option maxRecDepth 10000 in
set_option maxHeartbeats 1000000 in
theorem whole_any (s : ByteArray) (P : Nat) (m : List (List UInt8 × Int)) (hm : Ascii m) (w : World) (hs : s.size ≤ 5000) :
    Calls Tryz.prog 133 #[.string s] w (WholePost s P m w) := by
  have Hm := Lib.hid hm
  clear hm
  go_enter Tryz.func133, Tryz.ntmps133
  go_wp2
  go_loop [5, 6] (fun v i => ∃ (n : Int) (k : Nat), i = .int .i64 (k : Int) ∧ v = .int .i64 n ∧ WholeRel s P m n k) (fun _ i => s.size - (intOf i).toNat)
  case atStart => exact ⟨0, 0, rfl, rfl, Stands.start s P m, by decide, by decide, (fun _ h => by cases h), (fun h => by omega)⟩
  case round =>
    obtain ⟨n, k, rfl, rfl, hR⟩ := hrel
    have hks : k ≤ s.size := hR.1.1
    have hn0 := hR.2.1
    have hn1 := hR.2.2.1
    have HR := Lib.hid hR
    clear hR
    by_cases hd : ∃ h : k < s.size, isDig s[k]
    · obtain ⟨hk, hdig⟩ := hd
      have d0 := hdig.1
      have d1 := hdig.2
      have Hd := Lib.hid hdig
      clear hdig
      have i0 : (48 : Int) ≤ (s[k].toNat : Int) := by omega
      have i1 : (s[k].toNat : Int) ≤ 57 := by omega
      have Hstep : Hid (¬ (decide (0 < k) = true ∧ n = 0) → WholeRel s P m (min (10 * n + ((s[k].toNat : Int) - 48)) 1125899906842624) (k + 1)) := by
        show ¬ (decide (0 < k) = true ∧ n = 0) → _
        intro hz
        refine ⟨?_, by omega, by omega, ?_, ?_⟩
        · have := HR.out.1.step hk (dig_step Hd.out hz)
          simpa using this
        · intro h0 h1
          obtain rfl : k = 0 := by omega
          have hz0 : n = 0 := by
            have h2 := HR.out.1.2
            simp [scanL, rd0] at h2
            omega
          subst hz0
          omega
        · intro h2
          have h3 : n ≠ 0 := fun e => hz ⟨by simp; omega, e⟩
          omega
      by_cases hk1 : k = 1
      · subst hk1
        have h0 : 0 < s.size := by omega
        have hv := HR.out.2.2.2.1 h0 rfl
        by_cases hz : s[0].toNat = 48
        · have hzb : ((s[0].toNat : Int) == 48) = true := by simp [hz]
          have Hz := Lib.hid hz
          have Hv := Lib.hid hv
          clear hz hv
          go_wp2_with (go_at_call 145; refine (digit_yes s 1 _ hk Hd.out).mono ?_; rintro e w' ⟨rfl, rfl⟩)
          go_ret3
          refine ⟨0, 1, 4, rfl, .inl ⟨by decide, rfl, ?_⟩, rfl⟩
          have hn : n = 0 := by rw [Hv.out, Hz.out]; rfl
          subst hn
          exact HR.out.1.wrong Hm.out hk (dig_zero Hd.out)
        · have hzb : ((s[0].toNat : Int) == 48) = false := by rw [beq_eq_false_iff_ne]; omega
          have hnz : ¬ (decide (0 < 1) = true ∧ n = 0) := by rintro ⟨_, e⟩; omega
          have Hrel := Lib.hid (Hstep.out hnz)
          have Hz := Lib.hid hz
          have Hv := Lib.hid hv
          clear hz hv hnz
          go_wp2_with (go_at_call 145; refine (digit_yes s 1 _ hk Hd.out).mono ?_; rintro e w' ⟨rfl, rfl⟩)
          go_round
          case rel => exact ⟨_, 2, by go_num, rfl, Hrel.out⟩
          case measure => simp [intOf]; omega
      · have hkb : ((k : Int) == 1) = false := by rw [beq_eq_false_iff_ne]; omega
        have hnz : ¬ (decide (0 < k) = true ∧ n = 0) := by
          rintro ⟨h1, e⟩
          simp at h1
          have := HR.out.2.2.2.2 (by omega)
          omega
        have Hrel := Lib.hid (Hstep.out hnz)
        clear hnz hk1
        go_wp2_with (go_at_call 145; refine (digit_yes s k _ hk Hd.out).mono ?_; rintro e w' ⟨rfl, rfl⟩)
        go_round
        case rel => exact ⟨_, k + 1, by go_num, rfl, Hrel.out⟩
        case measure => simp [intOf]; omega
    · have hnd : ∀ h : k < s.size, ¬ isDig s[k] := fun h hh => hd ⟨h, hh⟩
      have Hnd := Lib.hid hnd
      clear hd hnd
      have Hcall : Hid (∀ W : World, Calls Tryz.prog 145 #[.string s, .int .i64 (k : Int)] W fun e w' => e = .returned (.bool false) ∧ W = w') := by
        intro W
        by_cases h : k < s.size
        · exact digit_no s k W h (Hnd.out h)
        · exact digit_end s k W (by omega)
      by_cases hk0 : k = 0
      · subst hk0
        have hn : n = 0 := by
          have h2 := HR.out.1.2
          simp [scanL, rd0] at h2
          omega
        subst hn
        by_cases hz : s.size = 0
        · have hzb : ((s.size : Int) == 0) = true := by simp [hz]
          have hall := HR.out.1.all Hm.out hz.symm
          have Hall := Lib.hid hall
          have Hz := Lib.hid hz
          clear hz hall
          go_wp2_with (go_at_call 145; refine (Hcall.out _).mono ?_; rintro e w' ⟨rfl, rfl⟩)
          go_ret3
          refine ⟨0, 0, 3, rfl, .inl ⟨by decide, rfl, ?_⟩, rfl⟩
          rw [Hall.out, if_pos (.inl rfl), Hz.out]
        · have hzb : ((s.size : Int) == 0) = false := by rw [beq_eq_false_iff_ne]; omega
          have h0 : 0 < s.size := by omega
          have hwr := HR.out.1.wrong Hm.out h0 (not_dig rfl (Hnd.out h0) (.inl rfl))
          have Hwr := Lib.hid hwr
          clear hz hwr
          go_wp2_with (go_at_call 145; refine (Hcall.out _).mono ?_; rintro e w' ⟨rfl, rfl⟩)
          go_ret3
          exact ⟨0, 0, 4, rfl, .inl ⟨by decide, rfl, Hwr.out⟩, rfl⟩
      · have hkb : ((k : Int) == 0) = false := by rw [beq_eq_false_iff_ne]; omega
        have Hk0 := Lib.hid hk0
        clear hk0
        go_wp2_with (go_at_call 145; refine (Hcall.out _).mono ?_; rintro e w' ⟨rfl, rfl⟩)
        go_ret3
        refine ⟨n, k, 0, rfl, .inr ⟨rfl, hn0, hn1, ?_, Hnd.out⟩, rfl⟩
        have h := HR.out.1
        rw [show decide (0 < k) = true by have := Hk0.out; simp; omega] at h
        exact h

end Go.Proofs.YthbplchbolghjaaGreatDoor.Qu

namespace Go.Proofs.YthbplchbolghjaaGreatDoor.Qu
open Go.RowKit

theorem place_step {v : Int} {j P : Nat} {b : UInt8} {m : List (List UInt8 × Int)} (hd : isDig b) (hj : j < P) :
    Rd.byte ⟨v, true, true, j, []⟩ b P m = some ⟨v * 10 + ((b.toNat : Int) - 48), true, true, j + 1, []⟩ := by
  unfold Rd.byte
  rw [if_pos (by have := hd.2; omega)]
  unfold Rd.take
  rw [if_pos (show 48 ≤ b.toNat ∧ b.toNat ≤ 57 from hd)]
  unfold Rd.digit
  simp only
  rw [if_neg (by simp), if_pos trivial, if_neg (by omega)]
theorem place_full {v : Int} {P : Nat} {b : UInt8} {m : List (List UInt8 × Int)} (hd : isDig b) : Rd.byte ⟨v, true, true, P, []⟩ b P m = none := by
  unfold Rd.byte
  rw [if_pos (by have := hd.2; omega)]
  unfold Rd.take
  rw [if_pos (show 48 ≤ b.toNat ∧ b.toNat ≤ 57 from hd)]
  unfold Rd.digit
  simp
theorem point_step {n : Int} {b : UInt8} {P : Nat} {m : List (List UInt8 × Int)} (hb : b.toNat = 46) : Rd.byte ⟨n, true, false, 0, []⟩ b P m = some ⟨n, true, true, 0, []⟩ := by
  unfold Rd.byte
  rw [if_pos (by omega)]
  unfold Rd.take
  rw [if_neg (by omega), if_pos hb]
  rfl
theorem point_again {v : Int} {j P : Nat} {b : UInt8} {m : List (List UInt8 × Int)} (hb : b.toNat = 46) : Rd.byte ⟨v, true, true, j, []⟩ b P m = none := by
  unfold Rd.byte
  rw [if_pos (by omega)]
  unfold Rd.take
  rw [if_neg (by omega), if_pos hb]
  unfold Rd.point
  simp

/-- A digit or a point can't stand next. -/
def Shut (s : ByteArray) (P : Nat) (m : List (List UInt8 × Int)) (k : Nat) (r : Rd) : Prop := ∀ h : k < s.size, isDig s[k] ∨ s[k].toNat = 46 → r.byte s[k] P m = none

def PointOk (s : ByteArray) (P : Nat) (m : List (List UInt8 × Int)) (n f : Int) (k : Nat) (e : Int) : Prop :=
  (e ≠ 0 ∧ f = 0 ∧ readL s P m = (0, 0, (k : Int), e)) ∨
  (e = 0 ∧ 0 ≤ f ∧ f < 10 ^ P ∧ ∃ r : Rd, Stands s P m k r ∧ r.s = [] ∧ r.num = true ∧ r.v * 10 ^ (P - r.k) = n * 10 ^ P + f ∧ Shut s P m k r)
def PointPost (s : ByteArray) (P : Nat) (m : List (List UInt8 × Int)) (n : Int) (w : World) (e : Ending) (w' : World) : Prop :=
  ∃ (f : Int) (k : Nat) (x : Int), e = .returned (.tuple #[.int .i64 f, .int .i64 (k : Int), .int .i64 x]) ∧ PointOk s P m n f k x ∧ w = w'

theorem pow_small {P j : Nat} (hP : P ≤ 3) (hj : j ≤ P) : (1 : Int) ≤ 10 ^ j ∧ (10 : Int) ^ j ≤ 1000 := by
  have : j = 0 ∨ j = 1 ∨ j = 2 ∨ j = 3 := by omega
  rcases this with rfl | rfl | rfl | rfl <;> decide

theorem place_small {f : Int} {j t P : Nat} (h0 : 0 ≤ f) (h1 : f < 10 ^ j) (hP : P ≤ 3) (ht : j + t ≤ P) : 0 ≤ f * 10 ^ t ∧ f * 10 ^ t ≤ 1000 := by
  have hp : (0 : Int) < 10 ^ t := Int.pow_pos (by decide)
  have h2 := Int.mul_lt_mul_of_pos_right h1 hp
  rw [← Int.pow_add] at h2
  have h3 := (pow_small hP ht).2
  exact ⟨Int.mul_nonneg h0 (Int.le_of_lt hp), by omega⟩

set_option maxRecDepth 10000 in
set_option maxHeartbeats 2000000 in
theorem point_any (s : ByteArray) (P k : Nat) (m : List (List UInt8 × Int)) (n : Int) (hm : Ascii m) (w : World) (hs : s.size ≤ 5000) (hP : P ≤ 3) (hP0 : 1 ≤ P)
    (hS : Stands s P m k ⟨n, true, false, 0, []⟩) (hnd : ∀ h : k < s.size, ¬ isDig s[k]) :
    Calls Tryz.prog 134 #[.string s, .int .i64 (k : Int), .int .i64 (P : Int)] w (PointPost s P m n w) := by
  have Hm := Lib.hid hm
  have hks := hS.1
  have HS := Lib.hid hS
  have Hnd := Lib.hid hnd
  clear hm hS hnd
  by_cases hk : k < s.size
  · by_cases hp : s[k].toNat = 46
    · have hpb : ((s[k].toNat : Int) != 46) = false := by simp [hp]
      have i1 : ¬ (s.size : Int) ≤ (k : Int) := by omega
      have HS1 := Lib.hid (HS.out.step hk (point_step hp))
      have Hp := Lib.hid hp
      clear hp
      go_enter Tryz.func134, Tryz.ntmps134
      go_wp2
      go_loop [1, 10] (fun i v => ∃ (q j : Nat) (f : Int), q = k + 1 + j ∧ j ≤ P ∧ i = .int .i64 (q : Int) ∧ v = .int .i64 f ∧ 0 ≤ f ∧ f < 10 ^ j ∧ Stands s P m q ⟨n * 10 ^ j + f, true, true, j, []⟩) (fun i _ => s.size - (intOf i).toNat)
      case atStart => exact ⟨k + 1, 0, 0, rfl, by omega, by simp, rfl, by decide, by decide, by simpa using HS1.out⟩
      case round =>
        obtain ⟨q, j, f, hq, hj, rfl, rfl, hf0, hf1, hSt⟩ := hrel
        have hjs : q ≤ s.size := hSt.1
        have hq1 : k + 1 + j ≤ q := by omega
        have hq2 : q ≤ k + 1 + j := by omega
        have hpw := pow_small hP hj
        have hf2 : f < 1000 := by omega
        have HSt := Lib.hid hSt
        have Hf1 := Lib.hid hf1
        have Hpw := Lib.hid hpw
        have Hq := Lib.hid hq
        clear hSt hf1 hpw hq
        by_cases hd : ∃ h : q < s.size, isDig s[q] ∧ j < P
        · obtain ⟨hk1, hdig, hjP⟩ := hd
          have d0 := hdig.1
          have d1 := hdig.2
          have i2 : (48 : Int) ≤ (s[q].toNat : Int) := by omega
          have i3 : (s[q].toNat : Int) ≤ 57 := by omega
          have i4 : (q : Int) < (k : Int) + 1 + (P : Int) := by omega
          have HSt2 := Lib.hid (HSt.out.step hk1 (place_step hdig hjP))
          have Hd := Lib.hid hdig
          clear hdig
          go_wp2_with (go_at_call 145; refine (digit_yes s q _ hk1 Hd.out).mono ?_; rintro e w' ⟨rfl, rfl⟩)
          go_round
          case rel =>
            refine ⟨q + 1, j + 1, _, by omega, by omega, by go_num, rfl, by omega, ?_, ?_⟩
            · have := Hf1.out
              rw [Int.pow_succ]
              omega
            · have h := HSt2.out
              have e : (n * 10 ^ j + f) * 10 + ((s[q].toNat : Int) - 48) = n * 10 ^ (j + 1) + (10 * f + ((s[q].toNat : Int) - 48)) := by
                rw [Int.pow_succ, ← Int.mul_assoc]
                omega
              rw [e] at h
              exact h
          case measure => simp [intOf]; omega
        · by_cases hfull : ∃ h : q < s.size, isDig s[q]
          · obtain ⟨hk1, hdig⟩ := hfull
            have hjP : j = P := by
              have : ¬ j < P := fun h => hd ⟨hk1, hdig, h⟩
              omega
            have Hshut : Hid (Shut s P m q ⟨n * 10 ^ j + f, true, true, j, []⟩) := by
              rintro h (h1 | h1)
              · rw [hjP]
                exact place_full h1
              · exact point_again h1
            have hj0 : 1 ≤ j := by omega
            have i4 : ¬ (q : Int) < (k : Int) + 1 + (P : Int) := by omega
            have Hd := Lib.hid hdig
            clear hd hdig hjP
            have hfb : ((q : Int) == (k : Int) + 1) = false := by rw [beq_eq_false_iff_ne]; omega
            go_wp2_with (go_at_call 145; refine (digit_yes s q _ hk1 Hd.out).mono ?_; rintro e w' ⟨rfl, rfl⟩)
            go_loop [10, 11] (fun v i => ∃ t : Nat, j + t ≤ P ∧ i = .int .i64 ((j + t : Nat) : Int) ∧ v = .int .i64 (f * 10 ^ t)) (fun _ i => P - (intOf i).toNat)
            case atStart => exact ⟨0, by omega, congrArg (Value.int .i64) (by have := Hq.out; omega), by simp⟩
            case round =>
              obtain ⟨t, ht, rfl, rfl⟩ := hrel
              have hx := place_small hf0 Hf1.out hP ht
              obtain ⟨hx0, hx1⟩ := hx
              by_cases hlt : j + t < P
              · exfalso; omega
              · have i5 : ¬ ((j + t : Nat) : Int) < (P : Int) := by omega
                have Ht : Hid (P - j = t) := by show P - j = t; omega
                go_wp2
                go_ret3
                refine ⟨f * 10 ^ t, q, 0, rfl, .inr ⟨rfl, hx0, ?_, _, HSt.out, rfl, by simp [Rd.num]; omega, ?_, ?_⟩, rfl⟩
                · have e : (10 : Int) ^ P = 10 ^ j * 10 ^ t := by rw [← Int.pow_add]; congr 1; omega
                  rw [e]
                  exact Int.mul_lt_mul_of_pos_right Hf1.out (Int.pow_pos (by decide))
                · show (n * 10 ^ j + f) * 10 ^ (P - j) = _
                  have e : (10 : Int) ^ P = 10 ^ j * 10 ^ t := by rw [← Int.pow_add]; congr 1; omega
                  rw [Ht.out, e, Int.add_mul, Int.mul_assoc]
                · exact Hshut.out
          · have hnd2 : ∀ h : q < s.size, ¬ isDig s[q] := fun h hh => hfull ⟨h, hh⟩
            have Hnd2 := Lib.hid hnd2
            have Hcall : Hid (∀ W : World, Calls Tryz.prog 145 #[.string s, .int .i64 (q : Int)] W fun e w' => e = .returned (.bool false) ∧ W = w') := by
              intro W
              by_cases h : q < s.size
              · exact digit_no s q W h (Hnd2.out h)
              · exact digit_end s q W (by omega)
            clear hd hfull hnd2
            by_cases hj0 : j = 0
            · subst hj0
              have hfb : ((q : Int) == (k : Int) + 1) = true := by rw [beq_iff_eq]; omega
              by_cases hend : q < s.size
              · have heb : ((q : Int) == (s.size : Int)) = false := by rw [beq_eq_false_iff_ne]; omega
                have Hwr := Lib.hid (HSt.out.wrong Hm.out hend (not_dig rfl (Hnd2.out hend) (.inr rfl)))
                go_wp2_with (go_at_call 145; refine (Hcall.out _).mono ?_; rintro e w' ⟨rfl, rfl⟩)
                go_ret3
                exact ⟨0, q, 4, rfl, .inl ⟨by decide, rfl, Hwr.out⟩, rfl⟩
              · have heb : ((q : Int) == (s.size : Int)) = true := by rw [beq_iff_eq]; omega
                have Hall := Lib.hid (HSt.out.all Hm.out (by omega))
                have Hqs : Hid ((q : Int) = (s.size : Int)) := by show (q : Int) = _; omega
                go_wp2_with (go_at_call 145; refine (Hcall.out _).mono ?_; rintro e w' ⟨rfl, rfl⟩)
                go_ret3
                refine ⟨0, q, 3, rfl, .inl ⟨by decide, rfl, ?_⟩, rfl⟩
                rw [Hall.out, if_pos (.inl rfl), Hqs.out]
            · have Hshut : Hid (Shut s P m q ⟨n * 10 ^ j + f, true, true, j, []⟩) := by
                rintro h (h1 | h1)
                · exact absurd h1 (Hnd2.out h)
                · exact point_again h1
              have hfb : ((q : Int) == (k : Int) + 1) = false := by rw [beq_eq_false_iff_ne]; omega
              go_wp2_with (go_at_call 145; refine (Hcall.out _).mono ?_; rintro e w' ⟨rfl, rfl⟩)
              go_loop [10, 11] (fun v i => ∃ t : Nat, j + t ≤ P ∧ i = .int .i64 ((j + t : Nat) : Int) ∧ v = .int .i64 (f * 10 ^ t)) (fun _ i => P - (intOf i).toNat)
              case atStart => exact ⟨0, by omega, congrArg (Value.int .i64) (by have := Hq.out; omega), by simp⟩
              case round =>
                obtain ⟨t, ht, rfl, rfl⟩ := hrel
                have hx := place_small hf0 Hf1.out hP ht
                obtain ⟨hx0, hx1⟩ := hx
                by_cases hlt : j + t < P
                · have i5 : ((j + t : Nat) : Int) < (P : Int) := by omega
                  have Hpow : Hid (f * 10 ^ (t + 1) = 10 * (f * 10 ^ t)) := by
                    show f * 10 ^ (t + 1) = 10 * (f * 10 ^ t)
                    rw [Int.pow_succ, ← Int.mul_assoc, Int.mul_comm]
                  generalize f * 10 ^ t = x at hx0 hx1 Hpow ⊢
                  go_wp2
                  go_round
                  case rel => exact ⟨t + 1, by omega, by go_num, by rw [Hpow.out]⟩
                  case measure => simp [intOf]; omega
                · have i5 : ¬ ((j + t : Nat) : Int) < (P : Int) := by omega
                  have Ht : Hid (P - j = t) := by show P - j = t; omega
                  go_wp2
                  go_ret3
                  refine ⟨f * 10 ^ t, q, 0, rfl, .inr ⟨rfl, hx0, ?_, _, HSt.out, rfl, by simp [Rd.num]; omega, ?_, ?_⟩, rfl⟩
                  · have e : (10 : Int) ^ P = 10 ^ j * 10 ^ t := by rw [← Int.pow_add]; congr 1; omega
                    rw [e]
                    exact Int.mul_lt_mul_of_pos_right Hf1.out (Int.pow_pos (by decide))
                  · show (n * 10 ^ j + f) * 10 ^ (P - j) = _
                    have e : (10 : Int) ^ P = 10 ^ j * 10 ^ t := by rw [← Int.pow_add]; congr 1; omega
                    rw [Ht.out, e, Int.add_mul, Int.mul_assoc]
                  · exact Hshut.out
    · have hpb : ((s[k].toNat : Int) != 46) = true := by rw [bne_iff_ne]; omega
      have i1 : ¬ (s.size : Int) ≤ (k : Int) := by omega
      have Hp := Lib.hid hp
      clear hp
      go_enter Tryz.func134, Tryz.ntmps134
      go_wp2
      go_ret3
      refine ⟨0, k, 0, rfl, .inr ⟨rfl, by decide, Int.pow_pos (by decide), _, HS.out, rfl, rfl, by simp, ?_⟩, rfl⟩
      rintro h (hd | hd)
      · exact absurd hd (Hnd.out h)
      · exact absurd hd Hp.out
  · have i1 : (s.size : Int) ≤ (k : Int) := by omega
    go_enter Tryz.func134, Tryz.ntmps134
    go_wp2
    go_ret3
    exact ⟨0, k, 0, rfl, .inr ⟨rfl, by decide, Int.pow_pos (by decide), _, HS.out, rfl, rfl, by simp, fun h => absurd h hk⟩, rfl⟩

end Go.Proofs.YthbplchbolghjaaGreatDoor.Qu

namespace Go.Proofs.YthbplchbolghjaaGreatDoor.Qu
open Go.RowKit

theorem suf_plain : ∀ k x, look sufM k = some x → ∀ b ∈ k, ¬ isDig b ∧ b.toNat ≠ 46 := by
  intro k x h
  simp only [sufM, look] at h
  unfold isDig
  repeat' (split at h)
  all_goals first | (rename_i e; subst e; decide) | (cases h)

/-- A byte behind a number: it makes a longer suffix, or can't stand. -/
theorem suf_byte {r : Rd} {b : UInt8} (hn : r.num = true) (hb : ¬ isDig b ∧ b.toNat ≠ 46 ∨ r.s ≠ []) : r.byte b 3 sufM = if (look sufM (r.s ++ [b])).isSome then some { r with s := r.s ++ [b] } else none := by
  unfold Rd.byte
  by_cases h : b.toNat < 128
  · rw [if_pos h]
    have e : enc b.toNat = [b] := by rw [enc_ascii _ h]; simp
    by_cases hd : isDig b
    · have hs : r.s ≠ [] := by
        rcases hb with hb | hb
        · exact absurd hd hb.1
        · exact hb
      unfold Rd.take
      rw [if_pos (show 48 ≤ b.toNat ∧ b.toNat ≤ 57 from hd)]
      unfold Rd.digit
      rw [if_pos hs, if_neg]
      intro hl
      obtain ⟨x, hx⟩ := Option.isSome_iff_exists.1 hl
      exact (suf_plain _ x hx b (by simp)).1 hd
    · unfold Rd.take
      rw [if_neg (show ¬ (48 ≤ b.toNat ∧ b.toNat ≤ 57) from hd)]
      by_cases hp : b.toNat = 46
      · have hs : r.s ≠ [] := by
          rcases hb with hb | hb
          · exact absurd hp hb.2
          · exact hb
        rw [if_pos hp]
        unfold Rd.point
        rw [if_pos (.inr (.inr hs)), if_neg]
        intro hl
        obtain ⟨x, hx⟩ := Option.isSome_iff_exists.1 hl
        exact (suf_plain _ x hx b (by simp)).2 hp
      · rw [if_neg hp]
        unfold Rd.suffix
        rw [if_neg (by rw [hn]; simp), e]
  · rw [if_neg h, if_neg]
    intro hl
    obtain ⟨x, hx⟩ := Option.isSome_iff_exists.1 hl
    exact h (suf_ascii _ x hx b (by simp))

theorem u8_eq {b : UInt8} {n : Nat} (h : b.toNat = n) : b = UInt8.ofNat n := by
  rw [← h]
  simp

/-- What stands at a place, as the walk asks it. -/
theorem look_one {b : UInt8} {x : Int} (h : look sufM [b] = some x) : b.toNat = 109 ∨ b.toNat = 107 ∨ b.toNat = 77 ∨ b.toNat = 71 ∨ b.toNat = 75 := by
  simp only [sufM, look] at h
  repeat' (split at h)
  all_goals first | (cases h; done) | (rename_i e; simp at e; done) | (rename_i e; simp at e; subst e; decide)
theorem look_two {c b : UInt8} {x : Int} (h : look sufM [c, b] = some x) : b.toNat = 105 ∧ (c.toNat = 75 ∨ c.toNat = 77 ∨ c.toNat = 71) := by
  simp only [sufM, look] at h
  repeat' (split at h)
  all_goals first | (cases h; done) | (rename_i e; simp at e; done) | (rename_i e; simp at e; obtain ⟨rfl, rfl⟩ := e; decide)
theorem look_three {c b d : UInt8} {x : Int} (h : look sufM [c, b, d] = some x) : False := by
  simp only [sufM, look] at h
  repeat' (split at h)
  all_goals first | (cases h; done) | (rename_i e; simp at e; done)

def SufOk (s : ByteArray) (r : Rd) (sc : Int) (k : Nat) (e : Int) : Prop :=
  (e ≠ 0 ∧ sc = 0 ∧ readL s 3 sufM = (0, 0, (k : Int), e)) ∨ (e = 0 ∧ 1 ≤ sc ∧ sc ≤ 1073741824000 ∧ readL s 3 sufM = (r.v * 10 ^ (3 - r.k), sc, 0, 0))
def SufPost (s : ByteArray) (r : Rd) (w : World) (e : Ending) (w' : World) : Prop :=
  ∃ (sc : Int) (k : Nat) (x : Int), e = .returned (.tuple #[.int .i64 sc, .int .i64 (k : Int), .int .i64 x]) ∧ SufOk s r sc k x ∧ w = w'

section
variable {s : ByteArray} {k : Nat} {r : Rd} {c : UInt8}
theorem suf_first (h : Stands s 3 sufM k r) (hk : k < s.size) (hs : r.s = []) (hn : r.num = true) (x : Int) (hl : look sufM [s[k]] = some x) : Stands s 3 sufM (k + 1) { r with s := [s[k]] } := by
  have hp := suf_plain _ x hl s[k] (by simp)
  refine h.step hk ?_
  rw [suf_byte hn (.inl hp), hs, List.nil_append, hl]
  rfl
theorem suf_second (h : Stands s 3 sufM (k + 1) { r with s := [c] }) (hk : k + 1 < s.size) (hn : r.num = true) (x : Int) (hl : look sufM [c, s[k + 1]] = some x) : Stands s 3 sufM (k + 2) { r with s := [c, s[k + 1]] } := by
  refine h.step hk ?_
  rw [suf_byte (r := { r with s := [c] }) hn (.inr (by simp))]
  show (if (look sufM [c, s[k + 1]]).isSome then _ else _) = _
  rw [hl]
  rfl
theorem suf_wrong1 (h : Stands s 3 sufM (k + 1) { r with s := [c] }) (hk : k + 1 < s.size) (hn : r.num = true) (hno : ¬ (s[k + 1].toNat = 105 ∧ (c.toNat = 75 ∨ c.toNat = 77 ∨ c.toNat = 71))) : readL s 3 sufM = (0, 0, ((k + 1 : Nat) : Int), 4) := by
  refine h.wrong suf_ascii hk ?_
  rw [suf_byte (r := { r with s := [c] }) hn (.inr (by simp)), if_neg]
  intro hl
  obtain ⟨x, hx⟩ := Option.isSome_iff_exists.1 hl
  exact hno (look_two hx)
theorem suf_wrong2 {c d : UInt8} (h : Stands s 3 sufM (k + 2) { r with s := [c, d] }) (hk : k + 2 < s.size) (hn : r.num = true) : readL s 3 sufM = (0, 0, ((k + 2 : Nat) : Int), 4) := by
  refine h.wrong suf_ascii hk ?_
  rw [suf_byte (r := { r with s := [c, d] }) hn (.inr (by simp)), if_neg]
  intro hl
  obtain ⟨x, hx⟩ := Option.isSome_iff_exists.1 hl
  exact look_three hx
theorem suf_wrong0 (h : Stands s 3 sufM k r) (hk : k < s.size) (hs : r.s = []) (hn : r.num = true) (hsh : Shut s 3 sufM k r) (hno : s[k].toNat ≠ 109 ∧ s[k].toNat ≠ 107 ∧ s[k].toNat ≠ 77 ∧ s[k].toNat ≠ 71 ∧ s[k].toNat ≠ 75) : readL s 3 sufM = (0, 0, (k : Int), 4) := by
  refine h.wrong suf_ascii hk ?_
  by_cases hd : isDig s[k] ∨ s[k].toNat = 46
  · exact hsh hk hd
  · rw [suf_byte hn (.inl ⟨fun x => hd (.inl x), fun x => hd (.inr x)⟩), hs, if_neg]
    intro hl
    obtain ⟨x, hx⟩ := Option.isSome_iff_exists.1 hl
    rcases look_one hx with e | e | e | e | e
    · exact hno.1 e
    · exact hno.2.1 e
    · exact hno.2.2.1 e
    · exact hno.2.2.2.1 e
    · exact hno.2.2.2.2 e
theorem suf_all {t : List UInt8} {j : Nat} (h : Stands s 3 sufM j { r with s := t }) (hj : j = s.size) (hn : r.num = true) (sc : Int) (hl : look sufM t = some sc) (hz : sc ≠ 0) : readL s 3 sufM = (r.v * 10 ^ (3 - r.k), sc, 0, 0) := by
  rw [h.all suf_ascii hj]
  have hn' : ({ r with s := t } : Rd).num = true := hn
  rw [hn', hl, Option.getD_some, if_neg (by simp; exact hz)]
theorem suf_trunc {t : List UInt8} {j : Nat} (h : Stands s 3 sufM j { r with s := t }) (hj : j = s.size) (hl : look sufM t = some 0) : readL s 3 sufM = (0, 0, (j : Int), 3) := by
  rw [h.all suf_ascii hj, hl, if_pos (.inr rfl), hj]
end

end Go.Proofs.YthbplchbolghjaaGreatDoor.Qu

namespace Go.Proofs.YthbplchbolghjaaGreatDoor.Qu
open Go.RowKit

theorem ret2U {a b c d : Int} (h : a = c) (k : b = d) : Ending.returned (.tuple #[.int .u64 a, .int .u64 b]) = .returned (.tuple #[.int .u64 c, .int .u64 d]) := by rw [h, k]

theorem or_add_54 (hi lo : Int) (h0 : 0 ≤ lo) (h1 : lo < 18446744073709551616) (hh : 0 ≤ hi) (hh1 : hi < 1000) : bits .or .u64 (hi * 18014398509481984) (lo / 1024) = hi * 18014398509481984 + lo / 1024 := by
  rw [u64_or _ _ (by omega) (by omega) (by omega) (by omega)]
  obtain ⟨a, rfl⟩ := Int.eq_ofNat_of_zero_le hh
  obtain ⟨b, hb⟩ := Int.eq_ofNat_of_zero_le (show 0 ≤ lo / 1024 by omega)
  rw [hb]
  have hb2 : b < 2 ^ 54 := by omega
  have e : (((a : Int) * 18014398509481984).toNat) = a <<< 54 := by rw [Nat.shiftLeft_eq]; omega
  rw [e, Int.toNat_natCast, ← Nat.shiftLeft_add_eq_or_of_lt hb2, Nat.shiftLeft_eq]
  omega

theorem or_add_44 (hi lo : Int) (h0 : 0 ≤ lo) (h1 : lo < 18446744073709551616) (hh : 0 ≤ hi) (hh1 : hi < 1000000) : bits .or .u64 (hi * 17592186044416) (lo / 1048576) = hi * 17592186044416 + lo / 1048576 := by
  rw [u64_or _ _ (by omega) (by omega) (by omega) (by omega)]
  obtain ⟨a, rfl⟩ := Int.eq_ofNat_of_zero_le hh
  obtain ⟨b, hb⟩ := Int.eq_ofNat_of_zero_le (show 0 ≤ lo / 1048576 by omega)
  rw [hb]
  have hb2 : b < 2 ^ 44 := by omega
  have e : (((a : Int) * 17592186044416).toNat) = a <<< 44 := by rw [Nat.shiftLeft_eq]; omega
  rw [e, Int.toNat_natCast, ← Nat.shiftLeft_add_eq_or_of_lt hb2, Nat.shiftLeft_eq]
  omega

/-- Plain words of the division by 1000. -/
theorem div_1000_plain (hi lo U L X1 Q1 R1 V Q0 R0 : Int) (h0 : 0 ≤ lo) (h1 : lo < 18446744073709551616) (_hh : 0 ≤ hi) (_hh1 : hi < 1000)
    (hU : U = hi * 18014398509481984 + lo / 1024) (hL : L = lo * 18014398509481984 % 18446744073709551616) (hX : X1 = L / 4294967296) (hQ : Q1 = U / 4194304000) (hR : R1 = U - Q1 * 4194304000)
    (hV : V = R1 * 4294967296 + X1) (hQ0 : Q0 = V / 4194304000) (hR0 : R0 = V - Q0 * 4194304000) :
    Q1 * 4294967296 + Q0 = (hi * 18446744073709551616 + lo) / 1000 ∧ R0 / 4194304 = (hi * 18446744073709551616 + lo) % 1000 ∧ L % 4294967296 = 0 ∧ R0 % 4194304 = 0 := by
  obtain ⟨a, b, rfl, hb0, hb1⟩ : ∃ a b, lo = a * 1024 + b ∧ 0 ≤ b ∧ b < 1024 := ⟨lo / 1024, lo % 1024, by omega, by omega, by omega⟩
  have hUa : U = hi * 18014398509481984 + a := by omega
  have hLb : L = b * 18014398509481984 := by omega
  have hXb : X1 = b * 4194304 := by omega
  have hN : U * 4294967296 + X1 = (hi * 18446744073709551616 + (a * 1024 + b)) * 4194304 := by omega
  have hV2 : V = (hi * 18446744073709551616 + (a * 1024 + b)) * 4194304 - Q1 * 18014398509481984000 := by omega
  clear hU hL hX hUa
  generalize hi * 18446744073709551616 + (a * 1024 + b) = N at *
  refine ⟨by omega, by omega, by omega, by omega⟩

/-- Plain words of the division by 1000000. -/
theorem div_million_plain (hi lo U L X1 Q1 R1 V Q0 R0 : Int) (h0 : 0 ≤ lo) (h1 : lo < 18446744073709551616) (_hh : 0 ≤ hi) (_hh1 : hi < 1000000)
    (hU : U = hi * 17592186044416 + lo / 1048576) (hL : L = lo * 17592186044416 % 18446744073709551616) (hX : X1 = L / 4294967296) (hQ : Q1 = U / 4096000000) (hR : R1 = U - Q1 * 4096000000)
    (hV : V = R1 * 4294967296 + X1) (hQ0 : Q0 = V / 4096000000) (hR0 : R0 = V - Q0 * 4096000000) :
    Q1 * 4294967296 + Q0 = (hi * 18446744073709551616 + lo) / 1000000 ∧ R0 / 4096 = (hi * 18446744073709551616 + lo) % 1000000 ∧ L % 4294967296 = 0 ∧ R0 % 4096 = 0 := by
  obtain ⟨a, b, rfl, hb0, hb1⟩ : ∃ a b, lo = a * 1048576 + b ∧ 0 ≤ b ∧ b < 1048576 := ⟨lo / 1048576, lo % 1048576, by omega, by omega, by omega⟩
  have hUa : U = hi * 17592186044416 + a := by omega
  have hLb : L = b * 17592186044416 := by omega
  have hXb : X1 = b * 4096 := by omega
  have hN : U * 4294967296 + X1 = (hi * 18446744073709551616 + (a * 1048576 + b)) * 4096 := by omega
  have hV2 : V = (hi * 18446744073709551616 + (a * 1048576 + b)) * 4096 - Q1 * 17592186044416000000 := by omega
  clear hU hL hX hUa
  generalize hi * 18446744073709551616 + (a * 1048576 + b) = N at *
  refine ⟨by omega, by omega, by omega, by omega⟩

end Go.Proofs.YthbplchbolghjaaGreatDoor.Qu

namespace Go.Proofs.YthbplchbolghjaaGreatDoor.Qu
open Go.RowKit

theorem parse_err {s : ByteArray} {milli : Bool} {k : Nat} {e : Int} (he : e ≠ 0) (h : readL s 3 sufM = (0, 0, (k : Int), e)) : parseL s milli = (0, (k : Int), e) := by
  unfold parseL
  rw [h]
  simp only
  rw [if_pos he]

theorem parse_milli {s : ByteArray} {X sc : Int} (h : readL s 3 sufM = (X, sc, 0, 0)) (h2 : 1 ≤ sc) :
    parseL s true = if 1099511627776 * 1000 < X * sc then (0, 0, 10) else if X * sc % 1000 ≠ 0 then (0, 0, 4) else (X * sc / 1000, 0, 0) := by
  unfold parseL
  rw [h]
  show (if 1099511627776000000 / (sc * 1000) < X then ((0, 0, 10) : Int × Int × Int) else if X * (sc * 1000) % 1000000 ≠ 0 then (0, 0, 4) else (X * (sc * 1000) / 1000000, 0, 0)) = _
  have hq : 1099511627776000000 / (sc * 1000) < X ↔ 1099511627776000000 < X * (sc * 1000) := Int.ediv_lt_iff_lt_mul (by omega)
  rw [← Int.mul_assoc] at hq ⊢
  generalize X * sc = A at *
  by_cases h1 : 1099511627776 * 1000 < A
  · rw [if_pos h1, if_pos (hq.2 (by omega))]
  · rw [if_neg h1, if_neg (fun h => by have := hq.1 h; omega)]
    by_cases h3 : A % 1000 = 0
    · rw [if_neg (by omega), if_neg (by omega)]
      congr 1
      omega
    · rw [if_pos (by omega), if_pos (by omega)]

theorem parse_plain {s : ByteArray} {X sc : Int} (h : readL s 3 sufM = (X, sc, 0, 0)) (h2 : 1 ≤ sc) :
    parseL s false = if 1099511627776 * 1000000 < X * sc then (0, 0, 10) else if X * sc % 1000000 ≠ 0 then (0, 0, 4) else (X * sc / 1000000, 0, 0) := by
  unfold parseL
  rw [h]
  show (if 1099511627776000000 / (sc) < X then ((0, 0, 10) : Int × Int × Int) else if X * (sc) % 1000000 ≠ 0 then (0, 0, 4) else (X * (sc) / 1000000, 0, 0)) = _
  have hq : 1099511627776000000 / (sc) < X ↔ 1099511627776000000 < X * (sc) := Int.ediv_lt_iff_lt_mul (by omega)
  generalize X * sc = A at *
  by_cases h1 : 1099511627776 * 1000000 < A
  · rw [if_pos h1, if_pos (hq.2 (by omega))]
  · rw [if_neg h1, if_neg (fun h => by have := hq.1 h; omega)]

end Go.Proofs.YthbplchbolghjaaGreatDoor.Qu

namespace Go.Proofs.YthbplchbolghjaaGreatDoor.Qu
open Go.RowKit

theorem pct_plain : ∀ k x, look pctM k = some x → ∀ b ∈ k, ¬ isDig b ∧ b.toNat ≠ 46 := by
  intro k x h
  simp only [pctM, look] at h
  unfold isDig
  repeat' (split at h)
  all_goals first | (rename_i e; subst e; decide) | (cases h)

/-- A byte behind a number: it makes a longer suffix, or can't stand. -/
theorem pct_byte {r : Rd} {b : UInt8} (hn : r.num = true) (hb : ¬ isDig b ∧ b.toNat ≠ 46 ∨ r.s ≠ []) : r.byte b 1 pctM = if (look pctM (r.s ++ [b])).isSome then some { r with s := r.s ++ [b] } else none := by
  unfold Rd.byte
  by_cases h : b.toNat < 128
  · rw [if_pos h]
    have e : enc b.toNat = [b] := by rw [enc_ascii _ h]; simp
    by_cases hd : isDig b
    · have hs : r.s ≠ [] := by
        rcases hb with hb | hb
        · exact absurd hd hb.1
        · exact hb
      unfold Rd.take
      rw [if_pos (show 48 ≤ b.toNat ∧ b.toNat ≤ 57 from hd)]
      unfold Rd.digit
      rw [if_pos hs, if_neg]
      intro hl
      obtain ⟨x, hx⟩ := Option.isSome_iff_exists.1 hl
      exact (pct_plain _ x hx b (by simp)).1 hd
    · unfold Rd.take
      rw [if_neg (show ¬ (48 ≤ b.toNat ∧ b.toNat ≤ 57) from hd)]
      by_cases hp : b.toNat = 46
      · have hs : r.s ≠ [] := by
          rcases hb with hb | hb
          · exact absurd hp hb.2
          · exact hb
        rw [if_pos hp]
        unfold Rd.point
        rw [if_pos (.inr (.inr hs)), if_neg]
        intro hl
        obtain ⟨x, hx⟩ := Option.isSome_iff_exists.1 hl
        exact (pct_plain _ x hx b (by simp)).2 hp
      · rw [if_neg hp]
        unfold Rd.suffix
        rw [if_neg (by rw [hn]; simp), e]
  · rw [if_neg h, if_neg]
    intro hl
    obtain ⟨x, hx⟩ := Option.isSome_iff_exists.1 hl
    exact h (pct_ascii _ x hx b (by simp))


theorem pct_one {b : UInt8} {x : Int} (h : look pctM [b] = some x) : b.toNat = 37 := by
  simp only [pctM, look] at h
  repeat' (split at h)
  all_goals first | (cases h; done) | (rename_i e; simp at e; subst e; decide)
theorem pct_two {c b : UInt8} {x : Int} (h : look pctM [c, b] = some x) : False := by
  simp only [pctM, look] at h
  repeat' (split at h)
  all_goals first | (cases h; done) | (rename_i e; simp at e; done)

theorem percent_err {s : ByteArray} {k : Nat} {e : Int} (he : e ≠ 0) (h : readL s 1 pctM = (0, 0, (k : Int), e)) : percentL s = (0, (k : Int), e) := by
  unfold percentL
  rw [h]
  simp only
  rw [if_pos he]
theorem percent_val {s : ByteArray} {X : Int} (h : readL s 1 pctM = (X, 1, 0, 0)) : percentL s = if 1000 < X then (0, 0, 10) else (X, 0, 0) := by
  unfold percentL
  rw [h]
  simp only
  rw [if_neg (by simp), Int.mul_one]

set_option maxRecDepth 100000 in
set_option maxHeartbeats 2000000 in
theorem rpercent_any (s : ByteArray) (w : World) (hs : s.size ≤ 5000) :
    Calls Tryz.prog 111 #[.string s] w fun e w' => e = .returned (.tuple #[.int .i64 (percentL s).1, .int .i64 (percentL s).2.1, .int .i64 (percentL s).2.2]) ∧ w = w' := by
  go_enter Tryz.func111, Tryz.ntmps111
  go_wp2_with fail
  refine (whole_any s 1 pctM pct_ascii _ hs).mono ?_
  rintro e w' ⟨n, k, x, rfl, hok, rfl⟩
  rcases hok with ⟨hx, rfl, hrd⟩ | ⟨rfl, hn0, hn1, hst, hnd⟩
  · have hxb : (x != 0) = true := by simpa using hx
    have Hval := Lib.hid (percent_err hx hrd)
    clear hx hrd
    go_wp2
    go_ret3
    exact ⟨ret3I Hval.out.symm, rfl⟩
  · have Hst := Lib.hid hst
    have Hnd := Lib.hid hnd
    clear hst hnd
    go_wp2_with fail
    refine (point_any s 1 k pctM n pct_ascii _ hs (by decide) (by decide) Hst.out Hnd.out).mono ?_
    rintro e w' ⟨f, k2, x, rfl, hok, rfl⟩
    rcases hok with ⟨hx, rfl, hrd⟩ | ⟨rfl, hf0, hf1, r, hst2, hrs, hrn, hrv, hshut⟩
    · have hxb : (x != 0) = true := by simpa using hx
      have Hval := Lib.hid (percent_err hx hrd)
      clear hx hrd
      go_wp2
      go_ret3
      exact ⟨ret3I Hval.out.symm, rfl⟩
    · have hf2 : f < 10 := hf1
      have hks := hst2.1
      have Hst2 := Lib.hid hst2
      have Hrs := Lib.hid hrs
      have Hrn := Lib.hid hrn
      have Hrv := Lib.hid hrv
      have Hsh := Lib.hid hshut
      clear hst2 hrs hrn hrv hshut hf1
      by_cases hk : k2 < s.size
      · have i1 : ¬ (s.size : Int) ≤ (k2 : Int) := by omega
        by_cases hp : s[k2].toNat = 37
        · have hpb : ((s[k2].toNat : Int) != 37) = false := by simp [hp]
          have hl : look pctM [s[k2]] = some 1 := by rw [u8_eq hp]; rfl
          have hst3 : Stands s 1 pctM (k2 + 1) { r with s := [s[k2]] } := by
            refine Hst2.out.step hk ?_
            rw [pct_byte Hrn.out (.inl (pct_plain _ 1 hl s[k2] (by simp))), Hrs.out, List.nil_append, hl]
            rfl
          have Hst3 := Lib.hid hst3
          have Hl := Lib.hid hl
          clear hst3 hl hp
          by_cases hk1 : k2 + 1 < s.size
          · have i2 : (k2 : Int) + 1 < (s.size : Int) := by omega
            have hrd : readL s 1 pctM = (0, 0, ((k2 + 1 : Nat) : Int), 4) := by
              refine Hst3.out.wrong pct_ascii hk1 ?_
              rw [pct_byte (r := { r with s := [s[k2]] }) Hrn.out (.inr (by simp)), if_neg]
              intro h
              obtain ⟨x, hx⟩ := Option.isSome_iff_exists.1 h
              exact pct_two hx
            have Hval := Lib.hid (percent_err (by decide) hrd)
            clear hrd
            go_wp2
            go_ret3
            exact ⟨ret3I (by rw [Hval.out]; rfl), rfl⟩
          · have i2 : ¬ (k2 : Int) + 1 < (s.size : Int) := by omega
            have hrd : readL s 1 pctM = (10 * n + f, 1, 0, 0) := by
              rw [Hst3.out.all pct_ascii (by omega)]
              have hn' : ({ r with s := [s[k2]] } : Rd).num = true := Hrn.out
              rw [hn', Hl.out, Option.getD_some, if_neg (by simp)]
              show (r.v * 10 ^ (1 - r.k), (1 : Int), (0 : Int), (0 : Int)) = _
              rw [Hrv.out]
              congr 1
              omega
            have Hp := Lib.hid (percent_val hrd)
            clear hrd
            by_cases hbig : 1000 < 10 * n + f
            · have Hval : Hid (percentL s = (0, 0, 10)) := by
                show percentL s = _
                rw [Hp.out, if_pos hbig]
              go_wp2
              go_ret3
              exact ⟨ret3I Hval.out.symm, rfl⟩
            · have Hval : Hid (percentL s = (10 * n + f, 0, 0)) := by
                show percentL s = _
                rw [Hp.out, if_neg hbig]
              go_wp2
              go_ret3
              exact ⟨ret3I Hval.out.symm, rfl⟩
        · have hpb : ((s[k2].toNat : Int) != 37) = true := by rw [bne_iff_ne]; omega
          have hrd : readL s 1 pctM = (0, 0, (k2 : Int), 4) := by
            refine Hst2.out.wrong pct_ascii hk ?_
            by_cases hd : isDig s[k2] ∨ s[k2].toNat = 46
            · exact Hsh.out hk hd
            · rw [pct_byte Hrn.out (.inl ⟨fun x => hd (.inl x), fun x => hd (.inr x)⟩), Hrs.out, if_neg]
              intro h
              obtain ⟨x, hx⟩ := Option.isSome_iff_exists.1 h
              exact hp (pct_one hx)
          have Hval := Lib.hid (percent_err (by decide) hrd)
          clear hrd hp
          go_wp2
          go_ret3
          exact ⟨ret3I Hval.out.symm, rfl⟩
      · have i1 : (s.size : Int) ≤ (k2 : Int) := by omega
        have hrd : readL s 1 pctM = (0, 0, (k2 : Int), 3) := by
          rw [Hst2.out.all pct_ascii (by omega), Hrs.out, if_pos (.inr rfl)]
          congr 3
          omega
        have Hval := Lib.hid (percent_err (by decide) hrd)
        clear hrd
        go_wp2
        go_ret3
        exact ⟨ret3I Hval.out.symm, rfl⟩

end Go.Proofs.YthbplchbolghjaaGreatDoor.Qu

namespace Go.Proofs.YthbplchbolghjaaGreatDoor
open Go.RowKit

def isD (b : UInt8) : Bool := decide (48 ≤ b.toNat ∧ b.toNat ≤ 57)
def valN (l : List UInt8) (a : Nat) : Nat := l.foldl (fun a b => a * 10 + (b.toNat - 48)) a
theorem valN_snoc (l : List UInt8) (b : UInt8) (a : Nat) : valN (l ++ [b]) a = valN l a * 10 + (b.toNat - 48) := by simp [valN, List.foldl_append]
theorem from_all : ∀ (l : List UInt8) (a : Nat), l.all isD = true → Lib.decFrom a l = some (valN l a)
  | [], a, _ => rfl
  | b :: l, a, h => by
    rw [List.all_cons, Bool.and_eq_true] at h
    have hb : 48 ≤ b.toNat ∧ b.toNat ≤ 57 := by simpa [isD] using h.1
    rw [Lib.decFrom, Lib.digitVal, if_pos hb]
    exact from_all l _ h.2
theorem from_none : ∀ (l : List UInt8) (a : Nat), l.all isD = false → Lib.decFrom a l = none
  | [], a, h => by cases h
  | b :: l, a, h => by
    rw [Lib.decFrom, Lib.digitVal]
    by_cases hb : 48 ≤ b.toNat ∧ b.toNat ≤ 57
    · rw [if_pos hb]
      refine from_none l _ ?_
      rw [List.all_cons] at h
      have : isD b = true := by simpa [isD] using hb
      rwa [this, Bool.true_and] at h
    · rw [if_neg hb]
theorem dec_pos (u : Nat) : 1 ≤ u → ∃ d r, Lib.decDigits u = d :: r ∧ d ≠ 48 := by
  induction u using Nat.strongRecOn with
  | ind u ih =>
    intro h
    rw [Lib.decDigits]
    by_cases h10 : u < 10
    · rw [dif_pos h10]
      refine ⟨_, [], rfl, fun e => ?_⟩
      have := congrArg UInt8.toNat e
      rw [UInt8.toNat_ofNat'] at this
      simp at this
      omega
    · rw [dif_neg h10]
      obtain ⟨d, r, hd, hn⟩ := ih (u / 10) (by omega) (by omega)
      exact ⟨d, r ++ [UInt8.ofNat (48 + u % 10)], by rw [hd]; rfl, hn⟩
theorem byte_of {b : UInt8} (h : isD b = true) : UInt8.ofNat (48 + (b.toNat - 48)) = b := by
  simp only [isD, decide_eq_true_eq] at h
  rw [show 48 + (b.toNat - 48) = b.toNat by omega]
  exact UInt8.ofNat_toNat
theorem snoc_ind9 {P : List UInt8 → Prop} (h0 : P []) (h1 : ∀ l b, P l → P (l ++ [b])) (l : List UInt8) : P l := by
  rw [← List.reverse_reverse l]
  induction l.reverse with
  | nil => exact h0
  | cons b r ih => rw [List.reverse_cons]; exact h1 _ _ ih
/-- A numeral without a nought ahead is its number's text. -/
theorem dec_val (l : List UInt8) : l ≠ [] → l.all isD = true → (1 < l.length → l.head? ≠ some 48) → Lib.decDigits (valN l 0) = l ∧ (l.head? ≠ some 48 → 1 ≤ valN l 0) := by
  refine snoc_ind9 (P := fun l => l ≠ [] → l.all isD = true → (1 < l.length → l.head? ≠ some 48) → Lib.decDigits (valN l 0) = l ∧ (l.head? ≠ some 48 → 1 ≤ valN l 0)) (fun h => absurd rfl h) ?_ l
  intro s b ih _ ha hh
  rw [List.all_append, Bool.and_eq_true] at ha
  have hb : isD b = true := by simpa using ha.2
  have hb2 : 48 ≤ b.toNat ∧ b.toNat ≤ 57 := by simpa [isD] using hb
  rw [valN_snoc]
  cases s with
  | nil =>
    simp only [valN, List.foldl_nil, Nat.zero_mul, Nat.zero_add, List.nil_append]
    rw [Lib.decDigits_one (by omega), byte_of hb]
    refine ⟨rfl, fun h => ?_⟩
    by_cases h48 : b.toNat = 48
    · exfalso
      apply h
      simp only [List.head?_cons, Option.some.injEq]
      exact UInt8.toNat_inj.1 h48
    · omega
  | cons c r =>
    have hc : (c :: r).head? ≠ some 48 := by
      have := hh (by simp)
      simpa using this
    obtain ⟨h1, h2⟩ := ih (by simp) ha.1 (fun _ => hc)
    have h3 := h2 hc
    generalize valN (c :: r) 0 = v at h1 h3
    refine ⟨?_, fun _ => by omega⟩
    rw [Lib.decDigits, dif_neg (by omega), show (v * 10 + (b.toNat - 48)) / 10 = v by omega, show (v * 10 + (b.toNat - 48)) % 10 = b.toNat - 48 by omega, h1, byte_of hb]
theorem num_atoi {d : UInt8} {r : List UInt8} (hd : isD d = true) (hl : (d :: r).length ≤ 9) : Lib.atoiAll (d :: r) = if (d :: r).all isD then .ok (valN (d :: r) 0 : Int) else .syntax := by
  have hb : 48 ≤ d.toNat ∧ d.toNat ≤ 57 := by simpa [isD] using hd
  rw [Lib.atoiAll_short _ (by omega)]
  have h45 : (d == 45) = false := by
    rw [beq_eq_false_iff_ne]
    intro e
    subst e
    revert hb
    decide
  have h43 : (d == 43) = false := by
    rw [beq_eq_false_iff_ne]
    intro e
    subst e
    revert hb
    decide
  unfold Lib.atoi
  simp only [h45, h43, Bool.false_eq_true, if_false]
  unfold Lib.decNat
  cases ha : (d :: r).all isD
  · rw [from_none _ _ ha]
    rfl
  · rw [from_all _ _ ha]
    rfl
theorem num_yes {t : List UInt8} (hne : t ≠ []) (ha : t.all isD = true) (hl : t.length ≤ 9) (hh : 1 < t.length → t.head? ≠ some 48) : numOf t = some (valN t 0 : Int) := by
  cases t with
  | nil => exact absurd rfl hne
  | cons d r =>
    have hd : isD d = true := by rw [List.all_cons, Bool.and_eq_true] at ha; exact ha.1
    unfold numOf
    rw [num_atoi hd hl, if_pos ha]
    simp only
    rw [if_pos ⟨hl, by rw [Lib.itoa_nonneg]; exact (dec_val _ hne ha hh).1⟩]
theorem num_long {t : List UInt8} (hl : 9 < t.length) : numOf t = none := by
  unfold numOf
  split
  · rw [if_neg (by omega)]
  · rfl
theorem num_odd {d : UInt8} {r : List UInt8} (hd : isD d = true) (ha : (d :: r).all isD = false) : numOf (d :: r) = none := by
  by_cases hl : (d :: r).length ≤ 9
  · unfold numOf
    rw [num_atoi hd hl, if_neg (by rw [ha]; simp)]
  · exact num_long (by omega)
theorem num_nought {t : List UInt8} (hh : t.head? = some 48) (hl : 1 < t.length) : numOf t = none := by
  cases t with
  | nil => cases hh
  | cons d r =>
    simp only [List.head?_cons, Option.some.injEq] at hh
    subst hh
    by_cases h9 : ((48 : UInt8) :: r).length ≤ 9
    · unfold numOf
      rw [num_atoi (by decide) h9]
      split
      · rename_i n hn
        split at hn
        · simp only [Lib.NumEnd.ok.injEq] at hn
          rw [if_neg]
          rintro ⟨_, hi⟩
          rw [← hn, Lib.itoa_nonneg] at hi
          generalize valN (48 :: r) 0 = v at hi
          by_cases hv : v = 0
          · subst hv
            rw [Lib.decDigits_one (by omega)] at hi
            have := congrArg List.length hi
            simp only [List.length_cons, List.length_nil] at this hl
            omega
          · obtain ⟨d, r', h1, h2⟩ := dec_pos v (by omega)
            rw [h1] at hi
            cases hi
            exact h2 rfl
        · cases hn
      · rfl
    · exact num_long (by omega)
end Go.Proofs.YthbplchbolghjaaGreatDoor

namespace Go.Proofs.YthbplchbolghjaaGreatDoor
open Go.RowKit

abbrev cellsRow (A : Option Addr) (c : Nat) (l : List Sc.W4) (k : Nat) (ln cl er : Int) : Array Value := #[.slice A l.length c, .int .i64 (k : Int), .int .i64 ln, .int .i64 cl, .int .i64 er]
/-- A line's reader, as the document has it, lies in memory. -/
structure RowM (w : World) (b : Nat) (A : Option Addr) (c : Nat) (l : List Sc.W4) (k : Nat) (ln cl er : Int) : Prop where
  blk : Blk w b (cellsRow A c l k ln cl er) 81
  lw : Sc.SlAt w A (Sc.cellsW l)
  ne : ∀ q o, A = some ⟨q, o, none⟩ → q ≠ b
  le : k ≤ l.length
  lc : l.length ≤ c ∧ c ≤ 9223372036854775807
theorem RowM.keep {w w' : World} {b : Nat} {A : Option Addr} {c : Nat} {l : List Sc.W4} {k k' : Nat} {ln cl er ln' cl' er' : Int} (h : RowM w b A c l k ln cl er) (hk : KeepR b w w') (hb : Blk w' b (cellsRow A c l k' ln' cl' er') 81) (hk' : k' ≤ l.length) : RowM w' b A c l k' ln' cl' er' :=
  ⟨hb, (fun j y hj => by
    obtain ⟨q, o, hA, hc⟩ := h.lw j y hj
    exact ⟨q, o, hA, hk.cell hc (h.ne q o hA)⟩), h.ne, hk', h.lc⟩
theorem RowM.below {w w' : World} {b : Nat} {A : Option Addr} {c : Nat} {l : List Sc.W4} {k : Nat} {ln cl er : Int} (h : RowM w b A c l k ln cl er) (hb : Below w.heap.size w w') : RowM w' b A c l k ln cl er :=
  h.keep (.of hb) (Blk.below h.blk hb (Blk.lt h.blk)) h.le

set_option maxRecDepth 100000 in
set_option maxHeartbeats 1000000 in
theorem rfail_in (b : Nat) (A : Option Addr) (c : Nat) (l : List Sc.W4) (k : Nat) (ln cl e0 : Int) (x : Sc.W4) (w : World) (hm : RowM w b A c l k ln cl 0) (hx : l[k]? = some x) :
    Calls Tryz.prog 45 #[.pointer (some ⟨b, 0, none⟩), .int .i64 e0] w fun e w' => (∃ v, e = .returned v) ∧ RowM w' b A c l k (x.2.2.1 : Int) (x.2.2.2 : Int) e0 ∧ KeepR b w w' := by
  have HM := Lib.hid hm
  obtain ⟨kd, tx, xl, xc⟩ := x
  have hlt := (List.getElem?_eq_some_iff.1 hx).1
  obtain ⟨q, o, hA, hbl, c0, c1, c2, c3⟩ := Sc.SlAt.wor hm.lw hx
  have hne := hm.ne q o hA
  subst hA
  simp only at c0 c1 c2 c3
  have d0 := Blk.cell hm.blk 0
  have d1 := Blk.cell hm.blk 1
  have d2 := Blk.cell hm.blk 2
  have d3 := Blk.cell hm.blk 3
  have d4 := Blk.cell hm.blk 4
  have f2 := Blk.free hm.blk 2
  have f3 := Blk.free hm.blk 3
  have f4 := Blk.free hm.blk 4
  have n1 : ¬ q = b := hne
  have n2 : ¬ b = q := fun e => hne e.symm
  have k0 : (0 : Int) ≤ (k : Int) := by omega
  have k1 : (k : Int) < (l.length : Int) := by omega
  have k2 : ¬ (l.length : Int) ≤ (k : Int) := by omega
  have k3 : decide (l.length ≤ k) = false := by simp; omega
  clear hm hx hne
  go_enter Tryz.func45, Tryz.ntmps45
  go_wp2
  go_end0
  have KK := (((KeepR.refl b w).setCell 4 (.int .i64 e0)).setCell 2 (.int .i64 (xl : Int))).setCell 3 (.int .i64 (xc : Int))
  exact ⟨⟨_, rfl⟩, HM.out.keep KK (Blk.set (Blk.set (Blk.set HM.out.blk 4 (.int .i64 e0)) 2 (.int .i64 (xl : Int))) 3 (.int .i64 (xc : Int))) HM.out.le, KK⟩

set_option maxRecDepth 100000 in
set_option maxHeartbeats 1000000 in
theorem rfail_end (b : Nat) (A : Option Addr) (c : Nat) (l : List Sc.W4) (ln cl e0 : Int) (x : Sc.W4) (w : World) (hm : RowM w b A c l l.length ln cl 0) (hx : l[l.length - 1]? = some x) :
    Calls Tryz.prog 45 #[.pointer (some ⟨b, 0, none⟩), .int .i64 e0] w fun e w' => (∃ v, e = .returned v) ∧ RowM w' b A c l l.length (x.2.2.1 : Int) (x.2.2.2 : Int) 3 ∧ KeepR b w w' := by
  have HM := Lib.hid hm
  obtain ⟨kd, tx, xl, xc⟩ := x
  have hlt := (List.getElem?_eq_some_iff.1 hx).1
  obtain ⟨q, o, hA, hbl, c0, c1, c2, c3⟩ := Sc.SlAt.wor hm.lw hx
  have hne := hm.ne q o hA
  subst hA
  simp only at c0 c1 c2 c3
  have d0 := Blk.cell hm.blk 0
  have d1 := Blk.cell hm.blk 1
  have d2 := Blk.cell hm.blk 2
  have d3 := Blk.cell hm.blk 3
  have d4 := Blk.cell hm.blk 4
  have f2 := Blk.free hm.blk 2
  have f3 := Blk.free hm.blk 3
  have f4 := Blk.free hm.blk 4
  have n1 : ¬ q = b := hne
  have n2 : ¬ b = q := fun e => hne e.symm
  have hlc := hm.lc
  have k0 : (1 : Int) ≤ (l.length : Int) := by omega
  have k1 : (l.length : Int) - 1 < (l.length : Int) := by omega
  clear hm hx hne
  go_enter Tryz.func45, Tryz.ntmps45
  go_wp2
  go_end0
  have KK := ((((KeepR.refl b w).setCell 4 (.int .i64 e0)).setCell 4 (.int .i64 3)).setCell 2 (.int .i64 (xl : Int))).setCell 3 (.int .i64 (xc : Int))
  exact ⟨⟨_, rfl⟩, HM.out.keep KK (Blk.set (Blk.set (Blk.set (Blk.set HM.out.blk 4 (.int .i64 e0)) 4 (.int .i64 3)) 2 (.int .i64 (xl : Int))) 3 (.int .i64 (xc : Int))) HM.out.le, KK⟩

set_option maxRecDepth 100000 in
theorem rfail_bad (b : Nat) (A : Option Addr) (c : Nat) (l : List Sc.W4) (k : Nat) (ln cl er e0 : Int) (w : World) (hm : RowM w b A c l k ln cl er) (he : er ≠ 0) :
    Calls Tryz.prog 45 #[.pointer (some ⟨b, 0, none⟩), .int .i64 e0] w fun e w' => (∃ v, e = .returned v) ∧ w' = w := by
  have d4 : w.cell? ⟨b, 4, none⟩ = some (.int .i64 er) := Blk.cell hm.blk 4
  have h1 : (er != 0) = true := by simpa using he
  clear hm he
  go_enter Tryz.func45, Tryz.ntmps45
  go_wp2
  refine bodyPost_ret (results_none rfl _ _ _) rfl ?_
  exact ⟨⟨_, rfl⟩, rfl⟩

/-- What a step of the reader comes to. -/
inductive DR (α : Type) where
  | ok (x : α) (k : Nat)
  | bad (ln cl er : Int)
/-- The reader behind it: as the step tells; all but its block is as it was. -/
def DRM {α : Type} (w : World) (b : Nat) (A : Option Addr) (c : Nat) (l : List Sc.W4) (r : DR α) (w' : World) : Prop :=
  (match r with
    | .ok _ k => RowM w' b A c l k 0 0 0
    | .bad ln cl er => er ≠ 0 ∧ ∃ k, RowM w' b A c l k ln cl er) ∧ KeepR b w w'
/-- A word of a kind. -/
def wordD (l : List Sc.W4) (k : Nat) (kind : Int) : DR (List UInt8) := match l[k]? with
  | none => .bad ((l.getD (k - 1) zw).2.2.1 : Int) ((l.getD (k - 1) zw).2.2.2 : Int) 3
  | some x => if x.1 = kind then .ok x.2.1 (k + 1) else .bad (x.2.2.1 : Int) (x.2.2.2 : Int) 4
def textD {α : Type} (d : α) (r : DR α) : α := match r with
  | .ok x _ => x
  | .bad _ _ _ => d

set_option maxRecDepth 100000 in
set_option maxHeartbeats 1000000 in
theorem rword_any (b : Nat) (A : Option Addr) (c : Nat) (l : List Sc.W4) (k : Nat) (kind : Int) (w : World) (hm : RowM w b A c l k 0 0 0) (hl : 0 < l.length) :
    Calls Tryz.prog 76 #[.pointer (some ⟨b, 0, none⟩), .int .i64 kind] w fun e w' => e = .returned (strV (textD [] (wordD l k kind))) ∧ DRM w b A c l (wordD l k kind) w' := by
  have HM := Lib.hid hm
  have hlc := hm.lc
  have hle := hm.le
  obtain ⟨R, hR⟩ : ∃ R, wordD l k kind = R := ⟨_, rfl⟩
  have HR := Lib.hid hR
  rw [hR]
  clear hR
  have d0 : w.cell? ⟨b, 0, none⟩ = some (.slice A l.length c) := Blk.cell hm.blk 0
  have d1 : w.cell? ⟨b, 1, none⟩ = some (.int .i64 (k : Int)) := Blk.cell hm.blk 1
  have d4 : w.cell? ⟨b, 4, none⟩ = some (.int .i64 0) := Blk.cell hm.blk 4
  have f1 := Blk.free hm.blk 1
  have hbl := Blk.lt hm.blk
  by_cases hlt : k < l.length
  · obtain ⟨x, hx⟩ : ∃ x, l[k]? = some x := ⟨l[k], List.getElem?_eq_getElem hlt⟩
    have HX := Lib.hid hx
    obtain ⟨kd, tx, xl, xc⟩ := x
    obtain ⟨q, o, hA, hql, c0, c1, c2, c3⟩ := Sc.SlAt.wor hm.lw hx
    have hne := hm.ne q o hA
    subst hA
    simp only at c0 c1 c2 c3
    have n1 : ¬ q = b := hne
    have n2 : ¬ b = q := fun e => hne e.symm
    have k0 : (0 : Int) ≤ (k : Int) := by omega
    have k1 : (k : Int) < (l.length : Int) := by omega
    have k2 : ¬ (l.length : Int) ≤ (k : Int) := by omega
    have k3 : decide (l.length ≤ k) = false := by simp; omega
    have k4 : decide ((l.length : Int) ≤ (k : Int)) = false := by simp; omega
    by_cases hk : kd = kind
    · subst hk
      have HE : Hid (R = .ok tx (k + 1)) := Lib.hid (by rw [← HR.out]; unfold wordD; rw [HX.out]; simp)
      have kb : (kd != kd) = false := by simp
      clear hm hx hne
      go_enter Tryz.func76, Tryz.ntmps76
      have k5 : IntKind.i64.wrap ((k : Int) + 1 - 1) = (k : Int) := by rw [show (k : Int) + 1 - 1 = (k : Int) by omega]; exact IntWalk.i64_in _ (by omega)
      go_wp2_with fail
      go_quiet (fail)
      go_wp2_with fail
      go_quiet (fail)
      go_wp2
      go_ret
      rename_i na
      have K1 : KeepR b w (w.drewN na) := KeepR.of (below_drewN _ _ _)
      have Q1 : Blk (w.drewN na) b (cellsRow (some ⟨q, o, none⟩) c l k 0 0 0) 81 := Blk.below HM.out.blk (below_drewN _ _ _) hbl
      have K2 := K1.setCell 1 (.int .i64 ((k : Int) + 1))
      have Q2 := Blk.set Q1 1 (.int .i64 ((k : Int) + 1))
      have B3 := below_drewN ((w.drewN na).setCell ⟨b, 1, none⟩ (.int .i64 ((k : Int) + 1))).heap.size ((w.drewN na).setCell ⟨b, 1, none⟩ (.int .i64 ((k : Int) + 1))) nq
      have K3 := K2.trans (KeepR.of (g := b) B3)
      have Q3 := Blk.below Q2 B3 (Blk.lt Q2)
      rw [HE.out]
      exact ⟨rfl, HM.out.keep K3 (k' := k + 1) Q3 (by omega), K3⟩
    · have HE : Hid (R = .bad (xl : Int) (xc : Int) 4) := Lib.hid (by rw [← HR.out]; unfold wordD; rw [HX.out]; simp [hk])
      have kb : (kd != kind) = true := by simpa using hk
      have KF := Lib.hid (fun w' (hw : Below w.heap.size w w') => rfail_in b _ c l k 0 0 4 (kd, tx, xl, xc) w' (HM.out.below hw) HX.out)
      clear hm hx hne hk
      go_enter Tryz.func76, Tryz.ntmps76
      go_wp2_with fail
      go_quiet (fail)
      go_wp2_with fail
      refine (KF.out _ (below_drewN _ _ _)).mono ?_
      rintro e w2 ⟨⟨v, rfl⟩, hr, hkp⟩
      have HRW := Lib.hid hr
      have HKP := Lib.hid hkp
      clear hr hkp KF
      go_wp2
      go_ret
      rw [HE.out]
      exact ⟨rfl, ⟨by decide, k, HRW.out⟩, (KeepR.of (below_drewN _ _ _)).trans HKP.out⟩
  · obtain rfl : k = l.length := by omega
    obtain ⟨x, hx⟩ : ∃ x, l[l.length - 1]? = some x := ⟨l[l.length - 1]'(by omega), List.getElem?_eq_getElem (by omega)⟩
    have HE : Hid (R = .bad (x.2.2.1 : Int) (x.2.2.2 : Int) 3) := Lib.hid (by
      rw [← HR.out]
      unfold wordD
      rw [List.getElem?_eq_none (Nat.le_refl _), List.getD_eq_getElem?_getD, hx]
      rfl)
    have KF := Lib.hid (fun w' (hw : Below w.heap.size w w') => rfail_end b A c l 0 0 4 x w' (HM.out.below hw) hx)
    have k2 : (l.length : Int) ≤ (l.length : Int) := by omega
    have k3 : decide (l.length ≤ l.length) = true := by simp
    have k4 : decide ((l.length : Int) ≤ (l.length : Int)) = true := by simp
    clear hm hx
    go_enter Tryz.func76, Tryz.ntmps76
    go_wp2_with fail
    go_quiet (fail)
    go_wp2_with fail
    refine (KF.out _ (below_drewN _ _ _)).mono ?_
    rintro e w2 ⟨⟨v, rfl⟩, hr, hkp⟩
    have HRW := Lib.hid hr
    have HKP := Lib.hid hkp
    clear hr hkp KF
    go_wp2
    go_ret
    rw [HE.out]
    exact ⟨rfl, ⟨by decide, l.length, HRW.out⟩, (KeepR.of (below_drewN _ _ _)).trans HKP.out⟩
end Go.Proofs.YthbplchbolghjaaGreatDoor

namespace Go.Proofs.YthbplchbolghjaaGreatDoor
open Go.RowKit

set_option maxRecDepth 100000 in
theorem rback_0 (b : Nat) (A : Option Addr) (c : Nat) (l : List Sc.W4) (k : Nat) (ln cl er : Int) (w : World) (hm : RowM w b A c l k ln cl er) :
    Calls Tryz.prog 81 #[.pointer (some ⟨b, 0, none⟩), .int .i64 0] w fun e w' => (∃ v, e = .returned v) ∧ w' = w := by
  have d4 : w.cell? ⟨b, 4, none⟩ = some (.int .i64 er) := Blk.cell hm.blk 4
  clear hm
  by_cases he : er = 0
  · subst he
    go_enter Tryz.func81, Tryz.ntmps81
    go_wp2
    go_end0
    exact ⟨⟨_, rfl⟩, rfl⟩
  · have h1 : (er == 0) = false := by simpa using he
    clear he
    go_enter Tryz.func81, Tryz.ntmps81
    go_wp2
    go_end0
    exact ⟨⟨_, rfl⟩, rfl⟩
set_option maxRecDepth 100000 in
theorem rback_bad (b : Nat) (A : Option Addr) (c : Nat) (l : List Sc.W4) (k : Nat) (ln cl er e0 : Int) (w : World) (hm : RowM w b A c l k ln cl er) (he : er ≠ 0) :
    Calls Tryz.prog 81 #[.pointer (some ⟨b, 0, none⟩), .int .i64 e0] w fun e w' => (∃ v, e = .returned v) ∧ w' = w := by
  have d4 : w.cell? ⟨b, 4, none⟩ = some (.int .i64 er) := Blk.cell hm.blk 4
  have h1 : (er == 0) = false := by simpa using he
  clear hm he
  go_enter Tryz.func81, Tryz.ntmps81
  go_wp2
  go_end0
  exact ⟨⟨_, rfl⟩, rfl⟩
set_option maxRecDepth 100000 in
set_option maxHeartbeats 1000000 in
theorem rback_e (b : Nat) (A : Option Addr) (c : Nat) (l : List Sc.W4) (k : Nat) (e0 : Int) (x : Sc.W4) (w : World) (hm : RowM w b A c l (k + 1) 0 0 0) (hx : l[k]? = some x) (he : e0 ≠ 0) :
    Calls Tryz.prog 81 #[.pointer (some ⟨b, 0, none⟩), .int .i64 e0] w fun e w' => (∃ v, e = .returned v) ∧ RowM w' b A c l k (x.2.2.1 : Int) (x.2.2.2 : Int) e0 ∧ KeepR b w w' := by
  have HM := Lib.hid hm
  have d1 : w.cell? ⟨b, 1, none⟩ = some (.int .i64 ((k + 1 : Nat) : Int)) := Blk.cell hm.blk 1
  have d4 : w.cell? ⟨b, 4, none⟩ = some (.int .i64 0) := Blk.cell hm.blk 4
  have f1 := Blk.free hm.blk 1
  have h1 : (e0 != 0) = true := by simpa using he
  have hle := hm.le
  have hlc := hm.lc
  have K1 : KeepR b w (w.setCell ⟨b, 1, none⟩ (.int .i64 (k : Int))) := (KeepR.refl b w).setCell 1 _
  have M1 : Hid (RowM (w.setCell ⟨b, 1, none⟩ (.int .i64 (k : Int))) b A c l k 0 0 0) := Lib.hid (hm.keep K1 (Blk.set hm.blk 1 (.int .i64 (k : Int))) (by omega))
  have KF := Lib.hid (rfail_in b A c l k 0 0 e0 x _ M1.out hx)
  have HK1 := Lib.hid K1
  clear hm hx he K1
  have k0 : (0 : Int) ≤ (k : Int) := by omega
  go_enter Tryz.func81, Tryz.ntmps81
  go_wp2_with fail
  refine KF.out.mono ?_
  rintro e w2 ⟨⟨v, rfl⟩, hr, hkp⟩
  have HRW := Lib.hid hr
  have HKP := Lib.hid (HK1.out.trans hkp)
  clear hr hkp KF
  go_wp2
  go_end0
  exact ⟨⟨_, rfl⟩, HRW.out, HKP.out⟩

theorem wordD_ok {l : List Sc.W4} {k : Nat} {kind : Int} {t : List UInt8} {k' : Nat} (h : wordD l k kind = .ok t k') : k' = k + 1 ∧ ∃ x, l[k]? = some x ∧ x.2.1 = t ∧ x.1 = kind := by
  unfold wordD at h
  split at h
  · cases h
  · rename_i x hx
    split at h
    · cases h
      exact ⟨rfl, x, hx, rfl, by assumption⟩
    · cases h
/-- A share, as the next word. -/
def shareD (l : List Sc.W4) (k : Nat) : DR Int := match wordD l k 2 with
  | .bad ln cl er => .bad ln cl er
  | .ok t k' => if (Qu.percentL ⟨t.toArray⟩).2.2 = 0 then .ok (Qu.percentL ⟨t.toArray⟩).1 k' else .bad ((l.getD k zw).2.2.1 : Int) ((l.getD k zw).2.2.2 : Int) (Qu.percentL ⟨t.toArray⟩).2.2
set_option maxRecDepth 100000 in
set_option maxHeartbeats 1000000 in
theorem rshare_any (b : Nat) (A : Option Addr) (c : Nat) (l : List Sc.W4) (k : Nat) (w : World) (hm : RowM w b A c l k 0 0 0) (hl : 0 < l.length) (hbig : ∀ x ∈ l, x.2.1.length ≤ 5000) :
    Calls Tryz.prog 77 #[.pointer (some ⟨b, 0, none⟩)] w fun e w' => (∃ n, e = .returned (.int .i64 n) ∧ ∀ m k', shareD l k = .ok m k' → n = m) ∧ DRM w b A c l (shareD l k) w' := by
  have KW := Lib.hid (rword_any b A c l k 2 w hm hl)
  have hbl := Blk.lt hm.blk
  obtain ⟨R, hR⟩ : ∃ R, shareD l k = R := ⟨_, rfl⟩
  have HR := Lib.hid hR
  rw [hR]
  clear hR hm
  cases hW : wordD l k 2 with
  | bad ln cl er =>
    rw [hW] at KW
    have HE : Hid (R = .bad ln cl er) := Lib.hid (by rw [← HR.out]; unfold shareD; rw [hW])
    go_enter Tryz.func77, Tryz.ntmps77
    go_wp2_with fail
    refine KW.out.mono ?_
    rintro e w1 ⟨rfl, ⟨her, k1, hr⟩, hkp⟩
    have HRW := Lib.hid hr
    have HKP := Lib.hid hkp
    have HER := Lib.hid her
    have d4 : w1.cell? ⟨b, 4, none⟩ = some (.int .i64 er) := Blk.cell hr.blk 4
    have h1 : (er != 0) = true := by simpa using her
    clear hr hkp her KW hW
    go_wp2
    go_ret
    rw [HE.out]
    exact ⟨⟨0, rfl, fun m k' h => by cases h⟩, ⟨HER.out, k1, HRW.out⟩, HKP.out⟩
  | ok t k' =>
    rw [hW] at KW
    obtain ⟨rfl, x, hx, hxt, -⟩ := wordD_ok hW
    have ht : t.length ≤ 5000 := by rw [← hxt]; exact hbig x (List.mem_of_getElem? hx)
    have KP := Lib.hid (fun w => Qu.rpercent_any ⟨t.toArray⟩ w (by rw [Qu.size_l]; exact ht))
    have HE : Hid (R = if (Qu.percentL ⟨t.toArray⟩).2.2 = 0 then .ok (Qu.percentL ⟨t.toArray⟩).1 (k + 1) else .bad (x.2.2.1 : Int) (x.2.2.2 : Int) (Qu.percentL ⟨t.toArray⟩).2.2) := Lib.hid (by
      rw [← HR.out]
      unfold shareD
      rw [hW, List.getD_eq_getElem?_getD, hx]
      rfl)
    generalize Qu.percentL ⟨t.toArray⟩ = P at KP HE
    obtain ⟨n, p, er⟩ := P
    simp only at KP HE
    have HX := Lib.hid hx
    clear hx hxt hW
    go_enter Tryz.func77, Tryz.ntmps77
    go_wp2_with fail
    refine KW.out.mono ?_
    rintro e w1 ⟨rfl, hr, hkp⟩
    have HRW : Hid (RowM w1 b A c l (k + 1) 0 0 0) := Lib.hid hr
    have HKP := Lib.hid hkp
    have d4 : w1.cell? ⟨b, 4, none⟩ = some (.int .i64 0) := Blk.cell HRW.out.blk 4
    clear hr hkp KW
    go_wp2_with fail
    refine (KP.out _).mono ?_
    rintro e w2 ⟨rfl, rfl⟩
    by_cases he : er = 0
    · subst he
      have HE2 : Hid (R = .ok n (k + 1)) := Lib.hid (by rw [HE.out, if_pos rfl])
      have KB := Lib.hid (rback_0 b A c l (k + 1) 0 0 0 w1 HRW.out)
      go_wp2_with fail
      refine KB.out.mono ?_
      rintro e w2 ⟨⟨v, rfl⟩, rfl⟩
      go_wp2
      go_ret
      rw [HE2.out]
      exact ⟨⟨n, rfl, fun m k' h => by cases h; rfl⟩, HRW.out, HKP.out⟩
    · have HE2 : Hid (R = .bad (x.2.2.1 : Int) (x.2.2.2 : Int) er) := Lib.hid (by rw [HE.out, if_neg he])
      have KB := Lib.hid (rback_e b A c l k er x w1 HRW.out HX.out he)
      have HNE := Lib.hid he
      clear he
      go_wp2_with fail
      refine KB.out.mono ?_
      rintro e w2 ⟨⟨v, rfl⟩, hr, hkp⟩
      have HR2 := Lib.hid hr
      have HK2 := Lib.hid (HKP.out.trans hkp)
      clear hr hkp
      go_wp2
      go_ret
      rw [HE2.out]
      exact ⟨⟨n, rfl, fun m k' h => by cases h⟩, ⟨HNE.out, k, HR2.out⟩, HK2.out⟩
end Go.Proofs.YthbplchbolghjaaGreatDoor

namespace Go.Proofs.YthbplchbolghjaaGreatDoor
open Go.RowKit

/-- A number, as the next word. -/
def numD (l : List Sc.W4) (k : Nat) : DR Int := match wordD l k 2 with
  | .bad ln cl er => .bad ln cl er
  | .ok t k' => match numOf t with
    | some n => .ok n k'
    | none => .bad ((l.getD k zw).2.2.1 : Int) ((l.getD k zw).2.2.2 : Int) 4
/-- A text that begins with a digit. -/
def DigHead (t : List UInt8) : Prop := ∃ d r, t = d :: r ∧ isD d = true
theorem valN_take {t : List UInt8} {i : Nat} {b : UInt8} (h : t[i]? = some b) : valN (t.take (i + 1)) 0 = valN (t.take i) 0 * 10 + (b.toNat - 48) := by
  rw [List.take_add_one, h]
  exact valN_snoc _ _ _
theorem valN_lt : ∀ (l : List UInt8) (a : Nat), l.all isD = true → valN l a < (a + 1) * 10 ^ l.length
  | [], a, _ => by simp [valN]
  | b :: l, a, h => by
    rw [List.all_cons, Bool.and_eq_true] at h
    have hb : 48 ≤ b.toNat ∧ b.toNat ≤ 57 := by simpa [isD] using h.1
    have := valN_lt l (a * 10 + (b.toNat - 48)) h.2
    have e : valN (b :: l) a = valN l (a * 10 + (b.toNat - 48)) := rfl
    rw [e, List.length_cons, Nat.pow_succ]
    refine Nat.lt_of_lt_of_le this ?_
    rw [Nat.mul_comm (10 ^ l.length) 10, ← Nat.mul_assoc]
    exact Nat.mul_le_mul_right _ (by omega)

set_option maxRecDepth 100000 in
set_option maxHeartbeats 4000000 in
theorem rnumber_any (b : Nat) (A : Option Addr) (c : Nat) (l : List Sc.W4) (k : Nat) (w : World) (hm : RowM w b A c l k 0 0 0) (hl : 0 < l.length) (hbig : ∀ x ∈ l, x.2.1.length ≤ 5000) (hdig : ∀ x ∈ l, x.1 = 2 → DigHead x.2.1) :
    Calls Tryz.prog 80 #[.pointer (some ⟨b, 0, none⟩)] w fun e w' => (∃ n, e = .returned (.int .i64 n) ∧ ∀ m k', numD l k = .ok m k' → n = m) ∧ DRM w b A c l (numD l k) w' := by
  have KW := Lib.hid (rword_any b A c l k 2 w hm hl)
  have hbl := Blk.lt hm.blk
  obtain ⟨R, hR⟩ : ∃ R, numD l k = R := ⟨_, rfl⟩
  have HR := Lib.hid hR
  rw [hR]
  clear hR hm
  cases hW : wordD l k 2 with
  | bad ln cl er =>
    rw [hW] at KW
    simp only [textD] at KW
    have HE : Hid (R = .bad ln cl er) := Lib.hid (by rw [← HR.out]; unfold numD; rw [hW])
    clear hW HR hbig hdig
    go_enter Tryz.func80, Tryz.ntmps80
    go_wp2_with fail
    refine KW.out.mono ?_
    rintro e w1 ⟨rfl, ⟨her, k1, hr⟩, hkp⟩
    have HRW := Lib.hid hr
    have HKP := Lib.hid hkp
    have HER := Lib.hid her
    clear hr hkp her KW
    go_wp2_with fail
    go_loop [4, 5] (fun v i => v = .int .i64 0 ∧ i = .int .i64 0) (fun _ _ => 0)
    case atStart => exact ⟨rfl, rfl⟩
    case round =>
      obtain ⟨rfl, rfl⟩ := hrel
      go_wp2_with fail
      go_ret
      rw [HE.out]
      exact ⟨⟨0, rfl, fun m k' h => by cases h⟩, ⟨HER.out, k1, HRW.out⟩, HKP.out⟩
  | ok t k' =>
    rw [hW] at KW
    simp only [textD] at KW
    obtain ⟨rfl, x, hx, hxt, hxk⟩ := wordD_ok hW
    have ht : t.length ≤ 5000 := by rw [← hxt]; exact hbig x (List.mem_of_getElem? hx)
    obtain ⟨d, r, htd, hd⟩ := hdig x (List.mem_of_getElem? hx) hxk
    rw [hxt] at htd
    have HE : Hid (R = match numOf t with
      | some n => .ok n (k + 1)
      | none => .bad (x.2.2.1 : Int) (x.2.2.2 : Int) 4) := Lib.hid (by
      rw [← HR.out]
      unfold numD
      rw [hW, List.getD_eq_getElem?_getD, hx]
      rfl)
    have HX := Lib.hid hx
    have HTD := Lib.hid htd
    have HD := Lib.hid hd
    clear hx hxt hxk hW HR hbig hdig htd hd
    go_enter Tryz.func80, Tryz.ntmps80
    go_wp2_with fail
    refine KW.out.mono ?_
    rintro e w1 ⟨rfl, hr, hkp⟩
    have HRW : Hid (RowM w1 b A c l (k + 1) 0 0 0) := Lib.hid hr
    have HKP := Lib.hid hkp
    clear hr hkp KW
    have HB := Lib.hid (rback_e b A c l k 4 x w1 HRW.out HX.out (by decide))
    go_wp2_with fail
    go_loop [4, 5] (fun v i => ∃ p : Nat, p ≤ t.length ∧ p ≤ 9 ∧ i = .int .i64 p ∧ v = .int .i64 (valN (t.take p) 0 : Nat) ∧ (t.take p).all isD = true ∧ (1 < p → t.head? ≠ some 48)) (fun _ i => t.length - (intOf i).toNat)
    case atStart => exact ⟨0, by omega, by omega, rfl, rfl, rfl, fun h => by omega⟩
    case round =>
      obtain ⟨p, hp, hp9, rfl, rfl, hall, hno⟩ := hrel
      have HALL := Lib.hid hall
      have HNO := Lib.hid hno
      clear hall hno
      have p0 : (0 : Int) ≤ (p : Int) := by omega
      by_cases hlt : p < t.length
      · have hlti : (p : Int) < (t.length : Int) := by omega
        obtain ⟨y, hy⟩ : ∃ y, t[p]? = some y := ⟨t[p], List.getElem?_eq_getElem hlt⟩
        obtain ⟨z, hz⟩ : ∃ z, t[0]? = some z := ⟨t[0]'(by omega), List.getElem?_eq_getElem (by omega)⟩
        have HY := Lib.hid hy
        have HZ := Lib.hid hz
        obtain ⟨Y, hYY⟩ : ∃ Y, y.toNat = Y := ⟨_, rfl⟩
        obtain ⟨Z, hZZ⟩ : ∃ Z, z.toNat = Z := ⟨_, rfl⟩
        have hY : ((⟨t.toArray⟩ : ByteArray)[p]'(by show p < t.toArray.size; simpa using hlt)).toNat = Y := by
          rw [← hYY]
          congr 1
          have := List.getElem?_eq_some_iff.1 hy
          obtain ⟨_, h2⟩ := this
          rw [← h2]
          rfl
        have hZ : ((⟨t.toArray⟩ : ByteArray)[0]'(by show 0 < t.toArray.size; simp; omega)).toNat = Z := by
          rw [← hZZ]
          congr 1
          have := List.getElem?_eq_some_iff.1 hz
          obtain ⟨_, h2⟩ := this
          rw [← h2]
          rfl
        have HYY := Lib.hid hYY
        have HZZ := Lib.hid hZZ
        have t0 : (0 : Int) < (t.length : Int) := by omega
        have HV := Lib.hid (valN_take hy)
        have hvb : valN (t.take p) 0 < 1000000000 := by
          have h1 := valN_lt (t.take p) 0 HALL.out
          have h2 : 10 ^ (t.take p).length ≤ 10 ^ 9 := Nat.pow_le_pow_right (by omega) (by rw [List.length_take]; omega)
          have h3 : (10 : Nat) ^ 9 = 1000000000 := by decide
          omega
        generalize valN (t.take p) 0 = v0 at HV hvb ⊢
        have v1 : (0 : Int) ≤ (v0 : Int) := by omega
        have v2 : (v0 : Int) < 1000000000 := by omega
        clear hy hz hYY hZZ hvb
        by_cases hy1 : Y < 48
        · have hy1i : (Y : Int) < 48 := by omega
          have HE2 : Hid (R = .bad (x.2.2.1 : Int) (x.2.2.2 : Int) 4) := Lib.hid (by
            rw [HE.out, show numOf t = none by
              rw [HTD.out]
              refine num_odd HD.out ?_
              rw [← HTD.out, List.all_eq_false]
              exact ⟨y, List.mem_of_getElem? HY.out, by simp [isD, HYY.out]; omega⟩])
          clear v1 v2 hZ
          go_wp2_with fail
          refine HB.out.mono ?_
          rintro e w2 ⟨⟨v, rfl⟩, hr, hkp⟩
          have HR2 := Lib.hid hr
          have HK2 := Lib.hid (HKP.out.trans hkp)
          clear hr hkp
          go_wp2
          go_ret
          rw [HE2.out]
          exact ⟨⟨0, rfl, fun m k' h => by cases h⟩, ⟨by decide, k, HR2.out⟩, HK2.out⟩
        have hy1i : (48 : Int) ≤ (Y : Int) := by omega
        by_cases hy2 : 57 < Y
        · have hy2i : (57 : Int) < (Y : Int) := by omega
          have HE2 : Hid (R = .bad (x.2.2.1 : Int) (x.2.2.2 : Int) 4) := Lib.hid (by
            rw [HE.out, show numOf t = none by
              rw [HTD.out]
              refine num_odd HD.out ?_
              rw [← HTD.out, List.all_eq_false]
              exact ⟨y, List.mem_of_getElem? HY.out, by simp [isD, HYY.out]; omega⟩])
          clear v1 v2 hZ
          go_wp2_with fail
          refine HB.out.mono ?_
          rintro e w2 ⟨⟨v, rfl⟩, hr, hkp⟩
          have HR2 := Lib.hid hr
          have HK2 := Lib.hid (HKP.out.trans hkp)
          clear hr hkp
          go_wp2
          go_ret
          rw [HE2.out]
          exact ⟨⟨0, rfl, fun m k' h => by cases h⟩, ⟨by decide, k, HR2.out⟩, HK2.out⟩
        have hy2i : (Y : Int) ≤ 57 := by omega
        by_cases hp8 : 8 < p
        · have hp8i : (8 : Int) < (p : Int) := by omega
          have HE2 : Hid (R = .bad (x.2.2.1 : Int) (x.2.2.2 : Int) 4) := Lib.hid (by rw [HE.out, num_long (by omega)])
          clear v1 v2 hZ
          go_wp2_with fail
          refine HB.out.mono ?_
          rintro e w2 ⟨⟨v, rfl⟩, hr, hkp⟩
          have HR2 := Lib.hid hr
          have HK2 := Lib.hid (HKP.out.trans hkp)
          clear hr hkp
          go_wp2
          go_ret
          rw [HE2.out]
          exact ⟨⟨0, rfl, fun m k' h => by cases h⟩, ⟨by decide, k, HR2.out⟩, HK2.out⟩
        have hp8i : (p : Int) ≤ 8 := by omega
        have HALL2 : Hid ((t.take (p + 1)).all isD = true) := Lib.hid (by
          rw [List.take_add_one, HY.out, List.all_append, HALL.out]
          simp [isD, HYY.out]
          omega)
        have hval : IntKind.i64 = IntKind.i64 := rfl
        by_cases hp1 : p = 1
        · subst hp1
          have lt1 : (1 : Int) < (t.length : Int) := by omega
          by_cases hz1 : Z = 48
          · have hz1b : ((Z : Int) == 48) = true := by simp [hz1]
            have HE2 : Hid (R = .bad (x.2.2.1 : Int) (x.2.2.2 : Int) 4) := Lib.hid (by
              rw [HE.out, num_nought (by
                rw [List.head?_eq_getElem?, HZ.out]
                congr 1
                apply UInt8.toNat_inj.1
                rw [HZZ.out, hz1]
                rfl) (by omega)])
            clear v1 v2 hval
            go_wp2_with fail
            refine HB.out.mono ?_
            rintro e w2 ⟨⟨v, rfl⟩, hr, hkp⟩
            have HR2 := Lib.hid hr
            have HK2 := Lib.hid (HKP.out.trans hkp)
            clear hr hkp
            go_wp2
            go_ret
            rw [HE2.out]
            exact ⟨⟨0, rfl, fun m k' h => by cases h⟩, ⟨by decide, k, HR2.out⟩, HK2.out⟩
          · have hz1b : ((Z : Int) == 48) = false := by simp; omega
            have HN2 : Hid (1 < 1 + 1 → t.head? ≠ some 48) := Lib.hid (fun _ e => by
              rw [List.head?_eq_getElem?, HZ.out] at e
              cases e
              exact hz1 (by rw [← HZZ.out]; rfl))
            have E := Lib.hid (show wrap64 (wrap64 (10 * (v0 : Int)) + ((Y : Int) - 48)) = ((valN (t.take (1 + 1)) 0 : Nat) : Int) by
              rw [IntWalk.wrap64_in (10 * (v0 : Int)) (by omega), IntWalk.wrap64_in _ (by omega), HV.out, HYY.out]
              omega)
            clear v1 v2 hval
            go_wp2_with fail
            go_round
            case rel => exact ⟨2, by omega, by omega, rfl, by rw [E.out], HALL2.out, HN2.out⟩
            case measure => simp [intOf]; omega
        · have hp1b : ((p : Int) == 1) = false := by simp; omega
          have HN2 : Hid (1 < p + 1 → t.head? ≠ some 48) := Lib.hid (fun h => by
            by_cases h1 : 1 < p
            · exact HNO.out h1
            · obtain rfl : p = 0 := by omega
              omega)
          have E := Lib.hid (show wrap64 (wrap64 (10 * (v0 : Int)) + ((Y : Int) - 48)) = ((valN (t.take (p + 1)) 0 : Nat) : Int) by
            rw [IntWalk.wrap64_in (10 * (v0 : Int)) (by omega), IntWalk.wrap64_in _ (by omega), HV.out, HYY.out]
            omega)
          clear v1 v2 hval
          go_wp2_with fail
          go_round
          case rel => exact ⟨p + 1, by omega, by omega, by go_num, by rw [E.out], HALL2.out, HN2.out⟩
          case measure => simp [intOf]; omega
      · obtain rfl : p = t.length := by omega
        have HE2 : Hid (R = .ok (valN t 0 : Nat) (k + 1)) := Lib.hid (by
          have h1 := HALL.out
          rw [List.take_length] at h1
          rw [HE.out, num_yes (by rw [HTD.out]; simp) h1 hp9 HNO.out])
        rw [List.take_length]
        go_wp2_with fail
        go_ret
        rw [HE2.out]
        exact ⟨⟨_, rfl, fun m k' h => by cases h; rfl⟩, HRW.out, HKP.out⟩
end Go.Proofs.YthbplchbolghjaaGreatDoor

namespace Go.Proofs.YthbplchbolghjaaGreatDoor
open Go.RowKit

/-- What a policy looks for, as the words to the line's end. -/
def onD (l : List Sc.W4) : Nat → Nat → Int → DR Int
  | 0, _, _ => .bad 0 0 4
  | f + 1, k, n => match wordD l k 1 with
    | .bad ln cl er => .bad ln cl er
    | .ok t k' => if bitF t ≤ n then .bad ((l.getD k zw).2.2.1 : Int) ((l.getD k zw).2.2.2 : Int) 4 else
        if k' = l.length then .ok (n + bitF t) k' else onD l f k' (n + bitF t)
theorem bit_ix : ∀ m : Fin 5, bitF (looksL.getD m.val []) = 2 ^ m.val := by decide
theorem bit_at {m : Nat} {t : List UInt8} (h : looksL[m]? = some t) : m < 5 ∧ bitF t = 2 ^ m := by
  have hm : m < 5 := (List.getElem?_eq_some_iff.1 h).1
  have := bit_ix ⟨m, hm⟩
  rw [show looksL.getD m [] = t by rw [List.getD_eq_getElem?_getD, h]; rfl] at this
  exact ⟨hm, this⟩
theorem bit_none {t : List UInt8} (h : t ∉ looksL) : bitF t = 0 := by
  unfold bitF bitsM
  simp only [Qu.look]
  have h1 : ∀ x ∈ looksL, ¬ (t = x) := fun x hx e => h (e ▸ hx)
  have e0 := h1 [100, 111, 117, 98, 108, 101, 115] (by decide)
  have e1 := h1 [119, 105, 116, 104] (by decide)
  have e2 := h1 [116, 97, 105, 110, 116, 115] (by decide)
  have e3 := h1 [115, 112, 114, 101, 97, 100] (by decide)
  have e4 := h1 [101, 109, 112, 116, 121] (by decide)
  rw [if_neg e0, if_neg e1, if_neg e2, if_neg e3, if_neg e4]
  rfl
/-- Where the bits are that were read: all below the next one's place, the last one next to it. -/
structure UpTo (v : Int) (j : Nat) : Prop where
  le : j ≤ 5
  pos : 0 ≤ v
  lt : v < 2 ^ j
  top : 0 < j → 2 ^ (j - 1) ≤ v
theorem pow_up {a b : Nat} (h : a ≤ b) : (2 : Int) ^ a ≤ 2 ^ b := by
  have := Nat.pow_le_pow_right (n := 2) (by omega) h
  exact_mod_cast this
/-- A word that is none of those that may come is no greater bit. -/
theorem bit_gone {v : Int} {j : Nat} {t : List UInt8} (h : UpTo v j) (hno : ∀ q, j ≤ q → q < 5 → looksL[q]? ≠ some t) : bitF t ≤ v := by
  by_cases hm : t ∈ looksL
  · obtain ⟨q, hq⟩ := List.mem_iff_getElem?.1 hm
    obtain ⟨h5, hb⟩ := bit_at hq
    have hqj : q < j := by
      by_cases hc : q < j
      · exact hc
      · exact absurd hq (hno q (by omega) h5)
    have := h.top (by omega)
    have h2 := pow_up (show q ≤ j - 1 by omega)
    omega
  · rw [bit_none hm]
    exact h.pos
theorem bit_come {v : Int} {j m : Nat} {t : List UInt8} (h : UpTo v j) (hj : j ≤ m) (ht : looksL[m]? = some t) : v < bitF t ∧ UpTo (v + bitF t) (m + 1) := by
  obtain ⟨h5, hb⟩ := bit_at ht
  have h1 := pow_up hj
  have h2 := h.lt
  have h3 := h.pos
  have h4 : (2 : Int) ^ (m + 1) = 2 ^ m + 2 ^ m := by rw [Int.pow_succ]; omega
  rw [hb]
  exact ⟨by omega, by omega, by omega, by rw [h4]; omega, fun _ => by rw [Nat.add_sub_cancel]; omega⟩

/-- The state at the loop's head. -/
def OnHead (w : World) (b : Nat) (A : Option Addr) (c : Nat) (l : List Sc.W4) (R : DR Int) (n fr : Value) (wr : World) : Prop :=
  ∃ (f j k' : Nat) (v : Int), n = .int .i64 v ∧ fr = .int .i64 (j : Int) ∧ UpTo v j ∧ RowM wr b A c l k' 0 0 0 ∧ KeepR b w wr ∧ l.length < k' + f ∧ (if k' < l.length ∨ v = 0 then onD l f k' v else .ok v k') = R
set_option maxRecDepth 100000 in
set_option maxHeartbeats 4000000 in
theorem rbits_any (b : Nat) (A : Option Addr) (c : Nat) (l : List Sc.W4) (k : Nat) (w : World) (hm : RowM w b A c l k 0 0 0) (hl : 0 < l.length) :
    Calls Tryz.prog 78 #[.pointer (some ⟨b, 0, none⟩)] w fun e w' => (∃ n, e = .returned (.int .i64 n) ∧ ∀ m k', onD l (l.length + 1) k 0 = .ok m k' → n = m) ∧ DRM w b A c l (onD l (l.length + 1) k 0) w' := by
  have KW := Lib.hid (fun k w hm => rword_any b A c l k 1 w hm hl)
  have hbl := Blk.lt hm.blk
  have HM := Lib.hid hm
  obtain ⟨R, hR⟩ : ∃ R, onD l (l.length + 1) k 0 = R := ⟨_, rfl⟩
  have HR := Lib.hid hR
  rw [hR]
  clear hR hm
  go_enter Tryz.func78, Tryz.ntmps78
  go_wp2_with fail
  go_loopw [3, 4] (fun n fr wr => OnHead w b A c l R n fr wr) (fun _ _ wr => l.length + 1 - (intOf ((wr.cell? ⟨b, 1, none⟩).getD (.int .i64 0))).toNat)
  case atStart => exact ⟨l.length + 1, 0, k, 0, rfl, rfl, ⟨by omega, by omega, by decide, fun h => by omega⟩, HM.out, KeepR.refl _ _, by omega, by rw [if_pos (.inr rfl)]; exact HR.out⟩
  case round =>
    obtain ⟨f, j, k', v, rfl, rfl, hu, hm, hk, hf, hF⟩ := hrel
    have HU := Lib.hid hu
    have HMR := Lib.hid hm
    have HK := Lib.hid hk
    have hle := hm.le
    have d0 : wr.cell? ⟨b, 0, none⟩ = some (.slice A l.length c) := Blk.cell hm.blk 0
    have d1 : wr.cell? ⟨b, 1, none⟩ = some (.int .i64 (k' : Int)) := Blk.cell hm.blk 1
    have d4 : wr.cell? ⟨b, 4, none⟩ = some (.int .i64 0) := Blk.cell hm.blk 4
    have D1 := Lib.hid d1
    by_cases hc : k' < l.length ∨ v = 0
    case neg =>
      have HE : Hid (R = .ok v k') := Lib.hid (by rw [← hF, if_neg hc])
      have k1 : ¬ (k' : Int) < (l.length : Int) := by omega
      have k2 : decide (k' < l.length) = false := by simp; omega
      have k3 : decide ((k' : Int) < (l.length : Int)) = false := by simp; omega
      have v1 : (v == 0) = false := by simp; omega
      clear hF hc hu hm hk
      go_wp2_with fail
      go_quiet (fail)
      go_wp2
      go_ret
      rw [HE.out]
      exact ⟨⟨v, rfl, fun m k' h => by cases h; rfl⟩, HMR.out.below (below_drewN _ _ _), HK.out.trans (KeepR.of (below_drewN _ _ _))⟩
    obtain ⟨f, rfl⟩ : ∃ g, f = g + 1 := ⟨f - 1, by omega⟩
    rw [if_pos hc, onD] at hF
    have HF := Lib.hid hF
    clear hF
    go_upto_region 2 with fail
    go_cut [27] from 7 to 27 (fun z wc => z = .bool true ∧ ∃ n, wc = wr.drewN n)
    case first =>
      clear hu hm hk
      by_cases h1 : k' < l.length
      · have k1 : (k' : Int) < (l.length : Int) := by omega
        have k2 : decide (k' < l.length) = true := decide_eq_true h1
        clear hc h1
        go_wp2_with fail
        go_quiet (fail)
        go_wp2
        go_meet
        exact ⟨rfl, _, rfl⟩
      · have v1 : v = 0 := by omega
        subst v1
        have k1 : ¬ (k' : Int) < (l.length : Int) := by omega
        have k2 : decide (k' < l.length) = false := decide_eq_false h1
        have k3 : decide ((k' : Int) < (l.length : Int)) = false := by simp; omega
        clear hc h1
        go_wp2_with fail
        go_quiet (fail)
        go_wp2
        go_meet
        exact ⟨rfl, _, rfl⟩
    case rest =>
    obtain ⟨rfl, nn, rfl⟩ := hcut
    have HM2 := Lib.hid (HMR.out.below (below_drewN wr.heap.size wr nn))
    have KW2 := Lib.hid (KW.out k' _ HM2.out)
    have HK2 := Lib.hid (HK.out.trans (KeepR.of (below_drewN wr.heap.size wr nn)))
    clear hu hm hk d0 d1 d4
    cases hW : wordD l k' 1 with
    | bad ln cl er =>
      rw [hW] at KW2 HF
      simp only [textD] at KW2
      go_wp2_with fail
      refine KW2.out.mono ?_
      rintro e w1 ⟨rfl, ⟨her, k1, hr⟩, hkp⟩
      have HRW := Lib.hid hr
      have HKP := Lib.hid (HK2.out.trans hkp)
      have HER := Lib.hid her
      have d4 : w1.cell? ⟨b, 4, none⟩ = some (.int .i64 er) := Blk.cell hr.blk 4
      have h1 : (er != 0) = true := by simpa using her
      clear hr hkp her KW2 hW
      go_wp2
      go_ret
      rw [← HF.out]
      exact ⟨⟨0, rfl, fun m k' h => by cases h⟩, ⟨HER.out, k1, HRW.out⟩, HKP.out⟩
    | ok t k2 =>
      rw [hW] at KW2 HF
      simp only [textD] at KW2 HF
      obtain ⟨rfl, x, hx, hxt, -⟩ := wordD_ok hW
      have HX := Lib.hid hx
      have hg : l.getD k' zw = x := by rw [List.getD_eq_getElem?_getD, hx]; rfl
      rw [hg] at HF
      have hlt := (List.getElem?_eq_some_iff.1 hx).1
      clear hx hxt hW hg
      go_wp2_with fail
      refine KW2.out.mono ?_
      rintro e w1 ⟨rfl, hr, hkp⟩
      have HRW : Hid (RowM w1 b A c l (k' + 1) 0 0 0) := Lib.hid hr
      have HKP := Lib.hid (HK2.out.trans hkp)
      have d4 : w1.cell? ⟨b, 4, none⟩ = some (.int .i64 0) := Blk.cell HRW.out.blk 4
      have hj5 := HU.out.le
      clear hr hkp KW2 HK2 HM2 HMR HK
      go_wp2_with fail
      clear d4
      generalize w1 = W1 at *
      go_loopw [6] (fun i wx => ∃ m : Nat, j ≤ m ∧ m ≤ 5 ∧ i = .int .i64 (m : Int) ∧ (∀ q, j ≤ q → q < m → looksL[q]? ≠ some t) ∧ Below W1.heap.size W1 wx) (fun i _ => 5 - (intOf i).toNat)
      case atStart => exact ⟨j, Nat.le_refl _, hj5, rfl, fun q h1 h2 => by omega, Below.refl _ _⟩
      case round =>
        obtain ⟨m, hjm, hm5, rfl, hno, hbx⟩ := hrel
        have HNO := Lib.hid hno
        have HBX := Lib.hid hbx
        clear hno hbx
        by_cases h5 : m < 5
        · obtain ⟨y, hy⟩ : ∃ y, looksL[m]? = some y := ⟨looksL[m]'(by show m < 5; exact h5), List.getElem?_eq_getElem _⟩
          have HY := Lib.hid hy
          have C0 := Lib.hid (on_cell wr hy)
          have m0 : (0 : Int) ≤ (m : Int) := by omega
          have m1 : (m : Int) < 5 := by omega
          clear hy
          go_wp2_with fail
          refine (ron_any _).mono ?_
          rintro e w5 ⟨rfl, rfl⟩
          have c0 := C0.out
          by_cases hyt : y = t
          · subst hyt
            have yb : (y != y) = false := by simp
            have m5 : ((m : Int) == 5) = false := by simp; omega
            have HM3 := Lib.hid ((HRW.out.below HBX.out).below (below1 wr (.cells (strC looksL).toArray 9)))
            have HK3 := Lib.hid (HKP.out.trans (KeepR.of (HBX.out.alloc HBX.out.size (.cells (strC looksL).toArray 9))))
            have HC := Lib.hid (bit_come HU.out hjm HY.out)
            have HBT := Lib.hid (bit_at HY.out).2
            have HOR : Hid (bits BinOp.or IntKind.i64 v (wrap64 (2 ^ m)) = v + bitF y) := Lib.hid (by
              have hw : wrap64 (2 ^ m) = bitF y := by
                rw [HBT.out]
                obtain rfl | rfl | rfl | rfl | rfl : m = 0 ∨ m = 1 ∨ m = 2 ∨ m = 3 ∨ m = 4 := by omega
                all_goals exact IntWalk.wrap64_in _ ⟨by decide, by decide⟩
              rw [hw]
              have h1 := HU.out.lt
              have h2 := pow_up HU.out.le
              exact bits_or (or_bit HU.out.pos (by omega) HC.out.1).1)
            have HM1 : Hid ((wr.alloc (.cells (strC looksL).toArray 9)).cell? ⟨b, 1, none⟩ = some (.int .i64 ((k' + 1 : Nat) : Int))) := Lib.hid (Blk.cell HM3.out.blk 1)
            go_wp2_with fail
            go_roundw
            case rel =>
              refine ⟨f, m + 1, k' + 1, v + bitF y, by rw [HOR.out], by go_num, HC.out.2, HM3.out, HK3.out, by omega, ?_⟩
              have h1 := HC.out.1
              have h2 := HU.out.pos
              have h3 := HF.out
              rw [if_neg (by omega)] at h3
              by_cases hq : k' + 1 = l.length
              · rw [if_pos hq] at h3
                rw [if_neg (by omega)]
                exact h3
              · rw [if_neg hq] at h3
                rw [if_pos (by omega)]
                exact h3
            case measure =>
              rw [HM1.out, D1.out]
              simp [intOf]
              omega
          · have yb : (y != t) = true := by simpa using hyt
            have yb2 : (y == t) = false := by simpa using hyt
            have Hyt := Lib.hid hyt
            clear hyt
            go_wp2_with fail
            go_roundw
            case rel =>
              refine ⟨m + 1, by omega, by omega, by go_num, fun q h1 h2 => ?_, HBX.out.alloc HBX.out.size _⟩
              by_cases hqm : q = m
              · subst hqm
                rw [HY.out]
                intro e
                exact Hyt.out (Option.some.inj e)
              · exact HNO.out q h1 (by omega)
            case measure => simp [intOf]; omega
        · obtain rfl : m = 5 := by omega
          have HE : Hid (R = .bad (x.2.2.1 : Int) (x.2.2.2 : Int) 4) := Lib.hid (by rw [← HF.out, if_pos (bit_gone HU.out (fun q h1 h2 => HNO.out q h1 h2))])
          have KB := Lib.hid (rback_e b A c l k' 4 x wr (HRW.out.below HBX.out) HX.out (by decide))
          go_wp2_with fail
          refine KB.out.mono ?_
          rintro e w2 ⟨⟨v, rfl⟩, hr, hkp⟩
          have HR2 := Lib.hid hr
          have HK2 := Lib.hid ((HKP.out.trans (KeepR.of HBX.out)).trans hkp)
          clear hr hkp
          go_wp2
          go_ret
          rw [HE.out]
          exact ⟨⟨0, rfl, fun m k' h => by cases h⟩, ⟨by decide, k', HR2.out⟩, HK2.out⟩
end Go.Proofs.YthbplchbolghjaaGreatDoor

namespace Go.Proofs.YthbplchbolghjaaGreatDoor
open Go.RowKit

/-- Names, as the words to the line's end. -/
def drainD (l : List Sc.W4) : Nat → Nat → List (List UInt8) → DR (List (List UInt8))
  | 0, _, _ => .bad 0 0 4
  | f + 1, k, acc => match wordD l k 1 with
    | .bad ln cl er => .bad ln cl er
    | .ok t k' => if La.nameB t = true then (if k' = l.length then .ok (acc ++ [t]) k' else drainD l f k' (acc ++ [t])) else .bad ((l.getD k zw).2.2.1 : Int) ((l.getD k zw).2.2.2 : Int) 4
/-- A list of the call's own, as a slice. -/
def OutAt (w : World) (B : Nat) (v : Value) (L : List (List UInt8)) : Prop := ∃ A c, v = .slice A L.length c ∧ w.ownsRow B 9 1 (.slice A L.length c) L.length (strC L)
/-- The state at the loop's head. -/
def DrHead (w : World) (b : Nat) (A : Option Addr) (c : Nat) (l : List Sc.W4) (R : DR (List (List UInt8))) (out : Value) (wr : World) : Prop :=
  (∃ (f k' : Nat) (acc : List (List UInt8)), OutAt wr w.heap.size out acc ∧ RowM wr b A c l k' 0 0 0 ∧ KeepR b w wr ∧ l.length < k' + f ∧ acc.length ≤ k' ∧ (if k' < l.length ∨ acc = [] then drainD l f k' acc else .ok acc k') = R) ∨
  (∃ (ln cl er : Int) (k' : Nat) (acc : List (List UInt8)), R = .bad ln cl er ∧ er ≠ 0 ∧ OutAt wr w.heap.size out acc ∧ RowM wr b A c l k' ln cl er ∧ KeepR b w wr)
/-- How far it is to the loop's end. -/
def drM (l : List Sc.W4) (b : Nat) (wr : World) : Nat := match wr.cell? ⟨b, 4, none⟩ with
  | some (.int _ e) => if e = 0 then l.length + 2 - (intOf ((wr.cell? ⟨b, 1, none⟩).getD (.int .i64 0))).toNat else 0
  | _ => 0
theorem drM_ok {w : World} {b : Nat} {A : Option Addr} {c : Nat} {l : List Sc.W4} {k : Nat} {ln cl : Int} (h : RowM w b A c l k ln cl 0) : drM l b w = l.length + 2 - k := by
  have d1 : w.cell? ⟨b, 1, none⟩ = some (.int .i64 (k : Int)) := Blk.cell h.blk 1
  have d4 : w.cell? ⟨b, 4, none⟩ = some (.int .i64 0) := Blk.cell h.blk 4
  unfold drM
  rw [d4, d1]
  simp [intOf]
theorem drM_bad {w : World} {b : Nat} {A : Option Addr} {c : Nat} {l : List Sc.W4} {k : Nat} {ln cl er : Int} (h : RowM w b A c l k ln cl er) (he : er ≠ 0) : drM l b w = 0 := by
  have d4 : w.cell? ⟨b, 4, none⟩ = some (.int .i64 er) := Blk.cell h.blk 4
  unfold drM
  rw [d4]
  simp [he]
/-- One name more. -/
theorem out_more {w W w' : World} {B : Nat} {v' : Value} {acc : List (List UInt8)} {t : List UInt8} (h : w'.ownsRow B 9 1 v' (acc.length + 1) (strC acc ++ [strV t])) : OutAt w' B v' (acc ++ [t]) := by
  obtain ⟨A, c, rfl, _, _⟩ := Sc.own_sliceS h
  refine ⟨A, c, by simp, ?_⟩
  simp only [List.length_append, List.length_singleton]
  rw [show strC (acc ++ [t]) = strC acc ++ [strV t] by simp [strC]]
  exact h
theorem row_grown {w w' : World} {b : Nat} {A : Option Addr} {c : Nat} {l : List Sc.W4} {k : Nat} {ln cl er : Int} {row : Option Nat} (h : RowM w b A c l k ln cl er) (hg : w.grownBy w' row) (hb : row ≠ some b) (hA : ∀ q o, A = some ⟨q, o, none⟩ → row ≠ some q) : RowM w' b A c l k ln cl er := by
  refine ⟨Blk.kept h.blk hg (fun e => hb e.symm), fun j y hj => ?_, h.ne, h.le, h.lc⟩
  obtain ⟨q, o, hq, hc⟩ := h.lw j y hj
  refine ⟨q, o, hq, ?_⟩
  have hl := World.block_lt_of_cell? w _ hc
  have e := hg.block q hl (fun e => hA q o hq e.symm)
  rw [← hc]
  simp only [World.cell?, e]

theorem own_gem9 {w : World} {base : Nat} {e : TypeId} {size : Nat} {v : Value} {n : Nat} {xs : List Value} (h : w.ownsRow base e size v n xs) {j : Nat} (hj : v.ownBlock = some j) : base ≤ j := (h.lt j hj).1
theorem keep_grown {g : Nat} {w a b : World} {row : Option Nat} (h : KeepR g w a) (hg : a.grownBy b row) (hr : ∀ q, row = some q → w.heap.size ≤ q) : KeepR g w b :=
  ⟨hg.os.trans h.os, hg.tape.trans h.tape, hg.output.trans h.output, Nat.le_trans h.size hg.size, fun k hk hkg => (hg.block k (Nat.lt_of_lt_of_le hk h.size) (fun e => by have := hr k e.symm; omega)).trans (h.block k hk hkg)⟩
set_option maxRecDepth 100000 in
set_option maxHeartbeats 4000000 in
theorem rdrain_any (b : Nat) (A : Option Addr) (c : Nat) (l : List Sc.W4) (k : Nat) (w : World) (hm : RowM w b A c l k 0 0 0) (hl : 0 < l.length) (hfew : l.length ≤ 100000) (hbig : ∀ x ∈ l, x.2.1.length ≤ 5000) (hA : ∀ q o, A = some ⟨q, o, none⟩ → q < w.heap.size) :
    Calls Tryz.prog 79 #[.pointer (some ⟨b, 0, none⟩)] w fun e w' => (∃ A' c' L, e = .returned (.slice A' L.length c') ∧ w'.ownsRow w.heap.size 9 1 (.slice A' L.length c') L.length (strC L) ∧ ∀ m k', drainD l (l.length + 1) k [] = .ok m k' → L = m) ∧ DRM w b A c l (drainD l (l.length + 1) k []) w' := by
  have KW := Lib.hid (fun k w hm => rword_any b A c l k 1 w hm hl)
  have hbl := Blk.lt hm.blk
  have HM := Lib.hid hm
  have HAW := Lib.hid hA
  have HBIG := Lib.hid hbig
  obtain ⟨i0, hi0, hz0, hz1, hz2⟩ := info_parts gstr_info
  obtain ⟨R, hR⟩ : ∃ R, drainD l (l.length + 1) k [] = R := ⟨_, rfl⟩
  have HR := Lib.hid hR
  rw [hR]
  clear hR hm hA hbig
  go_enter Tryz.func79, Tryz.ntmps79
  go_wp2_with fail
  go_loopw [3] (fun out wr => DrHead w b A c l R out wr) (fun _ wr => drM l b wr)
  case atStart => exact .inl ⟨l.length + 1, k, [], ⟨none, 0, rfl, World.ownsRow_nil _ _ _ _⟩, HM.out, KeepR.refl _ _, by omega, by simp, by rw [if_pos (.inr rfl)]; exact HR.out⟩
  case round =>
    rcases hrel with ⟨f, k', acc, ⟨A', c', rfl, hown⟩, hm, hk, hf, hal, hF⟩ | ⟨ln, cl, er, k', acc, hRb, her, ⟨A', c', rfl, hown⟩, hm, hk⟩
    case inr =>
      have HMR := Lib.hid hm
      have HK := Lib.hid hk
      have HO := Lib.hid hown
      have HE := Lib.hid hRb
      have HER := Lib.hid her
      have d4 : wr.cell? ⟨b, 4, none⟩ = some (.int .i64 er) := Blk.cell hm.blk 4
      have h1 : (er == 0) = false := by simpa using her
      clear hm hk hown hRb her
      go_wp2_with fail
      go_quiet (fail)
      go_wp2
      go_ret
      rw [HE.out]
      have BN := below_drewN wr.heap.size wr nq
      exact ⟨⟨A', c', acc, rfl, Sc.own_below HO.out BN, fun m k' h => by cases h⟩, ⟨HER.out, k', HMR.out.below BN⟩, HK.out.trans (KeepR.of BN)⟩
    have HMR := Lib.hid hm
    have HK := Lib.hid hk
    have HO := Lib.hid hown
    have hle := hm.le
    have d0 : wr.cell? ⟨b, 0, none⟩ = some (.slice A l.length c) := Blk.cell hm.blk 0
    have d1 : wr.cell? ⟨b, 1, none⟩ = some (.int .i64 (k' : Int)) := Blk.cell hm.blk 1
    have d4 : wr.cell? ⟨b, 4, none⟩ = some (.int .i64 0) := Blk.cell hm.blk 4
    have MZ := Lib.hid (drM_ok hm)
    by_cases hc : k' < l.length ∨ acc = []
    case neg =>
      have HE : Hid (R = .ok acc k') := Lib.hid (by rw [← hF, if_neg hc])
      have hne : acc ≠ [] := fun e => hc (.inr e)
      have hpos : 0 < acc.length := List.length_pos_iff.2 hne
      have k1 : ¬ (k' : Int) < (l.length : Int) := by omega
      have k2 : decide (k' < l.length) = false := by simp; omega
      have k3 : decide ((k' : Int) < (l.length : Int)) = false := by simp; omega
      have v1 : ((acc.length : Int) == 0) = false := by simp; exact hne
      clear hF hc hm hk hown hne
      go_wp2_with fail
      go_quiet (fail)
      go_wp2
      go_ret
      rw [HE.out]
      have BN := below_drewN wr.heap.size wr nq
      exact ⟨⟨A', c', acc, rfl, Sc.own_below HO.out BN, fun m k' h => by cases h; rfl⟩, HMR.out.below BN, HK.out.trans (KeepR.of BN)⟩
    obtain ⟨f, rfl⟩ : ∃ g, f = g + 1 := ⟨f - 1, by omega⟩
    rw [if_pos hc, drainD] at hF
    have HF := Lib.hid hF
    clear hF
    go_upto_region 2 with fail
    go_cut [26] from 5 to 26 (fun z wc => z = .bool true ∧ ∃ n, wc = wr.drewN n)
    case first =>
      clear hm hk hown
      by_cases h1 : k' < l.length
      · have k1 : (k' : Int) < (l.length : Int) := by omega
        have k2 : decide (k' < l.length) = true := decide_eq_true h1
        clear hc h1
        go_wp2_with fail
        go_quiet (fail)
        go_wp2
        go_meet
        exact ⟨rfl, _, rfl⟩
      · have v1 : acc = [] := by
          rcases hc with h | h
          · exact absurd h h1
          · exact h
        subst v1
        have k1 : ¬ (k' : Int) < (l.length : Int) := by omega
        have k2 : decide (k' < l.length) = false := decide_eq_false h1
        have k3 : decide ((k' : Int) < (l.length : Int)) = false := by simp; omega
        clear hc h1
        go_wp2_with fail
        go_quiet (fail)
        go_wp2
        go_meet
        exact ⟨rfl, _, rfl⟩
    case rest =>
    obtain ⟨rfl, nn, rfl⟩ := hcut
    have BNN := below_drewN wr.heap.size wr nn
    have HM2 := Lib.hid (HMR.out.below BNN)
    have KW2 := Lib.hid (KW.out k' _ HM2.out)
    have HK2 := Lib.hid (HK.out.trans (KeepR.of BNN))
    have HO2 := Lib.hid (Sc.own_below HO.out BNN)
    clear hm hk hown d0 d1 d4 BNN
    cases hW : wordD l k' 1 with
    | bad ln cl er =>
      rw [hW] at KW2 HF
      simp only [textD] at KW2
      go_wp2_with fail
      refine KW2.out.mono ?_
      rintro e w1 ⟨rfl, ⟨her, k1, hr⟩, hkp⟩
      have HRW := Lib.hid hr
      have HKP := Lib.hid (HK2.out.trans hkp)
      have HO3 := Lib.hid (hkp.own HO2.out hbl)
      have HER := Lib.hid her
      have d4 : w1.cell? ⟨b, 4, none⟩ = some (.int .i64 er) := Blk.cell hr.blk 4
      have h1 : (er == 0) = false := by simpa using her
      clear hr hkp her KW2 hW
      have RA := Lib.hid (HRW.out.below (below1 w1 (.cells #[strV []] 9)))
      have KA := Lib.hid (HKP.out.trans (KeepR.of (g := b) (below1 w1 (.cells #[strV []] 9))))
      have hbw : b < w.heap.size := hbl
      have hww := (HKP.out).size
      go_wp2_with (at_builtin; refine wpList_append_own _ rfl _ _ 23 rfl w.heap.size 9 i0 (.string ⟨#[]⟩) 1 16 Tryz.underlying23 hi0 hz0 hz1 hz2 rfl (by decide) _ _ _ rfl (show World.ownsRow _ _ _ _ _ _ _ from HO3.out.alloc _) ⟨w1.heap.size, 0, none⟩ 1 1 [strV []] rfl rfl ?ca1 ?ca2 ?ca3 ?ca4 ?ca5 ?_)
      case ca1 =>
        intro j u hj
        match j, hj with
        | 0, hj => simp at hj; subst hj; simp [Addr.add]
      case ca2 => exact fun u hu => by rw [List.mem_singleton.1 hu]; rfl
      case ca3 => unfold maxLen; omega
      case ca4 => omega
      case ca5 => simp; omega
      intro v' w5 hown' hgrow' _
      have hob : ∀ q, (Value.slice A' acc.length c').ownBlock = some q → w.heap.size ≤ q := fun q hq => own_gem9 HO3.out hq
      have O5 := Lib.hid (out_more (w := w) (W := w) hown')
      have R5 := Lib.hid (row_grown RA.out hgrow' (fun e => by have := hob b e; omega) (fun q o hq e => by have := hob q e; have := HAW.out q o hq; omega))
      have K5 : Hid (KeepR b w w5) := Lib.hid (keep_grown KA.out hgrow' (fun q hq => hob q hq))
      clear hown' hgrow' hob
      have M5 := Lib.hid (drM_bad R5.out HER.out)
      go_wp2_with fail
      go_roundw
      case rel =>
        exact .inr ⟨ln, cl, er, k1, _, HF.out.symm, HER.out, O5.out, R5.out, K5.out⟩
      case measure =>
        rw [M5.out, MZ.out]
        omega
    | ok t k2 =>
      rw [hW] at KW2 HF
      simp only [textD] at KW2 HF
      obtain ⟨rfl, x, hx, hxt, -⟩ := wordD_ok hW
      have HX := Lib.hid hx
      have hg : l.getD k' zw = x := by rw [List.getD_eq_getElem?_getD, hx]; rfl
      rw [hg] at HF
      have hlt := (List.getElem?_eq_some_iff.1 hx).1
      have htl : t.length ≤ 5000 := by rw [← hxt]; exact HBIG.out x (List.mem_of_getElem? hx)
      have KN : Hid (∀ w, Calls Tryz.prog 36 #[strV t] w fun e w' => e = .returned (.bool (La.nameB t)) ∧ w = w') := Lib.hid (fun w => La.rname_any t w (by omega))
      clear hx hxt hW hg htl
      go_wp2_with fail
      refine KW2.out.mono ?_
      rintro e w1 ⟨rfl, hr, hkp⟩
      have HRW : Hid (RowM w1 b A c l (k' + 1) 0 0 0) := Lib.hid hr
      have HKP := Lib.hid (HK2.out.trans hkp)
      have HO3 := Lib.hid (hkp.own HO2.out hbl)
      have d4 : w1.cell? ⟨b, 4, none⟩ = some (.int .i64 0) := Blk.cell HRW.out.blk 4
      clear hr hkp KW2 HK2 HM2 HK HO HO2
      cases hn : La.nameB t
      · rw [hn] at KN
        have HE : Hid (R = .bad (x.2.2.1 : Int) (x.2.2.2 : Int) 4) := Lib.hid (by rw [← HF.out, hn]; rfl)
        have KB := Lib.hid (rback_e b A c l k' 4 x w1 HRW.out HX.out (by decide))
        clear hn
        go_wp2_with fail
        refine (KN.out _).mono ?_
        rintro e w2 ⟨rfl, rfl⟩
        go_wp2_with fail
        refine KB.out.mono ?_
        rintro e w2 ⟨⟨v, rfl⟩, hr, hkp⟩
        have HR2 := Lib.hid hr
        have HK3 := Lib.hid (HKP.out.trans hkp)
        have HO4 := Lib.hid (hkp.own HO3.out hbl)
        clear hr hkp KB HKP HO3 HRW d4
        have RA := Lib.hid (HR2.out.below (below1 w2 (.cells #[strV t] 9)))
        have KA := Lib.hid (HK3.out.trans (KeepR.of (g := b) (below1 w2 (.cells #[strV t] 9))))
        have hbw : b < w.heap.size := hbl
        have hww := (HK3.out).size
        go_wp2_with (at_builtin; refine wpList_append_own _ rfl _ _ 23 rfl w.heap.size 9 i0 (.string ⟨#[]⟩) 1 16 Tryz.underlying23 hi0 hz0 hz1 hz2 rfl (by decide) _ _ _ rfl (show World.ownsRow _ _ _ _ _ _ _ from HO4.out.alloc _) ⟨w2.heap.size, 0, none⟩ 1 1 [strV t] rfl rfl ?cb1 ?cb2 ?cb3 ?cb4 ?cb5 ?_)
        case cb1 =>
          intro j u hj
          match j, hj with
          | 0, hj => simp at hj; subst hj; simp [Addr.add]
        case cb2 => exact fun u hu => by rw [List.mem_singleton.1 hu]; rfl
        case cb3 => unfold maxLen; omega
        case cb4 => omega
        case cb5 => simp; omega
        intro v' w5 hown' hgrow' _
        have hob : ∀ q, (Value.slice A' acc.length c').ownBlock = some q → w.heap.size ≤ q := fun q hq => own_gem9 HO4.out hq
        have O5 := Lib.hid (out_more (w := w) (W := w) hown')
        have R5 := Lib.hid (row_grown RA.out hgrow' (fun e => by have := hob b e; omega) (fun q o hq e => by have := hob q e; have := HAW.out q o hq; omega))
        have K5 : Hid (KeepR b w w5) := Lib.hid (keep_grown KA.out hgrow' (fun q hq => hob q hq))
        clear hown' hgrow' hob
        have M5 := Lib.hid (drM_bad R5.out (by decide))
        go_wp2_with fail
        go_roundw
        case rel =>
          exact .inr ⟨_, _, 4, k', _, HE.out, by decide, O5.out, R5.out, K5.out⟩
        case measure =>
          rw [M5.out, MZ.out]
          omega
      · rw [hn] at KN
        have HF2 : Hid ((if k' + 1 = l.length then DR.ok (acc ++ [t]) (k' + 1) else drainD l f (k' + 1) (acc ++ [t])) = R) := Lib.hid (by have := HF.out; rw [hn, if_pos rfl] at this; exact this)
        clear hn
        go_wp2_with fail
        refine (KN.out _).mono ?_
        rintro e w2 ⟨rfl, rfl⟩
        have RA := Lib.hid (HRW.out.below (below1 w1 (.cells #[strV t] 9)))
        have KA := Lib.hid (HKP.out.trans (KeepR.of (g := b) (below1 w1 (.cells #[strV t] 9))))
        have hbw : b < w.heap.size := hbl
        have hww := (HKP.out).size
        go_wp2_with (at_builtin; refine wpList_append_own _ rfl _ _ 23 rfl w.heap.size 9 i0 (.string ⟨#[]⟩) 1 16 Tryz.underlying23 hi0 hz0 hz1 hz2 rfl (by decide) _ _ _ rfl (show World.ownsRow _ _ _ _ _ _ _ from HO3.out.alloc _) ⟨w1.heap.size, 0, none⟩ 1 1 [strV t] rfl rfl ?cc1 ?cc2 ?cc3 ?cc4 ?cc5 ?_)
        case cc1 =>
          intro j u hj
          match j, hj with
          | 0, hj => simp at hj; subst hj; simp [Addr.add]
        case cc2 => exact fun u hu => by rw [List.mem_singleton.1 hu]; rfl
        case cc3 => unfold maxLen; omega
        case cc4 => omega
        case cc5 => simp; omega
        intro v' w5 hown' hgrow' _
        have hob : ∀ q, (Value.slice A' acc.length c').ownBlock = some q → w.heap.size ≤ q := fun q hq => own_gem9 HO3.out hq
        have O5 := Lib.hid (out_more (w := w) (W := w) hown')
        have R5 := Lib.hid (row_grown RA.out hgrow' (fun e => by have := hob b e; omega) (fun q o hq e => by have := hob q e; have := HAW.out q o hq; omega))
        have K5 : Hid (KeepR b w w5) := Lib.hid (keep_grown KA.out hgrow' (fun q hq => hob q hq))
        clear hown' hgrow' hob
        have M5 := Lib.hid (drM_ok R5.out)
        go_wp2_with fail
        go_roundw
        case rel =>
          refine .inl ⟨f, k' + 1, acc ++ [t], O5.out, R5.out, K5.out, by omega, by simp; omega, ?_⟩
          by_cases hq : k' + 1 = l.length
          · rw [if_neg (by simp; omega)]
            have h3 := HF2.out
            rw [if_pos hq] at h3
            exact h3
          · rw [if_pos (by omega)]
            have h3 := HF2.out
            rw [if_neg hq] at h3
            exact h3
        case measure =>
          rw [M5.out, MZ.out]
          omega
end Go.Proofs.YthbplchbolghjaaGreatDoor

namespace Go.Proofs.YthbplchbolghjaaGreatDoor
open Go.RowKit

theorem take_ok {s : PR} {kind : Int} {t : List UInt8} {k : Nat} (h : wordD s.line s.at_ kind = .ok t k) : ∃ x, s.line[s.at_]? = some x ∧ x.2.1 = t ∧ k = s.at_ + 1 ∧ takeP s kind = (some x, { s with at_ := s.at_ + 1 }) := by
  unfold wordD at h
  unfold takeP
  split at h
  · cases h
  · rename_i x hx
    split at h
    · rename_i hk
      cases h
      refine ⟨x, hx, rfl, rfl, ?_⟩
      rw [hx]
      simp only
      rw [if_pos hk]
    · cases h
theorem take_bad {s : PR} {kind ln cl er : Int} (h : wordD s.line s.at_ kind = .bad ln cl er) : ∃ z, takeP s kind = (none, z) ∧ z.wl = ln ∧ z.wc = cl ∧ z.we = er := by
  unfold wordD at h
  unfold takeP
  split at h
  · rename_i hx
    cases h
    rw [hx]
    exact ⟨_, rfl, rfl, rfl, rfl⟩
  · rename_i x hx
    split at h
    · cases h
    · rename_i hk
      cases h
      rw [hx]
      simp only
      rw [if_neg hk]
      exact ⟨_, rfl, rfl, rfl, rfl⟩
theorem get_zw {l : List Sc.W4} {k : Nat} {x : Sc.W4} (h : l[k]? = some x) : l.getD k zw = x := by rw [List.getD_eq_getElem?_getD, h]; rfl
theorem share_ok9 (put : Nat → Int → PR → PR) (i : Nat) {s : PR} {n : Int} {k : Nat} (h : shareD s.line s.at_ = .ok n k) : shareP put i s = (true, put i n { s with at_ := k }) := by
  unfold shareD at h
  cases hw : wordD s.line s.at_ 2 with
  | bad a b c => rw [hw] at h; cases h
  | ok t k' =>
    obtain ⟨x, hx, rfl, rfl, ht⟩ := take_ok hw
    rw [hw] at h
    simp only at h
    split at h
    · rename_i hp
      cases h
      unfold shareP
      rw [ht]
      simp only
      rw [if_pos hp]
    · cases h
theorem share_bad9 (put : Nat → Int → PR → PR) (i : Nat) {s : PR} {ln cl er : Int} (h : shareD s.line s.at_ = .bad ln cl er) : ∃ z, shareP put i s = (false, z) ∧ z.wl = ln ∧ z.wc = cl ∧ z.we = er := by
  unfold shareD at h
  cases hw : wordD s.line s.at_ 2 with
  | bad a b c =>
    rw [hw] at h
    cases h
    obtain ⟨z, hz, h1, h2, h3⟩ := take_bad hw
    refine ⟨z, ?_, h1, h2, h3⟩
    unfold shareP
    rw [hz]
  | ok t k' =>
    obtain ⟨x, hx, rfl, rfl, ht⟩ := take_ok hw
    rw [hw] at h
    simp only at h
    split at h
    · cases h
    · rename_i hp
      cases h
      unfold shareP
      rw [ht]
      simp only
      rw [if_neg hp, get_zw hx]
      exact ⟨_, rfl, rfl, rfl, rfl⟩
theorem num_ok9 (put : Int → PR → PR) {s : PR} {n : Int} {k : Nat} (h : numD s.line s.at_ = .ok n k) : numP put s = (true, put n { s with at_ := k }) := by
  unfold numD at h
  cases hw : wordD s.line s.at_ 2 with
  | bad a b c => rw [hw] at h; cases h
  | ok t k' =>
    obtain ⟨x, hx, rfl, rfl, ht⟩ := take_ok hw
    rw [hw] at h
    simp only at h
    cases hn : numOf x.2.1 with
    | none => rw [hn] at h; cases h
    | some m =>
      rw [hn] at h
      cases h
      unfold numP
      rw [ht]
      simp only
      rw [hn]
theorem num_bad9 (put : Int → PR → PR) {s : PR} {ln cl er : Int} (h : numD s.line s.at_ = .bad ln cl er) : ∃ z, numP put s = (false, z) ∧ z.wl = ln ∧ z.wc = cl ∧ z.we = er := by
  unfold numD at h
  cases hw : wordD s.line s.at_ 2 with
  | bad a b c =>
    rw [hw] at h
    cases h
    obtain ⟨z, hz, h1, h2, h3⟩ := take_bad hw
    refine ⟨z, ?_, h1, h2, h3⟩
    unfold numP
    rw [hz]
  | ok t k' =>
    obtain ⟨x, hx, rfl, rfl, ht⟩ := take_ok hw
    rw [hw] at h
    simp only at h
    cases hn : numOf x.2.1 with
    | some m => rw [hn] at h; cases h
    | none =>
      rw [hn] at h
      cases h
      unfold numP
      rw [ht]
      simp only
      rw [hn, get_zw hx]
      exact ⟨_, rfl, rfl, rfl, rfl⟩
theorem on_ok9 : ∀ (f : Nat) {s : PR} {n : Int} {k : Nat}, onD s.line f s.at_ s.goal.on = .ok n k → onK f s = (true, putOn n { s with at_ := k })
  | 0, s, n, k, h => by cases h
  | f + 1, s, n, k, h => by
    rw [onD] at h
    cases hw : wordD s.line s.at_ 1 with
    | bad a b c => rw [hw] at h; cases h
    | ok t k' =>
      obtain ⟨x, hx, rfl, rfl, ht⟩ := take_ok hw
      rw [hw] at h
      simp only at h
      unfold onK
      rw [ht]
      simp only
      split at h
      · cases h
      · rename_i hb
        rw [if_neg hb]
        split at h
        · rename_i he
          cases h
          rw [if_pos he]
        · rename_i he
          rw [if_neg he]
          exact on_ok9 f (s := putOn (s.goal.on + bitF x.2.1) { s with at_ := s.at_ + 1 }) h
theorem on_bad9 : ∀ (f : Nat) {s : PR} {ln cl er : Int}, s.line.length < s.at_ + f → s.at_ ≤ s.line.length → onD s.line f s.at_ s.goal.on = .bad ln cl er → ∃ z, onK f s = (false, z) ∧ z.wl = ln ∧ z.wc = cl ∧ z.we = er
  | 0, s, ln, cl, er, hf, ha, h => by omega
  | f + 1, s, ln, cl, er, hf, ha, h => by
    rw [onD] at h
    cases hw : wordD s.line s.at_ 1 with
    | bad a b c =>
      rw [hw] at h
      cases h
      obtain ⟨z, hz, h1, h2, h3⟩ := take_bad hw
      refine ⟨z, ?_, h1, h2, h3⟩
      unfold onK
      rw [hz]
    | ok t k' =>
      obtain ⟨x, hx, rfl, rfl, ht⟩ := take_ok hw
      rw [hw] at h
      simp only at h
      unfold onK
      rw [ht]
      simp only
      split at h
      · rename_i hb
        cases h
        rw [if_pos hb, get_zw hx]
        exact ⟨_, rfl, rfl, rfl, rfl⟩
      · rename_i hb
        rw [if_neg hb]
        split at h
        · cases h
        · rename_i he
          rw [if_neg he]
          exact on_bad9 f (s := putOn (s.goal.on + bitF x.2.1) { s with at_ := s.at_ + 1 }) (by show s.line.length < s.at_ + 1 + f; omega) (by show s.at_ + 1 ≤ s.line.length; have := (List.getElem?_eq_some_iff.1 hx).1; omega) h
theorem drain_ok9 : ∀ (f : Nat) {s : PR} {L : List (List UInt8)} {k : Nat}, drainD s.line f s.at_ s.goal.drain = .ok L k → drainK f s = (true, { s with at_ := k, goal := { s.goal with drain := L } })
  | 0, s, n, k, h => by cases h
  | f + 1, s, n, k, h => by
    rw [drainD] at h
    cases hw : wordD s.line s.at_ 1 with
    | bad a b c => rw [hw] at h; cases h
    | ok t k' =>
      obtain ⟨x, hx, rfl, rfl, ht⟩ := take_ok hw
      rw [hw] at h
      simp only at h
      unfold drainK
      rw [ht]
      simp only
      split at h
      · rename_i hb
        rw [if_neg (by rw [hb]; simp)]
        split at h
        · rename_i he
          cases h
          rw [if_pos he]
          rfl
        · rename_i he
          rw [if_neg he]
          exact drain_ok9 f (s := putName x.2.1 { s with at_ := s.at_ + 1 }) h
      · cases h
theorem drain_bad9 : ∀ (f : Nat) {s : PR} {ln cl er : Int}, s.line.length < s.at_ + f → s.at_ ≤ s.line.length → drainD s.line f s.at_ s.goal.drain = .bad ln cl er → ∃ z, drainK f s = (false, z) ∧ z.wl = ln ∧ z.wc = cl ∧ z.we = er
  | 0, s, ln, cl, er, hf, ha, h => by omega
  | f + 1, s, ln, cl, er, hf, ha, h => by
    rw [drainD] at h
    cases hw : wordD s.line s.at_ 1 with
    | bad a b c =>
      rw [hw] at h
      cases h
      obtain ⟨z, hz, h1, h2, h3⟩ := take_bad hw
      refine ⟨z, ?_, h1, h2, h3⟩
      unfold drainK
      rw [hz]
    | ok t k' =>
      obtain ⟨x, hx, rfl, rfl, ht⟩ := take_ok hw
      rw [hw] at h
      simp only at h
      unfold drainK
      rw [ht]
      simp only
      split at h
      · rename_i hb
        rw [if_neg (by rw [hb]; simp)]
        split at h
        · cases h
        · rename_i he
          rw [if_neg he]
          exact drain_bad9 f (s := putName x.2.1 { s with at_ := s.at_ + 1 }) (by show s.line.length < s.at_ + 1 + f; omega) (by show s.at_ + 1 ≤ s.line.length; have := (List.getElem?_eq_some_iff.1 hx).1; omega) h
      · rename_i hb
        cases h
        rw [if_pos (by simpa using hb), get_zw hx]
        exact ⟨_, rfl, rfl, rfl, rfl⟩

theorem keys_apart9 : ∀ i j : Fin 7, i ≠ j → keysL.getD i.val [] ≠ keysL.getD j.val [] := by decide
/-- What a whole reading comes to. -/
def finP (x : Bool × PR) : Pol × Int × Int × Int := match x with
  | (false, z) => (pol0, z.wl, z.wc, z.we)
  | (true, z) => match z.rest[0]? with
    | some y => (pol0, (y.2.2.1 : Int), (y.2.2.2 : Int), 4)
    | none => if checkG z.goal = 0 then (z.goal, 0, 0, 0) else (pol0, 0, 0, checkG z.goal)
/-- What is left of it, from a key on. -/
def contF : Nat → Nat → PR → Pol × Int × Int × Int
  | 0, _, s => finP (true, s)
  | n + 1, i, s => match stepP i s with
    | (false, z) => finP (false, z)
    | (true, z) => contF n (i + 1) z
theorem cont_lines (s : PR) : ∀ k, k ≤ 7 → (match linesK s k with
    | (false, z) => finP (false, z)
    | (true, z) => contF (7 - k) k z) = contF 7 0 s
  | 0, _ => rfl
  | k + 1, h => by
    have ih := cont_lines s k (by omega)
    rw [← ih, linesK]
    cases hl : linesK s k with
    | mk b z =>
      cases b
      · rfl
      · simp only
        rw [show 7 - k = (7 - (k + 1)) + 1 by omega, contF]
theorem parse_cont (t : List UInt8) : parseP t = if (Sc.wordsF t).2.2.2 ≠ 0 then (pol0, ((Sc.wordsF t).2.1 : Int), ((Sc.wordsF t).2.2.1 : Int), (Sc.wordsF t).2.2.2) else contF 7 0 (pr0 (Sc.wordsF t).1) := by
  unfold parseP
  simp only
  split
  · rfl
  · rw [← cont_lines _ 7 (Nat.le_refl _)]
    unfold readP
    cases hl : linesK (pr0 (Sc.wordsF t).1) 7 with
    | mk b z =>
      cases b
      · rfl
      · simp only [Nat.sub_self, contF, finP]
        cases hz : z.rest[0]? with
        | none => rfl
        | some x => rfl
/-- A line that begins with none of these keys. -/
theorem cont_skip {s : PR} {x : Sc.W4} (hx : s.rest[0]? = some x) : ∀ (n j : Nat), (∀ q, j ≤ q → q < j + n → ¬ (x.1 = 1 ∧ x.2.1 = keysL.getD q [])) → ∀ m, contF (n + m) j s = contF m (j + n) s
  | 0, j, _, m => by rw [Nat.zero_add, Nat.add_zero]
  | n + 1, j, h, m => by
    rw [show n + 1 + m = (n + m) + 1 by omega, contF]
    have hs : stepP j s = (true, s) := by
      unfold stepP beginP
      rw [hx]
      simp only
      rw [if_neg (h j (Nat.le_refl _) (by omega))]
    rw [hs]
    simp only
    rw [cont_skip hx n (j + 1) (fun q h1 h2 => h q (by omega) (by omega)) m, show j + 1 + n = j + (n + 1) by omega]
/-- One that begins with none that may come. -/
theorem cont_odd {s : PR} {x : Sc.W4} (hx : s.rest[0]? = some x) {j : Nat} (hj : j ≤ 7) (h : ∀ q, j ≤ q → q < 7 → ¬ (x.1 = 1 ∧ x.2.1 = keysL.getD q [])) : contF (7 - j) j s = (pol0, (x.2.2.1 : Int), (x.2.2.2 : Int), 4) := by
  have := cont_skip hx (7 - j) j (fun q h1 h2 => h q h1 (by omega)) 0
  rw [Nat.add_zero] at this
  rw [this, contF, finP]
  rw [hx]
theorem cont_end {s : PR} (hx : s.rest = []) : ∀ (n j : Nat), contF n j s = finP (true, s)
  | 0, j => rfl
  | n + 1, j => by
    rw [contF]
    have hs : stepP j s = (true, s) := by
      unfold stepP beginP
      rw [hx]
      rfl
    rw [hs]
    exact cont_end hx n (j + 1)
/-- One that begins with the key i. -/
theorem cont_key {s : PR} {x : Sc.W4} (hx : s.rest[0]? = some x) {i j : Nat} (hji : j ≤ i) (hi : i < 7) (h1 : x.1 = 1) (h2 : x.2.1 = keysL.getD i []) :
    contF (7 - j) j s = match lineP i { s with line := s.rest.take (Sc.lineF s.rest 0), at_ := 1, rest := s.rest.drop (Sc.lineF s.rest 0) } with
      | (false, z) => finP (false, z)
      | (true, z) => match endP z with
        | (false, z) => finP (false, z)
        | (true, z) => contF (7 - (i + 1)) (i + 1) z := by
  have hs := cont_skip hx (i - j) j (fun q hq1 hq2 hh => by
    have := keys_apart9 ⟨q, by omega⟩ ⟨i, hi⟩ (by simp; omega)
    exact this (hh.2.symm.trans h2)) (7 - i)
  rw [show i - j + (7 - i) = 7 - j by omega, show j + (i - j) = i by omega] at hs
  rw [hs, show 7 - i = (7 - (i + 1)) + 1 by omega, contF]
  have hb : beginP s (keysL.getD i []) = (true, { s with line := s.rest.take (Sc.lineF s.rest 0), at_ := 1, rest := s.rest.drop (Sc.lineF s.rest 0) }) := by
    unfold beginP
    rw [hx]
    simp only
    rw [if_pos ⟨h1, h2⟩]
  unfold stepP
  rw [hb]
  simp only
  cases hl : lineP i { s with line := s.rest.take (Sc.lineF s.rest 0), at_ := 1, rest := s.rest.drop (Sc.lineF s.rest 0) } with
  | mk b z =>
    cases b
    · rfl
    · simp only
end Go.Proofs.YthbplchbolghjaaGreatDoor

namespace Go.Proofs.YthbplchbolghjaaGreatDoor
open Go.RowKit

set_option maxRecDepth 100000 in
theorem rword_bad (b : Nat) (A : Option Addr) (c : Nat) (l : List Sc.W4) (k : Nat) (ln cl er kind : Int) (w : World) (hm : RowM w b A c l k ln cl er) (he : er ≠ 0) :
    Calls Tryz.prog 76 #[.pointer (some ⟨b, 0, none⟩), .int .i64 kind] w fun e w' => e = .returned (strV []) ∧ w' = w := by
  have d4 : w.cell? ⟨b, 4, none⟩ = some (.int .i64 er) := Blk.cell hm.blk 4
  have h1 : (er != 0) = true := by simpa using he
  clear hm he
  go_enter Tryz.func76, Tryz.ntmps76
  go_wp2
  go_ret
  exact ⟨rfl, rfl⟩
set_option maxRecDepth 100000 in
theorem rshare_bad (b : Nat) (A : Option Addr) (c : Nat) (l : List Sc.W4) (k : Nat) (ln cl er : Int) (w : World) (hm : RowM w b A c l k ln cl er) (he : er ≠ 0) :
    Calls Tryz.prog 77 #[.pointer (some ⟨b, 0, none⟩)] w fun e w' => e = .returned (.int .i64 0) ∧ w' = w := by
  have KW := Lib.hid (rword_bad b A c l k ln cl er 2 w hm he)
  have d4 : w.cell? ⟨b, 4, none⟩ = some (.int .i64 er) := Blk.cell hm.blk 4
  have h1 : (er != 0) = true := by simpa using he
  clear hm he
  go_enter Tryz.func77, Tryz.ntmps77
  go_wp2_with fail
  refine KW.out.mono ?_
  rintro e w1 ⟨rfl, rfl⟩
  go_wp2
  go_ret
  exact ⟨rfl, rfl⟩

/-- Which line a word begins, from 1 on; 0: none. -/
def ordF (t : List UInt8) : Int := match keysL.findIdx? (fun a => a == t) with
  | some i => (i : Int) + 1
  | none => 0
theorem ord_all : ∀ m : Fin 7, ordF (keysL.getD m.val []) = (m.val : Int) + 1 := by decide
theorem ord_at {m : Nat} {t : List UInt8} (h : keysL[m]? = some t) : ordF t = (m : Int) + 1 := by
  have hm : m < 7 := (List.getElem?_eq_some_iff.1 h).1
  have hk : keysL.getD m [] = t := by rw [List.getD_eq_getElem?_getD, h]; rfl
  rw [← hk]
  exact ord_all ⟨m, hm⟩
theorem ord_no {t : List UInt8} (h : ∀ (q : Nat) (y : List UInt8), keysL[q]? = some y → y ≠ t) : ordF t = 0 := by
  unfold ordF
  rw [List.findIdx?_eq_none_iff.2 (fun y hy => by
    obtain ⟨q, hq⟩ := List.mem_iff_getElem?.1 hy
    simpa using h q y hq)]
theorem key_cell (w : World) {k : Nat} {x : List UInt8} (hx : keysL[k]? = some x) : (w.alloc (.cells (strC keysL).toArray 9)).cell? ⟨w.heap.size, k, none⟩ = some (strV x) := by
  rw [Blk.cell (Blk.new w _ _) k, List.getElem?_toArray, strC, List.getElem?_map, hx]
  rfl
set_option maxRecDepth 100000 in
set_option maxHeartbeats 1000000 in
theorem rorder_any (t : List UInt8) (w : World) :
    Calls Tryz.prog 43 #[strV t] w fun e w' => e = .returned (.int .i64 (ordF t)) ∧ Below w.heap.size w w' := by
  have B0 : Hid (Below w.heap.size w (w.alloc (.cells (strC keysL).toArray 9))) := Lib.hid (below1 w _)
  have C0 : Hid (∀ k x, keysL[k]? = some x → (w.alloc (.cells (strC keysL).toArray 9)).cell? ⟨w.heap.size, k, none⟩ = some (strV x)) := Lib.hid (fun k x h => key_cell w h)
  obtain ⟨R, hR⟩ : ∃ R, ordF t = R := ⟨_, rfl⟩
  have HR := Lib.hid hR
  rw [hR]
  clear hR
  go_enter Tryz.func43, Tryz.ntmps43
  go_wp2_with fail
  change Code.wp _ _ _ _ (w.alloc (.cells (strC keysL).toArray 9))
  generalize (w.alloc (.cells (strC keysL).toArray 9)) = W at B0 C0 ⊢
  go_loopw [4] (fun i wr => ∃ m : Nat, m ≤ 7 ∧ i = .int .i64 (m : Int) ∧ (∀ q y, q < m → keysL[q]? = some y → y ≠ t) ∧ wr = W) (fun i _ => 7 - (intOf i).toNat)
  case atStart => exact ⟨0, by omega, rfl, fun q y h => by omega, rfl⟩
  case round =>
    obtain ⟨m, hm, rfl, hno, rfl⟩ := hrel
    have HNO := Lib.hid hno
    clear hno
    by_cases h7 : m < 7
    · obtain ⟨y, hy⟩ : ∃ y, keysL[m]? = some y := ⟨keysL[m]'(by show m < 7; exact h7), List.getElem?_eq_getElem _⟩
      have c0 := C0.out m y hy
      have HY := Lib.hid hy
      have m0 : (0 : Int) ≤ (m : Int) := by omega
      have m1 : (m : Int) < 7 := by omega
      clear hy
      by_cases hyt : y = t
      · have yb : (y == t) = true := by simpa using hyt
        have HE : Hid (R = (m : Int) + 1) := Lib.hid (by rw [← HR.out]; exact ord_at (by rw [HY.out, hyt]))
        clear hyt
        go_wp2_with fail
        go_ret
        exact ⟨La.retI HE.out.symm, B0.out⟩
      · have yb : (y == t) = false := by simpa using hyt
        have Hyt := Lib.hid hyt
        clear hyt
        go_wp2_with fail
        go_roundw
        case rel =>
          refine ⟨m + 1, by omega, by go_num, fun q z hq hz => ?_, by first | rfl | trivial⟩
          by_cases hqm : q = m
          · subst hqm
            rw [HY.out] at hz
            cases hz
            exact Hyt.out
          · exact HNO.out q z (by omega) hz
        case measure => simp [intOf]; omega
    · obtain rfl : m = 7 := by omega
      have HE : Hid (R = 0) := Lib.hid (by
        rw [← HR.out]
        exact ord_no (fun q y hq => HNO.out q y (List.getElem?_eq_some_iff.1 hq).1 hq))
      go_wp2_with fail
      go_ret
      exact ⟨La.retI HE.out.symm, B0.out⟩

/-- All but two blocks is as it was. -/
structure Keep2 (b g : Nat) (w w' : World) : Prop where
  os : w'.os = w.os
  tape : w'.tape = w.tape
  output : w'.output = w.output
  size : w.heap.size ≤ w'.heap.size
  block : ∀ i, i < w.heap.size → i ≠ b → i ≠ g → w'.heap[i]? = w.heap[i]?
theorem Keep2.ofB {b g : Nat} {w w' : World} (h : KeepR b w w') : Keep2 b g w w' := ⟨h.os, h.tape, h.output, h.size, fun i h1 h2 _ => h.block i h1 h2⟩
theorem Keep2.ofG {b g : Nat} {w w' : World} (h : KeepR g w w') : Keep2 b g w w' := ⟨h.os, h.tape, h.output, h.size, fun i h1 _ h2 => h.block i h1 h2⟩
theorem Keep2.trans {b g : Nat} {w a c : World} (h : Keep2 b g w a) (k : Keep2 b g a c) : Keep2 b g w c := ⟨k.os.trans h.os, k.tape.trans h.tape, k.output.trans h.output, Nat.le_trans h.size k.size, fun i h1 h2 h3 => (k.block i (Nat.lt_of_lt_of_le h1 h.size) h2 h3).trans (h.block i h1 h2 h3)⟩
theorem row_far {w w' : World} {b g : Nat} {A : Option Addr} {c : Nat} {l : List Sc.W4} {k : Nat} {ln cl er : Int} (h : RowM w b A c l k ln cl er) (hk : KeepR g w w') (hbg : b ≠ g) (hA : ∀ q o, A = some ⟨q, o, none⟩ → q ≠ g) : RowM w' b A c l k ln cl er :=
  ⟨hk.blk h.blk hbg, (fun j y hj => by
    obtain ⟨q, o, hq, hc⟩ := h.lw j y hj
    exact ⟨q, o, hq, hk.cell hc (hA q o hq)⟩), h.ne, h.le, h.lc⟩
theorem gapRow {w : World} {b i : Nat} {A : Option Addr} {c : Nat} {l : List Sc.W4} {k : Nat} {ln cl er : Int} {t : List UInt8} (hb : Blk w b (cellsRow A c l k ln cl er) 81) (hc : w.cell? ⟨b, i, none⟩ = some (strV t)) : False := by
  by_cases hi : i < 5
  · obtain rfl | rfl | rfl | rfl | rfl : i = 0 ∨ i = 1 ∨ i = 2 ∨ i = 3 ∨ i = 4 := by omega
    · have := Blk.cell hb 0; rw [this] at hc; cases hc
    · have := Blk.cell hb 1; rw [this] at hc; cases hc
    · have := Blk.cell hb 2; rw [this] at hc; cases hc
    · have := Blk.cell hb 3; rw [this] at hc; cases hc
    · have := Blk.cell hb 4; rw [this] at hc; cases hc
  · unfold Blk at hb
    have hs : (cellsRow A c l k ln cl er)[i]? = none := Array.getElem?_eq_none (by simp [cellsRow]; omega)
    simp [World.cell?, hb, hs] at hc
theorem names_keepR {w w' : World} {g : Nat} {A : Option Addr} {c : Nat} {L : List (List UInt8)} (h : NamesAt w A c L) (hk : KeepR g w w') (hgap : ∀ i t, w.cell? ⟨g, i, none⟩ = some (strV t) → False) : NamesAt w' A c L := by
  refine ⟨fun j y hj => ?_, h.le, h.most, h.big⟩
  obtain ⟨q, o, hq, hc⟩ := h.cells j y hj
  refine ⟨q, o, hq, hk.cell hc (fun e => ?_)⟩
  subst e
  obtain ⟨t7, ht7⟩ : ∃ t, y = strV t := by
    simp only [strC, List.getElem?_map, Option.map_eq_some_iff] at hj
    obtain ⟨t, _, h⟩ := hj
    exact ⟨t, h.symm⟩
  rw [ht7] at hc
  exact hgap _ _ hc
theorem drain_big {l : List Sc.W4} (hb : ∀ x ∈ l, x.2.1.length ≤ 5000) : ∀ (f k : Nat) (acc : List (List UInt8)) {L : List (List UInt8)} {k' : Nat}, (∀ t ∈ acc, t.length ≤ 5000) → drainD l f k acc = .ok L k' → ∀ t ∈ L, t.length ≤ 5000
  | 0, k, acc, L, k', _, h => by cases h
  | f + 1, k, acc, L, k', ha, h => by
    rw [drainD] at h
    cases hw : wordD l k 1 with
    | bad a b c => rw [hw] at h; cases h
    | ok t k2 =>
      obtain ⟨_, x, hx, hxt, _⟩ := wordD_ok hw
      have ht : t.length ≤ 5000 := by rw [← hxt]; exact hb x (List.mem_of_getElem? hx)
      have ha2 : ∀ u ∈ acc ++ [t], u.length ≤ 5000 := fun u hu => by
        rcases List.mem_append.1 hu with hu | hu
        · exact ha u hu
        · rw [List.mem_singleton.1 hu]; exact ht
      rw [hw] at h
      simp only at h
      split at h
      · split at h
        · cases h
          exact ha2
        · exact drain_big hb f k2 (acc ++ [t]) ha2 h
      · cases h
/-- A policy behind a pointer. -/
def GoalM (w : World) (g : Nat) (G : Pol) : Prop := ∃ A c, Blk w g (cellsG G A c) 25 ∧ NamesAt w A c G.drain
/-- What a line's reading leaves. -/
def DoesR (w : World) (b g : Nat) (A : Option Addr) (c : Nat) (l : List Sc.W4) (r : Bool × PR) (w' : World) : Prop :=
  Keep2 b g w w' ∧ match r with
    | (true, z) => RowM w' b A c l z.at_ 0 0 0 ∧ GoalM w' g z.goal
    | (false, z) => z.we ≠ 0 ∧ ∃ k, RowM w' b A c l k z.wl z.wc z.we
theorem goal_row {w w' : World} {b g : Nat} {A : Option Addr} {c : Nat} {l : List Sc.W4} {k : Nat} {ln cl er : Int} {G : Pol} (hr : RowM w b A c l k ln cl er) (h : GoalM w g G) (hk : KeepR b w w') (hbg : b ≠ g) : GoalM w' g G := by
  obtain ⟨Ag, cg, h1, h2⟩ := h
  exact ⟨Ag, cg, hk.blk h1 (fun e => hbg e.symm), names_keepR h2 hk (fun i t hc => gapRow hr.blk hc)⟩
set_option maxRecDepth 100000 in
set_option maxHeartbeats 4000000 in
theorem rdoes_low (b g : Nat) (A : Option Addr) (c : Nat) (l : List Sc.W4) (s : PR) (x : Sc.W4) (w : World) (hm : RowM w b A c l 0 0 0 0) (hg : GoalM w g s.goal) (hbg : b ≠ g) (hA : ∀ q o, A = some ⟨q, o, none⟩ → q ≠ g ∧ q < w.heap.size) (hx : l[0]? = some x) (h1 : x.1 = 1) (h2 : x.2.1 = [108, 111, 119]) (hfew : l.length ≤ 100000) (hbig : ∀ x ∈ l, x.2.1.length ≤ 5000) (hdig : ∀ x ∈ l, x.1 = 2 → DigHead x.2.1) (hs : s.line = l) (hat : s.at_ = 1) :
    Calls Tryz.prog 44 #[.pointer (some ⟨b, 0, none⟩), .pointer (some ⟨g, 0, none⟩)] w fun e w' => (∃ n, e = .returned (.int .i64 n) ∧ ((sharesP putLow s).1 = true → n = 1)) ∧ DoesR w b g A c l (sharesP putLow s) w' := by
  have hl : 0 < l.length := (List.getElem?_eq_some_iff.1 hx).1
  have hW : wordD l 0 1 = .ok [108, 111, 119] 1 := by unfold wordD; rw [hx]; simp only; rw [if_pos h1, h2]
  have KW := Lib.hid (rword_any b A c l 0 1 w hm hl)
  rw [hW] at KW
  simp only [textD] at KW
  have HM := Lib.hid hm
  have HG := Lib.hid hg
  have hbl := Blk.lt hm.blk
  have HAg := Lib.hid (fun q o e => (hA q o e).1)
  have HAw := Lib.hid (fun q o e => (hA q o e).2)
  have HBG := Lib.hid hbg
  have HS := Lib.hid hs
  have HAT := Lib.hid hat
  have HB := Lib.hid hbig
  have HD := Lib.hid hdig
  clear hm hg hbg hA hx h1 h2 hbig hdig hs hat hW
  obtain ⟨R, hR⟩ : ∃ R, sharesP putLow s = R := ⟨_, rfl⟩
  have HR := Lib.hid hR
  rw [hR]
  clear hR
  go_enter Tryz.func44, Tryz.ntmps44
  go_wp2_with fail
  refine KW.out.mono ?_
  rintro e w1 ⟨rfl, hr, hkp⟩
  have R1 : Hid (RowM w1 b A c l 1 0 0 0) := Lib.hid hr
  have K1 := Lib.hid hkp
  have G1 := Lib.hid (goal_row HM.out HG.out hkp HBG.out)
  clear hr hkp KW HG
  have KS := Lib.hid (rshare_any b A c l 1 w1 R1.out hl HB.out)
  go_wp2_with fail
  refine KS.out.mono ?_
  rintro e w2 ⟨⟨n0, rfl, hn0⟩, hdr⟩
  cases hS : shareD l 1 with
  | bad ln cl er =>
    rw [hS] at hdr
    obtain ⟨⟨her, k2, hr⟩, hkp⟩ := hdr
    have R2 := Lib.hid hr
    have K2 := Lib.hid hkp
    have HER := Lib.hid her
    have G2 := Lib.hid (goal_row R1.out G1.out hkp HBG.out)
    have HZ : Hid (∃ z, R = (false, z) ∧ z.wl = ln ∧ z.wc = cl ∧ z.we = er) := Lib.hid (by
      obtain ⟨z, hz, q1, q2, q3⟩ := share_bad9 putLow 0 (s := s) (by rw [HS.out, HAT.out]; exact hS)
      refine ⟨z, ?_, q1, q2, q3⟩
      rw [← HR.out]
      unfold sharesP
      rw [sharesK, sharesK, sharesK]
      simp only
      rw [hz])
    have KB := Lib.hid (rshare_bad b A c l k2 ln cl er w2 R2.out HER.out)
    obtain ⟨Ag, cg, hgb, hgn⟩ := G2.out
    have e0 := Blk.free hgb 0
    have e1 := Blk.free hgb 1
    have u0 := Blk.cell hgb 0
    have u1 := Blk.cell hgb 1
    have HGB := Lib.hid hgb
    clear hr hkp her KS hn0 hS hgb hgn
    go_wp2_with fail
    refine KB.out.mono ?_
    rintro e w3 ⟨rfl, rfl⟩
    go_wp2
    go_ret
    obtain ⟨z, hz, q1, q2, q3⟩ := HZ.out
    rw [hz]
    have KG := ((KeepR.refl g w3).setCell 0 (.int .i64 n0)).setCell 1 (.int .i64 0)
    refine ⟨⟨1, rfl, fun h => by cases h⟩, ((Keep2.ofB K1.out).trans (Keep2.ofB K2.out)).trans (Keep2.ofG KG), by rw [q3]; exact HER.out, k2, ?_⟩
    rw [q1, q2, q3]
    exact row_far R2.out KG HBG.out HAg.out
  | ok m0 k1 =>
    rw [hS] at hdr hn0
    obtain ⟨hr, hkp⟩ := hdr
    have R2 : Hid (RowM w2 b A c l k1 0 0 0) := Lib.hid hr
    have K2 := Lib.hid hkp
    have G2 := Lib.hid (goal_row R1.out G1.out hkp HBG.out)
    obtain rfl := hn0 _ _ rfl
    have HS1 := Lib.hid (share_ok9 putLow 0 (s := s) (by rw [HS.out, HAT.out]; exact hS))
    have KS2 := Lib.hid (rshare_any b A c l k1 w2 R2.out hl HB.out)
    clear hr hkp hn0 hS KS
    go_wp2_with fail
    refine KS2.out.mono ?_
    rintro e w3 ⟨⟨n1, rfl, hn1⟩, hdr⟩
    cases hS : shareD l k1 with
    | bad ln cl er =>
      rw [hS] at hdr
      obtain ⟨⟨her, k2, hr⟩, hkp⟩ := hdr
      have R3 := Lib.hid hr
      have K3 := Lib.hid hkp
      have HER := Lib.hid her
      have G3 := Lib.hid (goal_row R2.out G2.out hkp HBG.out)
      have HZ : Hid (∃ z, R = (false, z) ∧ z.wl = ln ∧ z.wc = cl ∧ z.we = er) := Lib.hid (by
        obtain ⟨z, hz, q1, q2, q3⟩ := share_bad9 putLow 1 (s := putLow 0 n0 { s with at_ := k1 }) (by show shareD s.line k1 = _; rw [HS.out]; exact hS)
        refine ⟨z, ?_, q1, q2, q3⟩
        rw [← HR.out]
        unfold sharesP
        rw [sharesK, sharesK, sharesK]
        simp only
        rw [HS1.out]
        simp only
        exact hz)
      obtain ⟨Ag, cg, hgb, hgn⟩ := G3.out
      have e0 := Blk.free hgb 0
      have e1 := Blk.free hgb 1
      have u0 := Blk.cell hgb 0
      have u1 := Blk.cell hgb 1
      clear hr hkp her KS2 hn1 hS hgb hgn
      go_wp2
      go_ret
      obtain ⟨z, hz, q1, q2, q3⟩ := HZ.out
      rw [hz]
      have KG := ((KeepR.refl g w3).setCell 0 (.int .i64 n0)).setCell 1 (.int .i64 n1)
      refine ⟨⟨1, rfl, fun h => by cases h⟩, (((Keep2.ofB K1.out).trans (Keep2.ofB K2.out)).trans (Keep2.ofB K3.out)).trans (Keep2.ofG KG), by rw [q3]; exact HER.out, k2, ?_⟩
      rw [q1, q2, q3]
      exact row_far R3.out KG HBG.out HAg.out
    | ok m1 k2 =>
      rw [hS] at hdr hn1
      obtain ⟨hr, hkp⟩ := hdr
      have R3 : Hid (RowM w3 b A c l k2 0 0 0) := Lib.hid hr
      have K3 := Lib.hid hkp
      have G3 := Lib.hid (goal_row R2.out G2.out hkp HBG.out)
      obtain rfl := hn1 _ _ rfl
      have HZ : Hid (R = (true, putLow 1 n1 { putLow 0 n0 { s with at_ := k1 } with at_ := k2 })) := Lib.hid (by
        rw [← HR.out]
        unfold sharesP
        rw [sharesK, sharesK, sharesK]
        simp only
        rw [HS1.out]
        simp only
        exact share_ok9 putLow 1 (s := putLow 0 n0 { s with at_ := k1 }) (by show shareD s.line k1 = _; rw [HS.out]; exact hS))
      obtain ⟨Ag, cg, hgb, hgn⟩ := G3.out
      have e0 := Blk.free hgb 0
      have e1 := Blk.free hgb 1
      have u0 := Blk.cell hgb 0
      have u1 := Blk.cell hgb 1
      have HGB := Lib.hid hgb
      have HGN := Lib.hid hgn
      clear hr hkp KS2 hn1 hS hgb hgn
      go_wp2
      go_ret
      rw [HZ.out]
      have KG := ((KeepR.refl g w3).setCell 0 (.int .i64 n0)).setCell 1 (.int .i64 n1)
      exact ⟨⟨1, rfl, fun _ => rfl⟩, (((Keep2.ofB K1.out).trans (Keep2.ofB K2.out)).trans (Keep2.ofB K3.out)).trans (Keep2.ofG KG), row_far R3.out KG HBG.out HAg.out, Ag, cg, Blk.set (Blk.set HGB.out 0 (.int .i64 n0)) 1 (.int .i64 n1), names_keepR HGN.out KG (fun i t hc => gap9c HGB.out hc)⟩

set_option maxRecDepth 100000 in
set_option maxHeartbeats 4000000 in
theorem rdoes_high (b g : Nat) (A : Option Addr) (c : Nat) (l : List Sc.W4) (s : PR) (x : Sc.W4) (w : World) (hm : RowM w b A c l 0 0 0 0) (hg : GoalM w g s.goal) (hbg : b ≠ g) (hA : ∀ q o, A = some ⟨q, o, none⟩ → q ≠ g ∧ q < w.heap.size) (hx : l[0]? = some x) (h1 : x.1 = 1) (h2 : x.2.1 = [104, 105, 103, 104]) (hfew : l.length ≤ 100000) (hbig : ∀ x ∈ l, x.2.1.length ≤ 5000) (hdig : ∀ x ∈ l, x.1 = 2 → DigHead x.2.1) (hs : s.line = l) (hat : s.at_ = 1) :
    Calls Tryz.prog 44 #[.pointer (some ⟨b, 0, none⟩), .pointer (some ⟨g, 0, none⟩)] w fun e w' => (∃ n, e = .returned (.int .i64 n) ∧ ((sharesP putHigh s).1 = true → n = 2)) ∧ DoesR w b g A c l (sharesP putHigh s) w' := by
  have hl : 0 < l.length := (List.getElem?_eq_some_iff.1 hx).1
  have hW : wordD l 0 1 = .ok [104, 105, 103, 104] 1 := by unfold wordD; rw [hx]; simp only; rw [if_pos h1, h2]
  have KW := Lib.hid (rword_any b A c l 0 1 w hm hl)
  rw [hW] at KW
  simp only [textD] at KW
  have HM := Lib.hid hm
  have HG := Lib.hid hg
  have hbl := Blk.lt hm.blk
  have HAg := Lib.hid (fun q o e => (hA q o e).1)
  have HAw := Lib.hid (fun q o e => (hA q o e).2)
  have HBG := Lib.hid hbg
  have HS := Lib.hid hs
  have HAT := Lib.hid hat
  have HB := Lib.hid hbig
  have HD := Lib.hid hdig
  clear hm hg hbg hA hx h1 h2 hbig hdig hs hat hW
  obtain ⟨R, hR⟩ : ∃ R, sharesP putHigh s = R := ⟨_, rfl⟩
  have HR := Lib.hid hR
  rw [hR]
  clear hR
  go_enter Tryz.func44, Tryz.ntmps44
  go_wp2_with fail
  refine KW.out.mono ?_
  rintro e w1 ⟨rfl, hr, hkp⟩
  have R1 : Hid (RowM w1 b A c l 1 0 0 0) := Lib.hid hr
  have K1 := Lib.hid hkp
  have G1 := Lib.hid (goal_row HM.out HG.out hkp HBG.out)
  clear hr hkp KW HG
  have KS := Lib.hid (rshare_any b A c l 1 w1 R1.out hl HB.out)
  go_wp2_with fail
  refine KS.out.mono ?_
  rintro e w2 ⟨⟨n0, rfl, hn0⟩, hdr⟩
  cases hS : shareD l 1 with
  | bad ln cl er =>
    rw [hS] at hdr
    obtain ⟨⟨her, k2, hr⟩, hkp⟩ := hdr
    have R2 := Lib.hid hr
    have K2 := Lib.hid hkp
    have HER := Lib.hid her
    have G2 := Lib.hid (goal_row R1.out G1.out hkp HBG.out)
    have HZ : Hid (∃ z, R = (false, z) ∧ z.wl = ln ∧ z.wc = cl ∧ z.we = er) := Lib.hid (by
      obtain ⟨z, hz, q1, q2, q3⟩ := share_bad9 putHigh 0 (s := s) (by rw [HS.out, HAT.out]; exact hS)
      refine ⟨z, ?_, q1, q2, q3⟩
      rw [← HR.out]
      unfold sharesP
      rw [sharesK, sharesK, sharesK]
      simp only
      rw [hz])
    have KB := Lib.hid (rshare_bad b A c l k2 ln cl er w2 R2.out HER.out)
    obtain ⟨Ag, cg, hgb, hgn⟩ := G2.out
    have e0 := Blk.free hgb 2
    have e1 := Blk.free hgb 3
    have u0 := Blk.cell hgb 2
    have u1 := Blk.cell hgb 3
    have HGB := Lib.hid hgb
    clear hr hkp her KS hn0 hS hgb hgn
    go_wp2_with fail
    refine KB.out.mono ?_
    rintro e w3 ⟨rfl, rfl⟩
    go_wp2
    go_ret
    obtain ⟨z, hz, q1, q2, q3⟩ := HZ.out
    rw [hz]
    have KG := ((KeepR.refl g w3).setCell 2 (.int .i64 n0)).setCell 3 (.int .i64 0)
    refine ⟨⟨2, rfl, fun h => by cases h⟩, ((Keep2.ofB K1.out).trans (Keep2.ofB K2.out)).trans (Keep2.ofG KG), by rw [q3]; exact HER.out, k2, ?_⟩
    rw [q1, q2, q3]
    exact row_far R2.out KG HBG.out HAg.out
  | ok m0 k1 =>
    rw [hS] at hdr hn0
    obtain ⟨hr, hkp⟩ := hdr
    have R2 : Hid (RowM w2 b A c l k1 0 0 0) := Lib.hid hr
    have K2 := Lib.hid hkp
    have G2 := Lib.hid (goal_row R1.out G1.out hkp HBG.out)
    obtain rfl := hn0 _ _ rfl
    have HS1 := Lib.hid (share_ok9 putHigh 0 (s := s) (by rw [HS.out, HAT.out]; exact hS))
    have KS2 := Lib.hid (rshare_any b A c l k1 w2 R2.out hl HB.out)
    clear hr hkp hn0 hS KS
    go_wp2_with fail
    refine KS2.out.mono ?_
    rintro e w3 ⟨⟨n1, rfl, hn1⟩, hdr⟩
    cases hS : shareD l k1 with
    | bad ln cl er =>
      rw [hS] at hdr
      obtain ⟨⟨her, k2, hr⟩, hkp⟩ := hdr
      have R3 := Lib.hid hr
      have K3 := Lib.hid hkp
      have HER := Lib.hid her
      have G3 := Lib.hid (goal_row R2.out G2.out hkp HBG.out)
      have HZ : Hid (∃ z, R = (false, z) ∧ z.wl = ln ∧ z.wc = cl ∧ z.we = er) := Lib.hid (by
        obtain ⟨z, hz, q1, q2, q3⟩ := share_bad9 putHigh 1 (s := putHigh 0 n0 { s with at_ := k1 }) (by show shareD s.line k1 = _; rw [HS.out]; exact hS)
        refine ⟨z, ?_, q1, q2, q3⟩
        rw [← HR.out]
        unfold sharesP
        rw [sharesK, sharesK, sharesK]
        simp only
        rw [HS1.out]
        simp only
        exact hz)
      obtain ⟨Ag, cg, hgb, hgn⟩ := G3.out
      have e0 := Blk.free hgb 2
      have e1 := Blk.free hgb 3
      have u0 := Blk.cell hgb 2
      have u1 := Blk.cell hgb 3
      clear hr hkp her KS2 hn1 hS hgb hgn
      go_wp2
      go_ret
      obtain ⟨z, hz, q1, q2, q3⟩ := HZ.out
      rw [hz]
      have KG := ((KeepR.refl g w3).setCell 2 (.int .i64 n0)).setCell 3 (.int .i64 n1)
      refine ⟨⟨2, rfl, fun h => by cases h⟩, (((Keep2.ofB K1.out).trans (Keep2.ofB K2.out)).trans (Keep2.ofB K3.out)).trans (Keep2.ofG KG), by rw [q3]; exact HER.out, k2, ?_⟩
      rw [q1, q2, q3]
      exact row_far R3.out KG HBG.out HAg.out
    | ok m1 k2 =>
      rw [hS] at hdr hn1
      obtain ⟨hr, hkp⟩ := hdr
      have R3 : Hid (RowM w3 b A c l k2 0 0 0) := Lib.hid hr
      have K3 := Lib.hid hkp
      have G3 := Lib.hid (goal_row R2.out G2.out hkp HBG.out)
      obtain rfl := hn1 _ _ rfl
      have HZ : Hid (R = (true, putHigh 1 n1 { putHigh 0 n0 { s with at_ := k1 } with at_ := k2 })) := Lib.hid (by
        rw [← HR.out]
        unfold sharesP
        rw [sharesK, sharesK, sharesK]
        simp only
        rw [HS1.out]
        simp only
        exact share_ok9 putHigh 1 (s := putHigh 0 n0 { s with at_ := k1 }) (by show shareD s.line k1 = _; rw [HS.out]; exact hS))
      obtain ⟨Ag, cg, hgb, hgn⟩ := G3.out
      have e0 := Blk.free hgb 2
      have e1 := Blk.free hgb 3
      have u0 := Blk.cell hgb 2
      have u1 := Blk.cell hgb 3
      have HGB := Lib.hid hgb
      have HGN := Lib.hid hgn
      clear hr hkp KS2 hn1 hS hgb hgn
      go_wp2
      go_ret
      rw [HZ.out]
      have KG := ((KeepR.refl g w3).setCell 2 (.int .i64 n0)).setCell 3 (.int .i64 n1)
      exact ⟨⟨2, rfl, fun _ => rfl⟩, (((Keep2.ofB K1.out).trans (Keep2.ofB K2.out)).trans (Keep2.ofB K3.out)).trans (Keep2.ofG KG), row_far R3.out KG HBG.out HAg.out, Ag, cg, Blk.set (Blk.set HGB.out 2 (.int .i64 n0)) 3 (.int .i64 n1), names_keepR HGN.out KG (fun i t hc => gap9c HGB.out hc)⟩

set_option maxRecDepth 100000 in
set_option maxHeartbeats 4000000 in
theorem rdoes_on (b g : Nat) (A : Option Addr) (c : Nat) (l : List Sc.W4) (s : PR) (x : Sc.W4) (w : World) (hm : RowM w b A c l 0 0 0 0) (hg : GoalM w g s.goal) (hbg : b ≠ g) (hA : ∀ q o, A = some ⟨q, o, none⟩ → q ≠ g ∧ q < w.heap.size) (hx : l[0]? = some x) (h1 : x.1 = 1) (h2 : x.2.1 = [111, 110]) (hfew : l.length ≤ 100000) (hbig : ∀ x ∈ l, x.2.1.length ≤ 5000) (hdig : ∀ x ∈ l, x.1 = 2 → DigHead x.2.1) (hs : s.line = l) (hat : s.at_ = 1) (hon : s.goal.on = 0) :
    Calls Tryz.prog 44 #[.pointer (some ⟨b, 0, none⟩), .pointer (some ⟨g, 0, none⟩)] w fun e w' => (∃ n, e = .returned (.int .i64 n) ∧ ((onP s).1 = true → n = 3)) ∧ DoesR w b g A c l (onP s) w' := by
  have hl : 0 < l.length := (List.getElem?_eq_some_iff.1 hx).1
  have hW : wordD l 0 1 = .ok [111, 110] 1 := by unfold wordD; rw [hx]; simp only; rw [if_pos h1, h2]
  have KW := Lib.hid (rword_any b A c l 0 1 w hm hl)
  rw [hW] at KW
  simp only [textD] at KW
  have HM := Lib.hid hm
  have HG := Lib.hid hg
  have hbl := Blk.lt hm.blk
  have HAg := Lib.hid (fun q o e => (hA q o e).1)
  have HAw := Lib.hid (fun q o e => (hA q o e).2)
  have HBG := Lib.hid hbg
  have HS := Lib.hid hs
  have HAT := Lib.hid hat
  have HB := Lib.hid hbig
  have HD := Lib.hid hdig
  have HON := Lib.hid hon
  clear hon
  clear hm hg hbg hA hx h1 h2 hbig hdig hs hat hW
  obtain ⟨R, hR⟩ : ∃ R, onP s = R := ⟨_, rfl⟩
  have HR := Lib.hid hR
  rw [hR]
  clear hR
  go_enter Tryz.func44, Tryz.ntmps44
  go_wp2_with fail
  refine KW.out.mono ?_
  rintro e w1 ⟨rfl, hr, hkp⟩
  have R1 : Hid (RowM w1 b A c l 1 0 0 0) := Lib.hid hr
  have K1 := Lib.hid hkp
  have G1 := Lib.hid (goal_row HM.out HG.out hkp HBG.out)
  clear hr hkp KW HG
  have KS := Lib.hid (rbits_any b A c l 1 w1 R1.out hl)
  go_wp2_with fail
  refine KS.out.mono ?_
  rintro e w2 ⟨⟨n0, rfl, hn0⟩, hdr⟩
  cases hS : onD l (l.length + 1) 1 0 with
  | bad ln cl er =>
    rw [hS] at hdr
    obtain ⟨⟨her, k2, hr⟩, hkp⟩ := hdr
    have R2 := Lib.hid hr
    have K2 := Lib.hid hkp
    have HER := Lib.hid her
    have G2 := Lib.hid (goal_row R1.out G1.out hkp HBG.out)
    have HZ : Hid (∃ z, R = (false, z) ∧ z.wl = ln ∧ z.wc = cl ∧ z.we = er) := Lib.hid (by
      rw [← HR.out]
      exact by unfold onP; rw [HS.out]; exact on_bad9 (l.length + 1) (s := s) (by rw [HS.out, HAT.out]; omega) (by rw [HS.out, HAT.out]; omega) (by rw [HS.out, HAT.out, HON.out]; exact hS))
    obtain ⟨Ag, cg, hgb, hgn⟩ := G2.out
    have e0 := Blk.free hgb 4
    have u0 := Blk.cell hgb 4
    clear hr hkp her KS hn0 hS hgb hgn
    go_wp2
    go_ret
    obtain ⟨z, hz, q1, q2, q3⟩ := HZ.out
    rw [hz]
    have KG := (KeepR.refl g w2).setCell 4 (.int .i64 n0)
    refine ⟨⟨3, rfl, fun h => by cases h⟩, ((Keep2.ofB K1.out).trans (Keep2.ofB K2.out)).trans (Keep2.ofG KG), by rw [q3]; exact HER.out, k2, ?_⟩
    rw [q1, q2, q3]
    exact row_far R2.out KG HBG.out HAg.out
  | ok m0 k1 =>
    rw [hS] at hdr hn0
    obtain ⟨hr, hkp⟩ := hdr
    have R2 : Hid (RowM w2 b A c l k1 0 0 0) := Lib.hid hr
    have K2 := Lib.hid hkp
    have G2 := Lib.hid (goal_row R1.out G1.out hkp HBG.out)
    obtain rfl := hn0 _ _ rfl
    have HZ : Hid (R = (true, putOn n0 { s with at_ := k1 })) := Lib.hid (by
      rw [← HR.out]
      exact by have k9 := on_ok9 (l.length + 1) (s := s) (by rw [HS.out, HAT.out, HON.out]; exact hS); unfold onP; rw [show s.line.length = l.length from congrArg List.length HS.out]; exact k9)
    obtain ⟨Ag, cg, hgb, hgn⟩ := G2.out
    have e0 := Blk.free hgb 4
    have u0 := Blk.cell hgb 4
    have HGB := Lib.hid hgb
    have HGN := Lib.hid hgn
    clear hr hkp KS hn0 hS hgb hgn
    go_wp2
    go_ret
    rw [HZ.out]
    have KG := (KeepR.refl g w2).setCell 4 (.int .i64 n0)
    exact ⟨⟨3, rfl, fun _ => rfl⟩, ((Keep2.ofB K1.out).trans (Keep2.ofB K2.out)).trans (Keep2.ofG KG), row_far R2.out KG HBG.out HAg.out, Ag, cg, Blk.set HGB.out 4 (.int .i64 n0), names_keepR HGN.out KG (fun i t hc => gap9c HGB.out hc)⟩

set_option maxRecDepth 100000 in
set_option maxHeartbeats 4000000 in
theorem rdoes_moves (b g : Nat) (A : Option Addr) (c : Nat) (l : List Sc.W4) (s : PR) (x : Sc.W4) (w : World) (hm : RowM w b A c l 0 0 0 0) (hg : GoalM w g s.goal) (hbg : b ≠ g) (hA : ∀ q o, A = some ⟨q, o, none⟩ → q ≠ g ∧ q < w.heap.size) (hx : l[0]? = some x) (h1 : x.1 = 1) (h2 : x.2.1 = [109, 111, 118, 101, 115]) (hfew : l.length ≤ 100000) (hbig : ∀ x ∈ l, x.2.1.length ≤ 5000) (hdig : ∀ x ∈ l, x.1 = 2 → DigHead x.2.1) (hs : s.line = l) (hat : s.at_ = 1) :
    Calls Tryz.prog 44 #[.pointer (some ⟨b, 0, none⟩), .pointer (some ⟨g, 0, none⟩)] w fun e w' => (∃ n, e = .returned (.int .i64 n) ∧ ((numP putMoves s).1 = true → n = 5)) ∧ DoesR w b g A c l (numP putMoves s) w' := by
  have hl : 0 < l.length := (List.getElem?_eq_some_iff.1 hx).1
  have hW : wordD l 0 1 = .ok [109, 111, 118, 101, 115] 1 := by unfold wordD; rw [hx]; simp only; rw [if_pos h1, h2]
  have KW := Lib.hid (rword_any b A c l 0 1 w hm hl)
  rw [hW] at KW
  simp only [textD] at KW
  have HM := Lib.hid hm
  have HG := Lib.hid hg
  have hbl := Blk.lt hm.blk
  have HAg := Lib.hid (fun q o e => (hA q o e).1)
  have HAw := Lib.hid (fun q o e => (hA q o e).2)
  have HBG := Lib.hid hbg
  have HS := Lib.hid hs
  have HAT := Lib.hid hat
  have HB := Lib.hid hbig
  have HD := Lib.hid hdig
  clear hm hg hbg hA hx h1 h2 hbig hdig hs hat hW
  obtain ⟨R, hR⟩ : ∃ R, numP putMoves s = R := ⟨_, rfl⟩
  have HR := Lib.hid hR
  rw [hR]
  clear hR
  go_enter Tryz.func44, Tryz.ntmps44
  go_wp2_with fail
  refine KW.out.mono ?_
  rintro e w1 ⟨rfl, hr, hkp⟩
  have R1 : Hid (RowM w1 b A c l 1 0 0 0) := Lib.hid hr
  have K1 := Lib.hid hkp
  have G1 := Lib.hid (goal_row HM.out HG.out hkp HBG.out)
  clear hr hkp KW HG
  have KS := Lib.hid (rnumber_any b A c l 1 w1 R1.out hl HB.out HD.out)
  go_wp2_with fail
  refine KS.out.mono ?_
  rintro e w2 ⟨⟨n0, rfl, hn0⟩, hdr⟩
  cases hS : numD l 1 with
  | bad ln cl er =>
    rw [hS] at hdr
    obtain ⟨⟨her, k2, hr⟩, hkp⟩ := hdr
    have R2 := Lib.hid hr
    have K2 := Lib.hid hkp
    have HER := Lib.hid her
    have G2 := Lib.hid (goal_row R1.out G1.out hkp HBG.out)
    have HZ : Hid (∃ z, R = (false, z) ∧ z.wl = ln ∧ z.wc = cl ∧ z.we = er) := Lib.hid (by
      rw [← HR.out]
      exact num_bad9 putMoves (s := s) (by rw [HS.out, HAT.out]; exact hS))
    obtain ⟨Ag, cg, hgb, hgn⟩ := G2.out
    have e0 := Blk.free hgb 6
    have u0 := Blk.cell hgb 6
    clear hr hkp her KS hn0 hS hgb hgn
    go_wp2
    go_ret
    obtain ⟨z, hz, q1, q2, q3⟩ := HZ.out
    rw [hz]
    have KG := (KeepR.refl g w2).setCell 6 (.int .i64 n0)
    refine ⟨⟨5, rfl, fun h => by cases h⟩, ((Keep2.ofB K1.out).trans (Keep2.ofB K2.out)).trans (Keep2.ofG KG), by rw [q3]; exact HER.out, k2, ?_⟩
    rw [q1, q2, q3]
    exact row_far R2.out KG HBG.out HAg.out
  | ok m0 k1 =>
    rw [hS] at hdr hn0
    obtain ⟨hr, hkp⟩ := hdr
    have R2 : Hid (RowM w2 b A c l k1 0 0 0) := Lib.hid hr
    have K2 := Lib.hid hkp
    have G2 := Lib.hid (goal_row R1.out G1.out hkp HBG.out)
    obtain rfl := hn0 _ _ rfl
    have HZ : Hid (R = (true, putMoves n0 { s with at_ := k1 })) := Lib.hid (by
      rw [← HR.out]
      exact num_ok9 putMoves (s := s) (by rw [HS.out, HAT.out]; exact hS))
    obtain ⟨Ag, cg, hgb, hgn⟩ := G2.out
    have e0 := Blk.free hgb 6
    have u0 := Blk.cell hgb 6
    have HGB := Lib.hid hgb
    have HGN := Lib.hid hgn
    clear hr hkp KS hn0 hS hgb hgn
    go_wp2
    go_ret
    rw [HZ.out]
    have KG := (KeepR.refl g w2).setCell 6 (.int .i64 n0)
    exact ⟨⟨5, rfl, fun _ => rfl⟩, ((Keep2.ofB K1.out).trans (Keep2.ofB K2.out)).trans (Keep2.ofG KG), row_far R2.out KG HBG.out HAg.out, Ag, cg, Blk.set HGB.out 6 (.int .i64 n0), names_keepR HGN.out KG (fun i t hc => gap9c HGB.out hc)⟩

set_option maxRecDepth 100000 in
set_option maxHeartbeats 4000000 in
theorem rdoes_tries (b g : Nat) (A : Option Addr) (c : Nat) (l : List Sc.W4) (s : PR) (x : Sc.W4) (w : World) (hm : RowM w b A c l 0 0 0 0) (hg : GoalM w g s.goal) (hbg : b ≠ g) (hA : ∀ q o, A = some ⟨q, o, none⟩ → q ≠ g ∧ q < w.heap.size) (hx : l[0]? = some x) (h1 : x.1 = 1) (h2 : x.2.1 = [116, 114, 105, 101, 115]) (hfew : l.length ≤ 100000) (hbig : ∀ x ∈ l, x.2.1.length ≤ 5000) (hdig : ∀ x ∈ l, x.1 = 2 → DigHead x.2.1) (hs : s.line = l) (hat : s.at_ = 1) :
    Calls Tryz.prog 44 #[.pointer (some ⟨b, 0, none⟩), .pointer (some ⟨g, 0, none⟩)] w fun e w' => (∃ n, e = .returned (.int .i64 n) ∧ ((numP putTries s).1 = true → n = 6)) ∧ DoesR w b g A c l (numP putTries s) w' := by
  have hl : 0 < l.length := (List.getElem?_eq_some_iff.1 hx).1
  have hW : wordD l 0 1 = .ok [116, 114, 105, 101, 115] 1 := by unfold wordD; rw [hx]; simp only; rw [if_pos h1, h2]
  have KW := Lib.hid (rword_any b A c l 0 1 w hm hl)
  rw [hW] at KW
  simp only [textD] at KW
  have HM := Lib.hid hm
  have HG := Lib.hid hg
  have hbl := Blk.lt hm.blk
  have HAg := Lib.hid (fun q o e => (hA q o e).1)
  have HAw := Lib.hid (fun q o e => (hA q o e).2)
  have HBG := Lib.hid hbg
  have HS := Lib.hid hs
  have HAT := Lib.hid hat
  have HB := Lib.hid hbig
  have HD := Lib.hid hdig
  clear hm hg hbg hA hx h1 h2 hbig hdig hs hat hW
  obtain ⟨R, hR⟩ : ∃ R, numP putTries s = R := ⟨_, rfl⟩
  have HR := Lib.hid hR
  rw [hR]
  clear hR
  go_enter Tryz.func44, Tryz.ntmps44
  go_wp2_with fail
  refine KW.out.mono ?_
  rintro e w1 ⟨rfl, hr, hkp⟩
  have R1 : Hid (RowM w1 b A c l 1 0 0 0) := Lib.hid hr
  have K1 := Lib.hid hkp
  have G1 := Lib.hid (goal_row HM.out HG.out hkp HBG.out)
  clear hr hkp KW HG
  have KS := Lib.hid (rnumber_any b A c l 1 w1 R1.out hl HB.out HD.out)
  go_wp2_with fail
  refine KS.out.mono ?_
  rintro e w2 ⟨⟨n0, rfl, hn0⟩, hdr⟩
  cases hS : numD l 1 with
  | bad ln cl er =>
    rw [hS] at hdr
    obtain ⟨⟨her, k2, hr⟩, hkp⟩ := hdr
    have R2 := Lib.hid hr
    have K2 := Lib.hid hkp
    have HER := Lib.hid her
    have G2 := Lib.hid (goal_row R1.out G1.out hkp HBG.out)
    have HZ : Hid (∃ z, R = (false, z) ∧ z.wl = ln ∧ z.wc = cl ∧ z.we = er) := Lib.hid (by
      rw [← HR.out]
      exact num_bad9 putTries (s := s) (by rw [HS.out, HAT.out]; exact hS))
    obtain ⟨Ag, cg, hgb, hgn⟩ := G2.out
    have e0 := Blk.free hgb 7
    have u0 := Blk.cell hgb 7
    clear hr hkp her KS hn0 hS hgb hgn
    go_wp2
    go_ret
    obtain ⟨z, hz, q1, q2, q3⟩ := HZ.out
    rw [hz]
    have KG := (KeepR.refl g w2).setCell 7 (.int .i64 n0)
    refine ⟨⟨6, rfl, fun h => by cases h⟩, ((Keep2.ofB K1.out).trans (Keep2.ofB K2.out)).trans (Keep2.ofG KG), by rw [q3]; exact HER.out, k2, ?_⟩
    rw [q1, q2, q3]
    exact row_far R2.out KG HBG.out HAg.out
  | ok m0 k1 =>
    rw [hS] at hdr hn0
    obtain ⟨hr, hkp⟩ := hdr
    have R2 : Hid (RowM w2 b A c l k1 0 0 0) := Lib.hid hr
    have K2 := Lib.hid hkp
    have G2 := Lib.hid (goal_row R1.out G1.out hkp HBG.out)
    obtain rfl := hn0 _ _ rfl
    have HZ : Hid (R = (true, putTries n0 { s with at_ := k1 })) := Lib.hid (by
      rw [← HR.out]
      exact num_ok9 putTries (s := s) (by rw [HS.out, HAT.out]; exact hS))
    obtain ⟨Ag, cg, hgb, hgn⟩ := G2.out
    have e0 := Blk.free hgb 7
    have u0 := Blk.cell hgb 7
    have HGB := Lib.hid hgb
    have HGN := Lib.hid hgn
    clear hr hkp KS hn0 hS hgb hgn
    go_wp2
    go_ret
    rw [HZ.out]
    have KG := (KeepR.refl g w2).setCell 7 (.int .i64 n0)
    exact ⟨⟨6, rfl, fun _ => rfl⟩, ((Keep2.ofB K1.out).trans (Keep2.ofB K2.out)).trans (Keep2.ofG KG), row_far R2.out KG HBG.out HAg.out, Ag, cg, Blk.set HGB.out 7 (.int .i64 n0), names_keepR HGN.out KG (fun i t hc => gap9c HGB.out hc)⟩

set_option maxRecDepth 100000 in
set_option maxHeartbeats 4000000 in
theorem rdoes_drain (b g : Nat) (A : Option Addr) (c : Nat) (l : List Sc.W4) (s : PR) (x : Sc.W4) (w : World) (hm : RowM w b A c l 0 0 0 0) (hg : GoalM w g s.goal) (hbg : b ≠ g) (hA : ∀ q o, A = some ⟨q, o, none⟩ → q ≠ g ∧ q < w.heap.size) (hx : l[0]? = some x) (h1 : x.1 = 1) (h2 : x.2.1 = [100, 114, 97, 105, 110]) (hfew : l.length ≤ 100000) (hbig : ∀ x ∈ l, x.2.1.length ≤ 5000) (hdig : ∀ x ∈ l, x.1 = 2 → DigHead x.2.1) (hs : s.line = l) (hat : s.at_ = 1) (hdn : s.goal.drain = []) :
    Calls Tryz.prog 44 #[.pointer (some ⟨b, 0, none⟩), .pointer (some ⟨g, 0, none⟩)] w fun e w' => (∃ n, e = .returned (.int .i64 n) ∧ ((drainP s).1 = true → n = 4)) ∧ DoesR w b g A c l (drainP s) w' := by
  have hl : 0 < l.length := (List.getElem?_eq_some_iff.1 hx).1
  have hW : wordD l 0 1 = .ok [100, 114, 97, 105, 110] 1 := by unfold wordD; rw [hx]; simp only; rw [if_pos h1, h2]
  have KW := Lib.hid (rword_any b A c l 0 1 w hm hl)
  rw [hW] at KW
  simp only [textD] at KW
  have HM := Lib.hid hm
  have HG := Lib.hid hg
  have hbl := Blk.lt hm.blk
  have HAg := Lib.hid (fun q o e => (hA q o e).1)
  have HAw := Lib.hid (fun q o e => (hA q o e).2)
  have HBG := Lib.hid hbg
  have HS := Lib.hid hs
  have HAT := Lib.hid hat
  have HB := Lib.hid hbig
  have HD := Lib.hid hdig
  have HDN := Lib.hid hdn
  clear hdn
  clear hm hg hbg hA hx h1 h2 hbig hdig hs hat hW
  obtain ⟨R, hR⟩ : ∃ R, drainP s = R := ⟨_, rfl⟩
  have HR := Lib.hid hR
  rw [hR]
  clear hR
  go_enter Tryz.func44, Tryz.ntmps44
  go_wp2_with fail
  refine KW.out.mono ?_
  rintro e w1 ⟨rfl, hr, hkp⟩
  have R1 : Hid (RowM w1 b A c l 1 0 0 0) := Lib.hid hr
  have K1 := Lib.hid hkp
  have G1 := Lib.hid (goal_row HM.out HG.out hkp HBG.out)
  clear hr hkp KW HG
  have KS := Lib.hid (rdrain_any b A c l 1 w1 R1.out hl hfew HB.out (fun q o e => Nat.lt_of_lt_of_le (HAw.out q o e) K1.out.size))
  go_wp2_with fail
  refine KS.out.mono ?_
  rintro e w2 ⟨⟨A', c', L, rfl, hown, hn0⟩, hdr⟩
  have ho1 := Sc.own_cap hown
  have HO := Lib.hid hown
  cases hS : drainD l (l.length + 1) 1 [] with
  | bad ln cl er =>
    rw [hS] at hdr
    obtain ⟨⟨her, k2, hr⟩, hkp⟩ := hdr
    have R2 := Lib.hid hr
    have K2 := Lib.hid hkp
    have HER := Lib.hid her
    have G2 := Lib.hid (goal_row R1.out G1.out hkp HBG.out)
    have HZ : Hid (∃ z, R = (false, z) ∧ z.wl = ln ∧ z.wc = cl ∧ z.we = er) := Lib.hid (by
      rw [← HR.out]
      unfold drainP
      rw [HS.out]
      exact drain_bad9 (l.length + 1) (s := s) (by rw [HS.out, HAT.out]; omega) (by rw [HS.out, HAT.out]; omega) (by rw [HS.out, HAT.out, HDN.out]; exact hS))
    obtain ⟨Ag, cg, hgb, hgn⟩ := G2.out
    have e0 := Blk.free hgb 5
    have u0 := Blk.cell hgb 5
    clear hr hkp her KS hn0 hS hgb hgn hown ho1
    go_wp2
    go_ret
    obtain ⟨z, hz, q1, q2, q3⟩ := HZ.out
    rw [hz]
    have KG := (KeepR.refl g w2).setCell 5 (.slice A' L.length c')
    refine ⟨⟨4, rfl, fun h => by cases h⟩, ((Keep2.ofB K1.out).trans (Keep2.ofB K2.out)).trans (Keep2.ofG KG), by rw [q3]; exact HER.out, k2, ?_⟩
    rw [q1, q2, q3]
    exact row_far R2.out KG HBG.out HAg.out
  | ok m0 k1 =>
    rw [hS] at hdr hn0
    obtain ⟨hr, hkp⟩ := hdr
    have R2 : Hid (RowM w2 b A c l k1 0 0 0) := Lib.hid hr
    have K2 := Lib.hid hkp
    have G2 := Lib.hid (goal_row R1.out G1.out hkp HBG.out)
    obtain rfl := hn0 _ _ rfl
    have HZ : Hid (R = (true, { s with at_ := k1, goal := { s.goal with drain := L } })) := Lib.hid (by
      rw [← HR.out]
      have k9 := drain_ok9 (l.length + 1) (s := s) (by rw [HS.out, HAT.out, HDN.out]; exact hS)
      unfold drainP
      rw [show s.line.length = l.length from congrArg List.length HS.out]
      exact k9)
    have HBL := Lib.hid (drain_big HB.out (l.length + 1) 1 [] (fun t ht => by cases ht) hS)
    obtain ⟨Ag, cg, hgb, hgn⟩ := G2.out
    have e0 := Blk.free hgb 5
    have u0 := Blk.cell hgb 5
    have HGB := Lib.hid hgb
    have HO1 := Lib.hid ho1
    clear hr hkp KS hn0 hS hgb hgn hown ho1
    go_wp2
    go_ret
    rw [HZ.out]
    have KG := (KeepR.refl g w2).setCell 5 (.slice A' L.length c')
    have hN2 : NamesAt w2 A' c' L := ⟨fun j y hj => Sc.own_slat HO.out j y hj, HO1.out.1, HO1.out.2, fun x hx => by have := HBL.out x hx; omega⟩
    exact ⟨⟨4, rfl, fun _ => rfl⟩, ((Keep2.ofB K1.out).trans (Keep2.ofB K2.out)).trans (Keep2.ofG KG), row_far R2.out KG HBG.out HAg.out, A', c', Blk.set HGB.out 5 (.slice A' L.length c'), names_keepR hN2 KG (fun i t hc => gap9c HGB.out hc)⟩

set_option maxRecDepth 100000 in
set_option maxHeartbeats 4000000 in
theorem rdoes_roll (b g : Nat) (A : Option Addr) (c : Nat) (l : List Sc.W4) (s : PR) (x : Sc.W4) (w : World) (hm : RowM w b A c l 0 0 0 0) (hg : GoalM w g s.goal) (hbg : b ≠ g) (hA : ∀ q o, A = some ⟨q, o, none⟩ → q ≠ g ∧ q < w.heap.size) (hx : l[0]? = some x) (h1 : x.1 = 1) (h2 : x.2.1 = [114, 111, 108, 108, 98, 97, 99, 107]) (hfew : l.length ≤ 100000) (hbig : ∀ x ∈ l, x.2.1.length ≤ 5000) (hdig : ∀ x ∈ l, x.1 = 2 → DigHead x.2.1) (hs : s.line = l) (hat : s.at_ = 1) :
    Calls Tryz.prog 44 #[.pointer (some ⟨b, 0, none⟩), .pointer (some ⟨g, 0, none⟩)] w fun e w' => (∃ n, e = .returned (.int .i64 n) ∧ ((rollP s).1 = true → n = 7)) ∧ DoesR w b g A c l (rollP s) w' := by
  have hl : 0 < l.length := (List.getElem?_eq_some_iff.1 hx).1
  have hW : wordD l 0 1 = .ok [114, 111, 108, 108, 98, 97, 99, 107] 1 := by unfold wordD; rw [hx]; simp only; rw [if_pos h1, h2]
  have KW := Lib.hid (rword_any b A c l 0 1 w hm hl)
  rw [hW] at KW
  simp only [textD] at KW
  have HM := Lib.hid hm
  have HG := Lib.hid hg
  have hbl := Blk.lt hm.blk
  have HAg := Lib.hid (fun q o e => (hA q o e).1)
  have HAw := Lib.hid (fun q o e => (hA q o e).2)
  have HBG := Lib.hid hbg
  have HS := Lib.hid hs
  have HAT := Lib.hid hat
  have HB := Lib.hid hbig
  have HD := Lib.hid hdig
  clear hm hg hbg hA hx h1 h2 hbig hdig hs hat hW
  obtain ⟨R, hR⟩ : ∃ R, rollP s = R := ⟨_, rfl⟩
  have HR := Lib.hid hR
  rw [hR]
  clear hR
  go_enter Tryz.func44, Tryz.ntmps44
  go_wp2_with fail
  refine KW.out.mono ?_
  rintro e w1 ⟨rfl, hr, hkp⟩
  have R1 : Hid (RowM w1 b A c l 1 0 0 0) := Lib.hid hr
  have K1 := Lib.hid hkp
  have G1 := Lib.hid (goal_row HM.out HG.out hkp HBG.out)
  clear hr hkp KW HG
  have HZ : Hid (R = (true, { s with goal := { s.goal with rb := true } })) := Lib.hid HR.out.symm
  obtain ⟨Ag, cg, hgb, hgn⟩ := G1.out
  have e0 := Blk.free hgb 8
  have u0 := Blk.cell hgb 8
  have HGB := Lib.hid hgb
  have HGN := Lib.hid hgn
  clear hgb hgn
  go_wp2
  go_ret
  rw [HZ.out]
  have KG := (KeepR.refl g w1).setCell 8 (.bool true)
  refine ⟨⟨7, rfl, fun _ => rfl⟩, (Keep2.ofB K1.out).trans (Keep2.ofG KG), ?_, Ag, cg, Blk.set HGB.out 8 (.bool true), names_keepR HGN.out KG (fun i t hc => gap9c HGB.out hc)⟩
  show RowM _ b A c l s.at_ 0 0 0
  rw [HAT.out]
  exact row_far R1.out KG HBG.out HAg.out

/-- A line that begins with no key. -/
theorem strs_ne {t k : List UInt8} (h : t ≠ k) : (t == k) = false := by simpa using h
set_option maxRecDepth 100000 in
set_option maxHeartbeats 4000000 in
theorem rdoes_odd (b g : Nat) (A : Option Addr) (c : Nat) (l : List Sc.W4) (x : Sc.W4) (w : World) (hm : RowM w b A c l 0 0 0 0) (hx : l[0]? = some x) (hno : ∀ q, q < 7 → ¬ (x.1 = 1 ∧ x.2.1 = keysL.getD q [])) :
    Calls Tryz.prog 44 #[.pointer (some ⟨b, 0, none⟩), .pointer (some ⟨g, 0, none⟩)] w fun e w' => (∃ n, e = .returned (.int .i64 n)) ∧ (∃ k, RowM w' b A c l k (x.2.2.1 : Int) (x.2.2.2 : Int) 4) ∧ KeepR b w w' := by
  have hl : 0 < l.length := (List.getElem?_eq_some_iff.1 hx).1
  have KW := Lib.hid (rword_any b A c l 0 1 w hm hl)
  have HX := Lib.hid hx
  by_cases hk : x.1 = 1
  · have hW : wordD l 0 1 = .ok x.2.1 1 := by unfold wordD; rw [hx]; simp only; rw [if_pos hk]
    rw [hW] at KW
    simp only [textD] at KW
    have b0 := strs_ne (fun e => hno 0 (by omega) ⟨hk, e⟩ : ¬ x.2.1 = [108, 111, 119])
    have b1 := strs_ne (fun e => hno 1 (by omega) ⟨hk, e⟩ : ¬ x.2.1 = [104, 105, 103, 104])
    have b2 := strs_ne (fun e => hno 2 (by omega) ⟨hk, e⟩ : ¬ x.2.1 = [111, 110])
    have b3 := strs_ne (fun e => hno 3 (by omega) ⟨hk, e⟩ : ¬ x.2.1 = [100, 114, 97, 105, 110])
    have b4 := strs_ne (fun e => hno 4 (by omega) ⟨hk, e⟩ : ¬ x.2.1 = [109, 111, 118, 101, 115])
    have b5 := strs_ne (fun e => hno 5 (by omega) ⟨hk, e⟩ : ¬ x.2.1 = [116, 114, 105, 101, 115])
    have b6 := strs_ne (fun e => hno 6 (by omega) ⟨hk, e⟩ : ¬ x.2.1 = [114, 111, 108, 108, 98, 97, 99, 107])
    generalize x.2.1 = t at KW b0 b1 b2 b3 b4 b5 b6
    clear hm hx hno hW hk
    go_enter Tryz.func44, Tryz.ntmps44
    go_wp2_with fail
    refine KW.out.mono ?_
    rintro e w1 ⟨rfl, hr, hkp⟩
    have R1 : Hid (RowM w1 b A c l 1 0 0 0) := Lib.hid hr
    have K1 := Lib.hid hkp
    have KB := Lib.hid (rback_e b A c l 0 4 x w1 R1.out HX.out (by decide))
    clear hr hkp KW
    go_wp2_with fail
    refine KB.out.mono ?_
    rintro e w2 ⟨⟨v, rfl⟩, hr, hkp⟩
    have R2 := Lib.hid hr
    have K2 := Lib.hid (K1.out.trans hkp)
    clear hr hkp KB
    go_wp2
    go_ret
    exact ⟨⟨0, rfl⟩, ⟨0, R2.out⟩, K2.out⟩
  · have hW : wordD l 0 1 = .bad (x.2.2.1 : Int) (x.2.2.2 : Int) 4 := by unfold wordD; rw [hx]; simp only; rw [if_neg hk]
    rw [hW] at KW
    simp only [textD] at KW
    clear hm hx hno hW hk
    go_enter Tryz.func44, Tryz.ntmps44
    go_wp2_with fail
    refine KW.out.mono ?_
    rintro e w1 ⟨rfl, ⟨her, k1, hr⟩, hkp⟩
    have R1 := Lib.hid hr
    have K1 := Lib.hid hkp
    have KB := Lib.hid (rback_bad b A c l k1 _ _ 4 4 w1 R1.out (by decide))
    clear hr hkp KW her
    go_wp2_with fail
    refine KB.out.mono ?_
    rintro e w2 ⟨⟨v, rfl⟩, rfl⟩
    go_wp2
    go_ret
    exact ⟨⟨0, rfl⟩, ⟨k1, R1.out⟩, K1.out⟩
end Go.Proofs.YthbplchbolghjaaGreatDoor

namespace Go.Proofs.YthbplchbolghjaaGreatDoor
open Go.RowKit

def Nw (s : Sc.RS) : Prop := ∀ x ∈ s.words, x.1 = 2 → DigHead x.2.1
def Ni (s : Sc.RS) : Prop := Nw s ∧ (s.mode ≠ .btw → s.mode ≠ .com → s.kind = 2 → DigHead s.text)
theorem dig_more {t : List UInt8} (h : DigHead t) (u : List UInt8) : DigHead (t ++ u) := by
  obtain ⟨d, r, rfl, hd⟩ := h
  exact ⟨d, r ++ u, rfl, hd⟩
theorem ni_add (s : Sc.RS) (c : Int) (h : Ni s) : Ni (Sc.addF s c) := ⟨h.1, fun h1 h2 h3 => dig_more (h.2 h1 h2 h3) _⟩
theorem ni_mode (s : Sc.RS) (m : Sc.Mode) (h : Ni s) (h1 : s.mode ≠ .btw) (h2 : s.mode ≠ .com) : Ni { s with mode := m } := ⟨h.1, fun _ _ h3 => h.2 h1 h2 h3⟩
theorem nw_end (s : Sc.RS) (h : Ni s) (h1 : s.mode ≠ .btw) (h2 : s.mode ≠ .com) : Nw (Sc.endF s) := by
  intro x hx hk
  rcases List.mem_append.1 hx with hx | hx
  · exact h.1 x hx hk
  · rw [List.mem_singleton] at hx
    subst hx
    exact h.2 h1 h2 hk
theorem ni_btw (s : Sc.RS) (h : Nw s) (hm : s.mode = .btw) : Ni s := ⟨h, fun k => absurd hm k⟩
theorem ni_begin (s : Sc.RS) (k : Int) (m : Sc.Mode) (h : Nw s) (hk : k ≠ 2) : Ni (Sc.beginF s k m) := ⟨h, fun _ _ h3 => absurd h3 hk⟩
theorem ni_bet (s : Sc.RS) (c : Nat) (h : Nw s) (hm : s.mode = .btw) : Ni (Sc.betF s c).1 := by
  unfold Sc.betF
  split
  · exact ni_btw s h hm
  · split
    · exact ⟨h, fun _ k => absurd rfl k⟩
    · split
      · exact ni_begin _ _ _ h (by decide)
      · split
        · refine ni_btw _ (fun x hx hk => ?_) rfl
          rcases List.mem_append.1 hx with hx | hx
          · exact h x hx hk
          · rw [List.mem_singleton] at hx
            subst hx
            cases hk
        · split
          · exact ni_add _ _ (ni_begin _ _ _ h (by decide))
          · split
            · rename_i hd
              refine ⟨h, fun _ _ _ => ?_⟩
              have hd2 : 48 ≤ c ∧ c ≤ 57 := by simpa [Sc.dgB] using hd
              have e : Lib.encodeRune (c : Int) = [UInt8.ofNat c] := by
                obtain ⟨n, rfl⟩ : ∃ n, c = n + 48 := ⟨c - 48, by omega⟩
                obtain rfl | rfl | rfl | rfl | rfl | rfl | rfl | rfl | rfl | rfl : n = 0 ∨ n = 1 ∨ n = 2 ∨ n = 3 ∨ n = 4 ∨ n = 5 ∨ n = 6 ∨ n = 7 ∨ n = 8 ∨ n = 9 := by omega
                all_goals rfl
              show DigHead ([] ++ Lib.encodeRune (c : Int))
              rw [e]
              refine ⟨UInt8.ofNat c, [], rfl, ?_⟩
              unfold isD
              rw [decide_eq_true_eq, UInt8.toNat_ofNat']
              simp
              omega
            · exact ni_btw s h hm
theorem ni_go (s : Sc.RS) (c : Nat) (b : Bool) (h : Ni s) (h1 : s.mode ≠ .btw) (h2 : s.mode ≠ .com) : Ni (Sc.goF s c b).1 := by
  unfold Sc.goF
  split
  · exact ni_add _ _ h
  · split
    · exact h
    · exact ni_bet _ c (nw_end s h h1 h2) rfl
theorem ni_step (s : Sc.RS) (c : Nat) (h : Ni s) : Ni (Sc.stepF s c).1 := by
  unfold Sc.stepF
  split
  · rename_i hm
    exact ni_bet s c h.1 hm
  · rename_i hm
    exact ni_go s c _ h (by rw [hm]; simp) (by rw [hm]; simp)
  · rename_i hm
    exact ni_go s c _ h (by rw [hm]; simp) (by rw [hm]; simp)
  · rename_i hm
    have h1 : s.mode ≠ .btw := by rw [hm]; simp
    have h2 : s.mode ≠ .com := by rw [hm]; simp
    unfold Sc.strF
    split
    · exact h
    · split
      · exact h
      · split
        · exact ni_btw _ (nw_end s h h1 h2) rfl
        · split
          · exact ni_mode s _ h h1 h2
          · exact ni_add _ _ h
  · rename_i hm
    have h1 : s.mode ≠ .btw := by rw [hm]; simp
    have h2 : s.mode ≠ .com := by rw [hm]; simp
    unfold Sc.escF
    split
    · exact h
    · split
      · exact ni_mode _ _ (ni_add s _ h) h1 h2
      · split
        · exact ni_mode _ _ (ni_add s _ h) h1 h2
        · exact h
  · unfold Sc.comF
    split
    · exact ni_btw _ h.1 rfl
    · exact h
theorem ni_read (s : Sc.RS) (c : Nat) (h : Ni s) : Ni (Sc.readF s c).1 := by
  have k := ni_step s c h
  unfold Sc.readF
  split
  · exact k
  · exact k
theorem ni_scan (l : List UInt8) : ∀ (f pos : Nat) (s : Sc.RS), Ni s → ∀ x ∈ (Sc.scanF l f pos s).1, x.1 = 2 → DigHead x.2.1 := by
  intro f
  induction f with
  | zero => intro pos s h x hx; simp [Sc.scanF] at hx
  | succ f ih =>
    intro pos s h x hx
    rw [Sc.scanF] at hx
    split at hx
    · split at hx
      · simp at hx
      · split at hx
        · exact ih _ _ (ni_read s _ h) x hx
        · simp at hx
    · split at hx
      · exact (ni_read s 10 h).1 x hx
      · simp at hx
theorem words_dig (l : List UInt8) : ∀ x ∈ (Sc.wordsF l).1, x.1 = 2 → DigHead x.2.1 := by
  unfold Sc.wordsF
  split
  · simp
  · exact ni_scan l _ _ _ (ni_btw _ (fun x hx => by cases hx) rfl)
theorem words_5000 (l : List UInt8) (hl : l.length ≤ 1000) : (Sc.wordsF l).1.length ≤ 5000 ∧ ∀ x ∈ (Sc.wordsF l).1, x.2.1.length ≤ 5000 := by
  unfold Sc.wordsF
  rw [if_neg (by omega)]
  have h1 := num_scan l (l.length + 1) 0 Sc.rs0
  have e : Sc.rs0.words.length = 0 := rfl
  refine ⟨by omega, fun x hx => ?_⟩
  have h2 := txt_scan l (l.length + 1) 0 0 Sc.rs0 ⟨Nat.le_refl _, fun x hx => by cases hx⟩ x hx
  omega
end Go.Proofs.YthbplchbolghjaaGreatDoor
