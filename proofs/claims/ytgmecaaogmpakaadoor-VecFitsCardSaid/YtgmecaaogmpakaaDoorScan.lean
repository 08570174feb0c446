/- Reading, byte by byte: a text's runes come to its bytes, as no rune beyond ASCII can stand anywhere. Plain words on lists; no conditions. -/
import Derived.Test.YtgmecaaogmpakaaDoorParse
import Derived.Test.YtgmecaaogmpakaaDoorPrint
namespace Go.Proofs.YtgmecaaogmpakaaDoor
open Go.RowKit

/-- One byte, if it is ASCII. -/
def Rd.byte (r : Rd) (b : UInt8) (P : Nat) (m : List (List UInt8 × Int)) : Option Rd := if b.toNat < 128 then r.take b.toNat P m else none

/-- Byte by byte: what was read of all of it, or where it is wrong. -/
def scanL (P : Nat) (m : List (List UInt8 × Int)) : List UInt8 → Nat → Rd → Option Rd × Nat
  | [], pos, r => (some r, pos)
  | b :: t, pos, r => match r.byte b P m with
    | none => (none, pos)
    | some r' => scanL P m t (pos + 1) r'

/-- A code point's bytes. -/
def codeBytes (n : Nat) : ByteArray :=
  if n < 128 then ⟨#[UInt8.ofNat n]⟩
  else if n < 2048 then ⟨#[UInt8.ofNat (192 + n / 64), UInt8.ofNat (128 + n % 64)]⟩
  else if n < 65536 then ⟨#[UInt8.ofNat (224 + n / 4096), UInt8.ofNat (128 + n / 64 % 64), UInt8.ofNat (128 + n % 64)]⟩
  else ⟨#[UInt8.ofNat (240 + n / 262144), UInt8.ofNat (128 + n / 4096 % 64), UInt8.ofNat (128 + n / 64 % 64), UInt8.ofNat (128 + n % 64)]⟩
theorem encode_eq (r : Int) : Utf8.encode r = codeBytes (if Utf8.valid r = true then r.toNat else Utf8.runeError) := rfl
theorem code_ascii (n : Nat) (h : n < 128) : bytesOf (codeBytes n) = [UInt8.ofNat n] := by
  unfold codeBytes bytesOf
  rw [if_pos h]
theorem ofNat_ge {n : Nat} (h : 128 ≤ n) (h' : n < 256) : 128 ≤ (UInt8.ofNat n).toNat := by
  rw [UInt8.toNat_ofNat']
  omega
theorem code_high (n : Nat) (h1 : 128 ≤ n) (h2 : n ≤ 1114111) : ∃ b t, bytesOf (codeBytes n) = b :: t ∧ 128 ≤ b.toNat := by
  unfold codeBytes bytesOf
  rw [if_neg (by omega)]
  split
  · exact ⟨_, _, rfl, ofNat_ge (by omega) (by omega)⟩
  · split
    · exact ⟨_, _, rfl, ofNat_ge (by omega) (by omega)⟩
    · exact ⟨_, _, rfl, ofNat_ge (by omega) (by omega)⟩

theorem enc_ascii (c : Nat) (h : c < 128) : enc c = [UInt8.ofNat c] := by
  have hv : Utf8.valid (c : Int) = true := by
    unfold Utf8.valid
    simp
    omega
  unfold enc
  rw [encode_eq, if_pos hv, Int.toNat_natCast]
  exact code_ascii c h

/-- The bytes of a rune beyond ASCII: there is one that is not ASCII. -/
theorem enc_high (c : Nat) (h : 128 ≤ c) : ∃ b t, enc c = b :: t ∧ 128 ≤ b.toNat := by
  unfold enc
  rw [encode_eq]
  by_cases hv : Utf8.valid (c : Int) = true
  · rw [if_pos hv, Int.toNat_natCast]
    unfold Utf8.valid at hv
    simp at hv
    exact code_high c h (by omega)
  · rw [if_neg hv]
    exact code_high _ (by unfold Utf8.runeError; decide) (by unfold Utf8.runeError; decide)

/-- A table whose keys are ASCII. -/
def Ascii (m : List (List UInt8 × Int)) : Prop := ∀ k x, look m k = some x → ∀ b ∈ k, b.toNat < 128

theorem suf_ascii : Ascii sufM := by
  intro k x h
  simp only [sufM, look] at h
  repeat' (split at h)
  all_goals first | (rename_i e; subst e; decide) | (cases h)
theorem pct_ascii : Ascii pctM := by
  intro k x h
  simp only [pctM, look] at h
  repeat' (split at h)
  all_goals first | (rename_i e; subst e; decide) | (cases h)

theorem take_high {r : Rd} {c P : Nat} {m : List (List UInt8 × Int)} (hm : Ascii m) (h : 128 ≤ c) : r.take c P m = none := by
  unfold Rd.take
  rw [if_neg (by omega), if_neg (by omega)]
  unfold Rd.suffix
  by_cases hn : r.num = false
  · rw [if_pos hn]
  · rw [if_neg hn, if_neg]
    intro hs
    obtain ⟨x, hx⟩ := Option.isSome_iff_exists.1 hs
    obtain ⟨b, t, he, hb⟩ := enc_high c h
    have := hm _ x hx b (by rw [he]; simp)
    omega

theorem scan_list (s : ByteArray) (P : Nat) (m : List (List UInt8 × Int)) (hm : Ascii m) : ∀ (f pos : Nat) (r : Rd), s.size ≤ pos + f → scanF s P m f pos r = scanL P m (s.data.toList.drop pos) pos r
  | 0, pos, r, h => by
    rw [List.drop_eq_nil_of_le (by show s.size ≤ pos; omega)]
    rfl
  | f + 1, pos, r, h => by
    rw [scanF]
    by_cases hp : pos < s.size
    · rw [if_pos hp]
      have hd : s.data.toList.drop pos = s[pos] :: s.data.toList.drop (pos + 1) := by
        rw [List.drop_eq_getElem_cons (by simpa using hp)]
        rfl
      rw [hd, scanL]
      unfold Rd.byte
      by_cases ha : (s[pos]'hp).toNat < 128
      · rw [decode_ascii s pos hp ha, if_pos ha]
        simp only
        cases r.take (s[pos]'hp).toNat P m with
        | none => rfl
        | some r' => exact scan_list s P m hm f (pos + 1) r' (by omega)
      · rw [if_neg ha, take_high hm (decode_high s pos hp (by omega)).1]
    · rw [if_neg hp, List.drop_eq_nil_of_le (by show s.size ≤ pos; omega)]
      rfl

theorem scan_all (s : ByteArray) (P : Nat) (m : List (List UInt8 × Int)) (hm : Ascii m) : scanF s P m s.size 0 rd0 = scanL P m s.data.toList 0 rd0 := by
  rw [scan_list s P m hm s.size 0 rd0 (by omega)]
  rfl

theorem scan_append (P : Nat) (m : List (List UInt8 × Int)) : ∀ (a b : List UInt8) (pos : Nat) (r : Rd), scanL P m (a ++ b) pos r = match scanL P m a pos r with
    | (none, q) => (none, q)
    | (some r', q) => scanL P m b q r'
  | [], b, pos, r => rfl
  | x :: a, b, pos, r => by
    simp only [List.cons_append, scanL]
    cases r.byte x P m with
    | none => rfl
    | some r' => exact scan_append P m a b (pos + 1) r'

/-- Digits of a number, ahead of all else. -/
theorem scan_dec (P : Nat) (m : List (List UInt8 × Int)) (u : Nat) : ∀ (pos : Nat), u ≤ 1125899906842624 → scanL P m (Lib.decDigits u) pos rd0 = (some ⟨u, true, false, 0, []⟩, pos + (Lib.decDigits u).length) := by
  induction u using Nat.strongRecOn with
  | _ u ih =>
    intro pos hu
    by_cases h : u < 10
    · rw [Lib.decDigits_one h]
      have hb : (UInt8.ofNat (48 + u)).toNat = 48 + u := by rw [UInt8.toNat_ofNat']; omega
      simp only [scanL, Rd.byte, hb]
      rw [if_pos (by omega)]
      unfold Rd.take
      rw [if_pos (by omega)]
      unfold Rd.digit rd0
      simp only
      rw [if_neg (by simp), if_neg (by simp), if_neg (by simp), if_neg (by unfold enough; omega)]
      simp
      omega
    · rw [Lib.decDigits, dif_neg h, scan_append, ih (u / 10) (by omega) pos (by omega)]
      have hb : (UInt8.ofNat (48 + u % 10)).toNat = 48 + u % 10 := by rw [UInt8.toNat_ofNat']; omega
      simp only [scanL, Rd.byte, hb]
      rw [if_pos (by omega)]
      unfold Rd.take
      rw [if_pos (by omega)]
      unfold Rd.digit
      simp only
      rw [if_neg (by simp), if_neg (by simp), if_neg (by simp; omega), if_neg (by unfold enough; omega)]
      simp
      omega

end Go.Proofs.YtgmecaaogmpakaaDoor
