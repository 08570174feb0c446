/- Where a text is wrong: at a rune's first byte, or at the end, behind a beginning of a quantity's text: plain words on lists. No conditions. -/
import Derived.Test.YtmhblnlbfhfegaaDoorRefSuffix
import Derived.Lib.ValidU
import Derived.Lib.TrimAscii
namespace Go.Proofs.YtmhblnlbfhfegaaDoor
open Go.RowKit

/-- What every reading keeps to. -/
structure Rd.Fine (r : Rd) : Prop where
  l : (look sufM r.s).isSome = true
  pb : r.p = true → r.b = true
  sn : r.s ≠ [] → r.num = true
  kp : r.num = false → r.b = true → r.p = true ∧ r.k = 0

theorem num_iff (r : Rd) : r.num = true ↔ r.b = true ∧ (r.p = false ∨ 0 < r.k) := by
  unfold Rd.num
  cases r.b <;> cases r.p <;> simp

theorem byte_fine {r r' : Rd} {b : UInt8} (h : r.Fine) (hb : r.byte b 3 sufM = some r') : r'.Fine ∧ r'.b = true ∧ b.toNat < 128 := by
  unfold Rd.byte at hb
  by_cases ha : b.toNat < 128
  · rw [if_pos ha] at hb
    unfold Rd.take at hb
    by_cases hd : 48 ≤ b.toNat ∧ b.toNat ≤ 57
    · rw [if_pos hd] at hb
      unfold Rd.digit at hb
      by_cases hs : r.s ≠ []
      · rw [if_pos hs] at hb; cases hb
      · rw [if_neg hs] at hb
        have hs' : r.s = [] := by simpa using hs
        by_cases hp : r.p = true
        · rw [if_pos hp] at hb
          by_cases hk : r.k = 3
          · rw [if_pos hk] at hb; cases hb
          · rw [if_neg hk] at hb
            cases hb
            have hbt := h.pb hp
            refine ⟨⟨h.l, fun _ => hbt, fun x => absurd hs' x, ?_⟩, hbt, ha⟩
            intro hn _
            have : ({ r with k := r.k + 1, v := r.v * 10 + ((b.toNat : Int) - 48) } : Rd).num = true := (num_iff _).2 ⟨hbt, .inr (Nat.succ_pos _)⟩
            rw [this] at hn
            cases hn
        · rw [if_neg hp] at hb
          have hp' : r.p = false := by simpa using hp
          by_cases hz : r.b = true ∧ r.v = 0
          · rw [if_pos hz] at hb; cases hb
          · rw [if_neg hz] at hb
            cases hb
            refine ⟨⟨h.l, fun _ => rfl, fun x => absurd hs' x, ?_⟩, rfl, ha⟩
            intro hn _
            have : ({ r with b := true, v := if r.v * 10 + ((b.toNat : Int) - 48) > enough then enough else r.v * 10 + ((b.toNat : Int) - 48) } : Rd).num = true := (num_iff _).2 ⟨rfl, .inl hp'⟩
            rw [this] at hn
            cases hn
    · rw [if_neg hd] at hb
      by_cases hc : b.toNat = 46
      · rw [if_pos hc] at hb
        unfold Rd.point at hb
        by_cases hx : r.b = false ∨ r.p = true ∨ r.s ≠ []
        · rw [if_pos hx] at hb; cases hb
        · rw [if_neg hx] at hb
          cases hb
          have hbt : r.b = true := by
            cases h' : r.b with
            | true => rfl
            | false => exact absurd (.inl h') hx
          have hs' : r.s = [] := by
            cases h' : r.s with
            | nil => rfl
            | cons a t => exact absurd (.inr (.inr (by rw [h']; simp))) hx
          have hp' : r.p = false := by
            cases h' : r.p with
            | false => rfl
            | true => exact absurd (.inr (.inl h')) hx
          refine ⟨⟨h.l, fun _ => hbt, fun x => absurd hs' x, fun hn _ => ⟨rfl, ?_⟩⟩, hbt, ha⟩
          show r.k = 0
          rcases Nat.eq_zero_or_pos r.k with h0 | h0
          · exact h0
          · have : ({ r with p := true } : Rd).num = true := (num_iff _).2 ⟨hbt, .inr h0⟩
            rw [this] at hn
            cases hn
      · rw [if_neg hc] at hb
        unfold Rd.suffix at hb
        by_cases hn : r.num = false
        · rw [if_pos hn] at hb; cases hb
        · rw [if_neg hn] at hb
          have hn' : r.num = true := by simpa using hn
          by_cases hl : (look sufM (r.s ++ enc b.toNat)).isSome = true
          · rw [if_pos hl] at hb
            cases hb
            have hbt := ((num_iff r).1 hn').1
            refine ⟨⟨hl, h.pb, fun _ => hn', ?_⟩, hbt, ha⟩
            intro hx _
            have : ({ r with s := r.s ++ enc b.toNat } : Rd).num = true := hn'
            rw [this] at hx
            cases hx
          · rw [if_neg hl] at hb; cases hb
  · rw [if_neg ha] at hb; cases hb

theorem rd0_fine : rd0.Fine := ⟨rfl, (fun h => by cases h), (fun h => absurd rfl h), (fun _ h => by cases h)⟩

/-- What a whole reading leaves. -/
theorem scan_fine : ∀ (l : List UInt8) (pos q : Nat) (r r' : Rd), r.Fine → scanL 3 sufM l pos r = (some r', q) → r'.Fine ∧ (l ≠ [] → r'.b = true) ∧ ∀ b ∈ l, b.toNat < 128
  | [], pos, q, r, r', h, hs => by
    simp only [scanL, Prod.mk.injEq, Option.some.injEq] at hs
    obtain ⟨rfl, _⟩ := hs
    exact ⟨h, fun x => absurd rfl x, fun b hb => by cases hb⟩
  | b :: t, pos, q, r, r', h, hs => by
    rw [scanL] at hs
    cases hb : r.byte b 3 sufM with
    | none => rw [hb] at hs; simp at hs
    | some r1 =>
      rw [hb] at hs
      obtain ⟨h1, h2, h3⟩ := byte_fine h hb
      obtain ⟨k1, k2, k3⟩ := scan_fine t (pos + 1) q r1 r' h1 hs
      refine ⟨k1, fun _ => ?_, ?_⟩
      · cases t with
        | nil =>
          simp only [scanL, Prod.mk.injEq, Option.some.injEq] at hs
          obtain ⟨rfl, _⟩ := hs
          exact h2
        | cons a t => exact k2 (by simp)
      · intro x hx
        rcases List.mem_cons.1 hx with rfl | hx
        · exact h3
        · exact k3 x hx

/-- A reading that fails: behind so many bytes. -/
theorem scan_none : ∀ (l : List UInt8) (pos q : Nat) (r : Rd), scanL 3 sufM l pos r = (none, q) → ∃ j r', q = pos + j ∧ j < l.length ∧ scanL 3 sufM (l.take j) pos r = (some r', q)
  | [], pos, q, r, hs => by simp [scanL] at hs
  | b :: t, pos, q, r, hs => by
    rw [scanL] at hs
    cases hb : r.byte b 3 sufM with
    | none =>
      rw [hb] at hs
      simp only [Prod.mk.injEq, true_and] at hs
      exact ⟨0, r, by omega, by simp, by simp [scanL, hs]⟩
    | some r1 =>
      rw [hb] at hs
      obtain ⟨j, r', h1, h2, h3⟩ := scan_none t (pos + 1) q r1 hs
      refine ⟨j + 1, r', by omega, by simp; omega, ?_⟩
      simp only [List.take_succ_cons, scanL, hb]
      exact h3

/-- What Parse answers of a text that is whole. -/
def WholeAns (x : Int × Int × Int) : Prop := x.2.2 = 0 ∨ x.2.2 = 10 ∨ (x.2.2 = 4 ∧ x.2.1 = 0)

theorem whole_ans (l : List UInt8) (milli : Bool) (r : Rd) (sc : Int) (hs : (scanL 3 sufM l 0 rd0).1 = some r) (hn : r.num = true) (hl : look sufM r.s = some sc) (hz : sc ≠ 0) : WholeAns (parseL ⟨l.toArray⟩ milli) := by
  obtain ⟨c, hc⟩ : ∃ c, (if milli = true then sc * 1000 else sc) = c := ⟨_, rfl⟩
  obtain ⟨x, hx⟩ : ∃ x, r.v * 10 ^ (3 - r.k) = x := ⟨_, rfl⟩
  rw [parse_whole l milli r sc c x hs hn hl hz hc hx]
  unfold WholeAns
  by_cases h1 : 1099511627776000000 / c < x
  · rw [if_pos h1]
    exact .inr (.inl rfl)
  · rw [if_neg h1]
    by_cases h2 : x * c % 1000000 ≠ 0
    · rw [if_pos h2]
      exact .inr (.inr ⟨rfl, rfl⟩)
    · rw [if_neg h2]
      exact .inl rfl

/-- What the law puts behind a beginning. -/
def moreL : List (List UInt8) := [[], [48], [105], [49]]

/-- A beginning is whole, or goes on with a 0, or an i. -/
theorem begins (p : List UInt8) (milli : Bool) (r : Rd) (q : Nat) (hp : p ≠ []) (hs : scanL 3 sufM p 0 rd0 = (some r, q)) :
    ∃ i, ∃ h : i < moreL.length, WholeAns (parseL ⟨(p ++ moreL[i]).toArray⟩ milli) := by
  obtain ⟨hf, hb, _⟩ := scan_fine p 0 q rd0 r rd0_fine hs
  have hb := hb hp
  cases hn : r.num with
  | false =>
    obtain ⟨h1, h2⟩ := hf.kp hn hb
    have hsn : r.s = [] := by
      cases h' : r.s with
      | nil => rfl
      | cons a t => have := hf.sn (by rw [h']; simp); rw [this] at hn; cases hn
    refine ⟨1, by decide, ?_⟩
    show WholeAns (parseL ⟨(p ++ [48]).toArray⟩ milli)
    obtain ⟨v, b, pp, k, s⟩ := r
    simp only at hb h1 h2 hsn
    subst hb h1 h2 hsn
    have hst := place_step (v := v) (j := 0) (P := 3) (b := 48) (m := sufM) (by unfold isDig; decide) (by decide)
    refine whole_ans _ milli ⟨v * 10 + (((48 : UInt8).toNat : Int) - 48), true, true, 1, []⟩ 1000 ?_ rfl rfl (by decide)
    rw [scan_append, hs]
    simp only [scanL, hst]
  | true =>
    obtain ⟨sc, hl⟩ := Option.isSome_iff_exists.1 hf.l
    by_cases hz : sc = 0
    · subst hz
      have hK : r.s = [75] := by
        simp only [sufM, look] at hl
        repeat' (split at hl)
        all_goals first | (cases hl; done) | assumption
      refine ⟨2, by decide, ?_⟩
      show WholeAns (parseL ⟨(p ++ [105]).toArray⟩ milli)
      refine whole_ans _ milli { r with s := [75, 105] } 1024000 ?_ hn rfl (by decide)
      have h2 := scan_suf1 3 sufM 105 q r 1024000 (by decide) (by decide) (by decide) hn (by rw [hK]; rfl) []
      rw [scan_append, hs]
      simp only
      rw [h2, hK]
      rfl
    · refine ⟨0, by decide, ?_⟩
      show WholeAns (parseL ⟨(p ++ []).toArray⟩ milli)
      rw [List.append_nil]
      exact whole_ans p milli r sc (by rw [hs]) hn hl hz

/-- A continuation byte behind ASCII bytes: no UTF-8. -/
theorem decode_cont (c : UInt8) (t : List UInt8) (h1 : 128 ≤ c.toNat) (h2 : c.toNat < 192) : Lib.decodeL (c :: t) = (65533, 1) := by
  have e : (⟨(c :: t).toArray⟩ : ByteArray).get! (0 + 0) = c := rfl
  unfold Lib.decodeL Utf8.decode
  simp only [e]
  rw [if_neg (by omega), if_neg (by simp; omega), if_neg (by simp; omega), if_neg (by simp; omega)]
  rfl

theorem not_valid : ∀ (p : List UInt8) (c : UInt8) (t : List UInt8) (n : Nat), (∀ b ∈ p, b.toNat < 128) → 128 ≤ c.toNat → c.toNat < 192 → p.length < n → Lib.validGoD n (p ++ c :: t) = false
  | [], c, t, n, hp, h1, h2, hn => by
    obtain ⟨n, rfl⟩ : ∃ m, n = m + 1 := ⟨n - 1, by omega⟩
    simp only [List.nil_append, Lib.validGoD]
    rw [if_neg (by simp), decode_cont c t h1 h2, if_pos ⟨rfl, rfl⟩]
  | b :: p, c, t, n, hp, h1, h2, hn => by
    obtain ⟨n, rfl⟩ : ∃ m, n = m + 1 := ⟨n - 1, by simp at hn; omega⟩
    have hb := hp b (by simp)
    simp only [List.cons_append, Lib.validGoD]
    rw [if_neg (by simp), Lib.decodeL_ascii b _ hb, if_neg (by simp; omega)]
    exact not_valid p c t n (fun x hx => hp x (by simp [hx])) h1 h2 (by simp at hn; omega)

theorem scan_len (P : Nat) (m : List (List UInt8 × Int)) : ∀ (l : List UInt8) (pos : Nat) (r r' : Rd) (q : Nat), scanL P m l pos r = (some r', q) → q = pos + l.length
  | [], pos, r, r', q, h => by simp [scanL] at h; simp [h.2]
  | b :: t, pos, r, r', q, h => by
    rw [scanL] at h
    cases hb : r.byte b P m with
    | none => rw [hb] at h; simp at h
    | some r1 =>
      rw [hb] at h
      have := scan_len P m t (pos + 1) r1 r' q h
      simp only [List.length_cons]
      omega

/-- Where Parse says that a text is wrong. -/
theorem where_wrong (l : List UInt8) (milli : Bool) (n : Int) (a : Nat) (e : Int) (h : parseL ⟨l.toArray⟩ milli = (n, (a : Int), e)) (he : e ≠ 0) (he2 : e ≠ 10) (ha : 0 < a) :
    a ≤ l.length ∧ (e = 3 → a = l.length) ∧ (∃ r, scanL 3 sufM (l.take a) 0 rd0 = (some r, a)) ∧ (e = 3 ∨ e = 4) := by
  unfold parseL at h
  rcases hq : readL ⟨l.toArray⟩ 3 sufM with ⟨v, sc, a', e'⟩
  rw [hq] at h
  simp only at h
  by_cases hz : e' = 0
  · rw [if_neg (by simpa using hz)] at h
    generalize (if milli = true then sc * 1000 else sc) = c at h
    by_cases h1 : 1099511627776000000 / c < v
    · rw [if_pos h1] at h
      simp only [Prod.mk.injEq] at h
      exact absurd h.2.2.symm he2
    · rw [if_neg h1] at h
      by_cases h2 : v * c % 1000000 ≠ 0
      · rw [if_pos h2] at h
        simp only [Prod.mk.injEq] at h
        omega
      · rw [if_neg h2] at h
        simp only [Prod.mk.injEq] at h
        exact absurd h.2.2.symm he
  · rw [if_pos hz] at h
    simp only [Prod.mk.injEq] at h
    obtain ⟨_, h2, h3⟩ := h
    subst h3
    rw [read_list l 3 sufM suf_ascii] at hq
    rcases hs : scanL 3 sufM l 0 rd0 with ⟨o, q⟩
    rw [hs] at hq
    cases o with
    | none =>
      simp only [Prod.mk.injEq] at hq
      obtain ⟨_, _, hq1, hq2⟩ := hq
      obtain ⟨j, r', hj, hjl, hsc⟩ := scan_none l 0 q rd0 hs
      obtain rfl : q = a := by omega
      obtain rfl : j = q := by omega
      exact ⟨by omega, by omega, ⟨r', hsc⟩, .inr (by omega)⟩
    | some r =>
      simp only at hq
      have hp := (scan_pos 3 sufM l 0 rd0)
      rw [hs] at hp
      split at hq
      · simp only [Prod.mk.injEq] at hq
        obtain ⟨_, _, hq1, hq2⟩ := hq
        have hal : a = l.length := by omega
        have hqa : q = a := by
          have := scan_len 3 sufM l 0 rd0 r q hs
          omega
        refine ⟨by omega, fun _ => hal, ⟨r, ?_⟩, .inl (by omega)⟩
        rw [hal, List.take_length, hs, hqa, hal]
      · simp only [Prod.mk.injEq] at hq
        omega

end Go.Proofs.YtmhblnlbfhfegaaDoor
