/- What Parse and Percent answer, of every text: as a plain function of its bytes. No conditions. -/
import Derived.Test.YtgmecaaogmpakaaDoorReadAll
namespace Go.Proofs.YtgmecaaogmpakaaDoor
open Go.RowKit

theorem scan_ok (s : ByteArray) (P : Nat) (m : List (List UInt8 × Int)) (hm : ∀ k x, look m k = some x → k.length ≤ 100) : ∀ (f pos : Nat) (r r' : Rd) (q : Nat), r.Ok P → scanF s P m f pos r = (some r', q) → r'.Ok P
  | 0, pos, r, r', q, h, hs => by
    simp only [scanF, Prod.mk.injEq, Option.some.injEq] at hs
    obtain ⟨rfl, _⟩ := hs
    exact h
  | f + 1, pos, r, r', q, h, hs => by
    rw [scanF] at hs
    by_cases hp : pos < s.size
    · rw [if_pos hp] at hs
      cases ht : r.take (Utf8.decode s pos).1 P m with
      | none => rw [ht] at hs; simp at hs
      | some r1 =>
        rw [ht] at hs
        exact scan_ok s P m hm f _ r1 r' q (take_ok h hm ht) hs
    · rw [if_neg hp] at hs
      simp only [Prod.mk.injEq, Option.some.injEq] at hs
      obtain ⟨rfl, _⟩ := hs
      exact h

theorem rd0_ok (P : Nat) : rd0.Ok P := ⟨by decide, by simp [rd0], fun _ => rfl, by decide, by simp [rd0]⟩

/-- What is read without an error: the number has all its places, the scale stands in the table. -/
theorem readL_ok {s : ByteArray} {P : Nat} {m : List (List UInt8 × Int)} {v sc a : Int} (hm : ∀ k x, look m k = some x → k.length ≤ 100) (h : readL s P m = (v, sc, a, 0)) :
    0 ≤ v ∧ v < 1125899906842625 * 10 ^ P ∧ sc ≠ 0 ∧ ∃ k, look m k = some sc := by
  unfold readL at h
  split at h
  · cases h
  · rename_i r q hs
    have ho := scan_ok s P m hm _ _ _ _ _ (rd0_ok P) hs
    split at h
    · cases h
    · rename_i hc
      simp only [Prod.mk.injEq] at h
      obtain ⟨rfl, rfl, _, _⟩ := h
      have hv := val_lt ho ho.kP
      have hne : (look m r.s).getD 0 ≠ 0 := fun e => hc (Or.inr e)
      refine ⟨hv.1, hv.2, hne, r.s, ?_⟩
      cases hl : look m r.s with
      | none => rw [hl] at hne; exact absurd rfl hne
      | some x => rfl

theorem suf_len : ∀ k x, look sufM k = some x → k.length ≤ 100 := by
  intro k x h
  simp only [sufM, look] at h
  repeat' (split at h)
  all_goals first | (rename_i e; subst e; decide) | (cases h)
theorem pct_len : ∀ k x, look pctM k = some x → k.length ≤ 100 := by
  intro k x h
  simp only [pctM, look] at h
  repeat' (split at h)
  all_goals first | (rename_i e; subst e; decide) | (cases h)
theorem suf_val {k : List UInt8} {x : Int} (h : look sufM k = some x) : 0 ≤ x ∧ x ≤ 1073741824000 := by
  simp only [sufM, look] at h
  repeat' (split at h)
  all_goals first | (cases h; omega) | (cases h)
theorem pct_val {k : List UInt8} {x : Int} (h : look pctM k = some x) : x = 1 := by
  simp only [pctM, look] at h
  repeat' (split at h)
  all_goals first | (cases h; rfl) | (cases h)

theorem read_is (s : ByteArray) (P M : Nat) (m : List (List UInt8 × Int)) (w : World) (v sc a e0 : Int) (hq : readL s P m = (v, sc, a, e0)) (hM : MapAt w M m) (hm : ∀ k x, look m k = some x → k.length ≤ 100) (hP : P ≤ 3) :
    Calls Tryd.prog 63 #[.string s, .agg #[.int .i64 (P : Int), .map (some M)]] w fun e w' =>
      e = .returned (.tuple #[.int .i64 v, .int .i64 sc, .int .i64 a, .int .i64 e0]) ∧ Below w.heap.size w w' := by
  have h := read_any s P M m w hM hm hP
  rw [hq] at h
  exact h

/-- Number, place, error. -/
def parseL (s : ByteArray) (milli : Bool) : Int × Int × Int :=
  match readL s 3 sufM with
  | (v, sc, a, e) => if e ≠ 0 then (0, a, e) else
    let c := if milli then sc * 1000 else sc
    if 1099511627776000000 / c < v then (0, 0, 10) else if v * c % 1000000 ≠ 0 then (0, 0, 4) else (v * c / 1000000, 0, 0)

def percentL (s : ByteArray) : Int × Int × Int :=
  match readL s 1 pctM with
  | (v, sc, a, e) => if e ≠ 0 then (0, a, e) else if 1000 < v * sc then (0, 0, 10) else (v * sc, 0, 0)

theorem ret3I {a b c a' b' c' : Int} (h : (a, b, c) = (a', b', c')) : Ending.returned (.tuple #[.int .i64 a, .int .i64 b, .int .i64 c]) = .returned (.tuple #[.int .i64 a', .int .i64 b', .int .i64 c']) := by
  simp only [Prod.mk.injEq] at h
  obtain ⟨rfl, rfl, rfl⟩ := h
  rfl

set_option maxHeartbeats 1000000 in
theorem parse_any (s : ByteArray) (milli : Bool) (w : World) :
    Calls Tryd.prog 58 #[.string s, .bool milli] w fun e w' =>
      e = .returned (.tuple #[.int .i64 (parseL s milli).1, .int .i64 (parseL s milli).2.1, .int .i64 (parseL s milli).2.2]) ∧ Below w.heap.size w w' := by
  rcases hq : readL s 3 sufM with ⟨v, sc, a, e0⟩
  have Hq := Lib.hid hq
  clear hq
  by_cases he : e0 = 0
  · subst he
    obtain ⟨hv0, hv1, hsc, k, hk⟩ := readL_ok suf_len Hq.out
    have hs1 := suf_val hk
    have hp : 0 < sc := by omega
    have hv2 : v < 1125899906842625000 := by omega
    clear hk hsc hv1
    obtain ⟨c, hc⟩ : ∃ c, c = if milli then sc * 1000 else sc := ⟨_, rfl⟩
    have hcp : 0 < c := by subst hc; split <;> omega
    have hq : 1099511627776000000 / c < v ↔ 1099511627776000000 < v * c := Int.ediv_lt_iff_lt_mul hcp
    have hge : 0 ≤ v * c := Int.mul_nonneg hv0 (Int.le_of_lt hcp)
    have Hval : Hid (parseL s milli = if 1099511627776000000 / c < v then (0, 0, 10) else if v * c % 1000000 ≠ 0 then (0, 0, 4) else (v * c / 1000000, 0, 0)) := by
      show parseL s milli = _
      unfold parseL
      rw [Hq.out]
      simp only [hc]
      rfl
    have Hqq := Lib.hid hq
    clear hq
    by_cases h1 : 1099511627776000000 / c < v
    · cases milli
      · obtain rfl : c = sc := hc
        go_enter Tryd.func58, Tryd.ntmps58
        go_wp2_with fail
        refine (suffixes_any _).mono ?_
        rintro e w' ⟨rfl, rfl⟩
        go_wp2_with fail
        refine (read_is s 3 w.heap.size sufM _ v c a 0 Hq.out (lay_at w sufM) suf_len (by omega)).mono ?_
        rintro e w' ⟨rfl, hb⟩
        have Hb := Lib.hid hb
        clear hb
        go_wp2
        go_ret3
        exact ⟨ret3I (by rw [Hval.out, if_pos h1]), (lay_below w sufM).trans (Hb.out.mono (by rw [lay_size]; omega))⟩
      · have hcm : sc * 1000 = c := hc.symm
        clear hc
        go_enter Tryd.func58, Tryd.ntmps58
        go_wp2_with fail
        refine (suffixes_any _).mono ?_
        rintro e w' ⟨rfl, rfl⟩
        go_wp2_with fail
        refine (read_is s 3 w.heap.size sufM _ v sc a 0 Hq.out (lay_at w sufM) suf_len (by omega)).mono ?_
        rintro e w' ⟨rfl, hb⟩
        have Hb := Lib.hid hb
        clear hb
        go_wp2
        go_ret3
        exact ⟨ret3I (by rw [Hval.out, if_pos h1]), (lay_below w sufM).trans (Hb.out.mono (by rw [lay_size]; omega))⟩
    · have hle : v * c ≤ 1099511627776000000 := by have := mt Hqq.out.2 h1; omega
      by_cases h2 : v * c % 1000000 = 0
      · have h2b : (v * c % 1000000 != 0) = false := by simp [h2]
        have H2 := Lib.hid h2
        clear h2
        cases milli
        · obtain rfl : c = sc := hc
          go_enter Tryd.func58, Tryd.ntmps58
          go_wp2_with fail
          refine (suffixes_any _).mono ?_
          rintro e w' ⟨rfl, rfl⟩
          go_wp2_with fail
          refine (read_is s 3 w.heap.size sufM _ v c a 0 Hq.out (lay_at w sufM) suf_len (by omega)).mono ?_
          rintro e w' ⟨rfl, hb⟩
          have Hb := Lib.hid hb
          clear hb
          go_wp2
          go_ret3
          exact ⟨ret3I (by rw [Hval.out, if_neg (Int.not_lt.2 h1), if_neg (by rw [H2.out]; simp)]), (lay_below w sufM).trans (Hb.out.mono (by rw [lay_size]; omega))⟩
        · have hcm : sc * 1000 = c := hc.symm
          clear hc
          go_enter Tryd.func58, Tryd.ntmps58
          go_wp2_with fail
          refine (suffixes_any _).mono ?_
          rintro e w' ⟨rfl, rfl⟩
          go_wp2_with fail
          refine (read_is s 3 w.heap.size sufM _ v sc a 0 Hq.out (lay_at w sufM) suf_len (by omega)).mono ?_
          rintro e w' ⟨rfl, hb⟩
          have Hb := Lib.hid hb
          clear hb
          go_wp2
          go_ret3
          exact ⟨ret3I (by rw [Hval.out, if_neg (Int.not_lt.2 h1), if_neg (by rw [H2.out]; simp)]), (lay_below w sufM).trans (Hb.out.mono (by rw [lay_size]; omega))⟩
      · have h2b : (v * c % 1000000 != 0) = true := by simpa using h2
        have H2 := Lib.hid h2
        clear h2
        cases milli
        · obtain rfl : c = sc := hc
          go_enter Tryd.func58, Tryd.ntmps58
          go_wp2_with fail
          refine (suffixes_any _).mono ?_
          rintro e w' ⟨rfl, rfl⟩
          go_wp2_with fail
          refine (read_is s 3 w.heap.size sufM _ v c a 0 Hq.out (lay_at w sufM) suf_len (by omega)).mono ?_
          rintro e w' ⟨rfl, hb⟩
          have Hb := Lib.hid hb
          clear hb
          go_wp2
          go_ret3
          exact ⟨ret3I (by rw [Hval.out, if_neg (Int.not_lt.2 h1), if_pos H2.out]), (lay_below w sufM).trans (Hb.out.mono (by rw [lay_size]; omega))⟩
        · have hcm : sc * 1000 = c := hc.symm
          clear hc
          go_enter Tryd.func58, Tryd.ntmps58
          go_wp2_with fail
          refine (suffixes_any _).mono ?_
          rintro e w' ⟨rfl, rfl⟩
          go_wp2_with fail
          refine (read_is s 3 w.heap.size sufM _ v sc a 0 Hq.out (lay_at w sufM) suf_len (by omega)).mono ?_
          rintro e w' ⟨rfl, hb⟩
          have Hb := Lib.hid hb
          clear hb
          go_wp2
          go_ret3
          exact ⟨ret3I (by rw [Hval.out, if_neg (Int.not_lt.2 h1), if_pos H2.out]), (lay_below w sufM).trans (Hb.out.mono (by rw [lay_size]; omega))⟩
  · have heb : (e0 != 0) = true := by simpa using he
    have Hval : Hid (parseL s milli = (0, a, e0)) := by
      show parseL s milli = _
      unfold parseL
      rw [Hq.out]
      simp only [if_pos he]
    have He := Lib.hid he
    clear he
    go_enter Tryd.func58, Tryd.ntmps58
    go_wp2_with fail
    refine (suffixes_any _).mono ?_
    rintro e w' ⟨rfl, rfl⟩
    go_wp2_with fail
    refine (read_is s 3 w.heap.size sufM _ v sc a e0 Hq.out (lay_at w sufM) suf_len (by omega)).mono ?_
    rintro e w' ⟨rfl, hb⟩
    have Hb := Lib.hid hb
    clear hb
    go_wp2
    go_ret3
    exact ⟨ret3I (by rw [Hval.out]), (lay_below w sufM).trans (Hb.out.mono (by rw [lay_size]; omega))⟩

end Go.Proofs.YtgmecaaogmpakaaDoor
