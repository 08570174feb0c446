/- What the document's Percent answers: as the program's does; and the walk of the law on both. Condition: a text of a hundred bytes at most. -/
import Derived.Test.YtmhblnlbfhfegaaDoorRefParse
namespace Go.Proofs.YtmhblnlbfhfegaaDoor
open Go.RowKit

theorem pct_plain : ∀ k x, look pctM k = some x → ∀ b ∈ k, ¬ isDig b ∧ b.toNat ≠ 46 := by
  intro k x h
  simp only [pctM, look] at h
  unfold isDig
  repeat' (split at h)
  all_goals first | (rename_i e; subst e; decide) | (cases h)

/-- A byte behind a number: it makes a longer suffix, or can't stand. -/
theorem pct_byte {r : Rd} {b : UInt8} (hn : r.num = true) (hb : ¬ isDig b ∧ b.toNat ≠ 46 ∨ r.s ≠ []) : r.byte b 1 pctM = if (look pctM (r.s ++ [b])).isSome then some { r with s := r.s ++ [b] } else none := by
  unfold Rd.byte
  by_cases h : b.toNat < 128
  · rw [if_pos h]
    have e : enc b.toNat = [b] := by rw [enc_ascii _ h]; simp
    by_cases hd : isDig b
    · have hs : r.s ≠ [] := by
        rcases hb with hb | hb
        · exact absurd hd hb.1
        · exact hb
      unfold Rd.take
      rw [if_pos (show 48 ≤ b.toNat ∧ b.toNat ≤ 57 from hd)]
      unfold Rd.digit
      rw [if_pos hs, if_neg]
      intro hl
      obtain ⟨x, hx⟩ := Option.isSome_iff_exists.1 hl
      exact (pct_plain _ x hx b (by simp)).1 hd
    · unfold Rd.take
      rw [if_neg (show ¬ (48 ≤ b.toNat ∧ b.toNat ≤ 57) from hd)]
      by_cases hp : b.toNat = 46
      · have hs : r.s ≠ [] := by
          rcases hb with hb | hb
          · exact absurd hp hb.2
          · exact hb
        rw [if_pos hp]
        unfold Rd.point
        rw [if_pos (.inr (.inr hs)), if_neg]
        intro hl
        obtain ⟨x, hx⟩ := Option.isSome_iff_exists.1 hl
        exact (pct_plain _ x hx b (by simp)).2 hp
      · rw [if_neg hp]
        unfold Rd.suffix
        rw [if_neg (by rw [hn]; simp), e]
  · rw [if_neg h, if_neg]
    intro hl
    obtain ⟨x, hx⟩ := Option.isSome_iff_exists.1 hl
    exact h (pct_ascii _ x hx b (by simp))


theorem pct_one {b : UInt8} {x : Int} (h : look pctM [b] = some x) : b.toNat = 37 := by
  simp only [pctM, look] at h
  repeat' (split at h)
  all_goals first | (cases h; done) | (rename_i e; simp at e; subst e; decide)
theorem pct_two {c b : UInt8} {x : Int} (h : look pctM [c, b] = some x) : False := by
  simp only [pctM, look] at h
  repeat' (split at h)
  all_goals first | (cases h; done) | (rename_i e; simp at e; done)

theorem percent_err {s : ByteArray} {k : Nat} {e : Int} (he : e ≠ 0) (h : readL s 1 pctM = (0, 0, (k : Int), e)) : percentL s = (0, (k : Int), e) := by
  unfold percentL
  rw [h]
  simp only
  rw [if_pos he]
theorem percent_val {s : ByteArray} {X : Int} (h : readL s 1 pctM = (X, 1, 0, 0)) : percentL s = if 1000 < X then (0, 0, 10) else (X, 0, 0) := by
  unfold percentL
  rw [h]
  simp only
  rw [if_neg (by simp), Int.mul_one]

set_option maxRecDepth 100000 in
set_option maxHeartbeats 2000000 in
theorem rpercent_any (s : ByteArray) (w : World) (hs : s.size ≤ 100) :
    Calls Tryd.prog 14 #[.string s] w fun e w' => e = .returned (.tuple #[.int .i64 (percentL s).1, .int .i64 (percentL s).2.1, .int .i64 (percentL s).2.2]) ∧ w = w' := by
  go_enter Tryd.func14, Tryd.ntmps14
  go_wp2_with fail
  refine (whole_any s 1 pctM pct_ascii _ hs).mono ?_
  rintro e w' ⟨n, k, x, rfl, hok, rfl⟩
  rcases hok with ⟨hx, rfl, hrd⟩ | ⟨rfl, hn0, hn1, hst, hnd⟩
  · have hxb : (x != 0) = true := by simpa using hx
    have Hval := Lib.hid (percent_err hx hrd)
    clear hx hrd
    go_wp2
    go_ret3
    exact ⟨ret3I Hval.out.symm, rfl⟩
  · have Hst := Lib.hid hst
    have Hnd := Lib.hid hnd
    clear hst hnd
    go_wp2_with fail
    refine (point_any s 1 k pctM n pct_ascii _ hs (by decide) (by decide) Hst.out Hnd.out).mono ?_
    rintro e w' ⟨f, k2, x, rfl, hok, rfl⟩
    rcases hok with ⟨hx, rfl, hrd⟩ | ⟨rfl, hf0, hf1, r, hst2, hrs, hrn, hrv, hshut⟩
    · have hxb : (x != 0) = true := by simpa using hx
      have Hval := Lib.hid (percent_err hx hrd)
      clear hx hrd
      go_wp2
      go_ret3
      exact ⟨ret3I Hval.out.symm, rfl⟩
    · have hf2 : f < 10 := hf1
      have hks := hst2.1
      have Hst2 := Lib.hid hst2
      have Hrs := Lib.hid hrs
      have Hrn := Lib.hid hrn
      have Hrv := Lib.hid hrv
      have Hsh := Lib.hid hshut
      clear hst2 hrs hrn hrv hshut hf1
      by_cases hk : k2 < s.size
      · have i1 : ¬ (s.size : Int) ≤ (k2 : Int) := by omega
        by_cases hp : s[k2].toNat = 37
        · have hpb : ((s[k2].toNat : Int) != 37) = false := by simp [hp]
          have hl : look pctM [s[k2]] = some 1 := by rw [u8_eq hp]; rfl
          have hst3 : Stands s 1 pctM (k2 + 1) { r with s := [s[k2]] } := by
            refine Hst2.out.step hk ?_
            rw [pct_byte Hrn.out (.inl (pct_plain _ 1 hl s[k2] (by simp))), Hrs.out, List.nil_append, hl]
            rfl
          have Hst3 := Lib.hid hst3
          have Hl := Lib.hid hl
          clear hst3 hl hp
          by_cases hk1 : k2 + 1 < s.size
          · have i2 : (k2 : Int) + 1 < (s.size : Int) := by omega
            have hrd : readL s 1 pctM = (0, 0, ((k2 + 1 : Nat) : Int), 4) := by
              refine Hst3.out.wrong pct_ascii hk1 ?_
              rw [pct_byte (r := { r with s := [s[k2]] }) Hrn.out (.inr (by simp)), if_neg]
              intro h
              obtain ⟨x, hx⟩ := Option.isSome_iff_exists.1 h
              exact pct_two hx
            have Hval := Lib.hid (percent_err (by decide) hrd)
            clear hrd
            go_wp2
            go_ret3
            exact ⟨ret3I (by rw [Hval.out]; rfl), rfl⟩
          · have i2 : ¬ (k2 : Int) + 1 < (s.size : Int) := by omega
            have hrd : readL s 1 pctM = (10 * n + f, 1, 0, 0) := by
              rw [Hst3.out.all pct_ascii (by omega)]
              have hn' : ({ r with s := [s[k2]] } : Rd).num = true := Hrn.out
              rw [hn', Hl.out, Option.getD_some, if_neg (by simp)]
              show (r.v * 10 ^ (1 - r.k), (1 : Int), (0 : Int), (0 : Int)) = _
              rw [Hrv.out]
              congr 1
              omega
            have Hp := Lib.hid (percent_val hrd)
            clear hrd
            by_cases hbig : 1000 < 10 * n + f
            · have Hval : Hid (percentL s = (0, 0, 10)) := by
                show percentL s = _
                rw [Hp.out, if_pos hbig]
              go_wp2
              go_ret3
              exact ⟨ret3I Hval.out.symm, rfl⟩
            · have Hval : Hid (percentL s = (10 * n + f, 0, 0)) := by
                show percentL s = _
                rw [Hp.out, if_neg hbig]
              go_wp2
              go_ret3
              exact ⟨ret3I Hval.out.symm, rfl⟩
        · have hpb : ((s[k2].toNat : Int) != 37) = true := by rw [bne_iff_ne]; omega
          have hrd : readL s 1 pctM = (0, 0, (k2 : Int), 4) := by
            refine Hst2.out.wrong pct_ascii hk ?_
            by_cases hd : isDig s[k2] ∨ s[k2].toNat = 46
            · exact Hsh.out hk hd
            · rw [pct_byte Hrn.out (.inl ⟨fun x => hd (.inl x), fun x => hd (.inr x)⟩), Hrs.out, if_neg]
              intro h
              obtain ⟨x, hx⟩ := Option.isSome_iff_exists.1 h
              exact hp (pct_one hx)
          have Hval := Lib.hid (percent_err (by decide) hrd)
          clear hrd hp
          go_wp2
          go_ret3
          exact ⟨ret3I Hval.out.symm, rfl⟩
      · have i1 : (s.size : Int) ≤ (k2 : Int) := by omega
        have hrd : readL s 1 pctM = (0, 0, (k2 : Int), 3) := by
          rw [Hst2.out.all pct_ascii (by omega), Hrs.out, if_pos (.inr rfl)]
          congr 3
          omega
        have Hval := Lib.hid (percent_err (by decide) hrd)
        clear hrd
        go_wp2
        go_ret3
        exact ⟨ret3I Hval.out.symm, rfl⟩

end Go.Proofs.YtmhblnlbfhfegaaDoor
