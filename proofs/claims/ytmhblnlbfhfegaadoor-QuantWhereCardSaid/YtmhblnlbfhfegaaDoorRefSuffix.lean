/- What the document's look at a suffix comes to: what is read of the whole text, or where it is wrong. Condition: a text of a hundred bytes at most. -/
import Derived.Test.YtmhblnlbfhfegaaDoorRefPoint
namespace Go.Proofs.YtmhblnlbfhfegaaDoor
open Go.RowKit

theorem suf_plain : ∀ k x, look sufM k = some x → ∀ b ∈ k, ¬ isDig b ∧ b.toNat ≠ 46 := by
  intro k x h
  simp only [sufM, look] at h
  unfold isDig
  repeat' (split at h)
  all_goals first | (rename_i e; subst e; decide) | (cases h)

/-- A byte behind a number: it makes a longer suffix, or can't stand. -/
theorem suf_byte {r : Rd} {b : UInt8} (hn : r.num = true) (hb : ¬ isDig b ∧ b.toNat ≠ 46 ∨ r.s ≠ []) : r.byte b 3 sufM = if (look sufM (r.s ++ [b])).isSome then some { r with s := r.s ++ [b] } else none := by
  unfold Rd.byte
  by_cases h : b.toNat < 128
  · rw [if_pos h]
    have e : enc b.toNat = [b] := by rw [enc_ascii _ h]; simp
    by_cases hd : isDig b
    · have hs : r.s ≠ [] := by
        rcases hb with hb | hb
        · exact absurd hd hb.1
        · exact hb
      unfold Rd.take
      rw [if_pos (show 48 ≤ b.toNat ∧ b.toNat ≤ 57 from hd)]
      unfold Rd.digit
      rw [if_pos hs, if_neg]
      intro hl
      obtain ⟨x, hx⟩ := Option.isSome_iff_exists.1 hl
      exact (suf_plain _ x hx b (by simp)).1 hd
    · unfold Rd.take
      rw [if_neg (show ¬ (48 ≤ b.toNat ∧ b.toNat ≤ 57) from hd)]
      by_cases hp : b.toNat = 46
      · have hs : r.s ≠ [] := by
          rcases hb with hb | hb
          · exact absurd hp hb.2
          · exact hb
        rw [if_pos hp]
        unfold Rd.point
        rw [if_pos (.inr (.inr hs)), if_neg]
        intro hl
        obtain ⟨x, hx⟩ := Option.isSome_iff_exists.1 hl
        exact (suf_plain _ x hx b (by simp)).2 hp
      · rw [if_neg hp]
        unfold Rd.suffix
        rw [if_neg (by rw [hn]; simp), e]
  · rw [if_neg h, if_neg]
    intro hl
    obtain ⟨x, hx⟩ := Option.isSome_iff_exists.1 hl
    exact h (suf_ascii _ x hx b (by simp))

theorem u8_eq {b : UInt8} {n : Nat} (h : b.toNat = n) : b = UInt8.ofNat n := by
  rw [← h]
  simp

/-- What stands at a place, as the walk asks it. -/
theorem look_one {b : UInt8} {x : Int} (h : look sufM [b] = some x) : b.toNat = 109 ∨ b.toNat = 107 ∨ b.toNat = 77 ∨ b.toNat = 71 ∨ b.toNat = 75 := by
  simp only [sufM, look] at h
  repeat' (split at h)
  all_goals first | (cases h; done) | (rename_i e; simp at e; done) | (rename_i e; simp at e; subst e; decide)
theorem look_two {c b : UInt8} {x : Int} (h : look sufM [c, b] = some x) : b.toNat = 105 ∧ (c.toNat = 75 ∨ c.toNat = 77 ∨ c.toNat = 71) := by
  simp only [sufM, look] at h
  repeat' (split at h)
  all_goals first | (cases h; done) | (rename_i e; simp at e; done) | (rename_i e; simp at e; obtain ⟨rfl, rfl⟩ := e; decide)
theorem look_three {c b d : UInt8} {x : Int} (h : look sufM [c, b, d] = some x) : False := by
  simp only [sufM, look] at h
  repeat' (split at h)
  all_goals first | (cases h; done) | (rename_i e; simp at e; done)

def SufOk (s : ByteArray) (r : Rd) (sc : Int) (k : Nat) (e : Int) : Prop :=
  (e ≠ 0 ∧ sc = 0 ∧ readL s 3 sufM = (0, 0, (k : Int), e)) ∨ (e = 0 ∧ 1 ≤ sc ∧ sc ≤ 1073741824000 ∧ readL s 3 sufM = (r.v * 10 ^ (3 - r.k), sc, 0, 0))
def SufPost (s : ByteArray) (r : Rd) (w : World) (e : Ending) (w' : World) : Prop :=
  ∃ (sc : Int) (k : Nat) (x : Int), e = .returned (.tuple #[.int .i64 sc, .int .i64 (k : Int), .int .i64 x]) ∧ SufOk s r sc k x ∧ w = w'

section
variable {s : ByteArray} {k : Nat} {r : Rd} {c : UInt8}
theorem suf_first (h : Stands s 3 sufM k r) (hk : k < s.size) (hs : r.s = []) (hn : r.num = true) (x : Int) (hl : look sufM [s[k]] = some x) : Stands s 3 sufM (k + 1) { r with s := [s[k]] } := by
  have hp := suf_plain _ x hl s[k] (by simp)
  refine h.step hk ?_
  rw [suf_byte hn (.inl hp), hs, List.nil_append, hl]
  rfl
theorem suf_second (h : Stands s 3 sufM (k + 1) { r with s := [c] }) (hk : k + 1 < s.size) (hn : r.num = true) (x : Int) (hl : look sufM [c, s[k + 1]] = some x) : Stands s 3 sufM (k + 2) { r with s := [c, s[k + 1]] } := by
  refine h.step hk ?_
  rw [suf_byte (r := { r with s := [c] }) hn (.inr (by simp))]
  show (if (look sufM [c, s[k + 1]]).isSome then _ else _) = _
  rw [hl]
  rfl
theorem suf_wrong1 (h : Stands s 3 sufM (k + 1) { r with s := [c] }) (hk : k + 1 < s.size) (hn : r.num = true) (hno : ¬ (s[k + 1].toNat = 105 ∧ (c.toNat = 75 ∨ c.toNat = 77 ∨ c.toNat = 71))) : readL s 3 sufM = (0, 0, ((k + 1 : Nat) : Int), 4) := by
  refine h.wrong suf_ascii hk ?_
  rw [suf_byte (r := { r with s := [c] }) hn (.inr (by simp)), if_neg]
  intro hl
  obtain ⟨x, hx⟩ := Option.isSome_iff_exists.1 hl
  exact hno (look_two hx)
theorem suf_wrong2 {c d : UInt8} (h : Stands s 3 sufM (k + 2) { r with s := [c, d] }) (hk : k + 2 < s.size) (hn : r.num = true) : readL s 3 sufM = (0, 0, ((k + 2 : Nat) : Int), 4) := by
  refine h.wrong suf_ascii hk ?_
  rw [suf_byte (r := { r with s := [c, d] }) hn (.inr (by simp)), if_neg]
  intro hl
  obtain ⟨x, hx⟩ := Option.isSome_iff_exists.1 hl
  exact look_three hx
theorem suf_wrong0 (h : Stands s 3 sufM k r) (hk : k < s.size) (hs : r.s = []) (hn : r.num = true) (hsh : Shut s 3 sufM k r) (hno : s[k].toNat ≠ 109 ∧ s[k].toNat ≠ 107 ∧ s[k].toNat ≠ 77 ∧ s[k].toNat ≠ 71 ∧ s[k].toNat ≠ 75) : readL s 3 sufM = (0, 0, (k : Int), 4) := by
  refine h.wrong suf_ascii hk ?_
  by_cases hd : isDig s[k] ∨ s[k].toNat = 46
  · exact hsh hk hd
  · rw [suf_byte hn (.inl ⟨fun x => hd (.inl x), fun x => hd (.inr x)⟩), hs, if_neg]
    intro hl
    obtain ⟨x, hx⟩ := Option.isSome_iff_exists.1 hl
    rcases look_one hx with e | e | e | e | e
    · exact hno.1 e
    · exact hno.2.1 e
    · exact hno.2.2.1 e
    · exact hno.2.2.2.1 e
    · exact hno.2.2.2.2 e
theorem suf_all {t : List UInt8} {j : Nat} (h : Stands s 3 sufM j { r with s := t }) (hj : j = s.size) (hn : r.num = true) (sc : Int) (hl : look sufM t = some sc) (hz : sc ≠ 0) : readL s 3 sufM = (r.v * 10 ^ (3 - r.k), sc, 0, 0) := by
  rw [h.all suf_ascii hj]
  have hn' : ({ r with s := t } : Rd).num = true := hn
  rw [hn', hl, Option.getD_some, if_neg (by simp; exact hz)]
theorem suf_trunc {t : List UInt8} {j : Nat} (h : Stands s 3 sufM j { r with s := t }) (hj : j = s.size) (hl : look sufM t = some 0) : readL s 3 sufM = (0, 0, (j : Int), 3) := by
  rw [h.all suf_ascii hj, hl, if_pos (.inr rfl), hj]
end

set_option maxRecDepth 10000 in
set_option maxHeartbeats 4000000 in
theorem suffix_any (s : ByteArray) (k : Nat) (r : Rd) (w : World) (hs : s.size ≤ 100) (hS : Stands s 3 sufM k r) (hr : r.s = []) (hn : r.num = true) (hsh : Shut s 3 sufM k r) :
    Calls Tryd.prog 37 #[.string s, .int .i64 (k : Int)] w (SufPost s r w) := by
  have hks := hS.1
  have HS := Lib.hid hS
  have Hr := Lib.hid hr
  have Hn := Lib.hid hn
  have Hsh := Lib.hid hsh
  clear hS hr hn hsh
  by_cases hk : k < s.size
  · have i1 : ¬ (s.size : Int) ≤ (k : Int) := by omega
    by_cases c109 : s[k].toNat = 109
    · have hc := c109
      have e109 : ((s[k].toNat : Int) == 109) = true := by simp [hc]
      have e107 : ((s[k].toNat : Int) == 107) = false := by rw [beq_eq_false_iff_ne]; omega
      have e75 : ((s[k].toNat : Int) == 75) = false := by rw [beq_eq_false_iff_ne]; omega
      have e77 : ((s[k].toNat : Int) == 77) = false := by rw [beq_eq_false_iff_ne]; omega
      have e71 : ((s[k].toNat : Int) == 71) = false := by rw [beq_eq_false_iff_ne]; omega
      have f109 : ((s[k].toNat : Int) != 109) = false := by simp [hc]
      have f107 : ((s[k].toNat : Int) != 107) = true := by rw [bne_iff_ne]; omega
      have hl1 : look sufM [s[k]] = some 1 := by rw [u8_eq hc]; rfl
      have Hf := Lib.hid (suf_first HS.out hk Hr.out Hn.out _ hl1)
      have Hl1 := Lib.hid hl1
      have Hc := Lib.hid hc
      clear hc hl1 c109
      by_cases hk1 : k + 1 < s.size
      · have i2 : (k : Int) + 1 < (s.size : Int) := by omega
        have i2b : ((k : Int) + 1 == (s.size : Int)) = false := by rw [beq_eq_false_iff_ne]; omega
        by_cases hi : s[k + 1].toNat = 105
        · have ib : ((s[k + 1].toNat : Int) == 105) = true := by simp [hi]
          have Hw := Lib.hid (suf_wrong1 Hf.out hk1 Hn.out (by rintro ⟨_, h⟩; have := Hc.out; omega))
          clear hi
          go_enter Tryd.func37, Tryd.ntmps37
          go_wp2
          go_ret3
          exact ⟨0, k + 1, 4, rfl, .inl ⟨by decide, rfl, Hw.out⟩, rfl⟩
        · have ib : ((s[k + 1].toNat : Int) == 105) = false := by rw [beq_eq_false_iff_ne]; omega
          have Hw := Lib.hid (suf_wrong1 Hf.out hk1 Hn.out (fun h => hi h.1))
          clear hi
          go_enter Tryd.func37, Tryd.ntmps37
          go_wp2
          go_ret3
          exact ⟨0, k + 1, 4, rfl, .inl ⟨by decide, rfl, Hw.out⟩, rfl⟩
      · have i2 : ¬ (k : Int) + 1 < (s.size : Int) := by omega
        have i2b : ((k : Int) + 1 == (s.size : Int)) = true := by rw [beq_iff_eq]; omega
        have Ha := Lib.hid (suf_all Hf.out (by omega) Hn.out _ Hl1.out (by decide))
        go_enter Tryd.func37, Tryd.ntmps37
        go_wp2
        go_ret3
        exact ⟨1, k + 1, 0, rfl, .inr ⟨rfl, by decide, by decide, Ha.out⟩, rfl⟩
    · -- another byte
      by_cases c107 : s[k].toNat = 107
      · have hc := c107
        have e109 : ((s[k].toNat : Int) == 109) = false := by rw [beq_eq_false_iff_ne]; omega
        have e107 : ((s[k].toNat : Int) == 107) = true := by simp [hc]
        have e75 : ((s[k].toNat : Int) == 75) = false := by rw [beq_eq_false_iff_ne]; omega
        have e77 : ((s[k].toNat : Int) == 77) = false := by rw [beq_eq_false_iff_ne]; omega
        have e71 : ((s[k].toNat : Int) == 71) = false := by rw [beq_eq_false_iff_ne]; omega
        have f109 : ((s[k].toNat : Int) != 109) = true := by rw [bne_iff_ne]; omega
        have f107 : ((s[k].toNat : Int) != 107) = false := by simp [hc]
        have hl1 : look sufM [s[k]] = some 1000000 := by rw [u8_eq hc]; rfl
        have Hf := Lib.hid (suf_first HS.out hk Hr.out Hn.out _ hl1)
        have Hl1 := Lib.hid hl1
        have Hc := Lib.hid hc
        clear hc hl1 c107
        by_cases hk1 : k + 1 < s.size
        · have i2 : (k : Int) + 1 < (s.size : Int) := by omega
          have i2b : ((k : Int) + 1 == (s.size : Int)) = false := by rw [beq_eq_false_iff_ne]; omega
          by_cases hi : s[k + 1].toNat = 105
          · have ib : ((s[k + 1].toNat : Int) == 105) = true := by simp [hi]
            have Hw := Lib.hid (suf_wrong1 Hf.out hk1 Hn.out (by rintro ⟨_, h⟩; have := Hc.out; omega))
            clear hi
            go_enter Tryd.func37, Tryd.ntmps37
            go_wp2
            go_ret3
            exact ⟨0, k + 1, 4, rfl, .inl ⟨by decide, rfl, Hw.out⟩, rfl⟩
          · have ib : ((s[k + 1].toNat : Int) == 105) = false := by rw [beq_eq_false_iff_ne]; omega
            have Hw := Lib.hid (suf_wrong1 Hf.out hk1 Hn.out (fun h => hi h.1))
            clear hi
            go_enter Tryd.func37, Tryd.ntmps37
            go_wp2
            go_ret3
            exact ⟨0, k + 1, 4, rfl, .inl ⟨by decide, rfl, Hw.out⟩, rfl⟩
        · have i2 : ¬ (k : Int) + 1 < (s.size : Int) := by omega
          have i2b : ((k : Int) + 1 == (s.size : Int)) = true := by rw [beq_iff_eq]; omega
          have Ha := Lib.hid (suf_all Hf.out (by omega) Hn.out _ Hl1.out (by decide))
          go_enter Tryd.func37, Tryd.ntmps37
          go_wp2
          go_ret3
          exact ⟨1000000, k + 1, 0, rfl, .inr ⟨rfl, by decide, by decide, Ha.out⟩, rfl⟩
      · -- another byte
        by_cases c75 : s[k].toNat = 75
        · have hc := c75
          have e109 : ((s[k].toNat : Int) == 109) = false := by rw [beq_eq_false_iff_ne]; omega
          have e107 : ((s[k].toNat : Int) == 107) = false := by rw [beq_eq_false_iff_ne]; omega
          have e75 : ((s[k].toNat : Int) == 75) = true := by simp [hc]
          have e77 : ((s[k].toNat : Int) == 77) = false := by rw [beq_eq_false_iff_ne]; omega
          have e71 : ((s[k].toNat : Int) == 71) = false := by rw [beq_eq_false_iff_ne]; omega
          have f109 : ((s[k].toNat : Int) != 109) = true := by rw [bne_iff_ne]; omega
          have f107 : ((s[k].toNat : Int) != 107) = true := by rw [bne_iff_ne]; omega
          have hl1 : look sufM [s[k]] = some 0 := by rw [u8_eq hc]; rfl
          have Hf := Lib.hid (suf_first HS.out hk Hr.out Hn.out _ hl1)
          have Hl1 := Lib.hid hl1
          have Hc := Lib.hid hc
          clear hc hl1 c75
          by_cases hk1 : k + 1 < s.size
          · have i2 : (k : Int) + 1 < (s.size : Int) := by omega
            have i2b : ((k : Int) + 1 == (s.size : Int)) = false := by rw [beq_eq_false_iff_ne]; omega
            by_cases hi : s[k + 1].toNat = 105
            · have ib : ((s[k + 1].toNat : Int) == 105) = true := by simp [hi]
              have hl2 : look sufM [s[k], s[k + 1]] = some 1024000 := by rw [u8_eq Hc.out, u8_eq hi]; rfl
              have Hg := Lib.hid (suf_second Hf.out hk1 Hn.out _ hl2)
              have Hl2 := Lib.hid hl2
              clear hi hl2
              by_cases hk2 : k + 2 < s.size
              · have i3 : (k : Int) + 1 + 1 < (s.size : Int) := by omega
                have Hw := Lib.hid (suf_wrong2 Hg.out hk2 Hn.out)
                go_enter Tryd.func37, Tryd.ntmps37
                go_wp2
                go_ret3
                exact ⟨0, k + 2, 4, rfl, .inl ⟨by decide, rfl, Hw.out⟩, rfl⟩
              · have i3 : ¬ (k : Int) + 1 + 1 < (s.size : Int) := by omega
                have Ha := Lib.hid (suf_all Hg.out (by omega) Hn.out _ Hl2.out (by decide))
                go_enter Tryd.func37, Tryd.ntmps37
                go_wp2
                go_ret3
                exact ⟨1024000, k + 2, 0, rfl, .inr ⟨rfl, by decide, by decide, Ha.out⟩, rfl⟩
            · have ib : ((s[k + 1].toNat : Int) == 105) = false := by rw [beq_eq_false_iff_ne]; omega
              have Hw := Lib.hid (suf_wrong1 Hf.out hk1 Hn.out (fun h => hi h.1))
              clear hi
              go_enter Tryd.func37, Tryd.ntmps37
              go_wp2
              go_ret3
              exact ⟨0, k + 1, 4, rfl, .inl ⟨by decide, rfl, Hw.out⟩, rfl⟩
          · have i2 : ¬ (k : Int) + 1 < (s.size : Int) := by omega
            have i2b : ((k : Int) + 1 == (s.size : Int)) = true := by rw [beq_iff_eq]; omega
            have Ha := Lib.hid (suf_trunc Hf.out (by omega) Hl1.out)
            go_enter Tryd.func37, Tryd.ntmps37
            go_wp2
            go_ret3
            exact ⟨0, k + 1, 3, rfl, .inl ⟨by decide, rfl, Ha.out⟩, rfl⟩
        · -- another byte
          by_cases c77 : s[k].toNat = 77
          · have hc := c77
            have e109 : ((s[k].toNat : Int) == 109) = false := by rw [beq_eq_false_iff_ne]; omega
            have e107 : ((s[k].toNat : Int) == 107) = false := by rw [beq_eq_false_iff_ne]; omega
            have e75 : ((s[k].toNat : Int) == 75) = false := by rw [beq_eq_false_iff_ne]; omega
            have e77 : ((s[k].toNat : Int) == 77) = true := by simp [hc]
            have e71 : ((s[k].toNat : Int) == 71) = false := by rw [beq_eq_false_iff_ne]; omega
            have f109 : ((s[k].toNat : Int) != 109) = true := by rw [bne_iff_ne]; omega
            have f107 : ((s[k].toNat : Int) != 107) = true := by rw [bne_iff_ne]; omega
            have hl1 : look sufM [s[k]] = some 1000000000 := by rw [u8_eq hc]; rfl
            have Hf := Lib.hid (suf_first HS.out hk Hr.out Hn.out _ hl1)
            have Hl1 := Lib.hid hl1
            have Hc := Lib.hid hc
            clear hc hl1 c77
            by_cases hk1 : k + 1 < s.size
            · have i2 : (k : Int) + 1 < (s.size : Int) := by omega
              have i2b : ((k : Int) + 1 == (s.size : Int)) = false := by rw [beq_eq_false_iff_ne]; omega
              by_cases hi : s[k + 1].toNat = 105
              · have ib : ((s[k + 1].toNat : Int) == 105) = true := by simp [hi]
                have hl2 : look sufM [s[k], s[k + 1]] = some 1048576000 := by rw [u8_eq Hc.out, u8_eq hi]; rfl
                have Hg := Lib.hid (suf_second Hf.out hk1 Hn.out _ hl2)
                have Hl2 := Lib.hid hl2
                clear hi hl2
                by_cases hk2 : k + 2 < s.size
                · have i3 : (k : Int) + 1 + 1 < (s.size : Int) := by omega
                  have Hw := Lib.hid (suf_wrong2 Hg.out hk2 Hn.out)
                  go_enter Tryd.func37, Tryd.ntmps37
                  go_wp2
                  go_ret3
                  exact ⟨0, k + 2, 4, rfl, .inl ⟨by decide, rfl, Hw.out⟩, rfl⟩
                · have i3 : ¬ (k : Int) + 1 + 1 < (s.size : Int) := by omega
                  have Ha := Lib.hid (suf_all Hg.out (by omega) Hn.out _ Hl2.out (by decide))
                  go_enter Tryd.func37, Tryd.ntmps37
                  go_wp2
                  go_ret3
                  exact ⟨1048576000, k + 2, 0, rfl, .inr ⟨rfl, by decide, by decide, Ha.out⟩, rfl⟩
              · have ib : ((s[k + 1].toNat : Int) == 105) = false := by rw [beq_eq_false_iff_ne]; omega
                have Hw := Lib.hid (suf_wrong1 Hf.out hk1 Hn.out (fun h => hi h.1))
                clear hi
                go_enter Tryd.func37, Tryd.ntmps37
                go_wp2
                go_ret3
                exact ⟨0, k + 1, 4, rfl, .inl ⟨by decide, rfl, Hw.out⟩, rfl⟩
            · have i2 : ¬ (k : Int) + 1 < (s.size : Int) := by omega
              have i2b : ((k : Int) + 1 == (s.size : Int)) = true := by rw [beq_iff_eq]; omega
              have Ha := Lib.hid (suf_all Hf.out (by omega) Hn.out _ Hl1.out (by decide))
              go_enter Tryd.func37, Tryd.ntmps37
              go_wp2
              go_ret3
              exact ⟨1000000000, k + 1, 0, rfl, .inr ⟨rfl, by decide, by decide, Ha.out⟩, rfl⟩
          · -- another byte
            by_cases c71 : s[k].toNat = 71
            · have hc := c71
              have e109 : ((s[k].toNat : Int) == 109) = false := by rw [beq_eq_false_iff_ne]; omega
              have e107 : ((s[k].toNat : Int) == 107) = false := by rw [beq_eq_false_iff_ne]; omega
              have e75 : ((s[k].toNat : Int) == 75) = false := by rw [beq_eq_false_iff_ne]; omega
              have e77 : ((s[k].toNat : Int) == 77) = false := by rw [beq_eq_false_iff_ne]; omega
              have e71 : ((s[k].toNat : Int) == 71) = true := by simp [hc]
              have f109 : ((s[k].toNat : Int) != 109) = true := by rw [bne_iff_ne]; omega
              have f107 : ((s[k].toNat : Int) != 107) = true := by rw [bne_iff_ne]; omega
              have hl1 : look sufM [s[k]] = some 1000000000000 := by rw [u8_eq hc]; rfl
              have Hf := Lib.hid (suf_first HS.out hk Hr.out Hn.out _ hl1)
              have Hl1 := Lib.hid hl1
              have Hc := Lib.hid hc
              clear hc hl1 c71
              by_cases hk1 : k + 1 < s.size
              · have i2 : (k : Int) + 1 < (s.size : Int) := by omega
                have i2b : ((k : Int) + 1 == (s.size : Int)) = false := by rw [beq_eq_false_iff_ne]; omega
                by_cases hi : s[k + 1].toNat = 105
                · have ib : ((s[k + 1].toNat : Int) == 105) = true := by simp [hi]
                  have hl2 : look sufM [s[k], s[k + 1]] = some 1073741824000 := by rw [u8_eq Hc.out, u8_eq hi]; rfl
                  have Hg := Lib.hid (suf_second Hf.out hk1 Hn.out _ hl2)
                  have Hl2 := Lib.hid hl2
                  clear hi hl2
                  by_cases hk2 : k + 2 < s.size
                  · have i3 : (k : Int) + 1 + 1 < (s.size : Int) := by omega
                    have Hw := Lib.hid (suf_wrong2 Hg.out hk2 Hn.out)
                    go_enter Tryd.func37, Tryd.ntmps37
                    go_wp2
                    go_ret3
                    exact ⟨0, k + 2, 4, rfl, .inl ⟨by decide, rfl, Hw.out⟩, rfl⟩
                  · have i3 : ¬ (k : Int) + 1 + 1 < (s.size : Int) := by omega
                    have Ha := Lib.hid (suf_all Hg.out (by omega) Hn.out _ Hl2.out (by decide))
                    go_enter Tryd.func37, Tryd.ntmps37
                    go_wp2
                    go_ret3
                    exact ⟨1073741824000, k + 2, 0, rfl, .inr ⟨rfl, by decide, by decide, Ha.out⟩, rfl⟩
                · have ib : ((s[k + 1].toNat : Int) == 105) = false := by rw [beq_eq_false_iff_ne]; omega
                  have Hw := Lib.hid (suf_wrong1 Hf.out hk1 Hn.out (fun h => hi h.1))
                  clear hi
                  go_enter Tryd.func37, Tryd.ntmps37
                  go_wp2
                  go_ret3
                  exact ⟨0, k + 1, 4, rfl, .inl ⟨by decide, rfl, Hw.out⟩, rfl⟩
              · have i2 : ¬ (k : Int) + 1 < (s.size : Int) := by omega
                have i2b : ((k : Int) + 1 == (s.size : Int)) = true := by rw [beq_iff_eq]; omega
                have Ha := Lib.hid (suf_all Hf.out (by omega) Hn.out _ Hl1.out (by decide))
                go_enter Tryd.func37, Tryd.ntmps37
                go_wp2
                go_ret3
                exact ⟨1000000000000, k + 1, 0, rfl, .inr ⟨rfl, by decide, by decide, Ha.out⟩, rfl⟩
            · -- another byte
              have e109 : ((s[k].toNat : Int) == 109) = false := by rw [beq_eq_false_iff_ne]; omega
              have e107 : ((s[k].toNat : Int) == 107) = false := by rw [beq_eq_false_iff_ne]; omega
              have e75 : ((s[k].toNat : Int) == 75) = false := by rw [beq_eq_false_iff_ne]; omega
              have e77 : ((s[k].toNat : Int) == 77) = false := by rw [beq_eq_false_iff_ne]; omega
              have e71 : ((s[k].toNat : Int) == 71) = false := by rw [beq_eq_false_iff_ne]; omega
              have f109 : ((s[k].toNat : Int) != 109) = true := by rw [bne_iff_ne]; omega
              have f107 : ((s[k].toNat : Int) != 107) = true := by rw [bne_iff_ne]; omega
              have Hw := Lib.hid (suf_wrong0 HS.out hk Hr.out Hn.out Hsh.out ⟨c109, c107, c77, c71, c75⟩)
              clear c109 c107 c77 c71 c75
              by_cases hk1 : k + 1 < s.size
              · have i2 : (k : Int) + 1 < (s.size : Int) := by omega
                by_cases hi : s[k + 1].toNat = 105
                · have ib : ((s[k + 1].toNat : Int) == 105) = true := by simp [hi]
                  clear hi
                  go_enter Tryd.func37, Tryd.ntmps37
                  go_wp2
                  go_ret3
                  exact ⟨0, k, 4, rfl, .inl ⟨by decide, rfl, Hw.out⟩, rfl⟩
                · have ib : ((s[k + 1].toNat : Int) == 105) = false := by rw [beq_eq_false_iff_ne]; omega
                  clear hi
                  go_enter Tryd.func37, Tryd.ntmps37
                  go_wp2
                  go_ret3
                  exact ⟨0, k, 4, rfl, .inl ⟨by decide, rfl, Hw.out⟩, rfl⟩
              · have i2 : ¬ (k : Int) + 1 < (s.size : Int) := by omega
                go_enter Tryd.func37, Tryd.ntmps37
                go_wp2
                go_ret3
                exact ⟨0, k, 4, rfl, .inl ⟨by decide, rfl, Hw.out⟩, rfl⟩
  · have i1 : (s.size : Int) ≤ (k : Int) := by omega
    have Ha : Hid (readL s 3 sufM = (r.v * 10 ^ (3 - r.k), 1000, 0, 0)) := by
      show readL s 3 sufM = _
      rw [HS.out.all suf_ascii (by omega), Hn.out, Hr.out, if_neg (by decide)]
      rfl
    go_enter Tryd.func37, Tryd.ntmps37
    go_wp2
    go_ret3
    exact ⟨1000, k, 0, rfl, .inr ⟨rfl, by decide, by decide, Ha.out⟩, rfl⟩

end Go.Proofs.YtmhblnlbfhfegaaDoor
