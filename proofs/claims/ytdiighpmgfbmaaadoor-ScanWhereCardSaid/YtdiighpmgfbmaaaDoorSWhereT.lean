/- Where an error stands: from rune to rune. Mathematics alone. -/
import Derived.Test.YtdiighpmgfbmaaaDoorSWhereN
namespace Go.Proofs.YtdiighpmgfbmaaaDoor
open Go.RowKit

theorem byte_ten (l : List UInt8) (pos : Nat) (hp : pos < l.length) (h : l[pos] = 10) : Lib.decodeL (l.drop pos) = (10, 1) := by
  rw [List.drop_eq_getElem_cons hp, h]
  exact Lib.decodeL_ascii 10 _ (by decide)
theorem cnt_ten (l : List UInt8) (pos : Nat) (hp : pos < l.length) (h : l[pos] = 10) : cnt (l.take (pos + 1)) = cnt (l.take pos) + 1 := by
  unfold cnt
  rw [List.take_add_one, List.getElem?_eq_getElem hp, h, List.countP_append]
  rfl

theorem way_step (l : List UInt8) (beg pos : Nat) (s s1 : RS) (c n : Nat) (hl : l.length ≤ 65536) (h : Way l beg pos s) (hp : pos < l.length) (hd : Lib.decodeL (l.drop pos) = (c, n)) (hv : ¬ (c = 65533 ∧ n = 1)) (hin : pos + n ≤ l.length) (hr : stepF s c = (s1, 0)) :
    ∃ beg', Way l beg' (pos + n) (advF s1 c) := by
  have hne : l.drop pos ≠ [] := by
    intro e
    have := congrArg List.length e
    simp at this
    omega
  have hv' : ¬ ((Lib.decodeL (l.drop pos)).1 = 65533 ∧ (Lib.decodeL (l.drop pos)).2 = 1) := by rw [hd]; exact hv
  have hw := Lib.decodeL_width (l.drop pos)
  have hsf := step_facts s c
  rw [hr] at hsf
  obtain ⟨f1, f2, _, _⟩ := hsf
  simp only at f1 f2
  have hcut := fun m g (hm : m ≤ l.length) (hn : pos + n ≤ m) => step_cut l m g pos s s1 hp hm (by rw [hd]; exact hn) hv' (by rw [hd]; exact hr)
  have hpre := fun r => dec_pre (l.drop pos) r hne hv'
  have hsb := small_byte (l.drop pos) hne hv'
  have hsr := small_rune (l.drop pos) hne hv'
  simp only [hd] at hcut hpre hsb hsr hw
  have road : ∀ m, pos + n ≤ m → m ≤ l.length → ∃ g, m < pos + n + g ∧ scanF (l.take m) (m + 1) 0 rs0 = scanF (l.take m) g (pos + n) (advF s1 c) := by
    intro m h1 h2
    obtain ⟨g, g1, g2⟩ := h.road m (by omega) h2
    obtain ⟨g, rfl⟩ : ∃ k, g = k + 1 := ⟨g - 1, by omega⟩
    exact ⟨g, by omega, by rw [g2, hcut m g h2 h1]⟩
  by_cases hc : c = 10
  · subst hc
    obtain ⟨b, t, e, eb⟩ := hsr (by decide)
    have hb : b = 10 := UInt8.toNat_inj.1 eb
    subst hb
    have hlp : l[pos] = 10 := by
      have := List.drop_eq_getElem_cons hp
      rw [e] at this
      exact (List.cons.inj this).1.symm
    have hn : n = 1 := by
      have := byte_ten l pos hp hlp
      rw [hd] at this
      exact (Prod.mk.inj this).2
    subst hn
    have hmode : (advF s1 10).mode = .btw := by
      have := step_end s (by rw [hr])
      rw [hr] at this
      exact this
    refine ⟨pos + 1, Nat.le_refl _, hin, ?_, .inr ?_, fun k x h1 h2 => by omega, Nat.le_refl _, fun m _ _ => ?_, ?_, road⟩
    · show (if 10 = 10 then s1.line + 1 else s1.line) = _
      rw [if_pos rfl, f1, h.line, cnt_ten l pos hp hlp, h.none.cnt h.le]
      omega
    · show l[pos]? = _
      rw [List.getElem?_eq_getElem hp, hlp]
    · show rn _ + 1 = (if 10 = 10 then 1 else s1.col + 1) + rn _
      rw [if_pos rfl, Nat.add_comm]
    · obtain ⟨g, g1, g2⟩ := road (pos + 1) (Nat.le_refl _) hin
      have hlen : (l.take (pos + 1)).length = pos + 1 := by rw [List.length_take]; omega
      unfold wordsF
      rw [if_neg (by omega), hlen, g2]
      obtain ⟨g, rfl⟩ : ∃ k, g = k + 1 := ⟨g - 1, by omega⟩
      rw [scanF, if_neg (by omega), end_fine _ hmode, if_pos rfl]
  · refine ⟨beg, by have := h.le; omega, hin, ?_, h.first, ?_, ?_, ?_, h.fine, road⟩
    · show (if c = 10 then s1.line + 1 else s1.line) = _
      rw [if_neg hc, f1, h.line]
    · intro k x h1 h2 hx
      by_cases hk : k < pos
      · exact h.none k x h1 hk hx
      · rintro rfl
        refine hc (hsb 10 ?_ (by decide))
        obtain ⟨j, rfl⟩ : ∃ j, k = pos + j := ⟨k - pos, by omega⟩
        have : ((l.drop pos).take n)[j]? = some 10 := by
          rw [List.getElem?_take, if_pos (by omega), List.getElem?_drop]
          exact hx
        exact List.mem_of_getElem? this
    · show 1 ≤ (if c = 10 then 1 else s1.col + 1)
      rw [if_neg hc]
      omega
    · intro m h1 h2
      show rn _ + 1 = (if c = 10 then 1 else s1.col + 1) + rn _
      rw [if_neg hc, f2, h.cols m (by omega) h2]
      have hcu : (l.take m).drop pos = (l.drop pos).take n ++ (l.take m).drop (pos + n) := by
        rw [List.drop_take, List.drop_take, ← List.drop_drop, ← List.take_append_drop n ((l.drop pos).take (m - pos)), List.take_take, List.drop_take, Nat.min_eq_left (by omega), Nat.sub_sub]
      have hdm : Lib.decodeL ((l.take m).drop pos) = (c, n) := by rw [hcu]; exact hpre _
      have hnm : (l.take m).drop pos ≠ [] := by
        intro e
        have := congrArg List.length e
        rw [List.length_drop, List.length_take, List.length_nil] at this
        omega
      have e2 := rn_step _ hnm
      rw [hdm, List.drop_drop] at e2
      simp only at e2
      omega

theorem way_go (l : List UInt8) (hl : l.length ≤ 65536) : ∀ (f beg pos : Nat) (s : RS) (ws : List (Int × List UInt8 × Nat × Nat)) (x y : Nat) (e : Int), Way l beg pos s → l.length < pos + f → scanF l f pos s = (ws, x, y, e) → e ≠ 0 → Told l x y e := by
  intro f
  induction f with
  | zero => intro beg pos s ws x y e hW h2; have := hW.here; omega
  | succ f ih =>
    intro beg pos s ws x y e hW h2 h he
    rw [scanF] at h
    by_cases hp : pos < l.length
    · rw [if_pos hp] at h
      have hi := dec_in l pos hp
      have hwd := Lib.decode_width_pos ⟨l.toArray⟩ pos hp
      have hdd := dec_drop l pos
      have hten : l[pos] = 10 → Utf8.decode ⟨l.toArray⟩ pos = (10, 1) := fun k => by rw [← hdd]; exact byte_ten l pos hp k
      have hff := fun (hw2 : writB l pos = true) => show Lib.decodeL (l.drop pos) = (65533, 3) from by
        obtain ⟨r, hr⟩ := pre_fffd _ hw2
        rw [hr]
        exact dec_fffd r
      generalize Utf8.decode ⟨l.toArray⟩ pos = d at h hi hwd hdd hten
      obtain ⟨c, n⟩ := d
      simp only at h hi hwd hdd hten
      by_cases hbad : c = 65533 ∧ writB l pos = false
      · rw [if_pos hbad] at h
        simp only [Prod.mk.injEq] at h
        obtain ⟨_, rfl, rfl, rfl⟩ := h
        refine hW.atRune hp (fun k => ?_)
        have := (Prod.mk.inj (hten k)).1
        omega
      · rw [if_neg hbad] at h
        have hv : ¬ (c = 65533 ∧ n = 1) := by
          rintro ⟨rfl, rfl⟩
          cases hwb : writB l pos
          · exact hbad ⟨rfl, hwb⟩
          · have := hff hwb
            rw [hdd] at this
            cases this
        by_cases hok : (stepF s c).2 = 0
        · have hre : readF s c = (advF (stepF s c).1 c, 0) := by
            unfold readF
            rw [if_pos hok]
          rw [hre, if_pos rfl] at h
          obtain ⟨beg', hW'⟩ := way_step l beg pos s (stepF s c).1 c n hl hW hp hdd hv hi (by rw [← hok])
          exact ih beg' _ _ ws x y e hW' (by omega) h he
        · have hre : readF s c = stepF s c := by
            unfold readF
            rw [if_neg hok]
          rw [hre, if_neg hok] at h
          obtain ⟨f1, f2, _, _⟩ := step_facts s c
          simp only [Prod.mk.injEq] at h
          obtain ⟨_, rfl, rfl, rfl⟩ := h
          rw [f1, f2]
          rcases step_err s c hok with ⟨k1, k2⟩ | ⟨k1, k2⟩
          · rw [k1]
            subst k2
            refine hW.atEnd (.inr ?_)
            have hne : l.drop pos ≠ [] := by
              intro e
              have := congrArg List.length e
              simp at this
              omega
            obtain ⟨b, t, e, eb⟩ := small_rune (l.drop pos) hne (by rw [hdd]; exact hv) (by rw [hdd]; show 10 < 128; decide)
            rw [hdd] at eb
            have hb : b = 10 := UInt8.toNat_inj.1 eb
            have := List.drop_eq_getElem_cons hp
            rw [e] at this
            rw [List.getElem?_eq_getElem hp, ← (List.cons.inj this).1, hb]
          · rw [k1]
            refine hW.atRune hp (fun k => k2 ?_)
            exact (Prod.mk.inj (hten k)).1
    · rw [if_neg hp] at h
      have hpe : pos = l.length := by have := hW.here; omega
      split at h
      · simp only [Prod.mk.injEq] at h
        exact absurd h.2.2.2.symm he
      · rename_i hn
        have hok : (stepF s 10).2 ≠ 0 := by
          intro k
          apply hn
          unfold readF
          rw [if_pos k]
        have hre : readF s 10 = stepF s 10 := by
          unfold readF
          rw [if_neg hok]
        rw [hre] at h
        obtain ⟨f1, f2, _, _⟩ := step_facts s 10
        simp only [Prod.mk.injEq] at h
        obtain ⟨_, rfl, rfl, rfl⟩ := h
        rw [f1, f2]
        rcases step_err s 10 hok with ⟨k1, k2⟩ | ⟨k1, k2⟩
        · rw [k1]
          exact hW.atEnd (.inl hpe)
        · exact absurd rfl k2

theorem words_told (l : List UInt8) (hl : l.length ≤ 65536) (ws : List (Int × List UInt8 × Nat × Nat)) (x y : Nat) (e : Int) (h : wordsF l = (ws, x, y, e)) (he : e ≠ 0) : Told l x y e := by
  unfold wordsF at h
  rw [if_neg (by omega)] at h
  refine way_go l hl (l.length + 1) 0 0 rs0 ws x y e ⟨Nat.le_refl _, Nat.zero_le _, rfl, .inl rfl, fun k x h1 h2 => by omega, Nat.le_refl _, fun m _ _ => Nat.add_comm _ _, ?_, fun m _ _ => ⟨m + 1, by omega, rfl⟩⟩ (by omega) h he
  rw [List.take_zero]
  decide +kernel
end Go.Proofs.YtdiighpmgfbmaaaDoor
