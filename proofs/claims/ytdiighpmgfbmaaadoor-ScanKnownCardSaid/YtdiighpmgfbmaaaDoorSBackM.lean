/- What Words reads of what Quote makes. Mathematics alone. -/
import Derived.Test.YtdiighpmgfbmaaaDoorSQuoteM
import Derived.Test.YtdiighpmgfbmaaaDoorSDecP
namespace Go.Proofs.YtdiighpmgfbmaaaDoor
open Go.RowKit

/-- One step of the reading. -/
theorem scan_step (T : List UInt8) (g p : Nat) (s s1 : RS) (c n : Nat) (hp : p < T.length) (hd : Lib.decodeL (T.drop p) = (c, n)) (hb : c = 65533 → writB T p = true) (hr : stepF s c = (s1, 0)) :
    scanF T (g + 1) p s = scanF T g (p + n) (advF s1 c) := by
  rw [dec_drop] at hd
  rw [scanF, if_pos hp, hd]
  have h1 : readF s c = (advF s1 c, 0) := by
    unfold readF
    rw [hr, if_pos rfl]
  simp only
  rw [if_neg (by rintro ⟨h, k⟩; rw [hb h] at k; cases k), h1, if_pos rfl]

theorem quo_acc (l : List UInt8) : ∀ (f pos : Nat) (acc t : List UInt8), quoF l f pos acc = some t → ∃ q, t = acc ++ q := by
  intro f
  induction f with
  | zero => intro pos acc t h; cases h
  | succ f ih =>
    intro pos acc t h
    rw [quoF] at h
    split at h
    · split at h
      · cases h
      · obtain ⟨q, hq⟩ := ih _ _ _ h
        exact ⟨_, by rw [hq, List.append_assoc]⟩
    · cases h
      exact ⟨_, rfl⟩

theorem drop_add {α : Type} (T a b : List α) (p : Nat) (h : T.drop p = a ++ b) : T.drop (p + a.length) = b := by
  rw [← List.drop_drop, h, List.drop_left]

/-- The string's runes, one after another. -/
theorem back_go (l T z : List UInt8) : ∀ (f pos : Nat) (acc q : List UInt8) (p g : Nat) (s : RS), pos ≤ l.length → Lib.validD (l.drop pos) = true → quoF l f pos acc = some (acc ++ q) →
    T.drop p = q ++ z → s.mode = .str → s.text = l.take pos → q.length ≤ g →
    ∃ (s' : RS) (g' : Nat), scanF T g p s = scanF T g' (p + q.length) s' ∧ g ≤ g' + q.length ∧ s'.mode = .btw ∧ s'.line = s.line ∧ s'.words = s.words ++ [(s.kind, l, s.wl, s.wc)] := by
  intro f
  induction f with
  | zero => intro pos acc q p g s _ _ h; cases h
  | succ f ih =>
    intro pos acc q p g s h1 hv h hT hm ht hg
    rw [quoF] at h
    by_cases hp : pos < l.length
    · rw [if_pos hp] at h
      have hne : l.drop pos ≠ [] := by
        intro e
        have := congrArg List.length e
        simp at this
        omega
      have hst := Lib.validD_step (l.drop pos) hne
      have hwd := Lib.decode_width_pos ⟨l.toArray⟩ pos hp
      rw [hv] at hst
      have hb : ¬ ((Lib.decodeL (l.drop pos)).1 = 65533 ∧ (Lib.decodeL (l.drop pos)).2 = 1) := by
        intro e
        rw [if_pos e] at hst
        cases hst
      rw [if_neg hb, List.drop_drop] at hst
      have hi := dec_in l pos hp
      have he := Lib.encode_decode (l.drop pos) hne hb
      have hpre := fun r => dec_pre (l.drop pos) r hne hb
      rw [dec_drop] at hst hb he hpre
      generalize Utf8.decode ⟨l.toArray⟩ pos = d at h hst hb he hi hpre hwd
      obtain ⟨c, n⟩ := d
      simp only at h hst hb he hi hpre hwd
      split at h
      · cases h
      rename_i hc
      obtain ⟨q2, hq2⟩ := quo_acc _ _ _ _ _ h
      have hq : q = escF1 c ++ q2 := by
        rw [List.append_assoc] at hq2
        exact List.append_cancel_left hq2
      subst hq
      rw [← List.append_assoc] at h
      have htake : l.take (pos + n) = l.take pos ++ Lib.encodeRune (c : Int) := by
        rw [he, List.take_add]
      have fin : ∀ (s1 : RS) (g1 : Nat), scanF T g p s = scanF T g1 (p + (escF1 c).length) s1 → g ≤ g1 + (escF1 c).length → q2.length ≤ g1 → s1.mode = .str → s1.text = l.take (pos + n) → s1.line = s.line → s1.words = s.words → s1.kind = s.kind → s1.wl = s.wl → s1.wc = s.wc →
          ∃ (s' : RS) (g' : Nat), scanF T g p s = scanF T g' (p + (escF1 c ++ q2).length) s' ∧ g ≤ g' + (escF1 c ++ q2).length ∧ s'.mode = .btw ∧ s'.line = s.line ∧ s'.words = s.words ++ [(s.kind, l, s.wl, s.wc)] := by
        intro s1 g1 e1 e2 e2' e3 e4 e5 e6 e7 e8 e9
        obtain ⟨s', g', k1, k2, k3, k4, k5⟩ := ih (pos + n) (acc ++ escF1 c) q2 (p + (escF1 c).length) g1 s1 hi hst.symm h (by
          refine drop_add T _ _ p ?_
          rw [hT, List.append_assoc]) e3 e4 e2'
        refine ⟨s', g', ?_, ?_, k3, by rw [k4, e5], by rw [k5, e6, e7, e8, e9]⟩
        · rw [e1, k1, List.length_append, Nat.add_assoc]
        · rw [List.length_append]; omega
      rw [List.length_append] at hg
      have hlt : p + (escF1 c ++ q2 ++ z).length = T.length ∨ (escF1 c ++ q2 ++ z) = [] := by
        have := congrArg List.length hT
        rw [List.length_drop] at this
        by_cases e : (escF1 c ++ q2 ++ z) = []
        · exact .inr e
        · left
          have : 0 < (escF1 c ++ q2 ++ z).length := List.length_pos_iff.2 e
          omega
      by_cases hE : c = 10 ∨ c = 34 ∨ c = 92
      · -- two bytes
        obtain ⟨x, hx, hxc, hxs⟩ : ∃ x : UInt8, escF1 c = [92, x] ∧ x.toNat < 128 ∧ ∀ s0 : RS, s0.mode = .esc → stepF s0 x.toNat = ({ addF s0 (c : Int) with mode := .str }, 0) ∧ x.toNat ≠ 10 ∧ x.toNat ≠ 65533 := by
          rcases hE with rfl | rfl | rfl
          · exact ⟨110, rfl, by decide, fun s0 h0 => ⟨by unfold stepF; rw [h0]; rfl, by decide, by decide⟩⟩
          · exact ⟨34, rfl, by decide, fun s0 h0 => ⟨by unfold stepF; rw [h0]; rfl, by decide, by decide⟩⟩
          · exact ⟨92, rfl, by decide, fun s0 h0 => ⟨by unfold stepF; rw [h0]; rfl, by decide, by decide⟩⟩
        rw [hx] at hT hg hlt fin ⊢
        simp only [List.length_cons, List.length_nil, List.cons_append, List.nil_append] at hT hg hlt
        have hpl : p + 1 < T.length := by
          rcases hlt with e | e
          · simp at e; omega
          · cases e
        obtain ⟨g, rfl⟩ : ∃ k, g = k + 2 := ⟨g - 2, by omega⟩
        have d1 : Lib.decodeL (T.drop p) = (92, 1) := by
          rw [hT]
          exact Lib.decodeL_ascii 92 _ (by decide)
        have d2 : Lib.decodeL (T.drop (p + 1)) = (x.toNat, 1) := by
          have := drop_add T [92] (x :: (q2 ++ z)) p hT
          simp only [List.length_cons, List.length_nil] at this
          rw [this]
          exact Lib.decodeL_ascii x _ hxc
        have st1 : stepF s 92 = ({ s with mode := .esc }, 0) := by
          unfold stepF
          rw [hm]
          rfl
        obtain ⟨st2, n10, nff⟩ := hxs (advF { s with mode := .esc } 92) rfl
        refine fin (advF { addF (advF { s with mode := .esc } 92) (c : Int) with mode := .str } x.toNat) g ?_ (by simp) (by omega) rfl ?_ ?_ rfl rfl rfl rfl
        · rw [scan_step T (g + 1) p s _ 92 1 (by omega) d1 (by intro e; cases e) st1, scan_step T g (p + 1) _ _ x.toNat 1 hpl d2 (fun e => absurd e nff) st2]
          rfl
        · show (s.text ++ Lib.encodeRune (c : Int)) = _
          rw [ht, htake]
        · show (if x.toNat = 10 then _ else _) = _
          rw [if_neg n10]
          rfl
      · -- the rune itself
        have hx : escF1 c = Lib.encodeRune (c : Int) := by
          unfold escF1
          rw [if_neg (by omega), if_neg (by omega), if_neg (by omega)]
        have hxl : (escF1 c).length = n := by
          rw [hx, he, List.length_take, List.length_drop]
          omega
        have d1 : Lib.decodeL (T.drop p) = (c, n) := by
          rw [hT, List.append_assoc, hx, he]
          exact hpre _
        have hpl : p < T.length := by
          rcases hlt with e | e
          · rw [List.length_append, List.length_append] at e
            omega
          · have := congrArg List.length e
            rw [List.length_append, List.length_append, List.length_nil] at this
            omega
        obtain ⟨g, rfl⟩ : ∃ k, g = k + 1 := ⟨g - 1, by omega⟩
        have st1 : stepF s c = (addF s (c : Int), 0) := by
          unfold stepF
          rw [hm]
          simp only
          unfold strF ctB
          rw [if_neg (by omega), if_neg (by simp; omega), if_neg (by omega), if_neg (by omega)]
        refine fin (advF (addF s (c : Int)) c) g ?_ (by omega) (by omega) hm ?_ ?_ rfl rfl rfl rfl
        · rw [scan_step T g p s _ c n hpl d1 ?_ st1, hxl]
          intro e
          unfold writB
          rw [hT, List.append_assoc, hx, e]
          rfl
        · show (s.text ++ Lib.encodeRune (c : Int)) = _
          rw [ht, htake]
        · show (if c = 10 then _ else _) = _
          rw [if_neg (by omega)]
          rfl
    · rw [if_neg hp] at h
      have hq : q = [34] := by
        have := Option.some.inj h
        exact (List.append_cancel_left this).symm
      subst hq
      have hpl : p < T.length := by
        have := congrArg List.length hT
        simp at this
        omega
      obtain ⟨g, rfl⟩ : ∃ k, g = k + 1 := ⟨g - 1, by simp at hg; omega⟩
      have d1 : Lib.decodeL (T.drop p) = (34, 1) := by
        rw [hT]
        exact Lib.decodeL_ascii 34 _ (by decide)
      have st1 : stepF s 34 = (endF s, 0) := by
        unfold stepF
        rw [hm]
        rfl
      refine ⟨advF (endF s) 34, g, ?_, by simp, rfl, rfl, ?_⟩
      · exact scan_step T g p s _ 34 1 hpl d1 (by intro e; cases e) st1
      · show s.words ++ [(s.kind, s.text, s.wl, s.wc)] = _
        rw [ht, List.take_of_length_le (by omega)]
end Go.Proofs.YtdiighpmgfbmaaaDoor
