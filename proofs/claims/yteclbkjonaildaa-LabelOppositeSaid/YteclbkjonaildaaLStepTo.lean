/- Each part that may be is read of its text: plain mathematics. No conditions. -/
import Derived.Test.YteclbkjonaildaaLReadP
namespace Go.Proofs.Yteclbkjonaildaa
open Go.RowKit

theorem span_stop (ok : Nat → Nat → Bool) (suf : List UInt8) (hs : suf = [] ∨ ∃ c t, suf = c :: t ∧ ∀ j, ok j c.toNat = false) : ∀ (s : List UInt8) (k : Nat), spanF ok s k = k + s.length → spanF ok (s ++ suf) k = k + s.length
  | [], k, _ => by
    rcases hs with rfl | ⟨c, t, rfl, h⟩
    · rfl
    · rw [List.nil_append, spanF, if_pos (.inr (h k))]
      rfl
  | b :: s, k, h => by
    rw [spanF] at h
    rw [List.cons_append, spanF]
    split at h
    · simp at h
    · rename_i hn
      rw [if_neg hn]
      have := span_stop ok suf hs s (k + 1) (by rw [h]; simp; omega)
      rw [this]
      simp
      omega

theorem drop_pre (pre r : List UInt8) : (pre ++ r).drop pre.length = r := List.drop_left
theorem word_pre (ok : Nat → Nat → Bool) (pre s suf : List UInt8) (h : spanF ok s 0 = s.length) (hs : suf = [] ∨ ∃ c t, suf = c :: t ∧ ∀ j, ok j c.toNat = false) : wordL ok (pre ++ (s ++ suf)) pre.length = s.length := by
  unfold wordL
  rw [drop_pre, span_stop ok suf hs s 0 (by rw [h, Nat.zero_add]), Nat.zero_add]
theorem take_pre (pre s suf : List UInt8) : ((pre ++ (s ++ suf)).drop pre.length).take s.length = s := by
  rw [drop_pre, List.take_left]
theorem sign_pre (pre t : List UInt8) (c d : UInt8) : signL (pre ++ c :: t) pre.length d = decide (c = d) := by
  unfold signL
  rw [List.getElem?_append_right (Nat.le_refl _), Nat.sub_self]
  simp
theorem sign_end (pre : List UInt8) (d : UInt8) : signL (pre ++ []) pre.length d = false := by
  unfold signL
  rw [List.append_nil, List.getElem?_eq_none (Nat.le_refl _)]
  simp

theorem nameB_iff {s : List UInt8} (h : nameB s = true) : s ≠ [] ∧ spanF okName s 0 = s.length := by
  unfold nameB at h
  rw [Bool.and_eq_true] at h
  exact ⟨of_decide_eq_true h.1, of_decide_eq_true h.2⟩
theorem valueB_iff {s : List UInt8} (h : valueB s = true) : s ≠ [] ∧ spanF okVal s 0 = s.length := by
  unfold valueB at h
  rw [Bool.and_eq_true] at h
  exact ⟨of_decide_eq_true h.1, of_decide_eq_true h.2⟩
theorem first_ok {ok : Nat → Nat → Bool} {s : List UInt8} (h0 : s ≠ []) (h : spanF ok s 0 = s.length) : ∃ b t, s = b :: t ∧ ok 0 b.toNat = true := by
  cases s with
  | nil => exact absurd rfl h0
  | cons b t =>
    refine ⟨b, t, rfl, ?_⟩
    rw [spanF] at h
    split at h
    · simp at h
    · rename_i hn
      cases g : ok 0 b.toNat
      · exact absurd (.inr g) hn
      · rfl

theorem stop_any (ok : Nat → Nat → Bool) (c : UInt8) (t : List UInt8) (h : ∀ j, ok j c.toNat = false) : c :: t = [] ∨ ∃ d u, c :: t = d :: u ∧ ∀ j, ok j d.toNat = false := .inr ⟨c, t, rfl, h⟩
theorem stop_suf (ok : Nat → Nat → Bool) (suf : List UInt8) (h : ∀ j, ok j 44 = false) (hs : suf = [] ∨ ∃ t, suf = 44 :: t) : suf = [] ∨ ∃ d u, suf = d :: u ∧ ∀ j, ok j d.toNat = false := by
  rcases hs with rfl | ⟨t, rfl⟩
  · exact .inl rfl
  · exact .inr ⟨44, t, rfl, h⟩
theorem okName_44 (j : Nat) : okName j 44 = false := by simp [okName, letB, digB]
theorem okName_61 (j : Nat) : okName j 61 = false := by simp [okName, letB, digB]
theorem okName_33 (j : Nat) : okName j 33 = false := by simp [okName, letB, digB]
theorem okVal_44 (j : Nat) : okVal j 44 = false := by simp [okVal, letB, digB]

/-- A reader of a value reads each value that may be. -/
def ValTo (vf : List UInt8 → Nat → List UInt8 × Bool × Nat) (vb : List UInt8 → Bool) : Prop :=
  ∀ (v pre suf : List UInt8), vb v = true → (suf = [] ∨ ∃ t, suf = 44 :: t) → vf (pre ++ (v ++ suf)) pre.length = (v, true, pre.length + v.length)
theorem valF_to : ValTo valF valueB := by
  intro v pre suf hv hs
  obtain ⟨h0, h1⟩ := valueB_iff hv
  unfold valF
  rw [word_pre okVal pre v suf h1 (stop_suf okVal suf okVal_44 hs), take_pre]
  have : 0 < v.length := List.length_pos_iff.2 h0
  simp [this]
theorem anyF_to : ValTo anyF anyB := by
  intro v pre suf hv hs
  unfold anyF
  unfold anyB at hv
  by_cases h : v = [42]
  · subst h
    rw [if_pos (by rw [List.cons_append, List.nil_append, sign_pre]; rfl)]
    rfl
  · have hv : valueB v = true := by simpa [h] using hv
    obtain ⟨h0, h1⟩ := valueB_iff hv
    obtain ⟨b, t, rfl, hb⟩ := first_ok h0 h1
    have hne : b ≠ 42 := by
      rintro rfl
      exact absurd hb (by decide)
    rw [if_neg (by rw [List.cons_append, sign_pre]; simp [hne])]
    exact valF_to _ pre suf hv hs

theorem lab_to (vf : List UInt8 → Nat → List UInt8 × Bool × Nat) (vb : List UInt8 → Bool) (hv : ValTo vf vb) : StepTo (labF vf) labP (fun x => nameB x.1 && vb x.2) := by
  intro x pre suf hm hs
  obtain ⟨k, v⟩ := x
  rw [Bool.and_eq_true] at hm
  obtain ⟨h0, h1⟩ := nameB_iff hm.1
  have hl : pre ++ labP (k, v) ++ suf = pre ++ (k ++ (61 :: (v ++ suf))) := by simp [labP]
  have hl2 : pre ++ (k ++ (61 :: (v ++ suf))) = (pre ++ k ++ [61]) ++ (v ++ suf) := by simp
  have hl3 : pre ++ (k ++ (61 :: (v ++ suf))) = (pre ++ k) ++ 61 :: (v ++ suf) := by simp
  have hw := word_pre okName pre k (61 :: (v ++ suf)) h1 (stop_any okName 61 _ okName_61)
  have ht := take_pre pre k (61 :: (v ++ suf))
  have hsg := sign_pre (pre ++ k) (v ++ suf) 61 61
  rw [← hl3, List.length_append] at hsg
  have hvv := hv v (pre ++ k ++ [61]) suf hm.2 hs
  rw [← hl2] at hvv
  have ha : (pre ++ k ++ [61]).length = pre.length + k.length + 1 := by simp; omega
  rw [ha] at hvv
  rw [hl]
  unfold labF
  simp only
  rw [hw, if_neg (fun e => h0 (List.length_eq_zero_iff.1 e)), hsg, if_neg (by simp), ht, hvv]
  simp [labP]
  omega

theorem labF_to : StepTo (labF valF) labP labB := lab_to valF valueB valF_to
theorem borF_to : StepTo (labF anyF) labP borB := by
  have h := lab_to anyF anyB anyF_to
  rwa [borB_eq] at h

theorem terF_to : StepTo terF terP terB := by
  intro x pre suf hm hs
  obtain ⟨kd, k, v⟩ := x
  unfold terB at hm
  simp only at hm
  have notbang : ∀ (r : List UInt8), k ≠ [] → spanF okName k 0 = k.length → signL (pre ++ (k ++ r)) pre.length 33 = false := by
    intro r h0 h1
    obtain ⟨b, t, rfl, hb⟩ := first_ok h0 h1
    rw [List.cons_append, sign_pre]
    have : b ≠ 33 := by
      rintro rfl
      exact absurd hb (by decide)
    simp [this]
  by_cases h12 : kd = 1 ∨ kd = 2
  · rw [if_pos h12, Bool.and_eq_true] at hm
    obtain ⟨h0, h1⟩ := nameB_iff hm.1
    have hk0 : ¬ k.length = 0 := fun e => h0 (List.length_eq_zero_iff.1 e)
    rcases h12 with rfl | rfl
    · have hl : pre ++ terP (1, k, v) ++ suf = pre ++ (k ++ (61 :: (v ++ suf))) := by simp [terP]
      have hl2 : pre ++ (k ++ (61 :: (v ++ suf))) = (pre ++ k ++ [61]) ++ (v ++ suf) := by simp
      have hl3 : pre ++ (k ++ (61 :: (v ++ suf))) = (pre ++ k) ++ 61 :: (v ++ suf) := by simp
      have hw := word_pre okName pre k (61 :: (v ++ suf)) h1 (stop_any okName 61 _ okName_61)
      have ht := take_pre pre k (61 :: (v ++ suf))
      have hsg := sign_pre (pre ++ k) (v ++ suf) 61 61
      rw [← hl3, List.length_append] at hsg
      have hvv := valF_to v (pre ++ k ++ [61]) suf hm.2 hs
      rw [← hl2] at hvv
      have ha : (pre ++ k ++ [61]).length = pre.length + k.length + 1 := by simp; omega
      rw [ha] at hvv
      have hre : relF (pre ++ (k ++ (61 :: (v ++ suf)))) (pre.length + k.length) = (1, true, pre.length + k.length + 1) := by
        unfold relF
        rw [if_pos (by rw [hsg]; rfl)]
      rw [hl]
      unfold terF
      rw [notbang _ h0 h1, if_neg (by simp)]
      simp only
      rw [hw, if_neg hk0, hre]
      simp only
      rw [if_pos (by simp), ht, hvv]
      simp [terP]
      omega
    · have hl : pre ++ terP (2, k, v) ++ suf = pre ++ (k ++ (33 :: 61 :: (v ++ suf))) := by simp [terP]
      have hl2 : pre ++ (k ++ (33 :: 61 :: (v ++ suf))) = (pre ++ k ++ [33, 61]) ++ (v ++ suf) := by simp
      have hl3 : pre ++ (k ++ (33 :: 61 :: (v ++ suf))) = (pre ++ k) ++ 33 :: 61 :: (v ++ suf) := by simp
      have hl4 : pre ++ (k ++ (33 :: 61 :: (v ++ suf))) = (pre ++ k ++ [33]) ++ 61 :: (v ++ suf) := by simp
      have hw := word_pre okName pre k (33 :: 61 :: (v ++ suf)) h1 (stop_any okName 33 _ okName_33)
      have ht := take_pre pre k (33 :: 61 :: (v ++ suf))
      have hsg := sign_pre (pre ++ k) (61 :: (v ++ suf)) 33 61
      rw [← hl3, List.length_append] at hsg
      have hsh := sign_pre (pre ++ k) (61 :: (v ++ suf)) 33 33
      rw [← hl3, List.length_append] at hsh
      have hsi := sign_pre (pre ++ k ++ [33]) (v ++ suf) 61 61
      have hb : (pre ++ k ++ [33]).length = pre.length + k.length + 1 := by simp; omega
      rw [← hl4, hb] at hsi
      have hvv := valF_to v (pre ++ k ++ [33, 61]) suf hm.2 hs
      rw [← hl2] at hvv
      have ha : (pre ++ k ++ [33, 61]).length = pre.length + k.length + 2 := by simp; omega
      rw [ha] at hvv
      have hre : relF (pre ++ (k ++ (33 :: 61 :: (v ++ suf)))) (pre.length + k.length) = (2, true, pre.length + k.length + 2) := by
        unfold relF
        rw [if_neg (by rw [hsg]; decide), if_pos (by rw [hsh]; rfl), if_pos (by rw [hsi]; rfl)]
      rw [hl]
      unfold terF
      rw [notbang _ h0 h1, if_neg (by simp)]
      simp only
      rw [hw, if_neg hk0, hre]
      simp only
      rw [if_pos (by simp), ht, hvv]
      simp [terP]
      omega
  · rw [if_neg h12] at hm
    by_cases h34 : kd = 3 ∨ kd = 4
    · rw [if_pos h34, Bool.and_eq_true, decide_eq_true_eq] at hm
      obtain ⟨hm1, rfl⟩ := hm
      obtain ⟨h0, h1⟩ := nameB_iff hm1
      have hk0 : ¬ k.length = 0 := fun e => h0 (List.length_eq_zero_iff.1 e)
      rcases h34 with rfl | rfl
      · have hl : pre ++ terP (3, k, []) ++ suf = pre ++ (k ++ suf) := by simp [terP]
        have hw := word_pre okName pre k suf h1 (stop_suf okName suf okName_44 hs)
        have ht := take_pre pre k suf
        have hre : relF (pre ++ (k ++ suf)) (pre.length + k.length) = (3, true, pre.length + k.length) := by
          have hl3 : pre ++ (k ++ suf) = (pre ++ k) ++ suf := by simp
          unfold relF
          rw [hl3, ← List.length_append]
          rcases hs with rfl | ⟨t, rfl⟩
          · rw [sign_end, sign_end, if_neg (by simp), if_neg (by simp)]
          · rw [sign_pre, sign_pre, if_neg (by decide), if_neg (by decide)]
        rw [hl]
        unfold terF
        rw [notbang _ h0 h1, if_neg (by simp)]
        simp only
        rw [hw, if_neg hk0, hre]
        simp only
        rw [if_neg (by simp), ht]
        simp [terP]
      · have hl : pre ++ terP (4, k, []) ++ suf = pre ++ 33 :: (k ++ suf) := by simp [terP]
        have hl2 : pre ++ 33 :: (k ++ suf) = (pre ++ [33]) ++ (k ++ suf) := by simp
        have hw := word_pre okName (pre ++ [33]) k suf h1 (stop_suf okName suf okName_44 hs)
        have ht := take_pre (pre ++ [33]) k suf
        have hsg := sign_pre pre (k ++ suf) 33 33
        have ha : (pre ++ [33]).length = pre.length + 1 := by simp
        rw [← hl2, ha] at hw ht
        rw [hl]
        unfold terF
        rw [hsg, if_pos (by rfl), hw, ht]
        have hp : 0 < k.length := by omega
        simp [terP, hp]
        omega
    · rw [if_neg h34] at hm
      cases hm

theorem labP_ne (x : List UInt8 × List UInt8) : labP x ≠ [] := by simp [labP]
theorem terP_ne (x : Int × List UInt8 × List UInt8) (h : terB x = true) : terP x ≠ [] := by
  obtain ⟨kd, k, v⟩ := x
  unfold terB at h
  unfold terP
  simp only at h ⊢
  split
  · simp
  · split
    · simp
    · split
      · rename_i h1 h2 h3
        rw [if_neg (by omega), if_pos (.inl h3), Bool.and_eq_true] at h
        exact (nameB_iff h.1).1
      · simp

/-- What may be is read of its text as it was. -/
theorem readLab_print (r : List (List UInt8 × List UInt8)) (h : chkA labB keyR r = 0) : readA (labF valF) keyR (printA labP r) = (r, 0, 0) := readA_print _ _ _ _ labF_to (fun x _ => labP_ne x) r h
theorem readBor_print (r : List (List UInt8 × List UInt8)) (h : chkA borB pairR r = 0) : readA (labF anyF) pairR (printA labP r) = (r, 0, 0) := readA_print _ _ _ _ borF_to (fun x _ => labP_ne x) r h
theorem readTer_print (r : List (Int × List UInt8 × List UInt8)) (h : chkA terB anyR r = 0) : readA terF anyR (printA terP r) = (r, 0, 0) := readA_print _ _ _ _ terF_to terP_ne r h

end Go.Proofs.Yteclbkjonaildaa
