/- What Print makes of a row is what Parse reads as that row: plain lists and numbers. Condition: the row may be. -/
import Derived.Test.YtgmecaaogmpakaaDoorVecParse
import Derived.Test.YtgmecaaogmpakaaDoorVecPrint
namespace Go.Proofs.YtgmecaaogmpakaaDoor
open Go.RowKit

theorem dec_no (c : UInt8) (hc : c.toNat < 48) : ∀ u : Nat, ∀ b ∈ Lib.decDigits u, b ≠ c := by
  intro u
  induction u using Nat.strongRecOn with
  | ind u ih =>
    intro b hb
    have one : ∀ d : Nat, d < 10 → UInt8.ofNat (48 + d) ≠ c := by
      intro d hd e
      have h2 := congrArg UInt8.toNat e
      simp at h2
      omega
    by_cases h : u < 10
    · rw [Lib.decDigits_one h] at hb
      simp only [List.mem_singleton] at hb
      subst hb
      exact one u h
    · rw [Lib.decDigits, dif_neg h] at hb
      simp only [List.mem_append, List.mem_singleton] at hb
      rcases hb with hb | hb
      · exact ih (u / 10) (by omega) b hb
      · subst hb
        exact one (u % 10) (by omega)
theorem milli_no (n : Int) : ∀ b ∈ milliL n, b ≠ 44 := by
  intro b hb
  unfold milliL dec at hb
  split at hb
  · exact dec_no 44 (by decide) _ b hb
  · simp only [List.mem_append, List.mem_singleton] at hb
    rcases hb with hb | rfl
    · exact dec_no 44 (by decide) _ b hb
    · decide
theorem whole_no (n : Int) : ∀ b ∈ wholeL n, b ≠ 44 := by
  intro b hb
  unfold wholeL dec at hb
  repeat' (split at hb)
  · simp only [List.mem_singleton] at hb
    subst hb
    decide
  · simp only [List.mem_append, List.mem_cons, List.not_mem_nil, or_false] at hb
    rcases hb with hb | rfl | rfl
    · exact dec_no 44 (by decide) _ b hb
    · decide
    · decide
  · simp only [List.mem_append, List.mem_cons, List.not_mem_nil, or_false] at hb
    rcases hb with hb | rfl | rfl
    · exact dec_no 44 (by decide) _ b hb
    · decide
    · decide
  · simp only [List.mem_append, List.mem_cons, List.not_mem_nil, or_false] at hb
    rcases hb with hb | rfl | rfl
    · exact dec_no 44 (by decide) _ b hb
    · decide
    · decide
  · exact dec_no 44 (by decide) _ b hb
theorem print_no (n : Int) (m : Bool) : ∀ b ∈ (printL n m).1, b ≠ 44 := by
  unfold printL
  split
  · intro b hb; cases hb
  · cases m
    · exact whole_no n
    · exact milli_no n

theorem findB_skip (c : UInt8) : ∀ (a b : List UInt8), (∀ y ∈ a, y ≠ c) → findB c (a ++ b) = a.length + findB c b
  | [], b, _ => by simp
  | x :: a, b, h => by
    have h1 : x ≠ c := h x (by simp)
    rw [List.cons_append, findB, if_neg h1, findB_skip c a b (fun y hy => h y (by simp [hy]))]
    simp
    omega
theorem findB_here (c : UInt8) (b : List UInt8) : findB c (c :: b) = 0 := by rw [findB, if_pos rfl]
theorem name_no (k : Nat) : ∀ b ∈ nameL k, b ≠ 61 := by
  unfold nameL
  split <;> decide
theorem place_name (k next : Nat) (hk : k < 5) (hn : next ≤ k) : placeL (nameL k) next = (k : Int) := by
  have hk : k = 0 ∨ k = 1 ∨ k = 2 ∨ k = 3 ∨ k = 4 := by omega
  have hm : next = 0 ∨ next = 1 ∨ next = 2 ∨ next = 3 ∨ next = 4 := by omega
  rcases hk with rfl | rfl | rfl | rfl | rfl <;> rcases hm with rfl | rfl | rfl | rfl | rfl <;> first | rfl | (exfalso; omega)

/-- A part at its place is read as it was. -/
theorem part_read (l : List UInt8) (a next k : Nat) (n : Int) (t r : List UInt8) (hal : a ≤ l.length) (hd : l.drop a = nameL k ++ [61] ++ t ++ r) (hr : r = [] ∨ ∃ u, r = 44 :: u) (ht : ∀ b ∈ t, b ≠ 44)
    (hk : k < 5) (hn : next ≤ k) (hp : parseL ⟨t.toArray⟩ (decide (k = 0)) = (n, 0, 0)) (h0 : n ≠ 0) :
    partL l a next = (((k : Int), n, ((a + (nameL k).length + 1 + t.length : Nat) : Int)), 0, 0) := by
  have hlen : l.length = a + ((nameL k).length + 1 + t.length + r.length) := by
    have h := congrArg List.length hd
    simp only [List.length_drop, List.length_append, List.length_cons, List.length_nil] at h
    omega
  have hq : upToL l a 61 = a + (nameL k).length := by
    unfold upToL
    rw [hd, List.append_assoc, List.append_assoc, findB_skip 61 (nameL k) _ (name_no k), List.singleton_append, findB_here]
    rfl
  have hnm : (l.drop a).take (upToL l a 61 - a) = nameL k := by
    rw [hq, hd, Nat.add_sub_cancel_left, List.append_assoc, List.append_assoc, List.take_left']
    rfl
  have hd2 : l.drop (a + (nameL k).length + 1) = t ++ r := by
    rw [Nat.add_assoc, ← List.drop_drop, hd, List.append_assoc]
    exact List.drop_left' (by simp)
  have hz : upToL l (a + (nameL k).length + 1) 44 = a + (nameL k).length + 1 + t.length := by
    unfold upToL
    rw [hd2, findB_skip 44 t r ht]
    rcases hr with rfl | ⟨u, rfl⟩
    · rfl
    · rw [findB_here]
      rfl
  have htk : (l.drop (a + (nameL k).length + 1)).take (a + (nameL k).length + 1 + t.length - (a + (nameL k).length + 1)) = t := by
    rw [hd2, Nat.add_sub_cancel_left]
    exact List.take_left' rfl
  unfold partL
  rw [if_neg (by omega)]
  simp only
  rw [hnm, place_name k next hk hn, if_neg (by omega), hq, if_neg (by omega), hz, htk]
  have hdk : decide ((k : Int) = 0) = decide (k = 0) := by
    by_cases g : k = 0 <;> simp [g]
  rw [hdk, hp]
  simp only
  rw [if_neg (by simp), if_neg h0]

/-- The row with these places as x has them. -/
def laidR (x : Nat → Int) : List Nat → (Nat → Int) → Nat → Int
  | [], v => v
  | k :: ks, v => laidR x ks (upd v k (x k))
theorem laidR_at (x : Nat → Int) : ∀ (ks : List Nat) (v : Nat → Int) (j : Nat), laidR x ks v j = if j ∈ ks then x j else v j
  | [], v, j => by simp [laidR]
  | k :: ks, v, j => by
    rw [laidR, laidR_at x ks]
    unfold upd
    by_cases h1 : j ∈ ks
    · simp [h1]
    · by_cases h2 : j = k
      · subst h2; simp
      · simp [h1, h2]

/-- Places, each behind the one ahead. -/
def Rise : Nat → List Nat → Prop
  | _, [] => True
  | m, k :: ks => m ≤ k ∧ k < 5 ∧ Rise (k + 1) ks

theorem join_two (a b : List UInt8) (r : List (List UInt8)) : Lib.join (a :: b :: r) [44] = a ++ [44] ++ Lib.join (b :: r) [44] := by simp [Lib.join, List.intercalate, List.intersperse]
theorem join_single (a : List UInt8) : Lib.join [a] [44] = a := by simp [Lib.join, List.intercalate]

theorem parse_parts (x : Nat → Int) (hx : ∀ j, j < 5 → 0 ≤ x j ∧ x j ≤ top) (l : List UInt8) : ∀ (ks : List Nat) (k next a f : Nat) (v : Nat → Int), Rise next (k :: ks) → (∀ j ∈ k :: ks, x j ≠ 0) → a ≤ l.length → (k :: ks).length ≤ f →
    l.drop a = Lib.join ((k :: ks).map (partT x)) [44] → parseF l f v a next = (laidR x (k :: ks) v, 0, 0)
  | ks, k, next, a, f, v, hr, hne, hal, hf, hd => by
    obtain ⟨g, rfl⟩ : ∃ g, f = g + 1 := ⟨f - 1, by simp at hf; omega⟩
    obtain ⟨h1, h2, h3⟩ := hr
    obtain ⟨x0, x1⟩ := hx k h2
    have hn0 : x k ≠ 0 := hne k (by simp)
    unfold top at x1
    obtain ⟨t, hpt, hpp⟩ := back_print (x k) (decide (k = 0)) x0 x1
    have hp : partT x k = nameL k ++ [61] ++ t := by unfold partT; rw [hpt]
    have ht : ∀ b ∈ t, b ≠ 44 := by
      have h := print_no (x k) (decide (k = 0))
      rw [hpt] at h
      exact h
    cases ks with
    | nil =>
      have hd' : l.drop a = nameL k ++ [61] ++ t ++ [] := by rw [hd, List.map_cons, List.map_nil, join_single, hp, List.append_nil]
      have hlen : l.length = a + ((nameL k).length + 1 + t.length) := by
        have h := congrArg List.length hd'
        simp only [List.length_drop, List.length_append, List.length_cons, List.length_nil] at h
        omega
      rw [parseF, part_read l a next k (x k) t [] hal hd' (.inl rfl) ht h2 h1 hpp hn0]
      simp only
      rw [if_neg (by simp), if_pos (by omega)]
      rfl
    | cons k2 ks =>
      have hd' : l.drop a = nameL k ++ [61] ++ t ++ (44 :: Lib.join ((k2 :: ks).map (partT x)) [44]) := by
        rw [hd, List.map_cons, List.map_cons, join_two, hp]
        simp
      have hlen : l.length = a + ((nameL k).length + 1 + t.length + (1 + (Lib.join ((k2 :: ks).map (partT x)) [44]).length)) := by
        have h := congrArg List.length hd'
        simp only [List.length_drop, List.length_append, List.length_cons, List.length_nil] at h
        rw [List.map_cons]
        simp only [List.map_cons] at h
        omega
      rw [parseF, part_read l a next k (x k) t _ hal hd' (.inr ⟨_, rfl⟩) ht h2 h1 hpp hn0]
      simp only
      rw [if_neg (by simp), if_neg (by omega)]
      have hd2 : l.drop (a + (nameL k).length + 1 + t.length + 1) = Lib.join ((k2 :: ks).map (partT x)) [44] := by
        have e : a + (nameL k).length + 1 + t.length + 1 = a + ((nameL k ++ [61] ++ t ++ [44]).length) := by simp; omega
        rw [e, ← List.drop_drop, hd', show nameL k ++ [61] ++ t ++ (44 :: Lib.join ((k2 :: ks).map (partT x)) [44]) = (nameL k ++ [61] ++ t ++ [44]) ++ Lib.join ((k2 :: ks).map (partT x)) [44] by simp]
        exact List.drop_left' rfl
      simp only [Int.toNat_natCast]
      rw [parse_parts x hx l ks k2 (k + 1) (a + (nameL k).length + 1 + t.length + 1) g (upd v k (x k)) h3 (fun j hj => hne j (by simp [hj])) (by omega) (by simp at hf ⊢; omega) hd2]
      rfl

/-- The places that are not 0, of the first k. -/
def ones (x : Nat → Int) : Nat → List Nat
  | 0 => []
  | k + 1 => if x k = 0 then ones x k else ones x k ++ [k]
theorem parts_ones (x : Nat → Int) : ∀ k, partsT x k = (ones x k).map (partT x)
  | 0 => rfl
  | k + 1 => by
    rw [partsT, ones, parts_ones x k]
    split
    · rfl
    · simp
theorem ones_mem (x : Nat → Int) : ∀ k j, j ∈ ones x k ↔ j < k ∧ x j ≠ 0
  | 0, j => by simp [ones]
  | k + 1, j => by
    rw [ones]
    by_cases h : x k = 0
    · rw [if_pos h, ones_mem x k]
      constructor
      · rintro ⟨a, b⟩; exact ⟨by omega, b⟩
      · rintro ⟨a, b⟩
        refine ⟨?_, b⟩
        rcases Nat.lt_or_eq_of_le (Nat.le_of_lt_succ a) with g | rfl
        · exact g
        · exact absurd h b
    · rw [if_neg h, List.mem_append, ones_mem x k, List.mem_singleton]
      constructor
      · rintro (⟨a, b⟩ | rfl)
        · exact ⟨by omega, b⟩
        · exact ⟨by omega, h⟩
      · rintro ⟨a, b⟩
        rcases Nat.lt_or_eq_of_le (Nat.le_of_lt_succ a) with g | rfl
        · exact .inl ⟨g, b⟩
        · exact .inr rfl
theorem rise_snoc : ∀ (ks : List Nat) (m k : Nat), Rise m ks → (∀ j ∈ ks, j < k) → m ≤ k → k < 5 → Rise m (ks ++ [k])
  | [], m, k, _, _, h, h5 => ⟨h, h5, trivial⟩
  | j :: ks, m, k, ⟨h1, h2, h3⟩, hj, h, h5 => ⟨h1, h2, rise_snoc ks (j + 1) k h3 (fun i hi => hj i (by simp [hi])) (hj j (by simp)) h5⟩
theorem ones_rise (x : Nat → Int) : ∀ k, k ≤ 5 → Rise 0 (ones x k)
  | 0, _ => trivial
  | k + 1, h => by
    rw [ones]
    split
    · exact ones_rise x k (by omega)
    · exact rise_snoc _ 0 k (ones_rise x k (by omega)) (fun j hj => ((ones_mem x k j).1 hj).1) (by omega) (by omega)
theorem ones_len (x : Nat → Int) : ∀ k, (ones x k).length ≤ k
  | 0 => Nat.le_refl _
  | k + 1 => by
    rw [ones]
    have := ones_len x k
    split
    · omega
    · simp; omega

/-- What was printed is parsed as it was. -/
theorem backV (x : Nat → Int) (hx : ∀ j, j < 5 → 0 ≤ x j ∧ x j ≤ top) : (∀ k, k < 5 → (parseV (Lib.join (partsT x 5) [44])).1 k = x k) ∧ (parseV (Lib.join (partsT x 5) [44])).2 = (0, 0) := by
  rw [parts_ones]
  have hm := ones_mem x 5
  have hr := ones_rise x 5 (Nat.le_refl _)
  have hl := ones_len x 5
  cases ho : ones x 5 with
  | nil =>
    have e : Lib.join (([] : List Nat).map (partT x)) [44] = [] := by simp [Lib.join, List.intercalate]
    rw [e]
    unfold parseV
    rw [if_pos rfl]
    refine ⟨fun k hk => ?_, rfl⟩
    have h := hm k
    rw [ho] at h
    by_cases g : x k = 0
    · exact g.symm
    · have := h.2 ⟨hk, g⟩
      cases this
  | cons k ks =>
    rw [ho] at hr hl
    have hne : Lib.join ((k :: ks).map (partT x)) [44] ≠ [] := by
      cases ks with
      | nil =>
        rw [List.map_cons, List.map_nil, join_single]
        unfold partT nameL
        split <;> simp
      | cons k2 ks =>
        rw [List.map_cons, List.map_cons, join_two]
        simp
    unfold parseV
    rw [if_neg hne, parse_parts x hx _ ks k 0 0 6 (fun _ => 0) hr (fun j hj => by have h := (hm j); rw [ho] at h; exact (h.1 hj).2) (by omega) (by omega) (by simp)]
    refine ⟨fun j hj => ?_, rfl⟩
    show laidR x (k :: ks) (fun _ => 0) j = x j
    rw [laidR_at]
    have h := hm j
    rw [ho] at h
    by_cases g : j ∈ k :: ks
    · rw [if_pos g]
    · rw [if_neg g]
      by_cases g2 : x j = 0
      · exact g2.symm
      · exact absurd (h.2 ⟨hj, g2⟩) g

end Go.Proofs.YtgmecaaogmpakaaDoor
