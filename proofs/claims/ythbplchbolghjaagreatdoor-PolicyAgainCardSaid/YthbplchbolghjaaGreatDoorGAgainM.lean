/- A text with a comment ahead, lines doubled, lines in another order: what Parse makes of them: plain mathematics. No conditions. -/
import Derived.Test.YthbplchbolghjaaGreatDoorGBackA
namespace Go.Proofs.YthbplchbolghjaaGreatDoor
open Go.RowKit

theorem runG_split : ∀ (a b : List UInt8) (s t : Sc.RS), runG s (a ++ b) = some t → ∃ u, runG s a = some u ∧ runG u b = some t
  | [], _, s, _, h => ⟨s, rfl, h⟩
  | c :: a, b, s, t, h => by
    rw [List.cons_append, runG] at h
    split at h
    · rename_i h0
      obtain ⟨u, h1, h2⟩ := runG_split a b _ t h
      exact ⟨u, by rw [runG, if_pos h0]; exact h1, h2⟩
    · cases h
/-- The words of a text that is read whole. -/
theorem words_run {p : List UInt8} {s t : Sc.RS} {ws : List Sc.W4} (ha : ∀ b ∈ p, b.toNat < 128) (hl : p.length ≤ 65536) (hr : runG Sc.rs0 p = some s) (he : runG s [10] = some t) (hw : t.words = ws) : Sc.wordsF p = (ws, 0, 0, 0) := by
  unfold Sc.wordsF
  rw [if_neg (by omega)]
  have e := scan_run p p [] [] 1 Sc.rs0 s ha (by simp) hr
  simp only [List.length_nil, Nat.zero_add] at e
  rw [e, Sc.scanF, if_neg (by omega)]
  have he' : (if (Sc.readF s 10).2 = 0 then some (Sc.readF s 10).1 else none) = some t := he
  cases hx : Sc.readF s 10 with
  | mk q z =>
    rw [hx] at he'
    simp only at he'
    split at he'
    · rename_i h0
      simp only [Option.some.injEq] at he'
      subst he' h0
      simp only [if_true]
      rw [hw]
    · cases he'
theorem btw_nl {s : Sc.RS} {ln c : Nat} {ws : List Sc.W4} (h : Btw s ln c ws) : ∃ s', runG s [10] = some s' ∧ Btw s' (ln + 1) 1 ws := by
  have hs : Sc.stepF s 10 = (s, 0) := by
    unfold Sc.stepF
    rw [h.mode]
    simp [Sc.betF]
  have hr : Sc.readF s 10 = (Sc.advF s 10, 0) := by
    unfold Sc.readF
    rw [hs]
    rfl
  refine ⟨Sc.advF s 10, ?_, ?_, ?_, rfl, ?_⟩
  · show (if (Sc.readF s 10).2 = 0 then runG (Sc.readF s 10).1 [] else none) = _
    rw [hr]
    rfl
  · exact h.mode
  · show s.line + 1 = _
    rw [h.line]
  · exact h.words
/-- The comment that the law lays ahead. -/
def firstT : List UInt8 := [32, 35, 32, 102, 105, 114, 115, 116, 10]
theorem first_run : ∃ s, runG Sc.rs0 firstT = some s ∧ Btw s 2 1 [] := ⟨_, rfl, rfl, rfl, rfl, rfl⟩

/-- Lines that come too late. -/
def Late (g : Pol) (M : List (List Tok)) : Prop := ∀ i, i < 7 → lineI g i = [] → restL g (i + 1) = [] → M = [] ∨ ∃ j r M', j < 7 ∧ j ≠ i ∧ M = (((1 : Int), keysL.getD j []) :: r) :: M'
theorem begin_late {g : Pol} {s : PR} {ln i : Nat} {M : List (List Tok)} (hi : i < 7) (hne : lineI g i = []) (hM : Late g M) (h : s.rest = rowsW ln (restL g (i + 1) ++ M)) : beginP s (keysL.getD i []) = (false, s) := by
  unfold beginP
  rw [h]
  cases hL : restL g (i + 1) with
  | nil =>
    rcases hM i hi hne hL with rfl | ⟨j, r, M', hj, hji, rfl⟩
    · rfl
    · show (if (1 : Int) = 1 ∧ keysL.getD j [] = keysL.getD i [] then _ else _) = _
      rw [if_neg (fun e => keys_apart ⟨j, hj⟩ ⟨i, hi⟩ (by simpa using hji) e.2)]
  | cons l L =>
    obtain ⟨hne, j, hj, hj7, rfl⟩ := rest_mem (g := g) (i := i + 1) (l := l) (by rw [hL]; exact List.mem_cons_self ..)
    obtain ⟨r, hr⟩ := lineI_head hne
    rw [hr]
    show (if (1 : Int) = 1 ∧ keysL.getD j [] = keysL.getD i [] then _ else _) = _
    rw [if_neg (fun e => keys_apart ⟨j, hj7⟩ ⟨i, hi⟩ (by simp; omega) e.2)]
theorem step_late {g : Pol} (hc : checkG g = 0) {i : Nat} (hi : i < 7) {M : List (List Tok)} (hM : Late g M) {s : PR} {ln : Nat} (hr : s.rest = rowsW ln (restL g i ++ M)) (hg : s.goal = partG g i) :
    ∃ z ln', stepP i s = (true, z) ∧ z.rest = rowsW ln' (restL g (i + 1) ++ M) ∧ z.goal = partG g (i + 1) ∧ ln' + (restL g (i + 1)).length = ln + (restL g i).length := by
  by_cases hne : lineI g i = []
  · refine ⟨s, ln, ?_, by rw [hr, rest_none hi hne], by rw [hg, line_off hi hne], by rw [rest_none hi hne]⟩
    unfold stepP
    rw [begin_late hi hne hM (by rw [hr, rest_none hi hne])]
  · obtain ⟨r, hh⟩ := lineI_head hne
    have hb := begin_yes (s := s) (ln := ln) (key := keysL.getD i []) (r := r) (L := restL g (i + 1) ++ M) (by rw [hr, rest_some hi hne, hh]; rfl)
    unfold stepP
    rw [hb]
    simp only
    obtain ⟨a1, a2, a3, a4, a5⟩ := line_back hc hi (ln := ln) (s := { s with line := rowW ln 1 ((1, keysL.getD i []) :: r), at_ := 1, rest := rowsW (ln + 1) (restL g (i + 1) ++ M) }) hne (by show rowW _ _ _ = _; rw [hh]) rfl hg
    generalize lineP i { s with line := rowW ln 1 ((1, keysL.getD i []) :: r), at_ := 1, rest := rowsW (ln + 1) (restL g (i + 1) ++ M) } = x at a1 a2 a3 a4 a5
    obtain ⟨b, z⟩ := x
    simp only at a1 a2 a3 a4 a5
    subst a1
    refine ⟨z, ln + 1, ?_, a3, a5, by rw [rest_some hi hne, List.length_cons]; omega⟩
    simp only
    unfold endP
    rw [a2, a4, List.getElem?_eq_none (Nat.le_refl _)]
theorem lines_late {g : Pol} (hc : checkG g = 0) {M : List (List Tok)} (hM : Late g M) {s : PR} {l0 : Nat} (hr : s.rest = rowsW l0 (restL g 0 ++ M)) (hg : s.goal = pol0) :
    ∀ k, k ≤ 7 → ∃ z ln, linesK s k = (true, z) ∧ z.rest = rowsW ln (restL g k ++ M) ∧ z.goal = partG g k ∧ ln + (restL g k).length = l0 + (restL g 0).length
  | 0, _ => ⟨s, l0, rfl, hr, hg, rfl⟩
  | k + 1, hk => by
    obtain ⟨z, ln, h1, h2, h3, h4⟩ := lines_late hc hM hr hg k (by omega)
    obtain ⟨z', ln', e1, e2, e3, e4⟩ := step_late hc (by omega) hM h2 h3
    exact ⟨z', ln', by rw [linesK, h1]; exact e1, e2, e3, by omega⟩
/-- A policy's lines alone. -/
theorem parse_rows {g : Pol} (hc : checkG g = 0) {p : List UInt8} {l0 : Nat} (hw : Sc.wordsF p = (rowsW l0 (restL g 0), 0, 0, 0)) : parseP p = (g, 0, 0, 0) := by
  obtain ⟨z, ln, h1, h2, h3, _⟩ := lines_late hc (M := []) (fun _ _ _ _ => .inl rfl) (s := pr0 (rowsW l0 (restL g 0))) (l0 := l0) (by rw [List.append_nil]; rfl) rfl 7 (Nat.le_refl _)
  unfold parseP
  rw [hw]
  simp only
  rw [if_neg (by simp)]
  have hr : readP (pr0 (rowsW l0 (restL g 0))) = (true, z) := by
    unfold readP
    rw [h1]
    simp only
    rw [h2, rest_end]
    rfl
  rw [hr]
  simp only
  rw [h3, part_all, hc, if_pos rfl]
/-- A line too late. -/
theorem parse_late {g : Pol} (hc : checkG g = 0) {p : List UInt8} {l0 : Nat} {y : Tok} {r : List Tok} {M : List (List Tok)} (hM : Late g ((y :: r) :: M)) (hw : Sc.wordsF p = (rowsW l0 (restL g 0 ++ ((y :: r) :: M)), 0, 0, 0)) :
    parseP p = (pol0, ((l0 + (restL g 0).length : Nat) : Int), 1, 4) := by
  obtain ⟨z, ln, h1, h2, h3, h4⟩ := lines_late hc hM (s := pr0 (rowsW l0 (restL g 0 ++ ((y :: r) :: M)))) (l0 := l0) rfl rfl 7 (Nat.le_refl _)
  rw [rest_end, List.nil_append] at h2
  rw [rest_end, List.length_nil, Nat.add_zero] at h4
  unfold parseP
  rw [hw]
  simp only
  rw [if_neg (by simp)]
  have hr : readP (pr0 (rowsW l0 (restL g 0 ++ ((y :: r) :: M)))) = (false, failP z (y.1, y.2, ln, 1) 4) := by
    unfold readP
    rw [h1]
    simp only
    rw [h2]
    rfl
  rw [hr]
  simp only
  rw [← h4]
  rfl

theorem lines_ok {g : Pol} (hc : checkG g = 0) {i : Nat} : ∀ l ∈ restL g i, l ≠ [] ∧ l.all tokB = true := fun l hl => by
  obtain ⟨hne, j, _, hj, rfl⟩ := rest_mem hl
  exact ⟨hne, toks_ok hc hj⟩
/-- With a comment ahead, and ends of lines behind. -/
theorem parse_first {g : Pol} (hc : checkG g = 0) : parseP (firstT ++ textK g 7 ++ [10, 10]) = (g, 0, 0, 0) := by
  have hlen := textK_len hc 7
  rw [text_rest] at hlen ⊢
  have hok := lines_ok hc (i := 0)
  obtain ⟨s1, r1, b1⟩ := first_run
  obtain ⟨s2, n, r2, b2⟩ := rows_run (restL g 0) s1 2 [] b1 hok
  obtain ⟨s3, r3, b3⟩ := btw_nl b2
  obtain ⟨s4, r4, b4⟩ := btw_nl b3
  obtain ⟨s5, r5, b5⟩ := btw_nl b4
  refine parse_rows hc (l0 := 2) (words_run (s := s4) (t := s5) ?_ ?_ ?_ r5 ?_)
  · intro b hb
    simp only [List.mem_append] at hb
    rcases hb with (hb | hb) | hb
    · revert b
      decide
    · exact rows_ascii hok b hb
    · revert b
      decide
  · simp only [List.length_append, firstT, List.length_cons, List.length_nil]
    omega
  · rw [List.append_assoc, runG_app _ _ _ _ r1, runG_app _ _ _ _ r2, show ([10, 10] : List UInt8) = [10] ++ [10] from rfl, runG_app _ _ _ _ r3, r4]
  · rw [b5.words, List.nil_append]
/-- Lines doubled. -/
theorem late_twice {g : Pol} : Late g (restL g 0) := fun i _ hne _ => by
  cases hL : restL g 0 with
  | nil => exact .inl rfl
  | cons l L =>
    obtain ⟨hl, j, _, hj7, rfl⟩ := rest_mem (g := g) (i := 0) (l := l) (by rw [hL]; exact List.mem_cons_self ..)
    obtain ⟨r, hr⟩ := lineI_head hl
    exact .inr ⟨j, r, L, hj7, fun e => by subst e; exact hl hne, by rw [hr]⟩
theorem parse_twice {g : Pol} (hc : checkG g = 0) (h : 0 < (restL g 0).length) : parseP (textK g 7 ++ textK g 7) = (pol0, (((restL g 0).length : Nat) : Int) + 1, 1, 4) := by
  have hlen := textK_len hc 7
  rw [text_rest] at hlen ⊢
  have hok := lines_ok hc (i := 0)
  have hw := rows_words (restL g 0 ++ restL g 0) (fun l hl => by
    rcases List.mem_append.1 hl with hl | hl
    · exact hok l hl
    · exact hok l hl) (by rw [List.flatMap_append, List.length_append]; omega)
  rw [List.flatMap_append] at hw
  have hM := late_twice (g := g)
  cases hL : restL g 0 with
  | nil => rw [hL] at h; simp at h
  | cons l L =>
    cases l with
    | nil => exact absurd rfl (hok [] (by rw [hL]; exact List.mem_cons_self ..)).1
    | cons y r =>
      rw [hL] at hM
      have := parse_late hc (l0 := 1) hM (p := (restL g 0).flatMap rowT ++ (restL g 0).flatMap rowT) (by rw [hw]; congr 2; rw [hL])
      rw [hL] at this
      rw [this]
      congr 2
      omega

/-- The first line that stands. -/
theorem first_line {g : Pol} : ∀ (n k : Nat), 7 - k = n → restL g k ≠ [] → ∃ j, k ≤ j ∧ j < 7 ∧ (∀ i, k ≤ i → i < j → lineI g i = []) ∧ lineI g j ≠ [] ∧ restL g k = lineI g j :: restL g (j + 1)
  | 0, k, hn, h => by
    exfalso
    apply h
    unfold restL
    rw [hn]
    rfl
  | n + 1, k, hn, h => by
    by_cases hne : lineI g k = []
    · rw [rest_none (by omega) hne] at h
      obtain ⟨j, h1, h2, h3, h4, h5⟩ := first_line n (k + 1) (by omega) h
      refine ⟨j, by omega, h2, fun i hi hij => ?_, h4, by rw [rest_none (by omega) hne, h5]⟩
      by_cases hik : i = k
      · rw [hik]; exact hne
      · exact h3 i (by omega) hij
    · exact ⟨k, Nat.le_refl _, by omega, fun i hi hij => by omega, hne, rest_some (by omega) hne⟩
/-- A policy without what line j says. -/
def dropG (g : Pol) (j : Nat) : Pol := ⟨if j = 0 then 0 else g.l0, if j = 0 then 0 else g.l1, if j = 1 then 0 else g.h0, if j = 1 then 0 else g.h1, if j = 2 then 0 else g.on, if j = 3 then [] else g.drain, if j = 4 then 0 else g.mx, if j = 5 then 0 else g.tr, if j = 6 then false else g.rb⟩
theorem drop_line {g : Pol} {i j : Nat} (hi : i < 7) (hj : j < 7) : lineI (dropG g j) i = if i = j then [] else lineI g i := by
  obtain rfl | rfl | rfl | rfl | rfl | rfl | rfl : j = 0 ∨ j = 1 ∨ j = 2 ∨ j = 3 ∨ j = 4 ∨ j = 5 ∨ j = 6 := by omega
  all_goals
    obtain rfl | rfl | rfl | rfl | rfl | rfl | rfl : i = 0 ∨ i = 1 ∨ i = 2 ∨ i = 3 ∨ i = 4 ∨ i = 5 ∨ i = 6 := by omega
    all_goals rfl
theorem drop_check {g : Pol} {j : Nat} (hj : j < 7) (hc : checkG g = 0) (h : ∀ i, i < j → lineI g i = []) : checkG (dropG g j) = 0 := by
  obtain ⟨hsh, ho, ⟨hd, hn⟩, hm, ht⟩ := polB_all hc
  simp only [sharesB, upB, Bool.and_eq_true, decide_eq_true_eq] at hsh
  have hlo : j = 1 → g.l0 = 0 ∧ g.l1 = 0 := fun e => by
    have := h 0 (by omega)
    have h2 : (if (g.l0 != 0 || g.l1 != 0) = true then ((1 : Int), keysL.getD 0 []) :: [(kindI 0, (Qu.pctL g.l0).1), (kindI 0, (Qu.pctL g.l1).1)] else []) = [] := this
    split at h2
    · cases h2
    · rename_i hx
      simpa using hx
  unfold checkG
  rw [if_pos]
  unfold polB
  simp only [sharesB, drainB, upB, Bool.and_eq_true, decide_eq_true_eq]
  unfold dropG
  obtain rfl | rfl | rfl | rfl | rfl | rfl | rfl : j = 0 ∨ j = 1 ∨ j = 2 ∨ j = 3 ∨ j = 4 ∨ j = 5 ∨ j = 6 := by omega
  all_goals simp
  all_goals first
    | (refine ⟨⟨⟨⟨?_, ?_⟩, ?_, ?_⟩, ?_⟩, ?_⟩ <;> first | omega | assumption | exact ⟨by omega, by omega⟩)
    | exact ⟨⟨⟨⟨hsh, ho⟩, rfl⟩, hm⟩, ht⟩
theorem drop_rest {g : Pol} {j : Nat} (hj : j < 7) (h : ∀ i, i < j → lineI g i = []) : restL (dropG g j) 0 = restL g (j + 1) := by
  have h1 : ∀ k, k ≤ j + 1 → restL (dropG g j) 0 = restL (dropG g j) k := fun k => by
    induction k with
    | zero => intro _; rfl
    | succ k ih =>
      intro hk
      rw [ih (by omega)]
      refine rest_none (by omega) ?_
      rw [drop_line (by omega) hj]
      by_cases hkj : k = j
      · rw [if_pos hkj]
      · rw [if_neg hkj]
        exact h k (by omega)
  rw [h1 (j + 1) (Nat.le_refl _)]
  unfold restL
  congr 1
  refine List.map_congr_left (fun i hi => ?_)
  rw [List.mem_range'_1] at hi
  rw [drop_line (by omega) hj, if_neg (by omega)]
/-- A line without its end. -/
def openT (l : List Tok) : List UInt8 := match l with
  | [] => []
  | x :: r => x.2 ++ wordsT (r.map (·.2))
theorem open_row {l : List Tok} (h : l ≠ []) : openT l ++ [10] = rowT l := by
  cases l with
  | nil => exact absurd rfl h
  | cons x r => rfl
/-- The first line put behind the others. -/
theorem parse_turned {g : Pol} (hc : checkG g = 0) {j : Nat} (hj : j < 7) (h : ∀ i, i < j → lineI g i = []) (hne : lineI g j ≠ []) (hr : restL g (j + 1) ≠ []) :
    parseP ((restL g (j + 1)).flatMap rowT ++ openT (lineI g j)) = (pol0, (((restL g (j + 1)).length : Nat) : Int) + 1, 1, 4) := by
  have hok : ∀ l ∈ restL g (j + 1) ++ [lineI g j], l ≠ [] ∧ l.all tokB = true := fun l hl => by
    rcases List.mem_append.1 hl with hl | hl
    · exact lines_ok hc l hl
    · rw [List.mem_singleton] at hl
      subst hl
      exact ⟨hne, toks_ok hc hj⟩
  have hlen := textK_len hc 7
  rw [text_rest] at hlen
  have hl : (restL g 0).flatMap rowT = rowT (lineI g j) ++ (restL g (j + 1)).flatMap rowT := by
    have h0 : ∀ k, k ≤ j → restL g 0 = restL g k := fun k => by
      induction k with
      | zero => intro _; rfl
      | succ k ih =>
        intro hk
        rw [ih (by omega)]
        exact rest_none (by omega) (h k (by omega))
    rw [h0 j (Nat.le_refl _), rest_some hj hne, List.flatMap_cons]
  rw [hl, ← open_row hne] at hlen
  simp only [List.length_append, List.length_singleton] at hlen
  obtain ⟨s, n, r1, b1⟩ := rows_run (restL g (j + 1) ++ [lineI g j]) Sc.rs0 1 [] ⟨rfl, rfl, rfl, rfl⟩ hok
  have e : (restL g (j + 1) ++ [lineI g j]).flatMap rowT = ((restL g (j + 1)).flatMap rowT ++ openT (lineI g j)) ++ [10] := by
    rw [List.flatMap_append, List.flatMap_singleton, ← open_row hne, List.append_assoc]
  have hasc := rows_ascii hok
  rw [e] at r1 hasc
  obtain ⟨u, r2, r3⟩ := runG_split _ _ _ _ r1
  have hw := words_run (ws := rowsW 1 (restL g (j + 1) ++ [lineI g j])) (fun b hb => hasc b (List.mem_append_left _ hb)) (by rw [List.length_append]; omega) r2 r3 (by rw [b1.words, List.nil_append])
  obtain ⟨r, hh⟩ := lineI_head hne
  have hd := drop_rest hj h
  have hM : Late (dropG g j) (((1, keysL.getD j []) :: r) :: []) := fun i hi hi0 hi1 => by
    refine .inr ⟨j, r, [], hj, fun e => ?_, rfl⟩
    subst e
    apply hr
    have h1 : restL (dropG g j) 0 = restL (dropG g j) (j + 1) := by
      have hk : ∀ k, k ≤ j + 1 → restL (dropG g j) 0 = restL (dropG g j) k := fun k => by
        induction k with
        | zero => intro _; rfl
        | succ k ih =>
          intro hk
          rw [ih (by omega)]
          refine rest_none (by omega) ?_
          rw [drop_line (by omega) hj]
          by_cases hkj : k = j
          · rw [if_pos hkj]
          · rw [if_neg hkj]
            exact h k (by omega)
      exact hk (j + 1) (Nat.le_refl _)
    rw [← hd, h1]
    exact hi1
  have := parse_late (drop_check hj hc h) (l0 := 1) hM (p := (restL g (j + 1)).flatMap rowT ++ openT (lineI g j)) (by rw [hw, hd, hh])
  rw [this, hd]
  congr 2
  omega

/-- Where lines end. -/
theorem tok_no10 {x : Tok} (h : tokB x = true) : (10 : UInt8) ∉ x.2 := by
  obtain ⟨k, t⟩ := x
  unfold tokB at h
  cases t with
  | nil => cases h
  | cons b r =>
    simp only at h
    intro hc
    split at h
    · rw [Bool.and_eq_true] at h
      rcases List.mem_cons.1 hc with hc | hc
      · have := sm_facts h.1
        rw [← hc] at this
        revert this
        decide
      · exact (nam_facts (List.all_eq_true.1 h.2 10 hc)).2.1 rfl
    · rw [Bool.and_eq_true, Bool.and_eq_true] at h
      rcases List.mem_cons.1 hc with hc | hc
      · have := dg_facts h.2.1
        rw [← hc] at this
        revert this
        decide
      · exact (num_facts (List.all_eq_true.1 h.2.2 10 hc)).2.1 rfl
theorem open_no10 {l : List Tok} (h : l.all tokB = true) : (10 : UInt8) ∉ openT l := by
  cases l with
  | nil => simp [openT]
  | cons x r =>
    rw [List.all_cons, Bool.and_eq_true] at h
    intro hb
    simp only [openT, List.mem_append, wordsT, List.mem_flatMap, List.mem_map, List.mem_cons] at hb
    rcases hb with hb | ⟨_, ⟨y, hy, rfl⟩, hb | hb⟩
    · exact tok_no10 h.1 hb
    · revert hb
      decide
    · exact tok_no10 (List.all_eq_true.1 h.2 y hy) hb
theorem rows_count : ∀ (L : List (List Tok)), (∀ l ∈ L, l ≠ [] ∧ l.all tokB = true) → (L.flatMap rowT).count 10 = L.length
  | [], _ => rfl
  | l :: L, h => by
    obtain ⟨hne, ha⟩ := h l (List.mem_cons_self ..)
    rw [List.flatMap_cons, List.count_append, rows_count L (fun x hx => h x (List.mem_cons_of_mem _ hx)), ← open_row hne, List.count_append, List.count_eq_zero.2 (open_no10 ha), List.length_cons]
    show 0 + 1 + L.length = _
    omega
end Go.Proofs.YthbplchbolghjaaGreatDoor
