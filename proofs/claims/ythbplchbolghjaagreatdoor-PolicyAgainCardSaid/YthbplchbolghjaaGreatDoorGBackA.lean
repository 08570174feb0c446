/- What Print writes, Parse reads; what the law makes may be: plain mathematics. No conditions. -/
import Derived.Test.YthbplchbolghjaaGreatDoorGParse
import Derived.Test.YthbplchbolghjaaGreatDoorGPrintM
namespace Go.Proofs.YthbplchbolghjaaGreatDoor
open Go.RowKit

/-- Runes, one behind the other. -/
def runG (s : Sc.RS) : List UInt8 → Option Sc.RS
  | [] => some s
  | c :: cs => if (Sc.readF s c.toNat).2 = 0 then runG (Sc.readF s c.toNat).1 cs else none
theorem runG_app : ∀ (a b : List UInt8) (s t : Sc.RS), runG s a = some t → runG s (a ++ b) = runG t b
  | [], b, s, t, h => by
    simp only [runG, Option.some.injEq] at h
    rw [h]
    rfl
  | c :: a, b, s, t, h => by
    rw [runG] at h
    rw [List.cons_append, runG]
    split at h
    · rename_i h0
      rw [if_pos h0]
      exact runG_app a b _ t h
    · cases h
theorem gdec_one (pre rest : List UInt8) (b : UInt8) (h : b.toNat < 128) : Utf8.decode ⟨(pre ++ b :: rest).toArray⟩ pre.length = (b.toNat, 1) := by
  have hp : pre.length < (⟨(pre ++ b :: rest).toArray⟩ : ByteArray).size := by
    show pre.length < (pre ++ b :: rest).toArray.size
    simp
  have e : ((⟨(pre ++ b :: rest).toArray⟩ : ByteArray)[pre.length]'hp) = b := by
    show (pre ++ b :: rest).toArray[pre.length]'_ = b
    simp
  rw [decode_ascii _ _ hp (by rw [e]; exact h), e]
theorem scan_run (l : List UInt8) : ∀ (p pre u : List UInt8) (f : Nat) (s t : Sc.RS), (∀ b ∈ p, b.toNat < 128) → l = pre ++ (p ++ u) → runG s p = some t → Sc.scanF l (p.length + f) pre.length s = Sc.scanF l f (pre.length + p.length) t
  | [], pre, u, f, s, t, _, _, hr => by
    simp only [runG, Option.some.injEq] at hr
    subst hr
    simp
  | b :: p, pre, u, f, s, t, hb, hl, hr => by
    have hd : Utf8.decode ⟨l.toArray⟩ pre.length = (b.toNat, 1) := by
      rw [hl]
      exact gdec_one pre (p ++ u) b (hb b (List.mem_cons_self ..))
    have h128 := hb b (List.mem_cons_self ..)
    rw [runG] at hr
    split at hr
    · rename_i h0
      rw [List.length_cons, show p.length + 1 + f = (p.length + f) + 1 by omega, Sc.scanF, hd]
      simp only
      rw [if_pos (by rw [hl]; simp), if_neg (by omega), if_pos h0]
      have := scan_run l p (pre ++ [b]) u f _ t (fun x hx => hb x (List.mem_cons_of_mem _ hx)) (by rw [hl]; simp) hr
      rw [List.length_append, List.length_singleton] at this
      rw [this]
      congr 1
      omega
    · cases hr

/-- A word, as text: its kind, its bytes. -/
abbrev Tok := Int × List UInt8
def tokB (x : Tok) : Bool := match x.2 with
  | [] => false
  | b :: r => if x.1 = 1 then Sc.smB b.toNat && r.all (fun c => Sc.namB c.toNat) else decide (x.1 = 2) && (Sc.dgB b.toNat && r.all (fun c => Sc.numB c.toNat))
def modeT (k : Int) : Sc.Mode := if k = 1 then .nam else .num
/-- Behind a word's last byte. -/
structure Mid (s : Sc.RS) (x : Tok) (ln c0 : Nat) (ws : List Sc.W4) : Prop where
  mode : s.mode = modeT x.1
  kind : s.kind = x.1
  text : s.text = x.2
  wl : s.wl = ln
  wc : s.wc = c0
  line : s.line = ln
  col : s.col = c0 + x.2.length
  words : s.words = ws
/-- Between words. -/
structure Btw (s : Sc.RS) (ln c : Nat) (ws : List Sc.W4) : Prop where
  mode : s.mode = .btw
  line : s.line = ln
  col : s.col = c
  words : s.words = ws

theorem enc_small (b : UInt8) (h : b.toNat < 128) : Lib.encodeRune (b.toNat : Int) = [b] := by
  have : ∀ n : Fin 128, Lib.encodeRune ((UInt8.ofNat n).toNat : Int) = [UInt8.ofNat n] := by decide +kernel
  have e := this ⟨b.toNat, h⟩
  simpa using e
theorem sm_facts {n : Nat} (h : Sc.smB n = true) : 97 ≤ n ∧ n ≤ 122 := by simpa [Sc.smB] using h
theorem dg_facts {n : Nat} (h : Sc.dgB n = true) : 48 ≤ n ∧ n ≤ 57 := by simpa [Sc.dgB] using h
theorem nam_facts {n : Nat} (h : Sc.namB n = true) : n < 128 ∧ n ≠ 10 ∧ 45 ≤ n := by
  simp [Sc.namB, Sc.smB, Sc.dgB] at h
  omega
theorem num_facts {n : Nat} (h : Sc.numB n = true) : n < 128 ∧ n ≠ 10 ∧ 37 ≤ n := by
  simp [Sc.numB, Sc.smB, Sc.cpB, Sc.dgB] at h
  omega
/-- One more byte of a word. -/
theorem mid_more {s : Sc.RS} {x : Tok} {ln c0 : Nat} {ws : List Sc.W4} (h : Mid s x ln c0 ws) (hk : x.1 = 1 ∨ x.1 = 2) (b : UInt8) (hb : (if x.1 = 1 then Sc.namB b.toNat else Sc.numB b.toNat) = true) :
    (Sc.readF s b.toNat).2 = 0 ∧ Mid (Sc.readF s b.toNat).1 (x.1, x.2 ++ [b]) ln c0 ws := by
  have h128 : b.toNat < 128 ∧ b.toNat ≠ 10 := by
    split at hb
    · exact ⟨(nam_facts hb).1, (nam_facts hb).2.1⟩
    · exact ⟨(num_facts hb).1, (num_facts hb).2.1⟩
  have hs : Sc.stepF s b.toNat = (Sc.addF s b.toNat, 0) := by
    unfold Sc.stepF
    rw [h.mode]
    rcases hk with e | e
    · rw [if_pos e] at hb
      simp [modeT, e, Sc.goF, hb]
    · rw [if_neg (by omega)] at hb
      simp [modeT, e, Sc.goF, hb]
  have hr : Sc.readF s b.toNat = (Sc.advF (Sc.addF s b.toNat) b.toNat, 0) := by
    unfold Sc.readF
    rw [hs]
    rfl
  rw [hr]
  refine ⟨rfl, h.mode, h.kind, ?_, h.wl, h.wc, ?_, ?_, h.words⟩
  · show s.text ++ Lib.encodeRune (b.toNat : Int) = x.2 ++ [b]
    rw [enc_small b h128.1, h.text]
  · show (if b.toNat = 10 then s.line + 1 else s.line) = ln
    rw [if_neg h128.2, h.line]
  · show (if b.toNat = 10 then 1 else s.col + 1) = c0 + (x.2 ++ [b]).length
    rw [if_neg h128.2, h.col, List.length_append]
    rfl
theorem mid_run {k : Int} (hk : k = 1 ∨ k = 2) {ln c0 : Nat} {ws : List Sc.W4} : ∀ (r t : List UInt8) (s : Sc.RS), Mid s (k, t) ln c0 ws → (r.all fun c => if k = 1 then Sc.namB c.toNat else Sc.numB c.toNat) = true → ∃ s', runG s r = some s' ∧ Mid s' (k, t ++ r) ln c0 ws
  | [], t, s, h, _ => ⟨s, rfl, by rw [List.append_nil]; exact h⟩
  | b :: r, t, s, h, ha => by
    rw [List.all_cons, Bool.and_eq_true] at ha
    obtain ⟨e, m⟩ := mid_more h hk b ha.1
    obtain ⟨s', hr, hm⟩ := mid_run hk r (t ++ [b]) _ m ha.2
    refine ⟨s', ?_, by rw [List.append_assoc] at hm; exact hm⟩
    rw [runG, if_pos e]
    exact hr
/-- A word's bytes, from between words. -/
theorem word_run {s : Sc.RS} {ln c : Nat} {ws : List Sc.W4} (h : Btw s ln c ws) {x : Tok} (hx : tokB x = true) : ∃ s', runG s x.2 = some s' ∧ Mid s' x ln c ws := by
  obtain ⟨k, t⟩ := x
  cases t with
  | nil => cases hx
  | cons b r =>
    unfold tokB at hx
    simp only at hx
    have hk : k = 1 ∨ k = 2 := by
      split at hx
      · exact .inl ‹_›
      · simp only [Bool.and_eq_true, decide_eq_true_eq] at hx
        exact .inr hx.1
    have h1 : b.toNat < 128 ∧ b.toNat ≠ 10 ∧ (Sc.readF s b.toNat) = (Sc.advF (Sc.addF (Sc.beginF s k (modeT k)) b.toNat) b.toNat, 0) ∧ (r.all fun c => if k = 1 then Sc.namB c.toNat else Sc.numB c.toNat) = true := by
      rcases hk with e | e
      · rw [if_pos e, Bool.and_eq_true] at hx
        have hf := sm_facts hx.1
        refine ⟨by omega, by omega, ?_, by simpa [e] using hx.2⟩
        have hs : Sc.stepF s b.toNat = (Sc.addF (Sc.beginF s k (modeT k)) b.toNat, 0) := by
          unfold Sc.stepF
          rw [h.mode]
          simp only
          unfold Sc.betF
          rw [if_neg (by simp [Sc.blB]; omega), if_neg (by omega), if_neg (by omega), if_neg (by simp [Sc.sgB]; omega), if_pos hx.1, e]
          rfl
        unfold Sc.readF
        rw [hs]
        rfl
      · rw [if_neg (by omega), Bool.and_eq_true, Bool.and_eq_true] at hx
        have hf := dg_facts hx.2.1
        refine ⟨by omega, by omega, ?_, by simpa [e] using hx.2.2⟩
        have hs : Sc.stepF s b.toNat = (Sc.addF (Sc.beginF s k (modeT k)) b.toNat, 0) := by
          unfold Sc.stepF
          rw [h.mode]
          simp only
          unfold Sc.betF
          rw [if_neg (by simp [Sc.blB]; omega), if_neg (by omega), if_neg (by omega), if_neg (by simp [Sc.sgB]; omega), if_neg (by simp [Sc.smB]; omega), if_pos hx.2.1, e]
          rfl
        unfold Sc.readF
        rw [hs]
        rfl
    obtain ⟨h128, hn, hr, ha⟩ := h1
    have m : Mid (Sc.readF s b.toNat).1 (k, [b]) ln c ws := by
      rw [hr]
      refine ⟨rfl, rfl, ?_, h.line, h.col, ?_, ?_, h.words⟩
      · show [] ++ Lib.encodeRune (b.toNat : Int) = [b]
        rw [enc_small b h128]
        rfl
      · show (if b.toNat = 10 then s.line + 1 else s.line) = ln
        rw [if_neg hn, h.line]
      · show (if b.toNat = 10 then 1 else s.col + 1) = c + 1
        rw [if_neg hn, h.col]
    obtain ⟨s', e1, e2⟩ := mid_run hk r [b] _ m ha
    refine ⟨s', ?_, e2⟩
    rw [runG, if_pos (by rw [hr])]
    exact e1
/-- A blank ends a word. -/
theorem mid_blank {s : Sc.RS} {x : Tok} {ln c0 : Nat} {ws : List Sc.W4} (h : Mid s x ln c0 ws) (hk : x.1 = 1 ∨ x.1 = 2) : ∃ s', runG s [32] = some s' ∧ Btw s' ln (c0 + x.2.length + 1) (ws ++ [(x.1, x.2, ln, c0)]) := by
  have hs : Sc.stepF s 32 = (Sc.endF s, 0) := by
    unfold Sc.stepF
    rw [h.mode]
    rcases hk with e | e
    · simp [modeT, e, Sc.goF, Sc.namB, Sc.smB, Sc.dgB, Sc.blB, Sc.betF]
    · simp [modeT, e, Sc.goF, Sc.numB, Sc.smB, Sc.cpB, Sc.dgB, Sc.blB, Sc.betF]
  have hr : Sc.readF s 32 = (Sc.advF (Sc.endF s) 32, 0) := by
    unfold Sc.readF
    rw [hs]
    rfl
  refine ⟨Sc.advF (Sc.endF s) 32, ?_, rfl, h.line, ?_, ?_⟩
  · show (if (Sc.readF s 32).2 = 0 then runG (Sc.readF s 32).1 [] else none) = _
    rw [hr]
    rfl
  · show s.col + 1 = _
    rw [h.col]
  · show s.words ++ [(s.kind, s.text, s.wl, s.wc)] = _
    rw [h.words, h.kind, h.text, h.wl, h.wc]
/-- A line's end ends a word, and the line. -/
theorem mid_end {s : Sc.RS} {x : Tok} {ln c0 : Nat} {ws : List Sc.W4} (h : Mid s x ln c0 ws) (hk : x.1 = 1 ∨ x.1 = 2) : ∃ s', runG s [10] = some s' ∧ Btw s' (ln + 1) 1 (ws ++ [(x.1, x.2, ln, c0)]) := by
  have hs : Sc.stepF s 10 = (Sc.endF s, 0) := by
    unfold Sc.stepF
    rw [h.mode]
    rcases hk with e | e
    · simp [modeT, e, Sc.goF, Sc.namB, Sc.smB, Sc.dgB, Sc.blB, Sc.betF]
    · simp [modeT, e, Sc.goF, Sc.numB, Sc.smB, Sc.cpB, Sc.dgB, Sc.blB, Sc.betF]
  have hr : Sc.readF s 10 = (Sc.advF (Sc.endF s) 10, 0) := by
    unfold Sc.readF
    rw [hs]
    rfl
  refine ⟨Sc.advF (Sc.endF s) 10, ?_, rfl, ?_, rfl, ?_⟩
  · show (if (Sc.readF s 10).2 = 0 then runG (Sc.readF s 10).1 [] else none) = _
    rw [hr]
    rfl
  · show s.line + 1 = _
    rw [h.line]
  · show s.words ++ [(s.kind, s.text, s.wl, s.wc)] = _
    rw [h.words, h.kind, h.text, h.wl, h.wc]

/-- The words of a line, from a column on. -/
def rowW (ln : Nat) : Nat → List Tok → List Sc.W4
  | _, [] => []
  | c, x :: r => (x.1, x.2, ln, c) :: rowW ln (c + x.2.length + 1) r
theorem tok_kind {x : Tok} (h : tokB x = true) : x.1 = 1 ∨ x.1 = 2 := by
  unfold tokB at h
  split at h
  · cases h
  · split at h
    · exact .inl ‹_›
    · simp only [Bool.and_eq_true, decide_eq_true_eq] at h
      exact .inr h.1
/-- The words behind the first one, to the line's end. -/
theorem rest_run {ln : Nat} : ∀ (r : List Tok) (x : Tok) (s : Sc.RS) (c0 : Nat) (ws : List Sc.W4), Mid s x ln c0 ws → (x.1 = 1 ∨ x.1 = 2) → r.all tokB = true →
    ∃ s', runG s (wordsT (r.map (·.2)) ++ [10]) = some s' ∧ Btw s' (ln + 1) 1 (ws ++ rowW ln c0 (x :: r))
  | [], x, s, c0, ws, h, hk, _ => mid_end h hk
  | y :: r, x, s, c0, ws, h, hk, ha => by
    rw [List.all_cons, Bool.and_eq_true] at ha
    obtain ⟨s1, r1, b1⟩ := mid_blank h hk
    obtain ⟨s2, r2, m2⟩ := word_run b1 ha.1
    obtain ⟨s3, r3, b3⟩ := rest_run r y s2 _ _ m2 (tok_kind ha.1) ha.2
    refine ⟨s3, ?_, by rw [List.append_assoc] at b3; exact b3⟩
    have e : wordsT ((y :: r).map (·.2)) ++ [10] = [32] ++ (y.2 ++ (wordsT (r.map (·.2)) ++ [10])) := by simp [wordsT]
    rw [e, runG_app _ _ _ _ r1, runG_app _ _ _ _ r2, r3]
/-- A line. -/
theorem row_run {s : Sc.RS} {ln : Nat} {ws : List Sc.W4} (h : Btw s ln 1 ws) (x : Tok) (r : List Tok) (ha : (x :: r).all tokB = true) :
    ∃ s', runG s (x.2 ++ wordsT (r.map (·.2)) ++ [10]) = some s' ∧ Btw s' (ln + 1) 1 (ws ++ rowW ln 1 (x :: r)) := by
  rw [List.all_cons, Bool.and_eq_true] at ha
  obtain ⟨s1, r1, m1⟩ := word_run h ha.1
  obtain ⟨s2, r2, b2⟩ := rest_run r x s1 1 ws m1 (tok_kind ha.1) ha.2
  refine ⟨s2, ?_, b2⟩
  rw [List.append_assoc, runG_app _ _ _ _ r1, r2]
/-- Lines. -/
def rowsW : Nat → List (List Tok) → List Sc.W4
  | _, [] => []
  | ln, l :: r => rowW ln 1 l ++ rowsW (ln + 1) r
def rowT (l : List Tok) : List UInt8 := match l with
  | [] => []
  | x :: r => x.2 ++ wordsT (r.map (·.2)) ++ [10]
theorem rows_run : ∀ (L : List (List Tok)) (s : Sc.RS) (ln : Nat) (ws : List Sc.W4), Btw s ln 1 ws → (∀ l ∈ L, l ≠ [] ∧ l.all tokB = true) → ∃ s' n, runG s (L.flatMap rowT) = some s' ∧ Btw s' n 1 (ws ++ rowsW ln L)
  | [], s, ln, ws, h, _ => ⟨s, ln, rfl, by rw [rowsW, List.append_nil]; exact h⟩
  | l :: L, s, ln, ws, h, ha => by
    obtain ⟨hne, hl⟩ := ha l (List.mem_cons_self ..)
    cases l with
    | nil => exact absurd rfl hne
    | cons x r =>
      obtain ⟨s1, r1, b1⟩ := row_run h x r hl
      obtain ⟨s2, n, r2, b2⟩ := rows_run L s1 (ln + 1) _ b1 (fun y hy => ha y (List.mem_cons_of_mem _ hy))
      refine ⟨s2, n, ?_, by rw [rowsW, ← List.append_assoc]; exact b2⟩
      rw [List.flatMap_cons, show rowT (x :: r) = x.2 ++ wordsT (r.map (·.2)) ++ [10] from rfl, runG_app _ _ _ _ r1, r2]
theorem tok_ascii {x : Tok} (h : tokB x = true) : ∀ b ∈ x.2, b.toNat < 128 := by
  obtain ⟨k, t⟩ := x
  unfold tokB at h
  cases t with
  | nil => cases h
  | cons b r =>
    simp only at h
    intro c hc
    split at h
    · rw [Bool.and_eq_true] at h
      rcases List.mem_cons.1 hc with rfl | hc
      · have := sm_facts h.1; omega
      · exact (nam_facts (List.all_eq_true.1 h.2 c hc)).1
    · rw [Bool.and_eq_true, Bool.and_eq_true] at h
      rcases List.mem_cons.1 hc with rfl | hc
      · have := dg_facts h.2.1; omega
      · exact (num_facts (List.all_eq_true.1 h.2.2 c hc)).1
theorem rows_ascii {L : List (List Tok)} (h : ∀ l ∈ L, l ≠ [] ∧ l.all tokB = true) : ∀ b ∈ L.flatMap rowT, b.toNat < 128 := by
  intro b hb
  obtain ⟨l, hl, hb⟩ := List.mem_flatMap.1 hb
  have ha := List.all_eq_true.1 (h l hl).2
  cases l with
  | nil => cases hb
  | cons x r =>
    simp only [rowT, List.mem_append, wordsT, List.mem_flatMap, List.mem_map, List.mem_cons, List.not_mem_nil, or_false] at hb
    rcases hb with (hb | ⟨_, ⟨y, hy, rfl⟩, rfl | hb⟩) | rfl
    · exact tok_ascii (ha x (List.mem_cons_self ..)) b hb
    · decide
    · exact tok_ascii (ha y (List.mem_cons_of_mem _ hy)) b hb
    · decide
/-- The words of a text of lines. -/
theorem rows_words (L : List (List Tok)) (h : ∀ l ∈ L, l ≠ [] ∧ l.all tokB = true) (hl : (L.flatMap rowT).length ≤ 65536) : Sc.wordsF (L.flatMap rowT) = (rowsW 1 L, 0, 0, 0) := by
  obtain ⟨s, n, hr, hb⟩ := rows_run L Sc.rs0 1 [] ⟨rfl, rfl, rfl, rfl⟩ h
  unfold Sc.wordsF
  rw [if_neg (by omega)]
  have e := scan_run (L.flatMap rowT) (L.flatMap rowT) [] [] 1 Sc.rs0 s (rows_ascii h) (by simp) hr
  simp only [List.length_nil, Nat.zero_add] at e
  rw [e, Sc.scanF, if_neg (by omega)]
  have hs : Sc.stepF s 10 = (s, 0) := by
    unfold Sc.stepF
    rw [hb.mode]
    simp [Sc.betF]
  have hr : Sc.readF s 10 = (Sc.advF s 10, 0) := by
    unfold Sc.readF
    rw [hs]
    rfl
  rw [hr, if_pos rfl]
  show (s.words, 0, 0, 0) = _
  rw [hb.words]
  rfl

def kindI (i : Nat) : Int := if i = 0 ∨ i = 1 ∨ i = 4 ∨ i = 5 then 2 else 1
/-- The words of line i. -/
def lineI (g : Pol) (i : Nat) : List Tok := match (saidsG g)[i]? with
  | some x => if x.1 then (1, keysL.getD i []) :: x.2.map (fun t => (kindI i, t)) else []
  | none => []
theorem rowT_lineI (g : Pol) (i : Nat) : rowT (lineI g i) = (match (saidsG g)[i]? with
    | some x => lineT (keysL.getD i []) x
    | none => []) := by
  unfold lineI
  split
  · rename_i x _
    unfold lineT
    split
    · simp [rowT, List.map_map, Function.comp_def]
    · rfl
  · rfl
theorem text_rows (g : Pol) : ∀ k, textK g k = (List.range k).flatMap (fun i => rowT (lineI g i))
  | 0 => rfl
  | k + 1 => by
    rw [textK, text_rows g k, List.range_succ, List.flatMap_append, List.flatMap_singleton, rowT_lineI]
    rfl
/-- The lines from i on that say anything. -/
def restL (g : Pol) (i : Nat) : List (List Tok) := ((List.range' i (7 - i)).map (lineI g)).filter (fun l => !l.isEmpty)
theorem flat_filter : ∀ (L : List (List Tok)), (L.filter (fun l => !l.isEmpty)).flatMap rowT = L.flatMap rowT
  | [] => rfl
  | l :: L => by
    cases l with
    | nil => rw [List.filter_cons_of_neg (by simp), flat_filter L]; rfl
    | cons x r => rw [List.filter_cons_of_pos (by simp), List.flatMap_cons, List.flatMap_cons, flat_filter L]
theorem text_rest (g : Pol) : textK g 7 = (restL g 0).flatMap rowT := by
  rw [text_rows, restL, flat_filter, List.flatMap_map, List.range_eq_range']
theorem rest_none {g : Pol} {i : Nat} (hi : i < 7) (h : lineI g i = []) : restL g i = restL g (i + 1) := by
  unfold restL
  rw [show 7 - i = (7 - (i + 1)) + 1 by omega, List.range'_succ, List.map_cons, List.filter_cons_of_neg (by rw [h]; simp)]
theorem rest_some {g : Pol} {i : Nat} (hi : i < 7) (h : lineI g i ≠ []) : restL g i = lineI g i :: restL g (i + 1) := by
  unfold restL
  rw [show 7 - i = (7 - (i + 1)) + 1 by omega, List.range'_succ, List.map_cons, List.filter_cons_of_pos (by simpa using h)]
theorem rest_end (g : Pol) : restL g 7 = [] := rfl
theorem rest_mem {g : Pol} {i : Nat} {l : List Tok} (h : l ∈ restL g i) : l ≠ [] ∧ ∃ j, i ≤ j ∧ j < 7 ∧ l = lineI g j := by
  unfold restL at h
  obtain ⟨h1, h2⟩ := List.mem_filter.1 h
  obtain ⟨j, hj, rfl⟩ := List.mem_map.1 h1
  rw [List.mem_range'_1] at hj
  exact ⟨by simpa using h2, j, hj.1, by omega, rfl⟩
theorem lineI_head {g : Pol} {j : Nat} (h : lineI g j ≠ []) : ∃ r, lineI g j = (1, keysL.getD j []) :: r := by
  unfold lineI at h ⊢
  split at h
  · split at h
    · rename_i hx
      exact ⟨_, if_pos hx⟩
    · exact absurd rfl h
  · exact absurd rfl h
theorem keys_apart : ∀ i j : Fin 7, i ≠ j → keysL.getD i.val [] ≠ keysL.getD j.val [] := by decide

/-- Words of lines, and where they stand. -/
theorem row_line {ln : Nat} : ∀ (l : List Tok) (c : Nat), ∀ x ∈ rowW ln c l, x.2.2.1 = ln
  | [], _, x, h => by cases h
  | y :: l, c, x, h => by
    rw [rowW] at h
    rcases List.mem_cons.1 h with rfl | h
    · rfl
    · exact row_line l _ x h
theorem rows_line : ∀ (L : List (List Tok)) (ln : Nat), ∀ x ∈ rowsW ln L, ln ≤ x.2.2.1
  | [], _, x, h => by cases h
  | l :: L, ln, x, h => by
    rw [rowsW] at h
    rcases List.mem_append.1 h with h | h
    · exact Nat.le_of_eq (row_line l 1 x h).symm
    · exact Nat.le_of_succ_le (rows_line L (ln + 1) x h)
theorem row_len {ln : Nat} : ∀ (l : List Tok) (c : Nat), (rowW ln c l).length = l.length
  | [], _ => rfl
  | y :: l, c => by rw [rowW, List.length_cons, List.length_cons, row_len l]
theorem lineF_row {ln : Nat} (y : Tok) (l : List Tok) (L : List (List Tok)) : Sc.lineF (rowW ln 1 (y :: l) ++ rowsW (ln + 1) L) 0 = (rowW ln 1 (y :: l)).length := by
  unfold Sc.lineF
  rw [show (rowW ln 1 (y :: l) ++ rowsW (ln + 1) L)[0]? = some (y.1, y.2, ln, 1) from rfl]
  simp only [List.drop_zero]
  rw [List.filter_append, List.length_append]
  have h1 : (rowW ln 1 (y :: l)).filter (Sc.lineB ln) = rowW ln 1 (y :: l) := List.filter_eq_self.2 (fun x hx => by simp [Sc.lineB, row_line _ _ x hx])
  have h2 : (rowsW (ln + 1) L).filter (Sc.lineB ln) = [] := List.filter_eq_nil_iff.2 (fun x hx => by
    have := rows_line L (ln + 1) x hx
    simp [Sc.lineB]
    omega)
  rw [h1, h2]
  rfl
/-- A line that stands there is taken. -/
theorem begin_yes {s : PR} {ln : Nat} {key : List UInt8} {r : List Tok} {L : List (List Tok)} (h : s.rest = rowsW ln (((1, key) :: r) :: L)) :
    beginP s key = (true, { s with line := rowW ln 1 ((1, key) :: r), at_ := 1, rest := rowsW (ln + 1) L }) := by
  unfold beginP
  rw [h, rowsW, lineF_row, List.take_left, List.drop_left]
  show (if (1 : Int) = 1 ∧ key = key then _ else _) = _
  rw [if_pos ⟨rfl, rfl⟩]
/-- One that doesn't is not. -/
theorem begin_no {g : Pol} {s : PR} {ln i : Nat} (hi : i < 7) (h : s.rest = rowsW ln (restL g (i + 1))) : beginP s (keysL.getD i []) = (false, s) := by
  unfold beginP
  rw [h]
  cases hL : restL g (i + 1) with
  | nil => rfl
  | cons l L =>
    obtain ⟨hne, j, hj, hj7, rfl⟩ := rest_mem (g := g) (i := i + 1) (l := l) (by rw [hL]; exact List.mem_cons_self ..)
    obtain ⟨r, hr⟩ := lineI_head hne
    rw [hr]
    show (if (1 : Int) = 1 ∧ keysL.getD j [] = keysL.getD i [] then _ else _) = _
    rw [if_neg (fun e => keys_apart ⟨j, hj7⟩ ⟨i, hi⟩ (by simp; omega) e.2)]

/-- Shares and numbers, there and back. -/
theorem pct_back {n : Int} (h0 : 0 ≤ n) (h1 : n ≤ 1000) : tokB (2, (Qu.pctL n).1) = true ∧ Qu.percentL ⟨(Qu.pctL n).1.toArray⟩ = (n, 0, 0) := by
  have key : ∀ k : Fin 1001, tokB (2, (Qu.pctL (k.val : Int)).1) = true ∧ Qu.percentL ⟨(Qu.pctL (k.val : Int)).1.toArray⟩ = ((k.val : Int), 0, 0) := by decide +kernel
  have := key ⟨n.toNat, by omega⟩
  simpa [Int.toNat_of_nonneg h0] using this
theorem num_back {n : Int} (h0 : 0 ≤ n) (h1 : n ≤ 48) : tokB (2, Lib.itoa n) = true ∧ numOf (Lib.itoa n) = some n := by
  have key : ∀ k : Fin 49, tokB (2, Lib.itoa (k.val : Int)) = true ∧ numOf (Lib.itoa (k.val : Int)) = some (k.val : Int) := by decide +kernel
  have := key ⟨n.toNat, by omega⟩
  simpa [Int.toNat_of_nonneg h0] using this
theorem span_all (ok : Nat → Nat → Bool) : ∀ (t : List UInt8) (a : Nat), La.spanF ok t a = a + t.length → ∀ (j : Nat) (b : UInt8), t[j]? = some b → ok (a + j) b.toNat = true
  | [], a, _, j, b, hb => by simp at hb
  | c :: t, a, h, j, b, hb => by
    rw [La.spanF] at h
    split at h
    · rw [List.length_cons] at h
      omega
    · rename_i hn
      have hok : ok a c.toNat = true := by
        cases he : ok a c.toNat
        · exact absurd (.inr he) hn
        · rfl
      cases j with
      | zero =>
        simp only [List.getElem?_cons_zero, Option.some.injEq] at hb
        rw [← hb]
        exact hok
      | succ j =>
        rw [List.getElem?_cons_succ] at hb
        have := span_all ok t (a + 1) (by rw [h, List.length_cons]; omega) j b hb
        rwa [show a + 1 + j = a + (j + 1) by omega] at this
theorem name_tok {t : List UInt8} (h : La.nameB t = true) : tokB (1, t) = true := by
  unfold La.nameB at h
  simp only [Bool.and_eq_true, decide_eq_true_eq] at h
  have ha := span_all La.okName t 0 (by rw [Nat.zero_add]; exact h.2)
  cases t with
  | nil => exact absurd rfl h.1
  | cons b r =>
    have h0 := ha 0 b rfl
    show (Sc.smB b.toNat && r.all (fun c => Sc.namB c.toNat)) = true
    rw [Bool.and_eq_true, List.all_eq_true]
    refine ⟨by simpa [La.okName, La.letB, Sc.smB] using h0, fun c hc => ?_⟩
    obtain ⟨j, hj⟩ := List.getElem?_of_mem hc
    have h1 := ha (j + 1) c (by rw [List.getElem?_cons_succ]; exact hj)
    simp [La.okName, La.letB, La.digB] at h1
    simp [Sc.namB, Sc.smB, Sc.dgB]
    omega

/-- One share. -/
theorem share_ok (put : Nat → Int → PR → PR) (i : Nat) (s : PR) {t : List UInt8} {n : Int} {a b : Nat} (h : s.line[s.at_]? = some (2, t, a, b)) (hp : Qu.percentL ⟨t.toArray⟩ = (n, 0, 0)) :
    shareP put i s = (true, put i n { s with at_ := s.at_ + 1 }) := by
  unfold shareP takeP
  rw [h]
  simp only [if_true, hp]
theorem num_ok (put : Int → PR → PR) (s : PR) {t : List UInt8} {n : Int} {a b : Nat} (h : s.line[s.at_]? = some (2, t, a, b)) (hp : numOf t = some n) :
    numP put s = (true, put n { s with at_ := s.at_ + 1 }) := by
  unfold numP takeP
  rw [h]
  simp only [if_true, hp]
/-- The names to the line's end. -/
theorem drain_ok {ln : Nat} : ∀ (r : List (List UInt8)) (f c : Nat) (pre : List Sc.W4) (s : PR), r ≠ [] → r.length ≤ f → s.line = pre ++ rowW ln c (r.map (fun t => ((1 : Int), t))) → s.at_ = pre.length → (∀ t ∈ r, La.nameB t = true) →
    drainK f s = (true, { s with at_ := s.line.length, goal := { s.goal with drain := s.goal.drain ++ r } })
  | [], _, _, _, _, h, _, _, _, _ => absurd rfl h
  | t :: r, 0, _, _, _, _, h, _, _, _ => by simp at h
  | t :: r, f + 1, c, pre, s, _, hf, hl, ha, hn => by
    have hx : s.line[s.at_]? = some (1, t, ln, c) := by
      rw [hl, ha, List.getElem?_append_right (Nat.le_refl _), Nat.sub_self]
      rfl
    have hlen : s.line.length = pre.length + (r.length + 1) := by rw [hl, List.length_append, row_len, List.length_map, List.length_cons]
    have ht : takeP s 1 = (some (1, t, ln, c), { s with at_ := s.at_ + 1 }) := by
      unfold takeP
      rw [hx]
      rfl
    rw [drainK, ht]
    simp only
    rw [if_neg (by rw [hn t (List.mem_cons_self ..)]; decide)]
    cases r with
    | nil =>
      rw [if_pos (by rw [hlen, ha]; rfl)]
      rw [show s.line.length = s.at_ + 1 by rw [hlen, ha]; rfl]
      rfl
    | cons u r =>
      rw [if_neg (by rw [hlen, ha, List.length_cons]; omega)]
      have := drain_ok (u :: r) f (c + t.length + 1) (pre ++ [(1, t, ln, c)]) (putName t { s with at_ := s.at_ + 1 }) (by simp) (by rw [List.length_cons] at hf; omega) (by
        show s.line = _
        rw [hl, List.append_assoc]
        rfl) (by
        show s.at_ + 1 = _
        rw [ha, List.length_append]
        rfl) (fun x hx => hn x (List.mem_cons_of_mem _ hx))
      rw [this]
      show (true, { s with at_ := s.line.length, goal := { s.goal with drain := (s.goal.drain ++ [t]) ++ (u :: r) } }) = _
      rw [List.append_assoc]
      rfl

/-- What the first lines have said. -/
def partG (g : Pol) (k : Nat) : Pol := ⟨if 0 < k then g.l0 else 0, if 0 < k then g.l1 else 0, if 1 < k then g.h0 else 0, if 1 < k then g.h1 else 0, if 2 < k then g.on else 0, if 3 < k then g.drain else [], if 4 < k then g.mx else 0, if 5 < k then g.tr else 0, if 6 < k then g.rb else false⟩
theorem part_all (g : Pol) : partG g 7 = g := rfl
/-- A line read to its end. -/
def Ate (s : PR) (x : Bool × PR) (g : Pol) : Prop := x.1 = true ∧ x.2.line = s.line ∧ x.2.rest = s.rest ∧ x.2.at_ = s.line.length ∧ x.2.goal = g

theorem on_back (a b c d e f : Int) (dr : List (List UInt8)) (rb : Bool) (ln : Nat) (R : List Sc.W4) (x y z on : Int) (h0 : 1 ≤ on) (h1 : on ≤ 31) :
    onP ⟨rowW ln 1 ((1, [111, 110]) :: (looksL.filter (andB on)).map (fun t => ((1 : Int), t))), 1, R, ⟨a, b, c, d, 0, dr, e, f, rb⟩, x, y, z⟩ =
      (true, ⟨rowW ln 1 ((1, [111, 110]) :: (looksL.filter (andB on)).map (fun t => ((1 : Int), t))), (looksL.filter (andB on)).length + 1, R, ⟨a, b, c, d, on, dr, e, f, rb⟩, x, y, z⟩) := by
  obtain rfl | rfl | rfl | rfl | rfl | rfl | rfl | rfl | rfl | rfl | rfl | rfl | rfl | rfl | rfl | rfl | rfl | rfl | rfl | rfl | rfl | rfl | rfl | rfl | rfl | rfl | rfl | rfl | rfl | rfl | rfl : on = 1 ∨ on = 2 ∨ on = 3 ∨ on = 4 ∨ on = 5 ∨ on = 6 ∨ on = 7 ∨ on = 8 ∨ on = 9 ∨ on = 10 ∨ on = 11 ∨ on = 12 ∨ on = 13 ∨ on = 14 ∨ on = 15 ∨ on = 16 ∨ on = 17 ∨ on = 18 ∨ on = 19 ∨ on = 20 ∨ on = 21 ∨ on = 22 ∨ on = 23 ∨ on = 24 ∨ on = 25 ∨ on = 26 ∨ on = 27 ∨ on = 28 ∨ on = 29 ∨ on = 30 ∨ on = 31 := by omega
  all_goals kernel_rfl

theorem shares_back (put : Nat → Int → PR → PR) (s : PR) (key : List UInt8) (a b : Int) (ln : Nat) (ha : 0 ≤ a ∧ a ≤ 1000) (hb : 0 ≤ b ∧ b ≤ 1000)
    (hp : ∀ i n (z : PR), (put i n z).line = z.line ∧ (put i n z).rest = z.rest ∧ (put i n z).at_ = z.at_)
    (hl : s.line = rowW ln 1 ((1, key) :: [(2, (Qu.pctL a).1), (2, (Qu.pctL b).1)])) (h1 : s.at_ = 1) :
    sharesP put s = (true, put 1 b { put 0 a { s with at_ := 2 } with at_ := 3 }) := by
  unfold sharesP
  rw [sharesK, sharesK, sharesK]
  simp only
  rw [share_ok put 0 s (t := (Qu.pctL a).1) (n := a) (a := ln) (b := 1 + key.length + 1) (by rw [hl, h1]; rfl) (pct_back ha.1 ha.2).2, h1]
  simp only
  obtain ⟨p1, _, p3⟩ := hp 0 a { s with at_ := 1 + 1 }
  rw [share_ok put 1 _ (t := (Qu.pctL b).1) (n := b) (a := ln) (b := 1 + key.length + 1 + (Qu.pctL a).1.length + 1) (by rw [p1, p3]; show s.line[2]? = _; rw [hl]; rfl) (pct_back hb.1 hb.2).2, p3]

/-- Line i, where it stands. -/
theorem line_back {g : Pol} (hc : checkG g = 0) {i : Nat} (hi : i < 7) {ln : Nat} {s : PR} (hne : lineI g i ≠ []) (hl : s.line = rowW ln 1 (lineI g i)) (h1 : s.at_ = 1) (hg : s.goal = partG g i) :
    Ate s (lineP i s) (partG g (i + 1)) := by
  obtain ⟨hsh, ho, ⟨_, hn⟩, hm, ht⟩ := polB_all hc
  unfold sharesB at hsh
  simp only [Bool.and_eq_true] at hsh
  obtain ⟨⟨q1, q2⟩, q3, q4⟩ := hsh
  have u1 := upB_iff q1
  have u2 := upB_iff q2
  have u3 := upB_iff q3
  have u4 := upB_iff q4
  obtain ⟨li, at_, re, go, wl, wc, we⟩ := s
  simp only at hl h1 hg
  subst h1 hg
  match i, hi with
  | 0, _ =>
    have e : lineI g 0 = if (saidShares g.l0 g.l1).1 then (1, [108, 111, 119]) :: [(2, (Qu.pctL g.l0).1), (2, (Qu.pctL g.l1).1)] else [] := rfl
    split at e
    · rw [e] at hl
      subst hl
      show Ate _ (sharesP putLow _) _
      rw [shares_back putLow _ _ g.l0 g.l1 ln ⟨u2.1, by omega⟩ ⟨u4.1, by omega⟩ (fun i n z => by unfold putLow; split <;> exact ⟨rfl, rfl, rfl⟩) rfl rfl]
      exact ⟨rfl, rfl, rfl, rfl, rfl⟩
    · exact absurd e hne
  | 1, _ =>
    have e : lineI g 1 = if (saidShares g.h0 g.h1).1 then (1, [104, 105, 103, 104]) :: [(2, (Qu.pctL g.h0).1), (2, (Qu.pctL g.h1).1)] else [] := rfl
    split at e
    · rw [e] at hl
      subst hl
      show Ate _ (sharesP putHigh _) _
      rw [shares_back putHigh _ _ g.h0 g.h1 ln ⟨u1.1, u1.2⟩ ⟨u3.1, u3.2⟩ (fun i n z => by unfold putHigh; split <;> exact ⟨rfl, rfl, rfl⟩) rfl rfl]
      exact ⟨rfl, rfl, rfl, rfl, rfl⟩
    · exact absurd e hne
  | 2, _ =>
    have e : lineI g 2 = if (saidLooks g.on).1 then (1, [111, 110]) :: (looksL.filter (andB g.on)).map (fun t => ((1 : Int), t)) else [] := rfl
    split at e
    · rename_i hx
      have h0 : g.on ≠ 0 := by simpa [saidLooks] using hx
      rw [e] at hl
      subst hl
      show Ate _ (onP _) _
      rw [show partG g 2 = ⟨g.l0, g.l1, g.h0, g.h1, 0, [], 0, 0, false⟩ from rfl, on_back _ _ _ _ _ _ _ _ _ _ _ _ _ g.on (by omega) ho.2]
      exact ⟨rfl, rfl, rfl, by show _ = (rowW _ _ _).length; rw [row_len, List.length_cons, List.length_map], rfl⟩
    · exact absurd e hne
  | 3, _ =>
    have e : lineI g 3 = if decide (0 < g.drain.length) then (1, [100, 114, 97, 105, 110]) :: g.drain.map (fun t => ((1 : Int), t)) else [] := rfl
    split at e
    · rename_i hx
      have h0 : g.drain ≠ [] := fun h => by rw [h] at hx; simp at hx
      rw [e] at hl
      subst hl
      show Ate _ (drainK _ _) _
      rw [drain_ok (ln := ln) g.drain _ 7 [(1, [100, 114, 97, 105, 110], ln, 1)] _ h0 (by show _ ≤ (rowW _ _ _).length + 1; rw [row_len, List.length_cons, List.length_map]; omega) rfl rfl (fun t ht => (names_15 hn t ht).1)]
      exact ⟨rfl, rfl, rfl, rfl, rfl⟩
    · exact absurd e hne
  | 4, _ =>
    have e : lineI g 4 = if g.mx != 0 then (1, [109, 111, 118, 101, 115]) :: [(2, Lib.itoa g.mx)] else [] := rfl
    split at e
    · rw [e] at hl
      subst hl
      show Ate _ (numP putMoves _) _
      rw [num_ok putMoves _ (t := Lib.itoa g.mx) (n := g.mx) (a := ln) (b := 7) rfl (num_back hm.1 hm.2).2]
      exact ⟨rfl, rfl, rfl, rfl, rfl⟩
    · exact absurd e hne
  | 5, _ =>
    have e : lineI g 5 = if g.tr != 0 then (1, [116, 114, 105, 101, 115]) :: [(2, Lib.itoa g.tr)] else [] := rfl
    split at e
    · rw [e] at hl
      subst hl
      show Ate _ (numP putTries _) _
      rw [num_ok putTries _ (t := Lib.itoa g.tr) (n := g.tr) (a := ln) (b := 7) rfl (num_back ht.1 (by omega)).2]
      exact ⟨rfl, rfl, rfl, rfl, rfl⟩
    · exact absurd e hne
  | 6, _ =>
    have e : lineI g 6 = if g.rb then (1, [114, 111, 108, 108, 98, 97, 99, 107]) :: [] else [] := rfl
    split at e
    · rename_i hx
      rw [e] at hl
      subst hl
      refine ⟨rfl, rfl, rfl, rfl, ?_⟩
      show ({ partG g 6 with rb := true } : Pol) = partG g 7
      unfold partG
      simp [hx]
    · exact absurd e hne
/-- A line that is not there says nothing. -/
theorem line_off {g : Pol} {i : Nat} (hi : i < 7) (h : lineI g i = []) : partG g (i + 1) = partG g i := by
  match i, hi with
  | 0, _ =>
    have e : lineI g 0 = if (saidShares g.l0 g.l1).1 then (1, [108, 111, 119]) :: [(2, (Qu.pctL g.l0).1), (2, (Qu.pctL g.l1).1)] else [] := rfl
    rw [h] at e
    split at e
    · cases e
    · rename_i hx
      have : g.l0 = 0 ∧ g.l1 = 0 := by simpa [saidShares] using hx
      unfold partG
      simp [this.1, this.2]
  | 1, _ =>
    have e : lineI g 1 = if (saidShares g.h0 g.h1).1 then (1, [104, 105, 103, 104]) :: [(2, (Qu.pctL g.h0).1), (2, (Qu.pctL g.h1).1)] else [] := rfl
    rw [h] at e
    split at e
    · cases e
    · rename_i hx
      have : g.h0 = 0 ∧ g.h1 = 0 := by simpa [saidShares] using hx
      unfold partG
      simp [this.1, this.2]
  | 2, _ =>
    have e : lineI g 2 = if g.on != 0 then (1, [111, 110]) :: (looksL.filter (andB g.on)).map (fun t => ((1 : Int), t)) else [] := rfl
    rw [h] at e
    split at e
    · cases e
    · rename_i hx
      have : g.on = 0 := by simpa using hx
      unfold partG
      simp [this]
  | 3, _ =>
    have e : lineI g 3 = if decide (0 < g.drain.length) then (1, [100, 114, 97, 105, 110]) :: g.drain.map (fun t => ((1 : Int), t)) else [] := rfl
    rw [h] at e
    split at e
    · cases e
    · rename_i hx
      have : g.drain = [] := by simpa using hx
      unfold partG
      simp [this]
  | 4, _ =>
    have e : lineI g 4 = if g.mx != 0 then (1, [109, 111, 118, 101, 115]) :: [(2, Lib.itoa g.mx)] else [] := rfl
    rw [h] at e
    split at e
    · cases e
    · rename_i hx
      have : g.mx = 0 := by simpa using hx
      unfold partG
      simp [this]
  | 5, _ =>
    have e : lineI g 5 = if g.tr != 0 then (1, [116, 114, 105, 101, 115]) :: [(2, Lib.itoa g.tr)] else [] := rfl
    rw [h] at e
    split at e
    · cases e
    · rename_i hx
      have : g.tr = 0 := by simpa using hx
      unfold partG
      simp [this]
  | 6, _ =>
    have e : lineI g 6 = if g.rb then (1, [114, 111, 108, 108, 98, 97, 99, 107]) :: [] else [] := rfl
    rw [h] at e
    split at e
    · cases e
    · rename_i hx
      have : g.rb = false := by simpa using hx
      unfold partG
      simp [this]
theorem step_back {g : Pol} (hc : checkG g = 0) {i : Nat} (hi : i < 7) {s : PR} {ln : Nat} (hr : s.rest = rowsW ln (restL g i)) (hg : s.goal = partG g i) :
    ∃ z ln', stepP i s = (true, z) ∧ z.rest = rowsW ln' (restL g (i + 1)) ∧ z.goal = partG g (i + 1) := by
  by_cases hne : lineI g i = []
  · refine ⟨s, ln, ?_, by rw [hr, rest_none hi hne], by rw [hg, line_off hi hne]⟩
    unfold stepP
    rw [begin_no hi (by rw [hr, rest_none hi hne])]
  · obtain ⟨r, hh⟩ := lineI_head hne
    have hb := begin_yes (s := s) (ln := ln) (key := keysL.getD i []) (r := r) (L := restL g (i + 1)) (by rw [hr, rest_some hi hne, hh])
    unfold stepP
    rw [hb]
    simp only
    obtain ⟨a1, a2, a3, a4, a5⟩ := line_back hc hi (ln := ln) (s := { s with line := rowW ln 1 ((1, keysL.getD i []) :: r), at_ := 1, rest := rowsW (ln + 1) (restL g (i + 1)) }) hne (by show rowW _ _ _ = _; rw [hh]) rfl hg
    generalize lineP i { s with line := rowW ln 1 ((1, keysL.getD i []) :: r), at_ := 1, rest := rowsW (ln + 1) (restL g (i + 1)) } = x at a1 a2 a3 a4 a5
    obtain ⟨b, z⟩ := x
    simp only at a1 a2 a3 a4 a5
    subst a1
    refine ⟨z, ln + 1, ?_, a3, a5⟩
    simp only
    unfold endP
    rw [a2, a4, List.getElem?_eq_none (Nat.le_refl _)]
theorem lines_back {g : Pol} (hc : checkG g = 0) {s : PR} (hr : s.rest = rowsW 1 (restL g 0)) (hg : s.goal = pol0) : ∀ k, k ≤ 7 → ∃ z ln, linesK s k = (true, z) ∧ z.rest = rowsW ln (restL g k) ∧ z.goal = partG g k
  | 0, _ => ⟨s, 1, rfl, hr, hg⟩
  | k + 1, hk => by
    obtain ⟨z, ln, h1, h2, h3⟩ := lines_back hc hr hg k (by omega)
    obtain ⟨z', ln', e1, e2, e3⟩ := step_back hc (by omega) h2 h3
    exact ⟨z', ln', by rw [linesK, h1]; exact e1, e2, e3⟩
theorem toks_ok {g : Pol} (hc : checkG g = 0) {i : Nat} (hi : i < 7) : (lineI g i).all tokB = true := by
  obtain ⟨hsh, _, ⟨_, hn⟩, hm, ht⟩ := polB_all hc
  unfold sharesB at hsh
  simp only [Bool.and_eq_true] at hsh
  obtain ⟨⟨q1, q2⟩, q3, q4⟩ := hsh
  have u1 := upB_iff q1
  have u2 := upB_iff q2
  have u3 := upB_iff q3
  have u4 := upB_iff q4
  have hk : ∀ j : Fin 7, tokB (1, keysL.getD j.val []) = true := by decide
  have key : ∀ (x : Said), (saidsG g)[i]? = some x → (∀ t ∈ x.2, tokB (kindI i, t) = true) → (lineI g i).all tokB = true := by
    intro x hx hall
    unfold lineI
    rw [hx]
    simp only
    split
    · rw [List.all_cons, Bool.and_eq_true, List.all_map, List.all_eq_true]
      exact ⟨hk ⟨i, hi⟩, hall⟩
    · rfl
  match i, hi with
  | 0, _ =>
    refine key _ rfl (fun t hx => ?_)
    simp only [saidShares, List.mem_cons, List.not_mem_nil, or_false] at hx
    rcases hx with rfl | rfl
    · exact (pct_back u2.1 (by omega)).1
    · exact (pct_back u4.1 (by omega)).1
  | 1, _ =>
    refine key _ rfl (fun t hx => ?_)
    simp only [saidShares, List.mem_cons, List.not_mem_nil, or_false] at hx
    rcases hx with rfl | rfl
    · exact (pct_back u1.1 u1.2).1
    · exact (pct_back u3.1 u3.2).1
  | 2, _ =>
    refine key _ rfl (fun t hx => ?_)
    have h1 : ∀ t ∈ looksL, tokB (1, t) = true := by decide
    exact h1 t (List.mem_filter.1 hx).1
  | 3, _ => exact key _ rfl (fun t hx => name_tok (names_15 hn t hx).1)
  | 4, _ =>
    refine key _ rfl (fun t hx => ?_)
    simp only [saidNum, List.mem_cons, List.not_mem_nil, or_false] at hx
    subst hx
    exact (num_back hm.1 hm.2).1
  | 5, _ =>
    refine key _ rfl (fun t hx => ?_)
    simp only [saidNum, List.mem_cons, List.not_mem_nil, or_false] at hx
    subst hx
    exact (num_back ht.1 (by omega)).1
  | 6, _ => exact key _ rfl (fun t hx => by cases hx)
/-- What Print wrote is parsed as it was. -/
theorem parse_back {g : Pol} (hc : checkG g = 0) : parseP (textK g 7) = (g, 0, 0, 0) := by
  have hlen := textK_len hc 7
  rw [text_rest] at hlen ⊢
  have hw := rows_words (restL g 0) (fun l hl => by
    obtain ⟨hne, j, _, hj, rfl⟩ := rest_mem hl
    exact ⟨hne, toks_ok hc hj⟩) (by omega)
  obtain ⟨z, ln, h1, h2, h3⟩ := lines_back hc (s := pr0 (rowsW 1 (restL g 0))) rfl rfl 7 (Nat.le_refl _)
  unfold parseP
  rw [hw]
  simp only
  rw [if_neg (by simp)]
  have hr : readP (pr0 (rowsW 1 (restL g 0))) = (true, z) := by
    unfold readP
    rw [h1]
    simp only
    rw [h2, rest_end]
    rfl
  rw [hr]
  simp only
  rw [h3, part_all, hc, if_pos rfl]

/-- The names that are made: for each of the first eight whose length is no multiple of three. -/
def drainM (l : List (List UInt8)) : Nat → List (List UInt8)
  | 0 => []
  | k + 1 => drainM l k ++ (match l[k]? with
    | some t => if 0 < t.length % 3 then [[110, UInt8.ofNat (97 + k)]] else []
    | none => [])
def madeG (g : Pol) : Pol := ⟨min (g.l0 % 1001) (g.h0 % 1001), min (g.l1 % 1001) (g.h1 % 1001), max (g.l0 % 1001) (g.h0 % 1001), max (g.l1 % 1001) (g.h1 % 1001), g.on % 32, drainM g.drain (min g.drain.length 8), g.mx % 49, g.tr % 9, g.rb⟩
/-- Which of the first ones count. -/
def maskL (l : List (List UInt8)) : List Bool := (l.take 8).map (fun t => decide (0 < t.length % 3))
def drainQ (b : List Bool) : Nat → List (List UInt8)
  | 0 => []
  | k + 1 => drainQ b k ++ (if b.getD k false then [[110, UInt8.ofNat (97 + k)]] else [])
theorem drain_mask (l : List (List UInt8)) : ∀ k, k ≤ 8 → drainM l k = drainQ (maskL l) k
  | 0, _ => rfl
  | k + 1, h => by
    have e : (maskL l).getD k false = (match l[k]? with
        | some t => decide (0 < t.length % 3)
        | none => false) := by
      unfold maskL
      rw [List.getD_eq_getElem?_getD, List.getElem?_map, List.getElem?_take]
      have hk : k < 8 := by omega
      rw [if_pos hk]
      cases l[k]? <;> rfl
    rw [drainM, drainQ, drain_mask l k (by omega), e]
    congr 1
    cases l[k]? with
    | none => rfl
    | some t => by_cases ht : 0 < t.length % 3 <;> simp [ht]
theorem made_drain (l : List (List UInt8)) : drainM l (min l.length 8) = drainQ (maskL l) 8 := by
  rw [← drain_mask l 8 (Nat.le_refl _)]
  have key : ∀ d k, l.length ≤ k → drainM l (k + d) = drainM l k := by
    intro d
    induction d with
    | zero => intro k _; rfl
    | succ d ih =>
      intro k hk
      rw [show k + (d + 1) = (k + d) + 1 by omega, drainM, List.getElem?_eq_none (by omega), ih k hk]
      simp
  by_cases h : l.length ≤ 8
  · rw [show min l.length 8 = l.length by omega]
    have := key (8 - l.length) l.length (Nat.le_refl _)
    rw [show l.length + (8 - l.length) = 8 by omega] at this
    exact this.symm
  · rw [show min l.length 8 = 8 by omega]
theorem drainQ_ok (b0 b1 b2 b3 b4 b5 b6 b7 : Bool) : drainB (drainQ [b0, b1, b2, b3, b4, b5, b6, b7] 8) = true := by
  revert b0 b1 b2 b3 b4 b5 b6 b7
  decide +kernel
theorem drainQ_get (b : List Bool) : drainQ b 8 = drainQ [b.getD 0 false, b.getD 1 false, b.getD 2 false, b.getD 3 false, b.getD 4 false, b.getD 5 false, b.getD 6 false, b.getD 7 false] 8 := rfl
/-- What is made may be. -/
theorem made_check (g : Pol) : checkG (madeG g) = 0 := by
  have hd : drainB (madeG g).drain = true := by
    show drainB (drainM g.drain (min g.drain.length 8)) = true
    rw [made_drain, drainQ_get]
    exact drainQ_ok ..
  have a0 := Int.emod_nonneg g.l0 (show (1001 : Int) ≠ 0 by decide)
  have a1 := Int.emod_nonneg g.l1 (show (1001 : Int) ≠ 0 by decide)
  have a2 := Int.emod_nonneg g.h0 (show (1001 : Int) ≠ 0 by decide)
  have a3 := Int.emod_nonneg g.h1 (show (1001 : Int) ≠ 0 by decide)
  have c0 := Int.emod_lt_of_pos g.l0 (show (0 : Int) < 1001 by decide)
  have c1 := Int.emod_lt_of_pos g.l1 (show (0 : Int) < 1001 by decide)
  have c2 := Int.emod_lt_of_pos g.h0 (show (0 : Int) < 1001 by decide)
  have c3 := Int.emod_lt_of_pos g.h1 (show (0 : Int) < 1001 by decide)
  have a4 := Int.emod_nonneg g.on (show (32 : Int) ≠ 0 by decide)
  have c4 := Int.emod_lt_of_pos g.on (show (0 : Int) < 32 by decide)
  have a5 := Int.emod_nonneg g.mx (show (49 : Int) ≠ 0 by decide)
  have c5 := Int.emod_lt_of_pos g.mx (show (0 : Int) < 49 by decide)
  have a6 := Int.emod_nonneg g.tr (show (9 : Int) ≠ 0 by decide)
  have c6 := Int.emod_lt_of_pos g.tr (show (0 : Int) < 9 by decide)
  have hp : polB (madeG g) = true := by
    unfold polB
    rw [hd]
    show (sharesB (min (g.l0 % 1001) (g.h0 % 1001)) (min (g.l1 % 1001) (g.h1 % 1001)) (max (g.l0 % 1001) (g.h0 % 1001)) (max (g.l1 % 1001) (g.h1 % 1001)) && upB (g.on % 32) 31 && true && upB (g.mx % 49) 48 && upB (g.tr % 9) 8) = true
    generalize g.l0 % 1001 = x0 at *
    generalize g.l1 % 1001 = x1 at *
    generalize g.h0 % 1001 = x2 at *
    generalize g.h1 % 1001 = x3 at *
    generalize g.on % 32 = x4 at *
    generalize g.mx % 49 = x5 at *
    generalize g.tr % 9 = x6 at *
    simp only [sharesB, upB, Bool.and_eq_true, decide_eq_true_eq]
    repeat' apply And.intro
    all_goals first | omega | trivial
  unfold checkG
  rw [if_pos hp]
end Go.Proofs.YthbplchbolghjaaGreatDoor
