/- Texts out of words and what stands between them, and what is read of them. Plain mathematics. No conditions. -/
import Derived.Test.YtdakkjfhmidkeaaSLine
namespace Go.Proofs.Ytdakkjfhmidkeaa
open Go.RowKit

/-- These bytes are these runes. -/
inductive Dec : List UInt8 → List Nat → Prop where
  | nil : Dec [] []
  | one (b : UInt8) (p : List UInt8) (cs : List Nat) : b.toNat < 128 → Dec p cs → Dec (b :: p) (b.toNat :: cs)
  | two (p : List UInt8) (cs : List Nat) : Dec p cs → Dec (195 :: 169 :: p) (233 :: cs)
theorem Dec.append {p q : List UInt8} {a b : List Nat} (h : Dec p a) (k : Dec q b) : Dec (p ++ q) (a ++ b) := by
  induction h with
  | nil => exact k
  | one c p cs hc _ ih => exact Dec.one c _ _ hc ih
  | two p cs _ ih => exact Dec.two _ _ ih
/-- Runes, one behind the other. -/
def runR (s : RS) : List Nat → Option RS
  | [] => some s
  | c :: cs => if (readF s c).2 = 0 then runR (readF s c).1 cs else none

theorem dec_one (pre rest : List UInt8) (b : UInt8) (h : b.toNat < 128) : Utf8.decode ⟨(pre ++ b :: rest).toArray⟩ pre.length = (b.toNat, 1) := by
  have hp : pre.length < (⟨(pre ++ b :: rest).toArray⟩ : ByteArray).size := by
    show pre.length < (pre ++ b :: rest).toArray.size
    simp
  have e : ((⟨(pre ++ b :: rest).toArray⟩ : ByteArray)[pre.length]'hp) = b := by
    show (pre ++ b :: rest).toArray[pre.length]'_ = b
    simp
  rw [decode_ascii _ _ hp (by rw [e]; exact h), e]
theorem get_two (pre rest : List UInt8) (k : Nat) (x : UInt8) (h : (pre ++ rest)[pre.length + k]? = some x) : (⟨(pre ++ rest).toArray⟩ : ByteArray).get! (pre.length + k) = x := by
  show (pre ++ rest).toArray.getD (pre.length + k) _ = x
  rw [Array.getD_eq_getD_getElem?, List.getElem?_toArray, h]
  rfl
theorem dec_two (pre rest : List UInt8) : Utf8.decode ⟨(pre ++ 195 :: 169 :: rest).toArray⟩ pre.length = (233, 2) := by
  have h0 := get_two pre (195 :: 169 :: rest) 0 195 (by simp)
  have h1 := get_two pre (195 :: 169 :: rest) 1 169 (by rw [List.getElem?_append_right (by omega)]; simp)
  have hs : (⟨(pre ++ 195 :: 169 :: rest).toArray⟩ : ByteArray).size = pre.length + (rest.length + 2) := by
    show (pre ++ 195 :: 169 :: rest).toArray.size = _
    simp
  unfold Utf8.decode
  simp only [h0, h1, hs]
  have hl : decide (pre.length + 1 < pre.length + (rest.length + 2)) = true := by simp
  rw [hl, if_neg (by decide), if_pos (by decide), if_pos (by decide)]
  decide

theorem scan_dec (l : List UInt8) {p : List UInt8} {cs : List Nat} (h : Dec p cs) : ∀ (pre u : List UInt8) (f : Nat) (s t : RS), l = pre ++ (p ++ u) → runR s cs = some t → scanF l (cs.length + f) pre.length s = scanF l f (pre.length + p.length) t := by
  induction h with
  | nil =>
    intro pre u f s t hl hr
    simp only [runR, Option.some.injEq] at hr
    subst hr
    simp
  | one b p cs hb _ ih =>
    intro pre u f s t hl hr
    have hd : Utf8.decode ⟨l.toArray⟩ pre.length = (b.toNat, 1) := by
      rw [hl]
      exact dec_one pre (p ++ u) b hb
    rw [runR] at hr
    split at hr
    · rename_i h0
      rw [List.length_cons, show cs.length + 1 + f = (cs.length + f) + 1 by omega, scanF, hd]
      simp only
      rw [if_pos (by rw [hl]; simp), if_neg (by omega), if_pos h0]
      have := ih (pre ++ [b]) u f _ t (by rw [hl]; simp) hr
      rw [List.length_append, List.length_singleton] at this
      rw [this, List.length_cons]
      congr 1
      omega
    · cases hr
  | two p cs _ ih =>
    intro pre u f s t hl hr
    have hd : Utf8.decode ⟨l.toArray⟩ pre.length = (233, 2) := by
      rw [hl]
      exact dec_two pre (p ++ u)
    rw [runR] at hr
    split at hr
    · rename_i h0
      rw [List.length_cons, show cs.length + 1 + f = (cs.length + f) + 1 by omega, scanF, hd]
      simp only
      rw [if_pos (by rw [hl]; simp), if_neg (by omega), if_pos h0]
      have := ih (pre ++ [195, 169]) u f _ t (by rw [hl]; simp) hr
      rw [List.length_append] at this
      simp only [List.length_cons, List.length_nil] at this
      rw [this, List.length_cons, List.length_cons]
      congr 1
      omega
    · cases hr

def pieL : List (List UInt8) := [[97], [112, 111, 100, 45, 49], [122, 57], [48], [49, 46, 53, 71, 105], [56, 53, 46, 53, 37], [123], [125], [58], [59], [42], [34, 34], [34, 120, 32, 121, 34], [34, 195, 169, 35, 92, 92, 34], [34, 92, 110, 34]]
def txtL : List (List UInt8) := [[97], [112, 111, 100, 45, 49], [122, 57], [48], [49, 46, 53, 71, 105], [56, 53, 46, 53, 37], [123], [125], [58], [59], [42], [], [120, 32, 121], [195, 169, 35, 92], [10]]
def runL : List Nat := [1, 5, 2, 1, 5, 5, 1, 1, 1, 1, 1, 2, 5, 6, 4]
def kinL : List Int := [1, 1, 1, 2, 2, 2, 4, 4, 4, 4, 4, 3, 3, 3, 3]
def sepL : List (List UInt8) := [[32], [9, 32, 32], [10], [32, 35, 32, 195, 169, 32, 34, 32, 123, 10, 10, 32]]
def csP : List (List Nat) := [[97], [112, 111, 100, 45, 49], [122, 57], [48], [49, 46, 53, 71, 105], [56, 53, 46, 53, 37], [123], [125], [58], [59], [42], [34, 34], [34, 120, 32, 121, 34], [34, 233, 35, 92, 92, 34], [34, 92, 110, 34]]
def csS : List (List Nat) := [[32], [9, 32, 32], [10], [32, 35, 32, 233, 32, 34, 32, 123, 10, 10, 32]]
def nextL (q ln : Nat) : Nat := if q = 2 then ln + 1 else if q = 3 then ln + 2 else ln
def nextC (q cl r : Nat) : Nat := if q = 0 then cl + r + 1 else if q = 1 then cl + r + 3 else if q = 2 then 1 else 2

theorem dec_pie (k : Nat) (hk : k < 15) : Dec (pieL.getD k []) (csP.getD k []) := by
  match k, hk with
  | 0, _ | 1, _ | 2, _ | 3, _ | 4, _ | 5, _ | 6, _ | 7, _ | 8, _ | 9, _ | 10, _ | 11, _ | 12, _ | 14, _ =>
    show Dec (_ :: _) (_ :: _)
    repeat (first | exact Dec.nil | refine Dec.one _ _ _ (by decide) ?_)
  | 13, _ =>
    refine Dec.one 34 _ _ (by decide) (Dec.two _ _ ?_)
    repeat (first | exact Dec.nil | refine Dec.one _ _ _ (by decide) ?_)
theorem dec_sep (q : Nat) (hq : q < 4) : Dec (sepL.getD q []) (csS.getD q []) := by
  match q, hq with
  | 0, _ | 1, _ | 2, _ =>
    show Dec (_ :: _) (_ :: _)
    repeat (first | exact Dec.nil | refine Dec.one _ _ _ (by decide) ?_)
  | 3, _ =>
    refine Dec.one 32 _ _ (by decide) (Dec.one 35 _ _ (by decide) (Dec.one 32 _ _ (by decide) (Dec.two _ _ ?_)))
    repeat (first | exact Dec.nil | refine Dec.one _ _ _ (by decide) ?_)
/-- The reader behind a word and what stands behind it. -/
def behind (k q ln cl : Nat) (ws : List W4) : RS := ⟨.btw, nextL q ln, nextC q cl (runL.getD k 0), ws ++ [(kinL.getD k 0, txtL.getD k [], ln, cl)], kinL.getD k 0, txtL.getD k [], ln, cl, txtL.getD k []⟩
theorem run_behind (k q : Nat) (hk : k < 15) (hq : q < 4) (ln cl : Nat) (ws : List W4) (kd : Int) (wt : List UInt8) (wl wc : Nat) (tx : List UInt8) :
    runR ⟨.btw, ln, cl, ws, kd, wt, wl, wc, tx⟩ (csP.getD k [] ++ csS.getD q []) = some (behind k q ln cl ws) := by
  match k, hk with
  | 0, _ | 1, _ | 2, _ | 3, _ | 4, _ | 5, _ | 6, _ | 7, _ | 8, _ | 9, _ | 10, _ | 11, _ | 12, _ | 13, _ | 14, _ =>
    match q, hq with
    | 0, _ | 1, _ | 2, _ | 3, _ =>
      show runR _ _ = _
      kernel_rfl
theorem run_piece (k q : Nat) (hk : k < 15) (hq : q < 4) (s : RS) (hm : s.mode = .btw) :
    ∃ t, runR s (csP.getD k [] ++ csS.getD q []) = some t ∧ t.mode = .btw ∧ t.line = nextL q s.line ∧ t.col = nextC q s.col (runL.getD k 0) ∧ t.words = s.words ++ [(kinL.getD k 0, txtL.getD k [], s.line, s.col)] := by
  obtain ⟨m, ln, cl, ws, kd, wt, wl, wc, tx⟩ := s
  simp only at hm
  subst hm
  exact ⟨_, run_behind k q hk hq ln cl ws kd wt wl wc tx, rfl, rfl, rfl, rfl⟩

theorem snoc_ind {α : Type} {P : List α → Prop} (h0 : P []) (hs : ∀ l x, P l → P (l ++ [x])) (l : List α) : P l := by
  have key : ∀ r : List α, P r.reverse := by
    intro r
    induction r with
    | nil => exact h0
    | cons x t ih =>
      rw [List.reverse_cons]
      exact hs _ _ ih
  have := key l.reverse
  rwa [List.reverse_reverse] at this

abbrev Sp := List UInt8 × List W4 × Nat × Nat
def spStep (a : Sp) (x : Int) : Sp :=
  (a.1 ++ pieL.getD ((x % 60).toNat % 15) [] ++ sepL.getD ((x % 60).toNat / 15) [], a.2.1 ++ [(kinL.getD ((x % 60).toNat % 15) 0, txtL.getD ((x % 60).toNat % 15) [], a.2.2.1, a.2.2.2)],
    nextL ((x % 60).toNat / 15) a.2.2.1, nextC ((x % 60).toNat / 15) a.2.2.2 (runL.getD ((x % 60).toNat % 15) 0))
def spF (l : List Int) : Sp := l.foldl spStep ([], [], 1, 1)
theorem spF_snoc (l : List Int) (x : Int) : spF (l ++ [x]) = spStep (spF l) x := by simp [spF]

theorem sp_scan (l : List Int) : ∃ (n : Nat) (s : RS), n ≤ (spF l).1.length ∧ s.mode = .btw ∧ s.line = (spF l).2.2.1 ∧ s.col = (spF l).2.2.2 ∧ s.words = (spF l).2.1 ∧
    ∀ (u : List UInt8) (f : Nat), scanF ((spF l).1 ++ u) (n + f) 0 rs0 = scanF ((spF l).1 ++ u) f (spF l).1.length s := by
  refine snoc_ind (P := fun l => ∃ (n : Nat) (s : RS), n ≤ (spF l).1.length ∧ s.mode = .btw ∧ s.line = (spF l).2.2.1 ∧ s.col = (spF l).2.2.2 ∧ s.words = (spF l).2.1 ∧ ∀ (u : List UInt8) (f : Nat), scanF ((spF l).1 ++ u) (n + f) 0 rs0 = scanF ((spF l).1 ++ u) f (spF l).1.length s) ?_ ?_ l
  · exact ⟨0, rs0, Nat.le_refl _, rfl, rfl, rfl, rfl, fun u f => by simp [spF]⟩
  · intro l x ih
    obtain ⟨n, s, hn, hm, h1, h2, h3, h4⟩ := ih
    have b0 : (0 : Int) ≤ x % 60 := Int.emod_nonneg _ (by decide)
    have b1 : x % 60 < 60 := Int.emod_lt_of_pos _ (by decide)
    have hk : (x % 60).toNat % 15 < 15 := Nat.mod_lt _ (by decide)
    have hq : (x % 60).toNat / 15 < 4 := by omega
    obtain ⟨t, hr, t1, t2, t3, t4⟩ := run_piece _ _ hk hq s hm
    have hd := (dec_pie _ hk).append (dec_sep _ hq)
    rw [spF_snoc]
    unfold spStep
    simp only
    have hle : (csP.getD ((x % 60).toNat % 15) [] ++ csS.getD ((x % 60).toNat / 15) []).length ≤ (pieL.getD ((x % 60).toNat % 15) [] ++ sepL.getD ((x % 60).toNat / 15) []).length := by
      have key : ∀ {p : List UInt8} {c : List Nat}, Dec p c → c.length ≤ p.length := by
        intro p c h
        induction h with
        | nil => exact Nat.le_refl _
        | one _ _ _ _ _ ih => simpa using ih
        | two _ _ _ ih => simp; omega
      exact key hd
    refine ⟨n + (csP.getD ((x % 60).toNat % 15) [] ++ csS.getD ((x % 60).toNat / 15) []).length, t, ?_, t1, by rw [t2, h1], by rw [t3, h2], by rw [t4, h3, h1, h2], ?_⟩
    · simp only [List.length_append] at hle ⊢
      omega
    · intro u f
      have e1 := h4 ((pieL.getD ((x % 60).toNat % 15) [] ++ sepL.getD ((x % 60).toNat / 15) []) ++ u) ((csP.getD ((x % 60).toNat % 15) [] ++ csS.getD ((x % 60).toNat / 15) []).length + f)
      have e2 := scan_dec ((spF l).1 ++ ((pieL.getD ((x % 60).toNat % 15) [] ++ sepL.getD ((x % 60).toNat / 15) []) ++ u)) hd (spF l).1 u f s t rfl hr
      rw [e2] at e1
      rw [show (spF l).1 ++ pieL.getD ((x % 60).toNat % 15) [] ++ sepL.getD ((x % 60).toNat / 15) [] ++ u = (spF l).1 ++ ((pieL.getD ((x % 60).toNat % 15) [] ++ sepL.getD ((x % 60).toNat / 15) []) ++ u) by simp [List.append_assoc]]
      rw [Nat.add_assoc, e1]
      congr 1
      simp only [List.length_append]
      omega
theorem sp_words (l : List Int) (hl : (spF l).1.length ≤ 65536) : wordsF (spF l).1 = ((spF l).2.1, 0, 0, 0) := by
  obtain ⟨n, s, hn, hm, h1, h2, h3, h4⟩ := sp_scan l
  unfold wordsF
  rw [if_neg (by omega)]
  have e := h4 [] ((spF l).1.length - n + 1)
  rw [List.append_nil, show n + ((spF l).1.length - n + 1) = (spF l).1.length + 1 by omega] at e
  rw [e, scanF, if_neg (by omega)]
  have hs : stepF s 10 = (s, 0) := by
    unfold stepF
    rw [hm]
    simp [betF]
  have hr : readF s 10 = (advF s 10, 0) := by
    unfold readF
    rw [hs]
    rfl
  rw [hr, if_pos rfl]
  show (s.words, 0, 0, 0) = _
  rw [h3]

theorem pie_len : ∀ k, (pieL.getD k []).length ≤ 7 := by
  intro k
  by_cases h : k < 15
  · have : ∀ k < 15, (pieL.getD k []).length ≤ 7 := by decide
    exact this k h
  · rw [List.getD_eq_getElem?_getD, List.getElem?_eq_none (by simp [pieL]; omega)]
    simp
theorem sep_len : ∀ k, (sepL.getD k []).length ≤ 12 := by
  intro k
  by_cases h : k < 4
  · have : ∀ k < 4, (sepL.getD k []).length ≤ 12 := by decide
    exact this k h
  · rw [List.getD_eq_getElem?_getD, List.getElem?_eq_none (by simp [sepL]; omega)]
    simp
theorem sp_len (l : List Int) : (spF l).1.length ≤ 19 * l.length ∧ (spF l).2.1.length = l.length ∧ (spF l).2.2.1 ≤ 1 + 2 * l.length ∧ (spF l).2.2.2 ≤ 2 + 9 * l.length ∧ (∀ x ∈ (spF l).2.1, x.2.2.1 ≤ (spF l).2.2.1) ∧ (spF l).2.1.Pairwise (fun x y => x.2.2.1 ≤ y.2.2.1) := by
  refine snoc_ind (P := fun l => (spF l).1.length ≤ 19 * l.length ∧ (spF l).2.1.length = l.length ∧ (spF l).2.2.1 ≤ 1 + 2 * l.length ∧ (spF l).2.2.2 ≤ 2 + 9 * l.length ∧ (∀ x ∈ (spF l).2.1, x.2.2.1 ≤ (spF l).2.2.1) ∧ (spF l).2.1.Pairwise (fun x y => x.2.2.1 ≤ y.2.2.1)) ?_ ?_ l
  · exact ⟨by simp [spF], by simp [spF], by simp [spF], by simp [spF], by simp [spF], by simp [spF]⟩
  · intro l x ih
    obtain ⟨h1, h2, h3, h4, h5, h6⟩ := ih
    have p1 := pie_len ((x % 60).toNat % 15)
    have p2 := sep_len ((x % 60).toNat / 15)
    have p3 : runL.getD ((x % 60).toNat % 15) 0 ≤ 6 := by
      have : ∀ k < 15, runL.getD k 0 ≤ 6 := by decide
      exact this _ (Nat.mod_lt _ (by decide))
    have hn : (spF l).2.2.1 ≤ nextL ((x % 60).toNat / 15) (spF l).2.2.1 ∧ nextL ((x % 60).toNat / 15) (spF l).2.2.1 ≤ (spF l).2.2.1 + 2 := by
      unfold nextL
      repeat' split
      all_goals omega
    rw [spF_snoc]
    unfold spStep
    simp only [List.length_append, List.length_singleton, List.mem_append, List.mem_singleton]
    refine ⟨by omega, by omega, by omega, ?_, ?_, ?_⟩
    · unfold nextC
      repeat' split
      all_goals omega
    · intro y hy
      rcases hy with hy | rfl
      · exact Nat.le_trans (h5 y hy) hn.1
      · exact hn.1
    · rw [List.pairwise_append]
      refine ⟨h6, List.pairwise_singleton _ _, fun a ha b hb => ?_⟩
      rw [List.mem_singleton] at hb
      subst hb
      exact h5 a ha
/-- How many stand in a line: those up to the first one that does not. -/
theorem line_run (l : List W4) (h : l.Pairwise (fun x y => x.2.2.1 ≤ y.2.2.1)) (i k : Nat) (x : W4) (hx : l[i]? = some x) (hik : i ≤ k) (hk : k ≤ l.length) (hin : ∀ j y, i ≤ j → j < k → l[j]? = some y → y.2.2.1 = x.2.2.1) (hout : ∀ y, l[k]? = some y → y.2.2.1 ≠ x.2.2.1) : lineF l i = k - i := by
  unfold lineF
  rw [hx]
  simp only
  have e : l.drop i = (l.drop i).take (k - i) ++ l.drop k := by
    have := (List.take_append_drop (k - i) (l.drop i)).symm
    rw [List.drop_drop, show i + (k - i) = k by omega] at this
    exact this
  rw [e, List.filter_append]
  have e1 : ((l.drop i).take (k - i)).filter (lineB x.2.2.1) = (l.drop i).take (k - i) := by
    rw [List.filter_eq_self]
    intro y hy
    obtain ⟨j, hj, e⟩ := List.getElem_of_mem hy
    have hj2 : j < k - i := by rw [List.length_take] at hj; omega
    have : l[i + j]? = some y := by
      rw [List.getElem_take, List.getElem_drop] at e
      rw [← e]
      exact List.getElem?_eq_getElem _
    unfold lineB
    rw [decide_eq_true_eq]
    exact hin (i + j) y (by omega) (by omega) this
  have e2 : (l.drop k).filter (lineB x.2.2.1) = [] := by
    rw [List.filter_eq_nil_iff]
    intro y hy
    obtain ⟨j, hj, e⟩ := List.getElem_of_mem hy
    rw [List.length_drop] at hj
    have hkl : k < l.length := by omega
    have hz := hout l[k] (List.getElem?_eq_getElem hkl)
    have hiL : i < l.length := by omega
    have hxi : l[i] = x := by rw [List.getElem?_eq_getElem hiL] at hx; exact Option.some.inj hx
    rw [List.getElem_drop] at e
    have ha : x.2.2.1 ≤ l[k].2.2.1 := by
      rcases Nat.lt_or_eq_of_le hik with hlt | rfl
      · have := List.pairwise_iff_getElem.1 h i k hiL hkl hlt
        rw [hxi] at this
        exact this
      · rw [hxi]
        exact Nat.le_refl _
    have hb : l[k].2.2.1 ≤ y.2.2.1 := by
      rcases Nat.eq_zero_or_pos j with rfl | hj0
      · simp only [Nat.add_zero] at e
        rw [e]
        exact Nat.le_refl _
      · have := List.pairwise_iff_getElem.1 h k (k + j) hkl (by omega) (by omega)
        rw [e] at this
        exact this
    unfold lineB
    rw [decide_eq_true_eq]
    omega
  rw [e1, e2, List.append_nil, List.length_take, List.length_drop]
  omega
end Go.Proofs.Ytdakkjfhmidkeaa
