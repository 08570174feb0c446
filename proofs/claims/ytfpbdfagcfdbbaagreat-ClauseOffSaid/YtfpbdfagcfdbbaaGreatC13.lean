/- Numbers fitted to a cluster, as numbers in memory. Condition: the arguments lie in memory. The clauses of a placement stand in order, each once; none is broken by less than nothing; how many are about pods. In numbers only. By how much a clause is broken in a list: find. A contract. Condition: the list lies in memory. If a pod is taken off its node, no clause of nodes, of terms, of taints, of those apart, of doubles is broken by more than ahead. In numbers only. A pod taken off: nothing of nodes, terms, taints, those apart, doubles is broken by more: the law's walk. Condition: the arguments lie in memory. -/
import Derived.Test.YtfpbdfagcfdbbaaGreatC12

namespace Go.Proofs.YtfpbdfagcfdbbaaGreat
open Go.RowKit

theorem fitted8_ints (A B C P : Option Addr) (ca cb cc cp : Nat) (ns : List NodeD) (ps : List PodD) (os : List OwnD) (l : List Int) (w : World) (h : SnapAt w A B C ca cb cc ns ps os) (hp : IntsAt w P cp l) :
    Calls Tryz.prog 25 #[snapV A B C ca cb cc ns ps os, .slice P l.length cp] w fun e w' => ∃ Q c, e = .returned (.slice Q (fitU ns l ps.length).length c) ∧ IntsAt w' Q c (fitU ns l ps.length) ∧ Below w.heap.size w w' := by
  refine (fitted8_any A B C P ca cb cc cp ns ps os l w h hp).mono ?_
  rintro e w' ⟨v, rfl, ho, hb⟩
  obtain ⟨g, c, rfl, _⟩ := La.own_slice ho
  have e := fitU_len ns l ps.length
  refine ⟨g, c, by rw [e], IntsAt.own (base := w.heap.size) (by rw [e]; exact ho), hb⟩
end Go.Proofs.YtfpbdfagcfdbbaaGreat

namespace Go.Proofs.YtfpbdfagcfdbbaaGreat
open Go.RowKit

/-- One clause stands ahead of another. -/
def Rise3 (c d : ClT) : Prop := c.1 < d.1 ∨ (c.1 = d.1 ∧ (c.2.1 < d.2.1 ∨ (c.2.1 = d.2.1 ∧ c.2.2.1 < d.2.2.1)))
theorem caps_kind (ns : List NodeD) (ps : List PodD) (p : List Int) : ∀ k, ∀ c ∈ capsU ns ps p k, c.1 = 1 ∧ 0 ≤ c.2.1 ∧ c.2.1 < (k : Int) ∧ 0 ≤ c.2.2.2
  | 0, c, h => by simp [capsU] at h
  | k + 1, c, h => by
    rw [capsU, List.mem_append] at h
    rcases h with h | h
    · have := caps_kind ns ps p k c h
      omega
    · split at h
      · obtain ⟨q, hq, rfl⟩ := List.mem_map.1 h
        refine ⟨rfl, ?_, ?_, ?_⟩
        · show (0 : Int) ≤ (k : Int); omega
        · show (k : Int) < ((k + 1 : Nat) : Int); omega
        · show 0 ≤ max 0 _; omega
      · simp at h
theorem caps_rise (ns : List NodeD) (ps : List PodD) (p : List Int) : ∀ k, (capsU ns ps p k).Pairwise Rise3
  | 0 => List.Pairwise.nil
  | k + 1 => by
    rw [capsU, List.pairwise_append]
    refine ⟨caps_rise ns ps p k, ?_, ?_⟩
    · split
      · unfold capN
        rw [List.pairwise_map]
        refine List.Pairwise.imp ?_ List.pairwise_lt_range
        intro a b hab
        refine .inr ⟨rfl, .inr ⟨rfl, ?_⟩⟩
        show (a : Int) < (b : Int)
        omega
      · exact List.Pairwise.nil
    · intro c hc d hd
      obtain ⟨h1, _, h3, _⟩ := caps_kind ns ps p k c hc
      split at hd
      · obtain ⟨q, hq, rfl⟩ := List.mem_map.1 hd
        refine .inr ⟨h1, .inl ?_⟩
        show c.2.1 < (k : Int)
        omega
      · simp at hd
theorem pods_kind (ns : List NodeD) (ps : List PodD) (os : List OwnD) (p : List Int) (kind : Nat) : ∀ k, ∀ c ∈ podsU ns ps os p kind k, c.1 = (kind : Int) ∧ 0 ≤ c.2.1 ∧ c.2.1 < (k : Int) ∧ 0 ≤ c.2.2.2
  | 0, c, h => by simp [podsU] at h
  | k + 1, c, h => by
    rw [podsU, List.mem_append] at h
    rcases h with h | h
    · have := pods_kind ns ps os p kind k c h
      omega
    · unfold podR at h
      split at h
      · simp at h
        subst h
        refine ⟨rfl, ?_, ?_, ?_⟩
        · show (0 : Int) ≤ (k : Int); omega
        · show (k : Int) < ((k + 1 : Nat) : Int); omega
        · rename_i b _
          show (0 : Int) ≤ (b : Int); omega
      · simp at h
theorem pods_rise (ns : List NodeD) (ps : List PodD) (os : List OwnD) (p : List Int) (kind : Nat) : ∀ k, (podsU ns ps os p kind k).Pairwise Rise3
  | 0 => List.Pairwise.nil
  | k + 1 => by
    rw [podsU, List.pairwise_append]
    refine ⟨pods_rise ns ps os p kind k, ?_, ?_⟩
    · unfold podR
      split
      · exact List.pairwise_singleton _ _
      · exact List.Pairwise.nil
    · intro c hc d hd
      obtain ⟨h1, _, h3, _⟩ := pods_kind ns ps os p kind k c hc
      unfold podR at hd
      split at hd
      · simp at hd
        subst hd
        refine .inr ⟨h1, .inl ?_⟩
        show c.2.1 < (k : Int)
        omega
      · simp at hd
theorem kinds_kind (ns : List NodeD) (ps : List PodD) (os : List OwnD) (p : List Int) : ∀ k, ∀ c ∈ kindsU ns ps os p k, 2 ≤ c.1 ∧ c.1 ≤ (k : Int) + 1 ∧ 0 ≤ c.2.1 ∧ c.2.1 < (p.length : Int) ∧ 0 ≤ c.2.2.2
  | 0, c, h => by simp [kindsU] at h
  | k + 1, c, h => by
    rw [kindsU, List.mem_append] at h
    rcases h with h | h
    · have := kinds_kind ns ps os p k c h
      omega
    · have := pods_kind ns ps os p (k + 2) p.length c h
      omega
theorem kinds_rise (ns : List NodeD) (ps : List PodD) (os : List OwnD) (p : List Int) : ∀ k, (kindsU ns ps os p k).Pairwise Rise3
  | 0 => List.Pairwise.nil
  | k + 1 => by
    rw [kindsU, List.pairwise_append]
    refine ⟨kinds_rise ns ps os p k, pods_rise ns ps os p (k + 2) p.length, ?_⟩
    intro c hc d hd
    have := kinds_kind ns ps os p k c hc
    have := pods_kind ns ps os p (k + 2) p.length d hd
    exact .inl (by omega)
theorem skewO_pos (l : List Int) (s : Int) : 0 ≤ skewO l s := by
  unfold skewO
  split <;> omega
theorem spreads_kind (ns : List NodeD) (ps : List PodD) (os : List OwnD) (p : List Int) : ∀ k, ∀ c ∈ spreadsU ns ps os p k, c.1 = 7 ∧ 0 ≤ c.2.1 ∧ c.2.1 < (k : Int) ∧ 0 ≤ c.2.2.2
  | 0, c, h => by simp [spreadsU] at h
  | k + 1, c, h => by
    rw [spreadsU, List.mem_append] at h
    rcases h with h | h
    · have := spreads_kind ns ps os p k c h
      omega
    · unfold spreadR at h
      split at h
      · split at h
        · simp at h
        · simp at h
          subst h
          refine ⟨rfl, ?_, ?_, skewO_pos _ _⟩
          · show (0 : Int) ≤ (k : Int); omega
          · show (k : Int) < ((k + 1 : Nat) : Int); omega
      · simp at h
theorem spreads_rise (ns : List NodeD) (ps : List PodD) (os : List OwnD) (p : List Int) : ∀ k, (spreadsU ns ps os p k).Pairwise Rise3
  | 0 => List.Pairwise.nil
  | k + 1 => by
    rw [spreadsU, List.pairwise_append]
    refine ⟨spreads_rise ns ps os p k, ?_, ?_⟩
    · unfold spreadR
      split
      · split
        · exact List.Pairwise.nil
        · exact List.pairwise_singleton _ _
      · exact List.Pairwise.nil
    · intro c hc d hd
      obtain ⟨h1, _, h3, _⟩ := spreads_kind ns ps os p k c hc
      unfold spreadR at hd
      split at hd
      · split at hd
        · simp at hd
        · simp at hd
          subst hd
          refine .inr ⟨h1, .inl ?_⟩
          show c.2.1 < (k : Int)
          omega
      · simp at hd
theorem mins_kind (ns : List NodeD) (ps : List PodD) (os : List OwnD) (p : List Int) : ∀ k, ∀ c ∈ minsU ns ps os p k, c.1 = 8 ∧ 0 ≤ c.2.1 ∧ c.2.1 < (k : Int) ∧ 0 ≤ c.2.2.2
  | 0, c, h => by simp [minsU] at h
  | k + 1, c, h => by
    rw [minsU, List.mem_append] at h
    rcases h with h | h
    · have := mins_kind ns ps os p k c h
      omega
    · unfold minR at h
      split at h
      · simp at h
        subst h
        refine ⟨rfl, ?_, ?_, ?_⟩
        · show (0 : Int) ≤ (k : Int); omega
        · show (k : Int) < ((k + 1 : Nat) : Int); omega
        · show 0 ≤ max 0 _; omega
      · simp at h
theorem mins_rise (ns : List NodeD) (ps : List PodD) (os : List OwnD) (p : List Int) : ∀ k, (minsU ns ps os p k).Pairwise Rise3
  | 0 => List.Pairwise.nil
  | k + 1 => by
    rw [minsU, List.pairwise_append]
    refine ⟨mins_rise ns ps os p k, ?_, ?_⟩
    · unfold minR
      split
      · exact List.pairwise_singleton _ _
      · exact List.Pairwise.nil
    · intro c hc d hd
      obtain ⟨h1, _, h3, _⟩ := mins_kind ns ps os p k c hc
      unfold minR at hd
      split at hd
      · simp at hd
        subst hd
        refine .inr ⟨h1, .inl ?_⟩
        show c.2.1 < (k : Int)
        omega
      · simp at hd
theorem all8_rise (ns : List NodeD) (ps : List PodD) (os : List OwnD) (p : List Int) : (all8 ns ps os p).Pairwise Rise3 := by
  unfold all8
  split
  · unfold allU
    rw [List.pairwise_append, List.pairwise_append, List.pairwise_append]
    refine ⟨⟨⟨caps_rise _ _ _ _, kinds_rise _ _ _ _ _, ?_⟩, spreads_rise _ _ _ _ _, ?_⟩, mins_rise _ _ _ _ _, ?_⟩
    · intro c hc d hd
      have := caps_kind ns ps p _ c hc
      have := kinds_kind ns ps os p _ d hd
      exact .inl (by omega)
    · intro c hc d hd
      have := spreads_kind ns ps os p _ d hd
      rcases List.mem_append.1 hc with hc | hc
      · have := caps_kind ns ps p _ c hc
        exact .inl (by omega)
      · have := kinds_kind ns ps os p _ c hc
        exact .inl (by omega)
    · intro c hc d hd
      have := mins_kind ns ps os p _ d hd
      rcases List.mem_append.1 hc with hc | hc
      · rcases List.mem_append.1 hc with hc | hc
        · have := caps_kind ns ps p _ c hc
          exact .inl (by omega)
        · have := kinds_kind ns ps os p _ c hc
          exact .inl (by omega)
      · have := spreads_kind ns ps os p _ c hc
        exact .inl (by omega)
  · exact List.Pairwise.nil
/-- What each clause is: of a known kind, broken by no less than nothing; one about a pod is about one that is there. -/
theorem all8_good (ns : List NodeD) (ps : List PodD) (os : List OwnD) (p : List Int) : ∀ c ∈ all8 ns ps os p, 0 ≤ c.2.2.2 ∧ (2 ≤ c.1 → c.1 ≤ 6 → 0 ≤ c.2.1 ∧ c.2.1 < (p.length : Int)) := by
  intro c hc
  unfold all8 at hc
  split at hc
  · unfold allU at hc
    simp only [List.mem_append] at hc
    rcases hc with ((hc | hc) | hc) | hc
    · have := caps_kind ns ps p _ c hc
      exact ⟨by omega, fun h1 h2 => by omega⟩
    · have := kinds_kind ns ps os p _ c hc
      exact ⟨by omega, fun h1 h2 => by omega⟩
    · have := spreads_kind ns ps os p _ c hc
      exact ⟨by omega, fun h1 h2 => by omega⟩
    · have := mins_kind ns ps os p _ c hc
      exact ⟨by omega, fun h1 h2 => by omega⟩
  · simp at hc
theorem rise_at {l : List ClT} (h : l.Pairwise Rise3) {i j : Nat} {c d : ClT} (hi : l[i]? = some c) (hj : l[j]? = some d) (hij : i < j) : Rise3 c d := by
  obtain ⟨h1, rfl⟩ := List.getElem?_eq_some_iff.1 hi
  obtain ⟨h2, rfl⟩ := List.getElem?_eq_some_iff.1 hj
  exact List.pairwise_iff_getElem.1 h i j h1 h2 hij
/-- Each clause is found by what it is about. -/
theorem find_rise {l : List ClT} (h : l.Pairwise Rise3) {c : ClT} (hc : c ∈ l) : findC l c.1 c.2.1 c.2.2.1 = some c.2.2.2 := by
  obtain ⟨k, hk⟩ := List.mem_iff_getElem?.1 hc
  refine findC_at hk (by simp [isC]) ?_
  intro j z hj hz
  have hr := rise_at h hz hk hj
  unfold isC
  refine decide_eq_false ?_
  rintro ⟨e1, e2, e3⟩
  unfold Rise3 at hr
  omega
theorem filter_at {f : ClT → Bool} {l : List ClT} {i : Nat} {c : ClT} (hi : l[i]? = some c) (hf : f c = true) : (l.filter f)[((l.take i).filter f).length]? = some c := by
  obtain ⟨h1, rfl⟩ := List.getElem?_eq_some_iff.1 hi
  have e : l.filter f = (l.take i).filter f ++ (l.drop i).filter f := by rw [← List.filter_append, List.take_append_drop]
  rw [e, List.getElem?_append_right (Nat.le_refl _), Nat.sub_self, List.drop_eq_getElem_cons h1, List.filter_cons_of_pos hf]
  rfl
/-- A clause about a pod. -/
def abtC (c : ClT) : Bool := decide (2 ≤ c.1) && decide (c.1 ≤ 6)
/-- How many clauses are about the first k pods. -/
def abtU (l : List ClT) : Nat → Nat
  | 0 => 0
  | k + 1 => abtU l k + (l.filter (podC (k : Int))).length
theorem abt_split (n : Nat) : ∀ l : List ClT, numL (fun c => abtC c && (decide (0 ≤ c.2.1) && decide (c.2.1 < ((n + 1 : Nat) : Int)))) l = numL (fun c => abtC c && (decide (0 ≤ c.2.1) && decide (c.2.1 < (n : Int)))) l + numL (podC (n : Int)) l
  | [] => rfl
  | c :: t => by
    have ih := abt_split n t
    unfold numL at ih ⊢
    have key : ∀ f : ClT → Bool, ((c :: t).filter f).length = (if f c then 1 else 0) + (t.filter f).length := by
      intro f
      cases hf : f c
      · rw [List.filter_cons_of_neg (by simp [hf])]
        simp
      · rw [List.filter_cons_of_pos hf]
        simp
        omega
    rw [key, key, key, ih]
    generalize (List.filter (fun c : ClT => abtC c && (decide (0 ≤ c.2.1) && decide (c.2.1 < (n : Int)))) t).length = X
    generalize (List.filter (podC (n : Int)) t).length = Y
    unfold abtC podC
    by_cases h1 : 2 ≤ c.1
    · by_cases h2 : c.1 ≤ 6
      · by_cases h3 : 0 ≤ c.2.1
        · by_cases h4 : c.2.1 < (n : Int)
          · have h5 : c.2.1 < ((n + 1 : Nat) : Int) := by omega
            have h6 : ¬ c.2.1 = (n : Int) := by omega
            simp only [h1, h2, h3, h4, h5, h6, decide_true, Bool.and_true]
            simp
            omega
          · by_cases h6 : c.2.1 = (n : Int)
            · have h5 : c.2.1 < ((n + 1 : Nat) : Int) := by omega
              have e : decide (2 ≤ c.1 ∧ c.1 ≤ 6 ∧ c.2.1 = (n : Int)) = true := decide_eq_true ⟨h1, h2, h6⟩
              rw [e]
              clear e h6
              simp only [h1, h2, h3, h4, h5, decide_true, decide_false, Bool.and_true, Bool.and_false]
              simp
              omega
            · have h5 : ¬ c.2.1 < ((n + 1 : Nat) : Int) := by omega
              simp only [h1, h2, h3, h4, h5, h6, decide_true, decide_false, Bool.and_true, Bool.and_false]
              simp
        · have h6 : ¬ c.2.1 = (n : Int) := by omega
          simp [h3, h6]
      · simp [h2]
    · simp [h1]
theorem abt_sum (l : List ClT) : ∀ n, abtU l n = numL (fun c => abtC c && (decide (0 ≤ c.2.1) && decide (c.2.1 < (n : Int)))) l
  | 0 => by
    unfold numL
    have : l.filter (fun c => abtC c && (decide (0 ≤ c.2.1) && decide (c.2.1 < ((0 : Nat) : Int)))) = [] := by
      rw [List.filter_eq_nil_iff]
      intro c _
      have : ¬ (0 ≤ c.2.1 ∧ c.2.1 < ((0 : Nat) : Int)) := by omega
      intro h
      simp only [Bool.and_eq_true, decide_eq_true_eq] at h
      exact this h.2
    rw [this]
    rfl
  | n + 1 => by
    rw [abtU, abt_sum l n, abt_split]
    rfl
theorem abt_all {l : List ClT} {n : Nat} (h : ∀ c ∈ l, 2 ≤ c.1 → c.1 ≤ 6 → 0 ≤ c.2.1 ∧ c.2.1 < (n : Int)) : abtU l n = numL abtC l := by
  rw [abt_sum]
  unfold numL
  congr 1
  refine List.filter_congr fun c hc => ?_
  cases ha : abtC c with
  | false => simp
  | true =>
    unfold abtC at ha
    simp only [Bool.and_eq_true, decide_eq_true_eq] at ha
    obtain ⟨h1, h2⟩ := h c hc ha.1 ha.2
    simp [h1, h2]
end Go.Proofs.YtfpbdfagcfdbbaaGreat

namespace Go.Proofs.YtfpbdfagcfdbbaaGreat
open Go.RowKit

set_option maxRecDepth 100000 in
set_option maxHeartbeats 8000000 in
theorem find8_any (A : Option Addr) (ca : Nat) (l : List ClT) (c : ClT) (w : World) (hl : l.length ≤ 1000) (ha : La.SlAt w A (cells4 l)) :
    Calls Tryz.prog 28 #[.slice A l.length ca, clV c] w fun e w' => e = .returned (.int .i64 ((findC l c.1 c.2.1 c.2.2.1).getD 0)) ∧ Below w.heap.size w w' := by
  have B0 : Hid (Below w.heap.size w (w.alloc (.cells #[.int .i64 c.1, .int .i64 c.2.1, .int .i64 c.2.2.1, .int .i64 c.2.2.2] 40))) := Lib.hid (below1 w _)
  have Q0 : Hid (Blk (w.alloc (.cells #[.int .i64 c.1, .int .i64 c.2.1, .int .i64 c.2.2.1, .int .i64 c.2.2.2] 40)) w.heap.size #[.int .i64 c.1, .int .i64 c.2.1, .int .i64 c.2.2.1, .int .i64 c.2.2.2] 40) := Lib.hid (Blk.new w _ _)
  have O1 := Lib.hid (La.SlAt.below ha B0.out)
  have EA : Hid (∀ (k : Nat) (y : ClT), l[k]? = some y → isC c.1 c.2.1 c.2.2.1 y = true → (∀ (j : Nat) (z : ClT), j < k → l[j]? = some z → isC c.1 c.2.1 c.2.2.1 z = false) → findC l c.1 c.2.1 c.2.2.1 = some y.2.2.2) := Lib.hid (fun k y h1 h2 h3 => findC_at h1 h2 h3)
  have EN : Hid ((∀ (j : Nat) (z : ClT), l[j]? = some z → isC c.1 c.2.1 c.2.2.1 z = false) → findC l c.1 c.2.1 c.2.2.1 = none) := Lib.hid (fun h => findC_no h)
  generalize findC l c.1 c.2.1 c.2.2.1 = R at EA EN ⊢
  clear ha
  go_enter Tryz.func28, Tryz.ntmps28
  go_upto_region 1 with fail
  try change Code.wp _ _ _ _ (w.alloc (.cells #[.int .i64 c.1, .int .i64 c.2.1, .int .i64 c.2.2.1, .int .i64 c.2.2.2] 40))
  generalize (w.alloc (.cells #[.int .i64 c.1, .int .i64 c.2.1, .int .i64 c.2.2.1, .int .i64 c.2.2.2] 40)) = W at B0 Q0 O1 ⊢
  go_wp2_with fail
  go_loopw [5] (fun i wr => ∃ k : Nat, k ≤ l.length ∧ i = .int .i64 k ∧ (∀ (j : Nat) (z : ClT), j < k → l[j]? = some z → isC c.1 c.2.1 c.2.2.1 z = false) ∧ Below W.heap.size W wr) (fun i _ => l.length - (intOf i).toNat)
  case atStart => exact ⟨0, by omega, rfl, fun j z h => by omega, Below.refl _ _⟩
  case round =>
    obtain ⟨k, hk, rfl, hn, hb⟩ := hrel
    have HN := Lib.hid hn
    have HB := Lib.hid hb
    clear hn hb
    by_cases hlt : k < l.length
    case neg =>
      obtain rfl : k = l.length := by omega
      have HE := Lib.hid (EN.out (fun j z hz => HN.out j z (List.getElem?_eq_some_iff.1 hz).1 hz))
      go_wp2
      go_ret
      rw [HE.out]
      exact ⟨rfl, B0.out.trans (HB.out.mono B0.out.size)⟩
    obtain ⟨y, hy⟩ : ∃ y, l[k]? = some y := ⟨l[k], List.getElem?_eq_getElem hlt⟩
    obtain ⟨g, o, hG, hbl, c0, c1, c2, c3⟩ := atC (La.SlAt.below O1.out HB.out) hy
    subst hG
    have q0 : wr.cell? ⟨w.heap.size, 0, none⟩ = some (.int .i64 c.1) := Blk.cell (Q0.out.below HB.out Q0.out.lt) 0
    have q1 : wr.cell? ⟨w.heap.size, 1, none⟩ = some (.int .i64 c.2.1) := Blk.cell (Q0.out.below HB.out Q0.out.lt) 1
    have q2 : wr.cell? ⟨w.heap.size, 2, none⟩ = some (.int .i64 c.2.2.1) := Blk.cell (Q0.out.below HB.out Q0.out.lt) 2
    have k0 : (0 : Int) ≤ (k : Int) := by omega
    have k1 : (k : Int) < (l.length : Int) := by omega
    have HY := Lib.hid hy
    have go : Hid (isC c.1 c.2.1 c.2.2.1 y = false → ∀ (j : Nat) (z : ClT), j < k + 1 → l[j]? = some z → isC c.1 c.2.1 c.2.2.1 z = false) := Lib.hid (fun h1 j z hj hz => by
      by_cases hjk : j = k
      · subst hjk
        rw [HY.out] at hz
        cases hz
        exact h1
      · exact HN.out j z (by omega) hz)
    clear hy
    go_upto_region 4 with fail
    by_cases h1 : y.1 = c.1
    case neg =>
      have h1b : (y.1 == c.1) = false := by simpa using h1
      have HF := Lib.hid (go.out (decide_eq_false (fun h => h1 h.1)))
      clear h1 go
      go_quiet (fail)
      go_wp2_with fail
      go_roundw
      case rel => exact ⟨k + 1, by omega, by go_num, HF.out, below_drewN HB.out _⟩
      case measure => simp [intOf]; omega
    have h1b : (y.1 == c.1) = true := by simpa using h1
    by_cases h2 : y.2.1 = c.2.1
    case neg =>
      have h2b : (y.2.1 == c.2.1) = false := by simpa using h2
      have HF := Lib.hid (go.out (decide_eq_false (fun h => h2 h.2.1)))
      clear h1 h2 go
      go_quiet (fail)
      go_wp2_with fail
      go_roundw
      case rel => exact ⟨k + 1, by omega, by go_num, HF.out, below_drewN HB.out _⟩
      case measure => simp [intOf]; omega
    have h2b : (y.2.1 == c.2.1) = true := by simpa using h2
    by_cases h3 : y.2.2.1 = c.2.2.1
    case neg =>
      have h3b : (y.2.2.1 == c.2.2.1) = false := by simpa using h3
      have HF := Lib.hid (go.out (decide_eq_false (fun h => h3 h.2.2)))
      clear h1 h2 h3 go
      go_quiet (fail)
      go_wp2_with fail
      go_roundw
      case rel => exact ⟨k + 1, by omega, by go_num, HF.out, below_drewN HB.out _⟩
      case measure => simp [intOf]; omega
    have h3b : (y.2.2.1 == c.2.2.1) = true := by simpa using h3
    have HF := Lib.hid (EA.out k y HY.out (decide_eq_true ⟨h1, h2, h3⟩) HN.out)
    clear h1 h2 h3 go
    go_quiet (fail)
    go_wp2
    go_ret
    rw [HF.out]
    exact ⟨rfl, B0.out.trans ((below_drewN HB.out _).mono B0.out.size)⟩
end Go.Proofs.YtfpbdfagcfdbbaaGreat

namespace Go.Proofs.YtfpbdfagcfdbbaaGreat
open Go.RowKit

section
variable {ns : List NodeD} {ps : List PodD} {os : List OwnD} {p : List Int} {i : Nat}
theorem off_at (hi : i < p.length) (k : Nat) : (p.set i (-1))[k]? = if k = i then some (-1) else p[k]? := by
  rw [List.getElem?_set]
  by_cases h : i = k
  · subst h
    simp [hi]
  · rw [if_neg h, if_neg (fun e => h e.symm)]
theorem off_place (hE : placeE ns ps os p = 0) : placeE ns ps os (p.set i (-1)) = 0 := by
  obtain ⟨h1, h2, h3⟩ := placeE_zero hE
  unfold placeE
  rw [if_pos h1, if_pos (by simpa using h2), if_pos]
  rw [List.all_eq_true]
  intro x hx
  rcases List.mem_or_eq_of_mem_set hx with h | rfl
  · exact h3 x h
  · simp [okB]
theorem reqAt_pos {j : Nat} (h : ∀ x ∈ ps, 0 ≤ x.req j ∧ x.req j ≤ 1099511627776) (y : Nat) : 0 ≤ reqAt ps j y := by
  unfold reqAt
  split
  · rename_i x hx
    exact (h x (List.mem_of_getElem? hx)).1
  · omega
theorem off_req (hi : i < p.length) {n : Int} (hn : 0 ≤ n) {j : Nat} (h : ∀ x ∈ ps, 0 ≤ x.req j ∧ x.req j ≤ 1099511627776) : ∀ k, reqS ps j (onU (p.set i (-1)) n k) ≤ reqS ps j (onU p n k)
  | 0 => Int.le_refl _
  | k + 1 => by
    have ih := off_req hi hn h k
    rw [onU, onU, reqS_append, reqS_append, off_at hi]
    have hz : reqS ps j [] = 0 := rfl
    have h1 : reqS ps j [k] = reqAt ps j k := by simp [reqS]
    have hp := reqAt_pos h k
    by_cases hk : k = i
    · rw [if_pos hk, if_neg (by intro e; have := Option.some.inj e; omega), hz]
      split
      · rw [h1]
        omega
      · rw [hz]
        omega
    · rw [if_neg hk]
      omega
theorem off_addW (hi : i < p.length) {n : Int} (hn : 0 ≤ n) {j : Nat} (h : ∀ x ∈ ps, 0 ≤ x.req j ∧ x.req j ≤ 1099511627776) (hl : p.length ≤ 1000) : addW ps (onU (p.set i (-1)) n (p.set i (-1)).length) j ≤ addW ps (onU p n p.length) j := by
  rw [List.length_set]
  have h1 := off_req hi hn h p.length
  have h2 := reqS_bounds h (onU (p.set i (-1)) n p.length)
  have h3 := reqS_bounds h (onU p n p.length)
  have l2 := onU_len (p.set i (-1)) n p.length
  have l3 := onU_len p n p.length
  rw [addW_is, addW_is]
  unfold wrap64
  omega
theorem off_about (hi : i < p.length) {pod : Nat} (hpod : pod ≠ i) (topo : List UInt8) (terms : List T3) (others : Bool) (k : Nat) (h : aboutB ns ps (p.set i (-1)) pod topo terms others k = true) : aboutB ns ps p pod topo terms others k = true := by
  unfold aboutB at h ⊢
  rw [off_at hi, off_at hi, if_neg hpod] at h
  by_cases hk : k = i
  · rw [if_pos hk] at h
    exfalso
    revert h
    cases p[pod]? with
    | none => simp
    | some xp =>
      cases ps[k]? with
      | none => simp
      | some y => simp
  · rwa [if_neg hk] at h
theorem off_aboutU (hi : i < p.length) {pod : Nat} (hpod : pod ≠ i) (topo : List UInt8) (terms : List T3) (others : Bool) : ∀ k, aboutU ns ps (p.set i (-1)) pod topo terms others k ≤ aboutU ns ps p pod topo terms others k
  | 0 => Nat.le_refl _
  | k + 1 => by
    have ih := off_aboutU hi hpod topo terms others k
    rw [aboutU, aboutU]
    by_cases h : aboutB ns ps (p.set i (-1)) pod topo terms others k = true
    · rw [if_pos h, if_pos (off_about hi hpod topo terms others k h)]
      omega
    · rw [if_neg h]
      split <;> omega
theorem off_doub (hi : i < p.length) {pod q : Nat} (hpod : pod ≠ i) (hq : p[pod]? = some (q : Int)) : ∀ k, doubU ps (p.set i (-1)) pod k ≤ doubU ps p pod k
  | 0 => Nat.le_refl _
  | k + 1 => by
    have ih := off_doub hi hpod hq k
    rw [doubU, doubU, off_at hi, off_at hi, if_neg hpod]
    by_cases hk : k = i
    · rw [if_pos hk, if_neg (by
        rintro ⟨_, h, _⟩
        rw [hq] at h
        have := Option.some.inj h
        omega)]
      split <;> omega
    · rw [if_neg hk]
      omega
/-- A clause about a pod that is still there: it was there, and by no less. -/
theorem off_of (hi : i < p.length) (kind j : Nat) (h4 : kind ≠ 4) {b : Nat} (hb : ofU ns ps os (p.set i (-1)) kind j = some b) : ∃ b', ofU ns ps os p kind j = some b' ∧ b ≤ b' := by
  have hne : j ≠ i := by
    rintro rfl
    rw [ofU_wait (by rw [off_at hi, if_pos rfl])] at hb
    cases hb
  have hqj : (p.set i (-1))[j]? = p[j]? := by rw [off_at hi, if_neg hne]
  unfold ofU at hb
  rw [hqj] at hb
  cases hpj : p[j]? with
  | none => rw [hpj] at hb; cases hb
  | some v =>
    rw [hpj] at hb
    cases hx : ps[j]? with
    | none => rw [hx] at hb; cases hb
    | some x =>
      rw [hx] at hb
      dsimp only at hb
      by_cases hv : v < 0
      · rw [if_pos hv] at hb
        cases hb
      · rw [if_neg hv] at hb
        obtain ⟨q, rfl⟩ : ∃ q : Nat, v = (q : Int) := ⟨v.toNat, by omega⟩
        rw [Int.toNat_natCast] at hb
        cases hn : ns[q]? with
        | none => rw [hn] at hb; cases hb
        | some n =>
          rw [hn] at hb
          dsimp only at hb
          rw [ofU_at hpj hx hn]
          split at hb
          · rename_i e
            rw [if_pos e]
            exact ⟨_, rfl, by rw [← Option.some.inj hb]; exact Nat.le_refl _⟩
          · rename_i e2
            rw [if_neg e2]
            split at hb
            · rename_i e
              rw [if_pos e]
              exact ⟨_, rfl, by rw [← Option.some.inj hb]; exact Nat.le_refl _⟩
            · rename_i e3
              rw [if_neg e3, if_neg h4]
              try rw [if_neg h4] at hb
              split at hb
              · rename_i e
                rw [if_pos e]
                split at hb
                · cases hb
                · rename_i ha
                  rw [if_neg ha]
                  refine ⟨_, rfl, ?_⟩
                  rw [← Option.some.inj hb, List.length_set]
                  exact off_aboutU hi hne x.ap x.apm true p.length
              · rename_i e5
                rw [if_neg e5]
                split at hb
                · cases hb
                · rename_i ho
                  rw [if_neg ho]
                  split at hb
                  · rename_i hs
                    rw [if_pos hs]
                    refine ⟨_, rfl, ?_⟩
                    rw [← Option.some.inj hb, List.length_set]
                    exact off_doub hi hne hpj p.length
                  · cases hb
theorem off_some (hi : i < p.length) (kind j : Nat) : (ofU ns ps os (p.set i (-1)) kind j).isSome = true → (ofU ns ps os p kind j).isSome = true := by
  intro h
  by_cases h4 : kind = 4
  · subst h4
    have hne : j ≠ i := by
      rintro rfl
      rw [ofU_wait (by rw [off_at hi, if_pos rfl])] at h
      cases h
    have hqj : (p.set i (-1))[j]? = p[j]? := by rw [off_at hi, if_neg hne]
    unfold ofU at h ⊢
    rw [hqj] at h
    revert h
    cases p[j]? with
    | none => exact fun h => h
    | some v =>
      cases ps[j]? with
      | none => exact fun h => h
      | some x =>
        dsimp only
        split
        · exact fun h => h
        · cases ns[v.toNat]? with
          | none => exact fun h => h
          | some n =>
            simp only [show ¬ (4 = 2) by decide, show ¬ (4 = 3) by decide, if_false, if_true]
            by_cases hw : x.wt = []
            · rw [if_pos hw]
              exact fun h => by cases h
            · rw [if_neg hw, if_neg hw]
              exact fun _ => rfl
  · obtain ⟨b, hb⟩ := Option.isSome_iff_exists.1 h
    obtain ⟨b', hb', _⟩ := off_of hi kind j h4 hb
    rw [hb']
    rfl
theorem off_pods_len (hi : i < p.length) (kind : Nat) : ∀ k, (podsU ns ps os (p.set i (-1)) kind k).length ≤ (podsU ns ps os p kind k).length
  | 0 => Nat.le_refl _
  | k + 1 => by
    have ih := off_pods_len hi kind k
    rw [podsU, podsU, List.length_append, List.length_append]
    have : (podR ns ps os (p.set i (-1)) kind k).length ≤ (podR ns ps os p kind k).length := by
      unfold podR
      cases h : ofU ns ps os (p.set i (-1)) kind k with
      | none => exact Nat.zero_le _
      | some b =>
        have := off_some (ns := ns) (ps := ps) (os := os) hi kind k (by rw [h]; rfl)
        obtain ⟨b', hb'⟩ := Option.isSome_iff_exists.1 this
        rw [hb']
        exact Nat.le_refl _
    omega
theorem off_kinds_len (hi : i < p.length) : ∀ k, (kindsU ns ps os (p.set i (-1)) k).length ≤ (kindsU ns ps os p k).length
  | 0 => Nat.le_refl _
  | k + 1 => by
    have ih := off_kinds_len hi k
    have := off_pods_len (ns := ns) (ps := ps) (os := os) hi (k + 2) p.length
    rw [kindsU, kindsU, List.length_append, List.length_append, List.length_set]
    omega
theorem spreads_len_eq (p r : List Int) : ∀ k, (spreadsU ns ps os p k).length = (spreadsU ns ps os r k).length
  | 0 => rfl
  | k + 1 => by
    rw [spreadsU, spreadsU, List.length_append, List.length_append, spreads_len_eq p r k]
    unfold spreadR
    split
    · split <;> rfl
    · rfl
theorem mins_len_eq (p r : List Int) : ∀ k, (minsU ns ps os p k).length = (minsU ns ps os r k).length
  | 0 => rfl
  | k + 1 => by
    rw [minsU, minsU, List.length_append, List.length_append, mins_len_eq p r k]
    unfold minR
    split <;> rfl
theorem caps_len_eq (p r : List Int) : ∀ k, (capsU ns ps p k).length = (capsU ns ps r k).length
  | 0 => rfl
  | k + 1 => by
    rw [capsU, capsU, List.length_append, List.length_append, caps_len_eq p r k]
    split
    · rw [capN_len, capN_len]
    · rfl
theorem off_len (hE : placeE ns ps os p = 0) (hi : i < p.length) : (all8 ns ps os (p.set i (-1))).length ≤ (all8 ns ps os p).length := by
  unfold all8
  rw [if_pos hE, if_pos (off_place hE)]
  unfold allU
  simp only [List.length_append]
  have := off_kinds_len (ns := ns) (ps := ps) (os := os) hi 5
  have := spreads_len_eq (ns := ns) (ps := ps) (os := os) (p.set i (-1)) p os.length
  have := mins_len_eq (ns := ns) (ps := ps) (os := os) (p.set i (-1)) p os.length
  have := caps_len_eq (ns := ns) (ps := ps) (p.set i (-1)) p ns.length
  omega
theorem off_caps (hE : placeE ns ps os p = 0) (hi : i < p.length) (hl : p.length ≤ 1000) : ∀ k, k ≤ ns.length → ∀ c ∈ capsU ns ps (p.set i (-1)) k, ∃ b', (c.1, c.2.1, c.2.2.1, b') ∈ capsU ns ps p k ∧ c.2.2.2 ≤ b'
  | 0, _, c, h => by simp [capsU] at h
  | k + 1, hk, c, h => by
    obtain ⟨x, hx⟩ : ∃ x, ns[k]? = some x := ⟨ns[k], List.getElem?_eq_getElem hk⟩
    rw [capsU, hx, List.mem_append] at h
    rcases h with h | h
    · obtain ⟨b', h1, h2⟩ := off_caps hE hi hl k (by omega) c h
      exact ⟨b', by rw [capsU]; exact List.mem_append_left _ h1, h2⟩
    · dsimp only at h
      unfold capN at h
      obtain ⟨q, hq, rfl⟩ := List.mem_map.1 h
      have hq5 : q < 5 := by simpa using hq
      have hck := placeE_chk hE
      have hrb := fun (y : PodD) (hy : y ∈ ps) => req_bounds hck hy q hq5
      have ha := off_addW (ps := ps) hi (show (0 : Int) ≤ (k : Int) by omega) hrb hl
      have hcb := cap_bounds hck (List.mem_of_getElem? hx) q hq5
      have hb1 := addW_bounds hrb (onU (p.set i (-1)) (k : Int) (p.set i (-1)).length) (Nat.le_trans (onU_len _ _ _) (by rw [List.length_set]; exact hl))
      have hb2 := addW_bounds hrb (onU p (k : Int) p.length) (Nat.le_trans (onU_len _ _ _) hl)
      refine ⟨max 0 (wrap64 (addW ps (onU p (k : Int) p.length) q - x.cap q)), ?_, ?_⟩
      · rw [capsU, hx]
        exact List.mem_append_right _ (List.mem_map.2 ⟨q, hq, rfl⟩)
      · show max 0 (wrap64 (addW ps (onU (p.set i (-1)) (k : Int) (p.set i (-1)).length) q - x.cap q)) ≤ max 0 (wrap64 (addW ps (onU p (k : Int) p.length) q - x.cap q))
        unfold wrap64
        omega
theorem off_pods (hi : i < p.length) (kind : Nat) (h4 : kind ≠ 4) : ∀ k, ∀ c ∈ podsU ns ps os (p.set i (-1)) kind k, ∃ b', (c.1, c.2.1, c.2.2.1, b') ∈ podsU ns ps os p kind k ∧ c.2.2.2 ≤ b'
  | 0, c, h => by simp [podsU] at h
  | k + 1, c, h => by
    rw [podsU, List.mem_append] at h
    rcases h with h | h
    · obtain ⟨b', h1, h2⟩ := off_pods hi kind h4 k c h
      exact ⟨b', by rw [podsU]; exact List.mem_append_left _ h1, h2⟩
    · unfold podR at h
      cases hb : ofU ns ps os (p.set i (-1)) kind k with
      | none => rw [hb] at h; simp at h
      | some b =>
        rw [hb] at h
        simp at h
        subst h
        obtain ⟨b', hb', hle⟩ := off_of hi kind k h4 hb
        refine ⟨(b' : Int), ?_, ?_⟩
        · rw [podsU]
          refine List.mem_append_right _ ?_
          unfold podR
          rw [hb']
          simp
        · show (b : Int) ≤ (b' : Int)
          omega
theorem off_kinds (hi : i < p.length) : ∀ k, ∀ c ∈ kindsU ns ps os (p.set i (-1)) k, c.1 ≠ 4 → ∃ b', (c.1, c.2.1, c.2.2.1, b') ∈ kindsU ns ps os p k ∧ c.2.2.2 ≤ b'
  | 0, c, h, _ => by simp [kindsU] at h
  | k + 1, c, h, h4 => by
    rw [kindsU, List.mem_append] at h
    rcases h with h | h
    · obtain ⟨b', h1, h2⟩ := off_kinds hi k c h h4
      exact ⟨b', by rw [kindsU]; exact List.mem_append_left _ h1, h2⟩
    · have hk := pods_kind ns ps os (p.set i (-1)) (k + 2) _ c h
      rw [List.length_set] at h
      obtain ⟨b', h1, h2⟩ := off_pods hi (k + 2) (by omega) p.length c h
      exact ⟨b', by rw [kindsU]; exact List.mem_append_right _ h1, h2⟩
/-- What is found of it ahead is no less. -/
theorem off_find (hE : placeE ns ps os p = 0) (hi : i < p.length) (hl : p.length ≤ 1000) {c : ClT} (hc : c ∈ all8 ns ps os (p.set i (-1))) (h4 : c.1 ≠ 4) (h7 : c.1 ≠ 7) (h8 : c.1 ≠ 8) : c.2.2.2 ≤ (findC (all8 ns ps os p) c.1 c.2.1 c.2.2.1).getD 0 := by
  have key : ∃ b', (c.1, c.2.1, c.2.2.1, b') ∈ all8 ns ps os p ∧ c.2.2.2 ≤ b' := by
    unfold all8 at hc ⊢
    rw [if_pos (off_place hE)] at hc
    rw [if_pos hE]
    unfold allU at hc ⊢
    simp only [List.mem_append] at hc ⊢
    rcases hc with ((hc | hc) | hc) | hc
    · obtain ⟨b', h1, h2⟩ := off_caps hE hi hl _ (Nat.le_refl _) c hc
      exact ⟨b', .inl (.inl (.inl h1)), h2⟩
    · obtain ⟨b', h1, h2⟩ := off_kinds hi 5 c hc h4
      exact ⟨b', .inl (.inl (.inr h1)), h2⟩
    · have := spreads_kind ns ps os _ _ c hc
      omega
    · have := mins_kind ns ps os _ _ c hc
      omega
  obtain ⟨b', hm, hle⟩ := key
  have := find_rise (all8_rise ns ps os p) hm
  dsimp only at this
  rw [this]
  exact hle
end
end Go.Proofs.YtfpbdfagcfdbbaaGreat

namespace Go.Proofs.YtfpbdfagcfdbbaaGreat
open Go.RowKit

set_option maxRecDepth 100000 in
set_option maxHeartbeats 32000000 in
theorem clauseOff_law (A B C P : Option Addr) (ca cb cc cp : Nat) (ns : List NodeD) (ps : List PodD) (os : List OwnD) (p : List Int) (w : World) (h : SnapIn w A B C ca cb cc ns ps os) (hp : NumsIn w P cp p) :
    Calls Tryz.prog 5 #[snapV A B C ca cb cc ns ps os, .slice P p.length cp] w fun e w' => e = .returned (.bool true) ∧ Below w.heap.size w w' := by
  have HP9 := Lib.hid hp
  clear hp
  have B0 : Hid (Below w.heap.size w (w.alloc (.cells (snapC A B C ca cb cc ns ps os) 26))) := Lib.hid (below1 w _)
  have S0 : Hid (Blk (w.alloc (.cells (snapC A B C ca cb cc ns ps os) 26)) w.heap.size (snapC A B C ca cb cc ns ps os) 26) := Lib.hid (Blk.new w _ _)
  have H := Lib.hid (h.take)
  have KW := Lib.hid works8_any
  have KC := Lib.hid (fun W' (hb : Below w.heap.size w W') => cut8_any A B C ca cb cc ns ps os W' (h.below8 hb))
  have hn12 : (ns.take 12).length ≤ 12 := List.length_take_le _ _
  have hp30 : (ps.take 30).length ≤ 30 := List.length_take_le _ _
  have ho12 : (os.take 12).length ≤ 12 := List.length_take_le _ _
  generalize ns.take 12 = n1 at H KC hn12
  generalize ps.take 30 = p1 at H KC hp30
  generalize os.take 12 = o1 at H KC ho12
  clear h
  go_enter Tryz.func5, Tryz.ntmps5
  go_wp2_with fail
  refine (KW.out _).mono ?_
  rintro e w1 ⟨rfl, hb1⟩
  have S1 : Hid (Blk w1 w.heap.size (snapC A B C ca cb cc ns ps os) 26) := Lib.hid (S0.out.below hb1 S0.out.lt)
  have B1 : Hid (Below w.heap.size w w1) := Lib.hid (B0.out.trans (hb1.mono B0.out.size))
  clear hb1 S0 B0 KW
  have s0 : w1.cell? ⟨w.heap.size, 0, none⟩ = some (.slice A ns.length ca) := Blk.cell S1.out 0
  have s1 : w1.cell? ⟨w.heap.size, 1, none⟩ = some (.slice B ps.length cb) := Blk.cell S1.out 1
  have s2 : w1.cell? ⟨w.heap.size, 2, none⟩ = some (.slice C os.length cc) := Blk.cell S1.out 2
  go_wp2_with fail
  refine (KC.out _ B1.out).mono ?_
  rintro e w2 ⟨rfl, hb2⟩
  have S2 : Hid (Blk w2 w.heap.size (snapC A B C ca cb cc ns ps os) 26) := Lib.hid (S1.out.below hb2 S1.out.lt)
  have B2 : Hid (Below w.heap.size w w2) := Lib.hid (B1.out.trans (hb2.mono B1.out.size))
  clear hb2 S1 B1 KC s0 s1 s2
  have r0 : w2.cell? ⟨w.heap.size, 0, none⟩ = some (.slice A ns.length ca) := Blk.cell S2.out 0
  have r1 : w2.cell? ⟨w.heap.size, 1, none⟩ = some (.slice B ps.length cb) := Blk.cell S2.out 1
  have r2 : w2.cell? ⟨w.heap.size, 2, none⟩ = some (.slice C os.length cc) := Blk.cell S2.out 2
  have f0 := Blk.free S2.out 0
  have f1 := Blk.free S2.out 1
  have f2 := Blk.free S2.out 2
  have S3 : Hid (Blk (((w2.setCell ⟨w.heap.size, 0, none⟩ (.slice A n1.length ca)).setCell ⟨w.heap.size, 1, none⟩ (.slice B p1.length cb)).setCell ⟨w.heap.size, 2, none⟩ (.slice C o1.length cc)) w.heap.size (snapC A B C ca cb cc n1 p1 o1) 26) := Lib.hid (((S2.out.set 0 _).set 1 _).set 2 _)
  have B3 : Hid (Below w.heap.size w (((w2.setCell ⟨w.heap.size, 0, none⟩ (.slice A n1.length ca)).setCell ⟨w.heap.size, 1, none⟩ (.slice B p1.length cb)).setCell ⟨w.heap.size, 2, none⟩ (.slice C o1.length cc))) := Lib.hid (((B2.out.setCell (p := ⟨w.heap.size, 0, none⟩) (Nat.le_refl _) _).setCell (p := ⟨w.heap.size, 1, none⟩) (Nat.le_refl _) _).setCell (p := ⟨w.heap.size, 2, none⟩) (Nat.le_refl _) _)
  go_upto_region 4 with fail
  clear r0 r1 r2 f0 f1 f2
  generalize (((w2.setCell ⟨w.heap.size, 0, none⟩ (.slice A n1.length ca)).setCell ⟨w.heap.size, 1, none⟩ (.slice B p1.length cb)).setCell ⟨w.heap.size, 2, none⟩ (.slice C o1.length cc)) = W at S3 B3 ⊢
  clear S2 B2
  have HW := Lib.hid (fun W' (hb : Below W.heap.size W W') => (show W'.cell? ⟨w.heap.size, 0, none⟩ = some (.slice A n1.length ca) ∧ W'.cell? ⟨w.heap.size, 1, none⟩ = some (.slice B p1.length cb) ∧ W'.cell? ⟨w.heap.size, 2, none⟩ = some (.slice C o1.length cc) from ⟨Blk.cell (S3.out.below hb S3.out.lt) 0, Blk.cell (S3.out.below hb S3.out.lt) 1, Blk.cell (S3.out.below hb S3.out.lt) 2⟩))
  have HG : Hid (w.heap.size < W.heap.size) := Lib.hid S3.out.lt
  have HT := Lib.hid (fun W' (hb : Below W.heap.size W W') => B3.out.trans (hb.mono B3.out.size))
  have HS := Lib.hid (fun W' (hb : Below W.heap.size W W') => H.out.below (HT.out W' hb))
  have hln := H.out.ln
  have hlp := H.out.lp
  have HPi := Lib.hid (fun W' (hb : Below W.heap.size W W') => (HP9.out.below (HT.out W' hb)).ints)
  have K1 := Lib.hid (fun W' (hb : Below W.heap.size W W') => fitted8_ints A B C P ca cb cc cp n1 p1 o1 p W' (HS.out W' hb) (HPi.out W' hb))
  have hrl : (fitU n1 p p1.length).length ≤ 1000 := by
    rw [fitU_len]
    omega
  generalize fitU n1 p p1.length = r at K1 hrl
  have hL := all8_few (p := r) hn12 hp30 ho12
  have KA := Lib.hid (fun W' (hb : Below W.heap.size W W') (Q : Option Addr) (cq : Nat) (hq : IntsAt W' Q cq r) => allP_any A B C Q ca cb cc cq n1 p1 o1 r W' (HS.out W' hb) hq)
  have KP := Lib.hid (fun W' (hb : Below W.heap.size W W') (Q : Option Addr) (cq : Nat) (hq : IntsAt W' Q cq r) => pcheck_any A B C Q ca cb cc cq n1 p1 o1 r W' (HS.out W' hb) hq)
  have KO := Lib.hid (fun (i : Nat) W' (hb : Below W.heap.size W W') (Q : Option Addr) (cq : Nat) (hq : IntsAt W' Q cq (r.set i (-1))) => allP_any A B C Q ca cb cc cq n1 p1 o1 (r.set i (-1)) W' (HS.out W' hb) hq)
  simp only [List.length_set] at KO
  have HEP := Lib.hid (fun (h : placeE n1 p1 o1 r = 0) (i : Nat) => off_place (i := i) h)
  have HLE := Lib.hid (fun (h : placeE n1 p1 o1 r = 0) (i : Nat) (hi : i < r.length) => off_len h hi)
  have HFI := Lib.hid (fun (h : placeE n1 p1 o1 r = 0) (i : Nat) (hi : i < r.length) (c : ClT) (hc : c ∈ all8 n1 p1 o1 (r.set i (-1))) => off_find h hi hrl hc)
  have KE := Lib.hid (fun (h : placeE n1 p1 o1 r = 0) (i : Nat) (x : Int) (hk : r[i]? = some x) (hx : 0 ≤ x) W' (hb : Below W.heap.size W W') (Q : Option Addr) (cq : Nat) (hq : IntsAt W' Q cq r) => apply_len (N := r.length) rfl (by simp) (evict_is h hk hx) W' (HS.out W' hb) hq)
  have HNil : Hid (¬ placeE n1 p1 o1 r = 0 → all8 n1 p1 o1 r = []) := Lib.hid (fun h => by unfold all8; rw [if_neg h])
  generalize all8 n1 p1 o1 r = L at KA hL HLE HFI HNil
  obtain ⟨z0, z1, z2⟩ := HW.out _ (Below.refl _ W)
  clear hn12 hp30 ho12 H B3 S3 HP9 HPi
  go_wp2_with fail
  refine (K1.out _ (Below.refl _ W)).mono ?_
  rintro e V ⟨Q, cq, rfl, hq, hb⟩
  have IQ := Lib.hid hq
  have HB := Lib.hid (show Below W.heap.size W V from hb)
  clear hq hb K1 z0 z1 z2
  obtain ⟨z0, z1, z2⟩ := HW.out _ HB.out
  have KA1 := Lib.hid (KA.out _ HB.out Q cq IQ.out)
  by_cases hE : placeE n1 p1 o1 r = 0
  case neg =>
    obtain rfl := HNil.out hE
    generalize placeE n1 p1 o1 r = E at *
    have hne : (E != 0) = true := by simpa using hE
    clear HNil HEP HLE HFI KE KO
    go_wp2_with fail
    refine (KA1.out).mono ?_
    rintro e V2 ⟨va, rfl, hoa, hb2⟩
    obtain ⟨Ga, ca2, rfl, _⟩ := La.own_slice hoa
    have IQ := Lib.hid (IQ.out.below hb2)
    have HB := Lib.hid (HB.out.trans (hb2.mono HB.out.size))
    clear hoa hb2 z0 z1 z2 KA1 KA
    obtain ⟨z0, z1, z2⟩ := HW.out _ HB.out
    have KP1 := Lib.hid (KP.out _ HB.out Q cq IQ.out)
    go_wp2_with fail
    refine (KP1.out).mono ?_
    rintro e V3 ⟨rfl, hb3⟩
    have D := Lib.hid (HT.out _ (HB.out.trans (hb3.mono HB.out.size)))
    clear hb3 hE hne
    have hee : (E == E) = true := by simp
    go_wp2
    go_ret
    exact ⟨rfl, D.out⟩
  have HEP := Lib.hid (HEP.out hE)
  have HLE := Lib.hid (HLE.out hE)
  have HFI := Lib.hid (HFI.out hE)
  have KE := Lib.hid (KE.out hE)
  clear HNil
  rw [hE] at KA1
  clear hE KP
  go_wp2_with fail
  refine (KA1.out).mono ?_
  rintro e V2 ⟨va, rfl, hoa, hb2⟩
  obtain ⟨Ga, ca2, rfl, _⟩ := La.own_slice hoa
  have TA := Lib.hid (La.own_slat hoa)
  have IQ := Lib.hid (IQ.out.below hb2)
  have HBv := Lib.hid (HB.out.trans (hb2.mono HB.out.size))
  clear hoa hb2 z0 z1 z2 KA1 KA HB
  obtain ⟨z0, z1, z2⟩ := HW.out _ HBv.out
  go_wp2_with fail
  clear z0 z1 z2
  go_loopw [8] (fun i wr => ∃ k : Nat, k ≤ r.length ∧ i = .int .i64 (k : Int) ∧ Below V2.heap.size V2 wr) (fun i _ => r.length - (intOf i).toNat)
  case atStart => exact ⟨0, by omega, rfl, Below.refl _ _⟩
  case round =>
    obtain ⟨k, hk, rfl, hbr⟩ := hrel
    have HBR := Lib.hid hbr
    have HB3 := Lib.hid (HBv.out.trans (hbr.mono HBv.out.size))
    clear hbr
    obtain ⟨z0, z1, z2⟩ := HW.out _ HB3.out
    by_cases hlt : k < r.length
    case neg =>
      have ek : k = r.length := by omega
      subst ek
      have D := Lib.hid (HT.out _ HB3.out)
      go_wp2
      go_ret
      exact ⟨rfl, D.out⟩
    obtain ⟨x, hx⟩ : ∃ x, r[k]? = some x := ⟨r[k], List.getElem?_eq_getElem hlt⟩
    have k0 : (0 : Int) ≤ (k : Int) := by omega
    have k1 : (k : Int) < (r.length : Int) := by omega
    have JQ := Lib.hid (IQ.out.below HBR.out)
    obtain ⟨b, o, hA, hbl, cx⟩ := atI JQ.out.cells hx
    subst hA
    by_cases h0 : x < 0
    · clear KE hx
      go_wp2_with fail
      go_roundw
      case rel => exact ⟨k + 1, by omega, by go_num, HBR.out⟩
      case measure => simp [intOf]; omega
    have KE1 := Lib.hid (KE.out k x hx (by omega) _ HB3.out _ cq JQ.out)
    have KO1 := Lib.hid (KO.out k)
    rw [HEP.out k] at KO1
    have hle := HLE.out k hlt
    have HFI1 := Lib.hid (HFI.out k hlt)
    generalize r.set k (-1) = r2 at KE1 KO1 HFI1 hle
    generalize all8 n1 p1 o1 r2 = M at KO1 HFI1 hle
    clear KE KO HEP HLE HFI hx
    go_wp2_with fail
    refine (KE1.out).mono ?_
    rintro e V4 ⟨Q4, c4, rfl, iq4, hb4⟩
    have IQ4 := Lib.hid iq4
    have HB4 := Lib.hid (HB3.out.trans (hb4.mono HB3.out.size))
    have HBR4 := Lib.hid (HBR.out.trans (hb4.mono HBR.out.size))
    clear iq4 hb4 KE1 z0 z1 z2 cx hbl HB3 HBR
    obtain ⟨z0, z1, z2⟩ := HW.out _ HB4.out
    have KO2 := Lib.hid (KO1.out _ HB4.out Q4 c4 IQ4.out)
    clear KO1
    go_wp2_with fail
    refine (KO2.out).mono ?_
    rintro e V5 ⟨vb, rfl, hob, hb5⟩
    obtain ⟨Gb, cb2, rfl, _⟩ := La.own_slice hob
    have TM := Lib.hid (La.own_slat hob)
    have HB5 := Lib.hid (HB4.out.trans (hb5.mono HB4.out.size))
    have HBR5 := Lib.hid (HBR4.out.trans (hb5.mono HBR4.out.size))
    clear hob hb5 z0 z1 z2 KO2 HB4 HBR4 IQ4
    obtain ⟨z0, z1, z2⟩ := HW.out _ HB5.out
    have hgt : ¬ (L.length : Int) < (M.length : Int) := by omega
    have hgd : decide (L.length < M.length) = false := decide_eq_false (by omega)
    have hM : M.length ≤ 1000 := by omega
    go_wp2_with fail
    clear z0 z1 z2
    go_loopw [13] (fun i wr => ∃ j : Nat, j ≤ M.length ∧ i = .int .i64 (j : Int) ∧ Below V5.heap.size V5 wr) (fun i _ => M.length - (intOf i).toNat)
    case atStart => exact ⟨0, by omega, rfl, Below.refl _ _⟩
    case round =>
      obtain ⟨j, hj, rfl, hbq⟩ := hrel
      have HQ := Lib.hid hbq
      clear hbq
      by_cases hltj : j < M.length
      case neg =>
        have ej : j = M.length := by omega
        subst ej
        have HR := Lib.hid (HBR5.out.trans (HQ.out.mono HBR5.out.size))
        clear HFI1 TM HB5
        go_wp2_with fail
        go_roundw
        case rel => exact ⟨k + 1, by omega, by go_num, HR.out⟩
        case measure => simp [intOf]; omega
      obtain ⟨y, hy⟩ : ∃ y, M[j]? = some y := ⟨M[j], List.getElem?_eq_getElem hltj⟩
      obtain ⟨g, o', hG, hbg, c0, c1, c2, c3⟩ := atC (La.SlAt.below TM.out HQ.out) hy
      subst hG
      have j0 : (0 : Int) ≤ (j : Int) := by omega
      have j1 : (j : Int) < (M.length : Int) := by omega
      have HF := Lib.hid (HFI1.out y (List.mem_of_getElem? hy))
      have TL := Lib.hid (La.SlAt.below TA.out (HBR5.out.trans (HQ.out.mono HBR5.out.size)))
      clear hy HFI1
      go_upto_region 20 with fail
      have T8 : Hid (Blk (wr.alloc (.cells #[.int .i64 y.1, .int .i64 y.2.1, .int .i64 y.2.2.1, .int .i64 y.2.2.2] 40)) wr.heap.size #[.int .i64 y.1, .int .i64 y.2.1, .int .i64 y.2.2.1, .int .i64 y.2.2.2] 40) := Lib.hid (Blk.new wr _ _)
      have R8 : Hid (Below wr.heap.size wr (wr.alloc (.cells #[.int .i64 y.1, .int .i64 y.2.1, .int .i64 y.2.2.1, .int .i64 y.2.2.2] 40))) := Lib.hid (below1 wr _)
      try change Code.wp _ _ _ _ (wr.alloc (.cells #[.int .i64 y.1, .int .i64 y.2.1, .int .i64 y.2.2.1, .int .i64 y.2.2.2] 40))
      generalize (wr.alloc (.cells #[.int .i64 y.1, .int .i64 y.2.1, .int .i64 y.2.2.1, .int .i64 y.2.2.2] 40)) = W8 at T8 R8 ⊢
      have HQ8 := Lib.hid (HQ.out.trans (R8.out.mono HQ.out.size))
      have TL8 := Lib.hid (La.SlAt.below TL.out R8.out)
      generalize wr.heap.size = Cb at T8 ⊢
      clear c0 c1 c2 c3 R8 TL HQ TM hbg
      have x0 : W8.drew.cell? ⟨Cb, 0, none⟩ = some (.int .i64 y.1) := Blk.cell T8.out 0
      have x1 : W8.drew.cell? ⟨Cb, 1, none⟩ = some (.int .i64 y.2.1) := Blk.cell T8.out 1
      have x2 : W8.drew.cell? ⟨Cb, 2, none⟩ = some (.int .i64 y.2.2.1) := Blk.cell T8.out 2
      have x3 : W8.drew.cell? ⟨Cb, 3, none⟩ = some (.int .i64 y.2.2.2) := Blk.cell T8.out 3
      by_cases h4 : y.1 = 4
      · have q4 : (y.1 != 4) = false := by simpa using h4
        clear h4 HF TL8 x0 x1 x2 x3
        have x0 : W8.cell? ⟨Cb, 0, none⟩ = some (.int .i64 y.1) := Blk.cell T8.out 0
        go_quiet (fail)
        go_wp2_with fail
        go_roundw
        case rel => exact ⟨j + 1, by omega, by go_num, below_drewN HQ8.out _⟩
        case measure => simp [intOf]; omega
      have q4 : (y.1 != 4) = true := by simpa using h4
      by_cases h7 : y.1 = 7
      · have q7 : (y.1 != 7) = false := by simpa using h7
        clear h7 HF TL8 x0 x1 x2 x3
        have x0 : W8.cell? ⟨Cb, 0, none⟩ = some (.int .i64 y.1) := Blk.cell T8.out 0
        go_quiet (fail)
        go_wp2_with fail
        go_roundw
        case rel => exact ⟨j + 1, by omega, by go_num, below_drewN HQ8.out _⟩
        case measure => simp [intOf]; omega
      have q7 : (y.1 != 7) = true := by simpa using h7
      by_cases h8 : y.1 = 8
      · have q8 : (y.1 != 8) = false := by simpa using h8
        clear h8 HF TL8 x0 x1 x2 x3
        have x0 : W8.cell? ⟨Cb, 0, none⟩ = some (.int .i64 y.1) := Blk.cell T8.out 0
        go_quiet (fail)
        go_wp2_with fail
        go_roundw
        case rel => exact ⟨j + 1, by omega, by go_num, below_drewN HQ8.out _⟩
        case measure => simp [intOf]; omega
      have q8 : (y.1 != 8) = true := by simpa using h8
      have hle9 := HF.out h4 h7 h8
      have KF := Lib.hid (fun W' (hb : Below W8.heap.size W8 W') => find8_any Ga ca2 L y W' hL (La.SlAt.below TL8.out hb))
      generalize (findC L y.1 y.2.1 y.2.2.1).getD 0 = fd at hle9 KF
      have hgt9 : ¬ fd < y.2.2.2 := by omega
      have hgd9 : decide (fd < y.2.2.2) = false := decide_eq_false hgt9
      have X := Lib.hid (fun W' (hb : Below W8.heap.size W8 W') => (show W'.cell? ⟨Cb, 0, none⟩ = some (.int .i64 y.1) ∧ W'.cell? ⟨Cb, 1, none⟩ = some (.int .i64 y.2.1) ∧ W'.cell? ⟨Cb, 2, none⟩ = some (.int .i64 y.2.2.1) ∧ W'.cell? ⟨Cb, 3, none⟩ = some (.int .i64 y.2.2.2) from ⟨Blk.cell (T8.out.below hb T8.out.lt) 0, Blk.cell (T8.out.below hb T8.out.lt) 1, Blk.cell (T8.out.below hb T8.out.lt) 2, Blk.cell (T8.out.below hb T8.out.lt) 3⟩))
      have HD : Hid (Below W8.heap.size W8 W8.drew) := Lib.hid ((Below.refl _ W8).drew)
      clear HF TL8 h4 h7 h8 x0 x1 x2 x3 T8
      obtain ⟨x0, x1, x2, x3⟩ := X.out _ HD.out
      go_cut [108] (fun v wc => v = .bool false ∧ Below W8.heap.size W8 wc)
      case first =>
        go_region_held3 (fun w' => w'.cell? ⟨Cb, 0, none⟩ = some (.int .i64 y.1) ∧ w'.cell? ⟨Cb, 1, none⟩ = some (.int .i64 y.2.1) ∧ w'.cell? ⟨Cb, 2, none⟩ = some (.int .i64 y.2.2.1) ∧ w'.cell? ⟨Cb, 3, none⟩ = some (.int .i64 y.2.2.2))
          (first | exact ⟨x0, x1, x2, x3⟩ | exact ⟨by assumption, by assumption, by assumption, by assumption⟩)
          (first
            | (go_at_call 28
               refine (KF.out _ HD.out).mono ?_
               rintro e wA ⟨rfl, hbA⟩
               have HDA := Lib.hid (HD.out.trans (hbA.mono HD.out.size))
               obtain ⟨y0, y1, y2, y3⟩ := X.out _ HDA.out
               clear hbA))
        all_goals
          (try go_wp2_with fail)
          go_meet
          exact ⟨by first | rfl | trivial, HDA.out⟩
      case' rest => obtain ⟨rfl, hbc⟩ := hcut
      have HQ9 := Lib.hid (HQ8.out.trans (hbc.mono HQ8.out.size))
      clear hbc KF X HD x0 x1 x2 x3
      go_wp2_with fail
      go_roundw
      case rel => exact ⟨j + 1, by omega, by go_num, HQ9.out⟩
      case measure => simp [intOf]; omega
end Go.Proofs.YtfpbdfagcfdbbaaGreat
