/- Steps there and back, and the moves between two placements, taken one after another: numbers only. Conditions: the placements may be. How full nodes are, in numbers; share, isNode, isAbove: contracts. Condition: the cluster and the numbers lie in memory. What is low, high or idle is so; how many pods all nodes have together. In numbers only. Is a number in a list; a policy out of numbers: the contracts of the law's own helpers. Condition: the numbers lie in memory. The pods on a node: the contract of heat's Pods. Condition: the cluster and the numbers lie in memory. Two tests of the law, each by itself: what is low, high or idle is so; whether a share is above its bound. Condition: the lists and rows lie in memory. -/
import Derived.Test.YtmdmjnffnjlgmaaA07
import Derived.Handy

namespace Go.Proofs.Ytmdmjnffnjlgmaa
open Go.RowKit

theorem ok_tp {ns : List NodeD} {x : Int} (h : okB ns x = true) (hx : 0 ≤ x) : tpB ns x = true := by
  unfold okB at h
  rw [decide_eq_false (by omega), Bool.false_or] at h
  exact h
end Go.Proofs.Ytmdmjnffnjlgmaa

namespace Go.Proofs.Ytmdmjnffnjlgmaa
open Go.RowKit Go.Maps Go.Shelf
attribute [local go_sem] Oper.semAt_some

/-- What Pods tells. -/
def podsF (ns : List NodeD) (ps : List PodD) (os : List OwnD) (p : List Int) (node : Int) : List Int := if nodeK ns ps os p node then (onU p node p.length).map (fun k : Nat => (k : Int)) else []
end Go.Proofs.Ytmdmjnffnjlgmaa

namespace Go.Proofs.Ytmdmjnffnjlgmaa
open Go.RowKit

theorem mem_thatH (ns : List NodeD) (F : Nat → Bool) (n : Nat) : ∀ k, n ∈ thatU ns F k ↔ n < k ∧ liveB ns n = true ∧ F n = true
  | 0 => by simp [thatU]
  | k + 1 => by
    rw [thatU, List.mem_append, mem_thatH ns F n k]
    constructor
    · rintro (⟨h1, h2⟩ | h)
      · exact ⟨by omega, h2⟩
      · split at h
        · rename_i hb
          rw [List.mem_singleton] at h
          subst h
          rw [Bool.and_eq_true] at hb
          exact ⟨by omega, hb⟩
        · cases h
    · rintro ⟨h1, h2, h3⟩
      by_cases hk : n < k
      · exact .inl ⟨hk, h2, h3⟩
      · obtain rfl : n = k := by omega
        refine .inr ?_
        rw [if_pos (by rw [h2, h3]; rfl)]
        exact List.mem_singleton.2 rfl
theorem has_thatH (ns : List NodeD) (F : Nat → Bool) (n K : Nat) (hn : n < K) : ((thatU ns F K).map (fun k : Nat => (k : Int))).contains (n : Int) = (liveB ns n && F n) := by
  rw [Bool.eq_iff_iff, List.contains_iff_mem, List.mem_map, Bool.and_eq_true]
  constructor
  · rintro ⟨m, hm, e⟩
    obtain rfl : m = n := by omega
    exact ((mem_thatH ns F m K).1 hm).2
  · intro h
    exact ⟨n, (mem_thatH ns F n K).2 ⟨hn, h⟩, rfl⟩
theorem mem_onH (p : List Int) (node : Int) (y : Nat) : ∀ k, y ∈ onU p node k ↔ y < k ∧ p[y]? = some node
  | 0 => by simp [onU]
  | k + 1 => by
    rw [onU, List.mem_append, mem_onH p node y k]
    constructor
    · rintro (⟨h1, h2⟩ | h)
      · exact ⟨by omega, h2⟩
      · split at h
        · rename_i hb
          rw [List.mem_singleton] at h
          subst h
          exact ⟨by omega, hb⟩
        · cases h
    · rintro ⟨h1, h2⟩
      by_cases hk : y < k
      · exact .inl ⟨hk, h2⟩
      · obtain rfl : y = k := by omega
        refine .inr ?_
        rw [if_pos h2]
        exact List.mem_singleton.2 rfl
theorem on_ltH (p : List Int) (node : Int) (k y : Nat) (h : y ∈ onU p node k) : y < k := ((mem_onH p node y k).1 h).1
theorem on_riseH (p : List Int) (node : Int) : ∀ k, (onU p node k).Pairwise (· < ·)
  | 0 => List.Pairwise.nil
  | k + 1 => by
    rw [onU, List.pairwise_append]
    refine ⟨on_riseH p node k, ?_, ?_⟩
    · split <;> simp
    · intro a ha b hb
      split at hb
      · rw [List.mem_singleton] at hb
        subst hb
        exact on_ltH p node _ a ha
      · cases hb
theorem on_atH (p : List Int) (node : Int) (i y : Nat) (h : (onU p node p.length)[i]? = some y) : y < p.length ∧ p[y]? = some node := (mem_onH p node y p.length).1 (List.mem_of_getElem? h)
theorem on_nextH (p : List Int) (node : Int) (i y z : Nat) (h : (onU p node p.length)[i]? = some y) (h1 : (onU p node p.length)[i + 1]? = some z) : y < z := by
  obtain ⟨h2, rfl⟩ := List.getElem?_eq_some_iff.1 h
  obtain ⟨h3, rfl⟩ := List.getElem?_eq_some_iff.1 h1
  exact List.pairwise_iff_getElem.1 (on_riseH p node p.length) i (i + 1) h2 h3 (by omega)
theorem on_hasH (p : List Int) (node : Int) : decide ((onU p node p.length).length = 0) = !p.contains node := by
  by_cases h : node ∈ p
  · have h1 : p.contains node = true := List.contains_iff_mem.2 h
    obtain ⟨i, hi, he⟩ := List.getElem_of_mem h
    have h2 : i ∈ onU p node p.length := (mem_onH p node i p.length).2 ⟨hi, by rw [List.getElem?_eq_getElem hi, he]⟩
    have h3 : (onU p node p.length).length ≠ 0 := by
      intro e
      rw [List.eq_nil_of_length_eq_zero e] at h2
      cases h2
    rw [h1]
    simpa using h3
  · have h1 : p.contains node = false := by
      cases hc : p.contains node
      · rfl
      · exact absurd (List.contains_iff_mem.1 hc) h
    rw [h1]
    have h2 : onU p node p.length = [] := by
      cases hq : onU p node p.length with
      | nil => rfl
      | cons y t =>
        have hy : y ∈ onU p node p.length := by rw [hq]; exact List.mem_cons_self
        exact absurd (List.mem_of_getElem? ((mem_onH p node y p.length).1 hy).2) h
    rw [h2]
    rfl
/-- How many pods the first n nodes have among the first k; how many of the first k are on some node. -/
def manyK (p : List Int) (k : Nat) : Nat → Int
  | 0 => 0
  | n + 1 => manyK p k n + ((onU p (n : Int) k).length : Int)
def cntH (p : List Int) : Nat → Int
  | 0 => 0
  | k + 1 => cntH p k + (match p[k]? with | some x => if 0 ≤ x then 1 else 0 | none => 0)
theorem manyK_step (p : List Int) (k : Nat) (x : Int) (hx : p[k]? = some x) : ∀ n, manyK p (k + 1) n = manyK p k n + (if 0 ≤ x ∧ x < (n : Int) then 1 else 0)
  | 0 => by
    rw [if_neg (by omega)]
    rfl
  | n + 1 => by
    rw [manyK, manyK, manyK_step p k x hx n, onU, hx]
    by_cases h : x = (n : Int)
    · subst h
      rw [if_pos rfl, if_neg (by omega), if_pos (by omega), List.length_append]
      simp
      omega
    · rw [if_neg (show ¬ (some x = some (n : Int)) from fun e => h (Option.some.inj e)), List.append_nil]
      by_cases h1 : 0 ≤ x ∧ x < (n : Int)
      · rw [if_pos h1, if_pos (by omega)]
        omega
      · rw [if_neg h1, if_neg (by omega)]
        omega
theorem many_cntH (p : List Int) (N : Nat) (hp : ∀ x ∈ p, 0 ≤ x → x < (N : Int)) : ∀ k, k ≤ p.length → manyK p k N = cntH p k
  | 0, _ => by
    have : ∀ n, manyK p 0 n = 0 := fun n => by
      induction n with
      | zero => rfl
      | succ n ih => rw [manyK, ih]; rfl
    exact this N
  | k + 1, hk => by
    have hx : p[k]? = some p[k] := List.getElem?_eq_getElem hk
    have h1 := hp p[k] (List.getElem_mem _)
    rw [manyK_step p k _ hx N, many_cntH p N hp k (by omega), cntH, hx]
    dsimp only
    by_cases h : 0 ≤ p[k]
    · rw [if_pos ⟨h, h1 h⟩, if_pos h]
    · rw [if_neg (fun e => h e.1), if_neg h]
theorem manyK_bound (p : List Int) (k : Nat) : ∀ n : Nat, 0 ≤ manyK p k n ∧ manyK p k n ≤ (k : Int) * n
  | 0 => by simp [manyK]
  | n + 1 => by
    have h1 := manyK_bound p k n
    have h2 := onU_len p (n : Int) k
    rw [manyK, Int.natCast_add, Int.mul_add]
    omega
theorem cntH_bound (p : List Int) : ∀ k : Nat, 0 ≤ cntH p k ∧ cntH p k ≤ (k : Int)
  | 0 => by simp [cntH]
  | k + 1 => by
    have h1 := cntH_bound p k
    rw [cntH]
    split
    · split <;> omega
    · omega
/-- A policy out of numbers. -/
def fairG (a b c d : Int) : Pol := { l0 := min a b, l1 := min c d, h0 := max a b, h1 := max c d, on := 0, drain := [], mx := 0, tr := 0, rb := false }
theorem fair_okH {a b c d : Int} (ha : 0 ≤ a ∧ a ≤ 1000) (hb : 0 ≤ b ∧ b ≤ 1000) (hc : 0 ≤ c ∧ c ≤ 1000) (hd : 0 ≤ d ∧ d ≤ 1000) : checkG (fairG a b c d) = 0 := by
  unfold checkG
  rw [if_pos]
  unfold polB fairG sharesB upB drainB
  simp only [Bool.and_eq_true, decide_eq_true_eq]
  refine ⟨⟨⟨⟨⟨⟨⟨?_, ?_⟩, ?_, ?_⟩, ⟨?_, ?_⟩, ?_, ?_⟩, by omega, by omega⟩, by simp, rfl⟩, by omega, by omega⟩, by omega, by omega⟩ <;> omega
end Go.Proofs.Ytmdmjnffnjlgmaa

namespace Go.Proofs.Ytmdmjnffnjlgmaa
open Go.RowKit

set_option maxRecDepth 100000 in
set_option maxHeartbeats 2000000 in
theorem inH_any (A : Option Addr) (c : Nat) (l : List Int) (n : Int) (w : World) (h : IntsAt w A c l) :
    Calls Try.prog 14 #[.slice A l.length c, .int .i64 n] w fun e w' => e = .returned (.bool (l.contains n)) ∧ w' = w := by
  have H := Lib.hid h
  have hlm : l.length ≤ 9223372036854775807 := by have := h.le; have := h.most; omega
  obtain ⟨R, hR⟩ : ∃ R, l.contains n = R := ⟨_, rfl⟩
  have HR := Lib.hid hR
  rw [hR]
  clear h hR
  go_enter Try.func14, Try.ntmps14
  go_wp2_with fail
  go_loopw [5] (fun i wr => ∃ k : Nat, k ≤ l.length ∧ i = .int .i64 k ∧ (∀ j x, j < k → l[j]? = some x → x ≠ n) ∧ wr = w) (fun i _ => l.length - (RowKit.intOf i).toNat)
  case atStart => exact ⟨0, by omega, rfl, fun j x h => by omega, rfl⟩
  case round =>
    obtain ⟨k, hk, rfl, hn, rfl⟩ := hrel
    have HN := Lib.hid hn
    clear hn
    by_cases hlt : k < l.length
    · obtain ⟨x, hx⟩ : ∃ x, l[k]? = some x := ⟨l[k], List.getElem?_eq_getElem hlt⟩
      obtain ⟨b, o, hA, hb, hc⟩ := atI H.out.cells hx
      subst hA
      have k0 : (0 : Int) ≤ (k : Int) := by omega
      have k1 : (k : Int) < (l.length : Int) := by omega
      by_cases hxn : x = n
      · subst hxn
        have hT : Hid (R = true) := Lib.hid (by rw [← HR.out]; exact List.contains_iff_mem.2 (List.mem_of_getElem? hx))
        clear hx
        go_wp2_with fail
        go_ret
        rw [hT.out]
        exact ⟨rfl, rfl⟩
      · have hxb : (x == n) = false := by simpa using hxn
        have HX := Lib.hid hx
        clear hx
        go_wp2_with fail
        go_roundw
        case rel =>
          refine ⟨k + 1, by omega, by go_num, fun j y hj hy => ?_, (by first | rfl | trivial)⟩
          rcases Nat.lt_or_eq_of_le (Nat.le_of_lt_succ hj) with g | rfl
          · exact HN.out j y g hy
          · have := HX.out.symm.trans hy
            cases this
            exact hxn
        case measure => simp [RowKit.intOf]; omega
    · obtain rfl : k = l.length := by omega
      have hF : Hid (R = false) := Lib.hid (by
        rw [← HR.out]
        cases hc : l.contains n
        · rfl
        · obtain ⟨i, hi, he⟩ := List.getElem_of_mem (List.contains_iff_mem.1 hc)
          exact absurd he (HN.out i _ hi (List.getElem?_eq_getElem hi)))
      go_wp2_with fail
      go_ret
      rw [hF.out]
      exact ⟨rfl, rfl⟩

theorem goal_sizeH : (Try.prog.info? 34).map (·.size) = some 9 := by kernel_rfl
/-- Nine cells are written. -/
abbrev set9H (W : World) (b : Nat) (v0 v1 v2 v3 v4 v5 v6 v7 v8 : Value) : World := ((((((((W.setCell ⟨b, 0, none⟩ v0).setCell ⟨b, 1, none⟩ v1).setCell ⟨b, 2, none⟩ v2).setCell ⟨b, 3, none⟩ v3).setCell ⟨b, 4, none⟩ v4).setCell ⟨b, 5, none⟩ v5).setCell ⟨b, 6, none⟩ v6).setCell ⟨b, 7, none⟩ v7).setCell ⟨b, 8, none⟩ v8
theorem blk9H {W : World} {b : Nat} {t : TypeId} {a0 a1 a2 a3 a4 a5 a6 a7 a8 : Value} (h : Blk W b #[a0, a1, a2, a3, a4, a5, a6, a7, a8] t) (v0 v1 v2 v3 v4 v5 v6 v7 v8 : Value) : Blk (set9H W b v0 v1 v2 v3 v4 v5 v6 v7 v8) b #[v0, v1, v2, v3, v4, v5, v6, v7, v8] t := by
  have s0 : Blk (W.setCell ⟨b, 0, none⟩ v0) b #[v0, a1, a2, a3, a4, a5, a6, a7, a8] t := Blk.set h 0 v0
  have s1 : Blk ((W.setCell ⟨b, 0, none⟩ v0).setCell ⟨b, 1, none⟩ v1) b #[v0, v1, a2, a3, a4, a5, a6, a7, a8] t := Blk.set s0 1 v1
  have s2 : Blk (((W.setCell ⟨b, 0, none⟩ v0).setCell ⟨b, 1, none⟩ v1).setCell ⟨b, 2, none⟩ v2) b #[v0, v1, v2, a3, a4, a5, a6, a7, a8] t := Blk.set s1 2 v2
  have s3 : Blk ((((W.setCell ⟨b, 0, none⟩ v0).setCell ⟨b, 1, none⟩ v1).setCell ⟨b, 2, none⟩ v2).setCell ⟨b, 3, none⟩ v3) b #[v0, v1, v2, v3, a4, a5, a6, a7, a8] t := Blk.set s2 3 v3
  have s4 : Blk (((((W.setCell ⟨b, 0, none⟩ v0).setCell ⟨b, 1, none⟩ v1).setCell ⟨b, 2, none⟩ v2).setCell ⟨b, 3, none⟩ v3).setCell ⟨b, 4, none⟩ v4) b #[v0, v1, v2, v3, v4, a5, a6, a7, a8] t := Blk.set s3 4 v4
  have s5 : Blk ((((((W.setCell ⟨b, 0, none⟩ v0).setCell ⟨b, 1, none⟩ v1).setCell ⟨b, 2, none⟩ v2).setCell ⟨b, 3, none⟩ v3).setCell ⟨b, 4, none⟩ v4).setCell ⟨b, 5, none⟩ v5) b #[v0, v1, v2, v3, v4, v5, a6, a7, a8] t := Blk.set s4 5 v5
  have s6 : Blk (((((((W.setCell ⟨b, 0, none⟩ v0).setCell ⟨b, 1, none⟩ v1).setCell ⟨b, 2, none⟩ v2).setCell ⟨b, 3, none⟩ v3).setCell ⟨b, 4, none⟩ v4).setCell ⟨b, 5, none⟩ v5).setCell ⟨b, 6, none⟩ v6) b #[v0, v1, v2, v3, v4, v5, v6, a7, a8] t := Blk.set s5 6 v6
  have s7 : Blk ((((((((W.setCell ⟨b, 0, none⟩ v0).setCell ⟨b, 1, none⟩ v1).setCell ⟨b, 2, none⟩ v2).setCell ⟨b, 3, none⟩ v3).setCell ⟨b, 4, none⟩ v4).setCell ⟨b, 5, none⟩ v5).setCell ⟨b, 6, none⟩ v6).setCell ⟨b, 7, none⟩ v7) b #[v0, v1, v2, v3, v4, v5, v6, v7, a8] t := Blk.set s6 7 v7
  have s8 : Blk (((((((((W.setCell ⟨b, 0, none⟩ v0).setCell ⟨b, 1, none⟩ v1).setCell ⟨b, 2, none⟩ v2).setCell ⟨b, 3, none⟩ v3).setCell ⟨b, 4, none⟩ v4).setCell ⟨b, 5, none⟩ v5).setCell ⟨b, 6, none⟩ v6).setCell ⟨b, 7, none⟩ v7).setCell ⟨b, 8, none⟩ v8) b #[v0, v1, v2, v3, v4, v5, v6, v7, v8] t := Blk.set s7 8 v8
  exact s8
theorem below9H {w W : World} {B b : Nat} (h : Below B w W) (hb : B ≤ b) (v0 v1 v2 v3 v4 v5 v6 v7 v8 : Value) : Below B w (set9H W b v0 v1 v2 v3 v4 v5 v6 v7 v8) := ((((((((h.setCell (p := ⟨b, 0, none⟩) hb v0).setCell (p := ⟨b, 1, none⟩) hb v1).setCell (p := ⟨b, 2, none⟩) hb v2).setCell (p := ⟨b, 3, none⟩) hb v3).setCell (p := ⟨b, 4, none⟩) hb v4).setCell (p := ⟨b, 5, none⟩) hb v5).setCell (p := ⟨b, 6, none⟩) hb v6).setCell (p := ⟨b, 7, none⟩) hb v7).setCell (p := ⟨b, 8, none⟩) hb v8
abbrev cellsF (a b c d : Int) : Array Value := #[.int .i64 a, .int .i64 b, .int .i64 c, .int .i64 d, .int .i64 0, .slice none 0 0, .int .i64 0, .int .i64 0, .bool false]
theorem bringF (i : Int) (w : World) : Calls Try.prog 15 #[.int .i64 i, .int .i64 1001] w fun e w' => e = .returned (.int .i64 (i % 1001)) ∧ w' = w :=
  (Qu.bring_any i 1001 w (by omega) (by omega)).mono fun _ _ ⟨a, b⟩ => ⟨a, b.symm⟩

set_option maxRecDepth 100000 in
set_option maxHeartbeats 2000000 in
theorem fair_any (l0 l1 l2 l3 : Int) (w : World) :
    Calls Try.prog 7 #[.agg #[.int .i64 l0, .int .i64 l1, .int .i64 l2, .int .i64 l3]] w fun e w' => e = .returned (valG (fairG (l0 % 1001) (l1 % 1001) (l2 % 1001) (l3 % 1001)) none 0) ∧ Below w.heap.size w w' := by
  have KB := Lib.hid bringF
  have B0 : Hid (Below w.heap.size w (((w.alloc (.cells #[.int .i64 l0, .int .i64 l1, .int .i64 l2, .int .i64 l3] 27)).alloc (.cells (cellsF 0 0 0 0) 34)).alloc (.cells (cellsF 0 0 0 0) 34))) := Lib.hid (((below1 w _).alloc (by simp) _).alloc (by simp; omega) _)
  have Q0 : Hid (Blk (((w.alloc (.cells #[.int .i64 l0, .int .i64 l1, .int .i64 l2, .int .i64 l3] 27)).alloc (.cells (cellsF 0 0 0 0) 34)).alloc (.cells (cellsF 0 0 0 0) 34)) w.heap.size #[.int .i64 l0, .int .i64 l1, .int .i64 l2, .int .i64 l3] 27) := Lib.hid (Blk.alloc (Blk.alloc (Blk.new w _ _) _) _)
  have R0 : Hid (Blk (((w.alloc (.cells #[.int .i64 l0, .int .i64 l1, .int .i64 l2, .int .i64 l3] 27)).alloc (.cells (cellsF 0 0 0 0) 34)).alloc (.cells (cellsF 0 0 0 0) 34)) (w.heap.size + 1) (cellsF 0 0 0 0) 34) := Lib.hid (Blk.alloc (blk2 w _ _ _) _)
  have G0 : Hid (Blk (((w.alloc (.cells #[.int .i64 l0, .int .i64 l1, .int .i64 l2, .int .i64 l3] 27)).alloc (.cells (cellsF 0 0 0 0) 34)).alloc (.cells (cellsF 0 0 0 0) 34)) (w.heap.size + 1 + 1) (cellsF 0 0 0 0) 34) := Lib.hid (blk3 w _ _ _ _)
  obtain ⟨a, ha⟩ : ∃ a, l0 % 1001 = a := ⟨_, rfl⟩
  obtain ⟨b, hb⟩ : ∃ b, l1 % 1001 = b := ⟨_, rfl⟩
  obtain ⟨c, hc⟩ : ∃ c, l2 % 1001 = c := ⟨_, rfl⟩
  obtain ⟨d, hd⟩ : ∃ d, l3 % 1001 = d := ⟨_, rfl⟩
  have K0 : Hid (∀ w, Calls Try.prog 15 #[.int .i64 l0, .int .i64 1001] w fun e w' => e = .returned (.int .i64 a) ∧ w' = w) := Lib.hid (fun w => by rw [← ha]; exact bringF l0 w)
  have K1 : Hid (∀ w, Calls Try.prog 15 #[.int .i64 l1, .int .i64 1001] w fun e w' => e = .returned (.int .i64 b) ∧ w' = w) := Lib.hid (fun w => by rw [← hb]; exact bringF l1 w)
  have K2 : Hid (∀ w, Calls Try.prog 15 #[.int .i64 l2, .int .i64 1001] w fun e w' => e = .returned (.int .i64 c) ∧ w' = w) := Lib.hid (fun w => by rw [← hc]; exact bringF l2 w)
  have K3 : Hid (∀ w, Calls Try.prog 15 #[.int .i64 l3, .int .i64 1001] w fun e w' => e = .returned (.int .i64 d) ∧ w' = w) := Lib.hid (fun w => by rw [← hd]; exact bringF l3 w)
  rw [ha, hb, hc, hd]
  clear ha hb hc hd KB
  go_enter Try.func7, Try.ntmps7
  go_upto_region 2 with fail
  try change Code.wp _ _ _ _ (((w.alloc (.cells #[.int .i64 l0, .int .i64 l1, .int .i64 l2, .int .i64 l3] 27)).alloc (.cells (cellsF 0 0 0 0) 34)).alloc (.cells (cellsF 0 0 0 0) 34))
  generalize (((w.alloc (.cells #[.int .i64 l0, .int .i64 l1, .int .i64 l2, .int .i64 l3] 27)).alloc (.cells (cellsF 0 0 0 0) 34)).alloc (.cells (cellsF 0 0 0 0) 34)) = W at B0 Q0 R0 G0 ⊢
  go_wp2_with fail
  go_loopw [4] (fun i wr => ∃ k : Nat, k ≤ 2 ∧ i = .int .i64 k ∧ Blk wr w.heap.size #[.int .i64 l0, .int .i64 l1, .int .i64 l2, .int .i64 l3] 27 ∧ Blk wr (w.heap.size + 1) (cellsF 0 0 0 0) 34 ∧ (k = 0 → Blk wr (w.heap.size + 1 + 1) (cellsF 0 0 0 0) 34) ∧ (k = 1 → Blk wr (w.heap.size + 1 + 1) (cellsF (min a b) 0 (max a b) 0) 34) ∧ (k = 2 → Blk wr (w.heap.size + 1 + 1) (cellsF (min a b) (min c d) (max a b) (max c d)) 34) ∧ Below w.heap.size w wr) (fun i _ => 2 - (RowKit.intOf i).toNat)
  case atStart => exact ⟨0, by omega, rfl, Q0.out, R0.out, fun _ => G0.out, fun h => (by omega), fun h => (by omega), B0.out⟩
  case round =>
    obtain ⟨k, hk, rfl, hQ, hR, hG0, hG1, hG2, hB⟩ := hrel
    have HQ := Lib.hid hQ
    have HR := Lib.hid hR
    have HB := Lib.hid hB
    have q0 : wr.cell? ⟨w.heap.size, 0, none⟩ = some (.int .i64 l0) := Blk.cell hQ 0
    have q1 : wr.cell? ⟨w.heap.size, 1, none⟩ = some (.int .i64 l1) := Blk.cell hQ 1
    have q2 : wr.cell? ⟨w.heap.size, 2, none⟩ = some (.int .i64 l2) := Blk.cell hQ 2
    have q3 : wr.cell? ⟨w.heap.size, 3, none⟩ = some (.int .i64 l3) := Blk.cell hQ 3
    clear hQ hR hB
    rcases k with _ | _ | _ | k
    · have HG := Lib.hid (hG0 rfl)
      clear hG0 hG1 hG2 q2 q3
      go_upto_region 5 with fail
      go_quiet (first | (go_at_call 15; with_reducible exact Calls.quiet_of_same (K0.out _)) | (go_at_call 15; with_reducible exact Calls.quiet_of_same (K1.out _)))
      have HQ2 := Lib.hid (HQ.out.below (belowN (Below.refl _ wr) nq) HQ.out.lt)
      have HR2 := Lib.hid (HR.out.below (belowN (Below.refl _ wr) nq) HR.out.lt)
      have HG2 := Lib.hid (HG.out.below (belowN (Below.refl _ wr) nq) HG.out.lt)
      have HB2 := Lib.hid (belowN HB.out nq)
      clear HQ HR HG HB q0 q1
      generalize wr.drewN nq = W1 at HQ2 HR2 HG2 HB2 ⊢
      have g0 : W1.cell? ⟨w.heap.size + 1 + 1, 0, none⟩ = some (.int .i64 0) := Blk.cell HG2.out 0
      have g1 : W1.frozen? ⟨w.heap.size + 1 + 1, 0, none⟩ = false := Blk.free HG2.out 0
      have g2 : W1.cell? ⟨w.heap.size + 1 + 1, 2, none⟩ = some (.int .i64 0) := Blk.cell HG2.out 2
      have g3 : W1.frozen? ⟨w.heap.size + 1 + 1, 2, none⟩ = false := Blk.free HG2.out 2
      go_wp2
      go_roundw
      case rel =>
        refine ⟨1, by omega, by go_num, (HQ2.out.oth (by omega) 0 _).oth (by omega) 2 _, (HR2.out.oth (by omega) 0 _).oth (by omega) 2 _, fun h => (by omega), fun _ => ?_, fun h => (by omega), (HB2.out.setCell (p := ⟨w.heap.size + 1 + 1, 0, none⟩) (by show w.heap.size ≤ w.heap.size + 1 + 1; omega) _).setCell (p := ⟨w.heap.size + 1 + 1, 2, none⟩) (by show w.heap.size ≤ w.heap.size + 1 + 1; omega) _⟩
        exact (HG2.out.set 0 _).set 2 _
      case measure => simp [RowKit.intOf]
    · have HG := Lib.hid (hG1 rfl)
      clear hG0 hG1 hG2 q0 q1
      go_upto_region 5 with fail
      go_quiet (first | (go_at_call 15; with_reducible exact Calls.quiet_of_same (K2.out _)) | (go_at_call 15; with_reducible exact Calls.quiet_of_same (K3.out _)))
      have HQ2 := Lib.hid (HQ.out.below (belowN (Below.refl _ wr) nq) HQ.out.lt)
      have HR2 := Lib.hid (HR.out.below (belowN (Below.refl _ wr) nq) HR.out.lt)
      have HG2 := Lib.hid (HG.out.below (belowN (Below.refl _ wr) nq) HG.out.lt)
      have HB2 := Lib.hid (belowN HB.out nq)
      clear HQ HR HG HB q2 q3
      generalize wr.drewN nq = W1 at HQ2 HR2 HG2 HB2 ⊢
      have g0 : W1.cell? ⟨w.heap.size + 1 + 1, 1, none⟩ = some (.int .i64 0) := Blk.cell HG2.out 1
      have g1 : W1.frozen? ⟨w.heap.size + 1 + 1, 1, none⟩ = false := Blk.free HG2.out 1
      have g2 : W1.cell? ⟨w.heap.size + 1 + 1, 3, none⟩ = some (.int .i64 0) := Blk.cell HG2.out 3
      have g3 : W1.frozen? ⟨w.heap.size + 1 + 1, 3, none⟩ = false := Blk.free HG2.out 3
      go_wp2
      go_roundw
      case rel =>
        refine ⟨2, by omega, by go_num, (HQ2.out.oth (by omega) 1 _).oth (by omega) 3 _, (HR2.out.oth (by omega) 1 _).oth (by omega) 3 _, fun h => (by omega), fun h => (by omega), fun _ => ?_, (HB2.out.setCell (p := ⟨w.heap.size + 1 + 1, 1, none⟩) (by show w.heap.size ≤ w.heap.size + 1 + 1; omega) _).setCell (p := ⟨w.heap.size + 1 + 1, 3, none⟩) (by show w.heap.size ≤ w.heap.size + 1 + 1; omega) _⟩
        exact (HG2.out.set 1 _).set 3 _
      case measure => simp [RowKit.intOf]
    · have HG := Lib.hid (hG2 rfl)
      clear hG0 hG1 hG2 q0 q1 q2 q3
      have e0 : wr.cell? ⟨w.heap.size + 1 + 1, 0, none⟩ = some (.int .i64 (min a b)) := Blk.cell HG.out 0
      have e1 : wr.cell? ⟨w.heap.size + 1 + 1, 1, none⟩ = some (.int .i64 (min c d)) := Blk.cell HG.out 1
      have e2 : wr.cell? ⟨w.heap.size + 1 + 1, 2, none⟩ = some (.int .i64 (max a b)) := Blk.cell HG.out 2
      have e3 : wr.cell? ⟨w.heap.size + 1 + 1, 3, none⟩ = some (.int .i64 (max c d)) := Blk.cell HG.out 3
      have e4 : wr.cell? ⟨w.heap.size + 1 + 1, 4, none⟩ = some (.int .i64 0) := Blk.cell HG.out 4
      have e5 : wr.cell? ⟨w.heap.size + 1 + 1, 5, none⟩ = some (.slice none 0 0) := Blk.cell HG.out 5
      have e6 : wr.cell? ⟨w.heap.size + 1 + 1, 6, none⟩ = some (.int .i64 0) := Blk.cell HG.out 6
      have e7 : wr.cell? ⟨w.heap.size + 1 + 1, 7, none⟩ = some (.int .i64 0) := Blk.cell HG.out 7
      have e8 : wr.cell? ⟨w.heap.size + 1 + 1, 8, none⟩ = some (.bool false) := Blk.cell HG.out 8
      have y0 : wr.cell? ⟨w.heap.size + 1, 0, none⟩ = some (.int .i64 0) := Blk.cell HR.out 0
      have v0 : wr.frozen? ⟨w.heap.size + 1, 0, none⟩ = false := Blk.free HR.out 0
      have y1 : wr.cell? ⟨w.heap.size + 1, 1, none⟩ = some (.int .i64 0) := Blk.cell HR.out 1
      have v1 : wr.frozen? ⟨w.heap.size + 1, 1, none⟩ = false := Blk.free HR.out 1
      have y2 : wr.cell? ⟨w.heap.size + 1, 2, none⟩ = some (.int .i64 0) := Blk.cell HR.out 2
      have v2 : wr.frozen? ⟨w.heap.size + 1, 2, none⟩ = false := Blk.free HR.out 2
      have y3 : wr.cell? ⟨w.heap.size + 1, 3, none⟩ = some (.int .i64 0) := Blk.cell HR.out 3
      have v3 : wr.frozen? ⟨w.heap.size + 1, 3, none⟩ = false := Blk.free HR.out 3
      have y4 : wr.cell? ⟨w.heap.size + 1, 4, none⟩ = some (.int .i64 0) := Blk.cell HR.out 4
      have v4 : wr.frozen? ⟨w.heap.size + 1, 4, none⟩ = false := Blk.free HR.out 4
      have y5 : wr.cell? ⟨w.heap.size + 1, 5, none⟩ = some (.slice none 0 0) := Blk.cell HR.out 5
      have v5 : wr.frozen? ⟨w.heap.size + 1, 5, none⟩ = false := Blk.free HR.out 5
      have y6 : wr.cell? ⟨w.heap.size + 1, 6, none⟩ = some (.int .i64 0) := Blk.cell HR.out 6
      have v6 : wr.frozen? ⟨w.heap.size + 1, 6, none⟩ = false := Blk.free HR.out 6
      have y7 : wr.cell? ⟨w.heap.size + 1, 7, none⟩ = some (.int .i64 0) := Blk.cell HR.out 7
      have v7 : wr.frozen? ⟨w.heap.size + 1, 7, none⟩ = false := Blk.free HR.out 7
      have y8 : wr.cell? ⟨w.heap.size + 1, 8, none⟩ = some (.bool false) := Blk.cell HR.out 8
      have v8 : wr.frozen? ⟨w.heap.size + 1, 8, none⟩ = false := Blk.free HR.out 8
      go_wp2_with fail
      refine bodyPost_row1 Try.results7 (w.heap.size + 1) _ _ _ _ ?d1 ?p1 (blk9H HR.out (.int .i64 (min a b)) (.int .i64 (min c d)) (.int .i64 (max a b)) (.int .i64 (max c d)) (.int .i64 0) (.slice none 0 0) (.int .i64 0) (.int .i64 0) (.bool false)) Try.underlying34 rfl goal_sizeH ?_
      case d1 => rfl
      case p1 => rfl
      exact ⟨rfl, below9H HB.out (Nat.le_succ _) (.int .i64 (min a b)) (.int .i64 (min c d)) (.int .i64 (max a b)) (.int .i64 (max c d)) (.int .i64 0) (.slice none 0 0) (.int .i64 0) (.int .i64 0) (.bool false)⟩
    · omega
end Go.Proofs.Ytmdmjnffnjlgmaa

namespace Go.Proofs.Ytmdmjnffnjlgmaa
open Go.RowKit Go.Maps Go.Shelf
attribute [local go_sem] Oper.semAt_some

theorem below_blkH {B : Nat} {w w' : World} (h : Below B w w') {b : Nat} (hb : b < B) {cs : Array Value} {t : TypeId} (hk : Blk w b cs t) : Blk w' b cs t := (h.block b hb).trans hk
set_option maxRecDepth 100000 in
set_option maxHeartbeats 2000000 in
theorem on1_inB (n : Nat) (hn : 1 ≤ n) (l Bp Bn n₀ cp : Nat) (P : Option Addr) (p : List Int) (node : Int) (hfew : p.length ≤ 1000) (J Jx : List (AtNo p node) → World → Prop)
    (hY : ∀ pre (x : AtNo p node) W, J pre W → pre.length < p.length → YieldAt Fence.wide (n - 1) Try.prog l #[.int .i64 (x.1 : Int)] W fun e W' =>
      (e = .returned (.bool true) ∧ J (pre ++ [x]) W' ∧ Below n₀ W W') ∨ (e = .returned (.bool false) ∧ Jx (pre ++ [x]) W'))
    (W : World) (hBp : W.cell? ⟨Bp, 0, none⟩ = some (.slice P p.length cp)) (hBn : Blk W Bn #[.int .i64 node] 3) (hus : Bn < n₀)
    (hp : ∀ k x, p[k]? = some x → ∃ b o, P = some ⟨b, o, none⟩ ∧ b < n₀ ∧ W.cell? ⟨b, o + k, none⟩ = some (.int .i64 x)) (h0 : J [] W) :
    CallsIn Fence.wide n Try.prog 50 #[.func (.yield l) #[] #[], .pointer (some ⟨Bp, 0, none⟩), .pointer (some ⟨Bn, 0, none⟩)] W fun e W' => (∃ v, e = .returned v) ∧
      ((∃ ys : List (AtNo p node), ys.map (·.1) = onU p node p.length ∧ J ys W') ∨ (∃ pre : List (AtNo p node), True ∧ Jx pre W')) := by
  refine callsIn_of_wp Try.func50 rfl trivial ?_ rfl
  simp only [Try.ntmps50, List.size_toArray, List.length_cons, List.length_nil, Nat.reduceAdd, Nat.reduceSub, Array.replicate_succ, Array.replicate_zero, List.push_toArray, List.append_toArray, List.nil_append, List.cons_append]
  have HBn := Lib.hid hBn
  clear hBn
  gi_wp2
  gi_loopw [8] (fun i wr => ∃ (k : Nat) (pre : List (AtNo p node)), k ≤ p.length ∧ i = .int .i64 k ∧ pre.map (·.1) = onU p node k ∧ J pre wr ∧ Below n₀ W wr) (fun i _ => p.length - (RowKit.intOf i).toNat)
  case atStart => exact ⟨0, [], Nat.zero_le _, rfl, rfl, h0, Below.refl _ _⟩
  case round =>
    obtain ⟨k, pre, hk, rfl, hpre, hJs, hnx⟩ := hrel
    by_cases hlt : k < p.length
    · obtain ⟨x, hx⟩ : ∃ x, p[k]? = some x := ⟨p[k], List.getElem?_eq_getElem hlt⟩
      obtain ⟨b, o, hA, hb, hc⟩ := hp k x hx
      subst hA
      have hcx : wr.cell? ⟨b, o + k, none⟩ = some (.int .i64 x) := (hnx.cell (p := ⟨b, o + k, none⟩) hb).trans hc
      have hnn : wr.cell? ⟨Bn, 0, none⟩ = some (.int .i64 node) := Blk.cell (below_blkH hnx hus HBn.out) 0
      have k0 : (0 : Int) ≤ (k : Int) := by omega
      have k1 : (k : Int) < (p.length : Int) := by omega
      have hlen : pre.length < p.length := by
        have h1 := onU_len p node k
        have h2 : pre.length = (onU p node k).length := by rw [← hpre, List.length_map]
        omega
      have hstep : onU p node (k + 1) = onU p node k ++ (if x = node then [k] else []) := by
        rw [onU, hx]
        simp only [Option.some.injEq]
      by_cases hxn : x = node
      · subst hxn
        obtain ⟨fn, tmps, assign, body, hy, hR⟩ := hY pre ⟨k, hx⟩ wr hJs hlen
        dsimp only at hy
        rw [if_pos rfl] at hstep
        gi_wp2
        refine hR.mono ?_
        rintro e W3 (⟨rfl, hJ3, hk3⟩ | ⟨rfl, hJx3⟩)
        · gi_wp2
          go_roundw
          case rel => exact ⟨k + 1, pre ++ [⟨k, hx⟩], by omega, by go_num, by rw [hstep, List.map_append, hpre]; rfl, hJ3, hnx.trans hk3⟩
          case measure => simp [RowKit.intOf]; omega
        · gi_wp2
          refine bodyPost_ret (results_none rfl _ _ _) rfl ?_
          exact ⟨⟨_, rfl⟩, .inr ⟨pre ++ [⟨k, hx⟩], trivial, hJx3⟩⟩
      · rw [if_neg hxn, List.append_nil] at hstep
        have hxb : (x == node) = false := by simpa using hxn
        gi_wp2
        refine ⟨fun _ h => (by cases h), ?_⟩
        gi_wp2
        go_roundw
        case rel => exact ⟨k + 1, pre, by omega, by go_num, by rw [hstep, hpre], hJs, hnx⟩
        case measure => simp [RowKit.intOf]; omega
    · obtain rfl : k = p.length := by omega
      gi_wp2
      go_end0
      exact ⟨⟨_, rfl⟩, .inl ⟨pre, hpre, hJs⟩⟩

set_option maxRecDepth 100000 in
set_option maxHeartbeats 4000000 in
theorem appSeq_any (Bp Bn : Nat) (P : Option Addr) (cp : Nat) (p : List Int) (node : Int) (w : World) (hBp : Blk w Bp #[.slice P p.length cp] 29) (hBn : Blk w Bn #[.int .i64 node] 3) (hp : IntsAt w P cp p) (hfew : p.length ≤ 1000) :
    Calls Try.prog 49 #[.slice none 0 0, .func (.func 50) #[] #[.pointer (some ⟨Bp, 0, none⟩), .pointer (some ⟨Bn, 0, none⟩)]] w fun e w' => ∃ v, e = .returned v ∧ w'.ownsRow w.heap.size 3 1 v (onU p node p.length).length (intsC ((onU p node p.length).map (fun k : Nat => (k : Int)))) ∧ Below w.heap.size w w' := by
  have HP := Lib.hid hp
  have HBp := Lib.hid hBp
  have HBn := Lib.hid hBn
  have N0 : Hid (Blk (w.alloc (.cells #[.slice none 0 0] 29)) w.heap.size #[.slice none 0 0] 29) := Lib.hid (Blk.new w _ _)
  have B0 : Hid (Below w.heap.size w (w.alloc (.cells #[.slice none 0 0] 29))) := Lib.hid (below1 w _)
  obtain ⟨i0, hi0, hz0, hz1, hz2⟩ := info_parts Qu.int_info
  clear hp hBp hBn
  refine (callsIn_wide (n := 8)).1 ?_
  refine callsIn_of_wp_marks Try.func49 rfl trivial ?_ rfl
  simp only [Try.ntmps49, List.size_toArray, List.length_cons, List.length_nil, Nat.reduceAdd, Nat.reduceSub, Array.replicate_succ, Array.replicate_zero, List.push_toArray, List.append_toArray, List.nil_append, List.cons_append]
  gi_upto_region 1 with fail
  try change Code.wpIn _ _ _ _ _ _ (w.alloc (.cells #[.slice none 0 0] 29))
  generalize (w.alloc (.cells #[.slice none 0 0] 29)) = W0 at N0 B0 ⊢
  have hlt : Hid (w.heap.size < W0.heap.size) := Lib.hid (Blk.lt N0.out)
  gi_wp2_with fail
  refine wpIn_rangeFunc_ownG (α := AtNo p node) rfl (by omega) (gf := 50) (lb := #[.pointer (some ⟨Bp, 0, none⟩), .pointer (some ⟨Bn, 0, none⟩)]) rfl trivial (enters_of Try.func50 (by kernel_rfl) rfl)
    (show SeqStopsK Fence.wide (8 - 1) Try.prog 50 #[.pointer (some ⟨Bp, 0, none⟩), .pointer (some ⟨Bn, 0, none⟩)] (fun x : AtNo p node => #[Value.int .i64 (x.1 : Int)]) (Below w.heap.size) (fun ys => ys.map (·.1) = onU p node p.length) (fun _ => True) p.length W0 from fun l J Jx W hW _ _ hY h0 => by
      have hb : Below w.heap.size w W := B0.out.trans (hW.mono B0.out.size)
      refine on1_inB (8 - 1) (by omega) l Bp Bn w.heap.size cp P p node hfew J Jx hY W (Blk.cell (below_blkH hb HBp.out.lt HBp.out) 0) (below_blkH hb HBn.out.lt HBn.out) HBn.out.lt ?_ h0
      intro k x hx
      obtain ⟨b, o, hA, hl, hc⟩ := atI HP.out.cells hx
      exact ⟨b, o, hA, hl, (hb.cell (p := ⟨b, o + k, none⟩) hl).trans hc⟩)
    (fun h k => h.trans k) (belowK_b (w := W0) B0.out.size) (Below.refl _ _) (fun _ => rfl)
    (fun pre W => (∃ v, Blk W w.heap.size #[v] 29 ∧ W.ownsRow w.heap.size 3 1 v pre.length (intsC (pre.map (fun y => ((y.1 : Nat) : Int))))) ∧ Below w.heap.size w W)
    (fun _ _ _ => False)
    (OwnFrom.and (fun s X Y row hs hg hr => by
      obtain ⟨v, h1, h2⟩ := hs
      exact ⟨v, blk_nc h1 hg (fun r e => (hr r e).2), own_ncH h2 hg (fun r e => (hr r e).2)⟩) (ownFrom_below (Nat.le_refl _) B0.out.size))
    (fun _ _ _ _ _ hs _ _ => hs)
    ⟨⟨_, N0.out, World.ownsRow_nil _ _ _ _⟩, B0.out⟩
    (fun x => { tmps := #[Value.slice none 0 0, Value.func (Fn.func 50) #[] #[Value.pointer (some { block := Bp, off := 0 }), Value.pointer (some { block := Bn, off := 0 })],
          Value.pointer (some { block := w.heap.size, off := 0 }), undef, Value.slice none 0 0, .int .i64 (x.1 : Int),
          Value.func (Fn.func 50) #[] #[Value.pointer (some { block := Bp, off := 0 }), Value.pointer (some { block := Bn, off := 0 })], .int .i64 (x.1 : Int), undef, undef, undef, undef, undef], defers := [] }) ?assign ?body ?done ?stop
  case assign =>
    intro l x W K hK
    gi_wp2
    exact hK
  case body =>
    rintro l pre ⟨m, hm⟩ W ⟨⟨v, hV, hO⟩, hB⟩ hlen
    obtain ⟨xs, hxs⟩ : ∃ xs, intsC (pre.map (fun y => ((y.1 : Nat) : Int))) = xs := ⟨_, rfl⟩
    rw [hxs] at hO
    have HXS := Lib.hid hxs
    obtain ⟨pl, hpl⟩ : ∃ pl, pre.length = pl := ⟨_, rfl⟩
    rw [hpl] at hO hlen
    have HPL := Lib.hid hpl
    have HV := Lib.hid hV
    have HO := Lib.hid hO
    have HB := Lib.hid hB
    have v0 : W.cell? ⟨w.heap.size, 0, none⟩ = some v := Blk.cell hV 0
    have hk1 : pl + 1 ≤ maxLen := by unfold maxLen; omega
    have hk2 : (pl + 1) * 8 ≤ 140737488355328 := by omega
    have hsw : w.heap.size ≤ (W.alloc (.cells #[.int .i64 (m : Int)] 3)).heap.size := by have := hB.size; simp; omega
    clear hV hO hB hxs hpl
    gi_wp2_with (first
      | (gi_at_builtin; refine wpListIn_append_own _ rfl _ _ 29 rfl w.heap.size 3 i0 (.int .i64 0) 1 8 Try.underlying29 hi0 hz0 hz1 hz2 rfl (by decide) _ _ _ rfl (HO.out.alloc _) ⟨W.heap.size, 0, none⟩ 1 1 [.int .i64 (m : Int)] rfl rfl ?c1 ?c2 hk1 hk2 hsw ?_))
    case c1 => exact cell_one_new _ _ _
    case c2 => intro u hu; simp at hu; subst hu; rfl
    intro v' w3 hown' hg3 _
    have ha0 := HO.out.alloc (.cells #[.int .i64 (m : Int)] 3)
    have NV := Lib.hid (otherH ha0 hg3 (Blk.alloc HV.out (.cells #[.int .i64 (m : Int)] 3)) (by decide))
    have NB : Hid (Below w.heap.size w w3) := Lib.hid ((HB.out.alloc HB.out.size (.cells #[.int .i64 (m : Int)] 3)).grown hg3 hsw (fun k e => (ha0.lt k e).1))
    have NK : Hid (KeepsOthers W w3) := Lib.hid ((KeepsOthers.alloc W (.cells #[.int .i64 (m : Int)] 3)).trans (KeepsOthers.of_grownBy hg3 (fun j o e ho => own_cellsH ha0 j o e ho)))
    have NL : Hid (Below w.heap.size W w3) := Lib.hid (((Below.refl _ _).alloc HB.out.size (.cells #[.int .i64 (m : Int)] 3)).grown hg3 hsw (fun k e => (ha0.lt k e).1))
    obtain ⟨G', cg, rfl, _⟩ := La.own_slice hown'
    have NO := Lib.hid hown'
    have n0 : w3.cell? ⟨w.heap.size, 0, none⟩ = some v := Blk.cell NV.out 0
    have n1 : w3.frozen? ⟨w.heap.size, 0, none⟩ = false := Blk.free NV.out 0
    clear hown' hg3 ha0 v0 hk1 hk2 hsw
    gi_wp2
    refine ⟨(NK.out.trans (KeepsOthers.setCell _ _ _)).from _, NL.out.setCell (p := ⟨w.heap.size, 0, none⟩) (Nat.le_refl _) _, ⟨.slice G' (pl + 1) cg, NV.out.set 0 _, ?_⟩, NB.out.setCell (p := ⟨w.heap.size, 0, none⟩) (Nat.le_refl _) _⟩
    have h9 := own_setH NO.out NV.out (by decide) 0 (.slice G' (pl + 1) cg)
    have e9 : intsC ((pre ++ [(⟨m, hm⟩ : AtNo p node)]).map (fun y => ((y.1 : Nat) : Int))) = xs ++ [.int .i64 (m : Int)] := by
      rw [← HXS.out]
      unfold intsC
      rw [List.map_append, List.map_append]
      rfl
    rw [e9, List.length_append, HPL.out]
    exact h9
  case done =>
    rintro D ys W hD hys ⟨⟨v, hV, hO⟩, hB⟩ hK
    obtain ⟨G', cg, rfl, _⟩ := La.own_slice hO
    have HO := Lib.hid hO
    have HB := Lib.hid hB
    have HK := Lib.hid hK
    have HD := Lib.hid hD
    have HY := Lib.hid hys
    have v0 : W.cell? ⟨w.heap.size, 0, none⟩ = some (.slice G' ys.length cg) := Blk.cell hV 0
    have hyl : ys.length = (onU p node p.length).length := by rw [← hys, List.length_map]
    have HYL := Lib.hid hyl
    clear hV hO hB hK hD hys hyl
    gi_wp2
    refine ⟨by simp, .inl ⟨_, _, rfl, run_takeDeferred HK.out, ?_⟩⟩
    refine ⟨_, results_tmp rfl _ _ _, _, rfl, ?_, HB.out.trans (belowK_b (w := w) (Nat.le_refl _) W D _ _ (by have := HD.out; have := hlt.out; omega) HK.out rfl rfl)⟩
    rw [← HYL.out, ← HY.out, List.map_map]
    exact ownsRow_putObj HO.out _ HK.out rfl
  case stop =>
    rintro D c pre W _ _ h _
    exact h.elim

set_option maxRecDepth 100000 in
set_option maxHeartbeats 1000000 in
theorem hPods_in (A B C P : Option Addr) (ca cb cc cp : Nat) (ns : List NodeD) (ps : List PodD) (os : List OwnD) (p : List Int) (node : Int) (w : World) (h : SnapIn w A B C ca cb cc ns ps os) (hp : IntsAt w P cp p) :
    Calls Try.prog 13 #[snapV A B C ca cb cc ns ps os, .slice P p.length cp, .int .i64 node] w fun e w' => ∃ v, e = .returned v ∧ w'.ownsRow w.heap.size 3 1 v (podsF ns ps os p node).length (intsC (podsF ns ps os p node)) ∧ Below w.heap.size w w' := by
  have B0 : Hid (Below w.heap.size w (w.alloc (.cells (snapC A B C ca cb cc ns ps os) 26))) := Lib.hid (below1 w _)
  have KN := Lib.hid (hnode_in A B C P ca cb cc cp ns ps os p node _ (h.low B0.out) (hp.below B0.out))
  have HL : Hid (nodeK ns ps os p node = true → p.length ≤ 1000) := Lib.hid (fun hk => by
    have h1 := (nodeK_yes hk).1
    have h2 := (placeE_few h1).2.1
    have h3 := placeE_len h1
    omega)
  have HP := Lib.hid hp
  have E : Hid (podsF ns ps os p node = if nodeK ns ps os p node then (onU p node p.length).map (fun k : Nat => (k : Int)) else []) := Lib.hid rfl
  have hll : Hid (((onU p node p.length).map (fun k : Nat => (k : Int))).length = (onU p node p.length).length) := Lib.hid (List.length_map _)
  generalize podsF ns ps os p node = R at E ⊢
  generalize nodeK ns ps os p node = b at KN E HL
  clear h hp
  go_enter Try.func13, Try.ntmps13
  go_wp2_with fail
  refine (KN.out).mono ?_
  rintro e w1 ⟨rfl, hb⟩
  have B1 := Lib.hid (B0.out.trans (hb.mono B0.out.size))
  clear hb KN B0
  cases b with
  | false =>
    have HE : Hid (R = []) := Lib.hid (by rw [E.out]; rfl)
    clear E HL
    go_wp2
    go_ret
    rw [HE.out]
    exact ⟨_, rfl, World.ownsRow_nil _ _ _ _, B1.out⟩
  | true =>
    have HE : Hid (R = (onU p node p.length).map (fun k : Nat => (k : Int))) := Lib.hid (by rw [E.out]; rfl)
    have hfew := Lib.hid (HL.out rfl)
    clear E HL
    have KO := Lib.hid ((callsIn_wide (n := 8)).1 (on_anyH 8 P p.length cp node w1))
    go_wp2_with fail
    refine (KO.out).mono ?_
    rintro e w2 ⟨rfl, rfl⟩
    have B2 : Hid (Below w.heap.size w ((w1.alloc (.cells #[.slice P p.length cp] 29)).alloc (.cells #[.int .i64 node] 3))) := Lib.hid (B1.out.trans ((Qu.below2 w1 _ _).mono B1.out.size))
    have KA := Lib.hid (appSeq_any w1.heap.size (w1.heap.size + 1) P cp p node _ (Blk.alloc (Blk.new w1 #[.slice P p.length cp] 29) (.cells #[.int .i64 node] 3)) (blk2 w1 (.cells #[.slice P p.length cp] 29) #[.int .i64 node] 3) (HP.out.below B2.out) hfew.out)
    have KQ : Hid (Calls Try.prog 32 #[.func (.func 50) #[] #[.pointer (some ⟨w1.heap.size, 0, none⟩), .pointer (some ⟨w1.heap.size + 1, 0, none⟩)]] ((w1.alloc (.cells #[.slice P p.length cp] 29)).alloc (.cells #[.int .i64 node] 3)) fun e w' => ∃ v, e = .returned v ∧ w'.ownsRow ((w1.alloc (.cells #[.slice P p.length cp] 29)).alloc (.cells #[.int .i64 node] 3)).heap.size 3 1 v (onU p node p.length).length (intsC ((onU p node p.length).map (fun k : Nat => (k : Int)))) ∧ Below ((w1.alloc (.cells #[.slice P p.length cp] 29)).alloc (.cells #[.int .i64 node] 3)).heap.size ((w1.alloc (.cells #[.slice P p.length cp] 29)).alloc (.cells #[.int .i64 node] 3)) w') := Lib.hid (by
      generalize ((w1.alloc (.cells #[.slice P p.length cp] 29)).alloc (.cells #[.int .i64 node] 3)) = W at KA ⊢
      generalize w1.heap.size = N at KA ⊢
      clear HE hll HP hfew KO B2
      go_enter Try.func32, Try.ntmps32
      go_wp2_with fail
      refine (KA.out).mono ?_
      rintro e w3 ⟨v, rfl, ho, hb⟩
      obtain ⟨V, cv, rfl, _⟩ := La.own_slice ho
      have HO := Lib.hid ho
      have D := Lib.hid hb
      clear ho hb
      go_wp2
      go_ret
      exact ⟨_, rfl, HO.out, D.out⟩)
    clear KA KO
    generalize ((w1.alloc (.cells #[.slice P p.length cp] 29)).alloc (.cells #[.int .i64 node] 3)) = W at KQ B2 ⊢
    go_wp2_with fail
    refine (KQ.out).mono ?_
    rintro e w3 ⟨v, rfl, ho, hb⟩
    obtain ⟨V, cv, rfl, _⟩ := La.own_slice ho
    have HO := Lib.hid (own_moreH ho B2.out.size)
    have D := Lib.hid (B2.out.trans (hb.mono B2.out.size))
    clear ho hb
    go_wp2
    go_ret
    rw [HE.out, hll.out]
    exact ⟨_, rfl, HO.out, D.out⟩
end Go.Proofs.Ytmdmjnffnjlgmaa

namespace Go.Proofs.Ytmdmjnffnjlgmaa
open Go.RowKit

abbrev polA (a b c d : Int) : Pol := { l0 := a, l1 := b, h0 := c, h1 := d, on := 0, drain := [], mx := 0, tr := 0, rb := false }
theorem below_tA {w W X : World} (h : Below w.heap.size w W) (hb : Below W.heap.size W X) : Below w.heap.size w X := h.trans (hb.mono h.size)
theorem blk_cA {W X : World} {g : Nat} {cs : Array Value} {t : TypeId} (h : Blk W g cs t) (hb : Below W.heap.size W X) : Blk X g cs t := h.below hb h.lt
theorem own_cA {W X : World} {base : Nat} {e : TypeId} {sz n : Nat} {v : Value} {xs : List Value} (h : W.ownsRow base e sz v n xs) (hb : Below W.heap.size W X) : X.ownsRow base e sz v n xs := La.own_below h hb
theorem own_aA {W : World} {base : Nat} {e : TypeId} {sz n : Nat} {v : Value} {xs : List Value} (h : W.ownsRow base e sz v n xs) (o : Obj) : (W.alloc o).ownsRow base e sz v n xs := h.alloc o
theorem blk_aA {W : World} {g : Nat} {cs : Array Value} {t : TypeId} (h : Blk W g cs t) (o : Obj) : Blk (W.alloc o) g cs t := h.alloc o
theorem blk_nA (W : World) (cs : Array Value) (t : TypeId) : Blk (W.alloc (.cells cs t)) W.heap.size cs t := Blk.new W cs t
theorem blk_dA {W : World} {g : Nat} {cs : Array Value} {t : TypeId} (h : Blk W g cs t) : Blk W.drew g cs t := h
theorem own_dA {W : World} {base : Nat} {e : TypeId} {sz n : Nat} {v : Value} {xs : List Value} (h : W.ownsRow base e sz v n xs) : W.drew.ownsRow base e sz v n xs := La.own_below h (belowN (Below.refl _ W) 1)
theorem blk_9A {W : World} {b : Nat} {L0 L1 H0 H1 : Int} {t : TypeId} (h : Blk W b #[.int .i64 0, .int .i64 0, .int .i64 0, .int .i64 0, .int .i64 0, .slice none 0 0, .int .i64 0, .int .i64 0, .bool false] t) : Blk (set9H W b (.int .i64 L0) (.int .i64 L1) (.int .i64 H0) (.int .i64 H1) (.int .i64 0) (.slice none 0 0) (.int .i64 0) (.int .i64 0) (.bool false)) b #[.int .i64 L0, .int .i64 L1, .int .i64 H0, .int .i64 H1, .int .i64 0, .slice none 0 0, .int .i64 0, .int .i64 0, .bool false] t := blk9H h _ _ _ _ _ _ _ _ _
theorem own_9A {W : World} {b : Nat} {L0 L1 H0 H1 : Int} {base : Nat} {sz n : Nat} {v : Value} {xs : List Value} (h : W.ownsRow base 3 sz v n xs) (hB : Blk W b #[.int .i64 0, .int .i64 0, .int .i64 0, .int .i64 0, .int .i64 0, .slice none 0 0, .int .i64 0, .int .i64 0, .bool false] 34) : (set9H W b (.int .i64 L0) (.int .i64 L1) (.int .i64 H0) (.int .i64 H1) (.int .i64 0) (.slice none 0 0) (.int .i64 0) (.int .i64 0) (.bool false)).ownsRow base 3 sz v n xs := by
  have h0 := own_setH h hB (by decide) 0 (.int .i64 L0)
  have b0 := Blk.set hB 0 (.int .i64 L0)
  have h1 := own_setH h0 b0 (by decide) 1 (.int .i64 L1)
  have b1 := Blk.set b0 1 (.int .i64 L1)
  have h2 := own_setH h1 b1 (by decide) 2 (.int .i64 H0)
  have b2 := Blk.set b1 2 (.int .i64 H0)
  have h3 := own_setH h2 b2 (by decide) 3 (.int .i64 H1)
  have b3 := Blk.set b2 3 (.int .i64 H1)
  have h4 := own_setH h3 b3 (by decide) 4 (.int .i64 0)
  have b4 := Blk.set b3 4 (.int .i64 0)
  have h5 := own_setH h4 b4 (by decide) 5 (.slice none 0 0)
  have b5 := Blk.set b4 5 (.slice none 0 0)
  have h6 := own_setH h5 b5 (by decide) 6 (.int .i64 0)
  have b6 := Blk.set b5 6 (.int .i64 0)
  have h7 := own_setH h6 b6 (by decide) 7 (.int .i64 0)
  have b7 := Blk.set b6 7 (.int .i64 0)
  exact own_setH h7 b7 (by decide) 8 (.bool false)

theorem blk_2A {W : World} {g : Nat} {x y : Int} {t : TypeId} (h : Blk W g #[.int .i64 0, .int .i64 0] t) : Blk ((W.setCell ⟨g, 0, none⟩ (.int .i64 x)).setCell ⟨g, 1, none⟩ (.int .i64 y)) g #[.int .i64 x, .int .i64 y] t := (h.set 0 _).set 1 _
theorem own_2A {W : World} {g : Nat} {x y : Int} {base : Nat} {sz n : Nat} {v : Value} {xs : List Value} (h : W.ownsRow base 3 sz v n xs) (hB : Blk W g #[.int .i64 0, .int .i64 0] 31) : ((W.setCell ⟨g, 0, none⟩ (.int .i64 x)).setCell ⟨g, 1, none⟩ (.int .i64 y)).ownsRow base 3 sz v n xs :=
  own_setH (own_setH h hB (by decide) 0 _) (Blk.set hB 0 _) (by decide) 1 _

set_option maxRecDepth 100000 in
set_option maxHeartbeats 8000000 in
theorem r19_any {s0 s1 s2 s3 s4 s5 s10 s14 s16 s17 s18 s19 s20 s21 s22 s23 s24 s25 s26 s27 s28 s29 s30 s31 s32 s33 s34 s35 s36 s37 s38 s39 s40 s41 s42 s43 s44 s45 s46 s47 s48 s49 s50 s51 s52 s53 s54 s55 s56 s57 s58 s59 s60 s61 s62 s63 s64 s65 s66 s67 s68 s69 s70 s71 s72 s73 s74 s75 s76 s77 s78 s79 s80 s81 s82 s83 s84 s85 s86 s87 s88 s89 s90 s91 s92 s93 s94 s95 s96 s97 s98 s99 s100 s101 s102 s103 s104 s105 s106 s107 s108 s109 s110 s111 s112 s113 s114 s115 s116 s117 s118 s119 s120 s121 s122 s123 s124 s125 s126 s127 s128 s129 s130 s131 s132 s133 s134 s135 s136 s137 s138 s139 s140 s141 s142 s143 s144 s145 s146 s147 s148 s149 s150 s151 s152 s153 s154 s155 s156 s157 s158 s159 s160 s161 s162 s163 s164 s165 s166 s167 s168 s169 s170 s171 s172 s173 s174 s175 s176 s177 s178 s179 s180 s181 s182 s183 s184 s185 s186 s187 s188 s189 s190 s191 s192 s193 s194 s195 s196 s197 s198 s199 s200 s201 s202 s203 s204 s205 s206 : Value} {XL XH XI XP : Option Addr} {LL LH LI UL cL cH cI cP g gx : Nat} {mi x0 x1 L0 L1 H0 H1 : Int} {lv bl bh bi has : Bool} {wk : World} {Q : Exit → Act → World → Prop}
    (KL : Hid (Calls Try.prog 14 #[.slice XL LL cL, .int .i64 mi] wk fun e w' => e = .returned (.bool bl) ∧ w' = wk))
    (KH : Hid (Calls Try.prog 14 #[.slice XH LH cH, .int .i64 mi] wk fun e w' => e = .returned (.bool bh) ∧ w' = wk))
    (KI : Hid (Calls Try.prog 14 #[.slice XI LI cI, .int .i64 mi] wk fun e w' => e = .returned (.bool bi) ∧ w' = wk))
    (R1 : Hid (bl = (lv && (has && decide (x0 < L0) && decide (x1 < L1))))) (R2 : Hid (bh = (lv && (decide (H0 ≠ 0 ∧ H0 < x0) || decide (H1 ≠ 0 ∧ H1 < x1))))) (R3 : Hid (bi = (lv && !has))) (HU : Hid (decide (UL = 0) = !has))
    (HG : Hid (0 ≤ H0 ∧ 0 ≤ H1 ∧ L0 ≤ H0 ∧ L1 ≤ H1)) (g0 : wk.cell? ⟨gx, 0, none⟩ = some (.int .i64 x0)) (g1 : wk.cell? ⟨gx, 1, none⟩ = some (.int .i64 x1)) (e0 : wk.cell? ⟨g, 0, none⟩ = some (.int .i64 L0)) (e1 : wk.cell? ⟨g, 1, none⟩ = some (.int .i64 L1)) (hU : UL ≤ 24)
    (hQ : ∀ t114 t115 t116 t117 t118 t119 t120 t121 t122 t123 t124 t125 t126 t127 t128 t129 t130 t131 t132 t133 t134 t135 t136 t137 t138 t139 t140 t141 t142 t143 t144 t145 t146 t147 t148 t149 t150 t151 t152 t153 t154 t155 t156 t157 t158 t159 t160 : Value, Q .normal { tmps := #[s0, s1, s2, s3, s4, s5, .pointer (some ⟨g, 0, none⟩), .slice XL LL cL, .slice XH LH cH, .slice XI LI cI, s10, .int .i64 mi, .pointer (some ⟨gx, 0, none⟩), .slice XP UL cP, s14, .bool lv, s16, s17, s18, s19, s20, s21, s22, s23, s24, s25, s26, s27, s28, s29, s30, s31, s32, s33, s34, s35, s36, s37, s38, s39, s40, s41, s42, s43, s44, s45, s46, s47, s48, s49, s50, s51, s52, s53, s54, s55, s56, s57, s58, s59, s60, s61, s62, s63, s64, s65, s66, s67, s68, s69, s70, s71, s72, s73, s74, s75, s76, s77, s78, s79, s80, s81, s82, s83, s84, s85, s86, s87, s88, s89, s90, s91, s92, s93, s94, s95, s96, s97, s98, s99, s100, s101, s102, s103, s104, s105, s106, s107, s108, s109, s110, s111, s112, s113, t114, t115, t116, t117, t118, t119, t120, t121, t122, t123, t124, t125, t126, t127, t128, t129, t130, t131, t132, t133, t134, t135, t136, t137, t138, t139, t140, t141, t142, t143, t144, t145, t146, t147, t148, t149, t150, t151, t152, t153, t154, t155, t156, t157, t158, t159, t160, .bool false, s162, s163, s164, s165, s166, s167, s168, s169, s170, s171, s172, s173, s174, s175, s176, s177, s178, s179, s180, s181, s182, s183, s184, s185, s186, s187, s188, s189, s190, s191, s192, s193, s194, s195, s196, s197, s198, s199, s200, s201, s202, s203, s204, s205, s206], defers := [] } wk) :
    Code.wp Try.prog (Code.region 19 #[{ dst := some 114, op := Op.move (Operand.tmp 7), type := 29, pos := "outright.go:63", after := #[], guard := none }, { dst := some 115, op := Op.move (Operand.tmp 11), type := 3, pos := "outright.go:63", after := #[], guard := none }, { dst := some 116, op := Op.call { callee := Callee.value (Operand.func 14), args := #[Operand.tmp 114, Operand.tmp 115], argTypes := #[29, 3] }, type := 4, pos := "outright.go:63", after := #[{ on := 0, ground := Ground.data }, { on := 1, ground := Ground.data }], guard := none }, { dst := some 117, op := Op.move (Operand.tmp 116), type := 4, pos := "outright.go:63", after := #[{ on := 2, ground := Ground.data }, { on := 2, ground := Ground.chain }], guard := none }, { dst := some 118, op := Op.move (Operand.tmp 8), type := 29, pos := "outright.go:63", after := #[{ on := 3, ground := Ground.guard }], guard := some (3, true) }, { dst := some 119, op := Op.move (Operand.tmp 11), type := 3, pos := "outright.go:63", after := #[{ on := 3, ground := Ground.guard }], guard := some (3, true) }, { dst := some 120, op := Op.call { callee := Callee.value (Operand.func 14), args := #[Operand.tmp 118, Operand.tmp 119], argTypes := #[29, 3] }, type := 4, pos := "outright.go:63", after := #[{ on := 4, ground := Ground.data }, { on := 5, ground := Ground.data }, { on := 3, ground := Ground.chain }, { on := 3, ground := Ground.guard }], guard := some (3, true) }, { dst := some 121, op := Op.pick (Operand.tmp 117) (Operand.tmp 120) (Operand.const (Value.bool false)), type := 4, pos := "outright.go:63", after := #[{ on := 3, ground := Ground.data }, { on := 6, ground := Ground.data }], guard := none }, { dst := some 122, op := Op.move (Operand.tmp 121), type := 4, pos := "outright.go:63", after := #[{ on := 7, ground := Ground.data }, { on := 6, ground := Ground.chain }], guard := none }, { dst := some 123, op := Op.move (Operand.tmp 9), type := 29, pos := "outright.go:63", after := #[{ on := 8, ground := Ground.guard }], guard := some (8, false) }, { dst := some 124, op := Op.move (Operand.tmp 11), type := 3, pos := "outright.go:63", after := #[{ on := 8, ground := Ground.guard }], guard := some (8, false) }, { dst := some 125, op := Op.call { callee := Callee.value (Operand.func 14), args := #[Operand.tmp 123, Operand.tmp 124], argTypes := #[29, 3] }, type := 4, pos := "outright.go:63", after := #[{ on := 9, ground := Ground.data }, { on := 10, ground := Ground.data }, { on := 8, ground := Ground.chain }, { on := 8, ground := Ground.guard }], guard := some (8, false) }, { dst := some 126, op := Op.move (Operand.tmp 15), type := 4, pos := "outright.go:63", after := #[{ on := 8, ground := Ground.guard }], guard := some (8, false) }, { dst := some 127, op := Op.move (Operand.tmp 126), type := 4, pos := "outright.go:63", after := #[{ on := 12, ground := Ground.data }, { on := 11, ground := Ground.chain }, { on := 8, ground := Ground.guard }], guard := some (8, false) }, { dst := some 128, op := Op.move (Operand.tmp 13), type := 29, pos := "outright.go:63", after := #[{ on := 13, ground := Ground.guard }], guard := some (13, true) }, { dst := some 129, op := Op.call { callee := Callee.builtin Builtin.len, args := #[Operand.tmp 128], argTypes := #[29] }, type := 3, pos := "outright.go:63", after := #[{ on := 14, ground := Ground.data }, { on := 13, ground := Ground.guard }], guard := some (13, true) }, { dst := some 130, op := Op.binOp BinOp.eql 3 (Operand.tmp 129) (Operand.const (Value.int IntKind.i64 0)) 3, type := 4, pos := "outright.go:63", after := #[{ on := 15, ground := Ground.data }, { on := 13, ground := Ground.guard }], guard := some (13, true) }, { dst := some 131, op := Op.pick (Operand.tmp 127) (Operand.tmp 130) (Operand.const (Value.bool false)), type := 4, pos := "outright.go:63", after := #[{ on := 13, ground := Ground.data }, { on := 16, ground := Ground.data }, { on := 8, ground := Ground.guard }], guard := some (8, false) }, { dst := some 132, op := Op.binOp BinOp.neq 4 (Operand.tmp 125) (Operand.tmp 131) 4, type := 4, pos := "outright.go:63", after := #[{ on := 11, ground := Ground.data }, { on := 17, ground := Ground.data }, { on := 8, ground := Ground.guard }], guard := some (8, false) }, { dst := some 133, op := Op.pick (Operand.tmp 122) (Operand.const (Value.bool true)) (Operand.tmp 132), type := 4, pos := "outright.go:63", after := #[{ on := 8, ground := Ground.data }, { on := 18, ground := Ground.data }], guard := none }, { dst := some 134, op := Op.move (Operand.tmp 133), type := 4, pos := "outright.go:63", after := #[{ on := 19, ground := Ground.data }, { on := 13, ground := Ground.chain }], guard := none }, { dst := some 135, op := Op.move (Operand.tmp 7), type := 29, pos := "outright.go:63", after := #[{ on := 20, ground := Ground.guard }], guard := some (20, false) }, { dst := some 136, op := Op.move (Operand.tmp 11), type := 3, pos := "outright.go:63", after := #[{ on := 20, ground := Ground.guard }], guard := some (20, false) }, { dst := some 137, op := Op.call { callee := Callee.value (Operand.func 14), args := #[Operand.tmp 135, Operand.tmp 136], argTypes := #[29, 3] }, type := 4, pos := "outright.go:63", after := #[{ on := 21, ground := Ground.data }, { on := 22, ground := Ground.data }, { on := 20, ground := Ground.chain }, { on := 20, ground := Ground.guard }], guard := some (20, false) }, { dst := some 138, op := Op.move (Operand.tmp 15), type := 4, pos := "outright.go:63", after := #[{ on := 20, ground := Ground.guard }], guard := some (20, false) }, { dst := some 139, op := Op.move (Operand.tmp 138), type := 4, pos := "outright.go:63", after := #[{ on := 24, ground := Ground.data }, { on := 23, ground := Ground.chain }, { on := 20, ground := Ground.guard }], guard := some (20, false) }, { dst := some 140, op := Op.move (Operand.tmp 13), type := 29, pos := "outright.go:63", after := #[{ on := 25, ground := Ground.guard }], guard := some (25, true) }, { dst := some 141, op := Op.call { callee := Callee.builtin Builtin.len, args := #[Operand.tmp 140], argTypes := #[29] }, type := 3, pos := "outright.go:63", after := #[{ on := 26, ground := Ground.data }, { on := 25, ground := Ground.guard }], guard := some (25, true) }, { dst := some 142, op := Op.binOp BinOp.gtr 3 (Operand.tmp 141) (Operand.const (Value.int IntKind.i64 0)) 3, type := 4, pos := "outright.go:63", after := #[{ on := 27, ground := Ground.data }, { on := 25, ground := Ground.guard }], guard := some (25, true) }, { dst := some 143, op := Op.pick (Operand.tmp 139) (Operand.tmp 142) (Operand.const (Value.bool false)), type := 4, pos := "outright.go:63", after := #[{ on := 25, ground := Ground.data }, { on := 28, ground := Ground.data }, { on := 20, ground := Ground.guard }], guard := some (20, false) }, { dst := some 144, op := Op.move (Operand.tmp 143), type := 4, pos := "outright.go:63", after := #[{ on := 29, ground := Ground.data }, { on := 25, ground := Ground.chain }, { on := 20, ground := Ground.guard }], guard := some (20, false) }, { dst := some 145, op := Op.indexAddr 31 (Operand.tmp 12) (Operand.const (Value.int IntKind.i64 0)), type := 0, pos := "outright.go:63", after := #[{ on := 30, ground := Ground.guard }], guard := some (30, true) }, { dst := some 146, op := Op.load 3 (Operand.tmp 145), type := 3, pos := "outright.go:63", after := #[{ on := 31, ground := Ground.data }, { on := 30, ground := Ground.guard }], guard := some (30, true) }, { dst := some 147, op := Op.fieldAddr 34 (Operand.tmp 6) 0, type := 0, pos := "outright.go:63", after := #[{ on := 30, ground := Ground.guard }], guard := some (30, true) }, { dst := some 148, op := Op.indexAddr 31 (Operand.tmp 147) (Operand.const (Value.int IntKind.i64 0)), type := 0, pos := "outright.go:63", after := #[{ on := 33, ground := Ground.data }, { on := 30, ground := Ground.guard }], guard := some (30, true) }, { dst := some 149, op := Op.load 3 (Operand.tmp 148), type := 3, pos := "outright.go:63", after := #[{ on := 34, ground := Ground.data }, { on := 30, ground := Ground.guard }], guard := some (30, true) }, { dst := some 150, op := Op.binOp BinOp.lss 3 (Operand.tmp 146) (Operand.tmp 149) 3, type := 4, pos := "outright.go:63", after := #[{ on := 32, ground := Ground.data }, { on := 35, ground := Ground.data }, { on := 30, ground := Ground.guard }], guard := some (30, true) }, { dst := some 151, op := Op.pick (Operand.tmp 144) (Operand.tmp 150) (Operand.const (Value.bool false)), type := 4, pos := "outright.go:63", after := #[{ on := 30, ground := Ground.data }, { on := 36, ground := Ground.data }, { on := 20, ground := Ground.guard }], guard := some (20, false) }, { dst := some 152, op := Op.move (Operand.tmp 151), type := 4, pos := "outright.go:63", after := #[{ on := 37, ground := Ground.data }, { on := 30, ground := Ground.chain }, { on := 20, ground := Ground.guard }], guard := some (20, false) }, { dst := some 153, op := Op.indexAddr 31 (Operand.tmp 12) (Operand.const (Value.int IntKind.i64 1)), type := 0, pos := "outright.go:63", after := #[{ on := 38, ground := Ground.guard }], guard := some (38, true) }, { dst := some 154, op := Op.load 3 (Operand.tmp 153), type := 3, pos := "outright.go:63", after := #[{ on := 39, ground := Ground.data }, { on := 38, ground := Ground.guard }], guard := some (38, true) }, { dst := some 155, op := Op.fieldAddr 34 (Operand.tmp 6) 0, type := 0, pos := "outright.go:63", after := #[{ on := 38, ground := Ground.guard }], guard := some (38, true) }, { dst := some 156, op := Op.indexAddr 31 (Operand.tmp 155) (Operand.const (Value.int IntKind.i64 1)), type := 0, pos := "outright.go:63", after := #[{ on := 41, ground := Ground.data }, { on := 38, ground := Ground.guard }], guard := some (38, true) }, { dst := some 157, op := Op.load 3 (Operand.tmp 156), type := 3, pos := "outright.go:63", after := #[{ on := 42, ground := Ground.data }, { on := 38, ground := Ground.guard }], guard := some (38, true) }, { dst := some 158, op := Op.binOp BinOp.lss 3 (Operand.tmp 154) (Operand.tmp 157) 3, type := 4, pos := "outright.go:63", after := #[{ on := 40, ground := Ground.data }, { on := 43, ground := Ground.data }, { on := 38, ground := Ground.guard }], guard := some (38, true) }, { dst := some 159, op := Op.pick (Operand.tmp 152) (Operand.tmp 158) (Operand.const (Value.bool false)), type := 4, pos := "outright.go:63", after := #[{ on := 38, ground := Ground.data }, { on := 44, ground := Ground.data }, { on := 20, ground := Ground.guard }], guard := some (20, false) }, { dst := some 160, op := Op.binOp BinOp.neq 4 (Operand.tmp 137) (Operand.tmp 159) 4, type := 4, pos := "outright.go:63", after := #[{ on := 23, ground := Ground.data }, { on := 45, ground := Ground.data }, { on := 20, ground := Ground.guard }], guard := some (20, false) }, { dst := some 161, op := Op.pick (Operand.tmp 134) (Operand.const (Value.bool true)) (Operand.tmp 160), type := 4, pos := "outright.go:63", after := #[{ on := 20, ground := Ground.data }, { on := 46, ground := Ground.data }], guard := none }] false) Q { tmps := #[s0, s1, s2, s3, s4, s5, .pointer (some ⟨g, 0, none⟩), .slice XL LL cL, .slice XH LH cH, .slice XI LI cI, s10, .int .i64 mi, .pointer (some ⟨gx, 0, none⟩), .slice XP UL cP, s14, .bool lv, s16, s17, s18, s19, s20, s21, s22, s23, s24, s25, s26, s27, s28, s29, s30, s31, s32, s33, s34, s35, s36, s37, s38, s39, s40, s41, s42, s43, s44, s45, s46, s47, s48, s49, s50, s51, s52, s53, s54, s55, s56, s57, s58, s59, s60, s61, s62, s63, s64, s65, s66, s67, s68, s69, s70, s71, s72, s73, s74, s75, s76, s77, s78, s79, s80, s81, s82, s83, s84, s85, s86, s87, s88, s89, s90, s91, s92, s93, s94, s95, s96, s97, s98, s99, s100, s101, s102, s103, s104, s105, s106, s107, s108, s109, s110, s111, s112, s113, s114, s115, s116, s117, s118, s119, s120, s121, s122, s123, s124, s125, s126, s127, s128, s129, s130, s131, s132, s133, s134, s135, s136, s137, s138, s139, s140, s141, s142, s143, s144, s145, s146, s147, s148, s149, s150, s151, s152, s153, s154, s155, s156, s157, s158, s159, s160, s161, s162, s163, s164, s165, s166, s167, s168, s169, s170, s171, s172, s173, s174, s175, s176, s177, s178, s179, s180, s181, s182, s183, s184, s185, s186, s187, s188, s189, s190, s191, s192, s193, s194, s195, s196, s197, s198, s199, s200, s201, s202, s203, s204, s205, s206], defers := [] } wk := by
  have HQ := Lib.hid hQ
  clear hQ
  have r1 := R1.out
  have r2 := R2.out
  have r3 := R3.out
  have uz := HU.out
  have hg := HG.out
  clear R1 R2 R3 HU HG
  cases lv with
  | false =>
    simp only [Bool.false_and] at r1 r2 r3
    subst r1 r2 r3
    clear uz
    go_wp2_with fail
    refine (KL.out).mono ?_
    rintro e w9 ⟨rfl, rfl⟩
    go_wp2_with fail
    refine (KI.out).mono ?_
    rintro e w9 ⟨rfl, rfl⟩
    go_wp2_with fail
    refine (KL.out).mono ?_
    rintro e w9 ⟨rfl, rfl⟩
    go_wp2_with fail
    exact HQ.out _ _ _ _ _ _ _ _ _ _ _ _ _ _ _ _ _ _ _ _ _ _ _ _ _ _ _ _ _ _ _ _ _ _ _ _ _ _ _ _ _ _ _ _ _ _ _
  | true =>
    simp only [Bool.true_and] at r1 r2 r3
    cases has with
    | false =>
      simp only [Bool.false_and, Bool.not_false] at r1 r3
      obtain rfl : UL = 0 := by simpa using uz
      clear uz r2 hU
      subst r1 r3
      go_wp2_with fail
      refine (KL.out).mono ?_
      rintro e w9 ⟨rfl, rfl⟩
      go_wp2_with fail
      refine (KI.out).mono ?_
      rintro e w9 ⟨rfl, rfl⟩
      go_wp2_with fail
      refine (KL.out).mono ?_
      rintro e w9 ⟨rfl, rfl⟩
      go_wp2_with fail
      exact HQ.out _ _ _ _ _ _ _ _ _ _ _ _ _ _ _ _ _ _ _ _ _ _ _ _ _ _ _ _ _ _ _ _ _ _ _ _ _ _ _ _ _ _ _ _ _ _ _
    | true =>
      simp only [Bool.true_and, Bool.not_true] at r1 r3
      have u0 : ¬ UL = 0 := by simpa using uz
      have u1 : ((UL : Int) == 0) = false := by simpa using u0
      have u2 : (UL == 0) = false := by simpa using u0
      have u3 : decide ((0 : Int) < (UL : Int)) = true := decide_eq_true (by omega)
      have u4 : decide (0 < UL) = true := decide_eq_true (by omega)
      have u5 : 0 < UL := by omega
      by_cases ha : x0 < L0
      · have ha2 : decide (x0 < L0) = true := decide_eq_true ha
        by_cases hb2 : x1 < L1
        · have hb3 : decide (x1 < L1) = true := decide_eq_true hb2
          rw [ha2, hb3] at r1
          have hh : bh = false := by
            rw [r2]
            simp only [Bool.or_eq_false_iff, decide_eq_false_iff_not]
            exact ⟨fun h => by omega, fun h => by omega⟩
          subst r3
          obtain rfl : bl = true := r1
          clear r2 uz hg
          subst hh
          go_wp2_with fail
          refine (KL.out).mono ?_
          rintro e w9 ⟨rfl, rfl⟩
          go_wp2_with fail
          refine (KH.out).mono ?_
          rintro e w9 ⟨rfl, rfl⟩
          go_wp2_with fail
          refine (KI.out).mono ?_
          rintro e w9 ⟨rfl, rfl⟩
          go_wp2_with fail
          refine (KL.out).mono ?_
          rintro e w9 ⟨rfl, rfl⟩
          go_wp2_with fail
          exact HQ.out _ _ _ _ _ _ _ _ _ _ _ _ _ _ _ _ _ _ _ _ _ _ _ _ _ _ _ _ _ _ _ _ _ _ _ _ _ _ _ _ _ _ _ _ _ _ _
        · have hb3 : decide (x1 < L1) = false := decide_eq_false hb2
          rw [ha2, hb3] at r1
          obtain rfl : bl = false := r1
          subst r3
          clear r2 uz hg
          go_wp2_with fail
          refine (KL.out).mono ?_
          rintro e w9 ⟨rfl, rfl⟩
          go_wp2_with fail
          refine (KI.out).mono ?_
          rintro e w9 ⟨rfl, rfl⟩
          go_wp2_with fail
          refine (KL.out).mono ?_
          rintro e w9 ⟨rfl, rfl⟩
          go_wp2_with fail
          exact HQ.out _ _ _ _ _ _ _ _ _ _ _ _ _ _ _ _ _ _ _ _ _ _ _ _ _ _ _ _ _ _ _ _ _ _ _ _ _ _ _ _ _ _ _ _ _ _ _
      · have ha2 : decide (x0 < L0) = false := decide_eq_false ha
        rw [ha2] at r1
        obtain rfl : bl = false := r1
        subst r3
        clear r2 uz hg
        go_wp2_with fail
        refine (KL.out).mono ?_
        rintro e w9 ⟨rfl, rfl⟩
        go_wp2_with fail
        refine (KI.out).mono ?_
        rintro e w9 ⟨rfl, rfl⟩
        go_wp2_with fail
        refine (KL.out).mono ?_
        rintro e w9 ⟨rfl, rfl⟩
        go_wp2_with fail
        exact HQ.out _ _ _ _ _ _ _ _ _ _ _ _ _ _ _ _ _ _ _ _ _ _ _ _ _ _ _ _ _ _ _ _ _ _ _ _ _ _ _ _ _ _ _ _ _ _ _

set_option maxRecDepth 100000 in
set_option maxHeartbeats 8000000 in
theorem r26_any {s0 s1 s2 s3 s4 s5 s6 s7 s9 s10 s12 s13 s14 s17 s18 s19 s20 s21 s22 s23 s24 s25 s26 s27 s28 s29 s30 s31 s32 s33 s34 s35 s36 s37 s38 s39 s40 s41 s42 s43 s44 s45 s46 s47 s48 s49 s50 s51 s52 s53 s54 s55 s56 s57 s58 s59 s60 s61 s62 s63 s64 s65 s66 s67 s68 s69 s70 s71 s72 s73 s74 s75 s76 s77 s78 s79 s80 s81 s82 s83 s84 s85 s86 s87 s88 s89 s90 s91 s92 s93 s94 s95 s96 s97 s98 s99 s100 s101 s102 s103 s104 s105 s106 s107 s108 s109 s110 s111 s112 s113 s114 s115 s116 s117 s118 s119 s120 s121 s122 s123 s124 s125 s126 s127 s128 s129 s130 s131 s132 s133 s134 s135 s136 s137 s138 s139 s140 s141 s142 s143 s144 s145 s146 s147 s148 s149 s150 s151 s152 s153 s154 s155 s156 s157 s158 s159 s160 s161 s162 s163 s164 s165 s166 s167 s168 s169 s170 s171 s172 s173 s174 s175 s176 s177 s178 s179 s180 s181 s182 s183 s184 s185 s186 s187 s188 s189 s190 s191 s192 s193 s194 s195 s196 s197 s198 s199 s200 s201 s202 s203 s204 s205 s206 : Value} {XH : Option Addr} {LH cH : Nat} {mi : Int} {lv hi bh : Bool} {wk : World} {Q : Exit → Act → World → Prop}
    (KH : Hid (Calls Try.prog 14 #[.slice XH LH cH, .int .i64 mi] wk fun e w' => e = .returned (.bool bh) ∧ w' = wk)) (R2 : Hid (bh = (lv && hi)))
    (hQ : ∀ t184 t185 t186 t187 t188 t189 t190 : Value, Q .normal { tmps := #[s0, s1, s2, s3, s4, s5, s6, s7, .slice XH LH cH, s9, s10, .int .i64 mi, s12, s13, s14, .bool lv, .bool hi, s17, s18, s19, s20, s21, s22, s23, s24, s25, s26, s27, s28, s29, s30, s31, s32, s33, s34, s35, s36, s37, s38, s39, s40, s41, s42, s43, s44, s45, s46, s47, s48, s49, s50, s51, s52, s53, s54, s55, s56, s57, s58, s59, s60, s61, s62, s63, s64, s65, s66, s67, s68, s69, s70, s71, s72, s73, s74, s75, s76, s77, s78, s79, s80, s81, s82, s83, s84, s85, s86, s87, s88, s89, s90, s91, s92, s93, s94, s95, s96, s97, s98, s99, s100, s101, s102, s103, s104, s105, s106, s107, s108, s109, s110, s111, s112, s113, s114, s115, s116, s117, s118, s119, s120, s121, s122, s123, s124, s125, s126, s127, s128, s129, s130, s131, s132, s133, s134, s135, s136, s137, s138, s139, s140, s141, s142, s143, s144, s145, s146, s147, s148, s149, s150, s151, s152, s153, s154, s155, s156, s157, s158, s159, s160, s161, s162, s163, s164, s165, s166, s167, s168, s169, s170, s171, s172, s173, s174, s175, s176, s177, s178, s179, s180, s181, s182, s183, t184, t185, t186, t187, t188, t189, t190, .bool false, s192, s193, s194, s195, s196, s197, s198, s199, s200, s201, s202, s203, s204, s205, s206], defers := [] } wk) :
    Code.wp Try.prog (Code.region 26 #[{ dst := some 184, op := Op.move (Operand.tmp 8), type := 29, pos := "outright.go:70", after := #[], guard := none }, { dst := some 185, op := Op.move (Operand.tmp 11), type := 3, pos := "outright.go:70", after := #[], guard := none }, { dst := some 186, op := Op.call { callee := Callee.value (Operand.func 14), args := #[Operand.tmp 184, Operand.tmp 185], argTypes := #[29, 3] }, type := 4, pos := "outright.go:70", after := #[{ on := 0, ground := Ground.data }, { on := 1, ground := Ground.data }], guard := none }, { dst := some 187, op := Op.move (Operand.tmp 15), type := 4, pos := "outright.go:70", after := #[], guard := none }, { dst := some 188, op := Op.move (Operand.tmp 187), type := 4, pos := "outright.go:70", after := #[{ on := 3, ground := Ground.data }, { on := 2, ground := Ground.chain }], guard := none }, { dst := some 189, op := Op.move (Operand.tmp 16), type := 4, pos := "outright.go:70", after := #[{ on := 4, ground := Ground.guard }], guard := some (4, true) }, { dst := some 190, op := Op.pick (Operand.tmp 188) (Operand.tmp 189) (Operand.const (Value.bool false)), type := 4, pos := "outright.go:70", after := #[{ on := 4, ground := Ground.data }, { on := 5, ground := Ground.data }], guard := none }, { dst := some 191, op := Op.binOp BinOp.neq 4 (Operand.tmp 186) (Operand.tmp 190) 4, type := 4, pos := "outright.go:70", after := #[{ on := 2, ground := Ground.data }, { on := 6, ground := Ground.data }], guard := none }] false) Q { tmps := #[s0, s1, s2, s3, s4, s5, s6, s7, .slice XH LH cH, s9, s10, .int .i64 mi, s12, s13, s14, .bool lv, .bool hi, s17, s18, s19, s20, s21, s22, s23, s24, s25, s26, s27, s28, s29, s30, s31, s32, s33, s34, s35, s36, s37, s38, s39, s40, s41, s42, s43, s44, s45, s46, s47, s48, s49, s50, s51, s52, s53, s54, s55, s56, s57, s58, s59, s60, s61, s62, s63, s64, s65, s66, s67, s68, s69, s70, s71, s72, s73, s74, s75, s76, s77, s78, s79, s80, s81, s82, s83, s84, s85, s86, s87, s88, s89, s90, s91, s92, s93, s94, s95, s96, s97, s98, s99, s100, s101, s102, s103, s104, s105, s106, s107, s108, s109, s110, s111, s112, s113, s114, s115, s116, s117, s118, s119, s120, s121, s122, s123, s124, s125, s126, s127, s128, s129, s130, s131, s132, s133, s134, s135, s136, s137, s138, s139, s140, s141, s142, s143, s144, s145, s146, s147, s148, s149, s150, s151, s152, s153, s154, s155, s156, s157, s158, s159, s160, s161, s162, s163, s164, s165, s166, s167, s168, s169, s170, s171, s172, s173, s174, s175, s176, s177, s178, s179, s180, s181, s182, s183, s184, s185, s186, s187, s188, s189, s190, s191, s192, s193, s194, s195, s196, s197, s198, s199, s200, s201, s202, s203, s204, s205, s206], defers := [] } wk := by
  have HQ := Lib.hid hQ
  clear hQ
  have r2 := R2.out
  clear R2
  cases lv with
  | false =>
    simp only [Bool.false_and] at r2
    subst r2
    go_wp2_with fail
    refine (KH.out).mono ?_
    rintro e w9 ⟨rfl, rfl⟩
    go_wp2_with fail
    exact HQ.out _ _ _ _ _ _ _
  | true =>
    simp only [Bool.true_and] at r2
    subst r2
    cases bh with
    | true =>
      go_wp2_with fail
      refine (KH.out).mono ?_
      rintro e w9 ⟨rfl, rfl⟩
      go_wp2_with fail
      exact HQ.out _ _ _ _ _ _ _
    | false =>
      go_wp2_with fail
      refine (KH.out).mono ?_
      rintro e w9 ⟨rfl, rfl⟩
      go_wp2_with fail
      exact HQ.out _ _ _ _ _ _ _
set_option maxRecDepth 100000 in
set_option maxHeartbeats 8000000 in
theorem r11_any {s0 s1 s3 s4 s6 s7 s8 s9 s10 s12 s13 s14 s15 s16 s17 s18 s19 s20 s21 s22 s23 s24 s25 s26 s27 s28 s29 s30 s31 s32 s33 s34 s35 s36 s37 s38 s39 s40 s41 s42 s43 s44 s45 s46 s47 s48 s49 s50 s51 s52 s53 s54 s55 s56 s57 s58 s59 s60 s61 s62 s63 s64 s65 s66 s67 s68 s69 s70 s71 s72 s73 s74 s75 s76 s77 s78 s79 s80 s81 s82 s83 s84 s85 s86 s87 s88 s89 s90 s91 s92 s93 s94 s95 s96 s97 s98 s99 s100 s101 s102 s103 s104 s105 s106 s107 s108 s109 s110 s111 s112 s113 s114 s115 s116 s117 s118 s119 s120 s121 s122 s123 s124 s125 s126 s127 s128 s129 s130 s131 s132 s133 s134 s135 s136 s137 s138 s139 s140 s141 s142 s143 s144 s145 s146 s147 s148 s149 s150 s151 s152 s153 s154 s155 s156 s157 s158 s159 s160 s161 s162 s163 s164 s165 s166 s167 s168 s169 s170 s171 s172 s173 s174 s175 s176 s177 s178 s179 s180 s181 s182 s183 s184 s185 s186 s187 s188 s189 s190 s191 s192 s193 s194 s195 s196 s197 s198 s199 s200 s201 s202 s203 s204 s205 s206 : Value} {A B C X : Option Addr} {nl PL ol ca cb cc cx Ns UL base : Nat} {Um : List Int} {mi x0 x1 : Int} {wr : World} {Q : Exit → Act → World → Prop}
    (KS1 : Hid (∀ W', Below wr.heap.size wr W' → Calls Try.prog 12 #[.agg #[.slice A nl ca, .slice B PL cb, .slice C ol cc], .slice X PL cx, .int .i64 mi] W' fun e w' => e = .returned (.agg #[.int .i64 x0, .int .i64 x1]) ∧ Below W'.heap.size W' w'))
    (KP1 : Hid (∀ W', Below wr.heap.size wr W' → Calls Try.prog 13 #[.agg #[.slice A nl ca, .slice B PL cb, .slice C ol cc], .slice X PL cx, .int .i64 mi] W' fun e w' => ∃ v, e = .returned v ∧ w'.ownsRow base 3 1 v UL (intsC Um) ∧ Below W'.heap.size W' w'))
    (HCs : Hid (∀ W', Below wr.heap.size wr W' → W'.cell? ⟨Ns, 0, none⟩ = some (.slice A nl ca) ∧ W'.cell? ⟨Ns, 1, none⟩ = some (.slice B PL cb) ∧ W'.cell? ⟨Ns, 2, none⟩ = some (.slice C ol cc)))
    (hQ : ∀ (gx : Nat) (XP : Option Addr) (cP : Nat) (wc : World) (t64 t65 t66 t67 t68 t69 t70 t71 : Value), Blk wc gx #[.int .i64 x0, .int .i64 x1] 31 → wc.ownsRow base 3 1 (.slice XP UL cP) UL (intsC Um) → Below wr.heap.size wr wc → Q .normal { tmps := #[s0, s1, .pointer (some ⟨Ns, 0, none⟩), s3, s4, .slice X PL cx, s6, s7, s8, s9, s10, .int .i64 mi, .pointer (some ⟨gx, 0, none⟩), .slice XP UL cP, s14, s15, s16, s17, s18, s19, s20, s21, s22, s23, s24, s25, s26, s27, s28, s29, s30, s31, s32, s33, s34, s35, s36, s37, s38, s39, s40, s41, s42, s43, s44, s45, s46, s47, s48, s49, s50, s51, s52, s53, s54, s55, s56, s57, s58, s59, s60, s61, s62, s63, t64, t65, t66, t67, t68, t69, t70, t71, s72, s73, s74, s75, s76, s77, s78, s79, s80, s81, s82, s83, s84, s85, s86, s87, s88, s89, s90, s91, s92, s93, s94, s95, s96, s97, s98, s99, s100, s101, s102, s103, s104, s105, s106, s107, s108, s109, s110, s111, s112, s113, s114, s115, s116, s117, s118, s119, s120, s121, s122, s123, s124, s125, s126, s127, s128, s129, s130, s131, s132, s133, s134, s135, s136, s137, s138, s139, s140, s141, s142, s143, s144, s145, s146, s147, s148, s149, s150, s151, s152, s153, s154, s155, s156, s157, s158, s159, s160, s161, s162, s163, s164, s165, s166, s167, s168, s169, s170, s171, s172, s173, s174, s175, s176, s177, s178, s179, s180, s181, s182, s183, s184, s185, s186, s187, s188, s189, s190, s191, s192, s193, s194, s195, s196, s197, s198, s199, s200, s201, s202, s203, s204, s205, s206], defers := [] } wc) :
    Code.wp Try.prog (Code.region 11 #[{ dst := some 64, op := Op.load 26 (Operand.tmp 2), type := 26, pos := "outright.go:55", after := #[], guard := none }, { dst := some 65, op := Op.move (Operand.tmp 5), type := 29, pos := "outright.go:55", after := #[], guard := none }, { dst := some 66, op := Op.move (Operand.tmp 11), type := 3, pos := "outright.go:55", after := #[], guard := none }, { dst := some 67, op := Op.call { callee := Callee.value (Operand.func 12), args := #[Operand.tmp 64, Operand.tmp 65, Operand.tmp 66], argTypes := #[26, 29, 3] }, type := 31, pos := "outright.go:55", after := #[{ on := 0, ground := Ground.data }, { on := 1, ground := Ground.data }, { on := 2, ground := Ground.data }], guard := none }, { dst := some 68, op := Op.load 26 (Operand.tmp 2), type := 26, pos := "outright.go:55", after := #[], guard := none }, { dst := some 69, op := Op.move (Operand.tmp 5), type := 29, pos := "outright.go:55", after := #[], guard := none }, { dst := some 70, op := Op.move (Operand.tmp 11), type := 3, pos := "outright.go:55", after := #[], guard := none }, { dst := some 71, op := Op.call { callee := Callee.value (Operand.func 13), args := #[Operand.tmp 68, Operand.tmp 69, Operand.tmp 70], argTypes := #[26, 29, 3] }, type := 29, pos := "outright.go:55", after := #[{ on := 4, ground := Ground.data }, { on := 5, ground := Ground.data }, { on := 6, ground := Ground.data }, { on := 3, ground := Ground.chain }], guard := none }, { dst := some 12, op := Op.alloc 31, type := 0, pos := "outright.go:55", after := #[], guard := none }, { dst := none, op := Op.store 31 (Operand.tmp 12) (Operand.tmp 67), type := 0, pos := "outright.go:55", after := #[{ on := 8, ground := Ground.data }, { on := 3, ground := Ground.data }, { on := 7, ground := Ground.chain }, { on := 0, ground := Ground.phase }, { on := 1, ground := Ground.phase }, { on := 2, ground := Ground.phase }, { on := 3, ground := Ground.phase }, { on := 4, ground := Ground.textOnly Departure.lateStores }, { on := 5, ground := Ground.textOnly Departure.lateStores }, { on := 6, ground := Ground.textOnly Departure.lateStores }, { on := 7, ground := Ground.textOnly Departure.lateStoresUnsure }, { on := 8, ground := Ground.phase }], guard := none }, { dst := some 13, op := Op.assign (Operand.tmp 71), type := 29, pos := "outright.go:55", after := #[{ on := 7, ground := Ground.data }, { on := 9, ground := Ground.chain }, { on := 0, ground := Ground.phase }, { on := 1, ground := Ground.phase }, { on := 2, ground := Ground.phase }, { on := 3, ground := Ground.phase }, { on := 4, ground := Ground.phase }, { on := 5, ground := Ground.phase }, { on := 6, ground := Ground.phase }, { on := 7, ground := Ground.phase }, { on := 8, ground := Ground.phase }, { on := 9, ground := Ground.phase }], guard := none }] true) Q { tmps := #[s0, s1, .pointer (some ⟨Ns, 0, none⟩), s3, s4, .slice X PL cx, s6, s7, s8, s9, s10, .int .i64 mi, s12, s13, s14, s15, s16, s17, s18, s19, s20, s21, s22, s23, s24, s25, s26, s27, s28, s29, s30, s31, s32, s33, s34, s35, s36, s37, s38, s39, s40, s41, s42, s43, s44, s45, s46, s47, s48, s49, s50, s51, s52, s53, s54, s55, s56, s57, s58, s59, s60, s61, s62, s63, s64, s65, s66, s67, s68, s69, s70, s71, s72, s73, s74, s75, s76, s77, s78, s79, s80, s81, s82, s83, s84, s85, s86, s87, s88, s89, s90, s91, s92, s93, s94, s95, s96, s97, s98, s99, s100, s101, s102, s103, s104, s105, s106, s107, s108, s109, s110, s111, s112, s113, s114, s115, s116, s117, s118, s119, s120, s121, s122, s123, s124, s125, s126, s127, s128, s129, s130, s131, s132, s133, s134, s135, s136, s137, s138, s139, s140, s141, s142, s143, s144, s145, s146, s147, s148, s149, s150, s151, s152, s153, s154, s155, s156, s157, s158, s159, s160, s161, s162, s163, s164, s165, s166, s167, s168, s169, s170, s171, s172, s173, s174, s175, s176, s177, s178, s179, s180, s181, s182, s183, s184, s185, s186, s187, s188, s189, s190, s191, s192, s193, s194, s195, s196, s197, s198, s199, s200, s201, s202, s203, s204, s205, s206], defers := [] } wr := by
  have HQQ := Lib.hid hQ
  clear hQ
  obtain ⟨z0, z1, z2⟩ := HCs.out wr (Below.refl _ _)
  have DZ : Hid (Blk (wr.alloc (.cells #[.int .i64 0, .int .i64 0] 31)) wr.heap.size #[.int .i64 0, .int .i64 0] 31) := Lib.hid (Blk.new wr _ _)
  go_region_held3 (fun w' => w'.cell? ⟨Ns, 0, none⟩ = some (.slice A nl ca) ∧ w'.cell? ⟨Ns, 1, none⟩ = some (.slice B PL cb) ∧ w'.cell? ⟨Ns, 2, none⟩ = some (.slice C ol cc))
    ((refine HCs.out _ ?_; go_grown))
    (first
      | (go_at_call 12
         with_reducible refine Calls.mono (KS1.out _ ?_) ?_
         · go_grown
         rintro e wS ⟨rfl, hbS⟩
         have HS : Hid (Below wr.heap.size wr wS) := Lib.hid (by
           refine below_tA ?_ hbS
           go_grown)
         have gS := HS.out
         have gSs := HS.out.size
         (try have PS : Hid (Blk wS wr.heap.size #[.int .i64 0, .int .i64 0] 31) := Lib.hid (by with_reducible exact blk_cA DZ.out hbS))
         (try have PS : Hid (Blk wS wr.heap.size #[.int .i64 0, .int .i64 0] 31) := Lib.hid (by with_reducible exact blk_cA (blk_dA DZ.out) hbS))
         (try have hs1 := PS.out.lt)
         (try have fs00c : wS.cell? ⟨wr.heap.size, 0, none⟩ = some (.int .i64 0) := Blk.cell PS.out 0)
         (try have fs00f : wS.frozen? ⟨wr.heap.size, 0, none⟩ = false := Blk.free PS.out 0)
         (try have fs10c : wS.cell? ⟨wr.heap.size, 1, none⟩ = some (.int .i64 0) := Blk.cell PS.out 1)
         (try have fs10f : wS.frozen? ⟨wr.heap.size, 1, none⟩ = false := Blk.free PS.out 1)
         clear hbS)
      | (go_at_call 13
         with_reducible refine Calls.mono (KP1.out _ ?_) ?_
         · go_grown
         rintro e wQ ⟨v, rfl, ho, hbQ⟩
         obtain ⟨XP, cP, rfl, _⟩ := La.own_slice ho
         have HQ : Hid (Below wr.heap.size wr wQ) := Lib.hid (by
           refine below_tA ?_ hbQ
           go_grown)
         have gQ := HQ.out
         have gQs := HQ.out.size
         have OQ : Hid (wQ.ownsRow base 3 1 (.slice XP UL cP) UL (intsC Um)) := Lib.hid ho
         (try have PQ : Hid (Blk wQ wr.heap.size #[.int .i64 0, .int .i64 0] 31) := Lib.hid (by with_reducible exact blk_cA PS.out hbQ))
         (try have PQ : Hid (Blk wQ wS.heap.size #[.int .i64 0, .int .i64 0] 31) := Lib.hid (by with_reducible exact blk_cA (blk_nA wS _ _) hbQ))
         (try have PQ : Hid (Blk wQ wS.heap.size #[.int .i64 0, .int .i64 0] 31) := Lib.hid (by with_reducible exact blk_cA (blk_dA (blk_nA wS _ _)) hbQ))
         (try have PV : Hid (Blk wQ wr.heap.size #[.int .i64 x0, .int .i64 x1] 31) := Lib.hid (by with_reducible exact blk_cA (blk_2A PS.out) hbQ))
         (try have PV : Hid (Blk wQ wS.heap.size #[.int .i64 x0, .int .i64 x1] 31) := Lib.hid (by with_reducible exact blk_cA (blk_nA wS _ _) hbQ))
         (try have PV : Hid (Blk wQ wS.heap.size #[.int .i64 x0, .int .i64 x1] 31) := Lib.hid (by with_reducible exact blk_cA (blk_dA (blk_nA wS _ _)) hbQ))
         (try have hs1 := PQ.out.lt)
         (try have hs2 := PV.out.lt)
         (try have fq00c : wQ.cell? ⟨wr.heap.size, 0, none⟩ = some (.int .i64 0) := Blk.cell PQ.out 0)
         (try have fq00f : wQ.frozen? ⟨wr.heap.size, 0, none⟩ = false := Blk.free PQ.out 0)
         (try have fq01c : wQ.cell? ⟨wS.heap.size, 0, none⟩ = some (.int .i64 0) := Blk.cell PQ.out 0)
         (try have fq01f : wQ.frozen? ⟨wS.heap.size, 0, none⟩ = false := Blk.free PQ.out 0)
         (try have fq10c : wQ.cell? ⟨wr.heap.size, 1, none⟩ = some (.int .i64 0) := Blk.cell PQ.out 1)
         (try have fq10f : wQ.frozen? ⟨wr.heap.size, 1, none⟩ = false := Blk.free PQ.out 1)
         (try have fq11c : wQ.cell? ⟨wS.heap.size, 1, none⟩ = some (.int .i64 0) := Blk.cell PQ.out 1)
         (try have fq11f : wQ.frozen? ⟨wS.heap.size, 1, none⟩ = false := Blk.free PQ.out 1)
         clear hbQ ho)
      | skip)
  all_goals
    (try go_wp2_with fail)
    refine HQQ.out _ _ _ _ _ _ _ _ _ _ _ _ ?_ ?_ (by go_grown)
  all_goals
    repeat (first
      | (with_reducible exact OQ.out)
      | (with_reducible exact PQ.out)
      | (with_reducible exact PV.out)
      | (with_reducible exact PS.out)
      | (with_reducible exact blk_nA _ _ _)
      | (with_reducible refine blk_2A ?_)
      | (with_reducible refine own_2A ?_ ?_)
      | (with_reducible refine own_aA ?_ _)
      | (with_reducible refine blk_aA ?_ _))

set_option maxRecDepth 100000 in
set_option maxHeartbeats 8000000 in
theorem r6_any {s0 s1 s3 s4 s7 s8 s9 s10 s11 s12 s13 s14 s15 s16 s17 s18 s19 s20 s21 s22 s23 s24 s25 s26 s27 s28 s29 s30 s31 s32 s33 s34 s35 s36 s37 s38 s39 s40 s41 s42 s43 s44 s45 s46 s47 s48 s49 s50 s51 s52 s53 s54 s55 s56 s57 s58 s59 s60 s61 s62 s63 s64 s65 s66 s67 s68 s69 s70 s71 s72 s73 s74 s75 s76 s77 s78 s79 s80 s81 s82 s83 s84 s85 s86 s87 s88 s89 s90 s91 s92 s93 s94 s95 s96 s97 s98 s99 s100 s101 s102 s103 s104 s105 s106 s107 s108 s109 s110 s111 s112 s113 s114 s115 s116 s117 s118 s119 s120 s121 s122 s123 s124 s125 s126 s127 s128 s129 s130 s131 s132 s133 s134 s135 s136 s137 s138 s139 s140 s141 s142 s143 s144 s145 s146 s147 s148 s149 s150 s151 s152 s153 s154 s155 s156 s157 s158 s159 s160 s161 s162 s163 s164 s165 s166 s167 s168 s169 s170 s171 s172 s173 s174 s175 s176 s177 s178 s179 s180 s181 s182 s183 s184 s185 s186 s187 s188 s189 s190 s191 s192 s193 s194 s195 s196 s197 s198 s199 s200 s201 s202 s203 s204 s205 s206 : Value} {A B C X : Option Addr} {nl PL ol ca cb cc cx Ns g base LLn LHn LIn : Nat} {LO HI ID : List Int} {L0 L1 H0 H1 : Int} {W2 W3 : World} {Q : Exit → Act → World → Prop} (B3 : Hid (Below W2.heap.size W2 W3))
    (KLO : Hid (∀ W', Below W2.heap.size W2 W' → Calls Try.prog 9 #[.agg #[.slice A nl ca, .slice B PL cb, .slice C ol cc], .slice X PL cx, .agg #[.int .i64 L0, .int .i64 L1, .int .i64 H0, .int .i64 H1, .int .i64 0, .slice none 0 0, .int .i64 0, .int .i64 0, .bool false]] W' fun e w' => ∃ v, e = .returned v ∧ w'.ownsRow base 3 1 v LLn (intsC LO) ∧ Below W'.heap.size W' w'))
    (KHI : Hid (∀ W', Below W2.heap.size W2 W' → Calls Try.prog 10 #[.agg #[.slice A nl ca, .slice B PL cb, .slice C ol cc], .slice X PL cx, .agg #[.int .i64 L0, .int .i64 L1, .int .i64 H0, .int .i64 H1, .int .i64 0, .slice none 0 0, .int .i64 0, .int .i64 0, .bool false]] W' fun e w' => ∃ v, e = .returned v ∧ w'.ownsRow base 3 1 v LHn (intsC HI) ∧ Below W'.heap.size W' w'))
    (KID : Hid (∀ W', Below W2.heap.size W2 W' → Calls Try.prog 11 #[.agg #[.slice A nl ca, .slice B PL cb, .slice C ol cc], .slice X PL cx] W' fun e w' => ∃ v, e = .returned v ∧ w'.ownsRow base 3 1 v LIn (intsC ID) ∧ Below W'.heap.size W' w'))
    (HC2 : Hid (∀ W', Below W2.heap.size W2 W' → W'.cell? ⟨Ns, 0, none⟩ = some (.slice A nl ca) ∧ W'.cell? ⟨Ns, 1, none⟩ = some (.slice B PL cb) ∧ W'.cell? ⟨Ns, 2, none⟩ = some (.slice C ol cc) ∧ W'.cell? ⟨g, 0, none⟩ = some (.int .i64 L0) ∧ W'.cell? ⟨g, 1, none⟩ = some (.int .i64 L1) ∧ W'.cell? ⟨g, 2, none⟩ = some (.int .i64 H0) ∧ W'.cell? ⟨g, 3, none⟩ = some (.int .i64 H1) ∧ W'.cell? ⟨g, 4, none⟩ = some (.int .i64 0) ∧ W'.cell? ⟨g, 5, none⟩ = some (.slice none 0 0) ∧ W'.cell? ⟨g, 6, none⟩ = some (.int .i64 0) ∧ W'.cell? ⟨g, 7, none⟩ = some (.int .i64 0) ∧ W'.cell? ⟨g, 8, none⟩ = some (.bool false)))
    (hQ : ∀ (XL : Option Addr) (cL : Nat) (XH : Option Addr) (cH : Nat) (XI : Option Addr) (cI : Nat) (wc : World) (t46 t47 t48 t49 t50 t51 t52 t53 t54 t55 t56 : Value), wc.ownsRow base 3 1 (.slice XL LLn cL) LLn (intsC LO) → wc.ownsRow base 3 1 (.slice XH LHn cH) LHn (intsC HI) → wc.ownsRow base 3 1 (.slice XI LIn cI) LIn (intsC ID) → Below W2.heap.size W2 wc → Q .normal { tmps := #[s0, s1, .pointer (some ⟨Ns, 0, none⟩), s3, s4, .slice X PL cx, .pointer (some ⟨g, 0, none⟩), .slice XL LLn cL, .slice XH LHn cH, .slice XI LIn cI, s10, s11, s12, s13, s14, s15, s16, s17, s18, s19, s20, s21, s22, s23, s24, s25, s26, s27, s28, s29, s30, s31, s32, s33, s34, s35, s36, s37, s38, s39, s40, s41, s42, s43, s44, s45, t46, t47, t48, t49, t50, t51, t52, t53, t54, t55, t56, s57, s58, s59, s60, s61, s62, s63, s64, s65, s66, s67, s68, s69, s70, s71, s72, s73, s74, s75, s76, s77, s78, s79, s80, s81, s82, s83, s84, s85, s86, s87, s88, s89, s90, s91, s92, s93, s94, s95, s96, s97, s98, s99, s100, s101, s102, s103, s104, s105, s106, s107, s108, s109, s110, s111, s112, s113, s114, s115, s116, s117, s118, s119, s120, s121, s122, s123, s124, s125, s126, s127, s128, s129, s130, s131, s132, s133, s134, s135, s136, s137, s138, s139, s140, s141, s142, s143, s144, s145, s146, s147, s148, s149, s150, s151, s152, s153, s154, s155, s156, s157, s158, s159, s160, s161, s162, s163, s164, s165, s166, s167, s168, s169, s170, s171, s172, s173, s174, s175, s176, s177, s178, s179, s180, s181, s182, s183, s184, s185, s186, s187, s188, s189, s190, s191, s192, s193, s194, s195, s196, s197, s198, s199, s200, s201, s202, s203, s204, s205, s206], defers := [] } wc) :
    Code.wp Try.prog (Code.region 6 #[{ dst := some 46, op := Op.load 26 (Operand.tmp 2), type := 26, pos := "outright.go:52", after := #[], guard := none }, { dst := some 47, op := Op.move (Operand.tmp 5), type := 29, pos := "outright.go:52", after := #[], guard := none }, { dst := some 48, op := Op.load 34 (Operand.tmp 6), type := 34, pos := "outright.go:52", after := #[], guard := none }, { dst := some 49, op := Op.call { callee := Callee.value (Operand.func 9), args := #[Operand.tmp 46, Operand.tmp 47, Operand.tmp 48], argTypes := #[26, 29, 34] }, type := 29, pos := "outright.go:52", after := #[{ on := 0, ground := Ground.data }, { on := 1, ground := Ground.data }, { on := 2, ground := Ground.data }], guard := none }, { dst := some 50, op := Op.load 26 (Operand.tmp 2), type := 26, pos := "outright.go:52", after := #[], guard := none }, { dst := some 51, op := Op.move (Operand.tmp 5), type := 29, pos := "outright.go:52", after := #[], guard := none }, { dst := some 52, op := Op.load 34 (Operand.tmp 6), type := 34, pos := "outright.go:52", after := #[], guard := none }, { dst := some 53, op := Op.call { callee := Callee.value (Operand.func 10), args := #[Operand.tmp 50, Operand.tmp 51, Operand.tmp 52], argTypes := #[26, 29, 34] }, type := 29, pos := "outright.go:52", after := #[{ on := 4, ground := Ground.data }, { on := 5, ground := Ground.data }, { on := 6, ground := Ground.data }, { on := 3, ground := Ground.chain }], guard := none }, { dst := some 54, op := Op.load 26 (Operand.tmp 2), type := 26, pos := "outright.go:52", after := #[], guard := none }, { dst := some 55, op := Op.move (Operand.tmp 5), type := 29, pos := "outright.go:52", after := #[], guard := none }, { dst := some 56, op := Op.call { callee := Callee.value (Operand.func 11), args := #[Operand.tmp 54, Operand.tmp 55], argTypes := #[26, 29] }, type := 29, pos := "outright.go:52", after := #[{ on := 8, ground := Ground.data }, { on := 9, ground := Ground.data }, { on := 7, ground := Ground.chain }], guard := none }, { dst := some 7, op := Op.assign (Operand.tmp 49), type := 29, pos := "outright.go:52", after := #[{ on := 3, ground := Ground.data }, { on := 10, ground := Ground.chain }, { on := 0, ground := Ground.phase }, { on := 1, ground := Ground.phase }, { on := 2, ground := Ground.phase }, { on := 3, ground := Ground.phase }, { on := 4, ground := Ground.textOnly Departure.lateStores }, { on := 5, ground := Ground.textOnly Departure.lateStores }, { on := 6, ground := Ground.textOnly Departure.lateStores }, { on := 7, ground := Ground.textOnly Departure.lateStoresUnsure }, { on := 8, ground := Ground.textOnly Departure.lateStores }, { on := 9, ground := Ground.textOnly Departure.lateStores }, { on := 10, ground := Ground.textOnly Departure.lateStoresUnsure }], guard := none }, { dst := some 8, op := Op.assign (Operand.tmp 53), type := 29, pos := "outright.go:52", after := #[{ on := 7, ground := Ground.data }, { on := 11, ground := Ground.chain }, { on := 0, ground := Ground.phase }, { on := 1, ground := Ground.phase }, { on := 2, ground := Ground.phase }, { on := 3, ground := Ground.phase }, { on := 4, ground := Ground.phase }, { on := 5, ground := Ground.phase }, { on := 6, ground := Ground.phase }, { on := 7, ground := Ground.phase }, { on := 8, ground := Ground.textOnly Departure.lateStores }, { on := 9, ground := Ground.textOnly Departure.lateStores }, { on := 10, ground := Ground.textOnly Departure.lateStoresUnsure }, { on := 11, ground := Ground.phase }], guard := none }, { dst := some 9, op := Op.assign (Operand.tmp 56), type := 29, pos := "outright.go:52", after := #[{ on := 10, ground := Ground.data }, { on := 12, ground := Ground.chain }, { on := 0, ground := Ground.phase }, { on := 1, ground := Ground.phase }, { on := 2, ground := Ground.phase }, { on := 3, ground := Ground.phase }, { on := 4, ground := Ground.phase }, { on := 5, ground := Ground.phase }, { on := 6, ground := Ground.phase }, { on := 7, ground := Ground.phase }, { on := 8, ground := Ground.phase }, { on := 9, ground := Ground.phase }, { on := 10, ground := Ground.phase }, { on := 11, ground := Ground.phase }, { on := 12, ground := Ground.phase }], guard := none }] true) Q { tmps := #[s0, s1, .pointer (some ⟨Ns, 0, none⟩), s3, s4, .slice X PL cx, .pointer (some ⟨g, 0, none⟩), s7, s8, s9, s10, s11, s12, s13, s14, s15, s16, s17, s18, s19, s20, s21, s22, s23, s24, s25, s26, s27, s28, s29, s30, s31, s32, s33, s34, s35, s36, s37, s38, s39, s40, s41, s42, s43, s44, s45, s46, s47, s48, s49, s50, s51, s52, s53, s54, s55, s56, s57, s58, s59, s60, s61, s62, s63, s64, s65, s66, s67, s68, s69, s70, s71, s72, s73, s74, s75, s76, s77, s78, s79, s80, s81, s82, s83, s84, s85, s86, s87, s88, s89, s90, s91, s92, s93, s94, s95, s96, s97, s98, s99, s100, s101, s102, s103, s104, s105, s106, s107, s108, s109, s110, s111, s112, s113, s114, s115, s116, s117, s118, s119, s120, s121, s122, s123, s124, s125, s126, s127, s128, s129, s130, s131, s132, s133, s134, s135, s136, s137, s138, s139, s140, s141, s142, s143, s144, s145, s146, s147, s148, s149, s150, s151, s152, s153, s154, s155, s156, s157, s158, s159, s160, s161, s162, s163, s164, s165, s166, s167, s168, s169, s170, s171, s172, s173, s174, s175, s176, s177, s178, s179, s180, s181, s182, s183, s184, s185, s186, s187, s188, s189, s190, s191, s192, s193, s194, s195, s196, s197, s198, s199, s200, s201, s202, s203, s204, s205, s206], defers := [] } W3 := by
  have HQQ := Lib.hid hQ
  clear hQ
  have b3 := B3.out
  have b3s := B3.out.size
  obtain ⟨z0, z1, z2, e0, e1, e2, e3, e4, e5, e6, e7, e8⟩ := HC2.out W3 B3.out
  go_region_held3 (fun w' => w'.cell? ⟨Ns, 0, none⟩ = some (.slice A nl ca) ∧ w'.cell? ⟨Ns, 1, none⟩ = some (.slice B PL cb) ∧ w'.cell? ⟨Ns, 2, none⟩ = some (.slice C ol cc) ∧ w'.cell? ⟨g, 0, none⟩ = some (.int .i64 L0) ∧ w'.cell? ⟨g, 1, none⟩ = some (.int .i64 L1) ∧ w'.cell? ⟨g, 2, none⟩ = some (.int .i64 H0) ∧ w'.cell? ⟨g, 3, none⟩ = some (.int .i64 H1) ∧ w'.cell? ⟨g, 4, none⟩ = some (.int .i64 0) ∧ w'.cell? ⟨g, 5, none⟩ = some (.slice none 0 0) ∧ w'.cell? ⟨g, 6, none⟩ = some (.int .i64 0) ∧ w'.cell? ⟨g, 7, none⟩ = some (.int .i64 0) ∧ w'.cell? ⟨g, 8, none⟩ = some (.bool false))
    ((refine HC2.out _ ?_; go_grown))
    (first
      | (go_at_call 9
         with_reducible refine Calls.mono (KLO.out _ ?_) ?_
         · go_grown
         rintro e wl ⟨vl, rfl, ho, hb⟩
         obtain ⟨XL, cL, rfl, _⟩ := La.own_slice ho
         have HA : Hid (Below W2.heap.size W2 wl) := Lib.hid (by
           refine below_tA ?_ hb
           go_grown)
         have gA := HA.out
         have gAs := HA.out.size
         have OL : Hid (wl.ownsRow base 3 1 (.slice XL LLn cL) LLn (intsC LO)) := Lib.hid ho
         (try have OH := Lib.hid (own_cA OH.out hb))
         (try have OI := Lib.hid (own_cA OI.out hb))
         clear hb ho)
      | (go_at_call 10
         with_reducible refine Calls.mono (KHI.out _ ?_) ?_
         · go_grown
         rintro e wh ⟨vh, rfl, ho, hb⟩
         obtain ⟨XH, cH, rfl, _⟩ := La.own_slice ho
         have HB : Hid (Below W2.heap.size W2 wh) := Lib.hid (by
           refine below_tA ?_ hb
           go_grown)
         have gB := HB.out
         have gBs := HB.out.size
         have OH : Hid (wh.ownsRow base 3 1 (.slice XH LHn cH) LHn (intsC HI)) := Lib.hid ho
         (try have OL := Lib.hid (own_cA OL.out hb))
         (try have OI := Lib.hid (own_cA OI.out hb))
         clear hb ho)
      | (go_at_call 11
         with_reducible refine Calls.mono (KID.out _ ?_) ?_
         · go_grown
         rintro e wi ⟨vi, rfl, ho, hb⟩
         obtain ⟨XI, cI, rfl, _⟩ := La.own_slice ho
         have HD : Hid (Below W2.heap.size W2 wi) := Lib.hid (by
           refine below_tA ?_ hb
           go_grown)
         have gD := HD.out
         have gDs := HD.out.size
         have OI : Hid (wi.ownsRow base 3 1 (.slice XI LIn cI) LIn (intsC ID)) := Lib.hid ho
         (try have OL := Lib.hid (own_cA OL.out hb))
         (try have OH := Lib.hid (own_cA OH.out hb))
         clear hb ho)
      | skip)
  all_goals
    (try go_wp2_with fail)
    exact HQQ.out _ _ _ _ _ _ _ _ _ _ _ _ _ _ _ _ _ _ OL.out OH.out OI.out (by go_grown)

set_option maxRecDepth 100000 in
set_option maxHeartbeats 8000000 in
theorem r3_any {s0 s1 s4 s5 s6 s7 s8 s9 s10 s11 s12 s13 s14 s15 s16 s17 s18 s19 s20 s21 s22 s23 s24 s25 s26 s27 s28 s29 s30 s31 s32 s33 s34 s35 s36 s37 s38 s39 s40 s41 s42 s43 s44 s45 s46 s47 s48 s49 s50 s51 s52 s53 s54 s55 s56 s57 s58 s59 s60 s61 s62 s63 s64 s65 s66 s67 s68 s69 s70 s71 s72 s73 s74 s75 s76 s77 s78 s79 s80 s81 s82 s83 s84 s85 s86 s87 s88 s89 s90 s91 s92 s93 s94 s95 s96 s97 s98 s99 s100 s101 s102 s103 s104 s105 s106 s107 s108 s109 s110 s111 s112 s113 s114 s115 s116 s117 s118 s119 s120 s121 s122 s123 s124 s125 s126 s127 s128 s129 s130 s131 s132 s133 s134 s135 s136 s137 s138 s139 s140 s141 s142 s143 s144 s145 s146 s147 s148 s149 s150 s151 s152 s153 s154 s155 s156 s157 s158 s159 s160 s161 s162 s163 s164 s165 s166 s167 s168 s169 s170 s171 s172 s173 s174 s175 s176 s177 s178 s179 s180 s181 s182 s183 s184 s185 s186 s187 s188 s189 s190 s191 s192 s193 s194 s195 s196 s197 s198 s199 s200 s201 s202 s203 s204 s205 s206 : Value} {A B C : Option Addr} {nl PL ol ca cb cc Ns Nl base : Nat} {l0 l1 l2 l3 L0 L1 H0 H1 : Int} {pl : List Int} {W1 : World} {Q : Exit → Act → World → Prop}
    (KP1 : Hid (∀ W', Below W1.heap.size W1 W' → Calls Try.prog 6 #[.agg #[.slice A nl ca, .slice B PL cb, .slice C ol cc]] W' fun e w' => ∃ X cx, e = .returned (.slice X PL cx) ∧ w'.ownsRow base 3 1 (.slice X PL cx) PL (intsC pl) ∧ Below W'.heap.size W' w'))
    (KF : Hid (∀ W, Calls Try.prog 7 #[.agg #[.int .i64 l0, .int .i64 l1, .int .i64 l2, .int .i64 l3]] W fun e w' => e = .returned (.agg #[.int .i64 L0, .int .i64 L1, .int .i64 H0, .int .i64 H1, .int .i64 0, .slice none 0 0, .int .i64 0, .int .i64 0, .bool false]) ∧ Below W.heap.size W w'))
    (HC1 : Hid (∀ W', Below W1.heap.size W1 W' → (W'.cell? ⟨Ns, 0, none⟩ = some (.slice A nl ca) ∧ W'.cell? ⟨Ns, 1, none⟩ = some (.slice B PL cb) ∧ W'.cell? ⟨Ns, 2, none⟩ = some (.slice C ol cc)) ∧ W'.cell? ⟨Nl, 0, none⟩ = some (.int .i64 l0) ∧ W'.cell? ⟨Nl, 1, none⟩ = some (.int .i64 l1) ∧ W'.cell? ⟨Nl, 2, none⟩ = some (.int .i64 l2) ∧ W'.cell? ⟨Nl, 3, none⟩ = some (.int .i64 l3)))
    (hQ : ∀ (X : Option Addr) (cx g : Nat) (wc : World) (t21 t22 t23 t24 : Value), wc.ownsRow base 3 1 (.slice X PL cx) PL (intsC pl) → Blk wc g #[.int .i64 L0, .int .i64 L1, .int .i64 H0, .int .i64 H1, .int .i64 0, .slice none 0 0, .int .i64 0, .int .i64 0, .bool false] 34 → Below W1.heap.size W1 wc → Q .normal { tmps := #[s0, s1, .pointer (some ⟨Ns, 0, none⟩), .pointer (some ⟨Nl, 0, none⟩), s4, .slice X PL cx, .pointer (some ⟨g, 0, none⟩), s7, s8, s9, s10, s11, s12, s13, s14, s15, s16, s17, s18, s19, s20, t21, t22, t23, t24, s25, s26, s27, s28, s29, s30, s31, s32, s33, s34, s35, s36, s37, s38, s39, s40, s41, s42, s43, s44, s45, s46, s47, s48, s49, s50, s51, s52, s53, s54, s55, s56, s57, s58, s59, s60, s61, s62, s63, s64, s65, s66, s67, s68, s69, s70, s71, s72, s73, s74, s75, s76, s77, s78, s79, s80, s81, s82, s83, s84, s85, s86, s87, s88, s89, s90, s91, s92, s93, s94, s95, s96, s97, s98, s99, s100, s101, s102, s103, s104, s105, s106, s107, s108, s109, s110, s111, s112, s113, s114, s115, s116, s117, s118, s119, s120, s121, s122, s123, s124, s125, s126, s127, s128, s129, s130, s131, s132, s133, s134, s135, s136, s137, s138, s139, s140, s141, s142, s143, s144, s145, s146, s147, s148, s149, s150, s151, s152, s153, s154, s155, s156, s157, s158, s159, s160, s161, s162, s163, s164, s165, s166, s167, s168, s169, s170, s171, s172, s173, s174, s175, s176, s177, s178, s179, s180, s181, s182, s183, s184, s185, s186, s187, s188, s189, s190, s191, s192, s193, s194, s195, s196, s197, s198, s199, s200, s201, s202, s203, s204, s205, s206], defers := [] } wc) :
    Code.wp Try.prog (Code.region 3 #[{ dst := some 21, op := Op.load 26 (Operand.tmp 2), type := 26, pos := "outright.go:48", after := #[], guard := none }, { dst := some 22, op := Op.call { callee := Callee.value (Operand.func 6), args := #[Operand.tmp 21], argTypes := #[26] }, type := 29, pos := "outright.go:48", after := #[{ on := 0, ground := Ground.data }], guard := none }, { dst := some 23, op := Op.load 27 (Operand.tmp 3), type := 27, pos := "outright.go:48", after := #[], guard := none }, { dst := some 24, op := Op.call { callee := Callee.value (Operand.func 7), args := #[Operand.tmp 23], argTypes := #[27] }, type := 34, pos := "outright.go:48", after := #[{ on := 2, ground := Ground.data }, { on := 1, ground := Ground.chain }], guard := none }, { dst := some 6, op := Op.alloc 34, type := 0, pos := "outright.go:48", after := #[], guard := none }, { dst := some 5, op := Op.assign (Operand.tmp 22), type := 29, pos := "outright.go:48", after := #[{ on := 1, ground := Ground.data }, { on := 3, ground := Ground.chain }, { on := 0, ground := Ground.phase }, { on := 1, ground := Ground.phase }, { on := 2, ground := Ground.textOnly Departure.lateStores }, { on := 3, ground := Ground.textOnly Departure.lateStoresUnsure }, { on := 4, ground := Ground.phase }], guard := none }, { dst := none, op := Op.store 34 (Operand.tmp 6) (Operand.tmp 24), type := 0, pos := "outright.go:48", after := #[{ on := 4, ground := Ground.data }, { on := 3, ground := Ground.data }, { on := 5, ground := Ground.chain }, { on := 0, ground := Ground.phase }, { on := 1, ground := Ground.phase }, { on := 2, ground := Ground.phase }, { on := 3, ground := Ground.phase }, { on := 4, ground := Ground.phase }, { on := 5, ground := Ground.phase }], guard := none }] true) Q { tmps := #[s0, s1, .pointer (some ⟨Ns, 0, none⟩), .pointer (some ⟨Nl, 0, none⟩), s4, s5, s6, s7, s8, s9, s10, s11, s12, s13, s14, s15, s16, s17, s18, s19, s20, s21, s22, s23, s24, s25, s26, s27, s28, s29, s30, s31, s32, s33, s34, s35, s36, s37, s38, s39, s40, s41, s42, s43, s44, s45, s46, s47, s48, s49, s50, s51, s52, s53, s54, s55, s56, s57, s58, s59, s60, s61, s62, s63, s64, s65, s66, s67, s68, s69, s70, s71, s72, s73, s74, s75, s76, s77, s78, s79, s80, s81, s82, s83, s84, s85, s86, s87, s88, s89, s90, s91, s92, s93, s94, s95, s96, s97, s98, s99, s100, s101, s102, s103, s104, s105, s106, s107, s108, s109, s110, s111, s112, s113, s114, s115, s116, s117, s118, s119, s120, s121, s122, s123, s124, s125, s126, s127, s128, s129, s130, s131, s132, s133, s134, s135, s136, s137, s138, s139, s140, s141, s142, s143, s144, s145, s146, s147, s148, s149, s150, s151, s152, s153, s154, s155, s156, s157, s158, s159, s160, s161, s162, s163, s164, s165, s166, s167, s168, s169, s170, s171, s172, s173, s174, s175, s176, s177, s178, s179, s180, s181, s182, s183, s184, s185, s186, s187, s188, s189, s190, s191, s192, s193, s194, s195, s196, s197, s198, s199, s200, s201, s202, s203, s204, s205, s206], defers := [] } W1 := by
  have HQQ := Lib.hid hQ
  clear hQ
  have DZ : Hid (Blk (W1.alloc (.cells #[.int .i64 0, .int .i64 0, .int .i64 0, .int .i64 0, .int .i64 0, .slice none 0 0, .int .i64 0, .int .i64 0, .bool false] 34)) W1.heap.size #[.int .i64 0, .int .i64 0, .int .i64 0, .int .i64 0, .int .i64 0, .slice none 0 0, .int .i64 0, .int .i64 0, .bool false] 34) := Lib.hid (Blk.new W1 _ _)
  obtain ⟨⟨z0, z1, z2⟩, y0, y1, y2, y3⟩ := HC1.out W1 (Below.refl _ _)
  go_region_held3 (fun w' => (w'.cell? ⟨Ns, 0, none⟩ = some (.slice A nl ca) ∧ w'.cell? ⟨Ns, 1, none⟩ = some (.slice B PL cb) ∧ w'.cell? ⟨Ns, 2, none⟩ = some (.slice C ol cc)) ∧ w'.cell? ⟨Nl, 0, none⟩ = some (.int .i64 l0) ∧ w'.cell? ⟨Nl, 1, none⟩ = some (.int .i64 l1) ∧ w'.cell? ⟨Nl, 2, none⟩ = some (.int .i64 l2) ∧ w'.cell? ⟨Nl, 3, none⟩ = some (.int .i64 l3))
    ((refine HC1.out _ ?_; go_grown))
    (first
      | (go_at_call 6
         with_reducible refine Calls.mono (KP1.out _ ?_) ?_
         · go_grown
         rintro e wA ⟨X, cx, rfl, hoA, hbA⟩
         have HA : Hid (Below W1.heap.size W1 wA) := Lib.hid (by
           refine below_tA ?_ hbA
           go_grown)
         have gA := HA.out
         have gAs := HA.out.size
         have OA : Hid (wA.ownsRow base 3 1 (.slice X PL cx) PL (intsC pl)) := Lib.hid hoA
         (try have PA : Hid (Blk wA W1.heap.size #[.int .i64 0, .int .i64 0, .int .i64 0, .int .i64 0, .int .i64 0, .slice none 0 0, .int .i64 0, .int .i64 0, .bool false] 34) := Lib.hid (by with_reducible exact blk_cA (blk_dA DZ.out) hbA))
         (try have PA : Hid (Blk wA W1.heap.size #[.int .i64 0, .int .i64 0, .int .i64 0, .int .i64 0, .int .i64 0, .slice none 0 0, .int .i64 0, .int .i64 0, .bool false] 34) := Lib.hid (by with_reducible exact blk_cA DZ.out hbA))
         (try have PA : Hid (Blk wA W1.heap.size #[.int .i64 0, .int .i64 0, .int .i64 0, .int .i64 0, .int .i64 0, .slice none 0 0, .int .i64 0, .int .i64 0, .bool false] 34) := Lib.hid (by with_reducible exact blk_cA PF.out hbA))
         (try have PA : Hid (Blk wA wF.heap.size #[.int .i64 0, .int .i64 0, .int .i64 0, .int .i64 0, .int .i64 0, .slice none 0 0, .int .i64 0, .int .i64 0, .bool false] 34) := Lib.hid (by with_reducible exact blk_cA (blk_nA wF _ _) hbA))
         (try have PA : Hid (Blk wA wF.heap.size #[.int .i64 0, .int .i64 0, .int .i64 0, .int .i64 0, .int .i64 0, .slice none 0 0, .int .i64 0, .int .i64 0, .bool false] 34) := Lib.hid (by with_reducible exact blk_cA (blk_dA (blk_nA wF _ _)) hbA))
         (try have PV : Hid (Blk wA wF.heap.size #[.int .i64 L0, .int .i64 L1, .int .i64 H0, .int .i64 H1, .int .i64 0, .slice none 0 0, .int .i64 0, .int .i64 0, .bool false] 34) := Lib.hid (by with_reducible exact blk_cA (blk_nA wF _ _) hbA))
         (try have PV : Hid (Blk wA W1.heap.size #[.int .i64 L0, .int .i64 L1, .int .i64 H0, .int .i64 H1, .int .i64 0, .slice none 0 0, .int .i64 0, .int .i64 0, .bool false] 34) := Lib.hid (by with_reducible exact blk_cA (blk_9A PF.out) hbA))
         (try have hs1 := PA.out.lt)
         (try have hs2 := PV.out.lt)
         (try have fa00c : wA.cell? ⟨W1.heap.size, 0, none⟩ = some (.int .i64 0) := Blk.cell PA.out 0)
         (try have fa00f : wA.frozen? ⟨W1.heap.size, 0, none⟩ = false := Blk.free PA.out 0)
         (try have fa02c : wA.cell? ⟨wF.heap.size, 0, none⟩ = some (.int .i64 0) := Blk.cell PA.out 0)
         (try have fa02f : wA.frozen? ⟨wF.heap.size, 0, none⟩ = false := Blk.free PA.out 0)
         (try have fa10c : wA.cell? ⟨W1.heap.size, 1, none⟩ = some (.int .i64 0) := Blk.cell PA.out 1)
         (try have fa10f : wA.frozen? ⟨W1.heap.size, 1, none⟩ = false := Blk.free PA.out 1)
         (try have fa12c : wA.cell? ⟨wF.heap.size, 1, none⟩ = some (.int .i64 0) := Blk.cell PA.out 1)
         (try have fa12f : wA.frozen? ⟨wF.heap.size, 1, none⟩ = false := Blk.free PA.out 1)
         (try have fa20c : wA.cell? ⟨W1.heap.size, 2, none⟩ = some (.int .i64 0) := Blk.cell PA.out 2)
         (try have fa20f : wA.frozen? ⟨W1.heap.size, 2, none⟩ = false := Blk.free PA.out 2)
         (try have fa22c : wA.cell? ⟨wF.heap.size, 2, none⟩ = some (.int .i64 0) := Blk.cell PA.out 2)
         (try have fa22f : wA.frozen? ⟨wF.heap.size, 2, none⟩ = false := Blk.free PA.out 2)
         (try have fa30c : wA.cell? ⟨W1.heap.size, 3, none⟩ = some (.int .i64 0) := Blk.cell PA.out 3)
         (try have fa30f : wA.frozen? ⟨W1.heap.size, 3, none⟩ = false := Blk.free PA.out 3)
         (try have fa32c : wA.cell? ⟨wF.heap.size, 3, none⟩ = some (.int .i64 0) := Blk.cell PA.out 3)
         (try have fa32f : wA.frozen? ⟨wF.heap.size, 3, none⟩ = false := Blk.free PA.out 3)
         (try have fa40c : wA.cell? ⟨W1.heap.size, 4, none⟩ = some (.int .i64 0) := Blk.cell PA.out 4)
         (try have fa40f : wA.frozen? ⟨W1.heap.size, 4, none⟩ = false := Blk.free PA.out 4)
         (try have fa42c : wA.cell? ⟨wF.heap.size, 4, none⟩ = some (.int .i64 0) := Blk.cell PA.out 4)
         (try have fa42f : wA.frozen? ⟨wF.heap.size, 4, none⟩ = false := Blk.free PA.out 4)
         (try have fa50c : wA.cell? ⟨W1.heap.size, 5, none⟩ = some (.slice none 0 0) := Blk.cell PA.out 5)
         (try have fa50f : wA.frozen? ⟨W1.heap.size, 5, none⟩ = false := Blk.free PA.out 5)
         (try have fa52c : wA.cell? ⟨wF.heap.size, 5, none⟩ = some (.slice none 0 0) := Blk.cell PA.out 5)
         (try have fa52f : wA.frozen? ⟨wF.heap.size, 5, none⟩ = false := Blk.free PA.out 5)
         (try have fa60c : wA.cell? ⟨W1.heap.size, 6, none⟩ = some (.int .i64 0) := Blk.cell PA.out 6)
         (try have fa60f : wA.frozen? ⟨W1.heap.size, 6, none⟩ = false := Blk.free PA.out 6)
         (try have fa62c : wA.cell? ⟨wF.heap.size, 6, none⟩ = some (.int .i64 0) := Blk.cell PA.out 6)
         (try have fa62f : wA.frozen? ⟨wF.heap.size, 6, none⟩ = false := Blk.free PA.out 6)
         (try have fa70c : wA.cell? ⟨W1.heap.size, 7, none⟩ = some (.int .i64 0) := Blk.cell PA.out 7)
         (try have fa70f : wA.frozen? ⟨W1.heap.size, 7, none⟩ = false := Blk.free PA.out 7)
         (try have fa72c : wA.cell? ⟨wF.heap.size, 7, none⟩ = some (.int .i64 0) := Blk.cell PA.out 7)
         (try have fa72f : wA.frozen? ⟨wF.heap.size, 7, none⟩ = false := Blk.free PA.out 7)
         (try have fa80c : wA.cell? ⟨W1.heap.size, 8, none⟩ = some (.bool false) := Blk.cell PA.out 8)
         (try have fa80f : wA.frozen? ⟨W1.heap.size, 8, none⟩ = false := Blk.free PA.out 8)
         (try have fa82c : wA.cell? ⟨wF.heap.size, 8, none⟩ = some (.bool false) := Blk.cell PA.out 8)
         (try have fa82f : wA.frozen? ⟨wF.heap.size, 8, none⟩ = false := Blk.free PA.out 8)
         clear hbA hoA)
      | (go_at_call 7
         with_reducible refine Calls.mono (KF.out _) ?_
         rintro e wF ⟨rfl, hbF⟩
         have HF : Hid (Below W1.heap.size W1 wF) := Lib.hid (by
           refine below_tA ?_ hbF
           go_grown)
         have gF := HF.out
         have gFs := HF.out.size
         (try have PF : Hid (Blk wF W1.heap.size #[.int .i64 0, .int .i64 0, .int .i64 0, .int .i64 0, .int .i64 0, .slice none 0 0, .int .i64 0, .int .i64 0, .bool false] 34) := Lib.hid (by with_reducible exact blk_cA DZ.out hbF))
         (try have PF : Hid (Blk wF W1.heap.size #[.int .i64 0, .int .i64 0, .int .i64 0, .int .i64 0, .int .i64 0, .slice none 0 0, .int .i64 0, .int .i64 0, .bool false] 34) := Lib.hid (by with_reducible exact blk_cA (blk_dA DZ.out) hbF))
         (try have PF : Hid (Blk wF W1.heap.size #[.int .i64 0, .int .i64 0, .int .i64 0, .int .i64 0, .int .i64 0, .slice none 0 0, .int .i64 0, .int .i64 0, .bool false] 34) := Lib.hid (by with_reducible exact blk_cA PA.out hbF))
         (try have PF : Hid (Blk wF wA.heap.size #[.int .i64 0, .int .i64 0, .int .i64 0, .int .i64 0, .int .i64 0, .slice none 0 0, .int .i64 0, .int .i64 0, .bool false] 34) := Lib.hid (by with_reducible exact blk_cA (blk_nA wA _ _) hbF))
         (try have PF : Hid (Blk wF wA.heap.size #[.int .i64 0, .int .i64 0, .int .i64 0, .int .i64 0, .int .i64 0, .slice none 0 0, .int .i64 0, .int .i64 0, .bool false] 34) := Lib.hid (by with_reducible exact blk_cA (blk_dA (blk_nA wA _ _)) hbF))
         (try have OA : Hid (wF.ownsRow base 3 1 (.slice X PL cx) PL (intsC pl)) := Lib.hid (by with_reducible exact own_cA OA.out hbF))
         (try have OA : Hid (wF.ownsRow base 3 1 (.slice X PL cx) PL (intsC pl)) := Lib.hid (by with_reducible exact own_cA (own_aA OA.out _) hbF))
         (try have OA : Hid (wF.ownsRow base 3 1 (.slice X PL cx) PL (intsC pl)) := Lib.hid (by with_reducible exact own_cA (own_dA (own_aA OA.out _)) hbF))
         (try have hs1 := PF.out.lt)
         (try have ff00c : wF.cell? ⟨W1.heap.size, 0, none⟩ = some (.int .i64 0) := Blk.cell PF.out 0)
         (try have ff00f : wF.frozen? ⟨W1.heap.size, 0, none⟩ = false := Blk.free PF.out 0)
         (try have ff01c : wF.cell? ⟨wA.heap.size, 0, none⟩ = some (.int .i64 0) := Blk.cell PF.out 0)
         (try have ff01f : wF.frozen? ⟨wA.heap.size, 0, none⟩ = false := Blk.free PF.out 0)
         (try have ff10c : wF.cell? ⟨W1.heap.size, 1, none⟩ = some (.int .i64 0) := Blk.cell PF.out 1)
         (try have ff10f : wF.frozen? ⟨W1.heap.size, 1, none⟩ = false := Blk.free PF.out 1)
         (try have ff11c : wF.cell? ⟨wA.heap.size, 1, none⟩ = some (.int .i64 0) := Blk.cell PF.out 1)
         (try have ff11f : wF.frozen? ⟨wA.heap.size, 1, none⟩ = false := Blk.free PF.out 1)
         (try have ff20c : wF.cell? ⟨W1.heap.size, 2, none⟩ = some (.int .i64 0) := Blk.cell PF.out 2)
         (try have ff20f : wF.frozen? ⟨W1.heap.size, 2, none⟩ = false := Blk.free PF.out 2)
         (try have ff21c : wF.cell? ⟨wA.heap.size, 2, none⟩ = some (.int .i64 0) := Blk.cell PF.out 2)
         (try have ff21f : wF.frozen? ⟨wA.heap.size, 2, none⟩ = false := Blk.free PF.out 2)
         (try have ff30c : wF.cell? ⟨W1.heap.size, 3, none⟩ = some (.int .i64 0) := Blk.cell PF.out 3)
         (try have ff30f : wF.frozen? ⟨W1.heap.size, 3, none⟩ = false := Blk.free PF.out 3)
         (try have ff31c : wF.cell? ⟨wA.heap.size, 3, none⟩ = some (.int .i64 0) := Blk.cell PF.out 3)
         (try have ff31f : wF.frozen? ⟨wA.heap.size, 3, none⟩ = false := Blk.free PF.out 3)
         (try have ff40c : wF.cell? ⟨W1.heap.size, 4, none⟩ = some (.int .i64 0) := Blk.cell PF.out 4)
         (try have ff40f : wF.frozen? ⟨W1.heap.size, 4, none⟩ = false := Blk.free PF.out 4)
         (try have ff41c : wF.cell? ⟨wA.heap.size, 4, none⟩ = some (.int .i64 0) := Blk.cell PF.out 4)
         (try have ff41f : wF.frozen? ⟨wA.heap.size, 4, none⟩ = false := Blk.free PF.out 4)
         (try have ff50c : wF.cell? ⟨W1.heap.size, 5, none⟩ = some (.slice none 0 0) := Blk.cell PF.out 5)
         (try have ff50f : wF.frozen? ⟨W1.heap.size, 5, none⟩ = false := Blk.free PF.out 5)
         (try have ff51c : wF.cell? ⟨wA.heap.size, 5, none⟩ = some (.slice none 0 0) := Blk.cell PF.out 5)
         (try have ff51f : wF.frozen? ⟨wA.heap.size, 5, none⟩ = false := Blk.free PF.out 5)
         (try have ff60c : wF.cell? ⟨W1.heap.size, 6, none⟩ = some (.int .i64 0) := Blk.cell PF.out 6)
         (try have ff60f : wF.frozen? ⟨W1.heap.size, 6, none⟩ = false := Blk.free PF.out 6)
         (try have ff61c : wF.cell? ⟨wA.heap.size, 6, none⟩ = some (.int .i64 0) := Blk.cell PF.out 6)
         (try have ff61f : wF.frozen? ⟨wA.heap.size, 6, none⟩ = false := Blk.free PF.out 6)
         (try have ff70c : wF.cell? ⟨W1.heap.size, 7, none⟩ = some (.int .i64 0) := Blk.cell PF.out 7)
         (try have ff70f : wF.frozen? ⟨W1.heap.size, 7, none⟩ = false := Blk.free PF.out 7)
         (try have ff71c : wF.cell? ⟨wA.heap.size, 7, none⟩ = some (.int .i64 0) := Blk.cell PF.out 7)
         (try have ff71f : wF.frozen? ⟨wA.heap.size, 7, none⟩ = false := Blk.free PF.out 7)
         (try have ff80c : wF.cell? ⟨W1.heap.size, 8, none⟩ = some (.bool false) := Blk.cell PF.out 8)
         (try have ff80f : wF.frozen? ⟨W1.heap.size, 8, none⟩ = false := Blk.free PF.out 8)
         (try have ff81c : wF.cell? ⟨wA.heap.size, 8, none⟩ = some (.bool false) := Blk.cell PF.out 8)
         (try have ff81f : wF.frozen? ⟨wA.heap.size, 8, none⟩ = false := Blk.free PF.out 8)
         clear hbF)
      | skip)
  all_goals
    (try go_wp2_with fail)
    refine HQQ.out _ _ _ _ _ _ _ _ ?_ ?_ (by go_grown)
  all_goals
    repeat (first
      | (with_reducible exact OA.out)
      | (with_reducible exact PA.out)
      | (with_reducible exact PF.out)
      | (with_reducible exact PV.out)
      | (with_reducible exact blk_nA _ _ _)
      | (with_reducible refine blk_9A ?_)
      | (with_reducible refine own_9A ?_ ?_)
      | (with_reducible refine own_aA ?_ _)
      | (with_reducible refine blk_aA ?_ _))

end Go.Proofs.Ytmdmjnffnjlgmaa
