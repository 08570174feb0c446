/- Words that the proofs of layer 3 share: what stays of memory; strings as lists of bytes; names of the library's. No conditions. What the nodes' pods ask for, added up, is what the pods that run ask for; what is counted on the nodes is what runs: numbers only. Conditions: each pod is on one of the nodes or waits. If a pod is taken off its node, no clause of nodes, of terms, of taints, of those apart, of doubles is broken by more than ahead. In numbers only. What a step makes worse is about its pod, its node, its pod's owner, or about a pod that asks for somebody near, or is of the same owner. In numbers only. Steps as arguments, opened. No conditions but the form's own. (KOpenN and LawKSteps have their own copies: never import both.) A placement that may be, made out of numbers: the contract of fitted. Condition: the cluster and the numbers lie in memory. A step that fits a placement, made out of numbers: the contract of layer 10's next. Conditions: the cluster and the numbers lie in memory; there are a pod and a node. What a step that fits a placement is answered by, where it may not be done: numbers alone. Conditions: the placement may be; there are a pod and a node. The owner of a pod: the contract of layer 10's name. Conditions: the cluster lies in memory, and the pod is one of its. A cluster of which the first 12 nodes, 30 pods, 12 owners are looked at. Condition: it lies in memory. What is worse by a step is about its pod, its node, its owner, or about a pod that asks for somebody near, or is of the same owner: the law's walk. Condition: the arguments lie in memory. -/
import Derived.Test.YtiiheajieegdkaaGreatA09
import Derived.Test.YtiiheajieegdkaaGreatChecked
import Derived.WalkKit
import Derived.Below
import Derived.Outline
import Derived.Lib.Hide
import Derived.Lib.OthersKept
import Derived.Deep.DeepFit
import Derived.BigQuiet
import Derived.Deep.QuietTactic
import Derived.Deep.Draws
import Derived.Laws.Rows
import Derived.Laws.OwnMore
import Derived.IntWalk
import Derived.WalkSpells
import Derived.WalkLawsBesides
import Derived.Laws.CopyOwn
import Derived.Laws.Concat

namespace Go.Proofs.YtiiheajieegdkaaGreat
open Go.RowKit

/-- One more store into the block that may turn. -/
theorem grown_set {a w : World} {g : Nat} (h : a.grownBy w (some g)) (i : Nat) (u : Value) : a.grownBy (w.setCell ⟨g, i, none⟩ u) (some g) :=
  ⟨h.os, h.tape, h.output, by simpa [World.setCell] using h.size, fun j hj hne => (Below.heap_setCell w ⟨g, i, none⟩ u j (fun e => hne (by rw [e]))).trans (h.block j hj hne)⟩
section
variable {w w' : World} {b : Nat} {cs : Array Value} {t : TypeId}
end

end Go.Proofs.YtiiheajieegdkaaGreat

namespace Go.Proofs.YtiiheajieegdkaaGreat
open Go.RowKit

theorem reqS_append (ps : List PodD) (k : Nat) (a b : List Nat) : reqS ps k (a ++ b) = reqS ps k a + reqS ps k b := by
  unfold reqS
  rw [List.map_append, List.sum_append]

end Go.Proofs.YtiiheajieegdkaaGreat

namespace Go.Proofs.YtiiheajieegdkaaGreat
open Go.RowKit

section
variable {ns : List NodeD} {ps : List PodD} {os : List OwnD} {p : List Int} {i : Nat}
theorem off_at (hi : i < p.length) (k : Nat) : (p.set i (-1))[k]? = if k = i then some (-1) else p[k]? := by
  rw [List.getElem?_set]
  by_cases h : i = k
  · subst h
    simp [hi]
  · rw [if_neg h, if_neg (fun e => h e.symm)]
theorem off_place (hE : placeE ns ps os p = 0) : placeE ns ps os (p.set i (-1)) = 0 := by
  obtain ⟨h1, h2, h3⟩ := placeE_zero hE
  unfold placeE
  rw [if_pos h1, if_pos (by simpa using h2), if_pos]
  rw [List.all_eq_true]
  intro x hx
  rcases List.mem_or_eq_of_mem_set hx with h | rfl
  · exact h3 x h
  · simp [okB]
theorem reqAt_pos {j : Nat} (h : ∀ x ∈ ps, 0 ≤ x.req j ∧ x.req j ≤ 1099511627776) (y : Nat) : 0 ≤ reqAt ps j y := by
  unfold reqAt
  split
  · rename_i x hx
    exact (h x (List.mem_of_getElem? hx)).1
  · omega
theorem off_req (hi : i < p.length) {n : Int} (hn : 0 ≤ n) {j : Nat} (h : ∀ x ∈ ps, 0 ≤ x.req j ∧ x.req j ≤ 1099511627776) : ∀ k, reqS ps j (onU (p.set i (-1)) n k) ≤ reqS ps j (onU p n k)
  | 0 => Int.le_refl _
  | k + 1 => by
    have ih := off_req hi hn h k
    rw [onU, onU, reqS_append, reqS_append, off_at hi]
    have hz : reqS ps j [] = 0 := rfl
    have h1 : reqS ps j [k] = reqAt ps j k := by simp [reqS]
    have hp := reqAt_pos h k
    by_cases hk : k = i
    · rw [if_pos hk, if_neg (by intro e; have := Option.some.inj e; omega), hz]
      split
      · rw [h1]
        omega
      · rw [hz]
        omega
    · rw [if_neg hk]
      omega
theorem off_addW (hi : i < p.length) {n : Int} (hn : 0 ≤ n) {j : Nat} (h : ∀ x ∈ ps, 0 ≤ x.req j ∧ x.req j ≤ 1099511627776) (hl : p.length ≤ 1000) : addW ps (onU (p.set i (-1)) n (p.set i (-1)).length) j ≤ addW ps (onU p n p.length) j := by
  rw [List.length_set]
  have h1 := off_req hi hn h p.length
  have h2 := reqS_bounds h (onU (p.set i (-1)) n p.length)
  have h3 := reqS_bounds h (onU p n p.length)
  have l2 := onU_len (p.set i (-1)) n p.length
  have l3 := onU_len p n p.length
  rw [addW_is, addW_is]
  unfold wrap64
  omega
theorem off_about (hi : i < p.length) {pod : Nat} (hpod : pod ≠ i) (topo : List UInt8) (terms : List T3) (others : Bool) (k : Nat) (h : aboutB ns ps (p.set i (-1)) pod topo terms others k = true) : aboutB ns ps p pod topo terms others k = true := by
  unfold aboutB at h ⊢
  rw [off_at hi, off_at hi, if_neg hpod] at h
  by_cases hk : k = i
  · rw [if_pos hk] at h
    exfalso
    revert h
    cases p[pod]? with
    | none => simp
    | some xp =>
      cases ps[k]? with
      | none => simp
      | some y => simp
  · rwa [if_neg hk] at h
theorem off_aboutU (hi : i < p.length) {pod : Nat} (hpod : pod ≠ i) (topo : List UInt8) (terms : List T3) (others : Bool) : ∀ k, aboutU ns ps (p.set i (-1)) pod topo terms others k ≤ aboutU ns ps p pod topo terms others k
  | 0 => Nat.le_refl _
  | k + 1 => by
    have ih := off_aboutU hi hpod topo terms others k
    rw [aboutU, aboutU]
    by_cases h : aboutB ns ps (p.set i (-1)) pod topo terms others k = true
    · rw [if_pos h, if_pos (off_about hi hpod topo terms others k h)]
      omega
    · rw [if_neg h]
      split <;> omega
theorem off_doub (hi : i < p.length) {pod q : Nat} (hpod : pod ≠ i) (hq : p[pod]? = some (q : Int)) : ∀ k, doubU ps (p.set i (-1)) pod k ≤ doubU ps p pod k
  | 0 => Nat.le_refl _
  | k + 1 => by
    have ih := off_doub hi hpod hq k
    rw [doubU, doubU, off_at hi, off_at hi, if_neg hpod]
    by_cases hk : k = i
    · rw [if_pos hk, if_neg (by
        rintro ⟨_, h, _⟩
        rw [hq] at h
        have := Option.some.inj h
        omega)]
      split <;> omega
    · rw [if_neg hk]
      omega
/-- A clause about a pod that is still there: it was there, and by no less. -/
theorem off_of (hi : i < p.length) (kind j : Nat) (h4 : kind ≠ 4) {b : Nat} (hb : ofU ns ps os (p.set i (-1)) kind j = some b) : ∃ b', ofU ns ps os p kind j = some b' ∧ b ≤ b' := by
  have hne : j ≠ i := by
    rintro rfl
    rw [ofU_wait (by rw [off_at hi, if_pos rfl])] at hb
    cases hb
  have hqj : (p.set i (-1))[j]? = p[j]? := by rw [off_at hi, if_neg hne]
  unfold ofU at hb
  rw [hqj] at hb
  cases hpj : p[j]? with
  | none => rw [hpj] at hb; cases hb
  | some v =>
    rw [hpj] at hb
    cases hx : ps[j]? with
    | none => rw [hx] at hb; cases hb
    | some x =>
      rw [hx] at hb
      dsimp only at hb
      by_cases hv : v < 0
      · rw [if_pos hv] at hb
        cases hb
      · rw [if_neg hv] at hb
        obtain ⟨q, rfl⟩ : ∃ q : Nat, v = (q : Int) := ⟨v.toNat, by omega⟩
        rw [Int.toNat_natCast] at hb
        cases hn : ns[q]? with
        | none => rw [hn] at hb; cases hb
        | some n =>
          rw [hn] at hb
          dsimp only at hb
          rw [ofU_at hpj hx hn]
          split at hb
          · rename_i e
            rw [if_pos e]
            exact ⟨_, rfl, by rw [← Option.some.inj hb]; exact Nat.le_refl _⟩
          · rename_i e2
            rw [if_neg e2]
            split at hb
            · rename_i e
              rw [if_pos e]
              exact ⟨_, rfl, by rw [← Option.some.inj hb]; exact Nat.le_refl _⟩
            · rename_i e3
              rw [if_neg e3, if_neg h4]
              try rw [if_neg h4] at hb
              split at hb
              · rename_i e
                rw [if_pos e]
                split at hb
                · cases hb
                · rename_i ha
                  rw [if_neg ha]
                  refine ⟨_, rfl, ?_⟩
                  rw [← Option.some.inj hb, List.length_set]
                  exact off_aboutU hi hne x.ap x.apm true p.length
              · rename_i e5
                rw [if_neg e5]
                split at hb
                · cases hb
                · rename_i ho
                  rw [if_neg ho]
                  split at hb
                  · rename_i hs
                    rw [if_pos hs]
                    refine ⟨_, rfl, ?_⟩
                    rw [← Option.some.inj hb, List.length_set]
                    exact off_doub hi hne hpj p.length
                  · cases hb
theorem off_caps (hE : placeE ns ps os p = 0) (hi : i < p.length) (hl : p.length ≤ 1000) : ∀ k, k ≤ ns.length → ∀ c ∈ capsU ns ps (p.set i (-1)) k, ∃ b', (c.1, c.2.1, c.2.2.1, b') ∈ capsU ns ps p k ∧ c.2.2.2 ≤ b'
  | 0, _, c, h => by simp [capsU] at h
  | k + 1, hk, c, h => by
    obtain ⟨x, hx⟩ : ∃ x, ns[k]? = some x := ⟨ns[k], List.getElem?_eq_getElem hk⟩
    rw [capsU, hx, List.mem_append] at h
    rcases h with h | h
    · obtain ⟨b', h1, h2⟩ := off_caps hE hi hl k (by omega) c h
      exact ⟨b', by rw [capsU]; exact List.mem_append_left _ h1, h2⟩
    · dsimp only at h
      unfold capN at h
      obtain ⟨q, hq, rfl⟩ := List.mem_map.1 h
      have hq5 : q < 5 := by simpa using hq
      have hck := placeE_chk hE
      have hrb := fun (y : PodD) (hy : y ∈ ps) => req_bounds hck hy q hq5
      have ha := off_addW (ps := ps) hi (show (0 : Int) ≤ (k : Int) by omega) hrb hl
      have hcb := cap_bounds hck (List.mem_of_getElem? hx) q hq5
      have hb1 := addW_bounds hrb (onU (p.set i (-1)) (k : Int) (p.set i (-1)).length) (Nat.le_trans (onU_len _ _ _) (by rw [List.length_set]; exact hl))
      have hb2 := addW_bounds hrb (onU p (k : Int) p.length) (Nat.le_trans (onU_len _ _ _) hl)
      refine ⟨max 0 (wrap64 (addW ps (onU p (k : Int) p.length) q - x.cap q)), ?_, ?_⟩
      · rw [capsU, hx]
        exact List.mem_append_right _ (List.mem_map.2 ⟨q, hq, rfl⟩)
      · show max 0 (wrap64 (addW ps (onU (p.set i (-1)) (k : Int) (p.set i (-1)).length) q - x.cap q)) ≤ max 0 (wrap64 (addW ps (onU p (k : Int) p.length) q - x.cap q))
        unfold wrap64
        omega
theorem off_pods (hi : i < p.length) (kind : Nat) (h4 : kind ≠ 4) : ∀ k, ∀ c ∈ podsU ns ps os (p.set i (-1)) kind k, ∃ b', (c.1, c.2.1, c.2.2.1, b') ∈ podsU ns ps os p kind k ∧ c.2.2.2 ≤ b'
  | 0, c, h => by simp [podsU] at h
  | k + 1, c, h => by
    rw [podsU, List.mem_append] at h
    rcases h with h | h
    · obtain ⟨b', h1, h2⟩ := off_pods hi kind h4 k c h
      exact ⟨b', by rw [podsU]; exact List.mem_append_left _ h1, h2⟩
    · unfold podR at h
      cases hb : ofU ns ps os (p.set i (-1)) kind k with
      | none => rw [hb] at h; simp at h
      | some b =>
        rw [hb] at h
        simp at h
        subst h
        obtain ⟨b', hb', hle⟩ := off_of hi kind k h4 hb
        refine ⟨(b' : Int), ?_, ?_⟩
        · rw [podsU]
          refine List.mem_append_right _ ?_
          unfold podR
          rw [hb']
          simp
        · show (b : Int) ≤ (b' : Int)
          omega
theorem off_kinds (hi : i < p.length) : ∀ k, ∀ c ∈ kindsU ns ps os (p.set i (-1)) k, c.1 ≠ 4 → ∃ b', (c.1, c.2.1, c.2.2.1, b') ∈ kindsU ns ps os p k ∧ c.2.2.2 ≤ b'
  | 0, c, h, _ => by simp [kindsU] at h
  | k + 1, c, h, h4 => by
    rw [kindsU, List.mem_append] at h
    rcases h with h | h
    · obtain ⟨b', h1, h2⟩ := off_kinds hi k c h h4
      exact ⟨b', by rw [kindsU]; exact List.mem_append_left _ h1, h2⟩
    · have hk := pods_kind ns ps os (p.set i (-1)) (k + 2) _ c h
      rw [List.length_set] at h
      obtain ⟨b', h1, h2⟩ := off_pods hi (k + 2) (by omega) p.length c h
      exact ⟨b', by rw [kindsU]; exact List.mem_append_right _ h1, h2⟩
/-- What is found of it ahead is no less. -/
theorem off_find (hE : placeE ns ps os p = 0) (hi : i < p.length) (hl : p.length ≤ 1000) {c : ClT} (hc : c ∈ all8 ns ps os (p.set i (-1))) (h4 : c.1 ≠ 4) (h7 : c.1 ≠ 7) (h8 : c.1 ≠ 8) : c.2.2.2 ≤ (findC (all8 ns ps os p) c.1 c.2.1 c.2.2.1).getD 0 := by
  have key : ∃ b', (c.1, c.2.1, c.2.2.1, b') ∈ all8 ns ps os p ∧ c.2.2.2 ≤ b' := by
    unfold all8 at hc ⊢
    rw [if_pos (off_place hE)] at hc
    rw [if_pos hE]
    unfold allU at hc ⊢
    simp only [List.mem_append] at hc ⊢
    rcases hc with ((hc | hc) | hc) | hc
    · obtain ⟨b', h1, h2⟩ := off_caps hE hi hl _ (Nat.le_refl _) c hc
      exact ⟨b', .inl (.inl (.inl h1)), h2⟩
    · obtain ⟨b', h1, h2⟩ := off_kinds hi 5 c hc h4
      exact ⟨b', .inl (.inl (.inr h1)), h2⟩
    · have := spreads_kind ns ps os _ _ c hc
      omega
    · have := mins_kind ns ps os _ _ c hc
      omega
  obtain ⟨b', hm, hle⟩ := key
  have := find_rise (all8_rise ns ps os p) hm
  dsimp only at this
  rw [this]
  exact hle
end
end Go.Proofs.YtiiheajieegdkaaGreat

namespace Go.Proofs.YtiiheajieegdkaaGreat
open Go.RowKit


section
variable {ns : List NodeD} {ps : List PodD} {os : List OwnD} {p : List Int} {i : Nat} {y z : Int}
theorem set_at (hi : i < p.length) (k : Nat) : (p.set i z)[k]? = if k = i then some z else p[k]? := by
  rw [List.getElem?_set]
  by_cases h : i = k
  · subst h
    simp [hi]
  · rw [if_neg h, if_neg (fun e => h e.symm)]
theorem set_on (hi : i < p.length) (hy : p[i]? = some y) {n : Int} (h1 : y ≠ n) (h2 : z ≠ n) : ∀ k, onU (p.set i z) n k = onU p n k
  | 0 => rfl
  | k + 1 => by
    rw [onU, onU, set_on hi hy h1 h2 k, set_at hi]
    by_cases hk : k = i
    · subst hk
      rw [if_pos rfl, hy, if_neg (fun e => h2 (Option.some.inj e)), if_neg (fun e => h1 (Option.some.inj e))]
    · rw [if_neg hk]
theorem set_caps (hi : i < p.length) (hy : p[i]? = some y) : ∀ k, ∀ c ∈ capsU ns ps (p.set i z) k, y ≠ c.2.1 → z ≠ c.2.1 → c ∈ capsU ns ps p k
  | 0, c, h, _, _ => by simp [capsU] at h
  | k + 1, c, h, h1, h2 => by
    rw [capsU, List.mem_append] at h ⊢
    rcases h with h | h
    · exact .inl (set_caps hi hy k c h h1 h2)
    · right
      cases hx : ns[k]? with
      | none => rw [hx] at h; simp at h
      | some x =>
        rw [hx] at h
        dsimp only at h ⊢
        unfold capN at h ⊢
        obtain ⟨q, hq, rfl⟩ := List.mem_map.1 h
        refine List.mem_map.2 ⟨q, hq, ?_⟩
        have h1 : y ≠ (k : Int) := h1
        have h2 : z ≠ (k : Int) := h2
        unfold capC
        rw [List.length_set, set_on hi hy h1 h2]
theorem set_doub (hi : i < p.length) {a : Nat} (ha : a ≠ i) (ho : (ps[i]?).map (·.owner) ≠ (ps[a]?).map (·.owner)) : ∀ k, doubU ps (p.set i z) a k = doubU ps p a k
  | 0 => rfl
  | k + 1 => by
    rw [doubU, doubU, set_doub hi ha ho k, set_at hi, set_at hi, if_neg ha]
    by_cases hk : k = i
    · subst hk
      rw [if_neg (fun h => ho h.2.2), if_neg (fun h => ho h.2.2)]
    · rw [if_neg hk]
theorem set_of (hi : i < p.length) {kind a : Nat} (ha : a ≠ i) (hk : kind = 2 ∨ kind = 3 ∨ (kind ≠ 2 ∧ kind ≠ 3 ∧ kind ≠ 4 ∧ kind ≠ 5 ∧ (ps[i]?).map (·.owner) ≠ (ps[a]?).map (·.owner))) : ofU ns ps os (p.set i z) kind a = ofU ns ps os p kind a := by
  unfold ofU
  rw [set_at hi, if_neg ha]
  cases p[a]? with
  | none => rfl
  | some q =>
    cases ps[a]? with
    | none => rfl
    | some x =>
      dsimp only
      by_cases hq : q < 0
      · rw [if_pos hq, if_pos hq]
      · rw [if_neg hq, if_neg hq]
        cases ns[q.toNat]? with
        | none => rfl
        | some n =>
          dsimp only
          rcases hk with h | h | ⟨h2, h3, h4, h5, ho⟩
          · rw [if_pos h, if_pos h]
          · subst h
            rfl
          · rw [if_neg h2, if_neg h3, if_neg h4, if_neg h5, if_neg h2, if_neg h3, if_neg h4, if_neg h5, List.length_set]
            by_cases hpi : ∃ x', ps[a]? = some x'
            · rw [set_doub hi ha ho]
            · rw [set_doub hi ha ho]
theorem of_near {kind a b : Nat} (hk : kind = 4 ∨ kind = 5) (h : ofU ns ps os p kind a = some b) : ∃ x, ps[a]? = some x ∧ (x.wt ≠ [] ∨ x.ap ≠ []) := by
  unfold ofU at h
  cases hp : p[a]? with
  | none => rw [hp] at h; cases h
  | some q =>
    rw [hp] at h
    cases hx : ps[a]? with
    | none => rw [hx] at h; cases h
    | some x =>
      rw [hx] at h
      dsimp only at h
      refine ⟨x, rfl, ?_⟩
      by_cases hq : q < 0
      · rw [if_pos hq] at h; cases h
      · rw [if_neg hq] at h
        cases hn : ns[q.toNat]? with
        | none => rw [hn] at h; cases h
        | some n =>
          rw [hn] at h
          dsimp only at h
          rcases hk with rfl | rfl
          · left
            intro e
            simp [e] at h
          · right
            intro e
            simp [e] at h
theorem pods_at {kind : Nat} : ∀ k, ∀ c ∈ podsU ns ps os p kind k, ∃ a b : Nat, a < k ∧ ofU ns ps os p kind a = some b ∧ c = ((kind : Int), (a : Int), 0, (b : Int))
  | 0, c, h => by simp [podsU] at h
  | k + 1, c, h => by
    rw [podsU, List.mem_append] at h
    rcases h with h | h
    · obtain ⟨a, b, h1, h2, h3⟩ := pods_at k c h
      exact ⟨a, b, by omega, h2, h3⟩
    · unfold podR at h
      cases hb : ofU ns ps os p kind k with
      | none => rw [hb] at h; simp at h
      | some b =>
        rw [hb] at h
        simp at h
        exact ⟨k, b, by omega, hb, h⟩
theorem pods_in {kind a b : Nat} (hb : ofU ns ps os p kind a = some b) : ∀ k, a < k → ((kind : Int), (a : Int), (0 : Int), (b : Int)) ∈ podsU ns ps os p kind k
  | 0, h => by omega
  | k + 1, h => by
    rw [podsU, List.mem_append]
    by_cases e : a = k
    · subst e
      right
      unfold podR
      rw [hb]
      simp
    · exact .inl (pods_in hb k (by omega))
theorem kinds_at : ∀ k, ∀ c ∈ kindsU ns ps os p k, ∃ kind a b : Nat, 2 ≤ kind ∧ kind < k + 2 ∧ a < p.length ∧ ofU ns ps os p kind a = some b ∧ c = ((kind : Int), (a : Int), 0, (b : Int))
  | 0, c, h => by simp [kindsU] at h
  | k + 1, c, h => by
    rw [kindsU, List.mem_append] at h
    rcases h with h | h
    · obtain ⟨kind, a, b, h1, h2, h3⟩ := kinds_at k c h
      exact ⟨kind, a, b, h1, by omega, h3⟩
    · obtain ⟨a, b, h1, h2, h3⟩ := pods_at p.length c h
      exact ⟨k + 2, a, b, by omega, by omega, h1, h2, h3⟩
theorem kinds_in {kind a b : Nat} (h2 : 2 ≤ kind) (ha : a < p.length) (hb : ofU ns ps os p kind a = some b) : ∀ k, kind < k + 2 → ((kind : Int), (a : Int), (0 : Int), (b : Int)) ∈ kindsU ns ps os p k
  | 0, h => by omega
  | k + 1, h => by
    rw [kindsU, List.mem_append]
    by_cases e : kind = k + 2
    · subst e
      exact .inr (pods_in hb _ ha)
    · exact .inl (kinds_in h2 ha hb k (by omega))
theorem members_not {name : List UInt8} {x : PodD} (hx : ps[i]? = some x) (hne : x.owner ≠ name) : ∀ k, ∀ m ∈ membersU ps name k, m.toNat ≠ i
  | 0, m, h => by simp [membersU] at h
  | k + 1, m, h => by
    rw [membersU, List.mem_append] at h
    rcases h with h | h
    · exact members_not hx hne k m h
    · cases hk : ps[k]? with
      | none => rw [hk] at h; simp at h
      | some u =>
        rw [hk] at h
        dsimp only at h
        by_cases e : u.owner = name
        · rw [if_pos e] at h
          simp at h
          subst h
          intro e'
          have : k = i := by simpa using e'
          subst this
          rw [hx] at hk
          cases hk
          exact hne e
        · rw [if_neg e] at h
          simp at h
theorem set_off (hi : i < p.length) {M : List Int} (h : ∀ m ∈ M, m.toNat ≠ i) : offL (p.set i z) M = offL p M := by
  unfold offL
  refine List.filter_congr fun k hk => ?_
  obtain ⟨m, hm, rfl⟩ := List.mem_map.1 hk
  rw [set_at hi, if_neg (h m hm)]
theorem off_mem {M : List Int} {k : Nat} (h : k ∈ offL p M) : ∃ m ∈ M, m.toNat = k := by
  unfold offL at h
  obtain ⟨m, hm, e⟩ := List.mem_map.1 (List.mem_filter.1 h).1
  exact ⟨m, hm, e⟩
theorem set_spreadD (hi : i < p.length) (key : List UInt8) : ∀ (ys : List Nat) (D : DataW Unit), (∀ k ∈ ys, k ≠ i) → ys.foldl (spreadS ns key (p.set i z)) D = ys.foldl (spreadS ns key p) D
  | [], _, _ => rfl
  | k :: t, D, h => by
    have e : spreadS ns key (p.set i z) D k = spreadS ns key p D k := by
      unfold spreadS
      rw [set_at hi, if_neg (h k (by simp))]
    rw [List.foldl_cons, List.foldl_cons, e]
    exact set_spreadD hi key t _ (fun x hx => h x (by simp [hx]))
theorem set_spreadF (hE : placeE ns ps os p = 0) (hE2 : placeE ns ps os (p.set i z) = 0) (hi : i < p.length) {x : PodD} (hx : ps[i]? = some x) {k : Nat} {o : OwnD} (ho : os[k]? = some o) (hne : x.owner ≠ o.name) : spreadF ns ps os (p.set i z) (k : Int) = spreadF ns ps os p (k : Int) := by
  unfold spreadF ownerB
  rw [hE, hE2, Int.toNat_natCast, ho]
  dsimp only
  have hM := members_not (k := ps.length) hx hne
  unfold membersF
  rw [set_off hi hM]
  have e : spreadD ns o.topo (p.set i z) (offL p (membersU ps o.name ps.length)) = spreadD ns o.topo p (offL p (membersU ps o.name ps.length)) := by
    unfold spreadD
    refine set_spreadD hi _ _ _ fun k hk => ?_
    obtain ⟨m, hm, e⟩ := off_mem hk
    rw [← e]
    exact hM m hm
  rw [e]
theorem set_placedF (hE : placeE ns ps os p = 0) (hE2 : placeE ns ps os (p.set i z) = 0) (hi : i < p.length) {x : PodD} (hx : ps[i]? = some x) {k : Nat} {o : OwnD} (ho : os[k]? = some o) (hne : x.owner ≠ o.name) : placedF ns ps os (p.set i z) (k : Int) = placedF ns ps os p (k : Int) := by
  unfold placedF ownerB ofF
  rw [hE, hE2, Int.toNat_natCast, ho]
  dsimp only
  unfold membersF
  rw [set_off hi (members_not hx hne ps.length)]
theorem spreads_at : ∀ k, ∀ c ∈ spreadsU ns ps os p k, ∃ (a : Nat) (o : OwnD), a < k ∧ os[a]? = some o ∧ o.topo ≠ [] ∧ c = (7, (a : Int), 0, skewO (spreadF ns ps os p (a : Int)) o.skew)
  | 0, c, h => by simp [spreadsU] at h
  | k + 1, c, h => by
    rw [spreadsU, List.mem_append] at h
    rcases h with h | h
    · obtain ⟨a, o, h1, h2⟩ := spreads_at k c h
      exact ⟨a, o, by omega, h2⟩
    · unfold spreadR at h
      cases ho : os[k]? with
      | none => rw [ho] at h; simp at h
      | some o =>
        rw [ho] at h
        dsimp only at h
        by_cases ht : o.topo = []
        · rw [if_pos ht] at h; simp at h
        · rw [if_neg ht] at h
          simp at h
          exact ⟨k, o, by omega, ho, ht, h⟩
theorem spreads_in {a : Nat} {o : OwnD} (ho : os[a]? = some o) (ht : o.topo ≠ []) : ∀ k, a < k → ((7 : Int), (a : Int), (0 : Int), skewO (spreadF ns ps os p (a : Int)) o.skew) ∈ spreadsU ns ps os p k
  | 0, h => by omega
  | k + 1, h => by
    rw [spreadsU, List.mem_append]
    by_cases e : a = k
    · subst e
      right
      unfold spreadR
      rw [ho]
      dsimp only
      rw [if_neg ht]
      simp
    · exact .inl (spreads_in ho ht k (by omega))
theorem mins_at : ∀ k, ∀ c ∈ minsU ns ps os p k, ∃ (a : Nat) (o : OwnD), a < k ∧ os[a]? = some o ∧ c = (8, (a : Int), 0, max 0 (wrap64 (o.min - placedF ns ps os p (a : Int))))
  | 0, c, h => by simp [minsU] at h
  | k + 1, c, h => by
    rw [minsU, List.mem_append] at h
    rcases h with h | h
    · obtain ⟨a, o, h1, h2⟩ := mins_at k c h
      exact ⟨a, o, by omega, h2⟩
    · unfold minR at h
      cases ho : os[k]? with
      | none => rw [ho] at h; simp at h
      | some o =>
        rw [ho] at h
        simp at h
        exact ⟨k, o, by omega, ho, by simpa using h⟩
theorem mins_in {a : Nat} {o : OwnD} (ho : os[a]? = some o) : ∀ k, a < k → ((8 : Int), (a : Int), (0 : Int), max 0 (wrap64 (o.min - placedF ns ps os p (a : Int)))) ∈ minsU ns ps os p k
  | 0, h => by omega
  | k + 1, h => by
    rw [minsU, List.mem_append]
    by_cases e : a = k
    · subst e
      right
      unfold minR
      rw [ho]
      simp
    · exact .inl (mins_in ho k (by omega))
/-- The first owner of that name. -/
def nameU (os : List OwnD) (name : List UInt8) : Nat → Option Nat
  | 0 => none
  | k + 1 => match nameU os name k with
    | some a => some a
    | none => match os[k]? with
      | some o => if o.name = name then some k else none
      | none => none
def nameI (os : List OwnD) (name : List UInt8) (k : Nat) : Int := match nameU os name k with
  | some a => (a : Int)
  | none => -1
theorem name_none {name : List UInt8} : ∀ k, (∀ (j : Nat) (o : OwnD), j < k → os[j]? = some o → o.name ≠ name) → nameU os name k = none
  | 0, _ => rfl
  | k + 1, h => by
    rw [nameU, name_none k (fun j o hj ho => h j o (by omega) ho)]
    dsimp only
    cases ho : os[k]? with
    | none => rfl
    | some o =>
      dsimp only
      rw [if_neg (h k o (by omega) ho)]
theorem name_at (hd : os.Pairwise (fun a b => a.name ≠ b.name)) {a : Nat} {o : OwnD} (ho : os[a]? = some o) : ∀ k, a < k → nameU os o.name k = some a
  | 0, h => by omega
  | k + 1, h => by
    by_cases e : a = k
    · subst e
      rw [nameU, name_none a (fun j u hj hu => by
        obtain ⟨h1, rfl⟩ := List.getElem?_eq_some_iff.1 hu
        obtain ⟨h2, rfl⟩ := List.getElem?_eq_some_iff.1 ho
        exact List.pairwise_iff_getElem.1 hd j a h1 h2 hj), ho]
      simp
    · rw [nameU, name_at hd ho k (by omega)]

/-- What is worse by a step of pod i (onto node n, if it is a bind) may be said to be about. -/
def NearOk (ps : List PodD) (os : List OwnD) (i : Nat) (b : Bool) (n : Int) (c : ClT) : Prop :=
  (c.1 = 1 ∧ b = true ∧ c.2.1 = n) ∨ ((c.1 = 2 ∨ c.1 = 3) ∧ b = true ∧ c.2.1 = (i : Int)) ∨
  ((c.1 = 4 ∨ c.1 = 5) ∧ ∃ (a : Nat) (x : PodD), c.2.1 = (a : Int) ∧ ps[a]? = some x ∧ (x.wt ≠ [] ∨ x.ap ≠ [])) ∨
  (c.1 = 6 ∧ b = true ∧ ∃ (a : Nat) (x u : PodD), c.2.1 = (a : Int) ∧ ps[a]? = some x ∧ ps[i]? = some u ∧ x.owner = u.owner) ∨
  ((c.1 = 7 ∨ c.1 = 8) ∧ ∃ u : PodD, ps[i]? = some u ∧ c.2.1 = nameI os u.owner os.length)
theorem was_in {L : List ClT} (hr : L.Pairwise Rise3) {c : ClT} (h : c ∈ L) : worC L c = false := by
  unfold worC was9
  rw [find_rise hr h]
  simp
/-- Off or on: what is worse by more is of a kind. -/
theorem near_set (hE : placeE ns ps os p = 0) (hE2 : placeE ns ps os (p.set i z) = 0) (hd : os.Pairwise (fun a b => a.name ≠ b.name)) (hi : i < p.length) (hy : p[i]? = some y) {c : ClT} (hc : c ∈ all8 ns ps os (p.set i z)) (hw : worC (all8 ns ps os p) c = true) :
    (c.1 = 1 ∧ (c.2.1 = y ∨ c.2.1 = z)) ∨ ((c.1 = 2 ∨ c.1 = 3) ∧ c.2.1 = (i : Int)) ∨
    ((c.1 = 4 ∨ c.1 = 5) ∧ ∃ (a : Nat) (x : PodD), c.2.1 = (a : Int) ∧ ps[a]? = some x ∧ (x.wt ≠ [] ∨ x.ap ≠ [])) ∨
    (c.1 = 6 ∧ ∃ (a : Nat) (x u : PodD), c.2.1 = (a : Int) ∧ ps[a]? = some x ∧ ps[i]? = some u ∧ x.owner = u.owner) ∨
    ((c.1 = 7 ∨ c.1 = 8) ∧ ∃ u : PodD, ps[i]? = some u ∧ c.2.1 = nameI os u.owner os.length) := by
  have hps := placeE_len hE
  obtain ⟨u, hu⟩ : ∃ u, ps[i]? = some u := ⟨ps[i]'(by omega), List.getElem?_eq_getElem _⟩
  have hno : c ∉ all8 ns ps os p := fun h => by
    rw [was_in (all8_rise ns ps os p) h] at hw
    cases hw
  have hin : ∀ {c : ClT}, c ∈ allU ns ps os p → c ∈ all8 ns ps os p := fun h => by
    unfold all8
    rw [if_pos hE]
    exact h
  unfold all8 at hc
  rw [if_pos hE2] at hc
  unfold allU at hc
  simp only [List.mem_append] at hc
  rcases hc with ((hc | hc) | hc) | hc
  · have hk := caps_kind ns ps _ _ c hc
    left
    refine ⟨hk.1, ?_⟩
    refine Classical.byContradiction fun h => hno (hin ?_)
    have := set_caps hi hy _ c hc (fun e => h (.inl e.symm)) (fun e => h (.inr e.symm))
    unfold allU
    simp only [List.mem_append]
    exact .inl (.inl (.inl this))
  · obtain ⟨kind, a, b, h2, h7, ha, hb, rfl⟩ := kinds_at 5 c hc
    rw [List.length_set] at ha
    have hback : ofU ns ps os p kind a ≠ some b := fun e => hno (hin (by
      unfold allU
      simp only [List.mem_append]
      exact .inl (.inl (.inr (kinds_in h2 ha e 5 h7)))))
    by_cases h45 : kind = 4 ∨ kind = 5
    · obtain ⟨x, hx, hxx⟩ := of_near h45 hb
      right; right; left
      refine ⟨?_, a, x, rfl, hx, hxx⟩
      show ((kind : Int) = 4 ∨ (kind : Int) = 5)
      omega
    · by_cases h23 : kind = 2 ∨ kind = 3
      · right; left
        refine ⟨?_, ?_⟩
        · show ((kind : Int) = 2 ∨ (kind : Int) = 3)
          omega
        · show (a : Int) = (i : Int)
          refine Classical.byContradiction fun h => hback ?_
          rw [← hb, set_of hi (by omega) (by omega)]
      · right; right; right; left
        refine ⟨?_, ?_⟩
        · show (kind : Int) = 6
          omega
        · obtain ⟨x, hx⟩ : ∃ x, ps[a]? = some x := ⟨ps[a]'(by omega), List.getElem?_eq_getElem _⟩
          refine ⟨a, x, u, rfl, hx, hu, ?_⟩
          refine Classical.byContradiction fun h => hback ?_
          by_cases hai : a = i
          · subst hai
            rw [hx] at hu
            cases hu
            exact absurd rfl h
          · rw [← hb, set_of hi hai (.inr (.inr ⟨by omega, by omega, by omega, by omega, by
              rw [hx, hu]
              simp only [Option.map_some]
              intro e
              exact h (Option.some.inj e).symm⟩))]
  · obtain ⟨a, o, ha, ho, ht, rfl⟩ := spreads_at _ c hc
    right; right; right; right
    refine ⟨.inl rfl, u, hu, ?_⟩
    by_cases hne : u.owner = o.name
    · unfold nameI
      rw [hne, name_at hd ho _ ha]
    · exfalso
      refine hno (hin ?_)
      rw [set_spreadF hE hE2 hi hu ho hne]
      unfold allU
      simp only [List.mem_append]
      exact .inl (.inr (spreads_in ho ht _ ha))
  · obtain ⟨a, o, ha, ho, rfl⟩ := mins_at _ c hc
    right; right; right; right
    refine ⟨.inr rfl, u, hu, ?_⟩
    by_cases hne : u.owner = o.name
    · unfold nameI
      rw [hne, name_at hd ho _ ha]
    · exfalso
      refine hno (hin ?_)
      rw [set_placedF hE hE2 hi hu ho hne]
      unfold allU
      simp only [List.mem_append]
      exact .inr (mins_in ho _ ha)
/-- A pod is taken off. -/
theorem near_off (hE : placeE ns ps os p = 0) (hl : p.length ≤ 1000) (hd : os.Pairwise (fun a b => a.name ≠ b.name)) (hi : i < p.length) (n : Int) {c : ClT} (hc : c ∈ worseU ns ps os p (p.set i (-1))) : NearOk ps os i false n c := by
  unfold worseU at hc
  obtain ⟨hc, hw⟩ := List.mem_filter.1 hc
  have hN := near_set hE (off_place hE) hd hi (List.getElem?_eq_getElem hi) hc hw
  have hlt : ¬ (c.1 ≠ 4 ∧ c.1 ≠ 7 ∧ c.1 ≠ 8) := fun ⟨h4, h7, h8⟩ => by
    have := off_find hE hi hl hc h4 h7 h8
    unfold worC was9 at hw
    have := of_decide_eq_true hw
    omega
  unfold NearOk
  rcases hN with h | h | h | h | h
  · omega
  · omega
  · exact .inr (.inr (.inl h))
  · omega
  · exact .inr (.inr (.inr (.inr h)))
/-- A pod is bound. -/
theorem near_on (hE : placeE ns ps os p = 0) (hd : os.Pairwise (fun a b => a.name ≠ b.name)) (hi : i < p.length) (hy : p[i]? = some (-1)) {n : Int} (hE2 : placeE ns ps os (p.set i n) = 0) {c : ClT} (hc : c ∈ worseU ns ps os p (p.set i n)) : NearOk ps os i true n c := by
  unfold worseU at hc
  obtain ⟨hc, hw⟩ := List.mem_filter.1 hc
  have hN := near_set hE hE2 hd hi hy hc hw
  unfold NearOk
  rcases hN with h | h | h | h | h
  · left
    refine ⟨h.1, rfl, ?_⟩
    rcases h.2 with e | e
    · exfalso
      unfold all8 at hc
      rw [if_pos hE2] at hc
      unfold allU at hc
      simp only [List.mem_append] at hc
      rcases hc with ((hc | hc) | hc) | hc
      · have := caps_kind ns ps _ _ c hc
        omega
      · have := kinds_kind ns ps os _ _ c hc
        omega
      · have := spreads_kind ns ps os _ _ c hc
        omega
      · have := mins_kind ns ps os _ _ c hc
        omega
    · exact e
  · exact .inr (.inl ⟨h.1, rfl, h.2⟩)
  · exact .inr (.inr (.inl h))
  · exact .inr (.inr (.inr (.inl ⟨h.1, rfl, h.2⟩)))
  · exact .inr (.inr (.inr (.inr h)))
end
end Go.Proofs.YtiiheajieegdkaaGreat

namespace Go.Proofs.YtiiheajieegdkaaGreat
open Go.ChangeShapes Go.WideShapes Go.ChangeAt Go.RowKit Go.Deep

section
variable {H : Type} {enc : TypeId × Value → H} {W : World} {held : Bool}
end
set_option maxRecDepth 100000 in
theorem open_step {H : Type} {enc : TypeId × Value → H} {W : World} {r : Reach} {b0 : Nat} {held : Bool} {v : Value} {d : DataW H} {p : List MemPlace}
    (hv : Value.okWide Tryz.prog W r b0 63 v) (h : DataW.Trod enc Tryz.prog W 0 (fun _ => true) held 63 v d p) :
    ∃ x : S3T, v = stepV x.1 x.2.1 x.2.2 := by
  simp only [Value.okWide, Tryz.underlying63] at hv
  obtain ⟨cs, rfl, _, _⟩ := hv
  obtain ⟨fuel, hf⟩ := h
  obtain ⟨x, e⟩ := step_row _ _ _ hf
  refine ⟨x, ?_⟩
  have e2 : cs.toList = [.int .i64 x.1, .int .i64 x.2.1, .int .i64 x.2.2] := e
  show Value.agg cs = .agg #[.int .i64 x.1, .int .i64 x.2.1, .int .i64 x.2.2]
  congr 1
  apply Array.ext'
  rw [e2]
end Go.Proofs.YtiiheajieegdkaaGreat

namespace Go.Proofs.YtiiheajieegdkaaGreat
open Go.RowKit

set_option maxRecDepth 100000 in
set_option maxHeartbeats 4000000 in
theorem fitted10_any (A B C P : Option Addr) (ca cb cc cp : Nat) (ns : List NodeD) (ps : List PodD) (os : List OwnD) (l : List Int) (w : World) (h : SnapAt w A B C ca cb cc ns ps os) (hp : IntsAt w P cp l) :
    Calls Tryz.prog 22 #[snapV A B C ca cb cc ns ps os, .slice P l.length cp] w fun e w' => ∃ v, e = .returned v ∧ w'.ownsRow w.heap.size 3 1 v ps.length (intsC (fitU ns l ps.length)) ∧ Below w.heap.size w w' := by
  have H := Lib.hid h
  have HP := Lib.hid hp
  have hlp := h.lp
  have hln := h.ln
  have hll : l.length ≤ 9223372036854775807 := Nat.le_trans hp.le hp.most
  have B0 : Hid (Below w.heap.size w (w.alloc (.cells (snapC A B C ca cb cc ns ps os) 26))) := Lib.hid (below1 w _)
  have S0 : Hid (Blk (w.alloc (.cells (snapC A B C ca cb cc ns ps os) 26)) w.heap.size (snapC A B C ca cb cc ns ps os) 26) := Lib.hid (Blk.new w _ _)
  obtain ⟨i0, hi0, hz0, hz1, hz2⟩ := info_parts Qu.int_info
  clear h hp
  go_enter Tryz.func22, Tryz.ntmps22
  go_wp2_with fail
  go_loopw [6, 5] (fun i v wr => ∃ k : Nat, k ≤ ps.length ∧ i = .int .i64 k ∧ wr.ownsRow w.heap.size 3 1 v k (intsC (fitU ns l k)) ∧ Below w.heap.size w wr ∧ Blk wr w.heap.size (snapC A B C ca cb cc ns ps os) 26) (fun i _ _ => ps.length - (intOf i).toNat)
  case atStart => exact ⟨0, by omega, rfl, World.ownsRow_nil _ _ _ _, B0.out, S0.out⟩
  case round =>
    clear B0 S0
    obtain ⟨k, hk, rfl, ho, hb, hs⟩ := hrel
    have HO := Lib.hid ho
    have HB := Lib.hid hb
    have HS := Lib.hid hs
    clear ho hb hs
    have s0 : wr.cell? ⟨w.heap.size, 0, none⟩ = some (.slice A ns.length ca) := Blk.cell HS.out 0
    have s1 : wr.cell? ⟨w.heap.size, 1, none⟩ = some (.slice B ps.length cb) := Blk.cell HS.out 1
    by_cases hlt : k < ps.length
    · have E : Hid (fitU ns l (k + 1) = fitU ns l k ++ [fit1 ns l k]) := Lib.hid rfl
      have E1 : Hid (fit1 ns l k = if tpB ns (fitN ns l k) then fitN ns l k else -1) := Lib.hid rfl
      have EN := Lib.hid (fitN_in ns l k)
      have k0 : (0 : Int) ≤ (k : Int) := by omega
      have k1 : (k : Int) < (ps.length : Int) := by omega
      have hkm : Hid (k + 1 ≤ maxLen) := Lib.hid (by unfold maxLen; omega)
      have hkc : Hid ((k + 1) * 8 ≤ 140737488355328) := Lib.hid (by omega)
      go_upto_if 18 with fail
      go_cut [7] (fun v wc => v = .int .i64 (fitN ns l k) ∧ (wc = wr ∨ wc = wr.drew))
      case first =>
        by_cases hkl : k < l.length
        · obtain ⟨x, hx⟩ : ∃ x, l[k]? = some x := ⟨l[k], List.getElem?_eq_getElem hkl⟩
          have FX : Hid (fitN ns l k = x % ((ns.length : Int) + 1) - 1) := Lib.hid (by unfold fitN; rw [hx])
          obtain ⟨b, o, hA, hbl, c0⟩ := atI (HP.out.below (HB.out.mono (Nat.le_refl _))).cells hx
          subst hA
          have k2 : (k : Int) < (l.length : Int) := by omega
          have hw1 : Hid (IntKind.i64.wrap ((ns.length : Int) + 1) = (ns.length : Int) + 1) := Lib.hid (IntWalk.i64_in _ (by omega))
          have BR := Lib.hid (fun W => Qu.bring_any x ((ns.length : Int) + 1) W (by omega) (by omega))
          have S0 : wr.drew.cell? ⟨w.heap.size, 0, none⟩ = some (.slice (A) ns.length ca) := s0
          have C0 : wr.drew.cell? ⟨b, o + k, none⟩ = some (.int .i64 x) := c0
          have em0 := Int.emod_nonneg x (show (ns.length : Int) + 1 ≠ 0 by omega)
          have em1 := Int.emod_lt_of_pos x (show (0 : Int) < (ns.length : Int) + 1 by omega)
          have hw2 : Hid (IntKind.i64.wrap (x % ((ns.length : Int) + 1) - 1) = x % ((ns.length : Int) + 1) - 1) := Lib.hid (IntWalk.i64_in _ (by omega))
          go_upto_region 7 with fail
          go_region_held3 (fun w' => w'.cell? ⟨w.heap.size, 0, none⟩ = some (.slice A ns.length ca) ∧ w'.cell? ⟨b, o + k, none⟩ = some (.int .i64 x))
            (first | (with_reducible exact ⟨S0, C0⟩) | (with_reducible exact ⟨s0, c0⟩) | go_keep)
            ((go_at_call 53; (rw [hw1.out]); (with_reducible refine (BR.out _).mono ?_); rintro e w3 ⟨rfl, rfl⟩))
          all_goals
            go_wp2_with fail
            go_meet
            exact ⟨by rw [FX.out, hw2.out], .inr rfl⟩
        · have FX : Hid (fitN ns l k = -1) := Lib.hid (by unfold fitN; rw [List.getElem?_eq_none (by omega)])
          go_wp2_with fail
          go_meet
          exact ⟨by rw [FX.out], .inl rfl⟩
      case rest =>
        obtain ⟨rfl, hwc⟩ := hcut
        have HO1 : Hid (wc.ownsRow w.heap.size 3 1 u5 k (intsC (fitU ns l k))) := by
          rcases hwc with rfl | rfl
          · exact HO
          · exact Lib.hid (show World.ownsRow wr.drew _ _ _ _ _ _ from HO.out)
        have HB1 : Hid (Below w.heap.size w wc) := by
          rcases hwc with rfl | rfl
          · exact HB
          · exact Lib.hid HB.out.drew
        have HS1 : Hid (Blk wc w.heap.size (snapC A B C ca cb cc ns ps os) 26) := by
          rcases hwc with rfl | rfl
          · exact HS
          · exact Lib.hid (show Blk wr.drew _ _ _ from HS.out)
        have z0 : wc.cell? ⟨w.heap.size, 0, none⟩ = some (.slice A ns.length ca) := Blk.cell HS1.out 0
        clear HO HB HS s0 s1 hwc
        obtain ⟨N, hN⟩ : ∃ N, fitN ns l k = N := ⟨_, rfl⟩
        rw [hN] at E1 EN
        rw [hN]
        clear hN
        by_cases hn : 0 ≤ N ∧ N < (ns.length : Int)
        · obtain ⟨hn0, hn1⟩ := hn
          obtain ⟨n, rfl⟩ : ∃ n : Nat, N = (n : Int) := ⟨N.toNat, by omega⟩
          have hnl : n < ns.length := by omega
          obtain ⟨x, hx⟩ : ∃ x, ns[n]? = some x := ⟨ns[n], List.getElem?_eq_getElem hnl⟩
          obtain ⟨b, o, hA, hbl, c0, c1, c2, c3, c4, c5, c6, c7, c8, c9⟩ := atN (H.out.below HB1.out).n.cells hx
          subst hA
          have T : Hid (tpB ns (n : Int) = !x.lost) := Lib.hid (by unfold tpB; rw [Int.toNat_natCast, hx]; simp)
          clear hx c0 c1 c2 c3 c4 c5 c6 c7 c8
          obtain ⟨r, hr⟩ : ∃ r, x.lost = r := ⟨_, rfl⟩
          rw [hr] at c9 T
          clear hr
          cases r with
          | false =>
            have F : Hid (fit1 ns l k = (n : Int)) := Lib.hid (by rw [E1.out, T.out]; rfl)
            go_wp2_with (at_builtin; refine wpList_append_own _ rfl _ _ 44 rfl w.heap.size 3 i0 (.int .i64 0) 1 8 Tryz.underlying44 hi0 hz0 hz1 hz2 rfl (by decide) _ _ _ rfl (show World.ownsRow _ _ _ _ _ _ _ from HO1.out.alloc _) ⟨wc.heap.size, 0, none⟩ 1 1 [.int .i64 (n : Int)] rfl rfl ?c1 ?c2 ?c3 ?c4 ?c5 ?_)
            case c1 =>
              intro j u hj
              match j, hj with
              | 0, hj => simp at hj; subst hj; simp [Addr.add]
            case c2 => first | rfl | (intro u hu; simp at hu; subst hu; rfl)
            case c3 => have := hkm.out; omega
            case c4 => have := hkc.out; omega
            case c5 => have := HB1.out.size; simp; omega
            intro v' w2 hown' hgrow' _
            have hwz : w.heap.size < wc.heap.size := Blk.lt HS1.out
            have HO2 := Lib.hid hown'
            have HW2 := Lib.hid ((HB1.out.alloc HB1.out.size (.cells #[.int .i64 (n : Int)] 3)).grown hgrow' (by have := HB1.out.size; simp; omega) (fun j hj => own_gem HO1.out hj))
            have HS2 : Hid (Blk w2 w.heap.size (snapC (some ⟨b, o, none⟩) B C ca cb cc ns ps os) 26) := Lib.hid (Blk.kept (Blk.alloc HS1.out (.cells #[.int .i64 (n : Int)] 3)) hgrow' (fun e => by
              have he := e.symm
              rcases HO1.out.2 with ⟨hv, _⟩ | ⟨g, cap, cur, hv, hbg, hg, _⟩
              · rw [hv] at he; cases he
              · rw [hv] at he
                simp only [Value.ownBlock, Option.some.injEq] at he
                subst he
                have h1 := HS1.out
                unfold Blk at h1
                rw [hg] at h1
                cases h1))
            clear hown' hgrow'
            go_wp2
            go_roundw
            case rel =>
              refine ⟨k + 1, by omega, by go_num, ?_, HW2.out, HS2.out⟩
              rw [E.out, F.out]
              simpa [intsC] using HO2.out
            case measure => simp [intOf]; omega
          | true =>
            have F : Hid (fit1 ns l k = -1) := Lib.hid (by rw [E1.out, T.out]; rfl)
            go_wp2_with (at_builtin; refine wpList_append_own _ rfl _ _ 44 rfl w.heap.size 3 i0 (.int .i64 0) 1 8 Tryz.underlying44 hi0 hz0 hz1 hz2 rfl (by decide) _ _ _ rfl (show World.ownsRow _ _ _ _ _ _ _ from HO1.out.alloc _) ⟨wc.heap.size, 0, none⟩ 1 1 [.int .i64 (-1)] rfl rfl ?c1 ?c2 ?c3 ?c4 ?c5 ?_)
            case c1 =>
              intro j u hj
              match j, hj with
              | 0, hj => simp at hj; subst hj; simp [Addr.add]
            case c2 => first | rfl | (intro u hu; simp at hu; subst hu; rfl)
            case c3 => have := hkm.out; omega
            case c4 => have := hkc.out; omega
            case c5 => have := HB1.out.size; simp; omega
            intro v' w2 hown' hgrow' _
            have hwz : w.heap.size < wc.heap.size := Blk.lt HS1.out
            have HO2 := Lib.hid hown'
            have HW2 := Lib.hid ((HB1.out.alloc HB1.out.size (.cells #[.int .i64 (-1)] 3)).grown hgrow' (by have := HB1.out.size; simp; omega) (fun j hj => own_gem HO1.out hj))
            have HS2 : Hid (Blk w2 w.heap.size (snapC (some ⟨b, o, none⟩) B C ca cb cc ns ps os) 26) := Lib.hid (Blk.kept (Blk.alloc HS1.out (.cells #[.int .i64 (-1)] 3)) hgrow' (fun e => by
              have he := e.symm
              rcases HO1.out.2 with ⟨hv, _⟩ | ⟨g, cap, cur, hv, hbg, hg, _⟩
              · rw [hv] at he; cases he
              · rw [hv] at he
                simp only [Value.ownBlock, Option.some.injEq] at he
                subst he
                have h1 := HS1.out
                unfold Blk at h1
                rw [hg] at h1
                cases h1))
            clear hown' hgrow'
            go_wp2
            go_roundw
            case rel =>
              refine ⟨k + 1, by omega, by go_num, ?_, HW2.out, HS2.out⟩
              rw [E.out, F.out]
              simpa [intsC] using HO2.out
            case measure => simp [intOf]; omega
        · obtain rfl : N = -1 := by have := EN.out; omega
          have F : Hid (fit1 ns l k = -1) := Lib.hid (by rw [E1.out, ite_self])
          clear hn
          go_wp2_with (at_builtin; refine wpList_append_own _ rfl _ _ 44 rfl w.heap.size 3 i0 (.int .i64 0) 1 8 Tryz.underlying44 hi0 hz0 hz1 hz2 rfl (by decide) _ _ _ rfl (show World.ownsRow _ _ _ _ _ _ _ from HO1.out.alloc _) ⟨wc.heap.size, 0, none⟩ 1 1 [.int .i64 (-1)] rfl rfl ?c1 ?c2 ?c3 ?c4 ?c5 ?_)
          try case c1 =>
            intro j u hj
            match j, hj with
            | 0, hj => simp at hj; subst hj; simp [Addr.add]
          case c2 => first | rfl | (intro u hu; simp at hu; subst hu; rfl)
          case c3 => have := hkm.out; omega
          case c4 => have := hkc.out; omega
          case c5 => have := HB1.out.size; simp; omega
          intro v' w2 hown' hgrow' _
          have hwz : w.heap.size < wc.heap.size := Blk.lt HS1.out
          have HO2 := Lib.hid hown'
          have HW2 := Lib.hid ((HB1.out.alloc HB1.out.size (.cells #[.int .i64 (-1)] 3)).grown hgrow' (by have := HB1.out.size; simp; omega) (fun j hj => own_gem HO1.out hj))
          have HS2 : Hid (Blk w2 w.heap.size (snapC A B C ca cb cc ns ps os) 26) := Lib.hid (Blk.kept (Blk.alloc HS1.out (.cells #[.int .i64 (-1)] 3)) hgrow' (fun e => by
            have he := e.symm
            rcases HO1.out.2 with ⟨hv, _⟩ | ⟨g, cap, cur, hv, hbg, hg, _⟩
            · rw [hv] at he; cases he
            · rw [hv] at he
              simp only [Value.ownBlock, Option.some.injEq] at he
              subst he
              have h1 := HS1.out
              unfold Blk at h1
              rw [hg] at h1
              cases h1))
          clear hown' hgrow'
          go_wp2
          go_roundw
          case rel =>
            refine ⟨k + 1, by omega, by go_num, ?_, HW2.out, HS2.out⟩
            rw [E.out, F.out]
            simpa [intsC] using HO2.out
          case measure => simp [intOf]; omega
    · obtain rfl : k = ps.length := by omega
      go_wp2
      go_ret
      exact ⟨_, rfl, HO.out, HB.out⟩
end Go.Proofs.YtiiheajieegdkaaGreat

namespace Go.Proofs.YtiiheajieegdkaaGreat
open Go.RowKit Go.Maps

/-- The step: the pod that the number names is taken off where it lies, else it is bound. -/
def nextS (ns : List NodeD) (p : List Int) (b c : Int) : Int × Int × Int :=
  if 0 ≤ (p[(b % (p.length : Int)).toNat]?).getD (-1) then (1, b % (p.length : Int), 0) else (2, b % (p.length : Int), c % (ns.length : Int))

set_option maxRecDepth 100000 in
set_option maxHeartbeats 4000000 in
theorem next10_any (A B C P : Option Addr) (ca cb cc cp : Nat) (ns : List NodeD) (ps : List PodD) (os : List OwnD) (p : List Int) (a b c : Int) (w : World) (h : SnapAt w A B C ca cb cc ns ps os) (hp : IntsAt w P cp p) (hp0 : 0 < p.length) (hpl : p.length ≤ 1000) (hn0 : 0 < ns.length) :
    Calls Tryz.prog 25 #[snapV A B C ca cb cc ns ps os, .slice P p.length cp, stepV a b c] w fun e w' => e = .returned (stepV (nextS ns p b c).1 (nextS ns p b c).2.1 (nextS ns p b c).2.2) ∧ Below w.heap.size w w' := by
  have hln := h.ln
  have e0 := Int.emod_nonneg b (show (p.length : Int) ≠ 0 by omega)
  have e1 := Int.emod_lt_of_pos b (show (0 : Int) < (p.length : Int) by omega)
  obtain ⟨k, hk⟩ : ∃ k : Nat, b % (p.length : Int) = (k : Int) := ⟨(b % (p.length : Int)).toNat, by omega⟩
  have hkl : k < p.length := by omega
  obtain ⟨v, hv⟩ : ∃ v, p[k]? = some v := ⟨p[k], List.getElem?_eq_getElem hkl⟩
  have HR : nextS ns p b c = if 0 ≤ v then (1, (k : Int), 0) else (2, (k : Int), c % (ns.length : Int)) := by
    unfold nextS
    rw [hk, Int.toNat_natCast, hv]
    rfl
  have HR := Lib.hid HR
  generalize nextS ns p b c = R at HR ⊢
  have B0 : Hid (Below w.heap.size w (((w.alloc (.cells (snapC A B C ca cb cc ns ps os) 26)).alloc (.cells #[.int .i64 a, .int .i64 b, .int .i64 c] 63)).alloc (.cells #[.int .i64 0, .int .i64 0, .int .i64 0] 63))) := Lib.hid ((Qu.below2 w _ _).alloc (by simp; omega) _)
  have S0 : Hid (Blk (((w.alloc (.cells (snapC A B C ca cb cc ns ps os) 26)).alloc (.cells #[.int .i64 a, .int .i64 b, .int .i64 c] 63)).alloc (.cells #[.int .i64 0, .int .i64 0, .int .i64 0] 63)) w.heap.size (snapC A B C ca cb cc ns ps os) 26) := Lib.hid (Blk.alloc (Blk.alloc (Blk.new w _ _) _) _)
  have X0 : Hid (Blk (((w.alloc (.cells (snapC A B C ca cb cc ns ps os) 26)).alloc (.cells #[.int .i64 a, .int .i64 b, .int .i64 c] 63)).alloc (.cells #[.int .i64 0, .int .i64 0, .int .i64 0] 63)) (w.heap.size + 1) #[.int .i64 a, .int .i64 b, .int .i64 c] 63) := Lib.hid (Blk.alloc (blk2 w _ _ _) _)
  have R0 : Hid (Blk (((w.alloc (.cells (snapC A B C ca cb cc ns ps os) 26)).alloc (.cells #[.int .i64 a, .int .i64 b, .int .i64 c] 63)).alloc (.cells #[.int .i64 0, .int .i64 0, .int .i64 0] 63)) (w.heap.size + 1 + 1) #[.int .i64 0, .int .i64 0, .int .i64 0] 63) := Lib.hid (by
    have := Blk.new ((w.alloc (.cells (snapC A B C ca cb cc ns ps os) 26)).alloc (.cells #[.int .i64 a, .int .i64 b, .int .i64 c] 63)) #[.int .i64 0, .int .i64 0, .int .i64 0] 63
    rw [World.size_alloc, World.size_alloc] at this
    exact this)
  have KB1 := Lib.hid (fun W => Qu.bring_any b (p.length : Int) W (by omega) (by omega))
  have KB2 := Lib.hid (fun W => Qu.bring_any c (ns.length : Int) W (by omega) (by omega))
  generalize c % (ns.length : Int) = n at KB2 HR
  have k0 : (0 : Int) ≤ (k : Int) := by omega
  have k1 : (k : Int) < (p.length : Int) := by omega
  obtain ⟨pb, po, hPa, hpb, c0⟩ := atI (hp.below B0.out).cells hv
  subst hPa
  clear h hp e0 e1
  go_enter Tryz.func25, Tryz.ntmps25
  go_upto_region 1 with fail
  try change Code.wp _ _ _ _ (((w.alloc (.cells (snapC A B C ca cb cc ns ps os) 26)).alloc (.cells #[.int .i64 a, .int .i64 b, .int .i64 c] 63)).alloc (.cells #[.int .i64 0, .int .i64 0, .int .i64 0] 63))
  generalize (((w.alloc (.cells (snapC A B C ca cb cc ns ps os) 26)).alloc (.cells #[.int .i64 a, .int .i64 b, .int .i64 c] 63)).alloc (.cells #[.int .i64 0, .int .i64 0, .int .i64 0] 63)) = W at B0 S0 X0 R0 c0 hpb ⊢
  have z0 : W.cell? ⟨w.heap.size, 0, none⟩ = some (.slice A ns.length ca) := Blk.cell S0.out 0
  have x1 : W.cell? ⟨w.heap.size + 1, 1, none⟩ = some (.int .i64 b) := Blk.cell X0.out 1
  have x2 : W.cell? ⟨w.heap.size + 1, 2, none⟩ = some (.int .i64 c) := Blk.cell X0.out 2
  go_wp2_with fail
  refine (KB1.out _).mono ?_
  rintro e w3 ⟨rfl, rfl⟩
  rw [hk]
  by_cases hv0 : 0 ≤ v
  · have hv1 : decide (0 ≤ v) = true := decide_eq_true hv0
    obtain rfl : R = (1, (k : Int), 0) := by rw [HR.out, if_pos hv0]
    clear HR
    go_wp2_with fail
    refine (off_any10 _ _).mono ?_
    rintro e w4 ⟨rfl, hb⟩
    have R4 := Lib.hid (R0.out.below hb R0.out.lt)
    have B4 := Lib.hid (B0.out.trans (hb.mono B0.out.size))
    have R5 := Lib.hid (((R4.out.set 0 (.int .i64 1)).set 1 (.int .i64 k)).set 2 (.int .i64 0))
    have B5 := Lib.hid (((B4.out.setCell (p := ⟨w.heap.size + 1 + 1, 0, none⟩) (show w.heap.size ≤ w.heap.size + 1 + 1 by omega) (.int .i64 1)).setCell (p := ⟨w.heap.size + 1 + 1, 1, none⟩) (show w.heap.size ≤ w.heap.size + 1 + 1 by omega) (.int .i64 k)).setCell (p := ⟨w.heap.size + 1 + 1, 2, none⟩) (show w.heap.size ≤ w.heap.size + 1 + 1 by omega) (.int .i64 0))
    have q0 : w4.cell? ⟨w.heap.size + 1 + 1, 0, none⟩ = some (.int .i64 0) := Blk.cell R4.out 0
    have q1 : w4.cell? ⟨w.heap.size + 1 + 1, 1, none⟩ = some (.int .i64 0) := Blk.cell R4.out 1
    have q2 : w4.cell? ⟨w.heap.size + 1 + 1, 2, none⟩ = some (.int .i64 0) := Blk.cell R4.out 2
    have f0 := Blk.free R4.out 0
    have f1 := Blk.free R4.out 1
    have f2 := Blk.free R4.out 2
    clear hb R0 S0 X0 z0 x1 x2 c0
    go_wp2_with fail
    refine bodyPost_row1 Tryz.results25 (w.heap.size + 1 + 1) _ _ _ _ (by rfl) (by rfl) (show Blk _ (w.heap.size + 1 + 1) _ _ from R5.out) Tryz.underlying63 rfl (by kernel_rfl) ?_
    exact ⟨rfl, B5.out⟩
  · have hv1 : decide (0 ≤ v) = false := decide_eq_false hv0
    obtain rfl : R = (2, (k : Int), n) := by rw [HR.out, if_neg hv0]
    clear HR
    go_wp2_with fail
    refine (KB2.out _).mono ?_
    rintro e w3 ⟨rfl, rfl⟩
    go_wp2_with fail
    refine (on_any10 _ _ _).mono ?_
    rintro e w4 ⟨rfl, hb⟩
    have R4 := Lib.hid (R0.out.below hb R0.out.lt)
    have B4 := Lib.hid (B0.out.trans (hb.mono B0.out.size))
    have R5 := Lib.hid (((R4.out.set 0 (.int .i64 2)).set 1 (.int .i64 k)).set 2 (.int .i64 n))
    have B5 := Lib.hid (((B4.out.setCell (p := ⟨w.heap.size + 1 + 1, 0, none⟩) (show w.heap.size ≤ w.heap.size + 1 + 1 by omega) (.int .i64 2)).setCell (p := ⟨w.heap.size + 1 + 1, 1, none⟩) (show w.heap.size ≤ w.heap.size + 1 + 1 by omega) (.int .i64 k)).setCell (p := ⟨w.heap.size + 1 + 1, 2, none⟩) (show w.heap.size ≤ w.heap.size + 1 + 1 by omega) (.int .i64 n))
    have q0 : w4.cell? ⟨w.heap.size + 1 + 1, 0, none⟩ = some (.int .i64 0) := Blk.cell R4.out 0
    have q1 : w4.cell? ⟨w.heap.size + 1 + 1, 1, none⟩ = some (.int .i64 0) := Blk.cell R4.out 1
    have q2 : w4.cell? ⟨w.heap.size + 1 + 1, 2, none⟩ = some (.int .i64 0) := Blk.cell R4.out 2
    have f0 := Blk.free R4.out 0
    have f1 := Blk.free R4.out 1
    have f2 := Blk.free R4.out 2
    clear hb R0 S0 X0 z0 x1 x2 c0
    go_wp2_with fail
    refine bodyPost_row1 Tryz.results25 (w.heap.size + 1 + 1) _ _ _ _ (by rfl) (by rfl) (show Blk _ (w.heap.size + 1 + 1) _ _ from R5.out) Tryz.underlying63 rfl (by kernel_rfl) ?_
    exact ⟨rfl, B5.out⟩
end Go.Proofs.YtiiheajieegdkaaGreat

namespace Go.Proofs.YtiiheajieegdkaaGreat
open Go.RowKit Go.Maps

theorem evict_code {p : List Int} {pd : Int} (h : 0 ≤ pd ∧ pd < (p.length : Int)) : (evictF p pd 0).2 = 110 ∨ evictF p pd 0 = (p.set pd.toNat (-1), 0) := by
  unfold evictF
  rw [if_pos h, if_pos rfl]
  split
  · exact .inl rfl
  · exact .inr rfl
theorem bind_code {ns : List NodeD} {p : List Int} {pd nd : Int} (h : 0 ≤ pd ∧ pd < (p.length : Int)) (hn : 0 ≤ nd ∧ nd < (ns.length : Int)) : (bindF ns p pd nd).2 = 110 ∨ (bindF ns p pd nd = (p.set pd.toNat nd, 0) ∧ p[pd.toNat]? = some (-1)) := by
  unfold bindF
  rw [if_pos h, if_pos hn]
  split
  · rename_i h3
    split
    · exact .inl rfl
    · exact .inr ⟨rfl, h3⟩
  · exact .inl rfl
/-- What may be told of a step of pod i. -/
def NearTold (ns : List NodeD) (ps : List PodD) (os : List OwnD) (i : Nat) (b : Bool) (nd : Int) (c : ClT) (e : Int) : Prop :=
  (c.1 = 0 ∧ (e ≠ 100 ∨ (b = true ∧ cordB ns nd.toNat = true))) ∨ (e = 100 ∧ 0 < c.2.2.2 ∧ NearOk ps os i b nd c)
theorem near_step {ns : List NodeD} {ps : List PodD} {os : List OwnD} {p : List Int} {b c : Int} (hE : placeE ns ps os p = 0) (hl : p.length ≤ 1000) (hp0 : 0 < p.length) (hn0 : 0 < ns.length) :
    ∃ i : Nat, i < p.length ∧ (nextS ns p b c = (1, (i : Int), 0) ∧ NearTold ns ps os i false 0 (stepF ns ps os p (1, (i : Int), 0)).2.1 (stepF ns ps os p (1, (i : Int), 0)).2.2 ∨
      ∃ nd : Int, 0 ≤ nd ∧ nd < (ns.length : Int) ∧ nextS ns p b c = (2, (i : Int), nd) ∧ NearTold ns ps os i true nd (stepF ns ps os p (2, (i : Int), nd)).2.1 (stepF ns ps os p (2, (i : Int), nd)).2.2) := by
  have hd := (own_names (placeE_zero hE).1).2
  have e0 := Int.emod_nonneg b (show (p.length : Int) ≠ 0 by omega)
  have e1 := Int.emod_lt_of_pos b (show (0 : Int) < (p.length : Int) by omega)
  have f0 := Int.emod_nonneg c (show (ns.length : Int) ≠ 0 by omega)
  have f1 := Int.emod_lt_of_pos c (show (0 : Int) < (ns.length : Int) by omega)
  obtain ⟨i, hi⟩ : ∃ i : Nat, b % (p.length : Int) = (i : Int) := ⟨(b % (p.length : Int)).toNat, by omega⟩
  have hil : i < p.length := by omega
  refine ⟨i, hil, ?_⟩
  have hg : ∀ q : List Int, ∀ c ∈ all8 ns ps os q, 0 ≤ c.2.2.2 := fun q c hc => (all8_good ns ps os q c hc).1
  unfold nextS
  rw [hi]
  split
  · left
    refine ⟨rfl, ?_⟩
    have ha : applyF ns ps os p 1 (i : Int) 0 = evictF p (i : Int) 0 := by
      unfold applyF
      rw [if_pos hE, if_pos rfl]
    unfold stepF tryF
    dsimp only
    rw [ha]
    rcases evict_code (p := p) (pd := (i : Int)) ⟨by omega, by omega⟩ with h | h
    · rw [if_pos (by rw [h]; decide)]
      left
      refine ⟨rfl, .inl ?_⟩
      show (evictF p (i : Int) 0).2 ≠ 100
      rw [h]
      decide
    · rw [h, if_neg (by simp), if_neg (by rintro ⟨h, _⟩; simp at h)]
      rw [Int.toNat_natCast]
      cases hw : worseU ns ps os p (p.set i (-1)) with
      | nil => exact .inl ⟨rfl, .inl (by simp [Ag.e])⟩
      | cons d t =>
        have hm : d ∈ worseU ns ps os p (p.set i (-1)) := by rw [hw]; exact List.mem_cons_self
        exact .inr ⟨rfl, worse_by (hg _) (List.mem_filter.1 hm).2, near_off hE hl hd hil 0 hm⟩
  · right
    refine ⟨c % (ns.length : Int), f0, f1, rfl, ?_⟩
    generalize c % (ns.length : Int) = nd at f0 f1
    have ha : applyF ns ps os p 2 (i : Int) nd = bindF ns p (i : Int) nd := by
      unfold applyF
      rw [if_pos hE, if_neg (by decide), if_pos rfl]
    have hok := apply_ok (ns := ns) (ps := ps) (os := os) (p := p) (kd := 2) (pd := (i : Int)) (nd := nd)
    unfold stepF tryF
    dsimp only
    rw [ha] at hok ⊢
    rcases bind_code (p := p) (pd := (i : Int)) ⟨by omega, by omega⟩ ⟨f0, f1⟩ with h | ⟨h, hp⟩
    · rw [if_pos (by rw [h]; decide)]
      left
      refine ⟨rfl, .inl ?_⟩
      show (bindF ns p (i : Int) nd).2 ≠ 100
      rw [h]
      decide
    · rw [h] at hok ⊢
      rw [Int.toNat_natCast] at hp hok ⊢
      have hE2 := (hok rfl).2.1
      rw [if_neg (by simp)]
      split
      · rename_i hc
        exact .inl ⟨rfl, .inr ⟨rfl, hc.2⟩⟩
      · cases hw : worseU ns ps os p (p.set i nd) with
        | nil => exact .inl ⟨rfl, .inl (by simp [Ag.e])⟩
        | cons d t =>
          have hm : d ∈ worseU ns ps os p (p.set i nd) := by rw [hw]; exact List.mem_cons_self
          exact .inr ⟨rfl, worse_by (hg _) (List.mem_filter.1 hm).2, near_on hE hd hil hp hE2 hm⟩
end Go.Proofs.YtiiheajieegdkaaGreat

namespace Go.Proofs.YtiiheajieegdkaaGreat
open Go.RowKit Go.Maps

theorem name_first {os : List OwnD} {a : Nat} {o : OwnD} (ho : os[a]? = some o) (hn : ∀ (j : Nat) (u : OwnD), j < a → os[j]? = some u → u.name ≠ o.name) : ∀ k, a < k → nameU os o.name k = some a
  | 0, h => by omega
  | k + 1, h => by
    by_cases e : a = k
    · subst e
      rw [nameU, name_none a hn, ho]
      simp
    · rw [nameU, name_first ho hn k (by omega)]

set_option maxRecDepth 100000 in
set_option maxHeartbeats 4000000 in
theorem name10_any (A B C : Option Addr) (ca cb cc : Nat) (ns : List NodeD) (ps : List PodD) (os : List OwnD) (i : Nat) (x : PodD) (w : World) (h : SnapAt w A B C ca cb cc ns ps os) (hx : ps[i]? = some x) :
    Calls Tryz.prog 28 #[snapV A B C ca cb cc ns ps os, .int .i64 i] w fun e w' => e = .returned (.int .i64 (nameI os x.owner os.length)) ∧ Below w.heap.size w w' := by
  have B0 : Hid (Below w.heap.size w (w.alloc (.cells (snapC A B C ca cb cc ns ps os) 26))) := Lib.hid (below1 w _)
  have S0 : Hid (Blk (w.alloc (.cells (snapC A B C ca cb cc ns ps os) 26)) w.heap.size (snapC A B C ca cb cc ns ps os) 26) := Lib.hid (Blk.new w _ _)
  have H := Lib.hid (h.below B0.out)
  have hlo := h.lo
  have hlp := h.lp
  have hil : i < ps.length := (List.getElem?_eq_some_iff.1 hx).1
  have i0 : (0 : Int) ≤ (i : Int) := by omega
  have i1 : (i : Int) < (ps.length : Int) := by omega
  have EA : Hid (∀ (k : Nat) (y : OwnD), os[k]? = some y → y.name = x.owner → (∀ (j : Nat) (u : OwnD), j < k → os[j]? = some u → u.name ≠ x.owner) → nameI os x.owner os.length = (k : Int)) := Lib.hid (fun k y h1 h2 h3 => by
    unfold nameI
    rw [← h2] at h3 ⊢
    rw [name_first h1 h3 os.length (List.getElem?_eq_some_iff.1 h1).1])
  have EN : Hid ((∀ (j : Nat) (u : OwnD), j < os.length → os[j]? = some u → u.name ≠ x.owner) → nameI os x.owner os.length = -1) := Lib.hid (fun h => by
    unfold nameI
    rw [name_none os.length h])
  generalize nameI os x.owner os.length = R at EA EN ⊢
  clear h
  go_enter Tryz.func28, Tryz.ntmps28
  go_upto_region 1 with fail
  try change Code.wp _ _ _ _ (w.alloc (.cells (snapC A B C ca cb cc ns ps os) 26))
  generalize (w.alloc (.cells (snapC A B C ca cb cc ns ps os) 26)) = W at B0 S0 H ⊢
  obtain ⟨pb, po, hPa, hpb, _, c1, _⟩ := atP H.out.p.1 hx
  subst hPa
  have HC1 := Lib.hid (fun W' (hb : Below W.heap.size W W') => (hb.cell (p := ⟨pb, po + i * 15 + 1, none⟩) hpb).trans c1)
  clear c1
  go_wp2_with fail
  go_loopw [5] (fun v wr => ∃ k : Nat, k ≤ os.length ∧ v = .int .i64 k ∧ (∀ (j : Nat) (u : OwnD), j < k → os[j]? = some u → u.name ≠ x.owner) ∧ Below W.heap.size W wr) (fun v _ => os.length - (intOf v).toNat)
  case atStart => exact ⟨0, by omega, rfl, fun j z h => by omega, Below.refl _ _⟩
  case round =>
    obtain ⟨k, hk, rfl, hn, hb⟩ := hrel
    have HN := Lib.hid hn
    have HB := Lib.hid hb
    clear hn hb
    have z1 : wr.cell? ⟨w.heap.size, 1, none⟩ = some (.slice (some ⟨pb, po, none⟩) ps.length cb) := Blk.cell (S0.out.below HB.out S0.out.lt) 1
    have z2 : wr.cell? ⟨w.heap.size, 2, none⟩ = some (.slice C os.length cc) := Blk.cell (S0.out.below HB.out S0.out.lt) 2
    by_cases hlt : k < os.length
    case neg =>
      obtain rfl : k = os.length := by omega
      have HE := Lib.hid (EN.out HN.out)
      go_wp2
      go_ret
      rw [HE.out]
      exact ⟨rfl, B0.out.trans (HB.out.mono B0.out.size)⟩
    obtain ⟨y, hy⟩ : ∃ y, os[k]? = some y := ⟨os[k], List.getElem?_eq_getElem hlt⟩
    obtain ⟨ob, oo, hOa, hob, d0, _⟩ := atO (H.out.below HB.out).o hy
    subst hOa
    have c1 := HC1.out _ HB.out
    have k0 : (0 : Int) ≤ (k : Int) := by omega
    have k1 : (k : Int) < (os.length : Int) := by omega
    have HY := Lib.hid hy
    clear hy
    go_upto_region 4 with fail
    by_cases hxy : y.name = x.owner
    · have hq : (y.name == x.owner) = true := beq_iff_eq.2 hxy
      have HF := Lib.hid (EA.out k y HY.out hxy HN.out)
      clear hxy
      go_quiet (fail)
      go_wp2
      go_ret
      rw [HF.out]
      exact ⟨rfl, B0.out.trans ((below_drewN HB.out _).mono B0.out.size)⟩
    · have hq : (y.name == x.owner) = false := beq_eq_false_iff_ne.2 hxy
      have HF := Lib.hid (fun (j : Nat) (u : OwnD) (hj : j < k + 1) (hu : os[j]? = some u) => (show u.name ≠ x.owner by
        by_cases hjk : j = k
        · subst hjk
          rw [HY.out] at hu
          cases hu
          exact hxy
        · exact HN.out j u (by omega) hu))
      clear hxy
      go_quiet (fail)
      go_wp2_with fail
      go_roundw
      case rel => exact ⟨k + 1, by omega, by go_num, HF.out, below_drewN HB.out _⟩
      case measure => simp [intOf]; omega
end Go.Proofs.YtiiheajieegdkaaGreat

namespace Go.Proofs.YtiiheajieegdkaaGreat
open Go.RowKit

set_option maxRecDepth 100000 in
set_option maxHeartbeats 4000000 in
theorem cut10_any (A B C : Option Addr) (ca cb cc : Nat) (ns : List NodeD) (ps : List PodD) (os : List OwnD) (w : World) (h : SnapIn w A B C ca cb cc ns ps os) :
    Calls Tryz.prog 21 #[snapV A B C ca cb cc ns ps os] w fun e w' => e = .returned (snapV A B C ca cb cc (ns.take 12) (ps.take 30) (os.take 12)) ∧ Below w.heap.size w w' := by
  have h0 := Nat.le_trans h.can.1 h.can.2
  have h1 := Nat.le_trans h.cap.1 h.cap.2
  have h2 := Nat.le_trans h.cao.1 h.cao.2
  have hc0 : min (ns.length : Int) 12 ≤ (ca : Int) := by have := h.can.1; omega
  have hc1 : min (ps.length : Int) 30 ≤ (cb : Int) := by have := h.cap.1; omega
  have hc2 : min (os.length : Int) 12 ≤ (cc : Int) := by have := h.cao.1; omega
  have hp0 : (0 : Int) ≤ min (ns.length : Int) 12 := by omega
  have hp1 : (0 : Int) ≤ min (ps.length : Int) 30 := by omega
  have hp2 : (0 : Int) ≤ min (os.length : Int) 12 := by omega
  have hl0 : Hid ((min (ns.length : Int) 12).toNat = (ns.take 12).length) := Lib.hid (by simp; omega)
  have hl1 : Hid ((min (ps.length : Int) 30).toNat = (ps.take 30).length) := Lib.hid (by simp; omega)
  have hl2 : Hid ((min (os.length : Int) 12).toNat = (os.take 12).length) := Lib.hid (by simp; omega)
  clear h
  go_enter Tryz.func21, Tryz.ntmps21
  go_wp2_with fail
  have S9 : Hid (Blk ((w.alloc (.cells (snapC A B C ca cb cc ns ps os) 26)).alloc (.cells #[.slice none 0 0, .slice none 0 0, .slice none 0 0] 26)) w.heap.size (snapC A B C ca cb cc ns ps os) 26) := Lib.hid (Blk.alloc (Blk.new w _ _) _)
  have R9 : Hid (Blk ((w.alloc (.cells (snapC A B C ca cb cc ns ps os) 26)).alloc (.cells #[.slice none 0 0, .slice none 0 0, .slice none 0 0] 26)) (w.heap.size + 1) #[.slice none 0 0, .slice none 0 0, .slice none 0 0] 26) := Lib.hid (blk2 w _ _ _)
  have B9 : Hid (Below w.heap.size w ((w.alloc (.cells (snapC A B C ca cb cc ns ps os) 26)).alloc (.cells #[.slice none 0 0, .slice none 0 0, .slice none 0 0] 26))) := Lib.hid (Qu.below2 w _ _)
  generalize ((w.alloc (.cells (snapC A B C ca cb cc ns ps os) 26)).alloc (.cells #[.slice none 0 0, .slice none 0 0, .slice none 0 0] 26)) = W at S9 R9 B9 ⊢
  obtain ⟨Rb, hRb⟩ : ∃ Rb, w.heap.size + 1 = Rb := ⟨_, rfl⟩
  rw [hRb] at R9 ⊢
  have HRb := Lib.hid hRb
  clear hRb
  have S0 : W.cell? ⟨w.heap.size, 0, none⟩ = some (.slice A ns.length ca) ∧ W.cell? ⟨w.heap.size, 1, none⟩ = some (.slice B ps.length cb) ∧ W.cell? ⟨w.heap.size, 2, none⟩ = some (.slice C os.length cc) := ⟨Blk.cell S9.out 0, Blk.cell S9.out 1, Blk.cell S9.out 2⟩
  have S1 : W.drew.cell? ⟨w.heap.size, 0, none⟩ = some (.slice A ns.length ca) ∧ W.drew.cell? ⟨w.heap.size, 1, none⟩ = some (.slice B ps.length cb) ∧ W.drew.cell? ⟨w.heap.size, 2, none⟩ = some (.slice C os.length cc) := S0
  have r0 : W.cell? ⟨Rb, 0, none⟩ = some (.slice none 0 0) := Blk.cell R9.out 0
  have r1 : W.cell? ⟨Rb, 1, none⟩ = some (.slice none 0 0) := Blk.cell R9.out 1
  have r2 : W.cell? ⟨Rb, 2, none⟩ = some (.slice none 0 0) := Blk.cell R9.out 2
  have f0 := Blk.free R9.out 0
  have f1 := Blk.free R9.out 1
  have f2 := Blk.free R9.out 2
  have hne : w.heap.size ≠ Rb := by have := HRb.out; omega
  have HS3 : Hid (Blk (((W.setCell ⟨Rb, 0, none⟩ (Value.slice A (min (ns.length : Int) 12).toNat ca)).setCell ⟨Rb, 1, none⟩ (Value.slice B (min (ps.length : Int) 30).toNat cb)).setCell ⟨Rb, 2, none⟩ (Value.slice C (min (os.length : Int) 12).toNat cc)) w.heap.size (snapC A B C ca cb cc ns ps os) 26) := Lib.hid (((S9.out.oth hne 0 _).oth hne 1 _).oth hne 2 _)
  have HR3 : Hid (Blk (((W.setCell ⟨Rb, 0, none⟩ (Value.slice A (min (ns.length : Int) 12).toNat ca)).setCell ⟨Rb, 1, none⟩ (Value.slice B (min (ps.length : Int) 30).toNat cb)).setCell ⟨Rb, 2, none⟩ (Value.slice C (min (os.length : Int) 12).toNat cc)) Rb #[Value.slice A (min (ns.length : Int) 12).toNat ca, Value.slice B (min (ps.length : Int) 30).toNat cb, Value.slice C (min (os.length : Int) 12).toNat cc] 26) := Lib.hid (((R9.out.set 0 _).set 1 _).set 2 _)
  have HB3 : Hid (Below w.heap.size w (((W.setCell ⟨Rb, 0, none⟩ (Value.slice A (min (ns.length : Int) 12).toNat ca)).setCell ⟨Rb, 1, none⟩ (Value.slice B (min (ps.length : Int) 30).toNat cb)).setCell ⟨Rb, 2, none⟩ (Value.slice C (min (os.length : Int) 12).toNat cc))) := Lib.hid (by
    have := HRb.out
    exact ((B9.out.setCell (p := ⟨Rb, 0, none⟩) (by show w.heap.size ≤ Rb; omega) _).setCell (p := ⟨Rb, 1, none⟩) (by show w.heap.size ≤ Rb; omega) _).setCell (p := ⟨Rb, 2, none⟩) (by show w.heap.size ≤ Rb; omega) _)
  have S3 : (((W.setCell ⟨Rb, 0, none⟩ (Value.slice A (min (ns.length : Int) 12).toNat ca)).setCell ⟨Rb, 1, none⟩ (Value.slice B (min (ps.length : Int) 30).toNat cb)).setCell ⟨Rb, 2, none⟩ (Value.slice C (min (os.length : Int) 12).toNat cc)).drew.cell? ⟨w.heap.size, 0, none⟩ = some (.slice A ns.length ca) ∧ (((W.setCell ⟨Rb, 0, none⟩ (Value.slice A (min (ns.length : Int) 12).toNat ca)).setCell ⟨Rb, 1, none⟩ (Value.slice B (min (ps.length : Int) 30).toNat cb)).setCell ⟨Rb, 2, none⟩ (Value.slice C (min (os.length : Int) 12).toNat cc)).drew.cell? ⟨w.heap.size, 1, none⟩ = some (.slice B ps.length cb) ∧ (((W.setCell ⟨Rb, 0, none⟩ (Value.slice A (min (ns.length : Int) 12).toNat ca)).setCell ⟨Rb, 1, none⟩ (Value.slice B (min (ps.length : Int) 30).toNat cb)).setCell ⟨Rb, 2, none⟩ (Value.slice C (min (os.length : Int) 12).toNat cc)).drew.cell? ⟨w.heap.size, 2, none⟩ = some (.slice C os.length cc) := ⟨Blk.cell HS3.out 0, Blk.cell HS3.out 1, Blk.cell HS3.out 2⟩
  go_region_held3 (fun w' => w'.cell? ⟨w.heap.size, 0, none⟩ = some (.slice A ns.length ca) ∧ w'.cell? ⟨w.heap.size, 1, none⟩ = some (.slice B ps.length cb) ∧ w'.cell? ⟨w.heap.size, 2, none⟩ = some (.slice C os.length cc))
    (first | (with_reducible exact S1) | (with_reducible exact S0) | (with_reducible exact S3) | go_keep)
    (skip)
  all_goals
    go_wp2_with fail
    rw [hl0.out, hl1.out, hl2.out] at HR3 HB3 ⊢
    refine bodyPost_row1 Tryz.results21 Rb _ _ _ _ (by rfl) (by rfl) (show Blk _ Rb _ _ from HR3.out) Tryz.underlying26 rfl snap_sizeK ?_
    exact ⟨rfl, HB3.out.drew⟩
end Go.Proofs.YtiiheajieegdkaaGreat

namespace Go.Proofs.YtiiheajieegdkaaGreat
open Go.RowKit Go.Maps

theorem own_low {w w' : World} {base g : Nat} {e : TypeId} {size n : Nat} {v : Value} {xs : List Value} (h : w.ownsRow base e size v n xs) (hg : w.grownBy w' (some g)) (hne : g < base) : w'.ownsRow base e size v n xs := by
  obtain ⟨hl, h1 | ⟨g', cap, cur, hv, h0, hc, hr⟩⟩ := h
  · exact ⟨hl, .inl h1⟩
  · exact ⟨hl, .inr ⟨g', cap, cur, hv, h0, (hg.block g' (Array.getElem?_eq_some_iff.1 hc).1 (by intro e; cases e; omega)).trans hc, hr⟩⟩
theorem own_low3 {w : World} {base g : Nat} {e : TypeId} {size n : Nat} {v : Value} {xs : List Value} (h : w.ownsRow base e size v n xs) (hne : g < base) (x y z : Value) : (((w.setCell ⟨g, 0, none⟩ x).setCell ⟨g, 1, none⟩ y).setCell ⟨g, 2, none⟩ z).ownsRow base e size v n xs :=
  own_low h (grown_set (grown_set (grown_set (World.grownBy.refl w (some g)) 0 x) 1 y) 2 z) hne
theorem nspan_15 (ok : Nat → Nat → Bool) : ∀ (t : List UInt8) (a : Nat), a ≤ 15 → La.spanF ok t a ≤ 15
  | [], a, h => h
  | b :: t, a, h => by
    rw [La.spanF]
    split
    · exact h
    · rename_i hn
      exact nspan_15 ok t (a + 1) (by
        have : a ≠ 15 := fun e => hn (.inl e)
        omega)
theorem nnear_15 {s : List UInt8} {l : List T3} (h : nearB s l = true) : s.length ≤ 15 := by
  unfold nearB at h
  split at h
  · rename_i hs
    subst hs
    simp
  · rw [Bool.and_eq_true] at h
    have h1 := h.1
    unfold La.nameB at h1
    simp only [Bool.and_eq_true, decide_eq_true_eq] at h1
    have := nspan_15 La.okName s 0 (by omega)
    omega
theorem near_few {ns : List NodeD} {ps : List PodD} {os : List OwnD} {p : List Int} (hE : placeE ns ps os p = 0) : ∀ x ∈ ps, x.wt.length ≤ 15 ∧ x.ap.length ≤ 15 := by
  intro x hx
  have h := placeE_chk hE
  unfold checkS at h
  split at h
  · rename_i hc
    unfold clusB at hc
    simp only [Bool.and_eq_true, List.all_eq_true] at hc
    have h1 := (hc.1.2 x hx).1
    unfold podB at h1
    simp only [Bool.and_eq_true, beq_iff_eq] at h1
    exact ⟨nnear_15 h1.1.2, nnear_15 h1.2⟩
  · cases h

set_option maxRecDepth 100000 in
set_option maxHeartbeats 16000000 in
theorem admitNear_law (A B C : Option Addr) (ca cb cc : Nat) (ns : List NodeD) (ps : List PodD) (os : List OwnD) (P : Option Addr) (cp : Nat) (l : List Int) (a b c : Int) (w : World) (h : SnapIn w A B C ca cb cc ns ps os) (hp : IntsAt w P cp l) :
    Calls Tryz.prog 5 #[snapV A B C ca cb cc ns ps os, .slice P l.length cp, stepV a b c] w fun e w' => e = .returned (.bool true) ∧ Below w.heap.size w w' := by
  have HP := Lib.hid hp
  clear hp
  have B0 : Hid (Below w.heap.size w ((w.alloc (.cells (snapC A B C ca cb cc ns ps os) 26)).alloc (.cells #[.int .i64 a, .int .i64 b, .int .i64 c] 63))) := Lib.hid (Qu.below2 w _ _)
  have S0 : Hid (Blk ((w.alloc (.cells (snapC A B C ca cb cc ns ps os) 26)).alloc (.cells #[.int .i64 a, .int .i64 b, .int .i64 c] 63)) w.heap.size (snapC A B C ca cb cc ns ps os) 26) := Lib.hid (Blk.alloc (Blk.new w _ _) _)
  have X0 : Hid (Blk ((w.alloc (.cells (snapC A B C ca cb cc ns ps os) 26)).alloc (.cells #[.int .i64 a, .int .i64 b, .int .i64 c] 63)) (w.heap.size + 1) #[.int .i64 a, .int .i64 b, .int .i64 c] 63) := Lib.hid (blk2 w _ _ _)
  have H := Lib.hid (h.take)
  have KW := Lib.hid works10_any
  have HIN := Lib.hid h
  have hn12 : (ns.take 12).length ≤ 12 := List.length_take_le _ _
  have hp30 : (ps.take 30).length ≤ 30 := List.length_take_le _ _
  have ho12 : (os.take 12).length ≤ 12 := List.length_take_le _ _
  have KC := Lib.hid (fun W' (hb : Below w.heap.size w W') => cut10_any A B C ca cb cc ns ps os W' (HIN.out.below8 hb))
  generalize ns.take 12 = n1 at H KC hn12
  generalize ps.take 30 = p1 at H KC hp30
  generalize os.take 12 = o1 at H KC ho12
  clear h HIN
  go_enter Tryz.func5, Tryz.ntmps5
  go_upto_region 1 with fail
  try change Code.wp _ _ _ _ ((w.alloc (.cells (snapC A B C ca cb cc ns ps os) 26)).alloc (.cells #[.int .i64 a, .int .i64 b, .int .i64 c] 63))
  generalize ((w.alloc (.cells (snapC A B C ca cb cc ns ps os) 26)).alloc (.cells #[.int .i64 a, .int .i64 b, .int .i64 c] 63)) = W0 at B0 S0 X0 ⊢
  have z0 : W0.cell? ⟨w.heap.size, 0, none⟩ = some (.slice A ns.length ca) := Blk.cell S0.out 0
  have z1 : W0.cell? ⟨w.heap.size, 1, none⟩ = some (.slice B ps.length cb) := Blk.cell S0.out 1
  have z2 : W0.cell? ⟨w.heap.size, 2, none⟩ = some (.slice C os.length cc) := Blk.cell S0.out 2
  go_wp2_with fail
  refine (KC.out _ B0.out).mono ?_
  rintro e w2 ⟨rfl, hb2⟩
  have S2 : Hid (Blk w2 w.heap.size (snapC A B C ca cb cc ns ps os) 26) := Lib.hid (S0.out.below hb2 S0.out.lt)
  have B2 : Hid (Below w.heap.size w w2) := Lib.hid (B0.out.trans (hb2.mono B0.out.size))
  have X2 := Lib.hid (X0.out.below hb2 X0.out.lt)
  clear hb2 S0 B0 KC X0 z0 z1 z2
  have r0 : w2.cell? ⟨w.heap.size, 0, none⟩ = some (.slice A ns.length ca) := Blk.cell S2.out 0
  have r1 : w2.cell? ⟨w.heap.size, 1, none⟩ = some (.slice B ps.length cb) := Blk.cell S2.out 1
  have r2 : w2.cell? ⟨w.heap.size, 2, none⟩ = some (.slice C os.length cc) := Blk.cell S2.out 2
  have f0 := Blk.free S2.out 0
  have f1 := Blk.free S2.out 1
  have f2 := Blk.free S2.out 2
  have S3 : Hid (Blk (((w2.setCell ⟨w.heap.size, 0, none⟩ (.slice A n1.length ca)).setCell ⟨w.heap.size, 1, none⟩ (.slice B p1.length cb)).setCell ⟨w.heap.size, 2, none⟩ (.slice C o1.length cc)) w.heap.size (snapC A B C ca cb cc n1 p1 o1) 26) := Lib.hid (((S2.out.set 0 _).set 1 _).set 2 _)
  have B3 : Hid (Below w.heap.size w (((w2.setCell ⟨w.heap.size, 0, none⟩ (.slice A n1.length ca)).setCell ⟨w.heap.size, 1, none⟩ (.slice B p1.length cb)).setCell ⟨w.heap.size, 2, none⟩ (.slice C o1.length cc))) := Lib.hid (((B2.out.setCell (p := ⟨w.heap.size, 0, none⟩) (Nat.le_refl _) _).setCell (p := ⟨w.heap.size, 1, none⟩) (Nat.le_refl _) _).setCell (p := ⟨w.heap.size, 2, none⟩) (Nat.le_refl _) _)
  have X3 : Hid (Blk (((w2.setCell ⟨w.heap.size, 0, none⟩ (.slice A n1.length ca)).setCell ⟨w.heap.size, 1, none⟩ (.slice B p1.length cb)).setCell ⟨w.heap.size, 2, none⟩ (.slice C o1.length cc)) (w.heap.size + 1) #[.int .i64 a, .int .i64 b, .int .i64 c] 63) := Lib.hid (((X2.out.oth (by omega) 0 _).oth (by omega) 1 _).oth (by omega) 2 _)
  go_upto_region 2 with fail
  clear r0 r1 r2 f0 f1 f2
  generalize (((w2.setCell ⟨w.heap.size, 0, none⟩ (.slice A n1.length ca)).setCell ⟨w.heap.size, 1, none⟩ (.slice B p1.length cb)).setCell ⟨w.heap.size, 2, none⟩ (.slice C o1.length cc)) = W at S3 B3 X3 ⊢
  clear S2 B2 X2
  have hln := H.out.ln
  have hlp := H.out.lp
  have hlo := H.out.lo
  have hpl : (fitU n1 l p1.length).length = p1.length := fitU_len n1 l p1.length
  have K1 : Hid (Calls Tryz.prog 22 #[snapV A B C ca cb cc n1 p1 o1, .slice P l.length cp] W fun e w' => ∃ X cx, e = .returned (.slice X (fitU n1 l p1.length).length cx) ∧ w'.ownsRow W.heap.size 3 1 (.slice X (fitU n1 l p1.length).length cx) (fitU n1 l p1.length).length (intsC (fitU n1 l p1.length)) ∧ Below W.heap.size W w') := Lib.hid ((fitted10_any A B C P ca cb cc cp n1 p1 o1 l W (H.out.below B3.out) (HP.out.below B3.out)).mono (by
    rintro e w' ⟨v, rfl, ho, hb⟩
    obtain ⟨X, cx, rfl, _⟩ := La.own_slice ho
    rw [hpl]
    exact ⟨X, cx, rfl, ho, hb⟩))
  generalize fitU n1 l p1.length = p at K1 hpl
  have HPL := Lib.hid hpl
  clear hpl
  have HGx : Hid (w.heap.size + 1 < W.heap.size) := Lib.hid X3.out.lt
  have z0 : W.cell? ⟨w.heap.size, 0, none⟩ = some (.slice A n1.length ca) := Blk.cell S3.out 0
  have z1 : W.cell? ⟨w.heap.size, 1, none⟩ = some (.slice B p1.length cb) := Blk.cell S3.out 1
  have z2 : W.cell? ⟨w.heap.size, 2, none⟩ = some (.slice C o1.length cc) := Blk.cell S3.out 2
  go_wp2_with fail
  refine (K1.out).mono ?_
  rintro e V ⟨X, cx, rfl, ho, hb⟩
  have OP := Lib.hid ho
  have BV := Lib.hid (B3.out.trans (hb.mono B3.out.size))
  have SV := Lib.hid (S3.out.below hb S3.out.lt)
  have XV := Lib.hid (X3.out.below hb X3.out.lt)
  clear ho hb K1 z0 z1 z2 B3 S3 X3 HP
  have KP := Lib.hid (pcheck_any A B C X ca cb cc cx n1 p1 o1 p V (H.out.below BV.out) (IntsAt.own OP.out))
  have z0 : V.cell? ⟨w.heap.size, 0, none⟩ = some (.slice A n1.length ca) := Blk.cell SV.out 0
  have z1 : V.cell? ⟨w.heap.size, 1, none⟩ = some (.slice B p1.length cb) := Blk.cell SV.out 1
  have z2 : V.cell? ⟨w.heap.size, 2, none⟩ = some (.slice C o1.length cc) := Blk.cell SV.out 2
  have HT := Lib.hid (fun (hE : placeE n1 p1 o1 p = 0) (h0 : 0 < p.length) (h1 : 0 < n1.length) => near_step (b := b) (c := c) hE (by have := HPL.out; omega) h0 h1)
  have HQ := Lib.hid (fun (hE : placeE n1 p1 o1 p = 0) => near_few hE)
  generalize placeE n1 p1 o1 p = E at KP HT HQ
  go_wp2_with fail
  refine (KP.out).mono ?_
  rintro e V1 ⟨rfl, hb⟩
  have OP1 : Hid (V1.ownsRow W.heap.size 3 1 (.slice X p.length cx) p.length (intsC p)) := Lib.hid (La.own_below OP.out hb)
  have BV1 := Lib.hid (BV.out.trans (hb.mono BV.out.size))
  have SV1 := Lib.hid (SV.out.below hb SV.out.lt)
  have XV1 := Lib.hid (XV.out.below hb XV.out.lt)
  clear hb KP z0 z1 z2 BV SV XV OP
  have z0 : V1.cell? ⟨w.heap.size, 0, none⟩ = some (.slice A n1.length ca) := Blk.cell SV1.out 0
  have z1 : V1.cell? ⟨w.heap.size, 1, none⟩ = some (.slice B p1.length cb) := Blk.cell SV1.out 1
  have z2 : V1.cell? ⟨w.heap.size, 2, none⟩ = some (.slice C o1.length cc) := Blk.cell SV1.out 2
  by_cases hE : E = 0
  case neg =>
    have hE1 : (E == 0) = false := by simpa using hE
    have hE2 : decide (E = 0) = false := decide_eq_false hE
    go_wp2_with fail
    refine (KW.out _).mono ?_
    rintro e w9 ⟨rfl, hb⟩
    have D := Lib.hid (BV1.out.trans (hb.mono BV1.out.size))
    clear hb
    go_wp2
    go_ret
    exact ⟨rfl, D.out⟩
  subst hE
  by_cases hp0 : 0 < p.length
  case neg =>
    have hp9 : p = [] := List.eq_nil_of_length_eq_zero (by omega)
    subst hp9
    go_wp2_with fail
    refine (KW.out _).mono ?_
    rintro e w9 ⟨rfl, hb⟩
    have D := Lib.hid (BV1.out.trans (hb.mono BV1.out.size))
    clear hb
    go_wp2
    go_ret
    exact ⟨rfl, D.out⟩
  have hp1 : (p.length : Int) ≠ 0 := by omega
  have hp2 : ((p.length : Int) == 0) = false := by simpa using hp1
  have hp3 : p ≠ [] := by rintro rfl; simp at hp0
  have hp4 : decide (p.length = 0) = false := decide_eq_false (by omega)
  by_cases hn0 : 0 < n1.length
  case neg =>
    have hn9 : n1 = [] := List.eq_nil_of_length_eq_zero (by omega)
    subst hn9
    go_wp2_with fail
    refine (KW.out _).mono ?_
    rintro e w9 ⟨rfl, hb⟩
    have D := Lib.hid (BV1.out.trans (hb.mono BV1.out.size))
    clear hb
    go_wp2
    go_ret
    exact ⟨rfl, D.out⟩
  have hn1 : (n1.length : Int) ≠ 0 := by omega
  have hn2 : ((n1.length : Int) == 0) = false := by simpa using hn1
  have hn3 : n1 ≠ [] := by rintro rfl; simp at hn0
  have hn4 : decide (n1.length = 0) = false := decide_eq_false (by omega)
  have x0 : V1.cell? ⟨w.heap.size + 1, 0, none⟩ = some (.int .i64 a) := Blk.cell XV1.out 0
  have x1 : V1.cell? ⟨w.heap.size + 1, 1, none⟩ = some (.int .i64 b) := Blk.cell XV1.out 1
  have x2 : V1.cell? ⟨w.heap.size + 1, 2, none⟩ = some (.int .i64 c) := Blk.cell XV1.out 2
  have KN := Lib.hid (next10_any A B C X ca cb cc cx n1 p1 o1 p a b c V1 (H.out.below BV1.out) (IntsAt.own OP1.out) hp0 (by have := HPL.out; omega) hn0)
  obtain ⟨i, hil, hN⟩ := HT.out rfl hp0 hn0
  have i0 : (0 : Int) ≤ (i : Int) := by omega
  have i1 : (i : Int) < (p1.length : Int) := by have := HPL.out; omega
  have i2 : (i : Int) < (p.length : Int) := by omega
  clear HT
  rcases hN with ⟨hnx, hN⟩ | ⟨nd, nd0, nd1, hnx, hN⟩
  · rw [hnx] at KN
    dsimp only at KN
    clear hnx
    go_upto_region 5 with fail
    go_wp2_with fail
    refine (KN.out).mono ?_
    rintro e V2 ⟨rfl, hb⟩
    have OP2 : Hid (V2.ownsRow W.heap.size 3 1 (.slice X p.length cx) p.length (intsC p)) := Lib.hid (La.own_below OP1.out hb)
    have BV2 := Lib.hid (BV1.out.trans (hb.mono BV1.out.size))
    have SV2 := Lib.hid (SV1.out.below hb SV1.out.lt)
    have XV2 := Lib.hid (XV1.out.below hb XV1.out.lt)
    clear hb KN z0 z1 z2 BV1 SV1 XV1 OP1 x0 x1 x2
    have x0 : V2.cell? ⟨w.heap.size + 1, 0, none⟩ = some (.int .i64 a) := Blk.cell XV2.out 0
    have x1 : V2.cell? ⟨w.heap.size + 1, 1, none⟩ = some (.int .i64 b) := Blk.cell XV2.out 1
    have x2 : V2.cell? ⟨w.heap.size + 1, 2, none⟩ = some (.int .i64 c) := Blk.cell XV2.out 2
    have f0 := Blk.free XV2.out 0
    have f1 := Blk.free XV2.out 1
    have f2 := Blk.free XV2.out 2
    have hs1 : w.heap.size ≤ w.heap.size + 1 := by omega
    have OP3 : Hid ((((V2.setCell ⟨w.heap.size + 1, 0, none⟩ (.int .i64 1)).setCell ⟨w.heap.size + 1, 1, none⟩ (.int .i64 i)).setCell ⟨w.heap.size + 1, 2, none⟩ (.int .i64 0)).ownsRow W.heap.size 3 1 (.slice X p.length cx) p.length (intsC p)) := Lib.hid (own_low3 OP2.out HGx.out _ _ _)
    have SV3 : Hid (Blk (((V2.setCell ⟨w.heap.size + 1, 0, none⟩ (.int .i64 1)).setCell ⟨w.heap.size + 1, 1, none⟩ (.int .i64 i)).setCell ⟨w.heap.size + 1, 2, none⟩ (.int .i64 0)) w.heap.size (snapC A B C ca cb cc n1 p1 o1) 26) := Lib.hid (((SV2.out.oth (by omega) 0 _).oth (by omega) 1 _).oth (by omega) 2 _)
    have XV3 : Hid (Blk (((V2.setCell ⟨w.heap.size + 1, 0, none⟩ (.int .i64 1)).setCell ⟨w.heap.size + 1, 1, none⟩ (.int .i64 i)).setCell ⟨w.heap.size + 1, 2, none⟩ (.int .i64 0)) (w.heap.size + 1) #[.int .i64 1, .int .i64 i, .int .i64 0] 63) := Lib.hid (((XV2.out.set 0 _).set 1 _).set 2 _)
    have BV3 : Hid (Below w.heap.size w (((V2.setCell ⟨w.heap.size + 1, 0, none⟩ (.int .i64 1)).setCell ⟨w.heap.size + 1, 1, none⟩ (.int .i64 i)).setCell ⟨w.heap.size + 1, 2, none⟩ (.int .i64 0))) := Lib.hid (((BV2.out.setCell (p := ⟨w.heap.size + 1, 0, none⟩) hs1 _).setCell (p := ⟨w.heap.size + 1, 1, none⟩) hs1 _).setCell (p := ⟨w.heap.size + 1, 2, none⟩) hs1 _)
    go_upto_region 6 with fail
    clear x0 x1 x2 f0 f1 f2
    generalize (((V2.setCell ⟨w.heap.size + 1, 0, none⟩ (.int .i64 1)).setCell ⟨w.heap.size + 1, 1, none⟩ (.int .i64 i)).setCell ⟨w.heap.size + 1, 2, none⟩ (.int .i64 0)) = V3 at OP3 SV3 XV3 BV3 ⊢
    clear OP2 SV2 XV2 BV2
    have KS := Lib.hid (step_any A B C X ca cb cc cx n1 p1 o1 p 1 (i : Int) 0 V3 (H.out.below BV3.out) (IntsAt.own OP3.out))
    generalize stepF n1 p1 o1 p (1, (i : Int), 0) = T at KS hN
    obtain ⟨q, ⟨c0, c1, c2, c3⟩, x⟩ := T
    dsimp only at KS hN
    have z0 : V3.cell? ⟨w.heap.size, 0, none⟩ = some (.slice A n1.length ca) := Blk.cell SV3.out 0
    have z1 : V3.cell? ⟨w.heap.size, 1, none⟩ = some (.slice B p1.length cb) := Blk.cell SV3.out 1
    have z2 : V3.cell? ⟨w.heap.size, 2, none⟩ = some (.slice C o1.length cc) := Blk.cell SV3.out 2
    have x0 : V3.cell? ⟨w.heap.size + 1, 0, none⟩ = some (.int .i64 1) := Blk.cell XV3.out 0
    have x1 : V3.cell? ⟨w.heap.size + 1, 1, none⟩ = some (.int .i64 i) := Blk.cell XV3.out 1
    have x2 : V3.cell? ⟨w.heap.size + 1, 2, none⟩ = some (.int .i64 0) := Blk.cell XV3.out 2
    go_wp2_with fail
    refine (KS.out).mono ?_
    rintro e V4 ⟨vq, rfl, hoq, hb⟩
    obtain ⟨Gq, cq, rfl, _⟩ := La.own_slice hoq
    have BV4 := Lib.hid (BV3.out.trans (hb.mono BV3.out.size))
    have BV5 := Lib.hid (BV4.out.alloc BV4.out.size (.cells (clC (c0, c1, c2, c3)) 47))
    have SV5 := Lib.hid (Blk.alloc (SV3.out.below hb SV3.out.lt) (.cells (clC (c0, c1, c2, c3)) 47))
    have XV5 := Lib.hid (Blk.alloc (XV3.out.below hb XV3.out.lt) (.cells (clC (c0, c1, c2, c3)) 47))
    have CV5 := Lib.hid (Blk.new V4 (clC (c0, c1, c2, c3)) 47)
    clear hb hoq KS z0 z1 z2 x0 x1 x2 SV3 XV3 BV3 BV4 OP3
    go_upto_region 7 with fail
    try change Code.wp _ _ _ _ (V4.alloc (.cells (clC (c0, c1, c2, c3)) 47))
    generalize (V4.alloc (.cells (clC (c0, c1, c2, c3)) 47)) = V5 at BV5 SV5 XV5 CV5 ⊢
    generalize V4.heap.size = g at CV5 ⊢
    have z0 : V5.cell? ⟨w.heap.size, 0, none⟩ = some (.slice A n1.length ca) := Blk.cell SV5.out 0
    have z1 : V5.cell? ⟨w.heap.size, 1, none⟩ = some (.slice B p1.length cb) := Blk.cell SV5.out 1
    have z2 : V5.cell? ⟨w.heap.size, 2, none⟩ = some (.slice C o1.length cc) := Blk.cell SV5.out 2
    have x0 : V5.cell? ⟨w.heap.size + 1, 0, none⟩ = some (.int .i64 1) := Blk.cell XV5.out 0
    have x1 : V5.cell? ⟨w.heap.size + 1, 1, none⟩ = some (.int .i64 i) := Blk.cell XV5.out 1
    have x2 : V5.cell? ⟨w.heap.size + 1, 2, none⟩ = some (.int .i64 0) := Blk.cell XV5.out 2
    have y0 : V5.cell? ⟨g, 0, none⟩ = some (.int .i64 c0) := Blk.cell CV5.out 0
    have y1 : V5.cell? ⟨g, 1, none⟩ = some (.int .i64 c1) := Blk.cell CV5.out 1
    have y2 : V5.cell? ⟨g, 2, none⟩ = some (.int .i64 c2) := Blk.cell CV5.out 2
    have y3 : V5.cell? ⟨g, 3, none⟩ = some (.int .i64 c3) := Blk.cell CV5.out 3
    have HS5 := Lib.hid (H.out.below BV5.out)
    obtain ⟨u, hu⟩ : ∃ u, p1[i]? = some u := ⟨p1[i]'(by have := HPL.out; omega), List.getElem?_eq_getElem _⟩
    unfold NearTold NearOk at hN
    dsimp only at hN
    rcases hN with ⟨h0, hN⟩ | ⟨hx, hby, hN⟩
    · subst h0
      rcases hN with hx | ⟨hbb, _⟩
      · have hx1 : (x == 100) = false := by simpa using hx
        have hx2 : decide (x = 100) = false := decide_eq_false hx
        go_wp2_with fail
        refine (KW.out _).mono ?_
        rintro e w9 ⟨rfl, hb⟩
        have D := Lib.hid (BV5.out.trans (hb.mono BV5.out.size))
        clear hb
        go_wp2
        go_ret
        exact ⟨rfl, D.out⟩
      · cases hbb
    · subst hx
      have hb1 : decide (0 < c3) = true := decide_eq_true hby
      rcases hN with ⟨h0, hbb, h1⟩ | ⟨h0, hbb, h1⟩ | ⟨h0, ai, px, h1, hpx, hne⟩ | ⟨h0, hbb, ai, px, pu, h1, hpx, hpu, hown⟩ | ⟨h0, pu, hpu, h1⟩
      · cases hbb
      · cases hbb
      · subst h1
        have hai : ai < p1.length := (List.getElem?_eq_some_iff.1 hpx).1
        have a0 : (0 : Int) ≤ (ai : Int) := by omega
        have a1 : (ai : Int) < (p1.length : Int) := by omega
        have a2 : (ai : Int) < (p.length : Int) := by have := HPL.out; omega
        have a3 : decide ((ai : Int) < (p.length : Int)) = true := decide_eq_true a2
        have a4 : decide (ai < p.length) = true := decide_eq_true (by omega)
        obtain ⟨pb, po, hPa, _, _, e1, _, _, _, _, _, _, _, _, e10, _, e12, _⟩ := atP HS5.out.p.1 hpx
        subst hPa
        have hfw := HQ.out (by first | trivial | rfl) px (List.mem_of_getElem? hpx)
        have hj := fun (W : World) => run_string_add_lists (P := Tryz.prog) W px.wt px.ap (by omega) (by omega)
        clear hfw
        have hq : (px.wt ++ px.ap).isEmpty = false := by
          rw [← Bool.not_eq_true, List.isEmpty_iff, List.append_eq_nil_iff]
          rintro ⟨r1, r2⟩
          rcases hne with h | h
          · exact h r1
          · exact h r2
        rcases h0 with h0 | h0
        · subst h0
          go_upto_region 19 with fail
          go_quiet (fail)
          have BD := Lib.hid (below_drewN BV5.out nq)
          go_wp2_with fail
          refine (KW.out _).mono ?_
          rintro e w9 ⟨rfl, hb⟩
          have D := Lib.hid (BD.out.trans (hb.mono BD.out.size))
          clear hb
          go_wp2
          go_ret
          exact ⟨rfl, D.out⟩
        · subst h0
          go_upto_region 19 with fail
          go_quiet (fail)
          have BD := Lib.hid (below_drewN BV5.out nq)
          go_wp2_with fail
          refine (KW.out _).mono ?_
          rintro e w9 ⟨rfl, hb⟩
          have D := Lib.hid (BD.out.trans (hb.mono BD.out.size))
          clear hb
          go_wp2
          go_ret
          exact ⟨rfl, D.out⟩
      · cases hbb
      · obtain rfl : pu = u := by rw [hu] at hpu; exact (Option.some.inj hpu).symm
        have KM := Lib.hid (fun W' (hb : Below w.heap.size w W') => name10_any A B C ca cb cc n1 p1 o1 i pu W' (H.out.below hb) hu)
        generalize nameI o1 pu.owner o1.length = R at KM h1
        subst h1
        have DW : Hid (Below w.heap.size w V5.drew) := Lib.hid BV5.out.drew
        have HC := Lib.hid (fun W' (hb : Below V5.heap.size V5 W') => And.intro (Blk.cell (CV5.out.below hb CV5.out.lt) 1) (Blk.cell (CV5.out.below hb CV5.out.lt) 0))
        rcases h0 with h0 | h0
        · subst h0
          go_upto_region 9 with fail
          go_region_held3 (fun w' => w'.cell? ⟨w.heap.size, 0, none⟩ = some (.slice A n1.length ca) ∧ w'.cell? ⟨w.heap.size, 1, none⟩ = some (.slice B p1.length cb) ∧ w'.cell? ⟨w.heap.size, 2, none⟩ = some (.slice C o1.length cc) ∧ w'.cell? ⟨w.heap.size + 1, 1, none⟩ = some (.int .i64 i) ∧ w'.cell? ⟨g, 1, none⟩ = some (.int .i64 c1) ∧ w'.cell? ⟨g, 0, none⟩ = some (.int .i64 7) ∧ w'.cell? ⟨g, 3, none⟩ = some (.int .i64 c3))
            (first | exact ⟨z0, z1, z2, x1, y1, y0, y3⟩ | exact ⟨t0, t1, t2, t3, t4, t5, t6⟩)
            ((go_at_call 28; (with_reducible refine (KM.out _ DW.out).mono ?_); rintro e V6 ⟨rfl, hb⟩; have t0 := (hb.cell (p := ⟨w.heap.size, 0, none⟩) SV5.out.lt).trans z0; have t1 := (hb.cell (p := ⟨w.heap.size, 1, none⟩) SV5.out.lt).trans z1; have t2 := (hb.cell (p := ⟨w.heap.size, 2, none⟩) SV5.out.lt).trans z2; have t3 := (hb.cell (p := ⟨w.heap.size + 1, 1, none⟩) XV5.out.lt).trans x1; have t4 := (hb.cell (p := ⟨g, 1, none⟩) CV5.out.lt).trans y1; have t5 := (hb.cell (p := ⟨g, 0, none⟩) CV5.out.lt).trans y0; have t6 := (hb.cell (p := ⟨g, 3, none⟩) CV5.out.lt).trans y3; have BV6 := Lib.hid (DW.out.trans (hb.mono DW.out.size)); clear hb))
          all_goals
            (try clear z0 z1 z2 y0 y1 y2 y3 x0 x1 x2)
            go_wp2_with fail
            refine (KW.out _).mono ?_
            rintro e w9 ⟨rfl, hb⟩
            have D := Lib.hid (BV6.out.trans (hb.mono BV6.out.size))
            clear hb
            go_wp2
            go_ret
            exact ⟨rfl, D.out⟩
        · subst h0
          go_upto_region 9 with fail
          go_region_held3 (fun w' => w'.cell? ⟨w.heap.size, 0, none⟩ = some (.slice A n1.length ca) ∧ w'.cell? ⟨w.heap.size, 1, none⟩ = some (.slice B p1.length cb) ∧ w'.cell? ⟨w.heap.size, 2, none⟩ = some (.slice C o1.length cc) ∧ w'.cell? ⟨w.heap.size + 1, 1, none⟩ = some (.int .i64 i) ∧ w'.cell? ⟨g, 1, none⟩ = some (.int .i64 c1) ∧ w'.cell? ⟨g, 0, none⟩ = some (.int .i64 8) ∧ w'.cell? ⟨g, 3, none⟩ = some (.int .i64 c3))
            (first | exact ⟨z0, z1, z2, x1, y1, y0, y3⟩ | exact ⟨t0, t1, t2, t3, t4, t5, t6⟩)
            ((go_at_call 28; (with_reducible refine (KM.out _ DW.out).mono ?_); rintro e V6 ⟨rfl, hb⟩; have t0 := (hb.cell (p := ⟨w.heap.size, 0, none⟩) SV5.out.lt).trans z0; have t1 := (hb.cell (p := ⟨w.heap.size, 1, none⟩) SV5.out.lt).trans z1; have t2 := (hb.cell (p := ⟨w.heap.size, 2, none⟩) SV5.out.lt).trans z2; have t3 := (hb.cell (p := ⟨w.heap.size + 1, 1, none⟩) XV5.out.lt).trans x1; have t4 := (hb.cell (p := ⟨g, 1, none⟩) CV5.out.lt).trans y1; have t5 := (hb.cell (p := ⟨g, 0, none⟩) CV5.out.lt).trans y0; have t6 := (hb.cell (p := ⟨g, 3, none⟩) CV5.out.lt).trans y3; have BV6 := Lib.hid (DW.out.trans (hb.mono DW.out.size)); clear hb))
          all_goals
            (try clear z0 z1 z2 y0 y1 y2 y3 x0 x1 x2)
            go_wp2_with fail
            refine (KW.out _).mono ?_
            rintro e w9 ⟨rfl, hb⟩
            have D := Lib.hid (BV6.out.trans (hb.mono BV6.out.size))
            clear hb
            go_wp2
            go_ret
            exact ⟨rfl, D.out⟩
  · rw [hnx] at KN
    dsimp only at KN
    clear hnx
    go_upto_region 5 with fail
    go_wp2_with fail
    refine (KN.out).mono ?_
    rintro e V2 ⟨rfl, hb⟩
    have OP2 : Hid (V2.ownsRow W.heap.size 3 1 (.slice X p.length cx) p.length (intsC p)) := Lib.hid (La.own_below OP1.out hb)
    have BV2 := Lib.hid (BV1.out.trans (hb.mono BV1.out.size))
    have SV2 := Lib.hid (SV1.out.below hb SV1.out.lt)
    have XV2 := Lib.hid (XV1.out.below hb XV1.out.lt)
    clear hb KN z0 z1 z2 BV1 SV1 XV1 OP1 x0 x1 x2
    have x0 : V2.cell? ⟨w.heap.size + 1, 0, none⟩ = some (.int .i64 a) := Blk.cell XV2.out 0
    have x1 : V2.cell? ⟨w.heap.size + 1, 1, none⟩ = some (.int .i64 b) := Blk.cell XV2.out 1
    have x2 : V2.cell? ⟨w.heap.size + 1, 2, none⟩ = some (.int .i64 c) := Blk.cell XV2.out 2
    have f0 := Blk.free XV2.out 0
    have f1 := Blk.free XV2.out 1
    have f2 := Blk.free XV2.out 2
    have hs1 : w.heap.size ≤ w.heap.size + 1 := by omega
    have OP3 : Hid ((((V2.setCell ⟨w.heap.size + 1, 0, none⟩ (.int .i64 2)).setCell ⟨w.heap.size + 1, 1, none⟩ (.int .i64 i)).setCell ⟨w.heap.size + 1, 2, none⟩ (.int .i64 nd)).ownsRow W.heap.size 3 1 (.slice X p.length cx) p.length (intsC p)) := Lib.hid (own_low3 OP2.out HGx.out _ _ _)
    have SV3 : Hid (Blk (((V2.setCell ⟨w.heap.size + 1, 0, none⟩ (.int .i64 2)).setCell ⟨w.heap.size + 1, 1, none⟩ (.int .i64 i)).setCell ⟨w.heap.size + 1, 2, none⟩ (.int .i64 nd)) w.heap.size (snapC A B C ca cb cc n1 p1 o1) 26) := Lib.hid (((SV2.out.oth (by omega) 0 _).oth (by omega) 1 _).oth (by omega) 2 _)
    have XV3 : Hid (Blk (((V2.setCell ⟨w.heap.size + 1, 0, none⟩ (.int .i64 2)).setCell ⟨w.heap.size + 1, 1, none⟩ (.int .i64 i)).setCell ⟨w.heap.size + 1, 2, none⟩ (.int .i64 nd)) (w.heap.size + 1) #[.int .i64 2, .int .i64 i, .int .i64 nd] 63) := Lib.hid (((XV2.out.set 0 _).set 1 _).set 2 _)
    have BV3 : Hid (Below w.heap.size w (((V2.setCell ⟨w.heap.size + 1, 0, none⟩ (.int .i64 2)).setCell ⟨w.heap.size + 1, 1, none⟩ (.int .i64 i)).setCell ⟨w.heap.size + 1, 2, none⟩ (.int .i64 nd))) := Lib.hid (((BV2.out.setCell (p := ⟨w.heap.size + 1, 0, none⟩) hs1 _).setCell (p := ⟨w.heap.size + 1, 1, none⟩) hs1 _).setCell (p := ⟨w.heap.size + 1, 2, none⟩) hs1 _)
    go_upto_region 6 with fail
    clear x0 x1 x2 f0 f1 f2
    generalize (((V2.setCell ⟨w.heap.size + 1, 0, none⟩ (.int .i64 2)).setCell ⟨w.heap.size + 1, 1, none⟩ (.int .i64 i)).setCell ⟨w.heap.size + 1, 2, none⟩ (.int .i64 nd)) = V3 at OP3 SV3 XV3 BV3 ⊢
    clear OP2 SV2 XV2 BV2
    have KS := Lib.hid (step_any A B C X ca cb cc cx n1 p1 o1 p 2 (i : Int) nd V3 (H.out.below BV3.out) (IntsAt.own OP3.out))
    generalize stepF n1 p1 o1 p (2, (i : Int), nd) = T at KS hN
    obtain ⟨q, ⟨c0, c1, c2, c3⟩, x⟩ := T
    dsimp only at KS hN
    have z0 : V3.cell? ⟨w.heap.size, 0, none⟩ = some (.slice A n1.length ca) := Blk.cell SV3.out 0
    have z1 : V3.cell? ⟨w.heap.size, 1, none⟩ = some (.slice B p1.length cb) := Blk.cell SV3.out 1
    have z2 : V3.cell? ⟨w.heap.size, 2, none⟩ = some (.slice C o1.length cc) := Blk.cell SV3.out 2
    have x0 : V3.cell? ⟨w.heap.size + 1, 0, none⟩ = some (.int .i64 2) := Blk.cell XV3.out 0
    have x1 : V3.cell? ⟨w.heap.size + 1, 1, none⟩ = some (.int .i64 i) := Blk.cell XV3.out 1
    have x2 : V3.cell? ⟨w.heap.size + 1, 2, none⟩ = some (.int .i64 nd) := Blk.cell XV3.out 2
    go_wp2_with fail
    refine (KS.out).mono ?_
    rintro e V4 ⟨vq, rfl, hoq, hb⟩
    obtain ⟨Gq, cq, rfl, _⟩ := La.own_slice hoq
    have BV4 := Lib.hid (BV3.out.trans (hb.mono BV3.out.size))
    have BV5 := Lib.hid (BV4.out.alloc BV4.out.size (.cells (clC (c0, c1, c2, c3)) 47))
    have SV5 := Lib.hid (Blk.alloc (SV3.out.below hb SV3.out.lt) (.cells (clC (c0, c1, c2, c3)) 47))
    have XV5 := Lib.hid (Blk.alloc (XV3.out.below hb XV3.out.lt) (.cells (clC (c0, c1, c2, c3)) 47))
    have CV5 := Lib.hid (Blk.new V4 (clC (c0, c1, c2, c3)) 47)
    clear hb hoq KS z0 z1 z2 x0 x1 x2 SV3 XV3 BV3 BV4 OP3
    go_upto_region 7 with fail
    try change Code.wp _ _ _ _ (V4.alloc (.cells (clC (c0, c1, c2, c3)) 47))
    generalize (V4.alloc (.cells (clC (c0, c1, c2, c3)) 47)) = V5 at BV5 SV5 XV5 CV5 ⊢
    generalize V4.heap.size = g at CV5 ⊢
    have z0 : V5.cell? ⟨w.heap.size, 0, none⟩ = some (.slice A n1.length ca) := Blk.cell SV5.out 0
    have z1 : V5.cell? ⟨w.heap.size, 1, none⟩ = some (.slice B p1.length cb) := Blk.cell SV5.out 1
    have z2 : V5.cell? ⟨w.heap.size, 2, none⟩ = some (.slice C o1.length cc) := Blk.cell SV5.out 2
    have x0 : V5.cell? ⟨w.heap.size + 1, 0, none⟩ = some (.int .i64 2) := Blk.cell XV5.out 0
    have x1 : V5.cell? ⟨w.heap.size + 1, 1, none⟩ = some (.int .i64 i) := Blk.cell XV5.out 1
    have x2 : V5.cell? ⟨w.heap.size + 1, 2, none⟩ = some (.int .i64 nd) := Blk.cell XV5.out 2
    have y0 : V5.cell? ⟨g, 0, none⟩ = some (.int .i64 c0) := Blk.cell CV5.out 0
    have y1 : V5.cell? ⟨g, 1, none⟩ = some (.int .i64 c1) := Blk.cell CV5.out 1
    have y2 : V5.cell? ⟨g, 2, none⟩ = some (.int .i64 c2) := Blk.cell CV5.out 2
    have y3 : V5.cell? ⟨g, 3, none⟩ = some (.int .i64 c3) := Blk.cell CV5.out 3
    have HS5 := Lib.hid (H.out.below BV5.out)
    obtain ⟨u, hu⟩ : ∃ u, p1[i]? = some u := ⟨p1[i]'(by have := HPL.out; omega), List.getElem?_eq_getElem _⟩
    unfold NearTold NearOk at hN
    dsimp only at hN
    rcases hN with ⟨h0, hN⟩ | ⟨hx, hby, hN⟩
    · subst h0
      rcases hN with hx | ⟨hbb, hc⟩
      · have hx1 : (x == 100) = false := by simpa using hx
        have hx2 : decide (x = 100) = false := decide_eq_false hx
        go_wp2_with fail
        refine (KW.out _).mono ?_
        rintro e w9 ⟨rfl, hb⟩
        have D := Lib.hid (BV5.out.trans (hb.mono BV5.out.size))
        clear hb
        go_wp2
        go_ret
        exact ⟨rfl, D.out⟩
      · by_cases hx : x = 100
        · obtain ⟨k, hk⟩ : ∃ k : Nat, nd = (k : Int) := ⟨nd.toNat, by omega⟩
          subst hk
          obtain ⟨y, hy⟩ : ∃ y, n1[k]? = some y := ⟨n1[k]'(by omega), List.getElem?_eq_getElem _⟩
          have hyc : y.cordon = true := by
            unfold cordB at hc
            rw [Int.toNat_natCast, hy] at hc
            exact hc
          obtain ⟨nb, no, hNa, _, _, _, _, _, _, _, _, _, d8, _⟩ := atN HS5.out.n.1 hy
          subst hNa
          rw [hyc] at d8
          subst hx
          go_wp2_with fail
          refine (KW.out _).mono ?_
          rintro e w9 ⟨rfl, hb⟩
          have D := Lib.hid (BV5.out.trans (hb.mono BV5.out.size))
          clear hb
          go_wp2
          go_ret
          exact ⟨rfl, D.out⟩
        · have hx1 : (x == 100) = false := by simpa using hx
          have hx2 : decide (x = 100) = false := decide_eq_false hx
          go_wp2_with fail
          refine (KW.out _).mono ?_
          rintro e w9 ⟨rfl, hb⟩
          have D := Lib.hid (BV5.out.trans (hb.mono BV5.out.size))
          clear hb
          go_wp2
          go_ret
          exact ⟨rfl, D.out⟩
    · subst hx
      have hb1 : decide (0 < c3) = true := decide_eq_true hby
      rcases hN with ⟨h0, hbb, h1⟩ | ⟨h0, hbb, h1⟩ | ⟨h0, ai, px, h1, hpx, hne⟩ | ⟨h0, hbb, ai, px, pu, h1, hpx, hpu, hown⟩ | ⟨h0, pu, hpu, h1⟩
      · subst h0
        subst h1
        go_wp2_with fail
        refine (KW.out _).mono ?_
        rintro e w9 ⟨rfl, hb⟩
        have D := Lib.hid (BV5.out.trans (hb.mono BV5.out.size))
        clear hb
        go_wp2
        go_ret
        exact ⟨rfl, D.out⟩
      · subst h1
        rcases h0 with h0 | h0
        · subst h0
          go_wp2_with fail
          refine (KW.out _).mono ?_
          rintro e w9 ⟨rfl, hb⟩
          have D := Lib.hid (BV5.out.trans (hb.mono BV5.out.size))
          clear hb
          go_wp2
          go_ret
          exact ⟨rfl, D.out⟩
        · subst h0
          go_wp2_with fail
          refine (KW.out _).mono ?_
          rintro e w9 ⟨rfl, hb⟩
          have D := Lib.hid (BV5.out.trans (hb.mono BV5.out.size))
          clear hb
          go_wp2
          go_ret
          exact ⟨rfl, D.out⟩
      · subst h1
        have hai : ai < p1.length := (List.getElem?_eq_some_iff.1 hpx).1
        have a0 : (0 : Int) ≤ (ai : Int) := by omega
        have a1 : (ai : Int) < (p1.length : Int) := by omega
        have a2 : (ai : Int) < (p.length : Int) := by have := HPL.out; omega
        have a3 : decide ((ai : Int) < (p.length : Int)) = true := decide_eq_true a2
        have a4 : decide (ai < p.length) = true := decide_eq_true (by omega)
        obtain ⟨pb, po, hPa, _, _, e1, _, _, _, _, _, _, _, _, e10, _, e12, _⟩ := atP HS5.out.p.1 hpx
        subst hPa
        have hfw := HQ.out (by first | trivial | rfl) px (List.mem_of_getElem? hpx)
        have hj := fun (W : World) => run_string_add_lists (P := Tryz.prog) W px.wt px.ap (by omega) (by omega)
        clear hfw
        have hq : (px.wt ++ px.ap).isEmpty = false := by
          rw [← Bool.not_eq_true, List.isEmpty_iff, List.append_eq_nil_iff]
          rintro ⟨r1, r2⟩
          rcases hne with h | h
          · exact h r1
          · exact h r2
        rcases h0 with h0 | h0
        · subst h0
          go_upto_region 19 with fail
          go_quiet (fail)
          have BD := Lib.hid (below_drewN BV5.out nq)
          go_wp2_with fail
          refine (KW.out _).mono ?_
          rintro e w9 ⟨rfl, hb⟩
          have D := Lib.hid (BD.out.trans (hb.mono BD.out.size))
          clear hb
          go_wp2
          go_ret
          exact ⟨rfl, D.out⟩
        · subst h0
          go_upto_region 19 with fail
          go_quiet (fail)
          have BD := Lib.hid (below_drewN BV5.out nq)
          go_wp2_with fail
          refine (KW.out _).mono ?_
          rintro e w9 ⟨rfl, hb⟩
          have D := Lib.hid (BD.out.trans (hb.mono BD.out.size))
          clear hb
          go_wp2
          go_ret
          exact ⟨rfl, D.out⟩
      · subst h1
        subst h0
        have hai : ai < p1.length := (List.getElem?_eq_some_iff.1 hpx).1
        have a0 : (0 : Int) ≤ (ai : Int) := by omega
        have a1 : (ai : Int) < (p1.length : Int) := by omega
        have a2 : (ai : Int) < (p.length : Int) := by have := HPL.out; omega
        have a3 : decide ((ai : Int) < (p.length : Int)) = true := decide_eq_true a2
        have a4 : decide (ai < p.length) = true := decide_eq_true (by omega)
        obtain ⟨pb, po, hPa, _, _, e1, _, _, _, _, _, _, _, _, e10, _, e12, _⟩ := atP HS5.out.p.1 hpx
        subst hPa
        obtain rfl : pu = u := by rw [hu] at hpu; exact (Option.some.inj hpu).symm
        obtain ⟨pb9, po9, hPa9, _, _, g1, _⟩ := atP HS5.out.p.1 hu
        cases hPa9
        have hq : (px.owner == pu.owner) = true := beq_iff_eq.2 hown
        go_upto_region 21 with fail
        go_quiet (fail)
        have BD := Lib.hid (below_drewN BV5.out nq)
        go_wp2_with fail
        refine (KW.out _).mono ?_
        rintro e w9 ⟨rfl, hb⟩
        have D := Lib.hid (BD.out.trans (hb.mono BD.out.size))
        clear hb
        go_wp2
        go_ret
        exact ⟨rfl, D.out⟩
      · obtain rfl : pu = u := by rw [hu] at hpu; exact (Option.some.inj hpu).symm
        have KM := Lib.hid (fun W' (hb : Below w.heap.size w W') => name10_any A B C ca cb cc n1 p1 o1 i pu W' (H.out.below hb) hu)
        generalize nameI o1 pu.owner o1.length = R at KM h1
        subst h1
        have DW : Hid (Below w.heap.size w V5.drew) := Lib.hid BV5.out.drew
        have HC := Lib.hid (fun W' (hb : Below V5.heap.size V5 W') => And.intro (Blk.cell (CV5.out.below hb CV5.out.lt) 1) (Blk.cell (CV5.out.below hb CV5.out.lt) 0))
        rcases h0 with h0 | h0
        · subst h0
          go_upto_region 9 with fail
          go_region_held3 (fun w' => w'.cell? ⟨w.heap.size, 0, none⟩ = some (.slice A n1.length ca) ∧ w'.cell? ⟨w.heap.size, 1, none⟩ = some (.slice B p1.length cb) ∧ w'.cell? ⟨w.heap.size, 2, none⟩ = some (.slice C o1.length cc) ∧ w'.cell? ⟨w.heap.size + 1, 1, none⟩ = some (.int .i64 i) ∧ w'.cell? ⟨g, 1, none⟩ = some (.int .i64 c1) ∧ w'.cell? ⟨g, 0, none⟩ = some (.int .i64 7) ∧ w'.cell? ⟨g, 3, none⟩ = some (.int .i64 c3))
            (first | exact ⟨z0, z1, z2, x1, y1, y0, y3⟩ | exact ⟨t0, t1, t2, t3, t4, t5, t6⟩)
            ((go_at_call 28; (with_reducible refine (KM.out _ DW.out).mono ?_); rintro e V6 ⟨rfl, hb⟩; have t0 := (hb.cell (p := ⟨w.heap.size, 0, none⟩) SV5.out.lt).trans z0; have t1 := (hb.cell (p := ⟨w.heap.size, 1, none⟩) SV5.out.lt).trans z1; have t2 := (hb.cell (p := ⟨w.heap.size, 2, none⟩) SV5.out.lt).trans z2; have t3 := (hb.cell (p := ⟨w.heap.size + 1, 1, none⟩) XV5.out.lt).trans x1; have t4 := (hb.cell (p := ⟨g, 1, none⟩) CV5.out.lt).trans y1; have t5 := (hb.cell (p := ⟨g, 0, none⟩) CV5.out.lt).trans y0; have t6 := (hb.cell (p := ⟨g, 3, none⟩) CV5.out.lt).trans y3; have BV6 := Lib.hid (DW.out.trans (hb.mono DW.out.size)); clear hb))
          all_goals
            (try clear z0 z1 z2 y0 y1 y2 y3 x0 x1 x2)
            go_wp2_with fail
            refine (KW.out _).mono ?_
            rintro e w9 ⟨rfl, hb⟩
            have D := Lib.hid (BV6.out.trans (hb.mono BV6.out.size))
            clear hb
            go_wp2
            go_ret
            exact ⟨rfl, D.out⟩
        · subst h0
          go_upto_region 9 with fail
          go_region_held3 (fun w' => w'.cell? ⟨w.heap.size, 0, none⟩ = some (.slice A n1.length ca) ∧ w'.cell? ⟨w.heap.size, 1, none⟩ = some (.slice B p1.length cb) ∧ w'.cell? ⟨w.heap.size, 2, none⟩ = some (.slice C o1.length cc) ∧ w'.cell? ⟨w.heap.size + 1, 1, none⟩ = some (.int .i64 i) ∧ w'.cell? ⟨g, 1, none⟩ = some (.int .i64 c1) ∧ w'.cell? ⟨g, 0, none⟩ = some (.int .i64 8) ∧ w'.cell? ⟨g, 3, none⟩ = some (.int .i64 c3))
            (first | exact ⟨z0, z1, z2, x1, y1, y0, y3⟩ | exact ⟨t0, t1, t2, t3, t4, t5, t6⟩)
            ((go_at_call 28; (with_reducible refine (KM.out _ DW.out).mono ?_); rintro e V6 ⟨rfl, hb⟩; have t0 := (hb.cell (p := ⟨w.heap.size, 0, none⟩) SV5.out.lt).trans z0; have t1 := (hb.cell (p := ⟨w.heap.size, 1, none⟩) SV5.out.lt).trans z1; have t2 := (hb.cell (p := ⟨w.heap.size, 2, none⟩) SV5.out.lt).trans z2; have t3 := (hb.cell (p := ⟨w.heap.size + 1, 1, none⟩) XV5.out.lt).trans x1; have t4 := (hb.cell (p := ⟨g, 1, none⟩) CV5.out.lt).trans y1; have t5 := (hb.cell (p := ⟨g, 0, none⟩) CV5.out.lt).trans y0; have t6 := (hb.cell (p := ⟨g, 3, none⟩) CV5.out.lt).trans y3; have BV6 := Lib.hid (DW.out.trans (hb.mono DW.out.size)); clear hb))
          all_goals
            (try clear z0 z1 z2 y0 y1 y2 y3 x0 x1 x2)
            go_wp2_with fail
            refine (KW.out _).mono ?_
            rintro e w9 ⟨rfl, hb⟩
            have D := Lib.hid (BV6.out.trans (hb.mono BV6.out.size))
            clear hb
            go_wp2
            go_ret
            exact ⟨rfl, D.out⟩
end Go.Proofs.YtiiheajieegdkaaGreat
