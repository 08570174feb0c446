/- A region that draws its order, by what holds whichever of its operations have been done. No conditions. -/
import Derived.Test.YtgmecaaogmpakaaDoorBase
import Derived.OrdersHeld
import Derived.RegionTactic
namespace Go.Proofs.YtgmecaaogmpakaaDoor
open Go.RowKit

theorem count_done {l : Array Bool} {i : Nat} (hi : i < l.size) (h : l.getD i true = false) : (l.setIfInBounds i true).toList.count false + 1 = l.toList.count false := by
  have hf : l.toList[i]'(by simpa using hi) = false := by
    have : l[i] = false := by simpa [Array.getD, hi] using h
    simpa using this
  rw [Array.toList_setIfInBounds, List.count_set (by simpa using hi), hf]
  have hp : 0 < l.toList.count false := List.count_pos_iff.2 (by rw [← hf]; exact List.getElem_mem _)
  rw [if_pos (by rfl), if_neg (by decide)]
  omega

theorem wpAny_inv {P : Program} {md : Region.Mode} {ops : Array Oper} {Q : Exit → Act → World → Prop} (I : Array Bool → Act → World → Prop)
    (hsize : ∀ l a w, I l a w → l.size = ops.size)
    (hlex : ∀ (i : Nat) (o : Oper), ops[i]? = some o → ∀ e ∈ o.after, Region.binds md e = true → e.on < i)
    (hstep : ∀ l a w (i : Nat) (o : Oper), I l a w → ops[i]? = some o → l.getD i true = false → (∀ e ∈ o.after, Region.binds md e = true → l.getD e.on false = true) → wpOp P ops Q i (I (l.setIfInBounds i true)) a w)
    (hend : ∀ l a w, I l a w → (∀ i, i < ops.size → l.getD i false = true) → Q .normal a w) :
    ∀ (fuel : Nat) (l : Array Bool) (a : Act) (w : World), I l a w → l.toList.count false ≤ fuel → wpAny P md ops Q fuel l a w := by
  have hall : ∀ l a w, I l a w → Region.ready md ops l = [] → ∀ i, i < ops.size → l.getD i false = true := by
    intro l a w hI hr i
    induction i using Nat.strongRecOn with
    | ind i ih =>
      intro hi
      have hs := hsize l a w hI
      cases hq : l.getD i true with
      | true =>
        have hil : i < l.size := by omega
        simp [Array.getD, hil] at hq ⊢
        exact hq
      | false =>
        exfalso
        have hm : i ∈ Region.ready md ops l := by
          unfold Region.ready
          rw [List.mem_filter]
          refine ⟨List.mem_range.2 hi, ?_⟩
          rw [hq, Array.getElem?_eq_getElem hi]
          simp only [Bool.not_false, Bool.true_and, Option.map_some, Option.getD_some]
          rw [Array.all_eq_true_iff_forall_mem]
          intro e he
          by_cases hb : Region.binds md e = true
          · have hlt := hlex i ops[i] (Array.getElem?_eq_getElem hi) e he hb
            rw [ih e.on hlt (by omega)]
            simp
          · simp [hb]
        rw [hr] at hm
        cases hm
  have hst : ∀ l a w, I l a w → ∀ i ∈ Region.ready md ops l, i < ops.size ∧ l.getD i true = false ∧ ∃ o, ops[i]? = some o ∧ ∀ e ∈ o.after, Region.binds md e = true → l.getD e.on false = true := by
    intro l a w _ i hi
    unfold Region.ready at hi
    rw [List.mem_filter, List.mem_range] at hi
    obtain ⟨h1, h2⟩ := hi
    rw [Bool.and_eq_true, Array.getElem?_eq_getElem h1] at h2
    obtain ⟨h2, h3⟩ := h2
    refine ⟨h1, by simpa using h2, ops[i], Array.getElem?_eq_getElem h1, fun e he hb => ?_⟩
    simp only [Option.map_some, Option.getD_some] at h3
    rw [Array.all_eq_true_iff_forall_mem] at h3
    have := h3 e he
    simpa [hb] using this
  intro fuel
  induction fuel with
  | zero =>
    intro l a w hI hc
    have hr : Region.ready md ops l = [] := by
      cases hq : Region.ready md ops l with
      | nil => rfl
      | cons i r =>
        obtain ⟨h1, h2, _⟩ := hst l a w hI i (by rw [hq]; simp)
        have := count_done (l := l) (by rw [hsize l a w hI]; exact h1) h2
        omega
    exact ⟨hr, hend l a w hI (hall l a w hI hr)⟩
  | succ fuel ih =>
    intro l a w hI hc
    refine ⟨fun hr => hend l a w hI (hall l a w hI hr), fun i hi => ?_⟩
    obtain ⟨h1, h2, o, ho, he⟩ := hst l a w hI i hi
    refine wpOp_mono (fun a' w' h' => ih _ a' w' h' ?_) (hstep l a w i o hI ho h2 he)
    have := count_done (l := l) (by rw [hsize l a w hI]; exact h1) h2
    omega

end Go.Proofs.YtgmecaaogmpakaaDoor
