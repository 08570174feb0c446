/- What Labels, Borne and Terms answer of every text: as plain functions. Condition: a text that can lie in memory. -/
import Derived.Test.YteclbkjonaildaaLListL
import Derived.Test.YteclbkjonaildaaLListT
namespace Go.Proofs.Yteclbkjonaildaa
open Go.RowKit

theorem valF_le (l : List UInt8) (a : Nat) (h : a ≤ l.length) : (valF l a).2.2 ≤ l.length := word_le okVal l a h
theorem anyF_le (l : List UInt8) (a : Nat) (h : a ≤ l.length) : (anyF l a).2.2 ≤ l.length := by
  unfold anyF
  split
  · rename_i hs
    exact sign_lt hs
  · exact valF_le l a h
theorem labF_le (vf : List UInt8 → Nat → List UInt8 × Bool × Nat) (l : List UInt8) (hv : ∀ a, a ≤ l.length → (vf l a).2.2 ≤ l.length) (a : Nat) (h : a ≤ l.length) : (labF vf l a).2.2 ≤ l.length := by
  have hn := word_le okName l a h
  unfold labF
  simp only
  split
  · exact h
  · split
    · exact hn
    · rename_i hs
      have := sign_lt (by simpa using hs : signL l (a + wordL okName l a) 61 = true)
      exact hv _ this
theorem terF_le (l : List UInt8) (a : Nat) (h : a ≤ l.length) : (terF l a).2.2 ≤ l.length := by
  unfold terF
  split
  · rename_i hs
    exact word_le okName l (a + 1) (sign_lt hs)
  · have hn := word_le okName l a h
    simp only
    split
    · exact h
    · rcases relF_cases l (a + wordL okName l a) hn with e | ⟨b, e, hb⟩ | ⟨k, b, e, hk, hb⟩
      · rw [e]
        simp only
        rw [if_neg (by simp)]
        exact hn
      · rw [e]
        simp only
        rw [if_neg (by simp)]
        exact hb
      · rw [e]
        simp only
        rw [if_pos ⟨trivial, by omega⟩]
        exact valF_le l b hb

abbrev readLab (l : List UInt8) := readA (labF valF) keyR l
abbrev readBor (l : List UInt8) := readA (labF anyF) pairR l
abbrev readTer (l : List UInt8) := readA terF anyR l

set_option maxHeartbeats 400000 in
theorem labels_any (l : List UInt8) (w : World) (hl : l.length ≤ 140737488355328) : Calls Try.prog 8 #[strV l] w (ListedL w (readLab l)) := by
  have K := Lib.hid (readListL_any (labF valF) keyR 30 33 l w hl (fun _ _ => by kernel_rfl) (fun _ _ => by kernel_rfl) (fun B a w h ha => fLabels B l a w h hl ha) (labF_le valF l (valF_le l)) keysRise_any)
  show Calls _ _ _ _ (ListedL w (readA (labF valF) keyR l))
  rcases hV : readA (labF valF) keyR l with ⟨res, x0, e0⟩
  rw [hV] at K
  clear hV
  go_enter Try.func8, Try.ntmps8
  go_wp2_with fail
  refine K.out.mono ?_
  rintro e w1 ⟨v, rfl, ho, hb⟩
  have HO := Lib.hid ho
  have HB := Lib.hid hb
  clear ho hb
  go_wp2
  go_ret3
  exact ⟨_, rfl, HO.out, HB.out⟩
set_option maxHeartbeats 400000 in
theorem borne_any (l : List UInt8) (w : World) (hl : l.length ≤ 140737488355328) : Calls Try.prog 10 #[strV l] w (ListedL w (readBor l)) := by
  have K := Lib.hid (readListL_any (labF anyF) pairR 35 37 l w hl (fun _ _ => by kernel_rfl) (fun _ _ => by kernel_rfl) (fun B a w h ha => fBorne B l a w h hl ha) (labF_le anyF l (anyF_le l)) pairsRise_any)
  show Calls _ _ _ _ (ListedL w (readA (labF anyF) pairR l))
  rcases hV : readA (labF anyF) pairR l with ⟨res, x0, e0⟩
  rw [hV] at K
  clear hV
  go_enter Try.func10, Try.ntmps10
  go_wp2_with fail
  refine K.out.mono ?_
  rintro e w1 ⟨v, rfl, ho, hb⟩
  have HO := Lib.hid ho
  have HB := Lib.hid hb
  clear ho hb
  go_wp2
  go_ret3
  exact ⟨_, rfl, HO.out, HB.out⟩
set_option maxHeartbeats 400000 in
theorem terms_any (l : List UInt8) (w : World) (hl : l.length ≤ 140737488355328) : Calls Try.prog 12 #[strV l] w (ListedT w (readTer l)) := by
  have K := Lib.hid (readListT_any terF anyR 39 41 l w hl (fun _ _ => by kernel_rfl) (fun _ _ => by kernel_rfl) (fun B a w h ha => fTerms B l a w h hl ha) (terF_le l) anyOrder_any)
  show Calls _ _ _ _ (ListedT w (readA terF anyR l))
  rcases hV : readA terF anyR l with ⟨res, x0, e0⟩
  rw [hV] at K
  clear hV
  go_enter Try.func12, Try.ntmps12
  go_wp2_with fail
  refine K.out.mono ?_
  rintro e w1 ⟨v, rfl, ho, hb⟩
  have HO := Lib.hid ho
  have HB := Lib.hid hb
  clear ho hb
  go_wp2
  go_ret3
  exact ⟨_, rfl, HO.out, HB.out⟩

end Go.Proofs.Yteclbkjonaildaa
