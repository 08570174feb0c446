/- What PrintPercent answers, of every number: as a plain function. Condition: the library's table of powers of ten lies as it was laid. -/
import Derived.Test.YthbplchbolghjaaGreatDoorPrint
namespace Go.Proofs.YthbplchbolghjaaGreatDoor.Qu
open Go.RowKit

set_option maxRecDepth 100000 in
set_option maxHeartbeats 400000 in
theorem printPercent_any (n : Int) (w : World) (ht : Tab w) :
    Calls Tryz.prog 51 #[.int .i64 n] w fun e w' => e = .returned (.tuple #[.string ⟨(pctL n).1.toArray⟩, .int .i64 (pctL n).2]) ∧ Below w.heap.size w w' := by
  have Ht := Lib.hid ht
  clear ht
  by_cases h0 : n < 0
  · go_enter Tryz.func51, Tryz.ntmps51
    go_wp2
    go_ret2
    exact ⟨retSI (a := []) (by unfold pctL; rw [if_pos (Or.inl h0)]), Below.refl _ _⟩
  · by_cases h1 : 1000 < n
    · go_enter Tryz.func51, Tryz.ntmps51
      go_wp2
      go_ret2
      exact ⟨retSI (a := []) (by unfold pctL; rw [if_pos (Or.inr h1)]), Below.refl _ _⟩
    · have l1 : (dec (n / 10)).length ≤ 21 := dec_len _ (by omega) (by omega)
      have l2 : (dec (n % 10)).length ≤ 21 := dec_len _ (by omega) (by omega)
      by_cases z : n % 10 = 0
      · have zb : (n % 10 != 0) = false := by simp [z]
        have Z := Lib.hid z
        clear z
        go_enter Tryz.func51, Tryz.ntmps51
        go_wp2_with fail
        refine (itoa_dec _ _ (by omega) (by omega) Ht.out).mono ?_
        rintro e w' ⟨rfl, hb⟩
        have Hb := Lib.hid hb
        clear hb
        have hj := join_l Tryz.prog w' (dec (n / 10)) [37] (by omega) (by decide)
        go_wp2
        go_ret2
        exact ⟨retSI (by unfold pctL; rw [if_neg (by omega), if_pos Z.out]), Hb.out⟩
      · have zb : (n % 10 != 0) = true := by simpa using z
        have Z := Lib.hid z
        clear z
        go_enter Tryz.func51, Tryz.ntmps51
        go_wp2_with fail
        refine (itoa_dec _ _ (by omega) (by omega) Ht.out).mono ?_
        rintro e w' ⟨rfl, hb⟩
        have Hb := Lib.hid hb
        clear hb
        go_wp2_with fail
        refine (itoa_dec _ _ (by omega) (by omega) (Ht.out.below Hb.out)).mono ?_
        rintro e w2 ⟨rfl, hb2⟩
        have Hb2 := Lib.hid hb2
        clear hb2
        have j1 := join_l Tryz.prog w2 [46] (dec (n % 10)) (by decide) (by omega)
        have j2 := join_l Tryz.prog w2 (dec (n / 10)) ([46] ++ dec (n % 10)) (by omega) (by simp; omega)
        have j3 := join_l Tryz.prog w2 (dec (n / 10) ++ ([46] ++ dec (n % 10))) [37] (by simp; omega) (by decide)
        generalize hx : [46] ++ dec (n % 10) = x at j1 j2 j3
        generalize hy : dec (n / 10) ++ x = y at j2 j3
        have Hx := Lib.hid hx
        have Hy := Lib.hid hy
        clear hx hy
        go_wp2
        go_ret2
        exact ⟨retSI (by unfold pctL; rw [if_neg (by omega), if_neg Z.out, Hx.out, Hy.out]), Hb.out.trans (Hb2.out.mono Hb.out.size)⟩

end Go.Proofs.YthbplchbolghjaaGreatDoor.Qu
