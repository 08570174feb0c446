/- What Percent answers, of every text: as a plain function of its bytes. No conditions. -/
import Derived.Test.YthbplchbolghjaaGreatDoorParse
namespace Go.Proofs.YthbplchbolghjaaGreatDoor.Qu
open Go.RowKit

set_option maxRecDepth 100000 in
set_option maxHeartbeats 1000000 in
theorem percent_any (s : ByteArray) (w : World) :
    Calls Tryz.prog 127 #[.string s] w fun e w' =>
      e = .returned (.tuple #[.int .i64 (percentL s).1, .int .i64 (percentL s).2.1, .int .i64 (percentL s).2.2]) ∧ Below w.heap.size w w' := by
  rcases hq : readL s 1 pctM with ⟨v, sc, a, e0⟩
  have Hq := Lib.hid hq
  clear hq
  have l0 := run_make w
  have l1 := run_lay' w [] [37] 1 pctM rfl rfl
  by_cases he : e0 = 0
  · subst he
    obtain ⟨hv0, hv1, hsc, k, hk⟩ := readL_ok pct_len Hq.out
    have hs1 := pct_val hk
    have hge : 0 ≤ v * sc := by rw [hs1]; omega
    have hle : v * sc < 11258999068426250 := by rw [hs1]; omega
    clear hk hsc hv1 hv0 hs1
    have Hval : Hid (percentL s = if 1000 < v * sc then (0, 0, 10) else (v * sc, 0, 0)) := by
      show percentL s = _
      unfold percentL
      rw [Hq.out]
      simp only []
      rfl
    by_cases h1 : 1000 < v * sc
    · go_enter Tryz.func127, Tryz.ntmps127
      go_wp2_with fail
      refine (read_is s 1 w.heap.size pctM _ v sc a 0 Hq.out (lay_at w pctM) pct_len (by omega)).mono ?_
      rintro e w' ⟨rfl, hb⟩
      have Hb := Lib.hid hb
      clear hb
      go_wp2
      go_ret3
      exact ⟨ret3I (by rw [Hval.out, if_pos h1]), (lay_below w pctM).trans (Hb.out.mono (by rw [lay_size]; omega))⟩
    · go_enter Tryz.func127, Tryz.ntmps127
      go_wp2_with fail
      refine (read_is s 1 w.heap.size pctM _ v sc a 0 Hq.out (lay_at w pctM) pct_len (by omega)).mono ?_
      rintro e w' ⟨rfl, hb⟩
      have Hb := Lib.hid hb
      clear hb
      go_wp2
      go_ret3
      exact ⟨ret3I (by rw [Hval.out, if_neg (Int.not_lt.2 h1)]), (lay_below w pctM).trans (Hb.out.mono (by rw [lay_size]; omega))⟩
  · have heb : (e0 != 0) = true := by simpa using he
    have Hval : Hid (percentL s = (0, a, e0)) := by
      show percentL s = _
      unfold percentL
      rw [Hq.out]
      simp only [if_pos he]
    have He := Lib.hid he
    clear he
    go_enter Tryz.func127, Tryz.ntmps127
    go_wp2_with fail
    refine (read_is s 1 w.heap.size pctM _ v sc a e0 Hq.out (lay_at w pctM) pct_len (by omega)).mono ?_
    rintro e w' ⟨rfl, hb⟩
    have Hb := Lib.hid hb
    clear hb
    go_wp2
    go_ret3
    exact ⟨ret3I (by rw [Hval.out]), (lay_below w pctM).trans (Hb.out.mono (by rw [lay_size]; omega))⟩

end Go.Proofs.YthbplchbolghjaaGreatDoor.Qu
