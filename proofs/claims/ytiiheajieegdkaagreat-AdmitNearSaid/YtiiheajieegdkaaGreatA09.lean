/- What the plain functions tell of the chapter's cluster, as layer 10 asks: its clauses, what is worse. No conditions. The chapter's cluster, as layer 10's statements make it. No conditions. The chapter's examples of layer 8 hold. No conditions. Small words of the laws of clause: a cluster behind a step, how many clauses there are at most. No conditions but these. (LawKAll has its own copies: never import both.) Small words of the laws of safe and admit: two rows of the same numbers are the same. Condition: they lie in memory. The chapter's examples of layer 10 hold. No conditions. -/
import Derived.Test.YtiiheajieegdkaaGreatA08
import Derived.Deep.RegionHeld3

namespace Go.Proofs.YtiiheajieegdkaaGreat
open Go.RowKit Go.Maps Go.Sort

theorem e1001w_place (N : Nat) : placeE (chN8 N [98] false) chP (chO8 1) [0, 1, -1] = 0 := by kernel_rfl
theorem e1001w_spread (N : Nat) : spreadF (chN8 N [98] false) chP (chO8 1) [0, 1, -1] 0 = [1, 1] := by
  have h1 : ownerB (chN8 N [98] false) chP (chO8 1) [0, 1, -1] 0 = true := by kernel_rfl
  have h2 : strKeys (spreadD (chN8 N [98] false) bZone [0, 1, -1] (offL [0, 1, -1] (membersF chP [111]))) = [[120], [121]] := by kernel_rfl
  unfold spreadF
  rw [if_pos h1]
  show rowD (spreadD (chN8 N [98] false) bZone [0, 1, -1] (offL [0, 1, -1] (membersF chP [111]))) = [1, 1]
  unfold rowD sortK
  rw [h2, sort2]
  kernel_rfl
theorem e1001w_all (N : Nat) : all8 (chN8 N [98] false) chP (chO8 1) [0, 1, -1] = [(1, 0, 0, 0), (1, 0, 1, 0), (1, 0, 2, 0), (1, 0, 3, 0), (1, 0, 4, 0), (1, 1, 0, 0), (1, 1, 1, 0), (1, 1, 2, 0), (1, 1, 3, 0), (1, 1, 4, 0), (1, 2, 0, 0), (1, 2, 1, 0), (1, 2, 2, 0), (1, 2, 3, 0), (1, 2, 4, 0), (2, 0, 0, 0), (2, 1, 0, 0), (3, 0, 0, 0), (3, 1, 0, 0), (7, 0, 0, 0), (8, 0, 0, 0)] := by
  have h1 : capsU (chN8 N [98] false) chP [0, 1, -1] 3 = [(1, 0, 0, 0), (1, 0, 1, 0), (1, 0, 2, 0), (1, 0, 3, 0), (1, 0, 4, 0), (1, 1, 0, 0), (1, 1, 1, 0), (1, 1, 2, 0), (1, 1, 3, 0), (1, 1, 4, 0), (1, 2, 0, 0), (1, 2, 1, 0), (1, 2, 2, 0), (1, 2, 3, 0), (1, 2, 4, 0)] := by kernel_rfl
  have h2 : kindsU (chN8 N [98] false) chP (chO8 1) [0, 1, -1] 5 = [(2, 0, 0, 0), (2, 1, 0, 0), (3, 0, 0, 0), (3, 1, 0, 0)] := by kernel_rfl
  have h3 : spreadsU (chN8 N [98] false) chP (chO8 1) [0, 1, -1] 1 = [(7, 0, 0, skewO (spreadF (chN8 N [98] false) chP (chO8 1) [0, 1, -1] 0) 1)] := rfl
  have h4 : minsU (chN8 N [98] false) chP (chO8 1) [0, 1, -1] 1 = [(8, 0, 0, 0)] := by kernel_rfl
  unfold all8
  rw [if_pos (e1001w_place N)]
  unfold allU
  rw [show (chN8 N [98] false).length = 3 from rfl, show (chO8 1).length = 1 from rfl, h1, h2, h3, h4, e1001w_spread, show skewO [1, 1] 1 = 0 by kernel_rfl]
  rfl
theorem e10010_place (N : Nat) : placeE (chN8 N [98] false) chP (chO8 1) [0, 1, 0] = 0 := by kernel_rfl
theorem e10010_spread (N : Nat) : spreadF (chN8 N [98] false) chP (chO8 1) [0, 1, 0] 0 = [2, 1] := by
  have h1 : ownerB (chN8 N [98] false) chP (chO8 1) [0, 1, 0] 0 = true := by kernel_rfl
  have h2 : strKeys (spreadD (chN8 N [98] false) bZone [0, 1, 0] (offL [0, 1, 0] (membersF chP [111]))) = [[120], [121]] := by kernel_rfl
  unfold spreadF
  rw [if_pos h1]
  show rowD (spreadD (chN8 N [98] false) bZone [0, 1, 0] (offL [0, 1, 0] (membersF chP [111]))) = [2, 1]
  unfold rowD sortK
  rw [h2, sort2]
  kernel_rfl
theorem e10010_all (N : Nat) : all8 (chN8 N [98] false) chP (chO8 1) [0, 1, 0] = [(1, 0, 0, 5), (1, 0, 1, 0), (1, 0, 2, 0), (1, 0, 3, 0), (1, 0, 4, 0), (1, 1, 0, 0), (1, 1, 1, 0), (1, 1, 2, 0), (1, 1, 3, 0), (1, 1, 4, 0), (1, 2, 0, 0), (1, 2, 1, 0), (1, 2, 2, 0), (1, 2, 3, 0), (1, 2, 4, 0), (2, 0, 0, 0), (2, 1, 0, 0), (2, 2, 0, 0), (3, 0, 0, 0), (3, 1, 0, 0), (3, 2, 0, 0), (7, 0, 0, 0), (8, 0, 0, 0)] := by
  have h1 : capsU (chN8 N [98] false) chP [0, 1, 0] 3 = [(1, 0, 0, 5), (1, 0, 1, 0), (1, 0, 2, 0), (1, 0, 3, 0), (1, 0, 4, 0), (1, 1, 0, 0), (1, 1, 1, 0), (1, 1, 2, 0), (1, 1, 3, 0), (1, 1, 4, 0), (1, 2, 0, 0), (1, 2, 1, 0), (1, 2, 2, 0), (1, 2, 3, 0), (1, 2, 4, 0)] := by kernel_rfl
  have h2 : kindsU (chN8 N [98] false) chP (chO8 1) [0, 1, 0] 5 = [(2, 0, 0, 0), (2, 1, 0, 0), (2, 2, 0, 0), (3, 0, 0, 0), (3, 1, 0, 0), (3, 2, 0, 0)] := by kernel_rfl
  have h3 : spreadsU (chN8 N [98] false) chP (chO8 1) [0, 1, 0] 1 = [(7, 0, 0, skewO (spreadF (chN8 N [98] false) chP (chO8 1) [0, 1, 0] 0) 1)] := rfl
  have h4 : minsU (chN8 N [98] false) chP (chO8 1) [0, 1, 0] 1 = [(8, 0, 0, 0)] := by kernel_rfl
  unfold all8
  rw [if_pos (e10010_place N)]
  unfold allU
  rw [show (chN8 N [98] false).length = 3 from rfl, show (chO8 1).length = 1 from rfl, h1, h2, h3, h4, e10010_spread, show skewO [2, 1] 1 = 0 by kernel_rfl]
  rfl
theorem e10011_place (N : Nat) : placeE (chN8 N [98] false) chP (chO8 1) [0, 1, 1] = 0 := by kernel_rfl
theorem e10011_spread (N : Nat) : spreadF (chN8 N [98] false) chP (chO8 1) [0, 1, 1] 0 = [1, 2] := by
  have h1 : ownerB (chN8 N [98] false) chP (chO8 1) [0, 1, 1] 0 = true := by kernel_rfl
  have h2 : strKeys (spreadD (chN8 N [98] false) bZone [0, 1, 1] (offL [0, 1, 1] (membersF chP [111]))) = [[120], [121]] := by kernel_rfl
  unfold spreadF
  rw [if_pos h1]
  show rowD (spreadD (chN8 N [98] false) bZone [0, 1, 1] (offL [0, 1, 1] (membersF chP [111]))) = [1, 2]
  unfold rowD sortK
  rw [h2, sort2]
  kernel_rfl
theorem e10011_all (N : Nat) : all8 (chN8 N [98] false) chP (chO8 1) [0, 1, 1] = [(1, 0, 0, 0), (1, 0, 1, 0), (1, 0, 2, 0), (1, 0, 3, 0), (1, 0, 4, 0), (1, 1, 0, 5), (1, 1, 1, 0), (1, 1, 2, 0), (1, 1, 3, 0), (1, 1, 4, 0), (1, 2, 0, 0), (1, 2, 1, 0), (1, 2, 2, 0), (1, 2, 3, 0), (1, 2, 4, 0), (2, 0, 0, 0), (2, 1, 0, 0), (2, 2, 0, 0), (3, 0, 0, 0), (3, 1, 0, 0), (3, 2, 0, 0), (7, 0, 0, 0), (8, 0, 0, 0)] := by
  have h1 : capsU (chN8 N [98] false) chP [0, 1, 1] 3 = [(1, 0, 0, 0), (1, 0, 1, 0), (1, 0, 2, 0), (1, 0, 3, 0), (1, 0, 4, 0), (1, 1, 0, 5), (1, 1, 1, 0), (1, 1, 2, 0), (1, 1, 3, 0), (1, 1, 4, 0), (1, 2, 0, 0), (1, 2, 1, 0), (1, 2, 2, 0), (1, 2, 3, 0), (1, 2, 4, 0)] := by kernel_rfl
  have h2 : kindsU (chN8 N [98] false) chP (chO8 1) [0, 1, 1] 5 = [(2, 0, 0, 0), (2, 1, 0, 0), (2, 2, 0, 0), (3, 0, 0, 0), (3, 1, 0, 0), (3, 2, 0, 0)] := by kernel_rfl
  have h3 : spreadsU (chN8 N [98] false) chP (chO8 1) [0, 1, 1] 1 = [(7, 0, 0, skewO (spreadF (chN8 N [98] false) chP (chO8 1) [0, 1, 1] 0) 1)] := rfl
  have h4 : minsU (chN8 N [98] false) chP (chO8 1) [0, 1, 1] 1 = [(8, 0, 0, 0)] := by kernel_rfl
  unfold all8
  rw [if_pos (e10011_place N)]
  unfold allU
  rw [show (chN8 N [98] false).length = 3 from rfl, show (chO8 1).length = 1 from rfl, h1, h2, h3, h4, e10011_spread, show skewO [1, 2] 1 = 0 by kernel_rfl]
  rfl
theorem e10012_place (N : Nat) : placeE (chN8 N [98] false) chP (chO8 1) [0, 1, 2] = 0 := by kernel_rfl
theorem e10012_spread (N : Nat) : spreadF (chN8 N [98] false) chP (chO8 1) [0, 1, 2] 0 = [1, 1] := by
  have h1 : ownerB (chN8 N [98] false) chP (chO8 1) [0, 1, 2] 0 = true := by kernel_rfl
  have h2 : strKeys (spreadD (chN8 N [98] false) bZone [0, 1, 2] (offL [0, 1, 2] (membersF chP [111]))) = [[120], [121]] := by kernel_rfl
  unfold spreadF
  rw [if_pos h1]
  show rowD (spreadD (chN8 N [98] false) bZone [0, 1, 2] (offL [0, 1, 2] (membersF chP [111]))) = [1, 1]
  unfold rowD sortK
  rw [h2, sort2]
  kernel_rfl
theorem e10012_all (N : Nat) : all8 (chN8 N [98] false) chP (chO8 1) [0, 1, 2] = [(1, 0, 0, 0), (1, 0, 1, 0), (1, 0, 2, 0), (1, 0, 3, 0), (1, 0, 4, 0), (1, 1, 0, 0), (1, 1, 1, 0), (1, 1, 2, 0), (1, 1, 3, 0), (1, 1, 4, 0), (1, 2, 0, 0), (1, 2, 1, 0), (1, 2, 2, 0), (1, 2, 3, 0), (1, 2, 4, 0), (2, 0, 0, 0), (2, 1, 0, 0), (2, 2, 0, 0), (3, 0, 0, 0), (3, 1, 0, 0), (3, 2, 0, 0), (7, 0, 0, 0), (8, 0, 0, 0)] := by
  have h1 : capsU (chN8 N [98] false) chP [0, 1, 2] 3 = [(1, 0, 0, 0), (1, 0, 1, 0), (1, 0, 2, 0), (1, 0, 3, 0), (1, 0, 4, 0), (1, 1, 0, 0), (1, 1, 1, 0), (1, 1, 2, 0), (1, 1, 3, 0), (1, 1, 4, 0), (1, 2, 0, 0), (1, 2, 1, 0), (1, 2, 2, 0), (1, 2, 3, 0), (1, 2, 4, 0)] := by kernel_rfl
  have h2 : kindsU (chN8 N [98] false) chP (chO8 1) [0, 1, 2] 5 = [(2, 0, 0, 0), (2, 1, 0, 0), (2, 2, 0, 0), (3, 0, 0, 0), (3, 1, 0, 0), (3, 2, 0, 0)] := by kernel_rfl
  have h3 : spreadsU (chN8 N [98] false) chP (chO8 1) [0, 1, 2] 1 = [(7, 0, 0, skewO (spreadF (chN8 N [98] false) chP (chO8 1) [0, 1, 2] 0) 1)] := rfl
  have h4 : minsU (chN8 N [98] false) chP (chO8 1) [0, 1, 2] 1 = [(8, 0, 0, 0)] := by kernel_rfl
  unfold all8
  rw [if_pos (e10012_place N)]
  unfold allU
  rw [show (chN8 N [98] false).length = 3 from rfl, show (chO8 1).length = 1 from rfl, h1, h2, h3, h4, e10012_spread, show skewO [1, 1] 1 = 0 by kernel_rfl]
  rfl
theorem e10w1w_place (N : Nat) : placeE (chN8 N [98] false) chP (chO8 1) [-1, 1, -1] = 0 := by kernel_rfl
theorem e10w1w_spread (N : Nat) : spreadF (chN8 N [98] false) chP (chO8 1) [-1, 1, -1] 0 = [0, 1] := by
  have h1 : ownerB (chN8 N [98] false) chP (chO8 1) [-1, 1, -1] 0 = true := by kernel_rfl
  have h2 : strKeys (spreadD (chN8 N [98] false) bZone [-1, 1, -1] (offL [-1, 1, -1] (membersF chP [111]))) = [[120], [121]] := by kernel_rfl
  unfold spreadF
  rw [if_pos h1]
  show rowD (spreadD (chN8 N [98] false) bZone [-1, 1, -1] (offL [-1, 1, -1] (membersF chP [111]))) = [0, 1]
  unfold rowD sortK
  rw [h2, sort2]
  kernel_rfl
theorem e10w1w_all (N : Nat) : all8 (chN8 N [98] false) chP (chO8 1) [-1, 1, -1] = [(1, 0, 0, 0), (1, 0, 1, 0), (1, 0, 2, 0), (1, 0, 3, 0), (1, 0, 4, 0), (1, 1, 0, 0), (1, 1, 1, 0), (1, 1, 2, 0), (1, 1, 3, 0), (1, 1, 4, 0), (1, 2, 0, 0), (1, 2, 1, 0), (1, 2, 2, 0), (1, 2, 3, 0), (1, 2, 4, 0), (2, 1, 0, 0), (3, 1, 0, 0), (7, 0, 0, 0), (8, 0, 0, 0)] := by
  have h1 : capsU (chN8 N [98] false) chP [-1, 1, -1] 3 = [(1, 0, 0, 0), (1, 0, 1, 0), (1, 0, 2, 0), (1, 0, 3, 0), (1, 0, 4, 0), (1, 1, 0, 0), (1, 1, 1, 0), (1, 1, 2, 0), (1, 1, 3, 0), (1, 1, 4, 0), (1, 2, 0, 0), (1, 2, 1, 0), (1, 2, 2, 0), (1, 2, 3, 0), (1, 2, 4, 0)] := by kernel_rfl
  have h2 : kindsU (chN8 N [98] false) chP (chO8 1) [-1, 1, -1] 5 = [(2, 1, 0, 0), (3, 1, 0, 0)] := by kernel_rfl
  have h3 : spreadsU (chN8 N [98] false) chP (chO8 1) [-1, 1, -1] 1 = [(7, 0, 0, skewO (spreadF (chN8 N [98] false) chP (chO8 1) [-1, 1, -1] 0) 1)] := rfl
  have h4 : minsU (chN8 N [98] false) chP (chO8 1) [-1, 1, -1] 1 = [(8, 0, 0, 0)] := by kernel_rfl
  unfold all8
  rw [if_pos (e10w1w_place N)]
  unfold allU
  rw [show (chN8 N [98] false).length = 3 from rfl, show (chO8 1).length = 1 from rfl, h1, h2, h3, h4, e10w1w_spread, show skewO [0, 1] 1 = 0 by kernel_rfl]
  rfl
theorem e10w10_place (N : Nat) : placeE (chN8 N [98] false) chP (chO8 1) [-1, 1, 0] = 0 := by kernel_rfl
theorem e10w10_spread (N : Nat) : spreadF (chN8 N [98] false) chP (chO8 1) [-1, 1, 0] 0 = [1, 1] := by
  have h1 : ownerB (chN8 N [98] false) chP (chO8 1) [-1, 1, 0] 0 = true := by kernel_rfl
  have h2 : strKeys (spreadD (chN8 N [98] false) bZone [-1, 1, 0] (offL [-1, 1, 0] (membersF chP [111]))) = [[120], [121]] := by kernel_rfl
  unfold spreadF
  rw [if_pos h1]
  show rowD (spreadD (chN8 N [98] false) bZone [-1, 1, 0] (offL [-1, 1, 0] (membersF chP [111]))) = [1, 1]
  unfold rowD sortK
  rw [h2, sort2]
  kernel_rfl
theorem e10w10_all (N : Nat) : all8 (chN8 N [98] false) chP (chO8 1) [-1, 1, 0] = [(1, 0, 0, 0), (1, 0, 1, 0), (1, 0, 2, 0), (1, 0, 3, 0), (1, 0, 4, 0), (1, 1, 0, 0), (1, 1, 1, 0), (1, 1, 2, 0), (1, 1, 3, 0), (1, 1, 4, 0), (1, 2, 0, 0), (1, 2, 1, 0), (1, 2, 2, 0), (1, 2, 3, 0), (1, 2, 4, 0), (2, 1, 0, 0), (2, 2, 0, 0), (3, 1, 0, 0), (3, 2, 0, 0), (7, 0, 0, 0), (8, 0, 0, 0)] := by
  have h1 : capsU (chN8 N [98] false) chP [-1, 1, 0] 3 = [(1, 0, 0, 0), (1, 0, 1, 0), (1, 0, 2, 0), (1, 0, 3, 0), (1, 0, 4, 0), (1, 1, 0, 0), (1, 1, 1, 0), (1, 1, 2, 0), (1, 1, 3, 0), (1, 1, 4, 0), (1, 2, 0, 0), (1, 2, 1, 0), (1, 2, 2, 0), (1, 2, 3, 0), (1, 2, 4, 0)] := by kernel_rfl
  have h2 : kindsU (chN8 N [98] false) chP (chO8 1) [-1, 1, 0] 5 = [(2, 1, 0, 0), (2, 2, 0, 0), (3, 1, 0, 0), (3, 2, 0, 0)] := by kernel_rfl
  have h3 : spreadsU (chN8 N [98] false) chP (chO8 1) [-1, 1, 0] 1 = [(7, 0, 0, skewO (spreadF (chN8 N [98] false) chP (chO8 1) [-1, 1, 0] 0) 1)] := rfl
  have h4 : minsU (chN8 N [98] false) chP (chO8 1) [-1, 1, 0] 1 = [(8, 0, 0, 0)] := by kernel_rfl
  unfold all8
  rw [if_pos (e10w10_place N)]
  unfold allU
  rw [show (chN8 N [98] false).length = 3 from rfl, show (chO8 1).length = 1 from rfl, h1, h2, h3, h4, e10w10_spread, show skewO [1, 1] 1 = 0 by kernel_rfl]
  rfl
theorem e10ww0_place (N : Nat) : placeE (chN8 N [98] false) chP (chO8 1) [-1, -1, 0] = 0 := by kernel_rfl
theorem e10ww0_spread (N : Nat) : spreadF (chN8 N [98] false) chP (chO8 1) [-1, -1, 0] 0 = [1, 0] := by
  have h1 : ownerB (chN8 N [98] false) chP (chO8 1) [-1, -1, 0] 0 = true := by kernel_rfl
  have h2 : strKeys (spreadD (chN8 N [98] false) bZone [-1, -1, 0] (offL [-1, -1, 0] (membersF chP [111]))) = [[120], [121]] := by kernel_rfl
  unfold spreadF
  rw [if_pos h1]
  show rowD (spreadD (chN8 N [98] false) bZone [-1, -1, 0] (offL [-1, -1, 0] (membersF chP [111]))) = [1, 0]
  unfold rowD sortK
  rw [h2, sort2]
  kernel_rfl
theorem e10ww0_all (N : Nat) : all8 (chN8 N [98] false) chP (chO8 1) [-1, -1, 0] = [(1, 0, 0, 0), (1, 0, 1, 0), (1, 0, 2, 0), (1, 0, 3, 0), (1, 0, 4, 0), (1, 1, 0, 0), (1, 1, 1, 0), (1, 1, 2, 0), (1, 1, 3, 0), (1, 1, 4, 0), (1, 2, 0, 0), (1, 2, 1, 0), (1, 2, 2, 0), (1, 2, 3, 0), (1, 2, 4, 0), (2, 2, 0, 0), (3, 2, 0, 0), (7, 0, 0, 0), (8, 0, 0, 0)] := by
  have h1 : capsU (chN8 N [98] false) chP [-1, -1, 0] 3 = [(1, 0, 0, 0), (1, 0, 1, 0), (1, 0, 2, 0), (1, 0, 3, 0), (1, 0, 4, 0), (1, 1, 0, 0), (1, 1, 1, 0), (1, 1, 2, 0), (1, 1, 3, 0), (1, 1, 4, 0), (1, 2, 0, 0), (1, 2, 1, 0), (1, 2, 2, 0), (1, 2, 3, 0), (1, 2, 4, 0)] := by kernel_rfl
  have h2 : kindsU (chN8 N [98] false) chP (chO8 1) [-1, -1, 0] 5 = [(2, 2, 0, 0), (3, 2, 0, 0)] := by kernel_rfl
  have h3 : spreadsU (chN8 N [98] false) chP (chO8 1) [-1, -1, 0] 1 = [(7, 0, 0, skewO (spreadF (chN8 N [98] false) chP (chO8 1) [-1, -1, 0] 0) 1)] := rfl
  have h4 : minsU (chN8 N [98] false) chP (chO8 1) [-1, -1, 0] 1 = [(8, 0, 0, 0)] := by kernel_rfl
  unfold all8
  rw [if_pos (e10ww0_place N)]
  unfold allU
  rw [show (chN8 N [98] false).length = 3 from rfl, show (chO8 1).length = 1 from rfl, h1, h2, h3, h4, e10ww0_spread, show skewO [1, 0] 1 = 0 by kernel_rfl]
  rfl
theorem e10www_place (N : Nat) : placeE (chN8 N [98] false) chP (chO8 1) [-1, -1, -1] = 0 := by kernel_rfl
theorem e10www_spread (N : Nat) : spreadF (chN8 N [98] false) chP (chO8 1) [-1, -1, -1] 0 = [0, 0] := by
  have h1 : ownerB (chN8 N [98] false) chP (chO8 1) [-1, -1, -1] 0 = true := by kernel_rfl
  have h2 : strKeys (spreadD (chN8 N [98] false) bZone [-1, -1, -1] (offL [-1, -1, -1] (membersF chP [111]))) = [[120], [121]] := by kernel_rfl
  unfold spreadF
  rw [if_pos h1]
  show rowD (spreadD (chN8 N [98] false) bZone [-1, -1, -1] (offL [-1, -1, -1] (membersF chP [111]))) = [0, 0]
  unfold rowD sortK
  rw [h2, sort2]
  kernel_rfl
theorem e10www_all (N : Nat) : all8 (chN8 N [98] false) chP (chO8 1) [-1, -1, -1] = [(1, 0, 0, 0), (1, 0, 1, 0), (1, 0, 2, 0), (1, 0, 3, 0), (1, 0, 4, 0), (1, 1, 0, 0), (1, 1, 1, 0), (1, 1, 2, 0), (1, 1, 3, 0), (1, 1, 4, 0), (1, 2, 0, 0), (1, 2, 1, 0), (1, 2, 2, 0), (1, 2, 3, 0), (1, 2, 4, 0), (7, 0, 0, 0), (8, 0, 0, 1)] := by
  have h1 : capsU (chN8 N [98] false) chP [-1, -1, -1] 3 = [(1, 0, 0, 0), (1, 0, 1, 0), (1, 0, 2, 0), (1, 0, 3, 0), (1, 0, 4, 0), (1, 1, 0, 0), (1, 1, 1, 0), (1, 1, 2, 0), (1, 1, 3, 0), (1, 1, 4, 0), (1, 2, 0, 0), (1, 2, 1, 0), (1, 2, 2, 0), (1, 2, 3, 0), (1, 2, 4, 0)] := by kernel_rfl
  have h2 : kindsU (chN8 N [98] false) chP (chO8 1) [-1, -1, -1] 5 = [] := by kernel_rfl
  have h3 : spreadsU (chN8 N [98] false) chP (chO8 1) [-1, -1, -1] 1 = [(7, 0, 0, skewO (spreadF (chN8 N [98] false) chP (chO8 1) [-1, -1, -1] 0) 1)] := rfl
  have h4 : minsU (chN8 N [98] false) chP (chO8 1) [-1, -1, -1] 1 = [(8, 0, 0, 1)] := by kernel_rfl
  unfold all8
  rw [if_pos (e10www_place N)]
  unfold allU
  rw [show (chN8 N [98] false).length = 3 from rfl, show (chO8 1).length = 1 from rfl, h1, h2, h3, h4, e10www_spread, show skewO [0, 0] 1 = 0 by kernel_rfl]
  rfl
theorem e10w_01w_010 (N : Nat) : worseU (chN8 N [98] false) chP (chO8 1) [0, 1, -1] [0, 1, 0] = [(1, 0, 0, 5)] := by
  unfold worseU
  rw [e1001w_all, e10010_all]
  kernel_rfl
theorem e10w_01w_011 (N : Nat) : worseU (chN8 N [98] false) chP (chO8 1) [0, 1, -1] [0, 1, 1] = [(1, 1, 0, 5)] := by
  unfold worseU
  rw [e1001w_all, e10011_all]
  kernel_rfl
theorem e10w_01w_012 (N : Nat) : worseU (chN8 N [98] false) chP (chO8 1) [0, 1, -1] [0, 1, 2] = [] := by
  unfold worseU
  rw [e1001w_all, e10012_all]
  kernel_rfl
theorem e10w_01w_w1w (N : Nat) : worseU (chN8 N [98] false) chP (chO8 1) [0, 1, -1] [-1, 1, -1] = [] := by
  unfold worseU
  rw [e1001w_all, e10w1w_all]
  kernel_rfl
theorem e10w_w1w_w10 (N : Nat) : worseU (chN8 N [98] false) chP (chO8 1) [-1, 1, -1] [-1, 1, 0] = [] := by
  unfold worseU
  rw [e10w1w_all, e10w10_all]
  kernel_rfl
theorem e10w_w10_ww0 (N : Nat) : worseU (chN8 N [98] false) chP (chO8 1) [-1, 1, 0] [-1, -1, 0] = [] := by
  unfold worseU
  rw [e10w10_all, e10ww0_all]
  kernel_rfl
theorem e10w_ww0_www (N : Nat) : worseU (chN8 N [98] false) chP (chO8 1) [-1, -1, 0] [-1, -1, -1] = [(8, 0, 0, 1)] := by
  unfold worseU
  rw [e10ww0_all, e10www_all]
  kernel_rfl
end Go.Proofs.YtiiheajieegdkaaGreat

namespace Go.Proofs.YtiiheajieegdkaaGreat
open Go.RowKit

set_option maxRecDepth 100000 in
set_option maxHeartbeats 4000000 in
theorem chapter10_any (w : World) :
    Calls Tryz.prog 29 #[] w fun e w' => ∃ B cb, e = .returned (.agg #[.slice (some ⟨w.heap.size + 4, 0, none⟩) 3 3, .slice B 3 cb, .slice (some ⟨w.heap.size + 5, 0, none⟩) 1 1]) ∧ ChapAt8 1 w' w.heap.size (.slice B 3 cb) 3 [98] false ∧ Below w.heap.size w w' := by
  obtain ⟨i0, hi0, hz0, hz1, hz2⟩ := info_parts pod_info
  go_enter Tryz.func29, Tryz.ntmps29
  have N1 := Lib.hid (Blk.new (w.alloc (Obj.cells #[Value.slice none 0 0, Value.slice none 0 0, Value.slice none 0 0] 26)) zer5 32)
  go_wp2_with (refine wpList_store_row rfl 32 (.tmp 1) (.tmp 4) rfl (w.heap.size + 1) zer5 rfl rfl 32 _ N1.out Qu.vec_size (by kernel_rfl) (by kernel_rfl) ?_)
  clear N1
  have B0 : Hid (Below w.heap.size w (((((((w.alloc (Obj.cells #[Value.slice none 0 0, Value.slice none 0 0, Value.slice none 0 0] 26)).alloc (Obj.cells #[Value.int .i64 15, Value.int .i64 0, Value.int .i64 0, Value.int .i64 0, Value.int .i64 0] 32)).alloc (Obj.cells #[strV bZone, strV [120]] 29)).alloc (Obj.cells #[strV bZone, strV [121]] 29)).alloc (Obj.cells (cellsN (chN8 w.heap.size [98] false)).toArray 34)).alloc (Obj.cells (cellsO (chO8 1)).toArray 36)).alloc (Obj.cells #[Value.slice (some { block := w.heap.size + 4, off := 0 }) 3 3, Value.slice none 0 0, Value.slice (some { block := w.heap.size + 5, off := 0 }) 1 1] 26))) := Lib.hid (((((((Qu.below2 w _ _).alloc (by simp; omega) _).alloc (by simp; omega) _).alloc (by simp; omega) _).alloc (by simp; omega) _).alloc (by simp; omega) _))
  have C0 : Hid (ChapAt8 1 (((((((w.alloc (Obj.cells #[Value.slice none 0 0, Value.slice none 0 0, Value.slice none 0 0] 26)).alloc (Obj.cells #[Value.int .i64 15, Value.int .i64 0, Value.int .i64 0, Value.int .i64 0, Value.int .i64 0] 32)).alloc (Obj.cells #[strV bZone, strV [120]] 29)).alloc (Obj.cells #[strV bZone, strV [121]] 29)).alloc (Obj.cells (cellsN (chN8 w.heap.size [98] false)).toArray 34)).alloc (Obj.cells (cellsO (chO8 1)).toArray 36)).alloc (Obj.cells #[Value.slice (some { block := w.heap.size + 4, off := 0 }) 3 3, Value.slice none 0 0, Value.slice (some { block := w.heap.size + 5, off := 0 }) 1 1] 26)) w.heap.size (.slice none 0 0) 0 [98] false) := Lib.hid (by
    have hs1 : ∀ (w : World) (o : Obj), (w.alloc o).heap.size = w.heap.size + 1 := World.size_alloc
    constructor
    · exact Blk.alloc (Blk.alloc (Blk.alloc (Blk.alloc (by have := Blk.new ((w.alloc (Obj.cells #[Value.slice none 0 0, Value.slice none 0 0, Value.slice none 0 0] 26)).alloc (Obj.cells #[Value.int .i64 15, Value.int .i64 0, Value.int .i64 0, Value.int .i64 0, Value.int .i64 0] 32)) #[strV bZone, strV [120]] 29; rw [hs1, hs1] at this; exact this) _) _) _) _
    · exact Blk.alloc (Blk.alloc (Blk.alloc (by have := Blk.new (((w.alloc (Obj.cells #[Value.slice none 0 0, Value.slice none 0 0, Value.slice none 0 0] 26)).alloc (Obj.cells #[Value.int .i64 15, Value.int .i64 0, Value.int .i64 0, Value.int .i64 0, Value.int .i64 0] 32)).alloc (Obj.cells #[strV bZone, strV [120]] 29)) #[strV bZone, strV [121]] 29; rw [hs1, hs1, hs1] at this; exact this) _) _) _
    · exact Blk.alloc (Blk.alloc (by have := Blk.new ((((w.alloc (Obj.cells #[Value.slice none 0 0, Value.slice none 0 0, Value.slice none 0 0] 26)).alloc (Obj.cells #[Value.int .i64 15, Value.int .i64 0, Value.int .i64 0, Value.int .i64 0, Value.int .i64 0] 32)).alloc (Obj.cells #[strV bZone, strV [120]] 29)).alloc (Obj.cells #[strV bZone, strV [121]] 29)) (cellsN (chN8 w.heap.size [98] false)).toArray 34; rw [hs1, hs1, hs1, hs1] at this; exact this) _) _
    · exact Blk.alloc (by have := Blk.new (((((w.alloc (Obj.cells #[Value.slice none 0 0, Value.slice none 0 0, Value.slice none 0 0] 26)).alloc (Obj.cells #[Value.int .i64 15, Value.int .i64 0, Value.int .i64 0, Value.int .i64 0, Value.int .i64 0] 32)).alloc (Obj.cells #[strV bZone, strV [120]] 29)).alloc (Obj.cells #[strV bZone, strV [121]] 29)).alloc (Obj.cells (cellsN (chN8 w.heap.size [98] false)).toArray 34)) (cellsO (chO8 1)).toArray 36; rw [hs1, hs1, hs1, hs1, hs1] at this; exact this) _
    · exact World.ownsRow_nil _ _ _ _)
  have S0 : Hid (Blk (((((((w.alloc (Obj.cells #[Value.slice none 0 0, Value.slice none 0 0, Value.slice none 0 0] 26)).alloc (Obj.cells #[Value.int .i64 15, Value.int .i64 0, Value.int .i64 0, Value.int .i64 0, Value.int .i64 0] 32)).alloc (Obj.cells #[strV bZone, strV [120]] 29)).alloc (Obj.cells #[strV bZone, strV [121]] 29)).alloc (Obj.cells (cellsN (chN8 w.heap.size [98] false)).toArray 34)).alloc (Obj.cells (cellsO (chO8 1)).toArray 36)).alloc (Obj.cells #[Value.slice (some { block := w.heap.size + 4, off := 0 }) 3 3, Value.slice none 0 0, Value.slice (some { block := w.heap.size + 5, off := 0 }) 1 1] 26)) (w.heap.size + 6) #[Value.slice (some { block := w.heap.size + 4, off := 0 }) 3 3, Value.slice none 0 0, Value.slice (some { block := w.heap.size + 5, off := 0 }) 1 1] 26) := Lib.hid (by
    have hs1 : ∀ (w : World) (o : Obj), (w.alloc o).heap.size = w.heap.size + 1 := World.size_alloc
    have := Blk.new ((((((w.alloc (Obj.cells #[Value.slice none 0 0, Value.slice none 0 0, Value.slice none 0 0] 26)).alloc (Obj.cells #[Value.int .i64 15, Value.int .i64 0, Value.int .i64 0, Value.int .i64 0, Value.int .i64 0] 32)).alloc (Obj.cells #[strV bZone, strV [120]] 29)).alloc (Obj.cells #[strV bZone, strV [121]] 29)).alloc (Obj.cells (cellsN (chN8 w.heap.size [98] false)).toArray 34)).alloc (Obj.cells (cellsO (chO8 1)).toArray 36)) #[Value.slice (some { block := w.heap.size + 4, off := 0 }) 3 3, Value.slice none 0 0, Value.slice (some { block := w.heap.size + 5, off := 0 }) 1 1] 26
    rw [hs1, hs1, hs1, hs1, hs1, hs1] at this
    exact this)
  have Z0 : Hid (Blk (((((((w.alloc (Obj.cells #[Value.slice none 0 0, Value.slice none 0 0, Value.slice none 0 0] 26)).alloc (Obj.cells #[Value.int .i64 15, Value.int .i64 0, Value.int .i64 0, Value.int .i64 0, Value.int .i64 0] 32)).alloc (Obj.cells #[strV bZone, strV [120]] 29)).alloc (Obj.cells #[strV bZone, strV [121]] 29)).alloc (Obj.cells (cellsN (chN8 w.heap.size [98] false)).toArray 34)).alloc (Obj.cells (cellsO (chO8 1)).toArray 36)).alloc (Obj.cells #[Value.slice (some { block := w.heap.size + 4, off := 0 }) 3 3, Value.slice none 0 0, Value.slice (some { block := w.heap.size + 5, off := 0 }) 1 1] 26)) w.heap.size #[Value.slice none 0 0, Value.slice none 0 0, Value.slice none 0 0] 26) := Lib.hid (Blk.alloc (Blk.alloc (Blk.alloc (Blk.alloc (Blk.alloc (Blk.alloc (Blk.new w _ _) _) _) _) _) _) _)
  change Code.wp _ _ _ _ (((((((w.alloc (Obj.cells #[Value.slice none 0 0, Value.slice none 0 0, Value.slice none 0 0] 26)).alloc (Obj.cells #[Value.int .i64 15, Value.int .i64 0, Value.int .i64 0, Value.int .i64 0, Value.int .i64 0] 32)).alloc (Obj.cells #[strV bZone, strV [120]] 29)).alloc (Obj.cells #[strV bZone, strV [121]] 29)).alloc (Obj.cells (cellsN (chN8 w.heap.size [98] false)).toArray 34)).alloc (Obj.cells (cellsO (chO8 1)).toArray 36)).alloc (Obj.cells #[Value.slice (some { block := w.heap.size + 4, off := 0 }) 3 3, Value.slice none 0 0, Value.slice (some { block := w.heap.size + 5, off := 0 }) 1 1] 26))
  generalize (((((((w.alloc (Obj.cells #[Value.slice none 0 0, Value.slice none 0 0, Value.slice none 0 0] 26)).alloc (Obj.cells #[Value.int .i64 15, Value.int .i64 0, Value.int .i64 0, Value.int .i64 0, Value.int .i64 0] 32)).alloc (Obj.cells #[strV bZone, strV [120]] 29)).alloc (Obj.cells #[strV bZone, strV [121]] 29)).alloc (Obj.cells (cellsN (chN8 w.heap.size [98] false)).toArray 34)).alloc (Obj.cells (cellsO (chO8 1)).toArray 36)).alloc (Obj.cells #[Value.slice (some { block := w.heap.size + 4, off := 0 }) 3 3, Value.slice none 0 0, Value.slice (some { block := w.heap.size + 5, off := 0 }) 1 1] 26)) = W0 at B0 C0 S0 Z0 ⊢
  rw [show w.heap.size + 1 + 1 + 1 + 1 + 1 + 1 = w.heap.size + 6 from rfl]
  obtain ⟨Sb, hSb⟩ : ∃ Sb, w.heap.size + 6 = Sb := ⟨_, rfl⟩
  rw [hSb] at S0 ⊢
  have HSb := Lib.hid hSb
  clear hSb
  go_loopw [3] (fun i wr => ∃ (k : Nat) (B : Option Addr) (cb : Nat), k ≤ 3 ∧ i = .int .i64 k ∧ ChapAt8 1 wr w.heap.size (.slice B k cb) k [98] false ∧ Blk wr Sb #[Value.slice (some { block := w.heap.size + 4, off := 0 }) 3 3, .slice B k cb, Value.slice (some { block := w.heap.size + 5, off := 0 }) 1 1] 26 ∧ Blk wr w.heap.size #[Value.slice none 0 0, Value.slice none 0 0, Value.slice none 0 0] 26 ∧ Below w.heap.size w wr) (fun i _ => 3 - (intOf i).toNat)
  case atStart => exact ⟨0, none, 0, by omega, rfl, C0.out, S0.out, Z0.out, B0.out⟩
  case round =>
    clear B0 C0 S0 Z0
    obtain ⟨k, B, cb, hk, rfl, hc, hs, hz, hb⟩ := hrel
    have HC := Lib.hid hc
    have HS := Lib.hid hs
    have HZ := Lib.hid hz
    have HB := Lib.hid hb
    have s0 : wr.cell? ⟨Sb, 0, none⟩ = some (Value.slice (some { block := w.heap.size + 4, off := 0 }) 3 3) := Blk.cell hs 0
    have s1 : wr.cell? ⟨Sb, 1, none⟩ = some (.slice B k cb) := Blk.cell hs 1
    have s2 : wr.cell? ⟨Sb, 2, none⟩ = some (Value.slice (some { block := w.heap.size + 5, off := 0 }) 1 1) := Blk.cell hs 2
    have f1 := Blk.free hs 1
    clear hc hs hz hb
    have hk4 : k = 0 ∨ k = 1 ∨ k = 2 ∨ k = 3 := by omega
    rcases hk4 with rfl | rfl | rfl | rfl
    · have hnb : Hid (w.heap.size ≤ wr.heap.size) := Lib.hid HB.out.size
      have s1a : ∀ o, (wr.alloc o).cell? ⟨Sb, 1, none⟩ = some (.slice B 0 cb) := fun o => Blk.cell (Blk.alloc HS.out o) 1
      have hdec : 26 ≠ 43 := by decide
      have h1c : Hid (∀ u ∈ cellsP [chPod 112], u.oneCell' = true) := Lib.hid (by
        intro u hu
        simp [cellsP, chPod] at hu
        rcases hu with rfl | rfl | rfl | rfl | rfl | rfl | rfl | rfl | rfl | rfl | rfl | rfl | rfl <;> rfl)
      have hbW : Hid (Below wr.heap.size wr ((wr.alloc (.cells (cellsP [chPod 112]).toArray 43)).drew)) := Lib.hid (((Below.refl _ _).alloc (Nat.le_refl _) _).drew)
      have hcl : Hid (∀ j u, (cellsP [chPod 112])[j]? = some u → World.cell? ((wr.alloc (.cells (cellsP [chPod 112]).toArray 43)).drew) ((⟨wr.heap.size, 0, none⟩ : Addr).add j) = some u) := Lib.hid (by
        intro j u hj
        rw [WideShapes.add_plain, Nat.zero_add, ← hj, ← List.getElem?_toArray]
        exact Blk.cell (Blk.new wr _ _) j)
      have hon : Hid (World.ownsRow ((wr.alloc (.cells (cellsP [chPod 112]).toArray 43)).drew) w.heap.size 43 15 (.slice B 0 cb) 0 (cellsP (chP.take 0))) := Lib.hid (show World.ownsRow _ _ _ _ _ _ _ from HC.out.p.alloc _)
      have hS9 : Hid (Blk ((wr.alloc (.cells (cellsP [chPod 112]).toArray 43)).drew) Sb #[Value.slice (some { block := w.heap.size + 4, off := 0 }) 3 3, .slice B 0 cb, Value.slice (some { block := w.heap.size + 5, off := 0 }) 1 1] 26) := Lib.hid (Blk.alloc HS.out _)
      have hb9 : Hid (w.heap.size ≤ ((wr.alloc (.cells (cellsP [chPod 112]).toArray 43)).drew).heap.size) := Lib.hid (by have := hnb.out; show w.heap.size ≤ (wr.alloc _).heap.size; simp; omega)
      have hmx9 : Hid (0 + 1 ≤ maxLen) := Lib.hid (by unfold maxLen; omega)
      have hw1 : IntKind.i64.wrap 1 = 1 := by decide
      have hw2 : IntKind.i64.wrap 2 = 2 := by decide
      have hw3 : IntKind.i64.wrap 3 = 3 := by decide
      have he0 : (⟨#[112, 113, 114]⟩ : ByteArray).extract 0 1 = ⟨#[112]⟩ := by decide
      have he1 : (⟨#[112, 113, 114]⟩ : ByteArray).extract 1 2 = ⟨#[113]⟩ := by decide
      have he2 : (⟨#[112, 113, 114]⟩ : ByteArray).extract 2 3 = ⟨#[114]⟩ := by decide
      clear hk
      go_wp2_with fail
      go_region_law (refine step_append_own rfl (.tmp 24) (.tmp 31) 23 rfl w.heap.size 43 i0 (.agg #[.string ⟨#[]⟩, .string ⟨#[]⟩, .int .i64 0, .int .i64 0, .int .i64 0, .int .i64 0, .int .i64 0, .slice none 0 0, .slice none 0 0, .slice none 0 0, .string ⟨#[]⟩, .slice none 0 0, .string ⟨#[]⟩, .slice none 0 0, .string ⟨#[]⟩]) 15 240 Tryz.underlying23 hi0 hz0 hz1 hz2 rfl (by decide) (.slice B 0 cb) 0 (cellsP (chP.take 0)) rfl hon.out ⟨wr.heap.size, 0, none⟩ 1 1 (cellsP [chPod 112]) rfl rfl hcl.out h1c.out hmx9.out (by decide) hb9.out (fun v' w' hown' hgrow' => ?_); obtain ⟨B', cb', rfl, hm'⟩ := La.own_slice hown'; have S3 := Lib.hid (ch_other hon.out hgrow' hS9.out hdec); have q1 := Blk.cell S3.out 1; have q2 := Blk.free S3.out 1)
      all_goals
        have HSQ := HSb.out
        have hc3 : Hid (ChapAt8 1 w' w.heap.size (.slice B' 1 cb') 1 [98] false) := Lib.hid (HC.out.step hbW.out hon.out hgrow' (show World.ownsRow _ _ _ _ _ _ _ from hown'))
        have hc4 : Hid (ChapAt8 1 (w'.setCell ⟨Sb, 1, none⟩ (.slice B' 1 cb')) w.heap.size (.slice B' 1 cb') 1 [98] false) := Lib.hid (hc3.out.set S3.out (by omega) hdec 1 _)
        have hs4 : Hid (Blk (w'.setCell ⟨Sb, 1, none⟩ (.slice B' 1 cb')) Sb #[Value.slice (some { block := w.heap.size + 4, off := 0 }) 3 3, .slice B' 1 cb', Value.slice (some { block := w.heap.size + 5, off := 0 }) 1 1] 26) := Lib.hid (S3.out.set 1 _)
        have hz4 : Hid (Blk (w'.setCell ⟨Sb, 1, none⟩ (.slice B' 1 cb')) w.heap.size #[Value.slice none 0 0, Value.slice none 0 0, Value.slice none 0 0] 26) := Lib.hid (Blk.oth (ch_other hon.out hgrow' (HZ.out.below hbW.out HZ.out.lt) hdec) (by omega) 1 _)
        have hb4 : Hid (Below w.heap.size w (w'.setCell ⟨Sb, 1, none⟩ (.slice B' 1 cb'))) := Lib.hid ((((HB.out.trans (hbW.out.mono hnb.out)).grown hgrow' hb9.out (fun j hj => (hon.out.lt j hj).1))).setCell (p := ⟨Sb, 1, none⟩) (by show w.heap.size ≤ Sb; omega) _)
        clear hown' hgrow' S3 q1 q2 HSQ hcl h1c hon hS9 hb9 hmx9 s0 s1 s2 f1 s1a HC HS HZ HB hbW hc3
        go_wp2
        go_roundw
        case rel => exact ⟨1, B', cb', by omega, by go_num, hc4.out, hs4.out, hz4.out, hb4.out⟩
        case measure => simp [intOf]
    · have hnb : Hid (w.heap.size ≤ wr.heap.size) := Lib.hid HB.out.size
      have s1a : ∀ o, (wr.alloc o).cell? ⟨Sb, 1, none⟩ = some (.slice B 1 cb) := fun o => Blk.cell (Blk.alloc HS.out o) 1
      have hdec : 26 ≠ 43 := by decide
      have h1c : Hid (∀ u ∈ cellsP [chPod 113], u.oneCell' = true) := Lib.hid (by
        intro u hu
        simp [cellsP, chPod] at hu
        rcases hu with rfl | rfl | rfl | rfl | rfl | rfl | rfl | rfl | rfl | rfl | rfl | rfl | rfl <;> rfl)
      have hbW : Hid (Below wr.heap.size wr ((wr.alloc (.cells (cellsP [chPod 113]).toArray 43)).drew)) := Lib.hid (((Below.refl _ _).alloc (Nat.le_refl _) _).drew)
      have hcl : Hid (∀ j u, (cellsP [chPod 113])[j]? = some u → World.cell? ((wr.alloc (.cells (cellsP [chPod 113]).toArray 43)).drew) ((⟨wr.heap.size, 0, none⟩ : Addr).add j) = some u) := Lib.hid (by
        intro j u hj
        rw [WideShapes.add_plain, Nat.zero_add, ← hj, ← List.getElem?_toArray]
        exact Blk.cell (Blk.new wr _ _) j)
      have hon : Hid (World.ownsRow ((wr.alloc (.cells (cellsP [chPod 113]).toArray 43)).drew) w.heap.size 43 15 (.slice B 1 cb) 1 (cellsP (chP.take 1))) := Lib.hid (show World.ownsRow _ _ _ _ _ _ _ from HC.out.p.alloc _)
      have hS9 : Hid (Blk ((wr.alloc (.cells (cellsP [chPod 113]).toArray 43)).drew) Sb #[Value.slice (some { block := w.heap.size + 4, off := 0 }) 3 3, .slice B 1 cb, Value.slice (some { block := w.heap.size + 5, off := 0 }) 1 1] 26) := Lib.hid (Blk.alloc HS.out _)
      have hb9 : Hid (w.heap.size ≤ ((wr.alloc (.cells (cellsP [chPod 113]).toArray 43)).drew).heap.size) := Lib.hid (by have := hnb.out; show w.heap.size ≤ (wr.alloc _).heap.size; simp; omega)
      have hmx9 : Hid (1 + 1 ≤ maxLen) := Lib.hid (by unfold maxLen; omega)
      have hw1 : IntKind.i64.wrap 1 = 1 := by decide
      have hw2 : IntKind.i64.wrap 2 = 2 := by decide
      have hw3 : IntKind.i64.wrap 3 = 3 := by decide
      have he0 : (⟨#[112, 113, 114]⟩ : ByteArray).extract 0 1 = ⟨#[112]⟩ := by decide
      have he1 : (⟨#[112, 113, 114]⟩ : ByteArray).extract 1 2 = ⟨#[113]⟩ := by decide
      have he2 : (⟨#[112, 113, 114]⟩ : ByteArray).extract 2 3 = ⟨#[114]⟩ := by decide
      clear hk
      go_wp2_with fail
      go_region_law (refine step_append_own rfl (.tmp 24) (.tmp 31) 23 rfl w.heap.size 43 i0 (.agg #[.string ⟨#[]⟩, .string ⟨#[]⟩, .int .i64 0, .int .i64 0, .int .i64 0, .int .i64 0, .int .i64 0, .slice none 0 0, .slice none 0 0, .slice none 0 0, .string ⟨#[]⟩, .slice none 0 0, .string ⟨#[]⟩, .slice none 0 0, .string ⟨#[]⟩]) 15 240 Tryz.underlying23 hi0 hz0 hz1 hz2 rfl (by decide) (.slice B 1 cb) 1 (cellsP (chP.take 1)) rfl hon.out ⟨wr.heap.size, 0, none⟩ 1 1 (cellsP [chPod 113]) rfl rfl hcl.out h1c.out hmx9.out (by decide) hb9.out (fun v' w' hown' hgrow' => ?_); obtain ⟨B', cb', rfl, hm'⟩ := La.own_slice hown'; have S3 := Lib.hid (ch_other hon.out hgrow' hS9.out hdec); have q1 := Blk.cell S3.out 1; have q2 := Blk.free S3.out 1)
      all_goals
        have HSQ := HSb.out
        have hc3 : Hid (ChapAt8 1 w' w.heap.size (.slice B' 2 cb') 2 [98] false) := Lib.hid (HC.out.step hbW.out hon.out hgrow' (show World.ownsRow _ _ _ _ _ _ _ from hown'))
        have hc4 : Hid (ChapAt8 1 (w'.setCell ⟨Sb, 1, none⟩ (.slice B' 2 cb')) w.heap.size (.slice B' 2 cb') 2 [98] false) := Lib.hid (hc3.out.set S3.out (by omega) hdec 1 _)
        have hs4 : Hid (Blk (w'.setCell ⟨Sb, 1, none⟩ (.slice B' 2 cb')) Sb #[Value.slice (some { block := w.heap.size + 4, off := 0 }) 3 3, .slice B' 2 cb', Value.slice (some { block := w.heap.size + 5, off := 0 }) 1 1] 26) := Lib.hid (S3.out.set 1 _)
        have hz4 : Hid (Blk (w'.setCell ⟨Sb, 1, none⟩ (.slice B' 2 cb')) w.heap.size #[Value.slice none 0 0, Value.slice none 0 0, Value.slice none 0 0] 26) := Lib.hid (Blk.oth (ch_other hon.out hgrow' (HZ.out.below hbW.out HZ.out.lt) hdec) (by omega) 1 _)
        have hb4 : Hid (Below w.heap.size w (w'.setCell ⟨Sb, 1, none⟩ (.slice B' 2 cb'))) := Lib.hid ((((HB.out.trans (hbW.out.mono hnb.out)).grown hgrow' hb9.out (fun j hj => (hon.out.lt j hj).1))).setCell (p := ⟨Sb, 1, none⟩) (by show w.heap.size ≤ Sb; omega) _)
        clear hown' hgrow' S3 q1 q2 HSQ hcl h1c hon hS9 hb9 hmx9 s0 s1 s2 f1 s1a HC HS HZ HB hbW hc3
        go_wp2
        go_roundw
        case rel => exact ⟨2, B', cb', by omega, by go_num, hc4.out, hs4.out, hz4.out, hb4.out⟩
        case measure => simp [intOf]
    · have hnb : Hid (w.heap.size ≤ wr.heap.size) := Lib.hid HB.out.size
      have s1a : ∀ o, (wr.alloc o).cell? ⟨Sb, 1, none⟩ = some (.slice B 2 cb) := fun o => Blk.cell (Blk.alloc HS.out o) 1
      have hdec : 26 ≠ 43 := by decide
      have h1c : Hid (∀ u ∈ cellsP [chPod 114], u.oneCell' = true) := Lib.hid (by
        intro u hu
        simp [cellsP, chPod] at hu
        rcases hu with rfl | rfl | rfl | rfl | rfl | rfl | rfl | rfl | rfl | rfl | rfl | rfl | rfl <;> rfl)
      have hbW : Hid (Below wr.heap.size wr ((wr.alloc (.cells (cellsP [chPod 114]).toArray 43)).drew)) := Lib.hid (((Below.refl _ _).alloc (Nat.le_refl _) _).drew)
      have hcl : Hid (∀ j u, (cellsP [chPod 114])[j]? = some u → World.cell? ((wr.alloc (.cells (cellsP [chPod 114]).toArray 43)).drew) ((⟨wr.heap.size, 0, none⟩ : Addr).add j) = some u) := Lib.hid (by
        intro j u hj
        rw [WideShapes.add_plain, Nat.zero_add, ← hj, ← List.getElem?_toArray]
        exact Blk.cell (Blk.new wr _ _) j)
      have hon : Hid (World.ownsRow ((wr.alloc (.cells (cellsP [chPod 114]).toArray 43)).drew) w.heap.size 43 15 (.slice B 2 cb) 2 (cellsP (chP.take 2))) := Lib.hid (show World.ownsRow _ _ _ _ _ _ _ from HC.out.p.alloc _)
      have hS9 : Hid (Blk ((wr.alloc (.cells (cellsP [chPod 114]).toArray 43)).drew) Sb #[Value.slice (some { block := w.heap.size + 4, off := 0 }) 3 3, .slice B 2 cb, Value.slice (some { block := w.heap.size + 5, off := 0 }) 1 1] 26) := Lib.hid (Blk.alloc HS.out _)
      have hb9 : Hid (w.heap.size ≤ ((wr.alloc (.cells (cellsP [chPod 114]).toArray 43)).drew).heap.size) := Lib.hid (by have := hnb.out; show w.heap.size ≤ (wr.alloc _).heap.size; simp; omega)
      have hmx9 : Hid (2 + 1 ≤ maxLen) := Lib.hid (by unfold maxLen; omega)
      have hw1 : IntKind.i64.wrap 1 = 1 := by decide
      have hw2 : IntKind.i64.wrap 2 = 2 := by decide
      have hw3 : IntKind.i64.wrap 3 = 3 := by decide
      have he0 : (⟨#[112, 113, 114]⟩ : ByteArray).extract 0 1 = ⟨#[112]⟩ := by decide
      have he1 : (⟨#[112, 113, 114]⟩ : ByteArray).extract 1 2 = ⟨#[113]⟩ := by decide
      have he2 : (⟨#[112, 113, 114]⟩ : ByteArray).extract 2 3 = ⟨#[114]⟩ := by decide
      clear hk
      go_wp2_with fail
      go_region_law (refine step_append_own rfl (.tmp 24) (.tmp 31) 23 rfl w.heap.size 43 i0 (.agg #[.string ⟨#[]⟩, .string ⟨#[]⟩, .int .i64 0, .int .i64 0, .int .i64 0, .int .i64 0, .int .i64 0, .slice none 0 0, .slice none 0 0, .slice none 0 0, .string ⟨#[]⟩, .slice none 0 0, .string ⟨#[]⟩, .slice none 0 0, .string ⟨#[]⟩]) 15 240 Tryz.underlying23 hi0 hz0 hz1 hz2 rfl (by decide) (.slice B 2 cb) 2 (cellsP (chP.take 2)) rfl hon.out ⟨wr.heap.size, 0, none⟩ 1 1 (cellsP [chPod 114]) rfl rfl hcl.out h1c.out hmx9.out (by decide) hb9.out (fun v' w' hown' hgrow' => ?_); obtain ⟨B', cb', rfl, hm'⟩ := La.own_slice hown'; have S3 := Lib.hid (ch_other hon.out hgrow' hS9.out hdec); have q1 := Blk.cell S3.out 1; have q2 := Blk.free S3.out 1)
      all_goals
        have HSQ := HSb.out
        have hc3 : Hid (ChapAt8 1 w' w.heap.size (.slice B' 3 cb') 3 [98] false) := Lib.hid (HC.out.step hbW.out hon.out hgrow' (show World.ownsRow _ _ _ _ _ _ _ from hown'))
        have hc4 : Hid (ChapAt8 1 (w'.setCell ⟨Sb, 1, none⟩ (.slice B' 3 cb')) w.heap.size (.slice B' 3 cb') 3 [98] false) := Lib.hid (hc3.out.set S3.out (by omega) hdec 1 _)
        have hs4 : Hid (Blk (w'.setCell ⟨Sb, 1, none⟩ (.slice B' 3 cb')) Sb #[Value.slice (some { block := w.heap.size + 4, off := 0 }) 3 3, .slice B' 3 cb', Value.slice (some { block := w.heap.size + 5, off := 0 }) 1 1] 26) := Lib.hid (S3.out.set 1 _)
        have hz4 : Hid (Blk (w'.setCell ⟨Sb, 1, none⟩ (.slice B' 3 cb')) w.heap.size #[Value.slice none 0 0, Value.slice none 0 0, Value.slice none 0 0] 26) := Lib.hid (Blk.oth (ch_other hon.out hgrow' (HZ.out.below hbW.out HZ.out.lt) hdec) (by omega) 1 _)
        have hb4 : Hid (Below w.heap.size w (w'.setCell ⟨Sb, 1, none⟩ (.slice B' 3 cb'))) := Lib.hid ((((HB.out.trans (hbW.out.mono hnb.out)).grown hgrow' hb9.out (fun j hj => (hon.out.lt j hj).1))).setCell (p := ⟨Sb, 1, none⟩) (by show w.heap.size ≤ Sb; omega) _)
        clear hown' hgrow' S3 q1 q2 HSQ hcl h1c hon hS9 hb9 hmx9 s0 s1 s2 f1 s1a HC HS HZ HB hbW hc3
        go_wp2
        go_roundw
        case rel => exact ⟨3, B', cb', by omega, by go_num, hc4.out, hs4.out, hz4.out, hb4.out⟩
        case measure => simp [intOf]
    · have z0 : wr.cell? ⟨w.heap.size, 0, none⟩ = some (Value.slice none 0 0) := Blk.cell HZ.out 0
      have z1 : wr.cell? ⟨w.heap.size, 1, none⟩ = some (Value.slice none 0 0) := Blk.cell HZ.out 1
      have z2 : wr.cell? ⟨w.heap.size, 2, none⟩ = some (Value.slice none 0 0) := Blk.cell HZ.out 2
      have g0 := Blk.free HZ.out 0
      have g1 := Blk.free HZ.out 1
      have g2 := Blk.free HZ.out 2
      clear hk
      have HSQ := HSb.out
      have hd1 : 26 ≠ 43 := by decide
      have HZ1 := Lib.hid (HZ.out.set 0 (Value.slice (some { block := w.heap.size + 4, off := 0 }) 3 3))
      have HC1 := Lib.hid (HC.out.set HZ.out (by omega) hd1 0 (Value.slice (some { block := w.heap.size + 4, off := 0 }) 3 3))
      have HZ2 := Lib.hid (HZ1.out.set 1 (.slice B 3 cb))
      have HC2 := Lib.hid (HC1.out.set HZ1.out (by omega) hd1 1 (.slice B 3 cb))
      have HZ3 := Lib.hid (HZ2.out.set 2 (Value.slice (some { block := w.heap.size + 5, off := 0 }) 1 1))
      have HC3 := Lib.hid (HC2.out.set HZ2.out (by omega) hd1 2 (Value.slice (some { block := w.heap.size + 5, off := 0 }) 1 1))
      have HB3 := Lib.hid (((HB.out.setCell (p := ⟨w.heap.size, 0, none⟩) (Nat.le_refl _) (Value.slice (some { block := w.heap.size + 4, off := 0 }) 3 3)).setCell (p := ⟨w.heap.size, 1, none⟩) (Nat.le_refl _) (.slice B 3 cb)).setCell (p := ⟨w.heap.size, 2, none⟩) (Nat.le_refl _) (Value.slice (some { block := w.heap.size + 5, off := 0 }) 1 1))
      clear HSQ hd1
      go_wp2
      refine bodyPost_row1 Tryz.results29 w.heap.size _ _ _ _ (by rfl) (by rfl) HZ3.out Tryz.underlying26 rfl (by kernel_rfl) ?_
      exact ⟨B, cb, rfl, HC3.out, HB3.out⟩

end Go.Proofs.YtiiheajieegdkaaGreat

namespace Go.Proofs.YtiiheajieegdkaaGreat
open Go.RowKit

/-- The cluster, its box, a placement lie in memory. -/
structure WkAt8 (mn : Int) (w W : World) (N Sb : Nat) (B : Option Addr) (cb : Nat) (P : Option Addr) (p : List Int) : Prop where
  s : SnapAt W (some ⟨N + 4, 0, none⟩) B (some ⟨N + 5, 0, none⟩) 3 cb 1 (chN8 N [98] false) chP (chO8 mn)
  b : Blk W Sb #[.slice (some ⟨N + 4, 0, none⟩) 3 3, .slice B 3 cb, .slice (some ⟨N + 5, 0, none⟩) 1 1] 26
  p : IntsAt W P p.length p
  w : Below w.heap.size w W
theorem WkAt8.below {mn : Int} {w W W' : World} {N Sb : Nat} {B : Option Addr} {cb : Nat} {P : Option Addr} {p : List Int} (h : WkAt8 mn w W N Sb B cb P p) (hb : Below W.heap.size W W') : WkAt8 mn w W' N Sb B cb P p :=
  ⟨h.s.below hb, h.b.below hb h.b.lt, h.p.below hb, h.w.trans (hb.mono h.w.size)⟩
theorem WkAt8.c0 {mn : Int} {w W : World} {N Sb : Nat} {B : Option Addr} {cb : Nat} {P : Option Addr} {p : List Int} (h : WkAt8 mn w W N Sb B cb P p) : W.cell? ⟨Sb, 0, none⟩ = some (.slice (some ⟨N + 4, 0, none⟩) 3 3) ∧ W.cell? ⟨Sb, 1, none⟩ = some (.slice B 3 cb) ∧ W.cell? ⟨Sb, 2, none⟩ = some (.slice (some ⟨N + 5, 0, none⟩) 1 1) :=
  ⟨Blk.cell h.b 0, Blk.cell h.b 1, Blk.cell h.b 2⟩

end Go.Proofs.YtiiheajieegdkaaGreat

namespace Go.Proofs.YtiiheajieegdkaaGreat
open Go.RowKit

theorem SnapIn.below8 {w w' : World} {A B C : Option Addr} {ca cb cc : Nat} {ns : List NodeD} {ps : List PodD} {os : List OwnD} (h : SnapIn w A B C ca cb cc ns ps os) (hb : Below w.heap.size w w') : SnapIn w' A B C ca cb cc ns ps os :=
  ⟨⟨h.n.cells.below hb, fun x hx => (h.n.fit x hx).below hb⟩, ⟨h.p.cells.below hb, fun x hx => (h.p.fit x hx).below hb⟩, h.o.below hb, h.fo, h.can, h.cap, h.cao⟩
theorem all8_few {ns : List NodeD} {ps : List PodD} {os : List OwnD} {p : List Int} (hn : ns.length ≤ 12) (hp : ps.length ≤ 30) (ho : os.length ≤ 12) : (all8 ns ps os p).length ≤ 1000 := by
  by_cases hE : placeE ns ps os p = 0
  · have := all8_len ns ps os p
    have := placeE_len hE
    omega
  · unfold all8
    rw [if_neg hE]
    simp
end Go.Proofs.YtiiheajieegdkaaGreat

namespace Go.Proofs.YtiiheajieegdkaaGreat
open Go.RowKit

theorem eqSame9 (A B : Option Addr) (ca cb : Nat) (l : List Int) (w : World) (hl : l.length ≤ 9223372036854775807) (ha : IntsAt w A ca l) (hb : IntsAt w B cb l) :
    Calls Tryz.prog 33 #[.slice A l.length ca, .slice B l.length cb] w fun e w' => e = .returned (.bool true) ∧ Below w.heap.size w w' := by
  have q := eqInts_anyL A B ca cb l l w hl ha hb
  rwa [decide_eq_true (rfl : l = l)] at q
end Go.Proofs.YtiiheajieegdkaaGreat

namespace Go.Proofs.YtiiheajieegdkaaGreat
open Go.RowKit Go.Maps

set_option maxRecDepth 100000 in
theorem on_any10 (a b : Int) (w : World) : Calls Tryz.prog 30 #[.int .i64 a, .int .i64 b] w fun e w' => e = .returned (stepV 2 a b) ∧ Below w.heap.size w w' := by
  have B0 : Hid (Below w.heap.size w (w.alloc (.cells #[.int .i64 2, .int .i64 a, .int .i64 b] 63))) := Lib.hid (below1 w _)
  have Q0 : Hid (Blk (w.alloc (.cells #[.int .i64 2, .int .i64 a, .int .i64 b] 63)) w.heap.size #[.int .i64 2, .int .i64 a, .int .i64 b] 63) := Lib.hid (Blk.new w _ _)
  go_enter Tryz.func30, Tryz.ntmps30
  go_wp2_with fail
  refine bodyPost_row1 Tryz.results30 w.heap.size _ _ _ _ (by rfl) (by rfl) Q0.out Tryz.underlying63 rfl (by kernel_rfl) ?_
  exact ⟨rfl, B0.out⟩
set_option maxRecDepth 100000 in
theorem off_any10 (a : Int) (w : World) : Calls Tryz.prog 31 #[.int .i64 a] w fun e w' => e = .returned (stepV 1 a 0) ∧ Below w.heap.size w w' := by
  have B0 : Hid (Below w.heap.size w (w.alloc (.cells #[.int .i64 1, .int .i64 a, .int .i64 0] 63))) := Lib.hid (below1 w _)
  have Q0 : Hid (Blk (w.alloc (.cells #[.int .i64 1, .int .i64 a, .int .i64 0] 63)) w.heap.size #[.int .i64 1, .int .i64 a, .int .i64 0] 63) := Lib.hid (Blk.new w _ _)
  go_enter Tryz.func31, Tryz.ntmps31
  go_wp2_with fail
  refine bodyPost_row1 Tryz.results31 w.heap.size _ _ _ _ (by rfl) (by rfl) Q0.out Tryz.underlying63 rfl (by kernel_rfl) ?_
  exact ⟨rfl, B0.out⟩
theorem slat_new (w : World) (xs : List Value) (t : TypeId) : La.SlAt (w.alloc (.cells xs.toArray t)) (some ⟨w.heap.size, 0, none⟩) xs := by
  intro k v hk
  refine ⟨w.heap.size, 0, rfl, ?_⟩
  rw [Nat.zero_add, ← hk, ← List.getElem?_toArray]
  exact Blk.cell (Blk.new w _ _) k
theorem s10_01w_220 (N : Nat) : stepF (chN8 N [98] false) chP (chO8 1) [0, 1, -1] (2, 2, 0) = ([], (1, 0, 0, 5), 100) := by
  have h1 : applyF (chN8 N [98] false) chP (chO8 1) [0, 1, -1] 2 2 0 = ([0, 1, 0], 0) := by kernel_rfl
  have h2 : cordB (chN8 N [98] false) ((0 : Int)).toNat = false := by kernel_rfl
  unfold stepF tryF
  dsimp only
  rw [h1, h2]
  rw [if_neg (by decide), if_neg (by decide), e10w_01w_010]
  rfl
theorem s10_01w_221 (N : Nat) : stepF (chN8 N [98] false) chP (chO8 1) [0, 1, -1] (2, 2, 1) = ([], (1, 1, 0, 5), 100) := by
  have h1 : applyF (chN8 N [98] false) chP (chO8 1) [0, 1, -1] 2 2 1 = ([0, 1, 1], 0) := by kernel_rfl
  have h2 : cordB (chN8 N [98] false) ((1 : Int)).toNat = false := by kernel_rfl
  unfold stepF tryF
  dsimp only
  rw [h1, h2]
  rw [if_neg (by decide), if_neg (by decide), e10w_01w_011]
  rfl
theorem s10_01w_222 (N : Nat) : stepF (chN8 N [98] false) chP (chO8 1) [0, 1, -1] (2, 2, 2) = ([0, 1, 2], z4, 0) := by
  have h1 : applyF (chN8 N [98] false) chP (chO8 1) [0, 1, -1] 2 2 2 = ([0, 1, 2], 0) := by kernel_rfl
  have h2 : cordB (chN8 N [98] false) ((2 : Int)).toNat = false := by kernel_rfl
  unfold stepF tryF
  dsimp only
  rw [h1, h2]
  rw [if_neg (by decide), if_neg (by decide), e10w_01w_012]
  rfl
theorem s10_01w_100 (N : Nat) : stepF (chN8 N [98] false) chP (chO8 1) [0, 1, -1] (1, 0, 0) = ([-1, 1, -1], z4, 0) := by
  have h1 : applyF (chN8 N [98] false) chP (chO8 1) [0, 1, -1] 1 0 0 = ([-1, 1, -1], 0) := by kernel_rfl
  have h2 : cordB (chN8 N [98] false) ((0 : Int)).toNat = false := by kernel_rfl
  unfold stepF tryF
  dsimp only
  rw [h1, h2]
  rw [if_neg (by decide), if_neg (by decide), e10w_01w_w1w]
  rfl
theorem s10_01w_200 (N : Nat) : stepF (chN8 N [98] false) chP (chO8 1) [0, 1, -1] (2, 0, 0) = ([], z4, 110) := by
  have h1 : applyF (chN8 N [98] false) chP (chO8 1) [0, 1, -1] 2 0 0 = ([], 110) := by kernel_rfl
  unfold stepF tryF
  dsimp only
  rw [h1]
  rfl
theorem s10_01w_201 (N : Nat) : stepF (chN8 N [98] false) chP (chO8 1) [0, 1, -1] (2, 0, 1) = ([], z4, 110) := by
  have h1 : applyF (chN8 N [98] false) chP (chO8 1) [0, 1, -1] 2 0 1 = ([], 110) := by kernel_rfl
  unfold stepF tryF
  dsimp only
  rw [h1]
  rfl
theorem s10_01w_202 (N : Nat) : stepF (chN8 N [98] false) chP (chO8 1) [0, 1, -1] (2, 0, 2) = ([], z4, 110) := by
  have h1 : applyF (chN8 N [98] false) chP (chO8 1) [0, 1, -1] 2 0 2 = ([], 110) := by kernel_rfl
  unfold stepF tryF
  dsimp only
  rw [h1]
  rfl
theorem s10_w1w_220 (N : Nat) : stepF (chN8 N [98] false) chP (chO8 1) [-1, 1, -1] (2, 2, 0) = ([-1, 1, 0], z4, 0) := by
  have h1 : applyF (chN8 N [98] false) chP (chO8 1) [-1, 1, -1] 2 2 0 = ([-1, 1, 0], 0) := by kernel_rfl
  have h2 : cordB (chN8 N [98] false) ((0 : Int)).toNat = false := by kernel_rfl
  unfold stepF tryF
  dsimp only
  rw [h1, h2]
  rw [if_neg (by decide), if_neg (by decide), e10w_w1w_w10]
  rfl
theorem s10_w10_110 (N : Nat) : stepF (chN8 N [98] false) chP (chO8 1) [-1, 1, 0] (1, 1, 0) = ([-1, -1, 0], z4, 0) := by
  have h1 : applyF (chN8 N [98] false) chP (chO8 1) [-1, 1, 0] 1 1 0 = ([-1, -1, 0], 0) := by kernel_rfl
  have h2 : cordB (chN8 N [98] false) ((0 : Int)).toNat = false := by kernel_rfl
  unfold stepF tryF
  dsimp only
  rw [h1, h2]
  rw [if_neg (by decide), if_neg (by decide), e10w_w10_ww0]
  rfl
theorem s10_ww0_120 (N : Nat) : stepF (chN8 N [98] false) chP (chO8 1) [-1, -1, 0] (1, 2, 0) = ([], (8, 0, 0, 1), 100) := by
  have h1 : applyF (chN8 N [98] false) chP (chO8 1) [-1, -1, 0] 1 2 0 = ([-1, -1, -1], 0) := by kernel_rfl
  have h2 : cordB (chN8 N [98] false) ((0 : Int)).toNat = false := by kernel_rfl
  unfold stepF tryF
  dsimp only
  rw [h1, h2]
  rw [if_neg (by decide), if_neg (by decide), e10w_ww0_www]
  rfl
theorem r10 (N : Nat) : runR (chN8 N [98] false) chP (chO8 1) [0, 1, -1] [(1, 0, 0), (2, 2, 0), (1, 1, 0), (1, 2, 0)] = ([], 3, 100) := by
  unfold runR
  rw [e1001w_place, if_pos rfl]
  rw [runF, s10_01w_100]
  rw [if_pos rfl]
  rw [runF, s10_w1w_220]
  rw [if_pos rfl]
  rw [runF, s10_w10_110]
  rw [if_pos rfl]
  rw [runF, s10_ww0_120]
  rw [if_neg (by decide)]
theorem m10_20 (N : Nat) : mayB (chN8 N [98] false) chP (chO8 1) [0, 1, -1] (2, 2, ((0 : Nat) : Int)) = false := by
  show decide ((stepF (chN8 N [98] false) chP (chO8 1) [0, 1, -1] (2, 2, 0)).2.2 = 0) = false
  rw [s10_01w_220]
  rfl
theorem m10_21 (N : Nat) : mayB (chN8 N [98] false) chP (chO8 1) [0, 1, -1] (2, 2, ((1 : Nat) : Int)) = false := by
  show decide ((stepF (chN8 N [98] false) chP (chO8 1) [0, 1, -1] (2, 2, 1)).2.2 = 0) = false
  rw [s10_01w_221]
  rfl
theorem m10_22 (N : Nat) : mayB (chN8 N [98] false) chP (chO8 1) [0, 1, -1] (2, 2, ((2 : Nat) : Int)) = true := by
  show decide ((stepF (chN8 N [98] false) chP (chO8 1) [0, 1, -1] (2, 2, 2)).2.2 = 0) = true
  rw [s10_01w_222]
  rfl
theorem w10_2 (N : Nat) : waysU (chN8 N [98] false) chP (chO8 1) [0, 1, -1] 2 3 = [2] := by
  simp only [waysU, m10_20, m10_21, m10_22]
  rfl
theorem m10_00 (N : Nat) : mayB (chN8 N [98] false) chP (chO8 1) [0, 1, -1] (2, 0, ((0 : Nat) : Int)) = false := by
  show decide ((stepF (chN8 N [98] false) chP (chO8 1) [0, 1, -1] (2, 0, 0)).2.2 = 0) = false
  rw [s10_01w_200]
  rfl
theorem m10_01 (N : Nat) : mayB (chN8 N [98] false) chP (chO8 1) [0, 1, -1] (2, 0, ((1 : Nat) : Int)) = false := by
  show decide ((stepF (chN8 N [98] false) chP (chO8 1) [0, 1, -1] (2, 0, 1)).2.2 = 0) = false
  rw [s10_01w_201]
  rfl
theorem m10_02 (N : Nat) : mayB (chN8 N [98] false) chP (chO8 1) [0, 1, -1] (2, 0, ((2 : Nat) : Int)) = false := by
  show decide ((stepF (chN8 N [98] false) chP (chO8 1) [0, 1, -1] (2, 0, 2)).2.2 = 0) = false
  rw [s10_01w_202]
  rfl
theorem w10_0 (N : Nat) : waysU (chN8 N [98] false) chP (chO8 1) [0, 1, -1] 0 3 = [] := by
  simp only [waysU, m10_00, m10_01, m10_02]
  rfl
theorem m10_off (N : Nat) : mayB (chN8 N [98] false) chP (chO8 1) [0, 1, -1] (1, 0, 0) = true := by
  unfold mayB
  rw [s10_01w_100]
  rfl

/-- The cluster, its box lie in memory. -/
structure WkAtA (mn : Int) (w W : World) (N Sb : Nat) (B : Option Addr) (cb : Nat) : Prop where
  s : SnapAt W (some ⟨N + 4, 0, none⟩) B (some ⟨N + 5, 0, none⟩) 3 cb 1 (chN8 N [98] false) chP (chO8 mn)
  b : Blk W Sb #[.slice (some ⟨N + 4, 0, none⟩) 3 3, .slice B 3 cb, .slice (some ⟨N + 5, 0, none⟩) 1 1] 26
  w : Below w.heap.size w W
theorem WkAtA.below {mn : Int} {w W W' : World} {N Sb : Nat} {B : Option Addr} {cb : Nat} (h : WkAtA mn w W N Sb B cb) (hb : Below W.heap.size W W') : WkAtA mn w W' N Sb B cb :=
  ⟨h.s.below hb, h.b.below hb h.b.lt, h.w.trans (hb.mono h.w.size)⟩
theorem WkAtA.c0 {mn : Int} {w W : World} {N Sb : Nat} {B : Option Addr} {cb : Nat} (h : WkAtA mn w W N Sb B cb) : W.cell? ⟨Sb, 0, none⟩ = some (.slice (some ⟨N + 4, 0, none⟩) 3 3) ∧ W.cell? ⟨Sb, 1, none⟩ = some (.slice B 3 cb) ∧ W.cell? ⟨Sb, 2, none⟩ = some (.slice (some ⟨N + 5, 0, none⟩) 1 1) :=
  ⟨Blk.cell h.b 0, Blk.cell h.b 1, Blk.cell h.b 2⟩


set_option maxRecDepth 100000 in
set_option maxHeartbeats 16000000 in
theorem works10_any (w : World) :
    Calls Tryz.prog 20 #[] w fun e w' => e = .returned (.bool true) ∧ Below w.heap.size w w' := by
  have KC := Lib.hid (chapter10_any w)
  have hmg := cl_guard
  go_enter Tryz.func20, Tryz.ntmps20
  go_wp2_with fail
  refine (KC.out).mono ?_
  rintro e w1 ⟨B, cb, rfl, hch, hb⟩
  have hsn := hch.snap (by simp)
  have H00 : Hid (WkAtA 1 w (w1.alloc (.cells #[.slice (some ⟨w.heap.size + 4, 0, none⟩) 3 3, .slice B 3 cb, .slice (some ⟨w.heap.size + 5, 0, none⟩) 1 1] 26)) w.heap.size w1.heap.size B cb) := Lib.hid (by
    have h1 := below1 w1 (.cells #[.slice (some ⟨w.heap.size + 4, 0, none⟩) 3 3, .slice B 3 cb, .slice (some ⟨w.heap.size + 5, 0, none⟩) 1 1] 26)
    exact ⟨hsn.below h1, Blk.new w1 _ _, hb.trans (h1.mono hb.size)⟩)
  clear hch hsn hb KC
  go_upto_region 2 with fail
  try change Code.wp _ _ _ _ (w1.alloc (.cells #[.slice (some ⟨w.heap.size + 4, 0, none⟩) 3 3, .slice B 3 cb, .slice (some ⟨w.heap.size + 5, 0, none⟩) 1 1] 26))
  generalize (w1.alloc (.cells #[.slice (some ⟨w.heap.size + 4, 0, none⟩) 3 3, .slice B 3 cb, .slice (some ⟨w.heap.size + 5, 0, none⟩) 1 1] 26)) = W0 at H00 ⊢
  generalize w1.heap.size = Sb at H00 ⊢
  have H0 := Lib.hid (H00.out.below (below1 W0 (.cells (intsC [0, 1, -1]).toArray 3)))
  have I0 := Lib.hid (ints_new W0 [0, 1, -1] (by simp))
  clear H00
  go_upto_region 3 with fail
  try change Code.wp _ _ _ _ (W0.alloc (.cells (intsC [0, 1, -1]).toArray 3))
  generalize (W0.alloc (.cells (intsC [0, 1, -1]).toArray 3)) = V0 at H0 I0 ⊢
  generalize W0.heap.size = Pb at I0 ⊢
  have HCb := Lib.hid (fun W' (hb : Below V0.heap.size V0 W') => (H0.out.below hb).c0)
  have HIp := Lib.hid (fun W' (hb : Below V0.heap.size V0 W') => I0.out.below hb)
  have HSn := Lib.hid (fun W' (hb : Below V0.heap.size V0 W') => (H0.out.below hb).s)
  have KS := Lib.hid (fun W' (hb : Below V0.heap.size V0 W') => step_any (some ⟨w.heap.size + 4, 0, none⟩) B (some ⟨w.heap.size + 5, 0, none⟩) (some ⟨Pb, 0, none⟩) 3 cb 1 3 (chN8 w.heap.size [98] false) chP (chO8 1) [0, 1, -1] 2 2 0 W' (HSn.out W' hb) (HIp.out W' hb))
  rw [s10_01w_220] at KS
  have KO := Lib.hid (fun W' => on_any10 2 0 W')
  have HB : Hid (Below V0.heap.size V0 V0.drew) := Lib.hid ((Below.refl _ V0).drew)
  have HZ : Hid (Below V0.heap.size V0 (V0.alloc (.cells (clC z4) 47)).drew) := Lib.hid ((below1 V0 _).drew)
  have QZ : Hid (Blk (V0.alloc (.cells (clC z4) 47)).drew V0.heap.size (clC z4) 47) := Lib.hid (Blk.drew (Blk.new V0 _ _))
  have hge : Hid (V0.heap.size ≤ V0.heap.size) := Lib.hid (Nat.le_refl _)
  have S0 := HCb.out _ HB.out
  have S1 := HCb.out _ HZ.out
  go_cut [3, 4, 5] (fun u v x wc => ∃ Q cq g, u = .slice Q 0 cq ∧ v = .pointer (some ⟨g, 0, none⟩) ∧ x = .int .i64 100 ∧ IntsAt wc Q cq [] ∧ Blk wc g (clC (1, 0, 0, 5)) 47 ∧ Below V0.heap.size V0 wc)
  case first =>
    go_region_held3 (fun w' => w'.cell? ⟨Sb, 0, none⟩ = some (.slice (some ⟨w.heap.size + 4, 0, none⟩) 3 3) ∧ w'.cell? ⟨Sb, 1, none⟩ = some (.slice B 3 cb) ∧ w'.cell? ⟨Sb, 2, none⟩ = some (.slice (some ⟨w.heap.size + 5, 0, none⟩) 1 1))
      (first | exact S0 | exact S1 | exact S2 | exact S3 | exact S4 | exact S5 | exact S6 | exact S7 | exact S8)
      (first
        | (go_at_call 30
           with_reducible refine (KO.out V0.drew).mono ?_
           rintro e wA ⟨rfl, hbA⟩
           have HA := Lib.hid (HB.out.trans (hbA.mono HB.out.size))
           have HAz := Lib.hid (HA.out.alloc HA.out.size (.cells (clC z4) 47))
           have QAz := Lib.hid (Blk.new wA (clC z4) 47)
           have hgA : Hid (V0.heap.size ≤ wA.heap.size) := Lib.hid HA.out.size
           have S2 := HCb.out _ HA.out
           have S3 := HCb.out _ HAz.out
           clear hbA)
        | (go_at_call 30
           refine (KO.out _).mono ?_
           rintro e wA ⟨rfl, hbA⟩
           have HAq := Lib.hid (HZ.out.trans (hbA.mono HZ.out.size))
           have QAq := Lib.hid (QZ.out.below hbA QZ.out.lt)
           have S2 := HCb.out _ HAq.out
           clear hbA)
        | (go_at_call 26
           refine (KS.out wA HA.out).mono ?_
           rintro e wB ⟨v5, rfl, ho5, hbB⟩
           obtain ⟨Q5, cq5, rfl, _⟩ := La.own_slice ho5
           have HF0 := Lib.hid (HA.out.trans (hbB.mono HA.out.size))
           have HF := Lib.hid (HF0.out.alloc HF0.out.size (.cells (clC (1, 0, 0, 5)) 47))
           have HFz := Lib.hid (HF0.out.alloc HF0.out.size (.cells (clC z4) 47))
           have QF := Lib.hid (Blk.new wB (clC (1, 0, 0, 5)) 47)
           have IF := Lib.hid ((IntsAt.own ho5).below (below1 wB (.cells (clC (1, 0, 0, 5)) 47)))
           have S4 := HCb.out _ HF0.out
           have S5 := HCb.out _ HF.out
           have S6 := HCb.out _ HFz.out
           clear ho5 hbB)
        | (go_at_call 26
           refine (KS.out wA HAq.out).mono ?_
           rintro e wB ⟨v5, rfl, ho5, hbB⟩
           obtain ⟨Q5, cq5, rfl, _⟩ := La.own_slice ho5
           have HF0 := Lib.hid (HAq.out.trans (hbB.mono HAq.out.size))
           have QF0 := Lib.hid (QAq.out.below hbB QAq.out.lt)
           have HF := Lib.hid (below4 HF0.out (Nat.le_refl _) (1, 0, 0, 5))
           have QF := Lib.hid (blk4 QF0.out (1, 0, 0, 5))
           have IF := Lib.hid (IntsAt.own (own4 ho5 QF0.out (1, 0, 0, 5)))
           obtain ⟨⟨q0, q1, q2, q3⟩, g0, g1, g2, g3⟩ := cells_of4 QF0.out
           have S4 := HCb.out _ HF0.out
           have S5 := HCb.out _ HF.out
           clear ho5 hbB)
        | (go_at_call 26
           refine (KS.out _ HAz.out).mono ?_
           rintro e wB ⟨v5, rfl, ho5, hbB⟩
           obtain ⟨Q5, cq5, rfl, _⟩ := La.own_slice ho5
           have HF0 := Lib.hid (HAz.out.trans (hbB.mono HAz.out.size))
           have QF0 := Lib.hid (QAz.out.below hbB QAz.out.lt)
           have HF := Lib.hid (below4 HF0.out hgA.out (1, 0, 0, 5))
           have QF := Lib.hid (blk4 QF0.out (1, 0, 0, 5))
           have IF := Lib.hid (IntsAt.own (own4 ho5 QF0.out (1, 0, 0, 5)))
           obtain ⟨⟨q0, q1, q2, q3⟩, g0, g1, g2, g3⟩ := cells_of4 QF0.out
           have S4 := HCb.out _ HF0.out
           have S5 := HCb.out _ HF.out
           clear ho5 hbB))
    all_goals
      (try go_wp2_with fail)
      go_meet
      exact ⟨_, _, _, rfl, rfl, rfl, IF.out, QF.out, HF.out⟩
  case' rest => obtain ⟨Q1, cq1, g1, rfl, rfl, rfl, i5, b5, hb5⟩ := hcut
  obtain ⟨V1, hV1⟩ : ∃ V1, V1 = wc := ⟨_, rfl⟩
  subst hV1
  have H1 := Lib.hid (H0.out.below hb5)
  have I1 := Lib.hid (I0.out.below hb5)
  have J1 := Lib.hid i5
  have C1 := Lib.hid b5
  clear hb5 i5 b5 HCb HIp HSn KS KO HB HZ QZ hge S0 S1 H0 I0
  go_upto_region 4 with fail
  have HCb := Lib.hid (fun W' (hb : Below V1.heap.size V1 W') => (H1.out.below hb).c0)
  have HIp := Lib.hid (fun W' (hb : Below V1.heap.size V1 W') => I1.out.below hb)
  have HSn := Lib.hid (fun W' (hb : Below V1.heap.size V1 W') => (H1.out.below hb).s)
  have KS := Lib.hid (fun W' (hb : Below V1.heap.size V1 W') => step_any (some ⟨w.heap.size + 4, 0, none⟩) B (some ⟨w.heap.size + 5, 0, none⟩) (some ⟨Pb, 0, none⟩) 3 cb 1 3 (chN8 w.heap.size [98] false) chP (chO8 1) [0, 1, -1] 2 2 2 W' (HSn.out W' hb) (HIp.out W' hb))
  rw [s10_01w_222] at KS
  have KO := Lib.hid (fun W' => on_any10 2 2 W')
  have HB : Hid (Below V1.heap.size V1 V1.drew) := Lib.hid ((Below.refl _ V1).drew)
  have HZ : Hid (Below V1.heap.size V1 (V1.alloc (.cells (clC z4) 47)).drew) := Lib.hid ((below1 V1 _).drew)
  have QZ : Hid (Blk (V1.alloc (.cells (clC z4) 47)).drew V1.heap.size (clC z4) 47) := Lib.hid (Blk.drew (Blk.new V1 _ _))
  have hge : Hid (V1.heap.size ≤ V1.heap.size) := Lib.hid (Nat.le_refl _)
  have S0 := HCb.out _ HB.out
  have S1 := HCb.out _ HZ.out
  go_cut [6, 7, 8] (fun u v x wc => ∃ Q cq g, u = .slice Q 3 cq ∧ v = .pointer (some ⟨g, 0, none⟩) ∧ x = .int .i64 0 ∧ IntsAt wc Q cq [0, 1, 2] ∧ Blk wc g (clC z4) 47 ∧ Below V1.heap.size V1 wc)
  case first =>
    go_region_held3 (fun w' => w'.cell? ⟨Sb, 0, none⟩ = some (.slice (some ⟨w.heap.size + 4, 0, none⟩) 3 3) ∧ w'.cell? ⟨Sb, 1, none⟩ = some (.slice B 3 cb) ∧ w'.cell? ⟨Sb, 2, none⟩ = some (.slice (some ⟨w.heap.size + 5, 0, none⟩) 1 1))
      (first | exact S0 | exact S1 | exact S2 | exact S3 | exact S4 | exact S5 | exact S6 | exact S7 | exact S8)
      (first
        | (go_at_call 30
           with_reducible refine (KO.out V1.drew).mono ?_
           rintro e wA ⟨rfl, hbA⟩
           have HA := Lib.hid (HB.out.trans (hbA.mono HB.out.size))
           have HAz := Lib.hid (HA.out.alloc HA.out.size (.cells (clC z4) 47))
           have QAz := Lib.hid (Blk.new wA (clC z4) 47)
           have hgA : Hid (V1.heap.size ≤ wA.heap.size) := Lib.hid HA.out.size
           have S2 := HCb.out _ HA.out
           have S3 := HCb.out _ HAz.out
           clear hbA)
        | (go_at_call 30
           refine (KO.out _).mono ?_
           rintro e wA ⟨rfl, hbA⟩
           have HAq := Lib.hid (HZ.out.trans (hbA.mono HZ.out.size))
           have QAq := Lib.hid (QZ.out.below hbA QZ.out.lt)
           have S2 := HCb.out _ HAq.out
           clear hbA)
        | (go_at_call 26
           refine (KS.out wA HA.out).mono ?_
           rintro e wB ⟨v5, rfl, ho5, hbB⟩
           obtain ⟨Q5, cq5, rfl, _⟩ := La.own_slice ho5
           have HF0 := Lib.hid (HA.out.trans (hbB.mono HA.out.size))
           have HF := Lib.hid (HF0.out.alloc HF0.out.size (.cells (clC z4) 47))
           have HFz := Lib.hid (HF0.out.alloc HF0.out.size (.cells (clC z4) 47))
           have QF := Lib.hid (Blk.new wB (clC z4) 47)
           have IF := Lib.hid ((IntsAt.own ho5).below (below1 wB (.cells (clC z4) 47)))
           have S4 := HCb.out _ HF0.out
           have S5 := HCb.out _ HF.out
           have S6 := HCb.out _ HFz.out
           clear ho5 hbB)
        | (go_at_call 26
           refine (KS.out wA HAq.out).mono ?_
           rintro e wB ⟨v5, rfl, ho5, hbB⟩
           obtain ⟨Q5, cq5, rfl, _⟩ := La.own_slice ho5
           have HF0 := Lib.hid (HAq.out.trans (hbB.mono HAq.out.size))
           have QF0 := Lib.hid (QAq.out.below hbB QAq.out.lt)
           have HF := Lib.hid (below4 HF0.out (Nat.le_refl _) z4)
           have QF := Lib.hid (blk4 QF0.out z4)
           have IF := Lib.hid (IntsAt.own (own4 ho5 QF0.out z4))
           obtain ⟨⟨q0, q1, q2, q3⟩, g0, g1, g2, g3⟩ := cells_of4 QF0.out
           have S4 := HCb.out _ HF0.out
           have S5 := HCb.out _ HF.out
           clear ho5 hbB)
        | (go_at_call 26
           refine (KS.out _ HAz.out).mono ?_
           rintro e wB ⟨v5, rfl, ho5, hbB⟩
           obtain ⟨Q5, cq5, rfl, _⟩ := La.own_slice ho5
           have HF0 := Lib.hid (HAz.out.trans (hbB.mono HAz.out.size))
           have QF0 := Lib.hid (QAz.out.below hbB QAz.out.lt)
           have HF := Lib.hid (below4 HF0.out hgA.out z4)
           have QF := Lib.hid (blk4 QF0.out z4)
           have IF := Lib.hid (IntsAt.own (own4 ho5 QF0.out z4))
           obtain ⟨⟨q0, q1, q2, q3⟩, g0, g1, g2, g3⟩ := cells_of4 QF0.out
           have S4 := HCb.out _ HF0.out
           have S5 := HCb.out _ HF.out
           clear ho5 hbB))
    all_goals
      (try go_wp2_with fail)
      go_meet
      exact ⟨_, _, _, rfl, rfl, rfl, IF.out, QF.out, HF.out⟩
  case' rest => obtain ⟨Q2, cq2, g2, rfl, rfl, rfl, i5, b5, hb5⟩ := hcut
  obtain ⟨V2, hV2⟩ : ∃ V2, V2 = wc := ⟨_, rfl⟩
  subst hV2
  have H2 := Lib.hid (H1.out.below hb5)
  have I2 := Lib.hid (I1.out.below hb5)
  have J2 := Lib.hid i5
  have C2 := Lib.hid b5
  have C1 := Lib.hid (C1.out.below hb5 C1.out.lt)
  clear hb5 i5 b5 HCb HIp HSn KS KO HB HZ QZ hge S0 S1 H1 I1
  go_upto_region 5 with fail
  have HCb := Lib.hid (fun W' (hb : Below V2.heap.size V2 W') => (H2.out.below hb).c0)
  have HIp := Lib.hid (fun W' (hb : Below V2.heap.size V2 W') => I2.out.below hb)
  have HSn := Lib.hid (fun W' (hb : Below V2.heap.size V2 W') => (H2.out.below hb).s)
  have KR := Lib.hid (fun W' (hb : Below V2.heap.size V2 W') => run_anyA (some ⟨w.heap.size + 4, 0, none⟩) B (some ⟨w.heap.size + 5, 0, none⟩) (some ⟨Pb, 0, none⟩) (some ⟨W'.heap.size, 0, none⟩) 3 cb 1 3 4 (chN8 w.heap.size [98] false) chP (chO8 1) [0, 1, -1] [(1, 0, 0), (2, 2, 0), (1, 1, 0), (1, 2, 0)] (by simp) (W'.alloc (.cells (cells3 [(1, 0, 0), (2, 2, 0), (1, 1, 0), (1, 2, 0)]).toArray 63)) (HSn.out _ (hb.alloc hb.size _)) (fun a h => ⟨Pb, 0, (Option.some.inj h).symm⟩) (HIp.out _ (hb.alloc hb.size _)) (slat_new W' (cells3 [(1, 0, 0), (2, 2, 0), (1, 1, 0), (1, 2, 0)]) 63))
  rw [r10] at KR
  have HB : Hid (Below V2.heap.size V2 V2.drew) := Lib.hid ((Below.refl _ V2).drew)
  have SH := HCb.out _ HB.out
  go_cut [9, 10, 11] (fun u v x wc => ∃ Q cq, u = .slice Q 0 cq ∧ v = .int .i64 3 ∧ x = .int .i64 100 ∧ Below V2.heap.size V2 wc)
  case first =>
    go_region_held3 (fun w' => w'.cell? ⟨Sb, 0, none⟩ = some (.slice (some ⟨w.heap.size + 4, 0, none⟩) 3 3) ∧ w'.cell? ⟨Sb, 1, none⟩ = some (.slice B 3 cb) ∧ w'.cell? ⟨Sb, 2, none⟩ = some (.slice (some ⟨w.heap.size + 5, 0, none⟩) 1 1))
      (first | exact SH | exact SHz)
      (first
        | (go_at_call 30
           refine (on_any10 _ _ _).mono ?_
           rintro e wA ⟨rfl, hbA⟩
           have HB := Lib.hid (HB.out.trans (hbA.mono HB.out.size))
           have SH := HCb.out _ HB.out
           clear hbA)
        | (go_at_call 31
           refine (off_any10 _ _).mono ?_
           rintro e wA ⟨rfl, hbA⟩
           have HB := Lib.hid (HB.out.trans (hbA.mono HB.out.size))
           have HBz := Lib.hid (HB.out.alloc HB.out.size (.cells (cells3 [(1, 0, 0), (2, 2, 0), (1, 1, 0), (1, 2, 0)]).toArray 63))
           have SH := HCb.out _ HB.out
           have SHz := HCb.out _ HBz.out
           clear hbA)
        | (go_at_call 32
           refine (KR.out _ HB.out).mono ?_
           rintro e wA ⟨v5, rfl, ho5, hbA⟩
           obtain ⟨Q5, cq5, rfl, _⟩ := La.own_slice ho5
           have HB := Lib.hid (HBz.out.trans (hbA.mono HBz.out.size))
           have SH := HCb.out _ HB.out
           clear ho5 hbA))
    all_goals
      (try go_wp2_with fail)
      go_meet
      exact ⟨_, _, rfl, rfl, rfl, HB.out⟩
  case' rest => obtain ⟨Q3, cq3, rfl, rfl, rfl, hb5⟩ := hcut
  obtain ⟨V3, hV3⟩ : ∃ V3, V3 = wc := ⟨_, rfl⟩
  subst hV3
  have H3 := Lib.hid (H2.out.below hb5)
  have I3 := Lib.hid (I2.out.below hb5)
  have C1 := Lib.hid (C1.out.below hb5 C1.out.lt)
  have J2 := Lib.hid (J2.out.below hb5)
  clear hb5 HCb HIp HSn KR HB SH H2 I2
  go_upto_region 6 with fail
  have HCb := Lib.hid (fun W' (hb : Below V3.heap.size V3 W') => And.intro ((H3.out.below hb).c0) (cells_of4 (C1.out.below hb C1.out.lt)).1)
  have HB : Hid (Below V3.heap.size V3 V3.drew) := Lib.hid ((Below.refl _ V3).drew)
  have HBz : Hid (Below V3.heap.size V3 (V3.alloc (.cells #[.int .i64 0, .int .i64 1, .int .i64 2] 3)).drew) := Lib.hid ((below1 V3 _).drew)
  have KE1 : Hid (Calls Tryz.prog 33 #[.slice Q2 3 cq2, .slice (some ⟨V3.heap.size, 0, none⟩) 3 3] (V3.alloc (.cells #[.int .i64 0, .int .i64 1, .int .i64 2] 3)).drew fun e w' => e = .returned (.bool true) ∧ Below (V3.alloc (.cells #[.int .i64 0, .int .i64 1, .int .i64 2] 3)).drew.heap.size (V3.alloc (.cells #[.int .i64 0, .int .i64 1, .int .i64 2] 3)).drew w') := Lib.hid (eqSame9 Q2 (some ⟨V3.heap.size, 0, none⟩) cq2 3 [0, 1, 2] (V3.alloc (.cells #[.int .i64 0, .int .i64 1, .int .i64 2] 3)).drew (by simp) (J2.out.below HBz.out) ((ints_new V3 [0, 1, 2] (by simp)).below ((Below.refl _ _).drew)))
  have KWa : Hid (∀ W', Below V3.heap.size V3 W' → Calls Tryz.prog 35 #[.agg #[.slice (some ⟨w.heap.size + 4, 0, none⟩) 3 3, .slice B 3 cb, .slice (some ⟨w.heap.size + 5, 0, none⟩) 1 1], .slice (some ⟨Pb, 0, none⟩) 3 3, .int .i64 2] W' fun e w' => ∃ Q cq, e = .returned (.slice Q 1 cq) ∧ IntsAt w' Q cq [2] ∧ Below W'.heap.size W' w') := Lib.hid (fun W' hb => by
    have K := ways_anyA (some ⟨w.heap.size + 4, 0, none⟩) B (some ⟨w.heap.size + 5, 0, none⟩) (some ⟨Pb, 0, none⟩) 3 cb 1 3 (chN8 w.heap.size [98] false) chP (chO8 1) [0, 1, -1] 2 W' (H3.out.below hb).s (I3.out.below hb)
    rw [show (chN8 w.heap.size [98] false).length = 3 from rfl, w10_2] at K
    refine K.mono ?_
    rintro e w' ⟨v, rfl, ho, hb'⟩
    obtain ⟨Q, cq, rfl, _⟩ := La.own_slice ho
    exact ⟨Q, cq, rfl, IntsAt.own ho, hb'⟩)
  have KWb : Hid (∀ W', Below V3.heap.size V3 W' → Calls Tryz.prog 35 #[.agg #[.slice (some ⟨w.heap.size + 4, 0, none⟩) 3 3, .slice B 3 cb, .slice (some ⟨w.heap.size + 5, 0, none⟩) 1 1], .slice (some ⟨Pb, 0, none⟩) 3 3, .int .i64 0] W' fun e w' => ∃ Q cq, e = .returned (.slice Q 0 cq) ∧ Below W'.heap.size W' w') := Lib.hid (fun W' hb => by
    have K := ways_anyA (some ⟨w.heap.size + 4, 0, none⟩) B (some ⟨w.heap.size + 5, 0, none⟩) (some ⟨Pb, 0, none⟩) 3 cb 1 3 (chN8 w.heap.size [98] false) chP (chO8 1) [0, 1, -1] 0 W' (H3.out.below hb).s (I3.out.below hb)
    rw [show (chN8 w.heap.size [98] false).length = 3 from rfl, w10_0] at K
    refine K.mono ?_
    rintro e w' ⟨v, rfl, ho, hb'⟩
    obtain ⟨Q, cq, rfl, _⟩ := La.own_slice ho
    exact ⟨Q, cq, rfl, hb'⟩)
  have KMy : Hid (∀ W', Below V3.heap.size V3 W' → Calls Tryz.prog 34 #[.agg #[.slice (some ⟨w.heap.size + 4, 0, none⟩) 3 3, .slice B 3 cb, .slice (some ⟨w.heap.size + 5, 0, none⟩) 1 1], .slice (some ⟨Pb, 0, none⟩) 3 3, .agg #[.int .i64 1, .int .i64 0, .int .i64 0]] W' fun e w' => e = .returned (.bool true) ∧ Below W'.heap.size W' w') := Lib.hid (fun W' hb => by
    have K := may_anyA (some ⟨w.heap.size + 4, 0, none⟩) B (some ⟨w.heap.size + 5, 0, none⟩) (some ⟨Pb, 0, none⟩) 3 cb 1 3 (chN8 w.heap.size [98] false) chP (chO8 1) [0, 1, -1] 1 0 0 W' (H3.out.below hb).s (I3.out.below hb)
    rw [m10_off] at K
    exact K)
  have KOf : Hid (∀ W', Calls Tryz.prog 31 #[.int .i64 0] W' fun e w' => e = .returned (.agg #[.int .i64 1, .int .i64 0, .int .i64 0]) ∧ Below W'.heap.size W' w') := Lib.hid (fun W' => off_any10 0 W')
  have hq1 := fun w => eq_cl 1 0 0 5 w
  have HD0 := Lib.hid H3.out.w
  have SH := HCb.out _ HB.out
  have SHz := HCb.out _ HBz.out
  clear I3 J2 C1 H3
  try simp only [List.append]
  refine wp_region_held_drew (S := (fun w' => (w'.cell? ⟨Sb, 0, none⟩ = some (.slice (some ⟨w.heap.size + 4, 0, none⟩) 3 3) ∧ w'.cell? ⟨Sb, 1, none⟩ = some (.slice B 3 cb) ∧ w'.cell? ⟨Sb, 2, none⟩ = some (.slice (some ⟨w.heap.size + 5, 0, none⟩) 1 1)) ∧ w'.cell? ⟨g1, 0, none⟩ = some (.int .i64 1) ∧ w'.cell? ⟨g1, 1, none⟩ = some (.int .i64 0) ∧ w'.cell? ⟨g1, 2, none⟩ = some (.int .i64 0) ∧ w'.cell? ⟨g1, 3, none⟩ = some (.int .i64 5))) (by kernel_rfl) (HCb.out _ HB.out) (fun hHeld => ?_)
  refine wpAnyH_take (i := 0) (oi := ⟨some 42, .move (.tmp 5), 49, "outright.go:35", #[], none⟩) (v := ?_) rfl (by kernel_rfl) (by kernel_rfl) (by kernel_rfl) (fun _ _ _ h => h) (Or.inl ⟨by rfl, ?_⟩) (by assumption) ?_
  rotate_left 1
  · (intro w hSw; (try dsimp only at hSw); go_simp; try with_reducible rfl)
  try simp only [Act.put, List.setIfInBounds_toArray, List.set_cons_zero, List.set_cons_succ]
  refine wpAnyH_take (i := 1) (oi := ⟨some 43, .binOp .eql 49 (.tmp 42) (.const (.int .i64 100)) 49, 4, "outright.go:35", #[⟨0, .data⟩], none⟩) (v := ?_) rfl (by kernel_rfl) (by kernel_rfl) (by kernel_rfl) (fun _ _ _ h => h) (Or.inl ⟨by rfl, ?_⟩) (by assumption) ?_
  rotate_left 1
  · (intro w hSw; (try dsimp only at hSw); go_simp; try with_reducible rfl)
  try simp only [Act.put, List.setIfInBounds_toArray, List.set_cons_zero, List.set_cons_succ]
  refine wpAnyH_take (i := 2) (oi := ⟨some 44, .move (.tmp 43), 4, "outright.go:35", #[⟨1, .data⟩], none⟩) (v := ?_) rfl (by kernel_rfl) (by kernel_rfl) (by kernel_rfl) (fun _ _ _ h => h) (Or.inl ⟨by rfl, ?_⟩) (by assumption) ?_
  rotate_left 1
  · (intro w hSw; (try dsimp only at hSw); go_simp; try with_reducible rfl)
  try simp only [Act.put, List.setIfInBounds_toArray, List.set_cons_zero, List.set_cons_succ]
  refine wpAnyH_take (i := 3) (oi := ⟨some 45, .load 47 (.tmp 4), 47, "outright.go:35", #[⟨2, .guard⟩], some (2, true)⟩) (v := ?_) rfl (by kernel_rfl) (by kernel_rfl) (by kernel_rfl) (fun _ _ _ h => h) (Or.inl ⟨by rfl, ?_⟩) (by assumption) ?_
  rotate_left 1
  · (intro w hSw; (try dsimp only at hSw); go_simp; try with_reducible rfl)
  try simp only [Act.put, List.setIfInBounds_toArray, List.set_cons_zero, List.set_cons_succ]
  refine wpAnyH_take (i := 4) (oi := ⟨some 46, .build 47 #[(0, .const (.int .i64 1)), (3, .const (.int .i64 5))], 47, "outright.go:35", #[⟨2, .guard⟩], some (2, true)⟩) (v := ?_) rfl (by kernel_rfl) (by kernel_rfl) (by kernel_rfl) (fun _ _ _ h => h) (Or.inl ⟨by rfl, ?_⟩) (by assumption) ?_
  rotate_left 1
  · (intro w hSw; (try dsimp only at hSw); go_simp; try with_reducible rfl)
  try simp only [Act.put, List.setIfInBounds_toArray, List.set_cons_zero, List.set_cons_succ]
  refine wpAnyH_take (i := 5) (oi := ⟨some 47, .binOp .eql 47 (.tmp 45) (.tmp 46) 47, 4, "outright.go:35", #[⟨3, .data⟩, ⟨4, .data⟩, ⟨2, .guard⟩], some (2, true)⟩) (v := ?_) rfl (by kernel_rfl) (by kernel_rfl) (by kernel_rfl) (fun _ _ _ h => h) (Or.inl ⟨by rfl, ?_⟩) (by assumption) ?_
  rotate_left 1
  · (intro w hSw; (try dsimp only at hSw); go_simp; try with_reducible rfl)
  try simp only [Act.put, List.setIfInBounds_toArray, List.set_cons_zero, List.set_cons_succ]
  refine wpAnyH_take (i := 6) (oi := ⟨some 48, .pick (.tmp 44) (.tmp 47) (.const (.bool false)), 4, "outright.go:35", #[⟨2, .data⟩, ⟨5, .data⟩], none⟩) (v := ?_) rfl (by kernel_rfl) (by kernel_rfl) (by kernel_rfl) (fun _ _ _ h => h) (Or.inl ⟨by rfl, ?_⟩) (by assumption) ?_
  rotate_left 1
  · (intro w hSw; (try dsimp only at hSw); go_simp; try with_reducible rfl)
  try simp only [Act.put, List.setIfInBounds_toArray, List.set_cons_zero, List.set_cons_succ]
  refine wpAnyH_take (i := 7) (oi := ⟨some 49, .move (.tmp 48), 4, "outright.go:35", #[⟨6, .data⟩, ⟨2, .chain⟩], none⟩) (v := ?_) rfl (by kernel_rfl) (by kernel_rfl) (by kernel_rfl) (fun _ _ _ h => h) (Or.inl ⟨by rfl, ?_⟩) (by assumption) ?_
  rotate_left 1
  · (intro w hSw; (try dsimp only at hSw); go_simp; try with_reducible rfl)
  try simp only [Act.put, List.setIfInBounds_toArray, List.set_cons_zero, List.set_cons_succ]
  refine wpAnyH_take (i := 8) (oi := ⟨some 50, .move (.tmp 6), 44, "outright.go:35", #[⟨7, .guard⟩], some (7, true)⟩) (v := ?_) rfl (by kernel_rfl) (by kernel_rfl) (by kernel_rfl) (fun _ _ _ h => h) (Or.inl ⟨by rfl, ?_⟩) (by assumption) ?_
  rotate_left 1
  · (intro w hSw; (try dsimp only at hSw); go_simp; try with_reducible rfl)
  try simp only [Act.put, List.setIfInBounds_toArray, List.set_cons_zero, List.set_cons_succ]
  refine wpAnyH_ready (rs := [9]) (by kernel_rfl) (by simp) ?_
  refine AllReadyH.cons (o := ⟨some 51, .buildSlice 44 3 #[(0, .const (.int .i64 0)), (1, .const (.int .i64 1)), (2, .const (.int .i64 2))], 44, "outright.go:35", #[⟨7, .guard⟩], some (7, true)⟩) rfl (fun K hK => ?_) AllReadyH.nil
  go_simp
  refine hK.out _ _ (HCb.out _ HBz.out) (fun hHeld => ?_)
  clear hK K
  try simp only [Act.put, List.setIfInBounds_toArray, List.set_cons_zero, List.set_cons_succ]
  refine wpAnyH_ready (rs := [10]) (by kernel_rfl) (by simp) ?_
  refine AllReadyH.cons (o := ⟨some 52, .call { callee := .value (.func 33), args := #[.tmp 50, .tmp 51], argTypes := #[44, 44] }, 4, "outright.go:35", #[⟨8, .data⟩, ⟨9, .data⟩, ⟨7, .chain⟩, ⟨7, .guard⟩], some (7, true)⟩) rfl (fun K hK => ?_) AllReadyH.nil
  go_simp
  go_at_call 33
  with_reducible refine (KE1.out).mono ?_
  rintro e wA ⟨rfl, hbA⟩
  have HB1 := Lib.hid (HBz.out.trans (hbA.mono HBz.out.size))
  clear hbA
  refine hK.out _ _ (HCb.out _ HB1.out) (fun hHeld => ?_)
  clear hK K
  try simp only [Act.put, List.setIfInBounds_toArray, List.set_cons_zero, List.set_cons_succ]
  refine wpAnyH_take (i := 11) (oi := ⟨some 53, .pick (.tmp 49) (.tmp 52) (.const (.bool false)), 4, "outright.go:35", #[⟨7, .data⟩, ⟨10, .data⟩], none⟩) (v := ?_) rfl (by kernel_rfl) (by kernel_rfl) (by kernel_rfl) (fun _ _ _ h => h) (Or.inl ⟨by rfl, ?_⟩) (by assumption) ?_
  rotate_left 1
  · (intro w hSw; (try dsimp only at hSw); go_simp; try with_reducible rfl)
  try simp only [Act.put, List.setIfInBounds_toArray, List.set_cons_zero, List.set_cons_succ]
  refine wpAnyH_take (i := 12) (oi := ⟨some 54, .move (.tmp 53), 4, "outright.go:35", #[⟨11, .data⟩, ⟨10, .chain⟩], none⟩) (v := ?_) rfl (by kernel_rfl) (by kernel_rfl) (by kernel_rfl) (fun _ _ _ h => h) (Or.inl ⟨by rfl, ?_⟩) (by assumption) ?_
  rotate_left 1
  · (intro w hSw; (try dsimp only at hSw); go_simp; try with_reducible rfl)
  try simp only [Act.put, List.setIfInBounds_toArray, List.set_cons_zero, List.set_cons_succ]
  refine wpAnyH_take (i := 13) (oi := ⟨some 55, .move (.tmp 8), 49, "outright.go:35", #[⟨12, .guard⟩], some (12, true)⟩) (v := ?_) rfl (by kernel_rfl) (by kernel_rfl) (by kernel_rfl) (fun _ _ _ h => h) (Or.inl ⟨by rfl, ?_⟩) (by assumption) ?_
  rotate_left 1
  · (intro w hSw; (try dsimp only at hSw); go_simp; try with_reducible rfl)
  try simp only [Act.put, List.setIfInBounds_toArray, List.set_cons_zero, List.set_cons_succ]
  refine wpAnyH_take (i := 14) (oi := ⟨some 56, .binOp .eql 49 (.tmp 55) (.const (.int .i64 0)) 49, 4, "outright.go:35", #[⟨13, .data⟩, ⟨12, .guard⟩], some (12, true)⟩) (v := ?_) rfl (by kernel_rfl) (by kernel_rfl) (by kernel_rfl) (fun _ _ _ h => h) (Or.inl ⟨by rfl, ?_⟩) (by assumption) ?_
  rotate_left 1
  · (intro w hSw; (try dsimp only at hSw); go_simp; try with_reducible rfl)
  try simp only [Act.put, List.setIfInBounds_toArray, List.set_cons_zero, List.set_cons_succ]
  refine wpAnyH_take (i := 15) (oi := ⟨some 57, .pick (.tmp 54) (.tmp 56) (.const (.bool false)), 4, "outright.go:35", #[⟨12, .data⟩, ⟨14, .data⟩], none⟩) (v := ?_) rfl (by kernel_rfl) (by kernel_rfl) (by kernel_rfl) (fun _ _ _ h => h) (Or.inl ⟨by rfl, ?_⟩) (by assumption) ?_
  rotate_left 1
  · (intro w hSw; (try dsimp only at hSw); go_simp; try with_reducible rfl)
  try simp only [Act.put, List.setIfInBounds_toArray, List.set_cons_zero, List.set_cons_succ]
  refine wpAnyH_take (i := 16) (oi := ⟨some 58, .move (.tmp 57), 4, "outright.go:35", #[⟨15, .data⟩, ⟨12, .chain⟩], none⟩) (v := ?_) rfl (by kernel_rfl) (by kernel_rfl) (by kernel_rfl) (fun _ _ _ h => h) (Or.inl ⟨by rfl, ?_⟩) (by assumption) ?_
  rotate_left 1
  · (intro w hSw; (try dsimp only at hSw); go_simp; try with_reducible rfl)
  try simp only [Act.put, List.setIfInBounds_toArray, List.set_cons_zero, List.set_cons_succ]
  refine wpAnyH_take (i := 17) (oi := ⟨some 59, .load 26 (.tmp 1), 26, "outright.go:35", #[⟨16, .guard⟩], some (16, true)⟩) (v := ?_) rfl (by kernel_rfl) (by kernel_rfl) (by kernel_rfl) (fun _ _ _ h => h) (Or.inl ⟨by rfl, ?_⟩) (by assumption) ?_
  rotate_left 1
  · (intro w hSw; (try dsimp only at hSw); go_simp; try with_reducible rfl)
  try simp only [Act.put, List.setIfInBounds_toArray, List.set_cons_zero, List.set_cons_succ]
  refine wpAnyH_take (i := 18) (oi := ⟨some 60, .move (.tmp 2), 44, "outright.go:35", #[⟨16, .guard⟩], some (16, true)⟩) (v := ?_) rfl (by kernel_rfl) (by kernel_rfl) (by kernel_rfl) (fun _ _ _ h => h) (Or.inl ⟨by rfl, ?_⟩) (by assumption) ?_
  rotate_left 1
  · (intro w hSw; (try dsimp only at hSw); go_simp; try with_reducible rfl)
  try simp only [Act.put, List.setIfInBounds_toArray, List.set_cons_zero, List.set_cons_succ]
  refine wpAnyH_ready (rs := [19, 20]) (by kernel_rfl) (by simp) ?_
  refine AllReadyH.cons (o := ⟨some 61, .call { callee := .value (.func 35), args := #[.tmp 59, .tmp 60, .const (.int .i64 2)], argTypes := #[26, 44, 3] }, 44, "outright.go:35", #[⟨17, .data⟩, ⟨18, .data⟩, ⟨16, .chain⟩, ⟨16, .guard⟩], some (16, true)⟩) rfl (fun K hK => ?_) (AllReadyH.cons (o := ⟨some 62, .buildSlice 44 1 #[(0, .const (.int .i64 2))], 44, "outright.go:35", #[⟨16, .guard⟩], some (16, true)⟩) rfl (fun K hK => ?_) AllReadyH.nil)
  · go_simp
    go_at_call 35
    with_reducible refine (KWa.out _ HB1.out).mono ?_
    rintro e wC ⟨Q5, cq5, rfl, i5, hbA⟩
    have HB3 := Lib.hid (HB1.out.trans (hbA.mono HB1.out.size))
    clear hbA
    have HB4 : Hid (Below V3.heap.size V3 (wC.alloc (.cells #[.int .i64 2] 3))) := Lib.hid (HB3.out.alloc HB3.out.size _)
    have TE : Hid (Calls Tryz.prog 33 #[.slice Q5 1 cq5, .slice (some ⟨wC.heap.size, 0, none⟩) 1 1] (wC.alloc (.cells #[.int .i64 2] 3)) fun e w' => e = .returned (.bool true) ∧ Below (wC.alloc (.cells #[.int .i64 2] 3)).heap.size (wC.alloc (.cells #[.int .i64 2] 3)) w') := Lib.hid (eqSame9 Q5 (some ⟨wC.heap.size, 0, none⟩) cq5 1 [2] (wC.alloc (.cells #[.int .i64 2] 3)) (by simp) (i5.below (below1 wC _)) (ints_new wC [2] (by simp)))
    clear i5
    refine hK.out _ _ (HCb.out _ HB3.out) (fun hHeld => ?_)
    clear hK K
    try simp only [Act.put, List.setIfInBounds_toArray, List.set_cons_zero, List.set_cons_succ]
    refine wpAnyH_ready (rs := [20]) (by kernel_rfl) (by simp) ?_
    refine AllReadyH.cons (o := ⟨some 62, .buildSlice 44 1 #[(0, .const (.int .i64 2))], 44, "outright.go:35", #[⟨16, .guard⟩], some (16, true)⟩) rfl (fun K hK => ?_) AllReadyH.nil
    go_simp
    refine hK.out _ _ (HCb.out _ HB4.out) (fun hHeld => ?_)
    clear hK K
    try simp only [Act.put, List.setIfInBounds_toArray, List.set_cons_zero, List.set_cons_succ]
    refine wpAnyH_ready (rs := [21]) (by kernel_rfl) (by simp) ?_
    refine AllReadyH.cons (o := ⟨some 63, .call { callee := .value (.func 33), args := #[.tmp 61, .tmp 62], argTypes := #[44, 44] }, 4, "outright.go:35", #[⟨19, .data⟩, ⟨20, .data⟩, ⟨19, .chain⟩, ⟨16, .guard⟩], some (16, true)⟩) rfl (fun K hK => ?_) AllReadyH.nil
    go_simp
    go_at_call 33
    with_reducible refine (TE.out).mono ?_
    rintro e wD ⟨rfl, hbA⟩
    have HB5 := Lib.hid (HB4.out.trans (hbA.mono HB4.out.size))
    clear hbA
    refine hK.out _ _ (HCb.out _ HB5.out) (fun hHeld => ?_)
    clear hK K
    try simp only [Act.put, List.setIfInBounds_toArray, List.set_cons_zero, List.set_cons_succ]
    refine wpAnyH_take (i := 22) (oi := ⟨some 64, .pick (.tmp 58) (.tmp 63) (.const (.bool false)), 4, "outright.go:35", #[⟨16, .data⟩, ⟨21, .data⟩], none⟩) (v := ?_) rfl (by kernel_rfl) (by kernel_rfl) (by kernel_rfl) (fun _ _ _ h => h) (Or.inl ⟨by rfl, ?_⟩) (by assumption) ?_
    rotate_left 1
    · (intro w hSw; (try dsimp only at hSw); go_simp; try with_reducible rfl)
    try simp only [Act.put, List.setIfInBounds_toArray, List.set_cons_zero, List.set_cons_succ]
    refine wpAnyH_take (i := 23) (oi := ⟨some 65, .move (.tmp 64), 4, "outright.go:35", #[⟨22, .data⟩, ⟨21, .chain⟩], none⟩) (v := ?_) rfl (by kernel_rfl) (by kernel_rfl) (by kernel_rfl) (fun _ _ _ h => h) (Or.inl ⟨by rfl, ?_⟩) (by assumption) ?_
    rotate_left 1
    · (intro w hSw; (try dsimp only at hSw); go_simp; try with_reducible rfl)
    try simp only [Act.put, List.setIfInBounds_toArray, List.set_cons_zero, List.set_cons_succ]
    refine wpAnyH_take (i := 24) (oi := ⟨some 66, .load 26 (.tmp 1), 26, "outright.go:35", #[⟨23, .guard⟩], some (23, true)⟩) (v := ?_) rfl (by kernel_rfl) (by kernel_rfl) (by kernel_rfl) (fun _ _ _ h => h) (Or.inl ⟨by rfl, ?_⟩) (by assumption) ?_
    rotate_left 1
    · (intro w hSw; (try dsimp only at hSw); go_simp; try with_reducible rfl)
    try simp only [Act.put, List.setIfInBounds_toArray, List.set_cons_zero, List.set_cons_succ]
    refine wpAnyH_take (i := 25) (oi := ⟨some 67, .move (.tmp 2), 44, "outright.go:35", #[⟨23, .guard⟩], some (23, true)⟩) (v := ?_) rfl (by kernel_rfl) (by kernel_rfl) (by kernel_rfl) (fun _ _ _ h => h) (Or.inl ⟨by rfl, ?_⟩) (by assumption) ?_
    rotate_left 1
    · (intro w hSw; (try dsimp only at hSw); go_simp; try with_reducible rfl)
    try simp only [Act.put, List.setIfInBounds_toArray, List.set_cons_zero, List.set_cons_succ]
    refine wpAnyH_ready (rs := [26]) (by kernel_rfl) (by simp) ?_
    refine AllReadyH.cons (o := ⟨some 68, .call { callee := .value (.func 35), args := #[.tmp 66, .tmp 67, .const (.int .i64 0)], argTypes := #[26, 44, 3] }, 44, "outright.go:35", #[⟨24, .data⟩, ⟨25, .data⟩, ⟨23, .chain⟩, ⟨23, .guard⟩], some (23, true)⟩) rfl (fun K hK => ?_) AllReadyH.nil
    go_simp
    go_at_call 35
    with_reducible refine (KWb.out _ HB5.out).mono ?_
    rintro e wE ⟨Q6, cq6, rfl, hbA⟩
    have HB6 := Lib.hid (HB5.out.trans (hbA.mono HB5.out.size))
    clear hbA
    refine hK.out _ _ (HCb.out _ HB6.out) (fun hHeld => ?_)
    clear hK K
    try simp only [Act.put, List.setIfInBounds_toArray, List.set_cons_zero, List.set_cons_succ]
    refine wpAnyH_take (i := 27) (oi := ⟨some 69, .call { callee := .builtin .len, args := #[.tmp 68], argTypes := #[44] }, 3, "outright.go:35", #[⟨26, .data⟩, ⟨23, .guard⟩], some (23, true)⟩) (v := ?_) rfl (by kernel_rfl) (by kernel_rfl) (by kernel_rfl) (fun _ _ _ h => h) (Or.inl ⟨by rfl, ?_⟩) (by assumption) ?_
    rotate_left 1
    · (intro w hSw; (try dsimp only at hSw); go_simp; try with_reducible rfl)
    try simp only [Act.put, List.setIfInBounds_toArray, List.set_cons_zero, List.set_cons_succ]
    refine wpAnyH_take (i := 28) (oi := ⟨some 70, .binOp .eql 3 (.tmp 69) (.const (.int .i64 0)) 3, 4, "outright.go:35", #[⟨27, .data⟩, ⟨23, .guard⟩], some (23, true)⟩) (v := ?_) rfl (by kernel_rfl) (by kernel_rfl) (by kernel_rfl) (fun _ _ _ h => h) (Or.inl ⟨by rfl, ?_⟩) (by assumption) ?_
    rotate_left 1
    · (intro w hSw; (try dsimp only at hSw); go_simp; try with_reducible rfl)
    try simp only [Act.put, List.setIfInBounds_toArray, List.set_cons_zero, List.set_cons_succ]
    refine wpAnyH_take (i := 29) (oi := ⟨some 71, .pick (.tmp 65) (.tmp 70) (.const (.bool false)), 4, "outright.go:35", #[⟨23, .data⟩, ⟨28, .data⟩], none⟩) (v := ?_) rfl (by kernel_rfl) (by kernel_rfl) (by kernel_rfl) (fun _ _ _ h => h) (Or.inl ⟨by rfl, ?_⟩) (by assumption) ?_
    rotate_left 1
    · (intro w hSw; (try dsimp only at hSw); go_simp; try with_reducible rfl)
    try simp only [Act.put, List.setIfInBounds_toArray, List.set_cons_zero, List.set_cons_succ]
    refine wpAnyH_take (i := 30) (oi := ⟨some 72, .move (.tmp 71), 4, "outright.go:35", #[⟨29, .data⟩, ⟨26, .chain⟩], none⟩) (v := ?_) rfl (by kernel_rfl) (by kernel_rfl) (by kernel_rfl) (fun _ _ _ h => h) (Or.inl ⟨by rfl, ?_⟩) (by assumption) ?_
    rotate_left 1
    · (intro w hSw; (try dsimp only at hSw); go_simp; try with_reducible rfl)
    try simp only [Act.put, List.setIfInBounds_toArray, List.set_cons_zero, List.set_cons_succ]
    refine wpAnyH_take (i := 31) (oi := ⟨some 73, .load 26 (.tmp 1), 26, "outright.go:35", #[⟨30, .guard⟩], some (30, true)⟩) (v := ?_) rfl (by kernel_rfl) (by kernel_rfl) (by kernel_rfl) (fun _ _ _ h => h) (Or.inl ⟨by rfl, ?_⟩) (by assumption) ?_
    rotate_left 1
    · (intro w hSw; (try dsimp only at hSw); go_simp; try with_reducible rfl)
    try simp only [Act.put, List.setIfInBounds_toArray, List.set_cons_zero, List.set_cons_succ]
    refine wpAnyH_take (i := 32) (oi := ⟨some 74, .move (.tmp 2), 44, "outright.go:35", #[⟨30, .guard⟩], some (30, true)⟩) (v := ?_) rfl (by kernel_rfl) (by kernel_rfl) (by kernel_rfl) (fun _ _ _ h => h) (Or.inl ⟨by rfl, ?_⟩) (by assumption) ?_
    rotate_left 1
    · (intro w hSw; (try dsimp only at hSw); go_simp; try with_reducible rfl)
    try simp only [Act.put, List.setIfInBounds_toArray, List.set_cons_zero, List.set_cons_succ]
    refine wpAnyH_ready (rs := [33]) (by kernel_rfl) (by simp) ?_
    refine AllReadyH.cons (o := ⟨some 75, .call { callee := .value (.func 31), args := #[.const (.int .i64 0)], argTypes := #[3] }, 63, "outright.go:35", #[⟨30, .chain⟩, ⟨30, .guard⟩], some (30, true)⟩) rfl (fun K hK => ?_) AllReadyH.nil
    go_simp
    go_at_call 31
    with_reducible refine (KOf.out _).mono ?_
    rintro e wF ⟨rfl, hbA⟩
    have HB7 := Lib.hid (HB6.out.trans (hbA.mono HB6.out.size))
    clear hbA
    refine hK.out _ _ (HCb.out _ HB7.out) (fun hHeld => ?_)
    clear hK K
    try simp only [Act.put, List.setIfInBounds_toArray, List.set_cons_zero, List.set_cons_succ]
    refine wpAnyH_ready (rs := [34]) (by kernel_rfl) (by simp) ?_
    refine AllReadyH.cons (o := ⟨some 76, .call { callee := .value (.func 34), args := #[.tmp 73, .tmp 74, .tmp 75], argTypes := #[26, 44, 63] }, 4, "outright.go:35", #[⟨31, .data⟩, ⟨32, .data⟩, ⟨33, .data⟩, ⟨33, .chain⟩, ⟨30, .guard⟩], some (30, true)⟩) rfl (fun K hK => ?_) AllReadyH.nil
    go_simp
    go_at_call 34
    with_reducible refine (KMy.out _ HB7.out).mono ?_
    rintro e wG ⟨rfl, hbA⟩
    have HB8 := Lib.hid (HB7.out.trans (hbA.mono HB7.out.size))
    clear hbA
    refine hK.out _ _ (HCb.out _ HB8.out) (fun hHeld => ?_)
    clear hK K
    try simp only [Act.put, List.setIfInBounds_toArray, List.set_cons_zero, List.set_cons_succ]
    refine wpAnyH_take (i := 35) (oi := ⟨some 77, .pick (.tmp 72) (.tmp 76) (.const (.bool false)), 4, "outright.go:35", #[⟨30, .data⟩, ⟨34, .data⟩], none⟩) (v := ?_) rfl (by kernel_rfl) (by kernel_rfl) (by kernel_rfl) (fun _ _ _ h => h) (Or.inl ⟨by rfl, ?_⟩) (by assumption) ?_
    rotate_left 1
    · (intro w hSw; (try dsimp only at hSw); go_simp; try with_reducible rfl)
    try simp only [Act.put, List.setIfInBounds_toArray, List.set_cons_zero, List.set_cons_succ]
    refine wpAnyH_take (i := 36) (oi := ⟨some 78, .move (.tmp 77), 4, "outright.go:35", #[⟨35, .data⟩, ⟨34, .chain⟩], none⟩) (v := ?_) rfl (by kernel_rfl) (by kernel_rfl) (by kernel_rfl) (fun _ _ _ h => h) (Or.inl ⟨by rfl, ?_⟩) (by assumption) ?_
    rotate_left 1
    · (intro w hSw; (try dsimp only at hSw); go_simp; try with_reducible rfl)
    try simp only [Act.put, List.setIfInBounds_toArray, List.set_cons_zero, List.set_cons_succ]
    refine wpAnyH_take (i := 37) (oi := ⟨some 79, .move (.tmp 9), 44, "outright.go:35", #[⟨36, .guard⟩], some (36, true)⟩) (v := ?_) rfl (by kernel_rfl) (by kernel_rfl) (by kernel_rfl) (fun _ _ _ h => h) (Or.inl ⟨by rfl, ?_⟩) (by assumption) ?_
    rotate_left 1
    · (intro w hSw; (try dsimp only at hSw); go_simp; try with_reducible rfl)
    try simp only [Act.put, List.setIfInBounds_toArray, List.set_cons_zero, List.set_cons_succ]
    refine wpAnyH_take (i := 38) (oi := ⟨some 80, .call { callee := .builtin .len, args := #[.tmp 79], argTypes := #[44] }, 3, "outright.go:35", #[⟨37, .data⟩, ⟨36, .guard⟩], some (36, true)⟩) (v := ?_) rfl (by kernel_rfl) (by kernel_rfl) (by kernel_rfl) (fun _ _ _ h => h) (Or.inl ⟨by rfl, ?_⟩) (by assumption) ?_
    rotate_left 1
    · (intro w hSw; (try dsimp only at hSw); go_simp; try with_reducible rfl)
    try simp only [Act.put, List.setIfInBounds_toArray, List.set_cons_zero, List.set_cons_succ]
    refine wpAnyH_take (i := 39) (oi := ⟨some 81, .binOp .eql 3 (.tmp 80) (.const (.int .i64 0)) 3, 4, "outright.go:35", #[⟨38, .data⟩, ⟨36, .guard⟩], some (36, true)⟩) (v := ?_) rfl (by kernel_rfl) (by kernel_rfl) (by kernel_rfl) (fun _ _ _ h => h) (Or.inl ⟨by rfl, ?_⟩) (by assumption) ?_
    rotate_left 1
    · (intro w hSw; (try dsimp only at hSw); go_simp; try with_reducible rfl)
    try simp only [Act.put, List.setIfInBounds_toArray, List.set_cons_zero, List.set_cons_succ]
    refine wpAnyH_take (i := 40) (oi := ⟨some 82, .pick (.tmp 78) (.tmp 81) (.const (.bool false)), 4, "outright.go:35", #[⟨36, .data⟩, ⟨39, .data⟩], none⟩) (v := ?_) rfl (by kernel_rfl) (by kernel_rfl) (by kernel_rfl) (fun _ _ _ h => h) (Or.inl ⟨by rfl, ?_⟩) (by assumption) ?_
    rotate_left 1
    · (intro w hSw; (try dsimp only at hSw); go_simp; try with_reducible rfl)
    try simp only [Act.put, List.setIfInBounds_toArray, List.set_cons_zero, List.set_cons_succ]
    refine wpAnyH_take (i := 41) (oi := ⟨some 83, .move (.tmp 82), 4, "outright.go:35", #[⟨40, .data⟩, ⟨36, .chain⟩], none⟩) (v := ?_) rfl (by kernel_rfl) (by kernel_rfl) (by kernel_rfl) (fun _ _ _ h => h) (Or.inl ⟨by rfl, ?_⟩) (by assumption) ?_
    rotate_left 1
    · (intro w hSw; (try dsimp only at hSw); go_simp; try with_reducible rfl)
    try simp only [Act.put, List.setIfInBounds_toArray, List.set_cons_zero, List.set_cons_succ]
    refine wpAnyH_take (i := 42) (oi := ⟨some 84, .move (.tmp 10), 3, "outright.go:35", #[⟨41, .guard⟩], some (41, true)⟩) (v := ?_) rfl (by kernel_rfl) (by kernel_rfl) (by kernel_rfl) (fun _ _ _ h => h) (Or.inl ⟨by rfl, ?_⟩) (by assumption) ?_
    rotate_left 1
    · (intro w hSw; (try dsimp only at hSw); go_simp; try with_reducible rfl)
    try simp only [Act.put, List.setIfInBounds_toArray, List.set_cons_zero, List.set_cons_succ]
    refine wpAnyH_take (i := 43) (oi := ⟨some 85, .binOp .eql 3 (.tmp 84) (.const (.int .i64 3)) 3, 4, "outright.go:35", #[⟨42, .data⟩, ⟨41, .guard⟩], some (41, true)⟩) (v := ?_) rfl (by kernel_rfl) (by kernel_rfl) (by kernel_rfl) (fun _ _ _ h => h) (Or.inl ⟨by rfl, ?_⟩) (by assumption) ?_
    rotate_left 1
    · (intro w hSw; (try dsimp only at hSw); go_simp; try with_reducible rfl)
    try simp only [Act.put, List.setIfInBounds_toArray, List.set_cons_zero, List.set_cons_succ]
    refine wpAnyH_take (i := 44) (oi := ⟨some 86, .pick (.tmp 83) (.tmp 85) (.const (.bool false)), 4, "outright.go:35", #[⟨41, .data⟩, ⟨43, .data⟩], none⟩) (v := ?_) rfl (by kernel_rfl) (by kernel_rfl) (by kernel_rfl) (fun _ _ _ h => h) (Or.inl ⟨by rfl, ?_⟩) (by assumption) ?_
    rotate_left 1
    · (intro w hSw; (try dsimp only at hSw); go_simp; try with_reducible rfl)
    try simp only [Act.put, List.setIfInBounds_toArray, List.set_cons_zero, List.set_cons_succ]
    refine wpAnyH_take (i := 45) (oi := ⟨some 87, .move (.tmp 86), 4, "outright.go:35", #[⟨44, .data⟩, ⟨41, .chain⟩], none⟩) (v := ?_) rfl (by kernel_rfl) (by kernel_rfl) (by kernel_rfl) (fun _ _ _ h => h) (Or.inl ⟨by rfl, ?_⟩) (by assumption) ?_
    rotate_left 1
    · (intro w hSw; (try dsimp only at hSw); go_simp; try with_reducible rfl)
    try simp only [Act.put, List.setIfInBounds_toArray, List.set_cons_zero, List.set_cons_succ]
    refine wpAnyH_take (i := 46) (oi := ⟨some 88, .move (.tmp 11), 49, "outright.go:35", #[⟨45, .guard⟩], some (45, true)⟩) (v := ?_) rfl (by kernel_rfl) (by kernel_rfl) (by kernel_rfl) (fun _ _ _ h => h) (Or.inl ⟨by rfl, ?_⟩) (by assumption) ?_
    rotate_left 1
    · (intro w hSw; (try dsimp only at hSw); go_simp; try with_reducible rfl)
    try simp only [Act.put, List.setIfInBounds_toArray, List.set_cons_zero, List.set_cons_succ]
    refine wpAnyH_take (i := 47) (oi := ⟨some 89, .binOp .eql 49 (.tmp 88) (.const (.int .i64 100)) 49, 4, "outright.go:35", #[⟨46, .data⟩, ⟨45, .guard⟩], some (45, true)⟩) (v := ?_) rfl (by kernel_rfl) (by kernel_rfl) (by kernel_rfl) (fun _ _ _ h => h) (Or.inl ⟨by rfl, ?_⟩) (by assumption) ?_
    rotate_left 1
    · (intro w hSw; (try dsimp only at hSw); go_simp; try with_reducible rfl)
    try simp only [Act.put, List.setIfInBounds_toArray, List.set_cons_zero, List.set_cons_succ]
    refine wpAnyH_take (i := 48) (oi := ⟨some 90, .pick (.tmp 87) (.tmp 89) (.const (.bool false)), 4, "outright.go:35", #[⟨45, .data⟩, ⟨47, .data⟩], none⟩) (v := ?_) rfl (by kernel_rfl) (by kernel_rfl) (by kernel_rfl) (fun _ _ _ h => h) (Or.inl ⟨by rfl, ?_⟩) (by assumption) ?_
    rotate_left 1
    · (intro w hSw; (try dsimp only at hSw); go_simp; try with_reducible rfl)
    try simp only [Act.put, List.setIfInBounds_toArray, List.set_cons_zero, List.set_cons_succ]
    refine wpAnyH_take (i := 49) (oi := ⟨some 0, .assign (.tmp 90), 4, "outright.go:35", #[⟨48, .data⟩, ⟨45, .chain⟩, ⟨0, .phase⟩, ⟨1, .phase⟩, ⟨2, .phase⟩, ⟨3, .phase⟩, ⟨4, .phase⟩, ⟨5, .phase⟩, ⟨6, .phase⟩, ⟨7, .phase⟩, ⟨8, .phase⟩, ⟨9, .phase⟩, ⟨10, .phase⟩, ⟨11, .phase⟩, ⟨12, .phase⟩, ⟨13, .phase⟩, ⟨14, .phase⟩, ⟨15, .phase⟩, ⟨16, .phase⟩, ⟨17, .phase⟩, ⟨18, .phase⟩, ⟨19, .phase⟩, ⟨20, .phase⟩, ⟨21, .phase⟩, ⟨22, .phase⟩, ⟨23, .phase⟩, ⟨24, .phase⟩, ⟨25, .phase⟩, ⟨26, .phase⟩, ⟨27, .phase⟩, ⟨28, .phase⟩, ⟨29, .phase⟩, ⟨30, .phase⟩, ⟨31, .phase⟩, ⟨32, .phase⟩, ⟨33, .phase⟩, ⟨34, .phase⟩, ⟨35, .phase⟩, ⟨36, .phase⟩, ⟨37, .phase⟩, ⟨38, .phase⟩, ⟨39, .phase⟩, ⟨40, .phase⟩, ⟨41, .phase⟩, ⟨42, .phase⟩, ⟨43, .phase⟩, ⟨44, .phase⟩, ⟨45, .phase⟩, ⟨46, .phase⟩, ⟨47, .phase⟩, ⟨48, .phase⟩], none⟩) (v := ?_) rfl (by kernel_rfl) (by kernel_rfl) (by kernel_rfl) (fun _ _ _ h => h) (Or.inl ⟨by rfl, ?_⟩) (by assumption) ?_
    rotate_left 1
    · (intro w hSw; (try dsimp only at hSw); go_simp; try with_reducible rfl)
    try simp only [Act.put, List.setIfInBounds_toArray, List.set_cons_zero]
    refine wpAnyH_done (by kernel_rfl) ?_ _
    (try go_wp2_with fail)
    go_ret
    exact ⟨rfl, HD0.out.trans (HB8.out.mono HD0.out.size)⟩
  · go_simp
    have HB2 : Hid (Below V3.heap.size V3 (wA.alloc (.cells #[.int .i64 2] 3))) := Lib.hid (HB1.out.alloc HB1.out.size _)
    refine hK.out _ _ (HCb.out _ HB2.out) (fun hHeld => ?_)
    clear hK K
    try simp only [Act.put, List.setIfInBounds_toArray, List.set_cons_zero, List.set_cons_succ]
    refine wpAnyH_ready (rs := [19]) (by kernel_rfl) (by simp) ?_
    refine AllReadyH.cons (o := ⟨some 61, .call { callee := .value (.func 35), args := #[.tmp 59, .tmp 60, .const (.int .i64 2)], argTypes := #[26, 44, 3] }, 44, "outright.go:35", #[⟨17, .data⟩, ⟨18, .data⟩, ⟨16, .chain⟩, ⟨16, .guard⟩], some (16, true)⟩) rfl (fun K hK => ?_) AllReadyH.nil
    go_simp
    go_at_call 35
    with_reducible refine (KWa.out _ HB2.out).mono ?_
    rintro e wC ⟨Q5, cq5, rfl, i5, hbA⟩
    have TE : Hid (Calls Tryz.prog 33 #[.slice Q5 1 cq5, .slice (some ⟨wA.heap.size, 0, none⟩) 1 1] wC fun e w' => e = .returned (.bool true) ∧ Below wC.heap.size wC w') := Lib.hid (eqSame9 Q5 (some ⟨wA.heap.size, 0, none⟩) cq5 1 [2] wC (by simp) i5 ((ints_new wA [2] (by simp)).below hbA))
    clear i5
    have HB4 := Lib.hid (HB2.out.trans (hbA.mono HB2.out.size))
    clear hbA
    refine hK.out _ _ (HCb.out _ HB4.out) (fun hHeld => ?_)
    clear hK K
    try simp only [Act.put, List.setIfInBounds_toArray, List.set_cons_zero, List.set_cons_succ]
    refine wpAnyH_ready (rs := [21]) (by kernel_rfl) (by simp) ?_
    refine AllReadyH.cons (o := ⟨some 63, .call { callee := .value (.func 33), args := #[.tmp 61, .tmp 62], argTypes := #[44, 44] }, 4, "outright.go:35", #[⟨19, .data⟩, ⟨20, .data⟩, ⟨19, .chain⟩, ⟨16, .guard⟩], some (16, true)⟩) rfl (fun K hK => ?_) AllReadyH.nil
    go_simp
    go_at_call 33
    with_reducible refine (TE.out).mono ?_
    rintro e wD ⟨rfl, hbA⟩
    have HB5 := Lib.hid (HB4.out.trans (hbA.mono HB4.out.size))
    clear hbA
    refine hK.out _ _ (HCb.out _ HB5.out) (fun hHeld => ?_)
    clear hK K
    try simp only [Act.put, List.setIfInBounds_toArray, List.set_cons_zero, List.set_cons_succ]
    refine wpAnyH_take (i := 22) (oi := ⟨some 64, .pick (.tmp 58) (.tmp 63) (.const (.bool false)), 4, "outright.go:35", #[⟨16, .data⟩, ⟨21, .data⟩], none⟩) (v := ?_) rfl (by kernel_rfl) (by kernel_rfl) (by kernel_rfl) (fun _ _ _ h => h) (Or.inl ⟨by rfl, ?_⟩) (by assumption) ?_
    rotate_left 1
    · (intro w hSw; (try dsimp only at hSw); go_simp; try with_reducible rfl)
    try simp only [Act.put, List.setIfInBounds_toArray, List.set_cons_zero, List.set_cons_succ]
    refine wpAnyH_take (i := 23) (oi := ⟨some 65, .move (.tmp 64), 4, "outright.go:35", #[⟨22, .data⟩, ⟨21, .chain⟩], none⟩) (v := ?_) rfl (by kernel_rfl) (by kernel_rfl) (by kernel_rfl) (fun _ _ _ h => h) (Or.inl ⟨by rfl, ?_⟩) (by assumption) ?_
    rotate_left 1
    · (intro w hSw; (try dsimp only at hSw); go_simp; try with_reducible rfl)
    try simp only [Act.put, List.setIfInBounds_toArray, List.set_cons_zero, List.set_cons_succ]
    refine wpAnyH_take (i := 24) (oi := ⟨some 66, .load 26 (.tmp 1), 26, "outright.go:35", #[⟨23, .guard⟩], some (23, true)⟩) (v := ?_) rfl (by kernel_rfl) (by kernel_rfl) (by kernel_rfl) (fun _ _ _ h => h) (Or.inl ⟨by rfl, ?_⟩) (by assumption) ?_
    rotate_left 1
    · (intro w hSw; (try dsimp only at hSw); go_simp; try with_reducible rfl)
    try simp only [Act.put, List.setIfInBounds_toArray, List.set_cons_zero, List.set_cons_succ]
    refine wpAnyH_take (i := 25) (oi := ⟨some 67, .move (.tmp 2), 44, "outright.go:35", #[⟨23, .guard⟩], some (23, true)⟩) (v := ?_) rfl (by kernel_rfl) (by kernel_rfl) (by kernel_rfl) (fun _ _ _ h => h) (Or.inl ⟨by rfl, ?_⟩) (by assumption) ?_
    rotate_left 1
    · (intro w hSw; (try dsimp only at hSw); go_simp; try with_reducible rfl)
    try simp only [Act.put, List.setIfInBounds_toArray, List.set_cons_zero, List.set_cons_succ]
    refine wpAnyH_ready (rs := [26]) (by kernel_rfl) (by simp) ?_
    refine AllReadyH.cons (o := ⟨some 68, .call { callee := .value (.func 35), args := #[.tmp 66, .tmp 67, .const (.int .i64 0)], argTypes := #[26, 44, 3] }, 44, "outright.go:35", #[⟨24, .data⟩, ⟨25, .data⟩, ⟨23, .chain⟩, ⟨23, .guard⟩], some (23, true)⟩) rfl (fun K hK => ?_) AllReadyH.nil
    go_simp
    go_at_call 35
    with_reducible refine (KWb.out _ HB5.out).mono ?_
    rintro e wE ⟨Q6, cq6, rfl, hbA⟩
    have HB6 := Lib.hid (HB5.out.trans (hbA.mono HB5.out.size))
    clear hbA
    refine hK.out _ _ (HCb.out _ HB6.out) (fun hHeld => ?_)
    clear hK K
    try simp only [Act.put, List.setIfInBounds_toArray, List.set_cons_zero, List.set_cons_succ]
    refine wpAnyH_take (i := 27) (oi := ⟨some 69, .call { callee := .builtin .len, args := #[.tmp 68], argTypes := #[44] }, 3, "outright.go:35", #[⟨26, .data⟩, ⟨23, .guard⟩], some (23, true)⟩) (v := ?_) rfl (by kernel_rfl) (by kernel_rfl) (by kernel_rfl) (fun _ _ _ h => h) (Or.inl ⟨by rfl, ?_⟩) (by assumption) ?_
    rotate_left 1
    · (intro w hSw; (try dsimp only at hSw); go_simp; try with_reducible rfl)
    try simp only [Act.put, List.setIfInBounds_toArray, List.set_cons_zero, List.set_cons_succ]
    refine wpAnyH_take (i := 28) (oi := ⟨some 70, .binOp .eql 3 (.tmp 69) (.const (.int .i64 0)) 3, 4, "outright.go:35", #[⟨27, .data⟩, ⟨23, .guard⟩], some (23, true)⟩) (v := ?_) rfl (by kernel_rfl) (by kernel_rfl) (by kernel_rfl) (fun _ _ _ h => h) (Or.inl ⟨by rfl, ?_⟩) (by assumption) ?_
    rotate_left 1
    · (intro w hSw; (try dsimp only at hSw); go_simp; try with_reducible rfl)
    try simp only [Act.put, List.setIfInBounds_toArray, List.set_cons_zero, List.set_cons_succ]
    refine wpAnyH_take (i := 29) (oi := ⟨some 71, .pick (.tmp 65) (.tmp 70) (.const (.bool false)), 4, "outright.go:35", #[⟨23, .data⟩, ⟨28, .data⟩], none⟩) (v := ?_) rfl (by kernel_rfl) (by kernel_rfl) (by kernel_rfl) (fun _ _ _ h => h) (Or.inl ⟨by rfl, ?_⟩) (by assumption) ?_
    rotate_left 1
    · (intro w hSw; (try dsimp only at hSw); go_simp; try with_reducible rfl)
    try simp only [Act.put, List.setIfInBounds_toArray, List.set_cons_zero, List.set_cons_succ]
    refine wpAnyH_take (i := 30) (oi := ⟨some 72, .move (.tmp 71), 4, "outright.go:35", #[⟨29, .data⟩, ⟨26, .chain⟩], none⟩) (v := ?_) rfl (by kernel_rfl) (by kernel_rfl) (by kernel_rfl) (fun _ _ _ h => h) (Or.inl ⟨by rfl, ?_⟩) (by assumption) ?_
    rotate_left 1
    · (intro w hSw; (try dsimp only at hSw); go_simp; try with_reducible rfl)
    try simp only [Act.put, List.setIfInBounds_toArray, List.set_cons_zero, List.set_cons_succ]
    refine wpAnyH_take (i := 31) (oi := ⟨some 73, .load 26 (.tmp 1), 26, "outright.go:35", #[⟨30, .guard⟩], some (30, true)⟩) (v := ?_) rfl (by kernel_rfl) (by kernel_rfl) (by kernel_rfl) (fun _ _ _ h => h) (Or.inl ⟨by rfl, ?_⟩) (by assumption) ?_
    rotate_left 1
    · (intro w hSw; (try dsimp only at hSw); go_simp; try with_reducible rfl)
    try simp only [Act.put, List.setIfInBounds_toArray, List.set_cons_zero, List.set_cons_succ]
    refine wpAnyH_take (i := 32) (oi := ⟨some 74, .move (.tmp 2), 44, "outright.go:35", #[⟨30, .guard⟩], some (30, true)⟩) (v := ?_) rfl (by kernel_rfl) (by kernel_rfl) (by kernel_rfl) (fun _ _ _ h => h) (Or.inl ⟨by rfl, ?_⟩) (by assumption) ?_
    rotate_left 1
    · (intro w hSw; (try dsimp only at hSw); go_simp; try with_reducible rfl)
    try simp only [Act.put, List.setIfInBounds_toArray, List.set_cons_zero, List.set_cons_succ]
    refine wpAnyH_ready (rs := [33]) (by kernel_rfl) (by simp) ?_
    refine AllReadyH.cons (o := ⟨some 75, .call { callee := .value (.func 31), args := #[.const (.int .i64 0)], argTypes := #[3] }, 63, "outright.go:35", #[⟨30, .chain⟩, ⟨30, .guard⟩], some (30, true)⟩) rfl (fun K hK => ?_) AllReadyH.nil
    go_simp
    go_at_call 31
    with_reducible refine (KOf.out _).mono ?_
    rintro e wF ⟨rfl, hbA⟩
    have HB7 := Lib.hid (HB6.out.trans (hbA.mono HB6.out.size))
    clear hbA
    refine hK.out _ _ (HCb.out _ HB7.out) (fun hHeld => ?_)
    clear hK K
    try simp only [Act.put, List.setIfInBounds_toArray, List.set_cons_zero, List.set_cons_succ]
    refine wpAnyH_ready (rs := [34]) (by kernel_rfl) (by simp) ?_
    refine AllReadyH.cons (o := ⟨some 76, .call { callee := .value (.func 34), args := #[.tmp 73, .tmp 74, .tmp 75], argTypes := #[26, 44, 63] }, 4, "outright.go:35", #[⟨31, .data⟩, ⟨32, .data⟩, ⟨33, .data⟩, ⟨33, .chain⟩, ⟨30, .guard⟩], some (30, true)⟩) rfl (fun K hK => ?_) AllReadyH.nil
    go_simp
    go_at_call 34
    with_reducible refine (KMy.out _ HB7.out).mono ?_
    rintro e wG ⟨rfl, hbA⟩
    have HB8 := Lib.hid (HB7.out.trans (hbA.mono HB7.out.size))
    clear hbA
    refine hK.out _ _ (HCb.out _ HB8.out) (fun hHeld => ?_)
    clear hK K
    try simp only [Act.put, List.setIfInBounds_toArray, List.set_cons_zero, List.set_cons_succ]
    refine wpAnyH_take (i := 35) (oi := ⟨some 77, .pick (.tmp 72) (.tmp 76) (.const (.bool false)), 4, "outright.go:35", #[⟨30, .data⟩, ⟨34, .data⟩], none⟩) (v := ?_) rfl (by kernel_rfl) (by kernel_rfl) (by kernel_rfl) (fun _ _ _ h => h) (Or.inl ⟨by rfl, ?_⟩) (by assumption) ?_
    rotate_left 1
    · (intro w hSw; (try dsimp only at hSw); go_simp; try with_reducible rfl)
    try simp only [Act.put, List.setIfInBounds_toArray, List.set_cons_zero, List.set_cons_succ]
    refine wpAnyH_take (i := 36) (oi := ⟨some 78, .move (.tmp 77), 4, "outright.go:35", #[⟨35, .data⟩, ⟨34, .chain⟩], none⟩) (v := ?_) rfl (by kernel_rfl) (by kernel_rfl) (by kernel_rfl) (fun _ _ _ h => h) (Or.inl ⟨by rfl, ?_⟩) (by assumption) ?_
    rotate_left 1
    · (intro w hSw; (try dsimp only at hSw); go_simp; try with_reducible rfl)
    try simp only [Act.put, List.setIfInBounds_toArray, List.set_cons_zero, List.set_cons_succ]
    refine wpAnyH_take (i := 37) (oi := ⟨some 79, .move (.tmp 9), 44, "outright.go:35", #[⟨36, .guard⟩], some (36, true)⟩) (v := ?_) rfl (by kernel_rfl) (by kernel_rfl) (by kernel_rfl) (fun _ _ _ h => h) (Or.inl ⟨by rfl, ?_⟩) (by assumption) ?_
    rotate_left 1
    · (intro w hSw; (try dsimp only at hSw); go_simp; try with_reducible rfl)
    try simp only [Act.put, List.setIfInBounds_toArray, List.set_cons_zero, List.set_cons_succ]
    refine wpAnyH_take (i := 38) (oi := ⟨some 80, .call { callee := .builtin .len, args := #[.tmp 79], argTypes := #[44] }, 3, "outright.go:35", #[⟨37, .data⟩, ⟨36, .guard⟩], some (36, true)⟩) (v := ?_) rfl (by kernel_rfl) (by kernel_rfl) (by kernel_rfl) (fun _ _ _ h => h) (Or.inl ⟨by rfl, ?_⟩) (by assumption) ?_
    rotate_left 1
    · (intro w hSw; (try dsimp only at hSw); go_simp; try with_reducible rfl)
    try simp only [Act.put, List.setIfInBounds_toArray, List.set_cons_zero, List.set_cons_succ]
    refine wpAnyH_take (i := 39) (oi := ⟨some 81, .binOp .eql 3 (.tmp 80) (.const (.int .i64 0)) 3, 4, "outright.go:35", #[⟨38, .data⟩, ⟨36, .guard⟩], some (36, true)⟩) (v := ?_) rfl (by kernel_rfl) (by kernel_rfl) (by kernel_rfl) (fun _ _ _ h => h) (Or.inl ⟨by rfl, ?_⟩) (by assumption) ?_
    rotate_left 1
    · (intro w hSw; (try dsimp only at hSw); go_simp; try with_reducible rfl)
    try simp only [Act.put, List.setIfInBounds_toArray, List.set_cons_zero, List.set_cons_succ]
    refine wpAnyH_take (i := 40) (oi := ⟨some 82, .pick (.tmp 78) (.tmp 81) (.const (.bool false)), 4, "outright.go:35", #[⟨36, .data⟩, ⟨39, .data⟩], none⟩) (v := ?_) rfl (by kernel_rfl) (by kernel_rfl) (by kernel_rfl) (fun _ _ _ h => h) (Or.inl ⟨by rfl, ?_⟩) (by assumption) ?_
    rotate_left 1
    · (intro w hSw; (try dsimp only at hSw); go_simp; try with_reducible rfl)
    try simp only [Act.put, List.setIfInBounds_toArray, List.set_cons_zero, List.set_cons_succ]
    refine wpAnyH_take (i := 41) (oi := ⟨some 83, .move (.tmp 82), 4, "outright.go:35", #[⟨40, .data⟩, ⟨36, .chain⟩], none⟩) (v := ?_) rfl (by kernel_rfl) (by kernel_rfl) (by kernel_rfl) (fun _ _ _ h => h) (Or.inl ⟨by rfl, ?_⟩) (by assumption) ?_
    rotate_left 1
    · (intro w hSw; (try dsimp only at hSw); go_simp; try with_reducible rfl)
    try simp only [Act.put, List.setIfInBounds_toArray, List.set_cons_zero, List.set_cons_succ]
    refine wpAnyH_take (i := 42) (oi := ⟨some 84, .move (.tmp 10), 3, "outright.go:35", #[⟨41, .guard⟩], some (41, true)⟩) (v := ?_) rfl (by kernel_rfl) (by kernel_rfl) (by kernel_rfl) (fun _ _ _ h => h) (Or.inl ⟨by rfl, ?_⟩) (by assumption) ?_
    rotate_left 1
    · (intro w hSw; (try dsimp only at hSw); go_simp; try with_reducible rfl)
    try simp only [Act.put, List.setIfInBounds_toArray, List.set_cons_zero, List.set_cons_succ]
    refine wpAnyH_take (i := 43) (oi := ⟨some 85, .binOp .eql 3 (.tmp 84) (.const (.int .i64 3)) 3, 4, "outright.go:35", #[⟨42, .data⟩, ⟨41, .guard⟩], some (41, true)⟩) (v := ?_) rfl (by kernel_rfl) (by kernel_rfl) (by kernel_rfl) (fun _ _ _ h => h) (Or.inl ⟨by rfl, ?_⟩) (by assumption) ?_
    rotate_left 1
    · (intro w hSw; (try dsimp only at hSw); go_simp; try with_reducible rfl)
    try simp only [Act.put, List.setIfInBounds_toArray, List.set_cons_zero, List.set_cons_succ]
    refine wpAnyH_take (i := 44) (oi := ⟨some 86, .pick (.tmp 83) (.tmp 85) (.const (.bool false)), 4, "outright.go:35", #[⟨41, .data⟩, ⟨43, .data⟩], none⟩) (v := ?_) rfl (by kernel_rfl) (by kernel_rfl) (by kernel_rfl) (fun _ _ _ h => h) (Or.inl ⟨by rfl, ?_⟩) (by assumption) ?_
    rotate_left 1
    · (intro w hSw; (try dsimp only at hSw); go_simp; try with_reducible rfl)
    try simp only [Act.put, List.setIfInBounds_toArray, List.set_cons_zero, List.set_cons_succ]
    refine wpAnyH_take (i := 45) (oi := ⟨some 87, .move (.tmp 86), 4, "outright.go:35", #[⟨44, .data⟩, ⟨41, .chain⟩], none⟩) (v := ?_) rfl (by kernel_rfl) (by kernel_rfl) (by kernel_rfl) (fun _ _ _ h => h) (Or.inl ⟨by rfl, ?_⟩) (by assumption) ?_
    rotate_left 1
    · (intro w hSw; (try dsimp only at hSw); go_simp; try with_reducible rfl)
    try simp only [Act.put, List.setIfInBounds_toArray, List.set_cons_zero, List.set_cons_succ]
    refine wpAnyH_take (i := 46) (oi := ⟨some 88, .move (.tmp 11), 49, "outright.go:35", #[⟨45, .guard⟩], some (45, true)⟩) (v := ?_) rfl (by kernel_rfl) (by kernel_rfl) (by kernel_rfl) (fun _ _ _ h => h) (Or.inl ⟨by rfl, ?_⟩) (by assumption) ?_
    rotate_left 1
    · (intro w hSw; (try dsimp only at hSw); go_simp; try with_reducible rfl)
    try simp only [Act.put, List.setIfInBounds_toArray, List.set_cons_zero, List.set_cons_succ]
    refine wpAnyH_take (i := 47) (oi := ⟨some 89, .binOp .eql 49 (.tmp 88) (.const (.int .i64 100)) 49, 4, "outright.go:35", #[⟨46, .data⟩, ⟨45, .guard⟩], some (45, true)⟩) (v := ?_) rfl (by kernel_rfl) (by kernel_rfl) (by kernel_rfl) (fun _ _ _ h => h) (Or.inl ⟨by rfl, ?_⟩) (by assumption) ?_
    rotate_left 1
    · (intro w hSw; (try dsimp only at hSw); go_simp; try with_reducible rfl)
    try simp only [Act.put, List.setIfInBounds_toArray, List.set_cons_zero, List.set_cons_succ]
    refine wpAnyH_take (i := 48) (oi := ⟨some 90, .pick (.tmp 87) (.tmp 89) (.const (.bool false)), 4, "outright.go:35", #[⟨45, .data⟩, ⟨47, .data⟩], none⟩) (v := ?_) rfl (by kernel_rfl) (by kernel_rfl) (by kernel_rfl) (fun _ _ _ h => h) (Or.inl ⟨by rfl, ?_⟩) (by assumption) ?_
    rotate_left 1
    · (intro w hSw; (try dsimp only at hSw); go_simp; try with_reducible rfl)
    try simp only [Act.put, List.setIfInBounds_toArray, List.set_cons_zero, List.set_cons_succ]
    refine wpAnyH_take (i := 49) (oi := ⟨some 0, .assign (.tmp 90), 4, "outright.go:35", #[⟨48, .data⟩, ⟨45, .chain⟩, ⟨0, .phase⟩, ⟨1, .phase⟩, ⟨2, .phase⟩, ⟨3, .phase⟩, ⟨4, .phase⟩, ⟨5, .phase⟩, ⟨6, .phase⟩, ⟨7, .phase⟩, ⟨8, .phase⟩, ⟨9, .phase⟩, ⟨10, .phase⟩, ⟨11, .phase⟩, ⟨12, .phase⟩, ⟨13, .phase⟩, ⟨14, .phase⟩, ⟨15, .phase⟩, ⟨16, .phase⟩, ⟨17, .phase⟩, ⟨18, .phase⟩, ⟨19, .phase⟩, ⟨20, .phase⟩, ⟨21, .phase⟩, ⟨22, .phase⟩, ⟨23, .phase⟩, ⟨24, .phase⟩, ⟨25, .phase⟩, ⟨26, .phase⟩, ⟨27, .phase⟩, ⟨28, .phase⟩, ⟨29, .phase⟩, ⟨30, .phase⟩, ⟨31, .phase⟩, ⟨32, .phase⟩, ⟨33, .phase⟩, ⟨34, .phase⟩, ⟨35, .phase⟩, ⟨36, .phase⟩, ⟨37, .phase⟩, ⟨38, .phase⟩, ⟨39, .phase⟩, ⟨40, .phase⟩, ⟨41, .phase⟩, ⟨42, .phase⟩, ⟨43, .phase⟩, ⟨44, .phase⟩, ⟨45, .phase⟩, ⟨46, .phase⟩, ⟨47, .phase⟩, ⟨48, .phase⟩], none⟩) (v := ?_) rfl (by kernel_rfl) (by kernel_rfl) (by kernel_rfl) (fun _ _ _ h => h) (Or.inl ⟨by rfl, ?_⟩) (by assumption) ?_
    rotate_left 1
    · (intro w hSw; (try dsimp only at hSw); go_simp; try with_reducible rfl)
    try simp only [Act.put, List.setIfInBounds_toArray, List.set_cons_zero]
    refine wpAnyH_done (by kernel_rfl) ?_ _
    (try go_wp2_with fail)
    go_ret
    exact ⟨rfl, HD0.out.trans (HB8.out.mono HD0.out.size)⟩
end Go.Proofs.YtiiheajieegdkaaGreat
