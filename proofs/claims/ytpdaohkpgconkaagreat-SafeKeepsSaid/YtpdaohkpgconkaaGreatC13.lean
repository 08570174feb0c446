/- What the plain functions tell of the chapter's cluster, as layer 9 asks: its clauses, what is worse, whether it is safe. No conditions. The chapter's cluster, as layer 9's statements make it. No conditions. The chapter's examples of layer 9 hold. No conditions. A cluster of which the first 12 nodes, 30 pods, 12 owners are looked at. Condition: it lies in memory. Safe, Worse and Sum answer as the document says: the law's walk. Condition: the arguments lie in memory. Numbers as arguments, opened; how much they take. No conditions but the form's own. (KOpenN has its own copies: never import both.) A placement that may be, made out of numbers: the contract of fitted. Condition: the cluster and the numbers lie in memory. Numbers fitted to a cluster, as numbers in memory. Condition: the arguments lie in memory. If a placement is safe, and nothing is worse in another one, that one is safe; one is safe just if its sum is nothing, and none of its clauses is broken: the law's walk. Condition: the arguments lie in memory. Both ends of layer 9: the law's walk. No conditions. -/
import Derived.Test.YtpdaohkpgconkaaGreatC12
import Derived.SizedLaws

namespace Go.Proofs.YtpdaohkpgconkaaGreat
open Go.RowKit Go.Maps Go.Sort

theorem e9012_place (N : Nat) : placeE (chN8 N [98] false) chP (chO8 3) [0, 1, 2] = 0 := by kernel_rfl
theorem e9012_spread (N : Nat) : spreadF (chN8 N [98] false) chP (chO8 3) [0, 1, 2] 0 = [1, 1] := by
  have h1 : ownerB (chN8 N [98] false) chP (chO8 3) [0, 1, 2] 0 = true := by kernel_rfl
  have h2 : strKeys (spreadD (chN8 N [98] false) bZone [0, 1, 2] (offL [0, 1, 2] (membersF chP [111]))) = [[120], [121]] := by kernel_rfl
  unfold spreadF
  rw [if_pos h1]
  show rowD (spreadD (chN8 N [98] false) bZone [0, 1, 2] (offL [0, 1, 2] (membersF chP [111]))) = [1, 1]
  unfold rowD sortK
  rw [h2, sort2]
  kernel_rfl
theorem e9012_all (N : Nat) : all8 (chN8 N [98] false) chP (chO8 3) [0, 1, 2] = [(1, 0, 0, 0), (1, 0, 1, 0), (1, 0, 2, 0), (1, 0, 3, 0), (1, 0, 4, 0), (1, 1, 0, 0), (1, 1, 1, 0), (1, 1, 2, 0), (1, 1, 3, 0), (1, 1, 4, 0), (1, 2, 0, 0), (1, 2, 1, 0), (1, 2, 2, 0), (1, 2, 3, 0), (1, 2, 4, 0), (2, 0, 0, 0), (2, 1, 0, 0), (2, 2, 0, 0), (3, 0, 0, 0), (3, 1, 0, 0), (3, 2, 0, 0), (7, 0, 0, 0), (8, 0, 0, 0)] := by
  have h1 : capsU (chN8 N [98] false) chP [0, 1, 2] 3 = [(1, 0, 0, 0), (1, 0, 1, 0), (1, 0, 2, 0), (1, 0, 3, 0), (1, 0, 4, 0), (1, 1, 0, 0), (1, 1, 1, 0), (1, 1, 2, 0), (1, 1, 3, 0), (1, 1, 4, 0), (1, 2, 0, 0), (1, 2, 1, 0), (1, 2, 2, 0), (1, 2, 3, 0), (1, 2, 4, 0)] := by kernel_rfl
  have h2 : kindsU (chN8 N [98] false) chP (chO8 3) [0, 1, 2] 5 = [(2, 0, 0, 0), (2, 1, 0, 0), (2, 2, 0, 0), (3, 0, 0, 0), (3, 1, 0, 0), (3, 2, 0, 0)] := by kernel_rfl
  have h3 : spreadsU (chN8 N [98] false) chP (chO8 3) [0, 1, 2] 1 = [(7, 0, 0, skewO (spreadF (chN8 N [98] false) chP (chO8 3) [0, 1, 2] 0) 1)] := rfl
  have h4 : minsU (chN8 N [98] false) chP (chO8 3) [0, 1, 2] 1 = [(8, 0, 0, 0)] := by kernel_rfl
  unfold all8
  rw [if_pos (e9012_place N)]
  unfold allU
  rw [show (chN8 N [98] false).length = 3 from rfl, show (chO8 3).length = 1 from rfl, h1, h2, h3, h4, e9012_spread, show skewO [1, 1] 1 = 0 by kernel_rfl]
  rfl
theorem e9012_safe (N : Nat) : safeB (chN8 N [98] false) chP (chO8 3) [0, 1, 2] = true := by
  unfold safeB
  rw [e9012_place, e9012_all]
  kernel_rfl
theorem e9002_place (N : Nat) : placeE (chN8 N [98] false) chP (chO8 3) [0, 0, 2] = 0 := by kernel_rfl
theorem e9002_spread (N : Nat) : spreadF (chN8 N [98] false) chP (chO8 3) [0, 0, 2] 0 = [2, 0] := by
  have h1 : ownerB (chN8 N [98] false) chP (chO8 3) [0, 0, 2] 0 = true := by kernel_rfl
  have h2 : strKeys (spreadD (chN8 N [98] false) bZone [0, 0, 2] (offL [0, 0, 2] (membersF chP [111]))) = [[120], [121]] := by kernel_rfl
  unfold spreadF
  rw [if_pos h1]
  show rowD (spreadD (chN8 N [98] false) bZone [0, 0, 2] (offL [0, 0, 2] (membersF chP [111]))) = [2, 0]
  unfold rowD sortK
  rw [h2, sort2]
  kernel_rfl
theorem e9002_all (N : Nat) : all8 (chN8 N [98] false) chP (chO8 3) [0, 0, 2] = [(1, 0, 0, 5), (1, 0, 1, 0), (1, 0, 2, 0), (1, 0, 3, 0), (1, 0, 4, 0), (1, 1, 0, 0), (1, 1, 1, 0), (1, 1, 2, 0), (1, 1, 3, 0), (1, 1, 4, 0), (1, 2, 0, 0), (1, 2, 1, 0), (1, 2, 2, 0), (1, 2, 3, 0), (1, 2, 4, 0), (2, 0, 0, 0), (2, 1, 0, 0), (2, 2, 0, 0), (3, 0, 0, 0), (3, 1, 0, 0), (3, 2, 0, 0), (7, 0, 0, 1), (8, 0, 0, 0)] := by
  have h1 : capsU (chN8 N [98] false) chP [0, 0, 2] 3 = [(1, 0, 0, 5), (1, 0, 1, 0), (1, 0, 2, 0), (1, 0, 3, 0), (1, 0, 4, 0), (1, 1, 0, 0), (1, 1, 1, 0), (1, 1, 2, 0), (1, 1, 3, 0), (1, 1, 4, 0), (1, 2, 0, 0), (1, 2, 1, 0), (1, 2, 2, 0), (1, 2, 3, 0), (1, 2, 4, 0)] := by kernel_rfl
  have h2 : kindsU (chN8 N [98] false) chP (chO8 3) [0, 0, 2] 5 = [(2, 0, 0, 0), (2, 1, 0, 0), (2, 2, 0, 0), (3, 0, 0, 0), (3, 1, 0, 0), (3, 2, 0, 0)] := by kernel_rfl
  have h3 : spreadsU (chN8 N [98] false) chP (chO8 3) [0, 0, 2] 1 = [(7, 0, 0, skewO (spreadF (chN8 N [98] false) chP (chO8 3) [0, 0, 2] 0) 1)] := rfl
  have h4 : minsU (chN8 N [98] false) chP (chO8 3) [0, 0, 2] 1 = [(8, 0, 0, 0)] := by kernel_rfl
  unfold all8
  rw [if_pos (e9002_place N)]
  unfold allU
  rw [show (chN8 N [98] false).length = 3 from rfl, show (chO8 3).length = 1 from rfl, h1, h2, h3, h4, e9002_spread, show skewO [2, 0] 1 = 1 by kernel_rfl]
  rfl
theorem e9002_safe (N : Nat) : safeB (chN8 N [98] false) chP (chO8 3) [0, 0, 2] = false := by
  unfold safeB
  rw [e9002_place, e9002_all]
  kernel_rfl
theorem e900w_place (N : Nat) : placeE (chN8 N [98] false) chP (chO8 3) [0, 0, -1] = 0 := by kernel_rfl
theorem e900w_spread (N : Nat) : spreadF (chN8 N [98] false) chP (chO8 3) [0, 0, -1] 0 = [2, 0] := by
  have h1 : ownerB (chN8 N [98] false) chP (chO8 3) [0, 0, -1] 0 = true := by kernel_rfl
  have h2 : strKeys (spreadD (chN8 N [98] false) bZone [0, 0, -1] (offL [0, 0, -1] (membersF chP [111]))) = [[120], [121]] := by kernel_rfl
  unfold spreadF
  rw [if_pos h1]
  show rowD (spreadD (chN8 N [98] false) bZone [0, 0, -1] (offL [0, 0, -1] (membersF chP [111]))) = [2, 0]
  unfold rowD sortK
  rw [h2, sort2]
  kernel_rfl
theorem e900w_all (N : Nat) : all8 (chN8 N [98] false) chP (chO8 3) [0, 0, -1] = [(1, 0, 0, 5), (1, 0, 1, 0), (1, 0, 2, 0), (1, 0, 3, 0), (1, 0, 4, 0), (1, 1, 0, 0), (1, 1, 1, 0), (1, 1, 2, 0), (1, 1, 3, 0), (1, 1, 4, 0), (1, 2, 0, 0), (1, 2, 1, 0), (1, 2, 2, 0), (1, 2, 3, 0), (1, 2, 4, 0), (2, 0, 0, 0), (2, 1, 0, 0), (3, 0, 0, 0), (3, 1, 0, 0), (7, 0, 0, 1), (8, 0, 0, 1)] := by
  have h1 : capsU (chN8 N [98] false) chP [0, 0, -1] 3 = [(1, 0, 0, 5), (1, 0, 1, 0), (1, 0, 2, 0), (1, 0, 3, 0), (1, 0, 4, 0), (1, 1, 0, 0), (1, 1, 1, 0), (1, 1, 2, 0), (1, 1, 3, 0), (1, 1, 4, 0), (1, 2, 0, 0), (1, 2, 1, 0), (1, 2, 2, 0), (1, 2, 3, 0), (1, 2, 4, 0)] := by kernel_rfl
  have h2 : kindsU (chN8 N [98] false) chP (chO8 3) [0, 0, -1] 5 = [(2, 0, 0, 0), (2, 1, 0, 0), (3, 0, 0, 0), (3, 1, 0, 0)] := by kernel_rfl
  have h3 : spreadsU (chN8 N [98] false) chP (chO8 3) [0, 0, -1] 1 = [(7, 0, 0, skewO (spreadF (chN8 N [98] false) chP (chO8 3) [0, 0, -1] 0) 1)] := rfl
  have h4 : minsU (chN8 N [98] false) chP (chO8 3) [0, 0, -1] 1 = [(8, 0, 0, 1)] := by kernel_rfl
  unfold all8
  rw [if_pos (e900w_place N)]
  unfold allU
  rw [show (chN8 N [98] false).length = 3 from rfl, show (chO8 3).length = 1 from rfl, h1, h2, h3, h4, e900w_spread, show skewO [2, 0] 1 = 1 by kernel_rfl]
  rfl
theorem e900w_sum (N : Nat) : sumF (chN8 N [98] false) chP (chO8 3) [0, 0, -1] = 3 := by
  unfold sumF
  rw [e900w_all]
  kernel_rfl
theorem e9www_place (N : Nat) : placeE (chN8 N [98] false) chP (chO8 3) [-1, -1, -1] = 0 := by kernel_rfl
theorem e9www_spread (N : Nat) : spreadF (chN8 N [98] false) chP (chO8 3) [-1, -1, -1] 0 = [0, 0] := by
  have h1 : ownerB (chN8 N [98] false) chP (chO8 3) [-1, -1, -1] 0 = true := by kernel_rfl
  have h2 : strKeys (spreadD (chN8 N [98] false) bZone [-1, -1, -1] (offL [-1, -1, -1] (membersF chP [111]))) = [[120], [121]] := by kernel_rfl
  unfold spreadF
  rw [if_pos h1]
  show rowD (spreadD (chN8 N [98] false) bZone [-1, -1, -1] (offL [-1, -1, -1] (membersF chP [111]))) = [0, 0]
  unfold rowD sortK
  rw [h2, sort2]
  kernel_rfl
theorem e9www_all (N : Nat) : all8 (chN8 N [98] false) chP (chO8 3) [-1, -1, -1] = [(1, 0, 0, 0), (1, 0, 1, 0), (1, 0, 2, 0), (1, 0, 3, 0), (1, 0, 4, 0), (1, 1, 0, 0), (1, 1, 1, 0), (1, 1, 2, 0), (1, 1, 3, 0), (1, 1, 4, 0), (1, 2, 0, 0), (1, 2, 1, 0), (1, 2, 2, 0), (1, 2, 3, 0), (1, 2, 4, 0), (7, 0, 0, 0), (8, 0, 0, 3)] := by
  have h1 : capsU (chN8 N [98] false) chP [-1, -1, -1] 3 = [(1, 0, 0, 0), (1, 0, 1, 0), (1, 0, 2, 0), (1, 0, 3, 0), (1, 0, 4, 0), (1, 1, 0, 0), (1, 1, 1, 0), (1, 1, 2, 0), (1, 1, 3, 0), (1, 1, 4, 0), (1, 2, 0, 0), (1, 2, 1, 0), (1, 2, 2, 0), (1, 2, 3, 0), (1, 2, 4, 0)] := by kernel_rfl
  have h2 : kindsU (chN8 N [98] false) chP (chO8 3) [-1, -1, -1] 5 = [] := by kernel_rfl
  have h3 : spreadsU (chN8 N [98] false) chP (chO8 3) [-1, -1, -1] 1 = [(7, 0, 0, skewO (spreadF (chN8 N [98] false) chP (chO8 3) [-1, -1, -1] 0) 1)] := rfl
  have h4 : minsU (chN8 N [98] false) chP (chO8 3) [-1, -1, -1] 1 = [(8, 0, 0, 3)] := by kernel_rfl
  unfold all8
  rw [if_pos (e9www_place N)]
  unfold allU
  rw [show (chN8 N [98] false).length = 3 from rfl, show (chO8 3).length = 1 from rfl, h1, h2, h3, h4, e9www_spread, show skewO [0, 0] 1 = 0 by kernel_rfl]
  rfl
theorem e9www_sum (N : Nat) : sumF (chN8 N [98] false) chP (chO8 3) [-1, -1, -1] = 3 := by
  unfold sumF
  rw [e9www_all]
  kernel_rfl
theorem e9000_place (N : Nat) : placeE (chN8 N [98] false) chP (chO8 3) [0, 0, 0] = 0 := by kernel_rfl
theorem e9000_spread (N : Nat) : spreadF (chN8 N [98] false) chP (chO8 3) [0, 0, 0] 0 = [3, 0] := by
  have h1 : ownerB (chN8 N [98] false) chP (chO8 3) [0, 0, 0] 0 = true := by kernel_rfl
  have h2 : strKeys (spreadD (chN8 N [98] false) bZone [0, 0, 0] (offL [0, 0, 0] (membersF chP [111]))) = [[120], [121]] := by kernel_rfl
  unfold spreadF
  rw [if_pos h1]
  show rowD (spreadD (chN8 N [98] false) bZone [0, 0, 0] (offL [0, 0, 0] (membersF chP [111]))) = [3, 0]
  unfold rowD sortK
  rw [h2, sort2]
  kernel_rfl
theorem e9000_all (N : Nat) : all8 (chN8 N [98] false) chP (chO8 3) [0, 0, 0] = [(1, 0, 0, 15), (1, 0, 1, 0), (1, 0, 2, 0), (1, 0, 3, 0), (1, 0, 4, 0), (1, 1, 0, 0), (1, 1, 1, 0), (1, 1, 2, 0), (1, 1, 3, 0), (1, 1, 4, 0), (1, 2, 0, 0), (1, 2, 1, 0), (1, 2, 2, 0), (1, 2, 3, 0), (1, 2, 4, 0), (2, 0, 0, 0), (2, 1, 0, 0), (2, 2, 0, 0), (3, 0, 0, 0), (3, 1, 0, 0), (3, 2, 0, 0), (7, 0, 0, 2), (8, 0, 0, 0)] := by
  have h1 : capsU (chN8 N [98] false) chP [0, 0, 0] 3 = [(1, 0, 0, 15), (1, 0, 1, 0), (1, 0, 2, 0), (1, 0, 3, 0), (1, 0, 4, 0), (1, 1, 0, 0), (1, 1, 1, 0), (1, 1, 2, 0), (1, 1, 3, 0), (1, 1, 4, 0), (1, 2, 0, 0), (1, 2, 1, 0), (1, 2, 2, 0), (1, 2, 3, 0), (1, 2, 4, 0)] := by kernel_rfl
  have h2 : kindsU (chN8 N [98] false) chP (chO8 3) [0, 0, 0] 5 = [(2, 0, 0, 0), (2, 1, 0, 0), (2, 2, 0, 0), (3, 0, 0, 0), (3, 1, 0, 0), (3, 2, 0, 0)] := by kernel_rfl
  have h3 : spreadsU (chN8 N [98] false) chP (chO8 3) [0, 0, 0] 1 = [(7, 0, 0, skewO (spreadF (chN8 N [98] false) chP (chO8 3) [0, 0, 0] 0) 1)] := rfl
  have h4 : minsU (chN8 N [98] false) chP (chO8 3) [0, 0, 0] 1 = [(8, 0, 0, 0)] := by kernel_rfl
  unfold all8
  rw [if_pos (e9000_place N)]
  unfold allU
  rw [show (chN8 N [98] false).length = 3 from rfl, show (chO8 3).length = 1 from rfl, h1, h2, h3, h4, e9000_spread, show skewO [3, 0] 1 = 2 by kernel_rfl]
  rfl
theorem e9000_sum (N : Nat) : sumF (chN8 N [98] false) chP (chO8 3) [0, 0, 0] = 3 := by
  unfold sumF
  rw [e9000_all]
  kernel_rfl
theorem e9w_012_002 (N : Nat) : worseU (chN8 N [98] false) chP (chO8 3) [0, 1, 2] [0, 0, 2] = [(1, 0, 0, 5), (7, 0, 0, 1)] := by
  unfold worseU
  rw [e9012_all, e9002_all]
  kernel_rfl
theorem e9w_002_012 (N : Nat) : worseU (chN8 N [98] false) chP (chO8 3) [0, 0, 2] [0, 1, 2] = [] := by
  unfold worseU
  rw [e9002_all, e9012_all]
  kernel_rfl
theorem e9w_www_000 (N : Nat) : worseU (chN8 N [98] false) chP (chO8 3) [-1, -1, -1] [0, 0, 0] = [(1, 0, 0, 15), (7, 0, 0, 2)] := by
  unfold worseU
  rw [e9www_all, e9000_all]
  kernel_rfl
theorem e9_short (N : Nat) : placeE (chN8 N [98] false) chP (chO8 3) [0, 1] = 2 := by kernel_rfl
theorem e9_far (N : Nat) : placeE (chN8 N [98] false) chP (chO8 3) [0, 0, 3] = 2 := by kernel_rfl
theorem e9_none : placeE [] [] [] [] = 0 := by kernel_rfl
theorem e9_none_safe : safeB [] [] [] [] = true := by kernel_rfl
end Go.Proofs.YtpdaohkpgconkaaGreat

namespace Go.Proofs.YtpdaohkpgconkaaGreat
open Go.RowKit

set_option maxRecDepth 100000 in
set_option maxHeartbeats 4000000 in
theorem chapter9_any (w : World) :
    Calls Tryz.prog 33 #[] w fun e w' => ∃ B cb, e = .returned (.agg #[.slice (some ⟨w.heap.size + 4, 0, none⟩) 3 3, .slice B 3 cb, .slice (some ⟨w.heap.size + 5, 0, none⟩) 1 1]) ∧ ChapAt8 3 w' w.heap.size (.slice B 3 cb) 3 [98] false ∧ Below w.heap.size w w' := by
  obtain ⟨i0, hi0, hz0, hz1, hz2⟩ := info_parts pod_info
  go_enter Tryz.func33, Tryz.ntmps33
  have N1 := Lib.hid (Blk.new (w.alloc (Obj.cells #[Value.slice none 0 0, Value.slice none 0 0, Value.slice none 0 0] 26)) zer5 32)
  go_wp2_with (refine wpList_store_row rfl 32 (.tmp 1) (.tmp 4) rfl (w.heap.size + 1) zer5 rfl rfl 32 _ N1.out Qu.vec_size (by kernel_rfl) (by kernel_rfl) ?_)
  clear N1
  have B0 : Hid (Below w.heap.size w (((((((w.alloc (Obj.cells #[Value.slice none 0 0, Value.slice none 0 0, Value.slice none 0 0] 26)).alloc (Obj.cells #[Value.int .i64 15, Value.int .i64 0, Value.int .i64 0, Value.int .i64 0, Value.int .i64 0] 32)).alloc (Obj.cells #[strV bZone, strV [120]] 29)).alloc (Obj.cells #[strV bZone, strV [121]] 29)).alloc (Obj.cells (cellsN (chN8 w.heap.size [98] false)).toArray 34)).alloc (Obj.cells (cellsO (chO8 3)).toArray 36)).alloc (Obj.cells #[Value.slice (some { block := w.heap.size + 4, off := 0 }) 3 3, Value.slice none 0 0, Value.slice (some { block := w.heap.size + 5, off := 0 }) 1 1] 26))) := Lib.hid (((((((Qu.below2 w _ _).alloc (by simp; omega) _).alloc (by simp; omega) _).alloc (by simp; omega) _).alloc (by simp; omega) _).alloc (by simp; omega) _))
  have C0 : Hid (ChapAt8 3 (((((((w.alloc (Obj.cells #[Value.slice none 0 0, Value.slice none 0 0, Value.slice none 0 0] 26)).alloc (Obj.cells #[Value.int .i64 15, Value.int .i64 0, Value.int .i64 0, Value.int .i64 0, Value.int .i64 0] 32)).alloc (Obj.cells #[strV bZone, strV [120]] 29)).alloc (Obj.cells #[strV bZone, strV [121]] 29)).alloc (Obj.cells (cellsN (chN8 w.heap.size [98] false)).toArray 34)).alloc (Obj.cells (cellsO (chO8 3)).toArray 36)).alloc (Obj.cells #[Value.slice (some { block := w.heap.size + 4, off := 0 }) 3 3, Value.slice none 0 0, Value.slice (some { block := w.heap.size + 5, off := 0 }) 1 1] 26)) w.heap.size (.slice none 0 0) 0 [98] false) := Lib.hid (by
    have hs1 : ∀ (w : World) (o : Obj), (w.alloc o).heap.size = w.heap.size + 1 := World.size_alloc
    constructor
    · exact Blk.alloc (Blk.alloc (Blk.alloc (Blk.alloc (by have := Blk.new ((w.alloc (Obj.cells #[Value.slice none 0 0, Value.slice none 0 0, Value.slice none 0 0] 26)).alloc (Obj.cells #[Value.int .i64 15, Value.int .i64 0, Value.int .i64 0, Value.int .i64 0, Value.int .i64 0] 32)) #[strV bZone, strV [120]] 29; rw [hs1, hs1] at this; exact this) _) _) _) _
    · exact Blk.alloc (Blk.alloc (Blk.alloc (by have := Blk.new (((w.alloc (Obj.cells #[Value.slice none 0 0, Value.slice none 0 0, Value.slice none 0 0] 26)).alloc (Obj.cells #[Value.int .i64 15, Value.int .i64 0, Value.int .i64 0, Value.int .i64 0, Value.int .i64 0] 32)).alloc (Obj.cells #[strV bZone, strV [120]] 29)) #[strV bZone, strV [121]] 29; rw [hs1, hs1, hs1] at this; exact this) _) _) _
    · exact Blk.alloc (Blk.alloc (by have := Blk.new ((((w.alloc (Obj.cells #[Value.slice none 0 0, Value.slice none 0 0, Value.slice none 0 0] 26)).alloc (Obj.cells #[Value.int .i64 15, Value.int .i64 0, Value.int .i64 0, Value.int .i64 0, Value.int .i64 0] 32)).alloc (Obj.cells #[strV bZone, strV [120]] 29)).alloc (Obj.cells #[strV bZone, strV [121]] 29)) (cellsN (chN8 w.heap.size [98] false)).toArray 34; rw [hs1, hs1, hs1, hs1] at this; exact this) _) _
    · exact Blk.alloc (by have := Blk.new (((((w.alloc (Obj.cells #[Value.slice none 0 0, Value.slice none 0 0, Value.slice none 0 0] 26)).alloc (Obj.cells #[Value.int .i64 15, Value.int .i64 0, Value.int .i64 0, Value.int .i64 0, Value.int .i64 0] 32)).alloc (Obj.cells #[strV bZone, strV [120]] 29)).alloc (Obj.cells #[strV bZone, strV [121]] 29)).alloc (Obj.cells (cellsN (chN8 w.heap.size [98] false)).toArray 34)) (cellsO (chO8 3)).toArray 36; rw [hs1, hs1, hs1, hs1, hs1] at this; exact this) _
    · exact World.ownsRow_nil _ _ _ _)
  have S0 : Hid (Blk (((((((w.alloc (Obj.cells #[Value.slice none 0 0, Value.slice none 0 0, Value.slice none 0 0] 26)).alloc (Obj.cells #[Value.int .i64 15, Value.int .i64 0, Value.int .i64 0, Value.int .i64 0, Value.int .i64 0] 32)).alloc (Obj.cells #[strV bZone, strV [120]] 29)).alloc (Obj.cells #[strV bZone, strV [121]] 29)).alloc (Obj.cells (cellsN (chN8 w.heap.size [98] false)).toArray 34)).alloc (Obj.cells (cellsO (chO8 3)).toArray 36)).alloc (Obj.cells #[Value.slice (some { block := w.heap.size + 4, off := 0 }) 3 3, Value.slice none 0 0, Value.slice (some { block := w.heap.size + 5, off := 0 }) 1 1] 26)) (w.heap.size + 6) #[Value.slice (some { block := w.heap.size + 4, off := 0 }) 3 3, Value.slice none 0 0, Value.slice (some { block := w.heap.size + 5, off := 0 }) 1 1] 26) := Lib.hid (by
    have hs1 : ∀ (w : World) (o : Obj), (w.alloc o).heap.size = w.heap.size + 1 := World.size_alloc
    have := Blk.new ((((((w.alloc (Obj.cells #[Value.slice none 0 0, Value.slice none 0 0, Value.slice none 0 0] 26)).alloc (Obj.cells #[Value.int .i64 15, Value.int .i64 0, Value.int .i64 0, Value.int .i64 0, Value.int .i64 0] 32)).alloc (Obj.cells #[strV bZone, strV [120]] 29)).alloc (Obj.cells #[strV bZone, strV [121]] 29)).alloc (Obj.cells (cellsN (chN8 w.heap.size [98] false)).toArray 34)).alloc (Obj.cells (cellsO (chO8 3)).toArray 36)) #[Value.slice (some { block := w.heap.size + 4, off := 0 }) 3 3, Value.slice none 0 0, Value.slice (some { block := w.heap.size + 5, off := 0 }) 1 1] 26
    rw [hs1, hs1, hs1, hs1, hs1, hs1] at this
    exact this)
  have Z0 : Hid (Blk (((((((w.alloc (Obj.cells #[Value.slice none 0 0, Value.slice none 0 0, Value.slice none 0 0] 26)).alloc (Obj.cells #[Value.int .i64 15, Value.int .i64 0, Value.int .i64 0, Value.int .i64 0, Value.int .i64 0] 32)).alloc (Obj.cells #[strV bZone, strV [120]] 29)).alloc (Obj.cells #[strV bZone, strV [121]] 29)).alloc (Obj.cells (cellsN (chN8 w.heap.size [98] false)).toArray 34)).alloc (Obj.cells (cellsO (chO8 3)).toArray 36)).alloc (Obj.cells #[Value.slice (some { block := w.heap.size + 4, off := 0 }) 3 3, Value.slice none 0 0, Value.slice (some { block := w.heap.size + 5, off := 0 }) 1 1] 26)) w.heap.size #[Value.slice none 0 0, Value.slice none 0 0, Value.slice none 0 0] 26) := Lib.hid (Blk.alloc (Blk.alloc (Blk.alloc (Blk.alloc (Blk.alloc (Blk.alloc (Blk.new w _ _) _) _) _) _) _) _)
  change Code.wp _ _ _ _ (((((((w.alloc (Obj.cells #[Value.slice none 0 0, Value.slice none 0 0, Value.slice none 0 0] 26)).alloc (Obj.cells #[Value.int .i64 15, Value.int .i64 0, Value.int .i64 0, Value.int .i64 0, Value.int .i64 0] 32)).alloc (Obj.cells #[strV bZone, strV [120]] 29)).alloc (Obj.cells #[strV bZone, strV [121]] 29)).alloc (Obj.cells (cellsN (chN8 w.heap.size [98] false)).toArray 34)).alloc (Obj.cells (cellsO (chO8 3)).toArray 36)).alloc (Obj.cells #[Value.slice (some { block := w.heap.size + 4, off := 0 }) 3 3, Value.slice none 0 0, Value.slice (some { block := w.heap.size + 5, off := 0 }) 1 1] 26))
  generalize (((((((w.alloc (Obj.cells #[Value.slice none 0 0, Value.slice none 0 0, Value.slice none 0 0] 26)).alloc (Obj.cells #[Value.int .i64 15, Value.int .i64 0, Value.int .i64 0, Value.int .i64 0, Value.int .i64 0] 32)).alloc (Obj.cells #[strV bZone, strV [120]] 29)).alloc (Obj.cells #[strV bZone, strV [121]] 29)).alloc (Obj.cells (cellsN (chN8 w.heap.size [98] false)).toArray 34)).alloc (Obj.cells (cellsO (chO8 3)).toArray 36)).alloc (Obj.cells #[Value.slice (some { block := w.heap.size + 4, off := 0 }) 3 3, Value.slice none 0 0, Value.slice (some { block := w.heap.size + 5, off := 0 }) 1 1] 26)) = W0 at B0 C0 S0 Z0 ⊢
  rw [show w.heap.size + 1 + 1 + 1 + 1 + 1 + 1 = w.heap.size + 6 from rfl]
  obtain ⟨Sb, hSb⟩ : ∃ Sb, w.heap.size + 6 = Sb := ⟨_, rfl⟩
  rw [hSb] at S0 ⊢
  have HSb := Lib.hid hSb
  clear hSb
  go_loopw [3] (fun i wr => ∃ (k : Nat) (B : Option Addr) (cb : Nat), k ≤ 3 ∧ i = .int .i64 k ∧ ChapAt8 3 wr w.heap.size (.slice B k cb) k [98] false ∧ Blk wr Sb #[Value.slice (some { block := w.heap.size + 4, off := 0 }) 3 3, .slice B k cb, Value.slice (some { block := w.heap.size + 5, off := 0 }) 1 1] 26 ∧ Blk wr w.heap.size #[Value.slice none 0 0, Value.slice none 0 0, Value.slice none 0 0] 26 ∧ Below w.heap.size w wr) (fun i _ => 3 - (intOf i).toNat)
  case atStart => exact ⟨0, none, 0, by omega, rfl, C0.out, S0.out, Z0.out, B0.out⟩
  case round =>
    clear B0 C0 S0 Z0
    obtain ⟨k, B, cb, hk, rfl, hc, hs, hz, hb⟩ := hrel
    have HC := Lib.hid hc
    have HS := Lib.hid hs
    have HZ := Lib.hid hz
    have HB := Lib.hid hb
    have s0 : wr.cell? ⟨Sb, 0, none⟩ = some (Value.slice (some { block := w.heap.size + 4, off := 0 }) 3 3) := Blk.cell hs 0
    have s1 : wr.cell? ⟨Sb, 1, none⟩ = some (.slice B k cb) := Blk.cell hs 1
    have s2 : wr.cell? ⟨Sb, 2, none⟩ = some (Value.slice (some { block := w.heap.size + 5, off := 0 }) 1 1) := Blk.cell hs 2
    have f1 := Blk.free hs 1
    clear hc hs hz hb
    have hk4 : k = 0 ∨ k = 1 ∨ k = 2 ∨ k = 3 := by omega
    rcases hk4 with rfl | rfl | rfl | rfl
    · have hnb : Hid (w.heap.size ≤ wr.heap.size) := Lib.hid HB.out.size
      have s1a : ∀ o, (wr.alloc o).cell? ⟨Sb, 1, none⟩ = some (.slice B 0 cb) := fun o => Blk.cell (Blk.alloc HS.out o) 1
      have hdec : 26 ≠ 43 := by decide
      have h1c : Hid (∀ u ∈ cellsP [chPod 112], u.oneCell' = true) := Lib.hid (by
        intro u hu
        simp [cellsP, chPod] at hu
        rcases hu with rfl | rfl | rfl | rfl | rfl | rfl | rfl | rfl | rfl | rfl | rfl | rfl | rfl <;> rfl)
      have hbW : Hid (Below wr.heap.size wr ((wr.alloc (.cells (cellsP [chPod 112]).toArray 43)).drew)) := Lib.hid (((Below.refl _ _).alloc (Nat.le_refl _) _).drew)
      have hcl : Hid (∀ j u, (cellsP [chPod 112])[j]? = some u → World.cell? ((wr.alloc (.cells (cellsP [chPod 112]).toArray 43)).drew) ((⟨wr.heap.size, 0, none⟩ : Addr).add j) = some u) := Lib.hid (by
        intro j u hj
        rw [WideShapes.add_plain, Nat.zero_add, ← hj, ← List.getElem?_toArray]
        exact Blk.cell (Blk.new wr _ _) j)
      have hon : Hid (World.ownsRow ((wr.alloc (.cells (cellsP [chPod 112]).toArray 43)).drew) w.heap.size 43 15 (.slice B 0 cb) 0 (cellsP (chP.take 0))) := Lib.hid (show World.ownsRow _ _ _ _ _ _ _ from HC.out.p.alloc _)
      have hS9 : Hid (Blk ((wr.alloc (.cells (cellsP [chPod 112]).toArray 43)).drew) Sb #[Value.slice (some { block := w.heap.size + 4, off := 0 }) 3 3, .slice B 0 cb, Value.slice (some { block := w.heap.size + 5, off := 0 }) 1 1] 26) := Lib.hid (Blk.alloc HS.out _)
      have hb9 : Hid (w.heap.size ≤ ((wr.alloc (.cells (cellsP [chPod 112]).toArray 43)).drew).heap.size) := Lib.hid (by have := hnb.out; show w.heap.size ≤ (wr.alloc _).heap.size; simp; omega)
      have hmx9 : Hid (0 + 1 ≤ maxLen) := Lib.hid (by unfold maxLen; omega)
      have hw1 : IntKind.i64.wrap 1 = 1 := by decide
      have hw2 : IntKind.i64.wrap 2 = 2 := by decide
      have hw3 : IntKind.i64.wrap 3 = 3 := by decide
      have he0 : (⟨#[112, 113, 114]⟩ : ByteArray).extract 0 1 = ⟨#[112]⟩ := by decide
      have he1 : (⟨#[112, 113, 114]⟩ : ByteArray).extract 1 2 = ⟨#[113]⟩ := by decide
      have he2 : (⟨#[112, 113, 114]⟩ : ByteArray).extract 2 3 = ⟨#[114]⟩ := by decide
      clear hk
      go_wp2_with fail
      go_region_law (refine step_append_own rfl (.tmp 24) (.tmp 31) 23 rfl w.heap.size 43 i0 (.agg #[.string ⟨#[]⟩, .string ⟨#[]⟩, .int .i64 0, .int .i64 0, .int .i64 0, .int .i64 0, .int .i64 0, .slice none 0 0, .slice none 0 0, .slice none 0 0, .string ⟨#[]⟩, .slice none 0 0, .string ⟨#[]⟩, .slice none 0 0, .string ⟨#[]⟩]) 15 240 Tryz.underlying23 hi0 hz0 hz1 hz2 rfl (by decide) (.slice B 0 cb) 0 (cellsP (chP.take 0)) rfl hon.out ⟨wr.heap.size, 0, none⟩ 1 1 (cellsP [chPod 112]) rfl rfl hcl.out h1c.out hmx9.out (by decide) hb9.out (fun v' w' hown' hgrow' => ?_); obtain ⟨B', cb', rfl, hm'⟩ := La.own_slice hown'; have S3 := Lib.hid (ch_other hon.out hgrow' hS9.out hdec); have q1 := Blk.cell S3.out 1; have q2 := Blk.free S3.out 1)
      all_goals
        have HSQ := HSb.out
        have hc3 : Hid (ChapAt8 3 w' w.heap.size (.slice B' 1 cb') 1 [98] false) := Lib.hid (HC.out.step hbW.out hon.out hgrow' (show World.ownsRow _ _ _ _ _ _ _ from hown'))
        have hc4 : Hid (ChapAt8 3 (w'.setCell ⟨Sb, 1, none⟩ (.slice B' 1 cb')) w.heap.size (.slice B' 1 cb') 1 [98] false) := Lib.hid (hc3.out.set S3.out (by omega) hdec 1 _)
        have hs4 : Hid (Blk (w'.setCell ⟨Sb, 1, none⟩ (.slice B' 1 cb')) Sb #[Value.slice (some { block := w.heap.size + 4, off := 0 }) 3 3, .slice B' 1 cb', Value.slice (some { block := w.heap.size + 5, off := 0 }) 1 1] 26) := Lib.hid (S3.out.set 1 _)
        have hz4 : Hid (Blk (w'.setCell ⟨Sb, 1, none⟩ (.slice B' 1 cb')) w.heap.size #[Value.slice none 0 0, Value.slice none 0 0, Value.slice none 0 0] 26) := Lib.hid (Blk.oth (ch_other hon.out hgrow' (HZ.out.below hbW.out HZ.out.lt) hdec) (by omega) 1 _)
        have hb4 : Hid (Below w.heap.size w (w'.setCell ⟨Sb, 1, none⟩ (.slice B' 1 cb'))) := Lib.hid ((((HB.out.trans (hbW.out.mono hnb.out)).grown hgrow' hb9.out (fun j hj => (hon.out.lt j hj).1))).setCell (p := ⟨Sb, 1, none⟩) (by show w.heap.size ≤ Sb; omega) _)
        clear hown' hgrow' S3 q1 q2 HSQ hcl h1c hon hS9 hb9 hmx9 s0 s1 s2 f1 s1a HC HS HZ HB hbW hc3
        go_wp2
        go_roundw
        case rel => exact ⟨1, B', cb', by omega, by go_num, hc4.out, hs4.out, hz4.out, hb4.out⟩
        case measure => simp [intOf]
    · have hnb : Hid (w.heap.size ≤ wr.heap.size) := Lib.hid HB.out.size
      have s1a : ∀ o, (wr.alloc o).cell? ⟨Sb, 1, none⟩ = some (.slice B 1 cb) := fun o => Blk.cell (Blk.alloc HS.out o) 1
      have hdec : 26 ≠ 43 := by decide
      have h1c : Hid (∀ u ∈ cellsP [chPod 113], u.oneCell' = true) := Lib.hid (by
        intro u hu
        simp [cellsP, chPod] at hu
        rcases hu with rfl | rfl | rfl | rfl | rfl | rfl | rfl | rfl | rfl | rfl | rfl | rfl | rfl <;> rfl)
      have hbW : Hid (Below wr.heap.size wr ((wr.alloc (.cells (cellsP [chPod 113]).toArray 43)).drew)) := Lib.hid (((Below.refl _ _).alloc (Nat.le_refl _) _).drew)
      have hcl : Hid (∀ j u, (cellsP [chPod 113])[j]? = some u → World.cell? ((wr.alloc (.cells (cellsP [chPod 113]).toArray 43)).drew) ((⟨wr.heap.size, 0, none⟩ : Addr).add j) = some u) := Lib.hid (by
        intro j u hj
        rw [WideShapes.add_plain, Nat.zero_add, ← hj, ← List.getElem?_toArray]
        exact Blk.cell (Blk.new wr _ _) j)
      have hon : Hid (World.ownsRow ((wr.alloc (.cells (cellsP [chPod 113]).toArray 43)).drew) w.heap.size 43 15 (.slice B 1 cb) 1 (cellsP (chP.take 1))) := Lib.hid (show World.ownsRow _ _ _ _ _ _ _ from HC.out.p.alloc _)
      have hS9 : Hid (Blk ((wr.alloc (.cells (cellsP [chPod 113]).toArray 43)).drew) Sb #[Value.slice (some { block := w.heap.size + 4, off := 0 }) 3 3, .slice B 1 cb, Value.slice (some { block := w.heap.size + 5, off := 0 }) 1 1] 26) := Lib.hid (Blk.alloc HS.out _)
      have hb9 : Hid (w.heap.size ≤ ((wr.alloc (.cells (cellsP [chPod 113]).toArray 43)).drew).heap.size) := Lib.hid (by have := hnb.out; show w.heap.size ≤ (wr.alloc _).heap.size; simp; omega)
      have hmx9 : Hid (1 + 1 ≤ maxLen) := Lib.hid (by unfold maxLen; omega)
      have hw1 : IntKind.i64.wrap 1 = 1 := by decide
      have hw2 : IntKind.i64.wrap 2 = 2 := by decide
      have hw3 : IntKind.i64.wrap 3 = 3 := by decide
      have he0 : (⟨#[112, 113, 114]⟩ : ByteArray).extract 0 1 = ⟨#[112]⟩ := by decide
      have he1 : (⟨#[112, 113, 114]⟩ : ByteArray).extract 1 2 = ⟨#[113]⟩ := by decide
      have he2 : (⟨#[112, 113, 114]⟩ : ByteArray).extract 2 3 = ⟨#[114]⟩ := by decide
      clear hk
      go_wp2_with fail
      go_region_law (refine step_append_own rfl (.tmp 24) (.tmp 31) 23 rfl w.heap.size 43 i0 (.agg #[.string ⟨#[]⟩, .string ⟨#[]⟩, .int .i64 0, .int .i64 0, .int .i64 0, .int .i64 0, .int .i64 0, .slice none 0 0, .slice none 0 0, .slice none 0 0, .string ⟨#[]⟩, .slice none 0 0, .string ⟨#[]⟩, .slice none 0 0, .string ⟨#[]⟩]) 15 240 Tryz.underlying23 hi0 hz0 hz1 hz2 rfl (by decide) (.slice B 1 cb) 1 (cellsP (chP.take 1)) rfl hon.out ⟨wr.heap.size, 0, none⟩ 1 1 (cellsP [chPod 113]) rfl rfl hcl.out h1c.out hmx9.out (by decide) hb9.out (fun v' w' hown' hgrow' => ?_); obtain ⟨B', cb', rfl, hm'⟩ := La.own_slice hown'; have S3 := Lib.hid (ch_other hon.out hgrow' hS9.out hdec); have q1 := Blk.cell S3.out 1; have q2 := Blk.free S3.out 1)
      all_goals
        have HSQ := HSb.out
        have hc3 : Hid (ChapAt8 3 w' w.heap.size (.slice B' 2 cb') 2 [98] false) := Lib.hid (HC.out.step hbW.out hon.out hgrow' (show World.ownsRow _ _ _ _ _ _ _ from hown'))
        have hc4 : Hid (ChapAt8 3 (w'.setCell ⟨Sb, 1, none⟩ (.slice B' 2 cb')) w.heap.size (.slice B' 2 cb') 2 [98] false) := Lib.hid (hc3.out.set S3.out (by omega) hdec 1 _)
        have hs4 : Hid (Blk (w'.setCell ⟨Sb, 1, none⟩ (.slice B' 2 cb')) Sb #[Value.slice (some { block := w.heap.size + 4, off := 0 }) 3 3, .slice B' 2 cb', Value.slice (some { block := w.heap.size + 5, off := 0 }) 1 1] 26) := Lib.hid (S3.out.set 1 _)
        have hz4 : Hid (Blk (w'.setCell ⟨Sb, 1, none⟩ (.slice B' 2 cb')) w.heap.size #[Value.slice none 0 0, Value.slice none 0 0, Value.slice none 0 0] 26) := Lib.hid (Blk.oth (ch_other hon.out hgrow' (HZ.out.below hbW.out HZ.out.lt) hdec) (by omega) 1 _)
        have hb4 : Hid (Below w.heap.size w (w'.setCell ⟨Sb, 1, none⟩ (.slice B' 2 cb'))) := Lib.hid ((((HB.out.trans (hbW.out.mono hnb.out)).grown hgrow' hb9.out (fun j hj => (hon.out.lt j hj).1))).setCell (p := ⟨Sb, 1, none⟩) (by show w.heap.size ≤ Sb; omega) _)
        clear hown' hgrow' S3 q1 q2 HSQ hcl h1c hon hS9 hb9 hmx9 s0 s1 s2 f1 s1a HC HS HZ HB hbW hc3
        go_wp2
        go_roundw
        case rel => exact ⟨2, B', cb', by omega, by go_num, hc4.out, hs4.out, hz4.out, hb4.out⟩
        case measure => simp [intOf]
    · have hnb : Hid (w.heap.size ≤ wr.heap.size) := Lib.hid HB.out.size
      have s1a : ∀ o, (wr.alloc o).cell? ⟨Sb, 1, none⟩ = some (.slice B 2 cb) := fun o => Blk.cell (Blk.alloc HS.out o) 1
      have hdec : 26 ≠ 43 := by decide
      have h1c : Hid (∀ u ∈ cellsP [chPod 114], u.oneCell' = true) := Lib.hid (by
        intro u hu
        simp [cellsP, chPod] at hu
        rcases hu with rfl | rfl | rfl | rfl | rfl | rfl | rfl | rfl | rfl | rfl | rfl | rfl | rfl <;> rfl)
      have hbW : Hid (Below wr.heap.size wr ((wr.alloc (.cells (cellsP [chPod 114]).toArray 43)).drew)) := Lib.hid (((Below.refl _ _).alloc (Nat.le_refl _) _).drew)
      have hcl : Hid (∀ j u, (cellsP [chPod 114])[j]? = some u → World.cell? ((wr.alloc (.cells (cellsP [chPod 114]).toArray 43)).drew) ((⟨wr.heap.size, 0, none⟩ : Addr).add j) = some u) := Lib.hid (by
        intro j u hj
        rw [WideShapes.add_plain, Nat.zero_add, ← hj, ← List.getElem?_toArray]
        exact Blk.cell (Blk.new wr _ _) j)
      have hon : Hid (World.ownsRow ((wr.alloc (.cells (cellsP [chPod 114]).toArray 43)).drew) w.heap.size 43 15 (.slice B 2 cb) 2 (cellsP (chP.take 2))) := Lib.hid (show World.ownsRow _ _ _ _ _ _ _ from HC.out.p.alloc _)
      have hS9 : Hid (Blk ((wr.alloc (.cells (cellsP [chPod 114]).toArray 43)).drew) Sb #[Value.slice (some { block := w.heap.size + 4, off := 0 }) 3 3, .slice B 2 cb, Value.slice (some { block := w.heap.size + 5, off := 0 }) 1 1] 26) := Lib.hid (Blk.alloc HS.out _)
      have hb9 : Hid (w.heap.size ≤ ((wr.alloc (.cells (cellsP [chPod 114]).toArray 43)).drew).heap.size) := Lib.hid (by have := hnb.out; show w.heap.size ≤ (wr.alloc _).heap.size; simp; omega)
      have hmx9 : Hid (2 + 1 ≤ maxLen) := Lib.hid (by unfold maxLen; omega)
      have hw1 : IntKind.i64.wrap 1 = 1 := by decide
      have hw2 : IntKind.i64.wrap 2 = 2 := by decide
      have hw3 : IntKind.i64.wrap 3 = 3 := by decide
      have he0 : (⟨#[112, 113, 114]⟩ : ByteArray).extract 0 1 = ⟨#[112]⟩ := by decide
      have he1 : (⟨#[112, 113, 114]⟩ : ByteArray).extract 1 2 = ⟨#[113]⟩ := by decide
      have he2 : (⟨#[112, 113, 114]⟩ : ByteArray).extract 2 3 = ⟨#[114]⟩ := by decide
      clear hk
      go_wp2_with fail
      go_region_law (refine step_append_own rfl (.tmp 24) (.tmp 31) 23 rfl w.heap.size 43 i0 (.agg #[.string ⟨#[]⟩, .string ⟨#[]⟩, .int .i64 0, .int .i64 0, .int .i64 0, .int .i64 0, .int .i64 0, .slice none 0 0, .slice none 0 0, .slice none 0 0, .string ⟨#[]⟩, .slice none 0 0, .string ⟨#[]⟩, .slice none 0 0, .string ⟨#[]⟩]) 15 240 Tryz.underlying23 hi0 hz0 hz1 hz2 rfl (by decide) (.slice B 2 cb) 2 (cellsP (chP.take 2)) rfl hon.out ⟨wr.heap.size, 0, none⟩ 1 1 (cellsP [chPod 114]) rfl rfl hcl.out h1c.out hmx9.out (by decide) hb9.out (fun v' w' hown' hgrow' => ?_); obtain ⟨B', cb', rfl, hm'⟩ := La.own_slice hown'; have S3 := Lib.hid (ch_other hon.out hgrow' hS9.out hdec); have q1 := Blk.cell S3.out 1; have q2 := Blk.free S3.out 1)
      all_goals
        have HSQ := HSb.out
        have hc3 : Hid (ChapAt8 3 w' w.heap.size (.slice B' 3 cb') 3 [98] false) := Lib.hid (HC.out.step hbW.out hon.out hgrow' (show World.ownsRow _ _ _ _ _ _ _ from hown'))
        have hc4 : Hid (ChapAt8 3 (w'.setCell ⟨Sb, 1, none⟩ (.slice B' 3 cb')) w.heap.size (.slice B' 3 cb') 3 [98] false) := Lib.hid (hc3.out.set S3.out (by omega) hdec 1 _)
        have hs4 : Hid (Blk (w'.setCell ⟨Sb, 1, none⟩ (.slice B' 3 cb')) Sb #[Value.slice (some { block := w.heap.size + 4, off := 0 }) 3 3, .slice B' 3 cb', Value.slice (some { block := w.heap.size + 5, off := 0 }) 1 1] 26) := Lib.hid (S3.out.set 1 _)
        have hz4 : Hid (Blk (w'.setCell ⟨Sb, 1, none⟩ (.slice B' 3 cb')) w.heap.size #[Value.slice none 0 0, Value.slice none 0 0, Value.slice none 0 0] 26) := Lib.hid (Blk.oth (ch_other hon.out hgrow' (HZ.out.below hbW.out HZ.out.lt) hdec) (by omega) 1 _)
        have hb4 : Hid (Below w.heap.size w (w'.setCell ⟨Sb, 1, none⟩ (.slice B' 3 cb'))) := Lib.hid ((((HB.out.trans (hbW.out.mono hnb.out)).grown hgrow' hb9.out (fun j hj => (hon.out.lt j hj).1))).setCell (p := ⟨Sb, 1, none⟩) (by show w.heap.size ≤ Sb; omega) _)
        clear hown' hgrow' S3 q1 q2 HSQ hcl h1c hon hS9 hb9 hmx9 s0 s1 s2 f1 s1a HC HS HZ HB hbW hc3
        go_wp2
        go_roundw
        case rel => exact ⟨3, B', cb', by omega, by go_num, hc4.out, hs4.out, hz4.out, hb4.out⟩
        case measure => simp [intOf]
    · have z0 : wr.cell? ⟨w.heap.size, 0, none⟩ = some (Value.slice none 0 0) := Blk.cell HZ.out 0
      have z1 : wr.cell? ⟨w.heap.size, 1, none⟩ = some (Value.slice none 0 0) := Blk.cell HZ.out 1
      have z2 : wr.cell? ⟨w.heap.size, 2, none⟩ = some (Value.slice none 0 0) := Blk.cell HZ.out 2
      have g0 := Blk.free HZ.out 0
      have g1 := Blk.free HZ.out 1
      have g2 := Blk.free HZ.out 2
      clear hk
      have HSQ := HSb.out
      have hd1 : 26 ≠ 43 := by decide
      have HZ1 := Lib.hid (HZ.out.set 0 (Value.slice (some { block := w.heap.size + 4, off := 0 }) 3 3))
      have HC1 := Lib.hid (HC.out.set HZ.out (by omega) hd1 0 (Value.slice (some { block := w.heap.size + 4, off := 0 }) 3 3))
      have HZ2 := Lib.hid (HZ1.out.set 1 (.slice B 3 cb))
      have HC2 := Lib.hid (HC1.out.set HZ1.out (by omega) hd1 1 (.slice B 3 cb))
      have HZ3 := Lib.hid (HZ2.out.set 2 (Value.slice (some { block := w.heap.size + 5, off := 0 }) 1 1))
      have HC3 := Lib.hid (HC2.out.set HZ2.out (by omega) hd1 2 (Value.slice (some { block := w.heap.size + 5, off := 0 }) 1 1))
      have HB3 := Lib.hid (((HB.out.setCell (p := ⟨w.heap.size, 0, none⟩) (Nat.le_refl _) (Value.slice (some { block := w.heap.size + 4, off := 0 }) 3 3)).setCell (p := ⟨w.heap.size, 1, none⟩) (Nat.le_refl _) (.slice B 3 cb)).setCell (p := ⟨w.heap.size, 2, none⟩) (Nat.le_refl _) (Value.slice (some { block := w.heap.size + 5, off := 0 }) 1 1))
      clear HSQ hd1
      go_wp2
      refine bodyPost_row1 Tryz.results33 w.heap.size _ _ _ _ (by rfl) (by rfl) HZ3.out Tryz.underlying26 rfl (by kernel_rfl) ?_
      exact ⟨B, cb, rfl, HC3.out, HB3.out⟩

end Go.Proofs.YtpdaohkpgconkaaGreat

namespace Go.Proofs.YtpdaohkpgconkaaGreat
open Go.RowKit Go.Maps

/-- The cluster, its box lie in memory. -/
structure WkAt9 (mn : Int) (w W : World) (N Sb : Nat) (B : Option Addr) (cb : Nat) : Prop where
  s : SnapAt W (some ⟨N + 4, 0, none⟩) B (some ⟨N + 5, 0, none⟩) 3 cb 1 (chN8 N [98] false) chP (chO8 mn)
  b : Blk W Sb #[.slice (some ⟨N + 4, 0, none⟩) 3 3, .slice B 3 cb, .slice (some ⟨N + 5, 0, none⟩) 1 1] 26
  w : Below w.heap.size w W
theorem WkAt9.below {mn : Int} {w W W' : World} {N Sb : Nat} {B : Option Addr} {cb : Nat} (h : WkAt9 mn w W N Sb B cb) (hb : Below W.heap.size W W') : WkAt9 mn w W' N Sb B cb :=
  ⟨h.s.below hb, h.b.below hb h.b.lt, h.w.trans (hb.mono h.w.size)⟩
theorem WkAt9.c0 {mn : Int} {w W : World} {N Sb : Nat} {B : Option Addr} {cb : Nat} (h : WkAt9 mn w W N Sb B cb) : W.cell? ⟨Sb, 0, none⟩ = some (.slice (some ⟨N + 4, 0, none⟩) 3 3) ∧ W.cell? ⟨Sb, 1, none⟩ = some (.slice B 3 cb) ∧ W.cell? ⟨Sb, 2, none⟩ = some (.slice (some ⟨N + 5, 0, none⟩) 1 1) :=
  ⟨Blk.cell h.b 0, Blk.cell h.b 1, Blk.cell h.b 2⟩

set_option maxRecDepth 100000 in
set_option maxHeartbeats 8000000 in
theorem works9_any (w : World) :
    Calls Tryz.prog 29 #[] w fun e w' => e = .returned (.bool true) ∧ Below w.heap.size w w' := by
  have KC := Lib.hid (chapter9_any w)
  have hmg := cl_guard
  go_enter Tryz.func29, Tryz.ntmps29
  go_wp2_with fail
  refine (KC.out).mono ?_
  rintro e w1 ⟨B, cb, rfl, hch, hb⟩
  have hsn := hch.snap (by simp)
  have H0 : Hid (WkAt9 3 w (w1.alloc (.cells #[.slice (some ⟨w.heap.size + 4, 0, none⟩) 3 3, .slice B 3 cb, .slice (some ⟨w.heap.size + 5, 0, none⟩) 1 1] 26)) w.heap.size w1.heap.size B cb) := Lib.hid (by
    have h1 := below1 w1 (.cells #[.slice (some ⟨w.heap.size + 4, 0, none⟩) 3 3, .slice B 3 cb, .slice (some ⟨w.heap.size + 5, 0, none⟩) 1 1] 26)
    exact ⟨hsn.below h1, Blk.new w1 _ _, hb.trans (h1.mono hb.size)⟩)
  clear hch hsn hb KC
  go_upto_region 2 with fail
  try change Code.wp _ _ _ _ (w1.alloc (.cells #[.slice (some ⟨w.heap.size + 4, 0, none⟩) 3 3, .slice B 3 cb, .slice (some ⟨w.heap.size + 5, 0, none⟩) 1 1] 26))
  generalize (w1.alloc (.cells #[.slice (some ⟨w.heap.size + 4, 0, none⟩) 3 3, .slice B 3 cb, .slice (some ⟨w.heap.size + 5, 0, none⟩) 1 1] 26)) = V0 at H0 ⊢
  generalize w1.heap.size = Sb at H0 ⊢
  obtain ⟨b0, b1, b2⟩ := H0.out.c0
  have Ha := Lib.hid (H0.out.below (below1 V0 (.cells (intsC [0, 1, 2]).toArray 3)))
  have I0 := Lib.hid (ints_new V0 [0, 1, 2] (by simp))
  have K := Lib.hid (safe_at (some ⟨w.heap.size + 4, 0, none⟩) B (some ⟨w.heap.size + 5, 0, none⟩) (some ⟨V0.heap.size, 0, none⟩) 3 cb 1 3 (chN8 w.heap.size [98] false) chP (chO8 3) [0, 1, 2] _ Ha.out.s I0.out)
  rw [e9012_safe, e9012_place] at K
  go_wp2_with fail
  refine (K.out).mono ?_
  rintro e V1 ⟨rfl, hb⟩
  have H1 := Lib.hid (Ha.out.below hb)
  clear hb K H0 Ha I0 b0 b1 b2 
  obtain ⟨b0, b1, b2⟩ := H1.out.c0
  have Ha := Lib.hid (H1.out.below (below1 V1 (.cells (intsC [0, 0, 2]).toArray 3)))
  have I0 := Lib.hid (ints_new V1 [0, 0, 2] (by simp))
  have K := Lib.hid (safe_at (some ⟨w.heap.size + 4, 0, none⟩) B (some ⟨w.heap.size + 5, 0, none⟩) (some ⟨V1.heap.size, 0, none⟩) 3 cb 1 3 (chN8 w.heap.size [98] false) chP (chO8 3) [0, 0, 2] _ Ha.out.s I0.out)
  rw [e9002_safe, e9002_place] at K
  go_wp2_with fail
  refine (K.out).mono ?_
  rintro e V2 ⟨rfl, hb⟩
  have H2 := Lib.hid (Ha.out.below hb)
  clear hb K H1 Ha I0 b0 b1 b2 
  obtain ⟨b0, b1, b2⟩ := H2.out.c0
  have Ha := Lib.hid (H2.out.below (below1 V2 (.cells (intsC [0, 0, -1]).toArray 3)))
  have I0 := Lib.hid (ints_new V2 [0, 0, -1] (by simp))
  have K := Lib.hid (sum_atS (some ⟨w.heap.size + 4, 0, none⟩) B (some ⟨w.heap.size + 5, 0, none⟩) (some ⟨V2.heap.size, 0, none⟩) 3 cb 1 3 (chN8 w.heap.size [98] false) chP (chO8 3) [0, 0, -1] _ Ha.out.s I0.out)
  rw [e900w_sum, e900w_place] at K
  go_wp2_with fail
  refine (K.out).mono ?_
  rintro e V3 ⟨rfl, hb⟩
  have H3 := Lib.hid (Ha.out.below hb)
  clear hb K H2 Ha I0 b0 b1 b2 
  obtain ⟨b0, b1, b2⟩ := H3.out.c0
  have Ha := Lib.hid (H3.out.below (Qu.below2 V3 (.cells (intsC [0, 1, 2]).toArray 3) (.cells (intsC [0, 0, 2]).toArray 3)))
  have I0 := Lib.hid ((ints_new V3 [0, 1, 2] (by simp)).below (below1 _ (.cells (intsC [0, 0, 2]).toArray 3)))
  have I1 := Lib.hid (ints_new (V3.alloc (.cells (intsC [0, 1, 2]).toArray 3)) [0, 0, 2] (by simp))
  rw [World.size_alloc] at I1
  have K := Lib.hid (worse_at (some ⟨w.heap.size + 4, 0, none⟩) B (some ⟨w.heap.size + 5, 0, none⟩) (some ⟨V3.heap.size, 0, none⟩) (some ⟨V3.heap.size + 1, 0, none⟩) 3 cb 1 3 3 (chN8 w.heap.size [98] false) chP (chO8 3) [0, 1, 2] [0, 0, 2] _ Ha.out.s I0.out I1.out)
  unfold worseF worseE at K
  rw [e9012_place, e9002_place, if_pos rfl, if_pos rfl, e9w_012_002] at K
  go_wp2_with fail
  refine (K.out).mono ?_
  rintro e V4 ⟨v3, rfl, ho, hb⟩
  obtain ⟨G3, cg3, rfl, _⟩ := La.own_slice ho
  have O3 := Lib.hid (La.own_slat ho)
  clear ho
  have H4 := Lib.hid (Ha.out.below hb)
  clear hb K H3 Ha I0 I1 b0 b1 b2 
  obtain ⟨b0, b1, b2⟩ := H4.out.c0
  have Ha := Lib.hid (H4.out.below (Qu.below2 V4 (.cells (intsC [0, 0, 2]).toArray 3) (.cells (intsC [0, 1, 2]).toArray 3)))
  have T3 := Lib.hid (La.SlAt.below O3.out (Qu.below2 V4 (.cells (intsC [0, 0, 2]).toArray 3) (.cells (intsC [0, 1, 2]).toArray 3)))
  have I0 := Lib.hid ((ints_new V4 [0, 0, 2] (by simp)).below (below1 _ (.cells (intsC [0, 1, 2]).toArray 3)))
  have I1 := Lib.hid (ints_new (V4.alloc (.cells (intsC [0, 0, 2]).toArray 3)) [0, 1, 2] (by simp))
  rw [World.size_alloc] at I1
  have K := Lib.hid (worse_at (some ⟨w.heap.size + 4, 0, none⟩) B (some ⟨w.heap.size + 5, 0, none⟩) (some ⟨V4.heap.size, 0, none⟩) (some ⟨V4.heap.size + 1, 0, none⟩) 3 cb 1 3 3 (chN8 w.heap.size [98] false) chP (chO8 3) [0, 0, 2] [0, 1, 2] _ Ha.out.s I0.out I1.out)
  unfold worseF worseE at K
  rw [e9002_place, e9012_place, if_pos rfl, if_pos rfl, e9w_002_012] at K
  go_wp2_with fail
  refine (K.out).mono ?_
  rintro e V5 ⟨v4, rfl, ho, hb⟩
  obtain ⟨G4, cg4, rfl, _⟩ := La.own_slice ho
  have O4 := Lib.hid (La.own_slat ho)
  clear ho
  have H5 := Lib.hid (Ha.out.below hb)
  have O3 := Lib.hid (La.SlAt.below T3.out hb)
  clear hb K H4 Ha I0 I1 b0 b1 b2 T3
  obtain ⟨b0, b1, b2⟩ := H5.out.c0
  have Ha := Lib.hid (H5.out.below (below1 V5 (.cells (intsC [0, 1]).toArray 3)))
  have T3 := Lib.hid (La.SlAt.below O3.out (below1 V5 (.cells (intsC [0, 1]).toArray 3)))
  have T4 := Lib.hid (La.SlAt.below O4.out (below1 V5 (.cells (intsC [0, 1]).toArray 3)))
  have I0 := Lib.hid (ints_new V5 [0, 1] (by simp))
  have K := Lib.hid (safe_at (some ⟨w.heap.size + 4, 0, none⟩) B (some ⟨w.heap.size + 5, 0, none⟩) (some ⟨V5.heap.size, 0, none⟩) 3 cb 1 2 (chN8 w.heap.size [98] false) chP (chO8 3) [0, 1] _ Ha.out.s I0.out)
  rw [e9_short] at K
  go_wp2_with fail
  refine (K.out).mono ?_
  rintro e V6 ⟨rfl, hb⟩
  have H6 := Lib.hid (Ha.out.below hb)
  have O3 := Lib.hid (La.SlAt.below T3.out hb)
  have O4 := Lib.hid (La.SlAt.below T4.out hb)
  clear hb K H5 Ha I0 b0 b1 b2 T3 T4
  obtain ⟨g, o, hG, _, c0, c1, c2, c3⟩ := atC O3.out (k := 0) (x := (1, 0, 0, 5)) rfl
  subst hG
  obtain ⟨g', o', hG', _, d0, d1, d2, d3⟩ := atC O3.out (k := 1) (x := (7, 0, 0, 1)) rfl
  cases hG'
  simp only [Nat.zero_mul, Nat.add_zero, Nat.one_mul] at c0 c1 c2 c3 d0 d1 d2 d3
  have hq1 := fun w => eq_cl 1 0 0 5 w
  have hq2 := fun w => eq_cl 7 0 0 1 w
  clear O3 O4
  go_wp2
  go_ret
  exact ⟨rfl, H6.out.w⟩
end Go.Proofs.YtpdaohkpgconkaaGreat

namespace Go.Proofs.YtpdaohkpgconkaaGreat
open Go.RowKit

set_option maxRecDepth 100000 in
set_option maxHeartbeats 4000000 in
theorem cut9_any (A B C : Option Addr) (ca cb cc : Nat) (ns : List NodeD) (ps : List PodD) (os : List OwnD) (w : World) (h : SnapIn w A B C ca cb cc ns ps os) :
    Calls Tryz.prog 19 #[snapV A B C ca cb cc ns ps os] w fun e w' => e = .returned (snapV A B C ca cb cc (ns.take 12) (ps.take 30) (os.take 12)) ∧ Below w.heap.size w w' := by
  have h0 := Nat.le_trans h.can.1 h.can.2
  have h1 := Nat.le_trans h.cap.1 h.cap.2
  have h2 := Nat.le_trans h.cao.1 h.cao.2
  have hc0 : min (ns.length : Int) 12 ≤ (ca : Int) := by have := h.can.1; omega
  have hc1 : min (ps.length : Int) 30 ≤ (cb : Int) := by have := h.cap.1; omega
  have hc2 : min (os.length : Int) 12 ≤ (cc : Int) := by have := h.cao.1; omega
  have hp0 : (0 : Int) ≤ min (ns.length : Int) 12 := by omega
  have hp1 : (0 : Int) ≤ min (ps.length : Int) 30 := by omega
  have hp2 : (0 : Int) ≤ min (os.length : Int) 12 := by omega
  have hl0 : Hid ((min (ns.length : Int) 12).toNat = (ns.take 12).length) := Lib.hid (by simp; omega)
  have hl1 : Hid ((min (ps.length : Int) 30).toNat = (ps.take 30).length) := Lib.hid (by simp; omega)
  have hl2 : Hid ((min (os.length : Int) 12).toNat = (os.take 12).length) := Lib.hid (by simp; omega)
  clear h
  go_enter Tryz.func19, Tryz.ntmps19
  go_wp2_with fail
  have S9 : Hid (Blk ((w.alloc (.cells (snapC A B C ca cb cc ns ps os) 26)).alloc (.cells #[.slice none 0 0, .slice none 0 0, .slice none 0 0] 26)) w.heap.size (snapC A B C ca cb cc ns ps os) 26) := Lib.hid (Blk.alloc (Blk.new w _ _) _)
  have R9 : Hid (Blk ((w.alloc (.cells (snapC A B C ca cb cc ns ps os) 26)).alloc (.cells #[.slice none 0 0, .slice none 0 0, .slice none 0 0] 26)) (w.heap.size + 1) #[.slice none 0 0, .slice none 0 0, .slice none 0 0] 26) := Lib.hid (blk2 w _ _ _)
  have B9 : Hid (Below w.heap.size w ((w.alloc (.cells (snapC A B C ca cb cc ns ps os) 26)).alloc (.cells #[.slice none 0 0, .slice none 0 0, .slice none 0 0] 26))) := Lib.hid (Qu.below2 w _ _)
  generalize ((w.alloc (.cells (snapC A B C ca cb cc ns ps os) 26)).alloc (.cells #[.slice none 0 0, .slice none 0 0, .slice none 0 0] 26)) = W at S9 R9 B9 ⊢
  obtain ⟨Rb, hRb⟩ : ∃ Rb, w.heap.size + 1 = Rb := ⟨_, rfl⟩
  rw [hRb] at R9 ⊢
  have HRb := Lib.hid hRb
  clear hRb
  have S0 : W.cell? ⟨w.heap.size, 0, none⟩ = some (.slice A ns.length ca) ∧ W.cell? ⟨w.heap.size, 1, none⟩ = some (.slice B ps.length cb) ∧ W.cell? ⟨w.heap.size, 2, none⟩ = some (.slice C os.length cc) := ⟨Blk.cell S9.out 0, Blk.cell S9.out 1, Blk.cell S9.out 2⟩
  have S1 : W.drew.cell? ⟨w.heap.size, 0, none⟩ = some (.slice A ns.length ca) ∧ W.drew.cell? ⟨w.heap.size, 1, none⟩ = some (.slice B ps.length cb) ∧ W.drew.cell? ⟨w.heap.size, 2, none⟩ = some (.slice C os.length cc) := S0
  have r0 : W.cell? ⟨Rb, 0, none⟩ = some (.slice none 0 0) := Blk.cell R9.out 0
  have r1 : W.cell? ⟨Rb, 1, none⟩ = some (.slice none 0 0) := Blk.cell R9.out 1
  have r2 : W.cell? ⟨Rb, 2, none⟩ = some (.slice none 0 0) := Blk.cell R9.out 2
  have f0 := Blk.free R9.out 0
  have f1 := Blk.free R9.out 1
  have f2 := Blk.free R9.out 2
  have hne : w.heap.size ≠ Rb := by have := HRb.out; omega
  have HS3 : Hid (Blk (((W.setCell ⟨Rb, 0, none⟩ (Value.slice A (min (ns.length : Int) 12).toNat ca)).setCell ⟨Rb, 1, none⟩ (Value.slice B (min (ps.length : Int) 30).toNat cb)).setCell ⟨Rb, 2, none⟩ (Value.slice C (min (os.length : Int) 12).toNat cc)) w.heap.size (snapC A B C ca cb cc ns ps os) 26) := Lib.hid (((S9.out.oth hne 0 _).oth hne 1 _).oth hne 2 _)
  have HR3 : Hid (Blk (((W.setCell ⟨Rb, 0, none⟩ (Value.slice A (min (ns.length : Int) 12).toNat ca)).setCell ⟨Rb, 1, none⟩ (Value.slice B (min (ps.length : Int) 30).toNat cb)).setCell ⟨Rb, 2, none⟩ (Value.slice C (min (os.length : Int) 12).toNat cc)) Rb #[Value.slice A (min (ns.length : Int) 12).toNat ca, Value.slice B (min (ps.length : Int) 30).toNat cb, Value.slice C (min (os.length : Int) 12).toNat cc] 26) := Lib.hid (((R9.out.set 0 _).set 1 _).set 2 _)
  have HB3 : Hid (Below w.heap.size w (((W.setCell ⟨Rb, 0, none⟩ (Value.slice A (min (ns.length : Int) 12).toNat ca)).setCell ⟨Rb, 1, none⟩ (Value.slice B (min (ps.length : Int) 30).toNat cb)).setCell ⟨Rb, 2, none⟩ (Value.slice C (min (os.length : Int) 12).toNat cc))) := Lib.hid (by
    have := HRb.out
    exact ((B9.out.setCell (p := ⟨Rb, 0, none⟩) (by show w.heap.size ≤ Rb; omega) _).setCell (p := ⟨Rb, 1, none⟩) (by show w.heap.size ≤ Rb; omega) _).setCell (p := ⟨Rb, 2, none⟩) (by show w.heap.size ≤ Rb; omega) _)
  have S3 : (((W.setCell ⟨Rb, 0, none⟩ (Value.slice A (min (ns.length : Int) 12).toNat ca)).setCell ⟨Rb, 1, none⟩ (Value.slice B (min (ps.length : Int) 30).toNat cb)).setCell ⟨Rb, 2, none⟩ (Value.slice C (min (os.length : Int) 12).toNat cc)).drew.cell? ⟨w.heap.size, 0, none⟩ = some (.slice A ns.length ca) ∧ (((W.setCell ⟨Rb, 0, none⟩ (Value.slice A (min (ns.length : Int) 12).toNat ca)).setCell ⟨Rb, 1, none⟩ (Value.slice B (min (ps.length : Int) 30).toNat cb)).setCell ⟨Rb, 2, none⟩ (Value.slice C (min (os.length : Int) 12).toNat cc)).drew.cell? ⟨w.heap.size, 1, none⟩ = some (.slice B ps.length cb) ∧ (((W.setCell ⟨Rb, 0, none⟩ (Value.slice A (min (ns.length : Int) 12).toNat ca)).setCell ⟨Rb, 1, none⟩ (Value.slice B (min (ps.length : Int) 30).toNat cb)).setCell ⟨Rb, 2, none⟩ (Value.slice C (min (os.length : Int) 12).toNat cc)).drew.cell? ⟨w.heap.size, 2, none⟩ = some (.slice C os.length cc) := ⟨Blk.cell HS3.out 0, Blk.cell HS3.out 1, Blk.cell HS3.out 2⟩
  go_region_held3 (fun w' => w'.cell? ⟨w.heap.size, 0, none⟩ = some (.slice A ns.length ca) ∧ w'.cell? ⟨w.heap.size, 1, none⟩ = some (.slice B ps.length cb) ∧ w'.cell? ⟨w.heap.size, 2, none⟩ = some (.slice C os.length cc))
    (first | (with_reducible exact S1) | (with_reducible exact S0) | (with_reducible exact S3) | go_keep)
    (skip)
  all_goals
    go_wp2_with fail
    rw [hl0.out, hl1.out, hl2.out] at HR3 HB3 ⊢
    refine bodyPost_row1 Tryz.results19 Rb _ _ _ _ (by rfl) (by rfl) (show Blk _ Rb _ _ from HR3.out) Tryz.underlying26 rfl snap_sizeK ?_
    exact ⟨rfl, HB3.out.drew⟩
end Go.Proofs.YtpdaohkpgconkaaGreat

namespace Go.Proofs.YtpdaohkpgconkaaGreat
open Go.RowKit Go.Maps

set_option maxRecDepth 100000 in
set_option maxHeartbeats 16000000 in
theorem safeTells_law (A B C : Option Addr) (ca cb cc : Nat) (ns : List NodeD) (ps : List PodD) (os : List OwnD) (P Q : Option Addr) (cp cq : Nat) (p q : List Int) (w : World) (h : SnapIn w A B C ca cb cc ns ps os) (hp : NumsIn w P cp p) (hq : NumsIn w Q cq q) :
    Calls Tryz.prog 4 #[snapV A B C ca cb cc ns ps os, .slice P p.length cp, .slice Q q.length cq] w fun e w' => e = .returned (.bool true) ∧ Below w.heap.size w w' := by
  have HP9 := Lib.hid hp
  have HQ9 := Lib.hid hq
  clear hp hq
  have B0 : Hid (Below w.heap.size w (w.alloc (.cells (snapC A B C ca cb cc ns ps os) 26))) := Lib.hid (below1 w _)
  have S0 : Hid (Blk (w.alloc (.cells (snapC A B C ca cb cc ns ps os) 26)) w.heap.size (snapC A B C ca cb cc ns ps os) 26) := Lib.hid (Blk.new w _ _)
  have H := Lib.hid (h.take)
  have KW := Lib.hid works9_any
  have HIN := Lib.hid h
  have hn12 : (ns.take 12).length ≤ 12 := List.length_take_le _ _
  have hp30 : (ps.take 30).length ≤ 30 := List.length_take_le _ _
  have ho12 : (os.take 12).length ≤ 12 := List.length_take_le _ _
  have KC := Lib.hid (fun W' (hb : Below w.heap.size w W') => cut9_any A B C ca cb cc ns ps os W' (HIN.out.below8 hb))
  generalize ns.take 12 = n1 at H KC hn12
  generalize ps.take 30 = p1 at H KC hp30
  generalize os.take 12 = o1 at H KC ho12
  clear h HIN
  go_enter Tryz.func4, Tryz.ntmps4
  go_wp2_with fail
  refine (KC.out _ B0.out).mono ?_
  rintro e w2 ⟨rfl, hb2⟩
  have S2 : Hid (Blk w2 w.heap.size (snapC A B C ca cb cc ns ps os) 26) := Lib.hid (S0.out.below hb2 S0.out.lt)
  have B2 : Hid (Below w.heap.size w w2) := Lib.hid (B0.out.trans (hb2.mono B0.out.size))
  clear hb2 S0 B0 KC
  have r0 : w2.cell? ⟨w.heap.size, 0, none⟩ = some (.slice A ns.length ca) := Blk.cell S2.out 0
  have r1 : w2.cell? ⟨w.heap.size, 1, none⟩ = some (.slice B ps.length cb) := Blk.cell S2.out 1
  have r2 : w2.cell? ⟨w.heap.size, 2, none⟩ = some (.slice C os.length cc) := Blk.cell S2.out 2
  have f0 := Blk.free S2.out 0
  have f1 := Blk.free S2.out 1
  have f2 := Blk.free S2.out 2
  have S3 : Hid (Blk (((w2.setCell ⟨w.heap.size, 0, none⟩ (.slice A n1.length ca)).setCell ⟨w.heap.size, 1, none⟩ (.slice B p1.length cb)).setCell ⟨w.heap.size, 2, none⟩ (.slice C o1.length cc)) w.heap.size (snapC A B C ca cb cc n1 p1 o1) 26) := Lib.hid (((S2.out.set 0 _).set 1 _).set 2 _)
  have B3 : Hid (Below w.heap.size w (((w2.setCell ⟨w.heap.size, 0, none⟩ (.slice A n1.length ca)).setCell ⟨w.heap.size, 1, none⟩ (.slice B p1.length cb)).setCell ⟨w.heap.size, 2, none⟩ (.slice C o1.length cc))) := Lib.hid (((B2.out.setCell (p := ⟨w.heap.size, 0, none⟩) (Nat.le_refl _) _).setCell (p := ⟨w.heap.size, 1, none⟩) (Nat.le_refl _) _).setCell (p := ⟨w.heap.size, 2, none⟩) (Nat.le_refl _) _)
  go_upto_region 2 with fail
  clear r0 r1 r2 f0 f1 f2
  generalize (((w2.setCell ⟨w.heap.size, 0, none⟩ (.slice A n1.length ca)).setCell ⟨w.heap.size, 1, none⟩ (.slice B p1.length cb)).setCell ⟨w.heap.size, 2, none⟩ (.slice C o1.length cc)) = W at S3 B3 ⊢
  clear S2 B2
  have HW := Lib.hid (fun W' (hb : Below W.heap.size W W') => (show W'.cell? ⟨w.heap.size, 0, none⟩ = some (.slice A n1.length ca) ∧ W'.cell? ⟨w.heap.size, 1, none⟩ = some (.slice B p1.length cb) ∧ W'.cell? ⟨w.heap.size, 2, none⟩ = some (.slice C o1.length cc) from ⟨Blk.cell (S3.out.below hb S3.out.lt) 0, Blk.cell (S3.out.below hb S3.out.lt) 1, Blk.cell (S3.out.below hb S3.out.lt) 2⟩))
  have HG : Hid (w.heap.size < W.heap.size) := Lib.hid S3.out.lt
  have HT := Lib.hid (fun W' (hb : Below W.heap.size W W') => B3.out.trans (hb.mono B3.out.size))
  have HS := Lib.hid (fun W' (hb : Below W.heap.size W W') => H.out.below (HT.out W' hb))
  have hln := H.out.ln
  have hlp := H.out.lp
  have hlo := H.out.lo
  have HPW := Lib.hid (HP9.out.below B3.out)
  have HQW := Lib.hid (HQ9.out.below B3.out)
  have K1 := Lib.hid (copyInts_any P cp p W HPW.out)
  clear H B3 S3 HP9 HQ9
  go_wp2_with fail
  refine (K1.out).mono ?_
  rintro e V0 ⟨vx, rfl, hox, hb0⟩
  obtain ⟨X, cx, rfl, _⟩ := La.own_slice hox
  have HX0 := Lib.hid (IntsAt.own hox)
  have HPV := Lib.hid (HPW.out.below hb0)
  have HQV := Lib.hid (HQW.out.below hb0)
  have HB0 := Lib.hid hb0
  have K2 := Lib.hid (copyInts_any Q cq q V0 HQV.out)
  clear hox hb0 K1 HPW HQW
  go_wp2_with fail
  refine (K2.out).mono ?_
  rintro e V ⟨vy, rfl, hoy, hb⟩
  obtain ⟨Y, cy, rfl, _⟩ := La.own_slice hoy
  have HB1 := Lib.hid (HB0.out.trans (hb.mono HB0.out.size))
  have HfewP := Lib.hid HPV.out.few
  have HfewQ := Lib.hid HQV.out.few
  have HX := Lib.hid (fun W' (hb' : Below V.heap.size V W') => (HX0.out.below hb).below hb')
  have HY := Lib.hid (fun W' (hb' : Below V.heap.size V W') => (IntsAt.own hoy).below hb')
  have HP := Lib.hid (fun W' (hb' : Below V.heap.size V W') => (HPV.out.below hb).ints.below hb')
  have HQ := Lib.hid (fun W' (hb' : Below V.heap.size V W') => (HQV.out.below hb).ints.below hb')
  have HZ := Lib.hid (fun W' (hb : Below V.heap.size V W') => HW.out W' (HB1.out.trans (hb.mono HB1.out.size)))
  have HTV := Lib.hid (fun W' (hb : Below V.heap.size V W') => HT.out W' (HB1.out.trans (hb.mono HB1.out.size)))
  have HSV := Lib.hid (fun W' (hb : Below V.heap.size V W') => HS.out W' (HB1.out.trans (hb.mono HB1.out.size)))
  clear hoy hb K2 HPV HQV HB0 HB1 HX0 HW HT HS HG
  have hLp := all8_few (p := p) hn12 hp30 ho12
  have hLq := all8_few (p := q) hn12 hp30 ho12
  have k1 := Lib.hid (fun W' (hb : Below V.heap.size V W') => safe_at A B C X ca cb cc cx n1 p1 o1 p W' (HSV.out W' hb) (HX.out W' hb))
  have k2 := Lib.hid (fun W' (hb : Below V.heap.size V W') => safe9_any A B C P ca cb cc cp n1 p1 o1 p hLp (fun _ => sum_zero9 hlp (by omega)) W' (HSV.out W' hb) (HP.out W' hb))
  have k3 := Lib.hid (fun W' (hb : Below V.heap.size V W') => worse_at A B C X Y ca cb cc cx cy n1 p1 o1 p q W' (HSV.out W' hb) (HX.out W' hb) (HY.out W' hb))
  have k4 := Lib.hid (fun W' (hb : Below V.heap.size V W') => worse9_any A B C P Q ca cb cc cp cq n1 p1 o1 p q hLp hLq W' (HSV.out W' hb) (HP.out W' hb) (HQ.out W' hb))
  have k5 := Lib.hid (fun W' (hb : Below V.heap.size V W') => sum_atS A B C X ca cb cc cx n1 p1 o1 p W' (HSV.out W' hb) (HX.out W' hb))
  have k6 := Lib.hid (fun W' (hb : Below V.heap.size V W') => sum9_any A B C P ca cb cc cp n1 p1 o1 p hLp W' (HSV.out W' hb) (HP.out W' hb))
  have hLw : (worseF n1 p1 o1 p q).length ≤ 1000 := by
    unfold worseF worseU
    split
    · exact Nat.le_trans (List.length_filter_le _ _) hLq
    · simp
  generalize worseF n1 p1 o1 p q = L at k3 k4 hLw
  generalize worseE n1 p1 o1 p q = E2 at k3 k4
  generalize safeB n1 p1 o1 p = bb at k1 k2
  generalize sumF n1 p1 o1 p = sm at k5 k6
  generalize placeE n1 p1 o1 p = E at k1 k2 k5 k6
  have hEE : (E == E) = true := by simp
  have hEd : decide (E = E) = true := by simp
  have hE2 : (E2 == E2) = true := by simp
  have hE2d : decide (E2 = E2) = true := by simp
  have hss : (sm == sm) = true := by simp
  have hsd : decide (sm = sm) = true := by simp
  have hbb : (bb == bb) = true := by simp
  have hbd : decide (bb = bb) = true := by simp
  have HB := Lib.hid (Below.refl V.heap.size V)
  clear hn12 hp30 ho12 hLp hLq hln hlp hlo
  have HW := HZ
  clear HZ
  obtain ⟨z0, z1, z2⟩ := HW.out _ HB.out
  go_wp2_with fail
  refine (k1.out _ HB.out).mono ?_
  rintro e V1 ⟨rfl, hb⟩
  have HB := Lib.hid (HB.out.trans (hb.mono HB.out.size))
  clear hb z0 z1 z2
  obtain ⟨z0, z1, z2⟩ := HW.out _ HB.out
  go_wp2_with fail
  refine (k2.out _ HB.out).mono ?_
  rintro e V2 ⟨rfl, hb⟩
  have HB := Lib.hid (HB.out.trans (hb.mono HB.out.size))
  clear hb z0 z1 z2
  obtain ⟨z0, z1, z2⟩ := HW.out _ HB.out
  go_wp2_with fail
  refine (k3.out _ HB.out).mono ?_
  rintro e V3 ⟨va, rfl, hoa, hb⟩
  obtain ⟨Ga, ca2, rfl, _⟩ := La.own_slice hoa
  have TA := Lib.hid (La.own_slat hoa)
  clear hoa
  have HB := Lib.hid (HB.out.trans (hb.mono HB.out.size))
  clear hb z0 z1 z2
  obtain ⟨z0, z1, z2⟩ := HW.out _ HB.out
  go_wp2_with fail
  refine (k4.out _ HB.out).mono ?_
  rintro e V4 ⟨vb, rfl, hob, hb⟩
  have TA := Lib.hid (La.SlAt.below TA.out hb)
  obtain ⟨Gb, cb2, rfl, _⟩ := La.own_slice hob
  have TB := Lib.hid (La.own_slat hob)
  clear hob
  have HB := Lib.hid (HB.out.trans (hb.mono HB.out.size))
  clear hb z0 z1 z2
  obtain ⟨z0, z1, z2⟩ := HW.out _ HB.out
  go_wp2_with fail
  refine (k5.out _ HB.out).mono ?_
  rintro e V5 ⟨rfl, hb⟩
  have TA := Lib.hid (La.SlAt.below TA.out hb)
  have TB := Lib.hid (La.SlAt.below TB.out hb)
  have HB := Lib.hid (HB.out.trans (hb.mono HB.out.size))
  clear hb z0 z1 z2
  obtain ⟨z0, z1, z2⟩ := HW.out _ HB.out
  go_wp2_with fail
  refine (k6.out _ HB.out).mono ?_
  rintro e V6 ⟨rfl, hb⟩
  have TA := Lib.hid (La.SlAt.below TA.out hb)
  have TB := Lib.hid (La.SlAt.below TB.out hb)
  have HB := Lib.hid (HB.out.trans (hb.mono HB.out.size))
  clear hb z0 z1 z2
  obtain ⟨z0, z1, z2⟩ := HW.out _ HB.out
  go_wp2_with fail
  refine (same_cl Ga Gb ca2 cb2 L.length L V6 rfl hLw TA.out TB.out).mono ?_
  rintro e V7 ⟨rfl, hb⟩
  have HB := Lib.hid (HB.out.trans (hb.mono HB.out.size))
  clear hb z0 z1 z2
  obtain ⟨z0, z1, z2⟩ := HW.out _ HB.out
  go_wp2_with fail
  refine (eqSame9 X P cx cp p _ (by have := HfewP.out; omega) (HX.out _ HB.out) (HP.out _ HB.out)).mono ?_
  rintro e V8 ⟨rfl, hb⟩
  have HB := Lib.hid (HB.out.trans (hb.mono HB.out.size))
  clear hb z0 z1 z2
  obtain ⟨z0, z1, z2⟩ := HW.out _ HB.out
  go_wp2_with fail
  refine (eqSame9 Y Q cy cq q _ (by have := HfewQ.out; omega) (HY.out _ HB.out) (HQ.out _ HB.out)).mono ?_
  rintro e V9 ⟨rfl, hb⟩
  have HB := Lib.hid (HB.out.trans (hb.mono HB.out.size))
  clear hb z0 z1 z2
  obtain ⟨z0, z1, z2⟩ := HW.out _ HB.out
  go_wp2_with fail
  refine (KW.out _).mono ?_
  rintro e V10 ⟨rfl, hb⟩
  have HB := Lib.hid (HB.out.trans (hb.mono HB.out.size))
  clear hb z0 z1 z2
  obtain ⟨z0, z1, z2⟩ := HW.out _ HB.out
  have D := Lib.hid (HTV.out _ HB.out)
  go_wp2
  go_ret
  exact ⟨rfl, D.out⟩
end Go.Proofs.YtpdaohkpgconkaaGreat

namespace Go.Proofs.YtpdaohkpgconkaaGreat
open Go.ChangeShapes Go.WideShapes Go.ChangeAt Go.RowKit Go.Deep

theorem bytes_int : Tryz.prog.bytesOf 3 = 8 := by kernel_rfl
set_option maxRecDepth 100000 in
theorem open_intsN {H : Type} {enc : TypeId × Value → H} {W : World} {r : Reach} {b0 : Nat} {held : Bool} {v : Value} {d : DataW H} {p : List MemPlace}
    (hv : Value.okWide Tryz.prog W r b0 44 v) (h : DataW.Trod enc Tryz.prog W 0 (fun _ => true) held 44 v d p) :
    ∃ A c l, v = .slice A (List.length l) c ∧ IntsAt W A c l ∧ (A = none → c = 0) ∧ (l.length = 0 ∨ ∃ es sp, d = .slice es sp ∧ es.length = l.length) := by
  obtain ⟨A, c, l, rfl, hi⟩ := open_intsK hv h
  obtain ⟨fuel, hf⟩ := h
  have hf' : DataW.trod enc Tryz.prog W 0 (fun _ => true) held fuel 44 [.slice A l.length c] = some (d, p) := hf
  rcases open_slice Tryz.underlying44 hf' with ⟨hcs, _⟩ | ⟨a, len, cap, m, n, D, Pl, hcs, _, hl, hm, hmm, hx, _⟩
  · simp only [List.cons.injEq, Value.slice.injEq, and_true] at hcs
    exact ⟨A, c, l, rfl, hi, fun _ => hcs.2.2, .inl hcs.2.1⟩
  · simp only [List.cons.injEq, Value.slice.injEq, and_true] at hcs
    simp only [Prod.mk.injEq] at hx
    refine ⟨A, c, l, rfl, hi, fun e => ?_, .inr ⟨_, _, hx.1, by simp [hcs.2.1]⟩⟩
    rw [hcs.1] at e
    cases e
theorem few_ints {H : Type} {ts : List TypeId} {ds : List (DataW H)} {d : DataW H} {n : Nat} (h : (DataW.weightsEach Tryz.prog ts ds).all (· ≤ reachBytes) = true) {j : Nat} (ht : ts[j]? = some 44) (hd : ds[j]? = some d) (hs : n = 0 ∨ ∃ es sp, d = .slice es sp ∧ es.length = n) :
    n * 8 ≤ 140737488355328 := by
  rcases hs with rfl | ⟨es, sp, rfl, rfl⟩
  · omega
  · have := sized_slice h ht hd Tryz.underlying44
    rw [bytes_int] at this
    simp only [reachBytes] at this
    omega
end Go.Proofs.YtpdaohkpgconkaaGreat

namespace Go.Proofs.YtpdaohkpgconkaaGreat
open Go.RowKit

set_option maxRecDepth 100000 in
set_option maxHeartbeats 4000000 in
theorem fitted9_any (A B C P : Option Addr) (ca cb cc cp : Nat) (ns : List NodeD) (ps : List PodD) (os : List OwnD) (l : List Int) (w : World) (h : SnapAt w A B C ca cb cc ns ps os) (hp : IntsAt w P cp l) :
    Calls Tryz.prog 30 #[snapV A B C ca cb cc ns ps os, .slice P l.length cp] w fun e w' => ∃ v, e = .returned v ∧ w'.ownsRow w.heap.size 3 1 v ps.length (intsC (fitU ns l ps.length)) ∧ Below w.heap.size w w' := by
  have H := Lib.hid h
  have HP := Lib.hid hp
  have hlp := h.lp
  have hln := h.ln
  have hll : l.length ≤ 9223372036854775807 := Nat.le_trans hp.le hp.most
  have B0 : Hid (Below w.heap.size w (w.alloc (.cells (snapC A B C ca cb cc ns ps os) 26))) := Lib.hid (below1 w _)
  have S0 : Hid (Blk (w.alloc (.cells (snapC A B C ca cb cc ns ps os) 26)) w.heap.size (snapC A B C ca cb cc ns ps os) 26) := Lib.hid (Blk.new w _ _)
  obtain ⟨i0, hi0, hz0, hz1, hz2⟩ := info_parts Qu.int_info
  clear h hp
  go_enter Tryz.func30, Tryz.ntmps30
  go_wp2_with fail
  go_loopw [6, 5] (fun i v wr => ∃ k : Nat, k ≤ ps.length ∧ i = .int .i64 k ∧ wr.ownsRow w.heap.size 3 1 v k (intsC (fitU ns l k)) ∧ Below w.heap.size w wr ∧ Blk wr w.heap.size (snapC A B C ca cb cc ns ps os) 26) (fun i _ _ => ps.length - (intOf i).toNat)
  case atStart => exact ⟨0, by omega, rfl, World.ownsRow_nil _ _ _ _, B0.out, S0.out⟩
  case round =>
    clear B0 S0
    obtain ⟨k, hk, rfl, ho, hb, hs⟩ := hrel
    have HO := Lib.hid ho
    have HB := Lib.hid hb
    have HS := Lib.hid hs
    clear ho hb hs
    have s0 : wr.cell? ⟨w.heap.size, 0, none⟩ = some (.slice A ns.length ca) := Blk.cell HS.out 0
    have s1 : wr.cell? ⟨w.heap.size, 1, none⟩ = some (.slice B ps.length cb) := Blk.cell HS.out 1
    by_cases hlt : k < ps.length
    · have E : Hid (fitU ns l (k + 1) = fitU ns l k ++ [fit1 ns l k]) := Lib.hid rfl
      have E1 : Hid (fit1 ns l k = if tpB ns (fitN ns l k) then fitN ns l k else -1) := Lib.hid rfl
      have EN := Lib.hid (fitN_in ns l k)
      have k0 : (0 : Int) ≤ (k : Int) := by omega
      have k1 : (k : Int) < (ps.length : Int) := by omega
      have hkm : Hid (k + 1 ≤ maxLen) := Lib.hid (by unfold maxLen; omega)
      have hkc : Hid ((k + 1) * 8 ≤ 140737488355328) := Lib.hid (by omega)
      go_upto_if 18 with fail
      go_cut [7] (fun v wc => v = .int .i64 (fitN ns l k) ∧ (wc = wr ∨ wc = wr.drew))
      case first =>
        by_cases hkl : k < l.length
        · obtain ⟨x, hx⟩ : ∃ x, l[k]? = some x := ⟨l[k], List.getElem?_eq_getElem hkl⟩
          have FX : Hid (fitN ns l k = x % ((ns.length : Int) + 1) - 1) := Lib.hid (by unfold fitN; rw [hx])
          obtain ⟨b, o, hA, hbl, c0⟩ := atI (HP.out.below (HB.out.mono (Nat.le_refl _))).cells hx
          subst hA
          have k2 : (k : Int) < (l.length : Int) := by omega
          have hw1 : Hid (IntKind.i64.wrap ((ns.length : Int) + 1) = (ns.length : Int) + 1) := Lib.hid (IntWalk.i64_in _ (by omega))
          have BR := Lib.hid (fun W => Qu.bring_any x ((ns.length : Int) + 1) W (by omega) (by omega))
          have S0 : wr.drew.cell? ⟨w.heap.size, 0, none⟩ = some (.slice (A) ns.length ca) := s0
          have C0 : wr.drew.cell? ⟨b, o + k, none⟩ = some (.int .i64 x) := c0
          have em0 := Int.emod_nonneg x (show (ns.length : Int) + 1 ≠ 0 by omega)
          have em1 := Int.emod_lt_of_pos x (show (0 : Int) < (ns.length : Int) + 1 by omega)
          have hw2 : Hid (IntKind.i64.wrap (x % ((ns.length : Int) + 1) - 1) = x % ((ns.length : Int) + 1) - 1) := Lib.hid (IntWalk.i64_in _ (by omega))
          go_upto_region 7 with fail
          go_region_held3 (fun w' => w'.cell? ⟨w.heap.size, 0, none⟩ = some (.slice A ns.length ca) ∧ w'.cell? ⟨b, o + k, none⟩ = some (.int .i64 x))
            (first | (with_reducible exact ⟨S0, C0⟩) | (with_reducible exact ⟨s0, c0⟩) | go_keep)
            ((go_at_call 60; (rw [hw1.out]); (with_reducible refine (BR.out _).mono ?_); rintro e w3 ⟨rfl, rfl⟩))
          all_goals
            go_wp2_with fail
            go_meet
            exact ⟨by rw [FX.out, hw2.out], .inr rfl⟩
        · have FX : Hid (fitN ns l k = -1) := Lib.hid (by unfold fitN; rw [List.getElem?_eq_none (by omega)])
          go_wp2_with fail
          go_meet
          exact ⟨by rw [FX.out], .inl rfl⟩
      case rest =>
        obtain ⟨rfl, hwc⟩ := hcut
        have HO1 : Hid (wc.ownsRow w.heap.size 3 1 u5 k (intsC (fitU ns l k))) := by
          rcases hwc with rfl | rfl
          · exact HO
          · exact Lib.hid (show World.ownsRow wr.drew _ _ _ _ _ _ from HO.out)
        have HB1 : Hid (Below w.heap.size w wc) := by
          rcases hwc with rfl | rfl
          · exact HB
          · exact Lib.hid HB.out.drew
        have HS1 : Hid (Blk wc w.heap.size (snapC A B C ca cb cc ns ps os) 26) := by
          rcases hwc with rfl | rfl
          · exact HS
          · exact Lib.hid (show Blk wr.drew _ _ _ from HS.out)
        have z0 : wc.cell? ⟨w.heap.size, 0, none⟩ = some (.slice A ns.length ca) := Blk.cell HS1.out 0
        clear HO HB HS s0 s1 hwc
        obtain ⟨N, hN⟩ : ∃ N, fitN ns l k = N := ⟨_, rfl⟩
        rw [hN] at E1 EN
        rw [hN]
        clear hN
        by_cases hn : 0 ≤ N ∧ N < (ns.length : Int)
        · obtain ⟨hn0, hn1⟩ := hn
          obtain ⟨n, rfl⟩ : ∃ n : Nat, N = (n : Int) := ⟨N.toNat, by omega⟩
          have hnl : n < ns.length := by omega
          obtain ⟨x, hx⟩ : ∃ x, ns[n]? = some x := ⟨ns[n], List.getElem?_eq_getElem hnl⟩
          obtain ⟨b, o, hA, hbl, c0, c1, c2, c3, c4, c5, c6, c7, c8, c9⟩ := atN (H.out.below HB1.out).n.cells hx
          subst hA
          have T : Hid (tpB ns (n : Int) = !x.lost) := Lib.hid (by unfold tpB; rw [Int.toNat_natCast, hx]; simp)
          clear hx c0 c1 c2 c3 c4 c5 c6 c7 c8
          obtain ⟨r, hr⟩ : ∃ r, x.lost = r := ⟨_, rfl⟩
          rw [hr] at c9 T
          clear hr
          cases r with
          | false =>
            have F : Hid (fit1 ns l k = (n : Int)) := Lib.hid (by rw [E1.out, T.out]; rfl)
            go_wp2_with (at_builtin; refine wpList_append_own _ rfl _ _ 44 rfl w.heap.size 3 i0 (.int .i64 0) 1 8 Tryz.underlying44 hi0 hz0 hz1 hz2 rfl (by decide) _ _ _ rfl (show World.ownsRow _ _ _ _ _ _ _ from HO1.out.alloc _) ⟨wc.heap.size, 0, none⟩ 1 1 [.int .i64 (n : Int)] rfl rfl ?c1 ?c2 ?c3 ?c4 ?c5 ?_)
            case c1 =>
              intro j u hj
              match j, hj with
              | 0, hj => simp at hj; subst hj; simp [Addr.add]
            case c2 => first | rfl | (intro u hu; simp at hu; subst hu; rfl)
            case c3 => have := hkm.out; omega
            case c4 => have := hkc.out; omega
            case c5 => have := HB1.out.size; simp; omega
            intro v' w2 hown' hgrow' _
            have hwz : w.heap.size < wc.heap.size := Blk.lt HS1.out
            have HO2 := Lib.hid hown'
            have HW2 := Lib.hid ((HB1.out.alloc HB1.out.size (.cells #[.int .i64 (n : Int)] 3)).grown hgrow' (by have := HB1.out.size; simp; omega) (fun j hj => own_gem HO1.out hj))
            have HS2 : Hid (Blk w2 w.heap.size (snapC (some ⟨b, o, none⟩) B C ca cb cc ns ps os) 26) := Lib.hid (Blk.kept (Blk.alloc HS1.out (.cells #[.int .i64 (n : Int)] 3)) hgrow' (fun e => by
              have he := e.symm
              rcases HO1.out.2 with ⟨hv, _⟩ | ⟨g, cap, cur, hv, hbg, hg, _⟩
              · rw [hv] at he; cases he
              · rw [hv] at he
                simp only [Value.ownBlock, Option.some.injEq] at he
                subst he
                have h1 := HS1.out
                unfold Blk at h1
                rw [hg] at h1
                cases h1))
            clear hown' hgrow'
            go_wp2
            go_roundw
            case rel =>
              refine ⟨k + 1, by omega, by go_num, ?_, HW2.out, HS2.out⟩
              rw [E.out, F.out]
              simpa [intsC] using HO2.out
            case measure => simp [intOf]; omega
          | true =>
            have F : Hid (fit1 ns l k = -1) := Lib.hid (by rw [E1.out, T.out]; rfl)
            go_wp2_with (at_builtin; refine wpList_append_own _ rfl _ _ 44 rfl w.heap.size 3 i0 (.int .i64 0) 1 8 Tryz.underlying44 hi0 hz0 hz1 hz2 rfl (by decide) _ _ _ rfl (show World.ownsRow _ _ _ _ _ _ _ from HO1.out.alloc _) ⟨wc.heap.size, 0, none⟩ 1 1 [.int .i64 (-1)] rfl rfl ?c1 ?c2 ?c3 ?c4 ?c5 ?_)
            case c1 =>
              intro j u hj
              match j, hj with
              | 0, hj => simp at hj; subst hj; simp [Addr.add]
            case c2 => first | rfl | (intro u hu; simp at hu; subst hu; rfl)
            case c3 => have := hkm.out; omega
            case c4 => have := hkc.out; omega
            case c5 => have := HB1.out.size; simp; omega
            intro v' w2 hown' hgrow' _
            have hwz : w.heap.size < wc.heap.size := Blk.lt HS1.out
            have HO2 := Lib.hid hown'
            have HW2 := Lib.hid ((HB1.out.alloc HB1.out.size (.cells #[.int .i64 (-1)] 3)).grown hgrow' (by have := HB1.out.size; simp; omega) (fun j hj => own_gem HO1.out hj))
            have HS2 : Hid (Blk w2 w.heap.size (snapC (some ⟨b, o, none⟩) B C ca cb cc ns ps os) 26) := Lib.hid (Blk.kept (Blk.alloc HS1.out (.cells #[.int .i64 (-1)] 3)) hgrow' (fun e => by
              have he := e.symm
              rcases HO1.out.2 with ⟨hv, _⟩ | ⟨g, cap, cur, hv, hbg, hg, _⟩
              · rw [hv] at he; cases he
              · rw [hv] at he
                simp only [Value.ownBlock, Option.some.injEq] at he
                subst he
                have h1 := HS1.out
                unfold Blk at h1
                rw [hg] at h1
                cases h1))
            clear hown' hgrow'
            go_wp2
            go_roundw
            case rel =>
              refine ⟨k + 1, by omega, by go_num, ?_, HW2.out, HS2.out⟩
              rw [E.out, F.out]
              simpa [intsC] using HO2.out
            case measure => simp [intOf]; omega
        · obtain rfl : N = -1 := by have := EN.out; omega
          have F : Hid (fit1 ns l k = -1) := Lib.hid (by rw [E1.out, ite_self])
          clear hn
          go_wp2_with (at_builtin; refine wpList_append_own _ rfl _ _ 44 rfl w.heap.size 3 i0 (.int .i64 0) 1 8 Tryz.underlying44 hi0 hz0 hz1 hz2 rfl (by decide) _ _ _ rfl (show World.ownsRow _ _ _ _ _ _ _ from HO1.out.alloc _) ⟨wc.heap.size, 0, none⟩ 1 1 [.int .i64 (-1)] rfl rfl ?c1 ?c2 ?c3 ?c4 ?c5 ?_)
          try case c1 =>
            intro j u hj
            match j, hj with
            | 0, hj => simp at hj; subst hj; simp [Addr.add]
          case c2 => first | rfl | (intro u hu; simp at hu; subst hu; rfl)
          case c3 => have := hkm.out; omega
          case c4 => have := hkc.out; omega
          case c5 => have := HB1.out.size; simp; omega
          intro v' w2 hown' hgrow' _
          have hwz : w.heap.size < wc.heap.size := Blk.lt HS1.out
          have HO2 := Lib.hid hown'
          have HW2 := Lib.hid ((HB1.out.alloc HB1.out.size (.cells #[.int .i64 (-1)] 3)).grown hgrow' (by have := HB1.out.size; simp; omega) (fun j hj => own_gem HO1.out hj))
          have HS2 : Hid (Blk w2 w.heap.size (snapC A B C ca cb cc ns ps os) 26) := Lib.hid (Blk.kept (Blk.alloc HS1.out (.cells #[.int .i64 (-1)] 3)) hgrow' (fun e => by
            have he := e.symm
            rcases HO1.out.2 with ⟨hv, _⟩ | ⟨g, cap, cur, hv, hbg, hg, _⟩
            · rw [hv] at he; cases he
            · rw [hv] at he
              simp only [Value.ownBlock, Option.some.injEq] at he
              subst he
              have h1 := HS1.out
              unfold Blk at h1
              rw [hg] at h1
              cases h1))
          clear hown' hgrow'
          go_wp2
          go_roundw
          case rel =>
            refine ⟨k + 1, by omega, by go_num, ?_, HW2.out, HS2.out⟩
            rw [E.out, F.out]
            simpa [intsC] using HO2.out
          case measure => simp [intOf]; omega
    · obtain rfl : k = ps.length := by omega
      go_wp2
      go_ret
      exact ⟨_, rfl, HO.out, HB.out⟩
end Go.Proofs.YtpdaohkpgconkaaGreat

namespace Go.Proofs.YtpdaohkpgconkaaGreat
open Go.RowKit

theorem fitted9_ints (A B C P : Option Addr) (ca cb cc cp : Nat) (ns : List NodeD) (ps : List PodD) (os : List OwnD) (l : List Int) (w : World) (h : SnapAt w A B C ca cb cc ns ps os) (hp : IntsAt w P cp l) :
    Calls Tryz.prog 30 #[snapV A B C ca cb cc ns ps os, .slice P l.length cp] w fun e w' => ∃ Q c, e = .returned (.slice Q (fitU ns l ps.length).length c) ∧ IntsAt w' Q c (fitU ns l ps.length) ∧ Below w.heap.size w w' := by
  refine (fitted9_any A B C P ca cb cc cp ns ps os l w h hp).mono ?_
  rintro e w' ⟨v, rfl, ho, hb⟩
  obtain ⟨g, c, rfl, _⟩ := La.own_slice ho
  have e := fitU_len ns l ps.length
  refine ⟨g, c, by rw [e], IntsAt.own (base := w.heap.size) (by rw [e]; exact ho), hb⟩
end Go.Proofs.YtpdaohkpgconkaaGreat

namespace Go.Proofs.YtpdaohkpgconkaaGreat
open Go.RowKit Go.Maps

set_option maxRecDepth 100000 in
set_option maxHeartbeats 16000000 in
theorem safeKeeps_law (A B C : Option Addr) (ca cb cc : Nat) (ns : List NodeD) (ps : List PodD) (os : List OwnD) (P Q : Option Addr) (cp cq : Nat) (l m : List Int) (w : World) (h : SnapIn w A B C ca cb cc ns ps os) (hp : IntsAt w P cp l) (hq : IntsAt w Q cq m) :
    Calls Tryz.prog 5 #[snapV A B C ca cb cc ns ps os, .slice P l.length cp, .slice Q m.length cq] w fun e w' => e = .returned (.bool true) ∧ Below w.heap.size w w' := by
  have HP := Lib.hid hp
  have HQ := Lib.hid hq
  clear hp hq
  have B0 : Hid (Below w.heap.size w (w.alloc (.cells (snapC A B C ca cb cc ns ps os) 26))) := Lib.hid (below1 w _)
  have S0 : Hid (Blk (w.alloc (.cells (snapC A B C ca cb cc ns ps os) 26)) w.heap.size (snapC A B C ca cb cc ns ps os) 26) := Lib.hid (Blk.new w _ _)
  have H := Lib.hid (h.take)
  have KW := Lib.hid works9_any
  have HIN := Lib.hid h
  have hn12 : (ns.take 12).length ≤ 12 := List.length_take_le _ _
  have hp30 : (ps.take 30).length ≤ 30 := List.length_take_le _ _
  have ho12 : (os.take 12).length ≤ 12 := List.length_take_le _ _
  have KC := Lib.hid (fun W' (hb : Below w.heap.size w W') => cut9_any A B C ca cb cc ns ps os W' (HIN.out.below8 hb))
  generalize ns.take 12 = n1 at H KC hn12
  generalize ps.take 30 = p1 at H KC hp30
  generalize os.take 12 = o1 at H KC ho12
  clear h HIN
  go_enter Tryz.func5, Tryz.ntmps5
  go_wp2_with fail
  refine (KW.out _).mono ?_
  rintro e w0 ⟨rfl, hbk⟩
  have S0 := Lib.hid (S0.out.below hbk S0.out.lt)
  have B0 := Lib.hid (B0.out.trans (hbk.mono B0.out.size))
  clear hbk
  have z0 : w0.cell? ⟨w.heap.size, 0, none⟩ = some (.slice A ns.length ca) := Blk.cell S0.out 0
  have z1 : w0.cell? ⟨w.heap.size, 1, none⟩ = some (.slice B ps.length cb) := Blk.cell S0.out 1
  have z2 : w0.cell? ⟨w.heap.size, 2, none⟩ = some (.slice C os.length cc) := Blk.cell S0.out 2
  go_wp2_with fail
  refine (KC.out _ B0.out).mono ?_
  rintro e w2 ⟨rfl, hb2⟩
  have S2 : Hid (Blk w2 w.heap.size (snapC A B C ca cb cc ns ps os) 26) := Lib.hid (S0.out.below hb2 S0.out.lt)
  have B2 : Hid (Below w.heap.size w w2) := Lib.hid (B0.out.trans (hb2.mono B0.out.size))
  clear hb2 S0 B0 KC z0 z1 z2
  have r0 : w2.cell? ⟨w.heap.size, 0, none⟩ = some (.slice A ns.length ca) := Blk.cell S2.out 0
  have r1 : w2.cell? ⟨w.heap.size, 1, none⟩ = some (.slice B ps.length cb) := Blk.cell S2.out 1
  have r2 : w2.cell? ⟨w.heap.size, 2, none⟩ = some (.slice C os.length cc) := Blk.cell S2.out 2
  have f0 := Blk.free S2.out 0
  have f1 := Blk.free S2.out 1
  have f2 := Blk.free S2.out 2
  have S3 : Hid (Blk (((w2.setCell ⟨w.heap.size, 0, none⟩ (.slice A n1.length ca)).setCell ⟨w.heap.size, 1, none⟩ (.slice B p1.length cb)).setCell ⟨w.heap.size, 2, none⟩ (.slice C o1.length cc)) w.heap.size (snapC A B C ca cb cc n1 p1 o1) 26) := Lib.hid (((S2.out.set 0 _).set 1 _).set 2 _)
  have B3 : Hid (Below w.heap.size w (((w2.setCell ⟨w.heap.size, 0, none⟩ (.slice A n1.length ca)).setCell ⟨w.heap.size, 1, none⟩ (.slice B p1.length cb)).setCell ⟨w.heap.size, 2, none⟩ (.slice C o1.length cc))) := Lib.hid (((B2.out.setCell (p := ⟨w.heap.size, 0, none⟩) (Nat.le_refl _) _).setCell (p := ⟨w.heap.size, 1, none⟩) (Nat.le_refl _) _).setCell (p := ⟨w.heap.size, 2, none⟩) (Nat.le_refl _) _)
  go_upto_region 4 with fail
  clear r0 r1 r2 f0 f1 f2
  generalize (((w2.setCell ⟨w.heap.size, 0, none⟩ (.slice A n1.length ca)).setCell ⟨w.heap.size, 1, none⟩ (.slice B p1.length cb)).setCell ⟨w.heap.size, 2, none⟩ (.slice C o1.length cc)) = W at S3 B3 ⊢
  clear S2 B2
  have HW := Lib.hid (fun W' (hb : Below W.heap.size W W') => (show W'.cell? ⟨w.heap.size, 0, none⟩ = some (.slice A n1.length ca) ∧ W'.cell? ⟨w.heap.size, 1, none⟩ = some (.slice B p1.length cb) ∧ W'.cell? ⟨w.heap.size, 2, none⟩ = some (.slice C o1.length cc) from ⟨Blk.cell (S3.out.below hb S3.out.lt) 0, Blk.cell (S3.out.below hb S3.out.lt) 1, Blk.cell (S3.out.below hb S3.out.lt) 2⟩))
  have HG : Hid (w.heap.size < W.heap.size) := Lib.hid S3.out.lt
  have HT := Lib.hid (fun W' (hb : Below W.heap.size W W') => B3.out.trans (hb.mono B3.out.size))
  have HS := Lib.hid (fun W' (hb : Below W.heap.size W W') => H.out.below (HT.out W' hb))
  have hln := H.out.ln
  have hlp := H.out.lp
  have hlo := H.out.lo
  have KF1 := Lib.hid (fun W' (hb : Below W.heap.size W W') => fitted9_ints A B C P ca cb cc cp n1 p1 o1 l W' (HS.out W' hb) (HP.out.below (HT.out W' hb)))
  have KF2 := Lib.hid (fun W' (hb : Below W.heap.size W W') => fitted9_ints A B C Q ca cb cc cq n1 p1 o1 m W' (HS.out W' hb) (HQ.out.below (HT.out W' hb)))
  have EP := Lib.hid (And.intro (fitU_len n1 l p1.length) (fitU_ok n1 l p1.length))
  have EQ := Lib.hid (And.intro (fitU_len n1 m p1.length) (fitU_ok n1 m p1.length))
  generalize fitU n1 l p1.length = p at KF1 EP
  generalize fitU n1 m p1.length = q at KF2 EQ
  clear H HP HQ B3 S3
  have D0 : Hid (Below W.heap.size W W) := Lib.hid (Below.refl _ _)
  have D1 : Hid (Below W.heap.size W W.drew) := Lib.hid D0.out.drew
  have z0 := HW.out W D0.out
  have z1 := HW.out W.drew D1.out
  go_cut [7, 8] (fun v7 v8 wc => ∃ A1 c1 A2 c2, v7 = .slice A1 p.length c1 ∧ v8 = .slice A2 q.length c2 ∧ IntsAt wc A1 c1 p ∧ IntsAt wc A2 c2 q ∧ Below W.heap.size W wc)
  case first =>
    go_region_held3 (fun w' => w'.cell? ⟨w.heap.size, 0, none⟩ = some (.slice A n1.length ca) ∧ w'.cell? ⟨w.heap.size, 1, none⟩ = some (.slice B p1.length cb) ∧ w'.cell? ⟨w.heap.size, 2, none⟩ = some (.slice C o1.length cc))
      (first | (with_reducible exact z1) | (with_reducible exact z0) | (with_reducible exact z3) | (with_reducible exact z4) | go_keep)
      (first
        | (go_at_call 30; (with_reducible refine (KF1.out _ (by first | exact D1.out | exact D0.out)).mono ?_); rintro e w3 ⟨A1, c1, rfl, i1, hb3⟩; have D3 : Hid (Below W.heap.size W w3) := Lib.hid (D1.out.trans (hb3.mono (by first | exact D1.out.size | exact D0.out.size))); have I1 := Lib.hid i1; clear i1 hb3; have z3 := HW.out w3 D3.out)
        | (go_at_call 30; (with_reducible refine (KF2.out _ D3.out).mono ?_); rintro e w4 ⟨A2, c2, rfl, i2, hb4⟩; have D4 : Hid (Below W.heap.size W w4) := Lib.hid (D3.out.trans (hb4.mono D3.out.size)); have I3 := Lib.hid (I1.out.below hb4); have I4 := Lib.hid i2; clear i2 hb4; have z4 := HW.out w4 D4.out)
        | skip)
    all_goals
      go_wp2_with fail
      go_meet
      exact ⟨_, _, _, _, rfl, rfl, I3.out, I4.out, D4.out⟩
  case' rest => obtain ⟨X, cx, Y, cy, rfl, rfl, i1, i2, hb⟩ := hcut
  have I1 := Lib.hid i1
  have I2 := Lib.hid i2
  have HB0 := Lib.hid hb
  clear i1 i2 hb D0 D1 z0 z1 KF1 KF2 hn12 hp30 ho12
  have HX := Lib.hid (fun W' (hb : Below wc.heap.size wc W') => I1.out.below hb)
  have HY := Lib.hid (fun W' (hb : Below wc.heap.size wc W') => I2.out.below hb)
  have HZ := Lib.hid (fun W' (hb : Below wc.heap.size wc W') => HW.out W' (HB0.out.trans (hb.mono HB0.out.size)))
  have HTV := Lib.hid (fun W' (hb : Below wc.heap.size wc W') => HT.out W' (HB0.out.trans (hb.mono HB0.out.size)))
  have HSV := Lib.hid (fun W' (hb : Below wc.heap.size wc W') => HS.out W' (HB0.out.trans (hb.mono HB0.out.size)))
  have HF12 : Hid ((all8 n1 p1 o1 q).length ≤ 12000) := Lib.hid (all8_fine (HS.out _ (Below.refl _ W)) q).2
  clear I1 I2 HW HT HS HG HB0
  have k1 := Lib.hid (fun W' (hb : Below wc.heap.size wc W') => safe_at A B C X ca cb cc cx n1 p1 o1 p W' (HSV.out W' hb) (HX.out W' hb))
  have k2 := Lib.hid (fun W' (hb : Below wc.heap.size wc W') => safe_at A B C Y ca cb cc cy n1 p1 o1 q W' (HSV.out W' hb) (HY.out W' hb))
  have k3 := Lib.hid (fun W' (hb : Below wc.heap.size wc W') => sum_atS A B C Y ca cb cc cy n1 p1 o1 q W' (HSV.out W' hb) (HY.out W' hb))
  have k4 := Lib.hid (fun W' (hb : Below wc.heap.size wc W') => worse_at A B C X Y ca cb cc cx cy n1 p1 o1 p q W' (HSV.out W' hb) (HX.out W' hb) (HY.out W' hb))
  have k5 := Lib.hid (fun W' (hb : Below wc.heap.size wc W') => pcheck_any A B C X ca cb cc cx n1 p1 o1 p W' (HSV.out W' hb) (HX.out W' hb))
  have k6 := Lib.hid (fun W' (hb : Below wc.heap.size wc W') => brokenP_any A B C Y ca cb cc cy n1 p1 o1 q HF12.out W' (HSV.out W' hb) (HY.out W' hb))
  have F0 : Hid (placeE n1 p1 o1 p ≠ 0 → safeB n1 p1 o1 p = false ∧ worseF n1 p1 o1 p q = [] ∧ worseE n1 p1 o1 p q = placeE n1 p1 o1 p) := Lib.hid (fun h => by
    refine ⟨?_, ?_, ?_⟩
    · unfold safeB
      rw [decide_eq_false h]
      rfl
    · unfold worseF
      rw [if_neg h]
    · unfold worseE
      rw [if_neg h])
  have F1 : Hid (placeE n1 p1 o1 p = 0 → placeE n1 p1 o1 q = 0 ∧ worseE n1 p1 o1 p q = 0 ∧ (safeB n1 p1 o1 q = true ↔ sumF n1 p1 o1 q = 0) ∧ (safeB n1 p1 o1 q = true ↔ (all8 n1 p1 o1 q).filter brokC = []) ∧ (safeB n1 p1 o1 p = true → worseF n1 p1 o1 p q = [] → safeB n1 p1 o1 q = true)) := Lib.hid (fun h => by
    have hq := placeE_of (placeE_zero h).1 EQ.out.1 EQ.out.2
    refine ⟨hq, ?_, ?_, safe_is hq, ?_⟩
    · unfold worseE
      rw [if_pos h, hq]
    · rw [safe_is hq]
      exact (sum_zero9 hlp HF12.out).symm
    · intro ha hw
      unfold worseF at hw
      rw [if_pos h] at hw
      exact keeps9 hq ha hw)
  have HLP := Lib.hid (EP.out.1)
  have HLQ := Lib.hid (EQ.out.1)
  clear EP EQ HF12
  generalize worseF n1 p1 o1 p q = L at k4 F0 F1
  generalize worseE n1 p1 o1 p q = E2 at k4 F0 F1
  generalize safeB n1 p1 o1 p = ba at k1 F0 F1
  generalize safeB n1 p1 o1 q = bq at k2 F1
  generalize sumF n1 p1 o1 q = sm at k3 F1
  generalize (all8 n1 p1 o1 q).filter brokC = LB at k6 F1
  generalize placeE n1 p1 o1 p = E at k1 k5 F0 F1
  generalize placeE n1 p1 o1 q = Eq at k2 k3 F1
  have HB := Lib.hid (Below.refl wc.heap.size wc)
  have HW := HZ
  clear HZ
  obtain ⟨z0, z1, z2⟩ := HW.out _ HB.out
  go_wp2_with fail
  refine (k1.out _ HB.out).mono ?_
  rintro e V1 ⟨rfl, hb⟩
  have HB := Lib.hid (HB.out.trans (hb.mono HB.out.size))
  clear hb z0 z1 z2
  obtain ⟨z0, z1, z2⟩ := HW.out _ HB.out
  go_wp2_with fail
  refine (k2.out _ HB.out).mono ?_
  rintro e V2 ⟨rfl, hb⟩
  have HB := Lib.hid (HB.out.trans (hb.mono HB.out.size))
  clear hb z0 z1 z2
  obtain ⟨z0, z1, z2⟩ := HW.out _ HB.out
  go_wp2_with fail
  refine (k3.out _ HB.out).mono ?_
  rintro e V3 ⟨rfl, hb⟩
  have HB := Lib.hid (HB.out.trans (hb.mono HB.out.size))
  clear hb z0 z1 z2
  obtain ⟨z0, z1, z2⟩ := HW.out _ HB.out
  go_wp2_with fail
  refine (k4.out _ HB.out).mono ?_
  rintro e V4 ⟨va, rfl, hoa, hb⟩
  obtain ⟨Ga, ca2, rfl, _⟩ := La.own_slice hoa
  have TA := Lib.hid (La.own_slat hoa)
  clear hoa
  have HB := Lib.hid (HB.out.trans (hb.mono HB.out.size))
  clear hb z0 z1 z2
  obtain ⟨z0, z1, z2⟩ := HW.out _ HB.out
  clear k1 k2 k3 k4
  by_cases hE : E = 0
  case neg =>
    obtain ⟨rfl, rfl, rfl⟩ := F0.out hE
    have hne : (E2 != 0) = true := by simpa using hE
    have hEE : (E2 == E2) = true := by simp
    have hEd : decide (E2 = E2) = true := by simp
    clear F1 hE
    go_wp2_with fail
    refine (k5.out _ HB.out).mono ?_
    rintro e V5 ⟨rfl, hb⟩
    have D := Lib.hid (HTV.out _ (HB.out.trans (hb.mono HB.out.size)))
    go_wp2
    go_ret
    exact ⟨rfl, D.out⟩
  obtain ⟨rfl, rfl, h1, h2, h3⟩ := F1.out hE
  subst hE
  have H3 := Lib.hid h3
  clear F0 F1 k5 h3
  cases bq with
  | true =>
    obtain rfl := h1.1 rfl
    obtain rfl := h2.1 rfl
    clear h1 h2 H3
    go_wp2_with fail
    refine (k6.out _ HB.out).mono ?_
    rintro e V5 ⟨vb, rfl, hob, hb⟩
    obtain ⟨Gb, cb2, rfl, _⟩ := La.own_slice hob
    have D := Lib.hid (HTV.out _ (HB.out.trans (hb.mono HB.out.size)))
    clear hob hb z0 z1 z2
    cases ba with
    | false =>
      go_wp2
      go_ret
      exact ⟨rfl, D.out⟩
    | true =>
      by_cases hL : 0 < L.length
      · have hl1 : (0 : Int) < (L.length : Int) := by omega
        have hl2 : decide ((0 : Int) < (L.length : Int)) = true := decide_eq_true hl1
        have hl3 : decide (0 < L.length) = true := decide_eq_true hL
        go_wp2
        go_ret
        exact ⟨rfl, D.out⟩
      · have hl0 : L.length = 0 := by omega
        rw [hl0]
        go_wp2
        go_ret
        exact ⟨rfl, D.out⟩
  | false =>
    have hs0 : sm ≠ 0 := fun e => by have := h1.2 e; cases this
    have hsb : (sm == 0) = false := by simpa using hs0
    have hsd : decide (sm = 0) = false := decide_eq_false hs0
    have hlb : LB.length ≠ 0 := fun e => by have := h2.2 (List.length_eq_zero_iff.1 e); cases this
    have hlb1 : ((LB.length : Int) == 0) = false := by simpa using hlb
    have hlb2 : decide ((LB.length : Int) = 0) = false := decide_eq_false (by omega)
    have hlb3 : decide (LB.length = 0) = false := decide_eq_false hlb
    have HL := Lib.hid hlb
    clear h1 h2 hs0 hlb
    go_wp2_with fail
    refine (k6.out _ HB.out).mono ?_
    rintro e V5 ⟨vb, rfl, hob, hb⟩
    obtain ⟨Gb, cb2, rfl, _⟩ := La.own_slice hob
    have D := Lib.hid (HTV.out _ (HB.out.trans (hb.mono HB.out.size)))
    clear hob hb z0 z1 z2
    cases ba with
    | false =>
      go_wp2
      go_ret
      exact ⟨rfl, D.out⟩
    | true =>
      have hL : L ≠ [] := fun e => by have := H3.out rfl e; cases this
      have hL0 : 0 < L.length := List.length_pos_iff.2 hL
      have hl1 : (0 : Int) < (L.length : Int) := by omega
      have hl2 : decide ((0 : Int) < (L.length : Int)) = true := decide_eq_true hl1
      have hl3 : decide (0 < L.length) = true := decide_eq_true hL0
      go_wp2
      go_ret
      exact ⟨rfl, D.out⟩
end Go.Proofs.YtpdaohkpgconkaaGreat

namespace Go.Proofs.YtpdaohkpgconkaaGreat
open Go.RowKit Go.Maps

theorem snap_none (w : World) : SnapAt w none none none 0 0 0 [] [] [] :=
  ⟨⟨fun k v h => by simp [cellsN] at h, fun x hx => (by cases hx)⟩, ⟨fun k v h => by simp [cellsP] at h, fun x hx => (by cases hx)⟩, fun k v h => by simp [cellsO] at h, fun x hx => (by cases hx), by simp, by simp, by simp, by simp, by simp, by simp⟩
theorem ints_none (w : World) : IntsAt w none 0 [] := ⟨fun k v h => by simp [intsC] at h, by simp, by omega⟩

set_option maxRecDepth 100000 in
set_option maxHeartbeats 8000000 in
theorem safeNames_law (w : World) :
    Calls Tryz.prog 6 #[] w fun e w' => e = .returned (.bool true) ∧ Below w.heap.size w w' := by
  have KC := Lib.hid (chapter9_any w)
  go_enter Tryz.func6, Tryz.ntmps6
  go_wp2_with fail
  refine (KC.out).mono ?_
  rintro e w1 ⟨B, cb, rfl, hch, hb⟩
  have hsn := hch.snap (by simp)
  have H0 : Hid (WkAt9 3 w (w1.alloc (.cells #[.slice (some ⟨w.heap.size + 4, 0, none⟩) 3 3, .slice B 3 cb, .slice (some ⟨w.heap.size + 5, 0, none⟩) 1 1] 26)) w.heap.size w1.heap.size B cb) := Lib.hid (by
    have h1 := below1 w1 (.cells #[.slice (some ⟨w.heap.size + 4, 0, none⟩) 3 3, .slice B 3 cb, .slice (some ⟨w.heap.size + 5, 0, none⟩) 1 1] 26)
    exact ⟨hsn.below h1, Blk.new w1 _ _, hb.trans (h1.mono hb.size)⟩)
  clear hch hsn hb KC
  go_upto_region 2 with fail
  try change Code.wp _ _ _ _ (w1.alloc (.cells #[.slice (some ⟨w.heap.size + 4, 0, none⟩) 3 3, .slice B 3 cb, .slice (some ⟨w.heap.size + 5, 0, none⟩) 1 1] 26))
  generalize (w1.alloc (.cells #[.slice (some ⟨w.heap.size + 4, 0, none⟩) 3 3, .slice B 3 cb, .slice (some ⟨w.heap.size + 5, 0, none⟩) 1 1] 26)) = V0 at H0 ⊢
  generalize w1.heap.size = Sb at H0 ⊢
  have K := Lib.hid (safe_at none none none none 0 0 0 0 [] [] [] [] V0 (snap_none V0) (ints_none V0))
  rw [e9_none_safe, e9_none] at K
  go_wp2_with fail
  refine (K.out).mono ?_
  rintro e V1 ⟨rfl, hb⟩
  have H1 := Lib.hid (H0.out.below hb)
  clear hb K H0
  obtain ⟨b0, b1, b2⟩ := H1.out.c0
  have Ha := Lib.hid (H1.out.below (below1 V1 (.cells (intsC [-1, -1, -1]).toArray 3)))
  have I0 := Lib.hid (ints_new V1 [-1, -1, -1] (by simp))
  have K := Lib.hid (sum_atS (some ⟨w.heap.size + 4, 0, none⟩) B (some ⟨w.heap.size + 5, 0, none⟩) (some ⟨V1.heap.size, 0, none⟩) 3 cb 1 3 (chN8 w.heap.size [98] false) chP (chO8 3) [-1, -1, -1] _ Ha.out.s I0.out)
  rw [e9www_sum, e9www_place] at K
  go_wp2_with fail
  refine (K.out).mono ?_
  rintro e V2 ⟨rfl, hb⟩
  have H2 := Lib.hid (Ha.out.below hb)
  clear hb K H1 Ha I0 b0 b1 b2 
  obtain ⟨b0, b1, b2⟩ := H2.out.c0
  have Ha := Lib.hid (H2.out.below (Qu.below2 V2 (.cells (intsC [-1, -1, -1]).toArray 3) (.cells (intsC [0, 0, 0]).toArray 3)))
  have I0 := Lib.hid ((ints_new V2 [-1, -1, -1] (by simp)).below (below1 _ (.cells (intsC [0, 0, 0]).toArray 3)))
  have I1 := Lib.hid (ints_new (V2.alloc (.cells (intsC [-1, -1, -1]).toArray 3)) [0, 0, 0] (by simp))
  rw [World.size_alloc] at I1
  have K := Lib.hid (worse_at (some ⟨w.heap.size + 4, 0, none⟩) B (some ⟨w.heap.size + 5, 0, none⟩) (some ⟨V2.heap.size, 0, none⟩) (some ⟨V2.heap.size + 1, 0, none⟩) 3 cb 1 3 3 (chN8 w.heap.size [98] false) chP (chO8 3) [-1, -1, -1] [0, 0, 0] _ Ha.out.s I0.out I1.out)
  unfold worseF worseE at K
  rw [e9www_place, e9000_place, if_pos rfl, if_pos rfl, e9w_www_000] at K
  go_wp2_with fail
  refine (K.out).mono ?_
  rintro e V3 ⟨v2, rfl, ho, hb⟩
  obtain ⟨G2, cg2, rfl, _⟩ := La.own_slice ho
  have O2 := Lib.hid (La.own_slat ho)
  clear ho
  have H3 := Lib.hid (Ha.out.below hb)
  clear hb K H2 Ha I0 I1 b0 b1 b2 
  obtain ⟨b0, b1, b2⟩ := H3.out.c0
  have Ha := Lib.hid (H3.out.below (Qu.below2 V3 (.cells (intsC [0, 0, 3]).toArray 3) (.cells (intsC [0, 0, 0]).toArray 3)))
  have T2 := Lib.hid (La.SlAt.below O2.out (Qu.below2 V3 (.cells (intsC [0, 0, 3]).toArray 3) (.cells (intsC [0, 0, 0]).toArray 3)))
  have I0 := Lib.hid ((ints_new V3 [0, 0, 3] (by simp)).below (below1 _ (.cells (intsC [0, 0, 0]).toArray 3)))
  have I1 := Lib.hid (ints_new (V3.alloc (.cells (intsC [0, 0, 3]).toArray 3)) [0, 0, 0] (by simp))
  rw [World.size_alloc] at I1
  have K := Lib.hid (worse_at (some ⟨w.heap.size + 4, 0, none⟩) B (some ⟨w.heap.size + 5, 0, none⟩) (some ⟨V3.heap.size, 0, none⟩) (some ⟨V3.heap.size + 1, 0, none⟩) 3 cb 1 3 3 (chN8 w.heap.size [98] false) chP (chO8 3) [0, 0, 3] [0, 0, 0] _ Ha.out.s I0.out I1.out)
  unfold worseF worseE at K
  rw [e9_far, if_neg (by decide), if_neg (by decide)] at K
  go_wp2_with fail
  refine (K.out).mono ?_
  rintro e V4 ⟨v3, rfl, ho, hb⟩
  obtain ⟨G3, cg3, rfl, _⟩ := La.own_slice ho
  have O3 := Lib.hid (La.own_slat ho)
  clear ho
  have H4 := Lib.hid (Ha.out.below hb)
  have O2 := Lib.hid (La.SlAt.below T2.out hb)
  clear hb K H3 Ha I0 I1 b0 b1 b2 T2
  obtain ⟨b0, b1, b2⟩ := H4.out.c0
  have Ha := Lib.hid (H4.out.below (Qu.below2 V4 (.cells (intsC [0, 0, 0]).toArray 3) (.cells (intsC [0, 0, 3]).toArray 3)))
  have T2 := Lib.hid (La.SlAt.below O2.out (Qu.below2 V4 (.cells (intsC [0, 0, 0]).toArray 3) (.cells (intsC [0, 0, 3]).toArray 3)))
  have T3 := Lib.hid (La.SlAt.below O3.out (Qu.below2 V4 (.cells (intsC [0, 0, 0]).toArray 3) (.cells (intsC [0, 0, 3]).toArray 3)))
  have I0 := Lib.hid ((ints_new V4 [0, 0, 0] (by simp)).below (below1 _ (.cells (intsC [0, 0, 3]).toArray 3)))
  have I1 := Lib.hid (ints_new (V4.alloc (.cells (intsC [0, 0, 0]).toArray 3)) [0, 0, 3] (by simp))
  rw [World.size_alloc] at I1
  have K := Lib.hid (worse_at (some ⟨w.heap.size + 4, 0, none⟩) B (some ⟨w.heap.size + 5, 0, none⟩) (some ⟨V4.heap.size, 0, none⟩) (some ⟨V4.heap.size + 1, 0, none⟩) 3 cb 1 3 3 (chN8 w.heap.size [98] false) chP (chO8 3) [0, 0, 0] [0, 0, 3] _ Ha.out.s I0.out I1.out)
  unfold worseF worseE at K
  rw [e9000_place, if_pos rfl, if_pos rfl, e9_far, worse_nil (by rw [e9_far]; decide)] at K
  go_wp2_with fail
  refine (K.out).mono ?_
  rintro e V5 ⟨v4, rfl, ho, hb⟩
  obtain ⟨G4, cg4, rfl, _⟩ := La.own_slice ho
  have O4 := Lib.hid (La.own_slat ho)
  clear ho
  have H5 := Lib.hid (Ha.out.below hb)
  have O2 := Lib.hid (La.SlAt.below T2.out hb)
  have O3 := Lib.hid (La.SlAt.below T3.out hb)
  clear hb K H4 Ha I0 I1 b0 b1 b2 T2 T3
  obtain ⟨b0, b1, b2⟩ := H5.out.c0
  have Ha := Lib.hid (H5.out.below (below1 V5 (.cells (intsC [0, 0, 0]).toArray 3)))
  have T2 := Lib.hid (La.SlAt.below O2.out (below1 V5 (.cells (intsC [0, 0, 0]).toArray 3)))
  have T3 := Lib.hid (La.SlAt.below O3.out (below1 V5 (.cells (intsC [0, 0, 0]).toArray 3)))
  have T4 := Lib.hid (La.SlAt.below O4.out (below1 V5 (.cells (intsC [0, 0, 0]).toArray 3)))
  have I0 := Lib.hid (ints_new V5 [0, 0, 0] (by simp))
  have K := Lib.hid (sum_atS (some ⟨w.heap.size + 4, 0, none⟩) B (some ⟨w.heap.size + 5, 0, none⟩) (some ⟨V5.heap.size, 0, none⟩) 3 cb 1 3 (chN8 w.heap.size [98] false) chP (chO8 3) [0, 0, 0] _ Ha.out.s I0.out)
  rw [e9000_sum, e9000_place] at K
  go_wp2_with fail
  refine (K.out).mono ?_
  rintro e V6 ⟨rfl, hb⟩
  have H6 := Lib.hid (Ha.out.below hb)
  have O2 := Lib.hid (La.SlAt.below T2.out hb)
  have O3 := Lib.hid (La.SlAt.below T3.out hb)
  have O4 := Lib.hid (La.SlAt.below T4.out hb)
  clear hb K H5 Ha I0 b0 b1 b2 T2 T3 T4
  have KW := Lib.hid works9_any
  clear O2 O3 O4
  go_wp2_with fail
  refine (KW.out _).mono ?_
  rintro e V7 ⟨rfl, hb⟩
  have H7 := Lib.hid (H6.out.below hb)
  clear hb KW H6
  go_wp2
  go_ret
  exact ⟨rfl, H7.out.w⟩
end Go.Proofs.YtpdaohkpgconkaaGreat
