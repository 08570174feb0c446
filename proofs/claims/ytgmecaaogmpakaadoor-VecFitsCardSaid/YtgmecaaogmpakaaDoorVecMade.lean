/- What made answers: a row of which each is brought between 0 and 2^36. No conditions. -/
import Derived.Test.YtgmecaaogmpakaaDoorVecEach
import Derived.Test.YtgmecaaogmpakaaDoorBring
import Derived.Deep.RegionHeld3
namespace Go.Proofs.YtgmecaaogmpakaaDoor
open Go.RowKit

def madeV (x : Nat → Int) : Nat → Int := fun k => x k % 68719476736
theorem made_range (x : Nat → Int) (k : Nat) : 0 ≤ madeV x k ∧ madeV x k ≤ 68719476735 := by
  unfold madeV
  omega
def partM (x : Nat → Int) (k : Nat) : Nat → Int := fun j => if j < k then madeV x j else x j
theorem partM_zero (x : Nat → Int) : partM x 0 = x := by
  funext j
  simp [partM]
theorem partM_succ (x : Nat → Int) (k : Nat) : partM x (k + 1) = upd (partM x k) k (x k % 68719476736) := by
  funext j
  unfold partM upd
  by_cases hj : j = k
  · subst hj; simp [madeV]
  · by_cases hj2 : j < k
    · simp [hj, hj2, show j < k + 1 by omega]
    · simp [hj, hj2, show ¬ j < k + 1 by omega]

theorem bodyPost_row1 {P : Program} {fn : Func} {p : Tmp} {ty : TypeId} {R : Ending → World → Prop} {a : Act} {w : World} (h : fn.results = #[.cell p ty]) (g : Nat) (t : TypeId) (cs : Array Value) (fr : Nat × Nat) (d : TypeDesc)
    (hd0 : a.defers = []) (hp : a.tmps.getD p undef = .pointer (some ⟨g, 0, none⟩)) (hg : w.heap[g]? = some (.cells cs t fr))
    (hu : P.underlying ty = some d) (hd : (match d with | .struct _ | .array _ _ => true | _ => false) = true) (hi : (P.info? ty).map (·.size) = some cs.size)
    (hR : R (.returned (.agg cs)) w) : bodyPost P fn R .ret a w :=
  bodyPost_ret (results_cell_row h a.tmps w g t cs fr d hp hg hu hd hi) hd0 hR

set_option maxRecDepth 100000 in
set_option maxHeartbeats 1000000 in
theorem made_any (x : Nat → Int) (w : World) :
    Calls Tryd.prog 26 #[.agg #[.int .i64 (x 0), .int .i64 (x 1), .int .i64 (x 2), .int .i64 (x 3), .int .i64 (x 4)]] w fun e w' => e = .returned (.agg #[.int .i64 (madeV x 0), .int .i64 (madeV x 1), .int .i64 (madeV x 2), .int .i64 (madeV x 3), .int .i64 (madeV x 4)]) ∧ Below w.heap.size w w' := by
  go_enter Tryd.func26, Tryd.ntmps26
  go_wp2
  go_loopw [3] (fun i wr => ∃ k : Nat, k ≤ 5 ∧ i = .int .i64 k ∧ RowAt wr w.heap.size (partM x k) ∧ RowAt wr (w.heap.size + 1) (fun _ => 0) ∧ Below w.heap.size w wr) (fun i _ => 5 - (intOf i).toNat)
  case atStart => exact ⟨0, by omega, rfl, by rw [partM_zero]; exact (two_at w x (fun _ => 0)).1, (two_at w x (fun _ => 0)).2, below2 w _ _⟩
  case round =>
    obtain ⟨k, hk, rfl, hx, hz, hb⟩ := hrel
    have Hx := Lib.hid hx
    have Hz := Lib.hid hz
    have HB := Lib.hid hb
    clear hx hz hb
    by_cases hlt : k < 5
    · have cx := Hx.out.cell hlt
      have e : partM x k k = x k := by simp [partM]
      rw [e] at cx
      clear e
      have fx := Hx.out.free k
      go_wp2_with fail
      refine (bring_any (x k) 68719476736 _ (by omega) (by omega)).mono ?_
      rintro e w1 ⟨rfl, rfl⟩
      go_wp2
      go_roundw
      case rel => exact ⟨k + 1, by omega, by go_num, by rw [partM_succ]; exact Hx.out.set hlt _, Hz.out.other _ _ (by simp), HB.out.setCell (by simp) _⟩
      case measure => simp [intOf]; omega
    · obtain rfl : k = 5 := by omega
      go_wp2_with (first | refine wpList_load_row rfl 24 (.tmp 1) rfl w.heap.size rfl 24 _ (0, 0) _ Hx.out Tryd.underlying24 rfl vec_size ?_ | refine wpList_store_row rfl 24 (.tmp 2) (.tmp 14) rfl (w.heap.size + 1) _ rfl rfl 24 _ Hz.out vec_size (by kernel_rfl) (by kernel_rfl) ?_)
      refine bodyPost_row1 Tryd.results26 (w.heap.size + 1) _ _ _ _ ?d1 ?p1 (Hz.out.put (partM x 5)) Tryd.underlying24 rfl vec_size ?_
      case d1 => rfl
      case p1 => rfl
      exact ⟨rfl, below_setRow HB.out (by omega) _⟩

end Go.Proofs.YtgmecaaogmpakaaDoor
