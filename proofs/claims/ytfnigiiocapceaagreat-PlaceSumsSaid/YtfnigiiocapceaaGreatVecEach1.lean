/- What eachPlace answers, handed a function that holds one variable: the row of what is reckoned for each place, or the first error. Condition: what it is handed answers so at each place, and leaves what was there as it was. -/
import Derived.Test.YtfnigiiocapceaaGreatVecEach
namespace Go.Proofs.YtfnigiiocapceaaGreat.Qu
open Go.RowKit

set_option maxHeartbeats 400000 in
theorem each1_any (g : FuncId) (p : Value) (f : Nat → Int × Int) (w : World) (henter : ∀ (args : Array Value) (w : World), (callFunc g args).run Tryz.prog w = .ok (.enter g args) w)
    (hcl : ∀ k : Nat, k < 5 → ∀ w', Below w.heap.size w w' → Calls Tryz.prog g #[.int .i64 (k : Int), p] w' fun e w'' => e = .returned (.tuple #[.int .i64 (f k).1, .int .i64 (f k).2]) ∧ Below w'.heap.size w' w'') :
    Calls Tryz.prog 109 #[.func (Fn.func g) #[] #[p]] w fun e w' => e = .returned (.tuple #[.agg #[.int .i64 (eachR f 0), .int .i64 (eachR f 1), .int .i64 (eachR f 2), .int .i64 (eachR f 3), .int .i64 (eachR f 4)], .int .i64 (firstE f 5)]) ∧ Below w.heap.size w w' := by
  have Hcl := Lib.hid hcl
  clear hcl
  go_enter Tryz.func109, Tryz.ntmps109
  go_wp2
  go_loopw [8] (fun i wr => ∃ k : Nat, k ≤ 5 ∧ i = .int .i64 k ∧ (∀ j, j < k → (f j).2 = 0) ∧ RowAt wr w.heap.size (fun _ => 0) ∧ RowAt wr (w.heap.size + 1) (fun j => if j < k then (f j).1 else 0) ∧ Below w.heap.size w wr) (fun i _ => 5 - (intOf i).toNat)
  case atStart => exact ⟨0, by omega, rfl, by omega, heap_alloc2_old _ _ _, heap_alloc2_new _ _ _, below2 _ _ _⟩
  case round =>
    obtain ⟨k, hk, rfl, hall, hx, hy, hb⟩ := hrel
    have Hall := Lib.hid hall
    have Hx := Lib.hid hx
    have Hy := Lib.hid hy
    have HB := Lib.hid hb
    clear hall hx hy hb
    by_cases hlt : k < 5
    · have hk5 : Below w.heap.size w wr := HB.out
      have Hk5 := Lib.hid hk5
      clear hk5
      rcases hq : f k with ⟨n, e0⟩
      have Hq := Lib.hid hq
      clear hq
      go_wp2_with fail
      have kc := Hcl.out k hlt wr HB.out
      rw [Hq.out] at kc
      refine kc.mono ?_
      rintro e w1 ⟨rfl, hb1⟩
      clear kc
      have Hx1 := Lib.hid (Hx.out.below hb1 Hx.out.lt)
      have Hy1 := Lib.hid (Hy.out.below hb1 Hy.out.lt)
      have HB1 := Lib.hid (HB.out.trans (hb1.mono HB.out.size))
      clear hb1
      by_cases he : e0 = 0
      · have heb : (e0 != 0) = false := by simp [he]
        have He := Lib.hid he
        clear he
        have cy := Hy1.out.cell hlt
        have fy := Hy1.out.free k
        go_wp2
        go_roundw
        case rel =>
          have h0 : (f k).2 = 0 := by rw [Hq.out]; exact He.out
          have h1 : (f k).1 = n := by rw [Hq.out]
          refine ⟨k + 1, by omega, by go_num, all_snoc Hall.out h0, Hx1.out.other _ _ (by simp), ?_, HB1.out.setCell (by simp) _⟩
          have h := Hy1.out.set hlt n
          have e : (fun j => if j < k + 1 then (f j).1 else 0) = upd (fun j => if j < k then (f j).1 else 0) k n := by
            funext j
            unfold upd
            by_cases hj : j = k
            · subst hj; simp [h1]
            · by_cases hj2 : j < k
              · simp [hj, hj2, show j < k + 1 by omega]
              · simp [hj, hj2, show ¬ j < k + 1 by omega]
          rw [e]
          exact h
        case measure => simp [intOf]; omega
      · have heb : (e0 != 0) = true := by simpa using he
        have He := Lib.hid he
        clear he
        go_wp2_with (refine wpList_store_row rfl 33 (.tmp 2) (.tmp 19) rfl w.heap.size #[.int .i64 0, .int .i64 0, .int .i64 0, .int .i64 0, .int .i64 0] rfl rfl 33 _ Hx1.out vec_size (by kernel_rfl) (by kernel_rfl) ?_)
        have h1 : (f k).2 = e0 := by rw [Hq.out]
        have h2 : firstE f 5 = e0 := by rw [firstE_at hlt Hall.out (by rw [h1]; exact He.out), h1]
        refine bodyPost_row2 Tryz.results109 w.heap.size _ _ _ _ (.int .i64 e0) ?d1 ?p1 ?s1 (Hx1.out.put (fun _ => 0)) Tryz.underlying33 rfl vec_size ?_
        case d1 => rfl
        case p1 => rfl
        case s1 => rfl
        exact ⟨endRow (x := fun _ => 0) (fun j _ => by unfold eachR; rw [if_pos (by rw [h2]; exact He.out)]) h2.symm, below_setRow HB1.out (Nat.le_refl _) _⟩
    · go_wp2_with (first | refine wpList_load_row rfl 33 (.tmp 4) rfl (w.heap.size + 1) rfl 33 _ (0, 0) _ Hy.out Tryz.underlying33 rfl vec_size ?_ | refine wpList_store_row rfl 33 (.tmp 2) (.tmp 25) rfl w.heap.size _ rfl rfl 33 _ Hx.out vec_size (by kernel_rfl) (by kernel_rfl) ?_)
      have h2 : firstE f 5 = 0 := firstE_none (fun j hj => Hall.out j (by omega))
      refine bodyPost_row2 Tryz.results109 w.heap.size _ _ _ _ (.int .i64 0) ?d2 ?p2 ?s2 (Hx.out.put (fun j => (f j).1)) Tryz.underlying33 rfl vec_size ?_
      case d2 => rfl
      case p2 => rfl
      case s2 => rfl
      exact ⟨endRow (x := fun j => (f j).1) (fun j _ => by unfold eachR; rw [if_neg (by rw [h2]; simp)]) h2.symm, below_setRow HB.out (Nat.le_refl _) _⟩

end Go.Proofs.YtfnigiiocapceaaGreat.Qu
