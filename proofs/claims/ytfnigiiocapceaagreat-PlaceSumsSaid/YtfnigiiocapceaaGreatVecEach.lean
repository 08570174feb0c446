/- What eachPlace answers: the row of what is reckoned for each place, or the first error. Condition: what it is handed answers so at each place, and leaves what was there as it was. -/
import Derived.Test.YtfnigiiocapceaaGreatVecOver
import Derived.Laws.CopyOwn
namespace Go.Proofs.YtfnigiiocapceaaGreat.Qu
open Go.RowKit

/-- The first error, or none. -/
def firstE (f : Nat → Int × Int) : Nat → Int
  | 0 => 0
  | k + 1 => if firstE f k ≠ 0 then firstE f k else (f k).2
/-- The row, all noughts beside an error. -/
def eachR (f : Nat → Int × Int) : Nat → Int := fun k => if firstE f 5 ≠ 0 then 0 else (f k).1

theorem firstE_none {f : Nat → Int × Int} : ∀ {k : Nat}, (∀ j, j < k → (f j).2 = 0) → firstE f k = 0
  | 0, _ => rfl
  | k + 1, h => by
    rw [firstE, firstE_none (fun j hj => h j (by omega)), if_neg (by simp), h k (by omega)]
theorem firstE_keep {f : Nat → Int × Int} {k : Nat} (h : firstE f k ≠ 0) : ∀ {n : Nat}, k ≤ n → firstE f n = firstE f k := by
  intro n hn
  induction n with
  | zero => obtain rfl : k = 0 := by omega
            rfl
  | succ n ih =>
    rcases Nat.lt_or_eq_of_le hn with g | rfl
    · rw [firstE, ih (by omega), if_pos h]
    · rfl
theorem firstE_at {f : Nat → Int × Int} {k : Nat} (hk : k < 5) (h : ∀ j, j < k → (f j).2 = 0) (he : (f k).2 ≠ 0) : firstE f 5 = (f k).2 := by
  have h1 : firstE f (k + 1) = (f k).2 := by rw [firstE, firstE_none h, if_neg (by simp)]
  rw [firstE_keep (k := k + 1) (by rw [h1]; exact he) (by omega), h1]

/-- A row and a number are handed back. -/
theorem results_row2 {P : Program} {fn : Func} {p s : Tmp} {ty : TypeId} (h : fn.results = #[.cell p ty, .tmp s]) (tmps : Array Value) (w : World) (g : Nat) (t : TypeId) (cs : Array Value) (fr : Nat × Nat) (d : TypeDesc) (v : Value)
    (hp : tmps.getD p undef = .pointer (some ⟨g, 0, none⟩)) (hs : tmps.getD s undef = v) (hg : w.heap[g]? = some (.cells cs t fr))
    (hu : P.underlying ty = some d) (hd : (match d with | .struct _ | .array _ _ => true | _ => false) = true) (hi : (P.info? ty).map (·.size) = some cs.size) :
    (results fn tmps).run P w = .ok (.tuple #[.agg cs, v]) w := by
  have hp' : tmps[p]?.getD undef = .pointer (some ⟨g, 0, none⟩) := by simpa using hp
  have hs' : tmps[s]?.getD undef = v := by simpa using hs
  simp [results, h, hp', hs', asAddr, run_loadVar_row w g t ty cs fr d hg hu hd hi]

theorem bodyPost_row2 {P : Program} {fn : Func} {p s : Tmp} {ty : TypeId} {R : Ending → World → Prop} {a : Act} {w : World} (h : fn.results = #[.cell p ty, .tmp s]) (g : Nat) (t : TypeId) (cs : Array Value) (fr : Nat × Nat) (d : TypeDesc) (v : Value)
    (hd0 : a.defers = []) (hp : a.tmps.getD p undef = .pointer (some ⟨g, 0, none⟩)) (hs : a.tmps.getD s undef = v) (hg : w.heap[g]? = some (.cells cs t fr))
    (hu : P.underlying ty = some d) (hd : (match d with | .struct _ | .array _ _ => true | _ => false) = true) (hi : (P.info? ty).map (·.size) = some cs.size)
    (hR : R (.returned (.tuple #[.agg cs, v])) w) : bodyPost P fn R .ret a w :=
  bodyPost_ret (results_row2 h a.tmps w g t cs fr d v hp hs hg hu hd hi) hd0 hR

theorem RowAt.put {w : World} {b : Nat} {x : Nat → Int} (h : RowAt w b x) (y : Nat → Int) : RowAt (w.setRow b #[.int .i64 (y 0), .int .i64 (y 1), .int .i64 (y 2), .int .i64 (y 3), .int .i64 (y 4)]) b y := setRow_heap w b _ _ _ _ h

theorem endRow {x y : Nat → Int} {e e' : Int} (h : ∀ k, k < 5 → x k = y k) (he : e = e') : Ending.returned (.tuple #[.agg #[.int .i64 (x 0), .int .i64 (x 1), .int .i64 (x 2), .int .i64 (x 3), .int .i64 (x 4)], .int .i64 e]) = .returned (.tuple #[.agg #[.int .i64 (y 0), .int .i64 (y 1), .int .i64 (y 2), .int .i64 (y 3), .int .i64 (y 4)], .int .i64 e']) := by
  rw [h 0 (by omega), h 1 (by omega), h 2 (by omega), h 3 (by omega), h 4 (by omega), he]

set_option maxHeartbeats 400000 in
theorem each_any (g : FuncId) (p q : Value) (f : Nat → Int × Int) (w : World) (henter : ∀ (args : Array Value) (w : World), (callFunc g args).run Tryz.prog w = .ok (.enter g args) w)
    (hcl : ∀ k : Nat, k < 5 → ∀ w', Below w.heap.size w w' → Calls Tryz.prog g #[.int .i64 (k : Int), p, q] w' fun e w'' => e = .returned (.tuple #[.int .i64 (f k).1, .int .i64 (f k).2]) ∧ Below w'.heap.size w' w'') :
    Calls Tryz.prog 109 #[.func (Fn.func g) #[] #[p, q]] w fun e w' => e = .returned (.tuple #[.agg #[.int .i64 (eachR f 0), .int .i64 (eachR f 1), .int .i64 (eachR f 2), .int .i64 (eachR f 3), .int .i64 (eachR f 4)], .int .i64 (firstE f 5)]) ∧ Below w.heap.size w w' := by
  have Hcl := Lib.hid hcl
  clear hcl
  go_enter Tryz.func109, Tryz.ntmps109
  go_wp2
  go_loopw [8] (fun i wr => ∃ k : Nat, k ≤ 5 ∧ i = .int .i64 k ∧ (∀ j, j < k → (f j).2 = 0) ∧ RowAt wr w.heap.size (fun _ => 0) ∧ RowAt wr (w.heap.size + 1) (fun j => if j < k then (f j).1 else 0) ∧ Below w.heap.size w wr) (fun i _ => 5 - (intOf i).toNat)
  case atStart => exact ⟨0, by omega, rfl, by omega, heap_alloc2_old _ _ _, heap_alloc2_new _ _ _, below2 _ _ _⟩
  case round =>
    obtain ⟨k, hk, rfl, hall, hx, hy, hb⟩ := hrel
    have Hall := Lib.hid hall
    have Hx := Lib.hid hx
    have Hy := Lib.hid hy
    have HB := Lib.hid hb
    clear hall hx hy hb
    by_cases hlt : k < 5
    · have hk5 : Below w.heap.size w wr := HB.out
      have Hk5 := Lib.hid hk5
      clear hk5
      rcases hq : f k with ⟨n, e0⟩
      have Hq := Lib.hid hq
      clear hq
      go_wp2_with fail
      have kc := Hcl.out k hlt wr HB.out
      rw [Hq.out] at kc
      refine kc.mono ?_
      rintro e w1 ⟨rfl, hb1⟩
      clear kc
      have Hx1 := Lib.hid (Hx.out.below hb1 Hx.out.lt)
      have Hy1 := Lib.hid (Hy.out.below hb1 Hy.out.lt)
      have HB1 := Lib.hid (HB.out.trans (hb1.mono HB.out.size))
      clear hb1
      by_cases he : e0 = 0
      · have heb : (e0 != 0) = false := by simp [he]
        have He := Lib.hid he
        clear he
        have cy := Hy1.out.cell hlt
        have fy := Hy1.out.free k
        go_wp2
        go_roundw
        case rel =>
          have h0 : (f k).2 = 0 := by rw [Hq.out]; exact He.out
          have h1 : (f k).1 = n := by rw [Hq.out]
          refine ⟨k + 1, by omega, by go_num, all_snoc Hall.out h0, Hx1.out.other _ _ (by simp), ?_, HB1.out.setCell (by simp) _⟩
          have h := Hy1.out.set hlt n
          have e : (fun j => if j < k + 1 then (f j).1 else 0) = upd (fun j => if j < k then (f j).1 else 0) k n := by
            funext j
            unfold upd
            by_cases hj : j = k
            · subst hj; simp [h1]
            · by_cases hj2 : j < k
              · simp [hj, hj2, show j < k + 1 by omega]
              · simp [hj, hj2, show ¬ j < k + 1 by omega]
          rw [e]
          exact h
        case measure => simp [intOf]; omega
      · have heb : (e0 != 0) = true := by simpa using he
        have He := Lib.hid he
        clear he
        go_wp2_with (refine wpList_store_row rfl 33 (.tmp 2) (.tmp 19) rfl w.heap.size #[.int .i64 0, .int .i64 0, .int .i64 0, .int .i64 0, .int .i64 0] rfl rfl 33 _ Hx1.out vec_size (by kernel_rfl) (by kernel_rfl) ?_)
        have h1 : (f k).2 = e0 := by rw [Hq.out]
        have h2 : firstE f 5 = e0 := by rw [firstE_at hlt Hall.out (by rw [h1]; exact He.out), h1]
        refine bodyPost_row2 Tryz.results109 w.heap.size _ _ _ _ (.int .i64 e0) ?d1 ?p1 ?s1 (Hx1.out.put (fun _ => 0)) Tryz.underlying33 rfl vec_size ?_
        case d1 => rfl
        case p1 => rfl
        case s1 => rfl
        exact ⟨endRow (x := fun _ => 0) (fun j _ => by unfold eachR; rw [if_pos (by rw [h2]; exact He.out)]) h2.symm, below_setRow HB1.out (Nat.le_refl _) _⟩
    · go_wp2_with (first | refine wpList_load_row rfl 33 (.tmp 4) rfl (w.heap.size + 1) rfl 33 _ (0, 0) _ Hy.out Tryz.underlying33 rfl vec_size ?_ | refine wpList_store_row rfl 33 (.tmp 2) (.tmp 25) rfl w.heap.size _ rfl rfl 33 _ Hx.out vec_size (by kernel_rfl) (by kernel_rfl) ?_)
      have h2 : firstE f 5 = 0 := firstE_none (fun j hj => Hall.out j (by omega))
      refine bodyPost_row2 Tryz.results109 w.heap.size _ _ _ _ (.int .i64 0) ?d2 ?p2 ?s2 (Hx.out.put (fun j => (f j).1)) Tryz.underlying33 rfl vec_size ?_
      case d2 => rfl
      case p2 => rfl
      case s2 => rfl
      exact ⟨endRow (x := fun j => (f j).1) (fun j _ => by unfold eachR; rw [if_neg (by rw [h2]; simp)]) h2.symm, below_setRow HB.out (Nat.le_refl _) _⟩

end Go.Proofs.YtfnigiiocapceaaGreat.Qu
