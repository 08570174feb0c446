/- What eachPlace answers: the row of what is reckoned for each place, or the first error. Condition: what it is handed answers so at each place, and leaves what was there as it was. What the program's look at its arguments answers, of every row of numbers. No conditions but that the row lies in memory. What Add, Sub, Mul and Share answer, the program's and the document's, of every number. No conditions but that a row lies in memory. What Minus, Times and Share answer of every two rows, or a row and a number: place by place, or the first error. Condition: they are ints. What the document's Minus, Times and Share answer of every two rows, or a row and a number: place by place, or the first error. Condition: they are ints. What eachPlace answers, handed a function that holds one variable: the row of what is reckoned for each place, or the first error. Condition: what it is handed answers so at each place, and leaves what was there as it was. What Add answers, the program's and the document's, of every row of numbers. No conditions but that the row lies in memory. What the document's Share answers of every two rows; what column answers of rows and a place. Conditions: they are ints; the rows lie in memory. What Plus, the program's and the document's, answers of every twelve rows at most. Condition: they lie in memory. What a cluster is in memory: its nodes, pods and owners, and the lists within them. No conditions. Names and rows of a cluster's parts: contracts of the small functions. No conditions. What each makes of a cluster's lists: names. Condition: the list lies in memory. Are names names, and do they rise? A contract. Condition: the list lies in memory. May a node, an owner, a Near be, each by itself? Contracts. Condition: its lists lie in memory. Where a name stands first: contracts. Condition: the list lies in memory. May a pod be, by itself, and in its cluster? Contracts. Condition: the cluster lies in memory. -/
import Derived.Test.YtmmokiaipfalmaaGreatA01
import Derived.Laws.CopyOwn
import Derived.Laws.MakeOwn
import Derived.Laws.Cover3

namespace Go.Proofs.YtmmokiaipfalmaaGreat.Qu
open Go.RowKit

/-- The first error, or none. -/
def firstE (f : Nat → Int × Int) : Nat → Int
  | 0 => 0
  | k + 1 => if firstE f k ≠ 0 then firstE f k else (f k).2
/-- The row, all noughts beside an error. -/
def eachR (f : Nat → Int × Int) : Nat → Int := fun k => if firstE f 5 ≠ 0 then 0 else (f k).1

theorem firstE_none {f : Nat → Int × Int} : ∀ {k : Nat}, (∀ j, j < k → (f j).2 = 0) → firstE f k = 0
  | 0, _ => rfl
  | k + 1, h => by
    rw [firstE, firstE_none (fun j hj => h j (by omega)), if_neg (by simp), h k (by omega)]
theorem firstE_keep {f : Nat → Int × Int} {k : Nat} (h : firstE f k ≠ 0) : ∀ {n : Nat}, k ≤ n → firstE f n = firstE f k := by
  intro n hn
  induction n with
  | zero => obtain rfl : k = 0 := by omega
            rfl
  | succ n ih =>
    rcases Nat.lt_or_eq_of_le hn with g | rfl
    · rw [firstE, ih (by omega), if_pos h]
    · rfl
theorem firstE_at {f : Nat → Int × Int} {k : Nat} (hk : k < 5) (h : ∀ j, j < k → (f j).2 = 0) (he : (f k).2 ≠ 0) : firstE f 5 = (f k).2 := by
  have h1 : firstE f (k + 1) = (f k).2 := by rw [firstE, firstE_none h, if_neg (by simp)]
  rw [firstE_keep (k := k + 1) (by rw [h1]; exact he) (by omega), h1]

/-- A row and a number are handed back. -/
theorem results_row2 {P : Program} {fn : Func} {p s : Tmp} {ty : TypeId} (h : fn.results = #[.cell p ty, .tmp s]) (tmps : Array Value) (w : World) (g : Nat) (t : TypeId) (cs : Array Value) (fr : Nat × Nat) (d : TypeDesc) (v : Value)
    (hp : tmps.getD p undef = .pointer (some ⟨g, 0, none⟩)) (hs : tmps.getD s undef = v) (hg : w.heap[g]? = some (.cells cs t fr))
    (hu : P.underlying ty = some d) (hd : (match d with | .struct _ | .array _ _ => true | _ => false) = true) (hi : (P.info? ty).map (·.size) = some cs.size) :
    (results fn tmps).run P w = .ok (.tuple #[.agg cs, v]) w := by
  have hp' : tmps[p]?.getD undef = .pointer (some ⟨g, 0, none⟩) := by simpa using hp
  have hs' : tmps[s]?.getD undef = v := by simpa using hs
  simp [results, h, hp', hs', asAddr, run_loadVar_row w g t ty cs fr d hg hu hd hi]

theorem bodyPost_row2 {P : Program} {fn : Func} {p s : Tmp} {ty : TypeId} {R : Ending → World → Prop} {a : Act} {w : World} (h : fn.results = #[.cell p ty, .tmp s]) (g : Nat) (t : TypeId) (cs : Array Value) (fr : Nat × Nat) (d : TypeDesc) (v : Value)
    (hd0 : a.defers = []) (hp : a.tmps.getD p undef = .pointer (some ⟨g, 0, none⟩)) (hs : a.tmps.getD s undef = v) (hg : w.heap[g]? = some (.cells cs t fr))
    (hu : P.underlying ty = some d) (hd : (match d with | .struct _ | .array _ _ => true | _ => false) = true) (hi : (P.info? ty).map (·.size) = some cs.size)
    (hR : R (.returned (.tuple #[.agg cs, v])) w) : bodyPost P fn R .ret a w :=
  bodyPost_ret (results_row2 h a.tmps w g t cs fr d v hp hs hg hu hd hi) hd0 hR

theorem RowAt.put {w : World} {b : Nat} {x : Nat → Int} (h : RowAt w b x) (y : Nat → Int) : RowAt (w.setRow b #[.int .i64 (y 0), .int .i64 (y 1), .int .i64 (y 2), .int .i64 (y 3), .int .i64 (y 4)]) b y := setRow_heap w b _ _ _ _ h

theorem endRow {x y : Nat → Int} {e e' : Int} (h : ∀ k, k < 5 → x k = y k) (he : e = e') : Ending.returned (.tuple #[.agg #[.int .i64 (x 0), .int .i64 (x 1), .int .i64 (x 2), .int .i64 (x 3), .int .i64 (x 4)], .int .i64 e]) = .returned (.tuple #[.agg #[.int .i64 (y 0), .int .i64 (y 1), .int .i64 (y 2), .int .i64 (y 3), .int .i64 (y 4)], .int .i64 e']) := by
  rw [h 0 (by omega), h 1 (by omega), h 2 (by omega), h 3 (by omega), h 4 (by omega), he]

end Go.Proofs.YtmmokiaipfalmaaGreat.Qu

namespace Go.Proofs.YtmmokiaipfalmaaGreat.Qu
open Go.RowKit

set_option maxHeartbeats 400000 in
theorem check_any (A : Option Addr) (c : Nat) (l : List Int) (w : World) (hl : l.length ≤ maxLen) (hr : RowOf w A l) :
    Calls Tryz.prog 320 #[.slice A l.length c] w fun e w' => e = .returned (.int .i64 (checkL l)) ∧ w = w' := by
  unfold maxLen at hl
  go_enter Tryz.func320, Tryz.ntmps320
  go_wp2
  go_loop [9] (fun i => ∃ k : Nat, k ≤ l.length ∧ i = .int .i64 k ∧ ∀ y ∈ l.take k, 0 ≤ y) (fun i => l.length - (intOf i).toNat)
  case atStart => exact ⟨0, Nat.zero_le _, rfl, by simp⟩
  case round =>
    obtain ⟨k, hk, rfl, hall⟩ := hrel
    have Hall := Lib.hid hall
    clear hall
    by_cases hlt : k < l.length
    · obtain ⟨b, o, rfl, hc⟩ := hr k l[k] (List.getElem?_eq_getElem hlt)
      have hx : l[k]? = some l[k] := List.getElem?_eq_getElem hlt
      have Hx := Lib.hid hx
      clear hx
      have Hr := Lib.hid hr
      clear hr
      by_cases hneg : l[k] < 0
      · go_wp2
        go_ret
        exact ⟨retI (by unfold checkL; rw [if_pos ⟨l[k], List.getElem_mem _, hneg⟩]), rfl⟩
      · go_wp2
        go_round
        case rel => exact ⟨k + 1, by omega, by go_num, take_all_snoc Hx.out Hall.out (by omega)⟩
        case measure => simp [intOf]; omega
    · have Hn : Hid (∀ y ∈ l, 0 ≤ y) := by
        have h := Hall.out
        rw [List.take_of_length_le (by omega)] at h
        exact h
      go_wp2
      go_loop [18] (fun i => ∃ j : Nat, j ≤ l.length ∧ i = .int .i64 j ∧ ∀ y ∈ l.take j, y ≤ top) (fun i => l.length - (intOf i).toNat)
      case atStart => exact ⟨0, Nat.zero_le _, rfl, by simp⟩
      case round =>
        obtain ⟨j, hj, rfl, hall⟩ := hrel
        have Hall2 := Lib.hid hall
        clear hall
        have hnone : ¬ ∃ x ∈ l, x < 0 := fun ⟨x, hx, h0⟩ => by have := Hn.out x hx; omega
        have Hnone := Lib.hid hnone
        clear hnone
        by_cases hlt : j < l.length
        · obtain ⟨b, o, rfl, hc⟩ := hr j l[j] (List.getElem?_eq_getElem hlt)
          have hx : l[j]? = some l[j] := List.getElem?_eq_getElem hlt
          have Hx := Lib.hid hx
          clear hx
          have Hr := Lib.hid hr
          clear hr
          by_cases hbig : 1099511627776 < l[j]
          · go_wp2
            go_ret
            exact ⟨retI (by unfold checkL; rw [if_neg Hnone.out, if_pos ⟨l[j], List.getElem_mem _, by unfold top; omega⟩]), rfl⟩
          · go_wp2
            go_round
            case rel => exact ⟨j + 1, by omega, by go_num, take_all_snoc Hx.out Hall2.out (by unfold top; omega)⟩
            case measure => simp [intOf]; omega
        · go_wp2
          go_ret
          refine ⟨retI ?_, rfl⟩
          have h := Hall2.out
          rw [List.take_of_length_le (by omega)] at h
          unfold checkL
          rw [if_neg Hnone.out, if_neg (fun ⟨x, hx, h0⟩ => by have := h x hx; omega)]

end Go.Proofs.YtmmokiaipfalmaaGreat.Qu

namespace Go.Proofs.YtmmokiaipfalmaaGreat.Qu
open Go.RowKit

theorem ret2I {a b c d : Int} (h : a = c) (k : b = d) : Ending.returned (.tuple #[.int .i64 a, .int .i64 b]) = .returned (.tuple #[.int .i64 c, .int .i64 d]) := by rw [h, k]

end Go.Proofs.YtmmokiaipfalmaaGreat.Qu

namespace Go.Proofs.YtmmokiaipfalmaaGreat.Qu
open Go.RowKit

theorem run_func (fn : Fn) (first cap : Array Value) (w : World) : (Instr.makeFunc fn first cap).run Tryz.prog w = .ok (.func fn first cap) w := rfl
/-- The greatest of a row, 0 at least. -/
def greatest (r : Nat → Int) : Nat → Int
  | 0 => 0
  | k + 1 => if greatest r k < r k then r k else greatest r k

end Go.Proofs.YtmmokiaipfalmaaGreat.Qu

namespace Go.Proofs.YtmmokiaipfalmaaGreat.Qu
open Go.RowKit

theorem RowAt.drew {w : World} {b : Nat} {x : Nat → Int} (h : RowAt w b x) : RowAt w.drew b x := h

end Go.Proofs.YtmmokiaipfalmaaGreat.Qu

namespace Go.Proofs.YtmmokiaipfalmaaGreat.Qu
open Go.RowKit

set_option maxHeartbeats 400000 in
theorem each1_any (g : FuncId) (p : Value) (f : Nat → Int × Int) (w : World) (henter : ∀ (args : Array Value) (w : World), (callFunc g args).run Tryz.prog w = .ok (.enter g args) w)
    (hcl : ∀ k : Nat, k < 5 → ∀ w', Below w.heap.size w w' → Calls Tryz.prog g #[.int .i64 (k : Int), p] w' fun e w'' => e = .returned (.tuple #[.int .i64 (f k).1, .int .i64 (f k).2]) ∧ Below w'.heap.size w' w'') :
    Calls Tryz.prog 278 #[.func (Fn.func g) #[] #[p]] w fun e w' => e = .returned (.tuple #[.agg #[.int .i64 (eachR f 0), .int .i64 (eachR f 1), .int .i64 (eachR f 2), .int .i64 (eachR f 3), .int .i64 (eachR f 4)], .int .i64 (firstE f 5)]) ∧ Below w.heap.size w w' := by
  have Hcl := Lib.hid hcl
  clear hcl
  go_enter Tryz.func278, Tryz.ntmps278
  go_wp2
  go_loopw [8] (fun i wr => ∃ k : Nat, k ≤ 5 ∧ i = .int .i64 k ∧ (∀ j, j < k → (f j).2 = 0) ∧ RowAt wr w.heap.size (fun _ => 0) ∧ RowAt wr (w.heap.size + 1) (fun j => if j < k then (f j).1 else 0) ∧ Below w.heap.size w wr) (fun i _ => 5 - (intOf i).toNat)
  case atStart => exact ⟨0, by omega, rfl, by omega, heap_alloc2_old _ _ _, heap_alloc2_new _ _ _, below2 _ _ _⟩
  case round =>
    obtain ⟨k, hk, rfl, hall, hx, hy, hb⟩ := hrel
    have Hall := Lib.hid hall
    have Hx := Lib.hid hx
    have Hy := Lib.hid hy
    have HB := Lib.hid hb
    clear hall hx hy hb
    by_cases hlt : k < 5
    · have hk5 : Below w.heap.size w wr := HB.out
      have Hk5 := Lib.hid hk5
      clear hk5
      rcases hq : f k with ⟨n, e0⟩
      have Hq := Lib.hid hq
      clear hq
      go_wp2_with fail
      have kc := Hcl.out k hlt wr HB.out
      rw [Hq.out] at kc
      refine kc.mono ?_
      rintro e w1 ⟨rfl, hb1⟩
      clear kc
      have Hx1 := Lib.hid (Hx.out.below hb1 Hx.out.lt)
      have Hy1 := Lib.hid (Hy.out.below hb1 Hy.out.lt)
      have HB1 := Lib.hid (HB.out.trans (hb1.mono HB.out.size))
      clear hb1
      by_cases he : e0 = 0
      · have heb : (e0 != 0) = false := by simp [he]
        have He := Lib.hid he
        clear he
        have cy := Hy1.out.cell hlt
        have fy := Hy1.out.free k
        go_wp2
        go_roundw
        case rel =>
          have h0 : (f k).2 = 0 := by rw [Hq.out]; exact He.out
          have h1 : (f k).1 = n := by rw [Hq.out]
          refine ⟨k + 1, by omega, by go_num, all_snoc Hall.out h0, Hx1.out.other _ _ (by simp), ?_, HB1.out.setCell (by simp) _⟩
          have h := Hy1.out.set hlt n
          have e : (fun j => if j < k + 1 then (f j).1 else 0) = upd (fun j => if j < k then (f j).1 else 0) k n := by
            funext j
            unfold upd
            by_cases hj : j = k
            · subst hj; simp [h1]
            · by_cases hj2 : j < k
              · simp [hj, hj2, show j < k + 1 by omega]
              · simp [hj, hj2, show ¬ j < k + 1 by omega]
          rw [e]
          exact h
        case measure => simp [intOf]; omega
      · have heb : (e0 != 0) = true := by simpa using he
        have He := Lib.hid he
        clear he
        go_wp2_with (refine wpList_store_row rfl 47 (.tmp 2) (.tmp 19) rfl w.heap.size #[.int .i64 0, .int .i64 0, .int .i64 0, .int .i64 0, .int .i64 0] rfl rfl 47 _ Hx1.out vec_size (by kernel_rfl) (by kernel_rfl) ?_)
        have h1 : (f k).2 = e0 := by rw [Hq.out]
        have h2 : firstE f 5 = e0 := by rw [firstE_at hlt Hall.out (by rw [h1]; exact He.out), h1]
        refine bodyPost_row2 Tryz.results278 w.heap.size _ _ _ _ (.int .i64 e0) ?d1 ?p1 ?s1 (Hx1.out.put (fun _ => 0)) Tryz.underlying47 rfl vec_size ?_
        case d1 => rfl
        case p1 => rfl
        case s1 => rfl
        exact ⟨endRow (x := fun _ => 0) (fun j _ => by unfold eachR; rw [if_pos (by rw [h2]; exact He.out)]) h2.symm, below_setRow HB1.out (Nat.le_refl _) _⟩
    · go_wp2_with (first | refine wpList_load_row rfl 47 (.tmp 4) rfl (w.heap.size + 1) rfl 47 _ (0, 0) _ Hy.out Tryz.underlying47 rfl vec_size ?_ | refine wpList_store_row rfl 47 (.tmp 2) (.tmp 25) rfl w.heap.size _ rfl rfl 47 _ Hx.out vec_size (by kernel_rfl) (by kernel_rfl) ?_)
      have h2 : firstE f 5 = 0 := firstE_none (fun j hj => Hall.out j (by omega))
      refine bodyPost_row2 Tryz.results278 w.heap.size _ _ _ _ (.int .i64 0) ?d2 ?p2 ?s2 (Hx.out.put (fun j => (f j).1)) Tryz.underlying47 rfl vec_size ?_
      case d2 => rfl
      case p2 => rfl
      case s2 => rfl
      exact ⟨endRow (x := fun j => (f j).1) (fun j _ => by unfold eachR; rw [if_neg (by rw [h2]; simp)]) h2.symm, below_setRow HB.out (Nat.le_refl _) _⟩

end Go.Proofs.YtmmokiaipfalmaaGreat.Qu

namespace Go.Proofs.YtmmokiaipfalmaaGreat.Qu
open Go.RowKit

def addL (l : List Int) : Int × Int := if checkL l ≠ 0 then (0, checkL l) else if top < l.sum then (0, 10) else (l.sum, 0)

theorem sum_snoc {l : List Int} {k : Nat} {x : Int} (hk : l[k]? = some x) : (l.take (k + 1)).sum = (l.take k).sum + x := by
  rw [List.take_add_one, hk]; simp
theorem sum_nonneg {l : List Int} (h : ∀ y ∈ l, 0 ≤ y) : 0 ≤ l.sum := by
  induction l with
  | nil => simp
  | cons a t ih =>
    have h1 := h a (by simp)
    have h2 := ih (fun y hy => h y (by simp [hy]))
    simp only [List.sum_cons]; omega
theorem sum_take_le {l : List Int} (h : ∀ y ∈ l, 0 ≤ y) (k : Nat) : 0 ≤ (l.take k).sum ∧ (l.take k).sum ≤ l.sum := by
  have e : l.sum = (l.take k).sum + (l.drop k).sum := by rw [← List.sum_append, List.take_append_drop]
  have h1 := sum_nonneg (l := l.take k) (fun y hy => h y (List.mem_of_mem_take hy))
  have h2 := sum_nonneg (l := l.drop k) (fun y hy => h y (List.mem_of_mem_drop hy))
  omega
theorem chk_cases (l : List Int) : ((∃ x ∈ l, x < 0) ∧ checkL l = 2) ∨ ((∀ x ∈ l, 0 ≤ x) ∧ (∃ x ∈ l, top < x) ∧ checkL l = 10) ∨ ((∀ x ∈ l, 0 ≤ x) ∧ (∀ x ∈ l, x ≤ top) ∧ checkL l = 0) := by
  unfold checkL
  by_cases h : ∃ x ∈ l, x < 0
  · exact .inl ⟨h, if_pos h⟩
  · have h' : ∀ x ∈ l, 0 ≤ x := fun x hx => by
      rcases Int.lt_or_le x 0 with h0 | h0
      · exact absurd ⟨x, hx, h0⟩ h
      · exact h0
    by_cases h2 : ∃ x ∈ l, top < x
    · exact .inr (.inl ⟨h', h2, by rw [if_neg h, if_pos h2]⟩)
    · refine .inr (.inr ⟨h', fun x hx => ?_, by rw [if_neg h, if_neg h2]⟩)
      rcases Int.lt_or_le top x with h0 | h0
      · exact absurd ⟨x, hx, h0⟩ h2
      · exact h0

theorem check_is (A : Option Addr) (c : Nat) (l : List Int) (r : Int) (w : World) (hl : l.length ≤ maxLen) (hr : RowOf w A l) (h : checkL l = r) :
    Calls Tryz.prog 320 #[.slice A l.length c] w fun e w' => e = .returned (.int .i64 r) ∧ w = w' := h ▸ check_any A c l w hl hr

set_option maxHeartbeats 400000 in
theorem add_any (A : Option Addr) (c : Nat) (l : List Int) (w : World) (hl : l.length ≤ maxLen) (hr : RowOf w A l) :
    Calls Tryz.prog 280 #[.slice A l.length c] w fun e w' => e = .returned (.tuple #[.int .i64 (addL l).1, .int .i64 (addL l).2]) ∧ w = w' := by
  have Hl := Lib.hid hl
  unfold maxLen at hl
  have Hr := Lib.hid hr
  clear hr
  rcases chk_cases l with ⟨_, h⟩ | ⟨_, _, h⟩ | ⟨h0, h1, h⟩
  · have H := Lib.hid h
    clear h
    go_enter Tryz.func280, Tryz.ntmps280
    go_wp2_with (go_at_call 320; refine (check_is A c l 2 _ Hl.out Hr.out H.out).mono ?_; rintro e w' ⟨rfl, rfl⟩)
    go_ret2
    exact ⟨ret2I (by unfold addL; rw [H.out]; rfl) (by unfold addL; rw [H.out]; rfl), rfl⟩
  · have H := Lib.hid h
    clear h
    go_enter Tryz.func280, Tryz.ntmps280
    go_wp2_with (go_at_call 320; refine (check_is A c l 10 _ Hl.out Hr.out H.out).mono ?_; rintro e w' ⟨rfl, rfl⟩)
    go_ret2
    exact ⟨ret2I (by unfold addL; rw [H.out]; rfl) (by unfold addL; rw [H.out]; rfl), rfl⟩
  · have H := Lib.hid h
    have H0 := Lib.hid h0
    have H1 := Lib.hid h1
    clear h h0 h1
    go_enter Tryz.func280, Tryz.ntmps280
    go_wp2_with (go_at_call 320; refine (check_is A c l 0 _ Hl.out Hr.out H.out).mono ?_; rintro e w' ⟨rfl, rfl⟩)
    go_loop [5, 15] (fun s i => ∃ k : Nat, k ≤ l.length ∧ i = .int .i64 k ∧ s = .int .i64 (l.take k).sum ∧ (l.take k).sum ≤ top) (fun _ i => l.length - (intOf i).toNat)
    case atStart => exact ⟨0, Nat.zero_le _, rfl, rfl, by simp [top]⟩
    case round =>
      obtain ⟨k, hk, rfl, rfl, hle⟩ := hrel
      have hb := sum_take_le H0.out k
      unfold top at hle
      by_cases hlt : k < l.length
      · obtain ⟨b, o, rfl, hc⟩ := Hr.out k l[k] (List.getElem?_eq_getElem hlt)
        have Hs := Lib.hid (sum_snoc (List.getElem?_eq_getElem hlt))
        have hx0 := H0.out l[k] (List.getElem_mem _)
        have hx1 := H1.out l[k] (List.getElem_mem _)
        unfold top at hx1
        have hb2 := Lib.hid (sum_take_le H0.out (k + 1))
        by_cases hbig : 1099511627776 < (l.take k).sum + l[k]
        · go_wp2
          go_ret2
          have ht : top < l.sum := by have h := hb2.out; rw [Hs.out] at h; unfold top; omega
          exact ⟨ret2I (by unfold addL; rw [H.out, if_neg (by simp), if_pos ht]) (by unfold addL; rw [H.out, if_neg (by simp), if_pos ht]), rfl⟩
        · go_wp2
          go_round
          case rel => exact ⟨k + 1, by omega, by go_num, by rw [Hs.out], by rw [Hs.out]; unfold top; omega⟩
          case measure => simp [intOf]; omega
      · have He := Lib.hid (show l.take k = l from List.take_of_length_le (by omega))
        go_wp2
        go_ret2
        rw [He.out] at hle ⊢
        have ht : ¬ top < l.sum := by unfold top; omega
        exact ⟨ret2I (by unfold addL; rw [H.out, if_neg (by simp), if_neg ht]) (by unfold addL; rw [H.out, if_neg (by simp), if_neg ht]), rfl⟩

end Go.Proofs.YtmmokiaipfalmaaGreat.Qu

namespace Go.Proofs.YtmmokiaipfalmaaGreat.Qu
open Go.RowKit

/-- Rows lie in a slice. -/
def RowsOf (w : World) (A : Option Addr) (l : List (Nat → Int)) : Prop :=
  ∀ i x, l[i]? = some x → ∃ b o, A = some ⟨b, o, none⟩ ∧ b < w.heap.size ∧ ∀ k, k < 5 → w.cell? ⟨b, o + i * 5 + k, none⟩ = some (.int .i64 (x k))
theorem RowsOf.below {w w' : World} {A : Option Addr} {l : List (Nat → Int)} {B : Nat} (h : RowsOf w A l) (hb : Below B w w') (hB : w.heap.size ≤ B) : RowsOf w' A l := by
  intro i x hx
  obtain ⟨b, o, hA, hlt, hc⟩ := h i x hx
  exact ⟨b, o, hA, Nat.lt_of_lt_of_le hlt hb.size, fun k hk => (hb.cell (p := ⟨b, o + i * 5 + k, none⟩) (Nat.lt_of_lt_of_le hlt hB)).trans (hc k hk)⟩

/-- What stands at one place in each of the rows. -/
def colL (l : List (Nat → Int)) (p : Nat) : List Int := l.map (fun x => x p)

/-- These numbers lie in a block. -/
def NumsAt (w : World) (B n : Nat) (z : Nat → Int) : Prop := ∃ cs : Array Value, w.heap[B]? = some (.cells cs 3 (0, 0)) ∧ cs.size = n ∧ ∀ j, j < n → cs[j]? = some (.int .i64 (z j))
theorem NumsAt.cell {w : World} {B n : Nat} {z : Nat → Int} (h : NumsAt w B n z) {k : Nat} (hk : k < n) : w.cell? ⟨B, k, none⟩ = some (.int .i64 (z k)) := by
  obtain ⟨cs, hb, _, hz⟩ := h
  rw [cell_of_row w B k cs _ _ hb, hz k hk]
theorem NumsAt.free {w : World} {B n : Nat} {z : Nat → Int} (h : NumsAt w B n z) (k : Nat) : w.frozen? ⟨B, k, none⟩ = false := by
  obtain ⟨cs, hb, _, _⟩ := h
  simp [World.frozen?, hb]
theorem NumsAt.lt {w : World} {B n : Nat} {z : Nat → Int} (h : NumsAt w B n z) : B < w.heap.size := by
  obtain ⟨cs, hb, _, _⟩ := h
  rcases Nat.lt_or_ge B w.heap.size with g | g
  · exact g
  · rw [Array.getElem?_eq_none g] at hb; cases hb
theorem NumsAt.set {w : World} {B n : Nat} {z : Nat → Int} (h : NumsAt w B n z) (k : Nat) (v : Int) : NumsAt (w.setCell ⟨B, k, none⟩ (.int .i64 v)) B n (upd z k v) := by
  obtain ⟨cs, hb, hs, hz⟩ := h
  refine ⟨cs.setIfInBounds k (.int .i64 v), heap_setCell_same w B k cs _ _ hb, by simpa using hs, fun j hj => ?_⟩
  unfold upd
  by_cases hjk : j = k
  · subst hjk
    rw [Array.getElem?_setIfInBounds_self_of_lt (by omega)]
    simp
  · rw [Array.getElem?_setIfInBounds_ne (Ne.symm hjk), hz j hj]
    simp [hjk]
theorem NumsAt.alloc {w : World} {B n : Nat} {z : Nat → Int} (h : NumsAt w B n z) (o : Obj) : NumsAt (w.alloc o) B n z := by
  have hlt := h.lt
  obtain ⟨cs, hb, hs, hz⟩ := h
  exact ⟨cs, by rw [Below.heap_alloc w o B hlt, hb], hs, hz⟩

theorem int_info : (Tryz.prog.info? 3).map (fun i => (i.zero, i.size, i.bytes)) = some (some (.int .i64 0), 1, 8) := by kernel_rfl
theorem nums_new (w : World) (n : Nat) : NumsAt (w.alloc (.cells (madeCells #[.int .i64 0] n) 3)) w.heap.size n (fun _ => 0) := by
  refine ⟨_, heap_alloc_new _ _, size_madeCells _ _, fun j hj => ?_⟩
  unfold madeCells
  rw [Array.getElem?_map, Array.getElem?_eq_getElem (by simpa using hj)]
  simp [Nat.mod_one]

end Go.Proofs.YtmmokiaipfalmaaGreat.Qu

namespace Go.Proofs.YtmmokiaipfalmaaGreat.Qu
open Go.RowKit

def plusF (l : List (Nat → Int)) : Nat → Int × Int := fun k => addL (colL l k)

theorem col_len (l : List (Nat → Int)) (p : Nat) : (colL l p).length = l.length := by unfold colL; simp

end Go.Proofs.YtmmokiaipfalmaaGreat.Qu

namespace Go.Proofs.YtmmokiaipfalmaaGreat
open Go.RowKit

abbrev L2 := List UInt8 × List UInt8
abbrev T3 := Int × List UInt8 × List UInt8
/-- A list of labels, of terms, as a value. -/
structure ListL (w : World) (A : Option Addr) (c : Nat) (l : List L2) : Prop where
  le : l.length ≤ c
  most : c ≤ 9223372036854775807
  cells : La.SlAt w A (La.cellsL l)
  big : ∀ x ∈ l, x.1.length ≤ 9223372036854775807 ∧ x.2.length ≤ 9223372036854775807
structure ListT (w : World) (A : Option Addr) (c : Nat) (l : List T3) : Prop where
  le : l.length ≤ c
  most : c ≤ 9223372036854775807
  cells : La.SlAt w A (La.cellsT l)
  big : ∀ x ∈ l, x.2.1.length ≤ 9223372036854775807 ∧ x.2.2.length ≤ 9223372036854775807
theorem ListL.below {w w' : World} {A : Option Addr} {c : Nat} {l : List L2} (h : ListL w A c l) (hb : Below w.heap.size w w') : ListL w' A c l := ⟨h.le, h.most, h.cells.below hb, h.big⟩
theorem ListT.below {w w' : World} {A : Option Addr} {c : Nat} {l : List T3} (h : ListT w A c l) (hb : Below w.heap.size w w') : ListT w' A c l := ⟨h.le, h.most, h.cells.below hb, h.big⟩

/-- A node, a pod, an owner; beside each list its value. -/
structure NodeD where
  name : List UInt8
  cap : Nat → Int
  labels : List L2
  taints : List L2
  cordon : Bool
  lost : Bool
  al : Option Addr
  cl : Nat
  at_ : Option Addr
  ct : Nat
structure PodD where
  name : List UInt8
  owner : List UInt8
  req : Nat → Int
  labels : List L2
  whr : List T3
  bears : List L2
  wt : List UInt8
  wtm : List T3
  ap : List UInt8
  apm : List T3
  on : List UInt8
  al : Option Addr
  cl : Nat
  aw : Option Addr
  cw : Nat
  ab : Option Addr
  cb : Nat
  awt : Option Addr
  cwt : Nat
  aap : Option Addr
  cap : Nat
structure OwnD where
  name : List UInt8
  min : Int
  topo : List UInt8
  skew : Int
  single : Bool

structure NodeD.fit (w : World) (x : NodeD) : Prop where
  l : ListL w x.al x.cl x.labels
  t : ListL w x.at_ x.ct x.taints
  n : x.name.length ≤ 9223372036854775807
structure PodD.fit (w : World) (x : PodD) : Prop where
  l : ListL w x.al x.cl x.labels
  wh : ListT w x.aw x.cw x.whr
  b : ListL w x.ab x.cb x.bears
  wt : ListT w x.awt x.cwt x.wtm
  ap : ListT w x.aap x.cap x.apm
  n : x.name.length ≤ 9223372036854775807 ∧ x.owner.length ≤ 9223372036854775807 ∧ x.wt.length ≤ 9223372036854775807 ∧ x.ap.length ≤ 9223372036854775807 ∧ x.on.length ≤ 9223372036854775807
structure OwnD.fit (x : OwnD) : Prop where
  n : x.name.length ≤ 9223372036854775807
  t : x.topo.length ≤ 9223372036854775807
theorem NodeD.fit.below {w w' : World} {x : NodeD} (h : x.fit w) (hb : Below w.heap.size w w') : x.fit w' := ⟨h.l.below hb, h.t.below hb, h.n⟩
theorem PodD.fit.below {w w' : World} {x : PodD} (h : x.fit w) (hb : Below w.heap.size w w') : x.fit w' := ⟨h.l.below hb, h.wh.below hb, h.b.below hb, h.wt.below hb, h.ap.below hb, h.n⟩

abbrev valN (x : NodeD) : Value := .agg #[strV x.name, .int .i64 (x.cap 0), .int .i64 (x.cap 1), .int .i64 (x.cap 2), .int .i64 (x.cap 3), .int .i64 (x.cap 4), .slice x.al x.labels.length x.cl, .slice x.at_ x.taints.length x.ct, .bool x.cordon, .bool x.lost]
def cellsN (l : List NodeD) : List Value := l.flatMap fun x => [strV x.name, .int .i64 (x.cap 0), .int .i64 (x.cap 1), .int .i64 (x.cap 2), .int .i64 (x.cap 3), .int .i64 (x.cap 4), .slice x.al x.labels.length x.cl, .slice x.at_ x.taints.length x.ct, .bool x.cordon, .bool x.lost]
theorem cellsN_at : ∀ (l : List NodeD) (k : Nat) (x : NodeD), l[k]? = some x → ∀ i : Nat, i < 10 → (cellsN l)[k * 10 + i]? = [strV x.name, .int .i64 (x.cap 0), .int .i64 (x.cap 1), .int .i64 (x.cap 2), .int .i64 (x.cap 3), .int .i64 (x.cap 4), .slice x.al x.labels.length x.cl, .slice x.at_ x.taints.length x.ct, .bool x.cordon, .bool x.lost][i]?
  | [], k, x, h, i, hi => by simp at h
  | y :: t, 0, x, h, i, hi => by
    simp only [List.getElem?_cons_zero, Option.some.injEq] at h
    subst h
    show ([strV y.name, .int .i64 (y.cap 0), .int .i64 (y.cap 1), .int .i64 (y.cap 2), .int .i64 (y.cap 3), .int .i64 (y.cap 4), .slice y.al y.labels.length y.cl, .slice y.at_ y.taints.length y.ct, .bool y.cordon, .bool y.lost] ++ cellsN t)[0 * 10 + i]? = _
    rw [Nat.zero_mul, Nat.zero_add, List.getElem?_append_left (by simpa using hi)]
  | y :: t, k + 1, x, h, i, hi => by
    have := cellsN_at t k x (by simpa using h) i hi
    show ([strV y.name, .int .i64 (y.cap 0), .int .i64 (y.cap 1), .int .i64 (y.cap 2), .int .i64 (y.cap 3), .int .i64 (y.cap 4), .slice y.al y.labels.length y.cl, .slice y.at_ y.taints.length y.ct, .bool y.cordon, .bool y.lost] ++ cellsN t)[(k + 1) * 10 + i]? = _
    rw [List.getElem?_append_right (by simp; omega), ← this]
    congr 1
    simp
    omega

theorem atN {w : World} {A : Option Addr} {l : List NodeD} (h : La.SlAt w A (cellsN l)) {k : Nat} {x : NodeD} (hk : l[k]? = some x) :
    ∃ b o, A = some ⟨b, o, none⟩ ∧ b < w.heap.size ∧ w.cell? ⟨b, o + k * 10, none⟩ = some (strV x.name) ∧ w.cell? ⟨b, o + k * 10 + 1, none⟩ = some (.int .i64 (x.cap 0)) ∧ w.cell? ⟨b, o + k * 10 + 2, none⟩ = some (.int .i64 (x.cap 1)) ∧ w.cell? ⟨b, o + k * 10 + 3, none⟩ = some (.int .i64 (x.cap 2)) ∧ w.cell? ⟨b, o + k * 10 + 4, none⟩ = some (.int .i64 (x.cap 3)) ∧ w.cell? ⟨b, o + k * 10 + 5, none⟩ = some (.int .i64 (x.cap 4)) ∧ w.cell? ⟨b, o + k * 10 + 6, none⟩ = some (.slice x.al x.labels.length x.cl) ∧ w.cell? ⟨b, o + k * 10 + 7, none⟩ = some (.slice x.at_ x.taints.length x.ct) ∧ w.cell? ⟨b, o + k * 10 + 8, none⟩ = some (.bool x.cordon) ∧ w.cell? ⟨b, o + k * 10 + 9, none⟩ = some (.bool x.lost) := by
  have hc := cellsN_at l k x hk
  obtain ⟨b, o, hA, h0⟩ := h (k * 10 + 0) _ (hc 0 (by omega))
  have key : ∀ i v, (cellsN l)[k * 10 + i]? = some v → w.cell? ⟨b, o + k * 10 + i, none⟩ = some v := by
    intro i v hv
    obtain ⟨b', o', hA', h1⟩ := h _ _ hv
    rw [hA] at hA'
    cases hA'
    rw [Nat.add_assoc]
    exact h1
  exact ⟨b, o, hA, World.block_lt_of_cell? w _ h0, key 0 _ (hc 0 (by omega)), key 1 _ (hc 1 (by omega)), key 2 _ (hc 2 (by omega)), key 3 _ (hc 3 (by omega)), key 4 _ (hc 4 (by omega)), key 5 _ (hc 5 (by omega)), key 6 _ (hc 6 (by omega)), key 7 _ (hc 7 (by omega)), key 8 _ (hc 8 (by omega)), key 9 _ (hc 9 (by omega))⟩

abbrev valP (x : PodD) : Value := .agg #[strV x.name, strV x.owner, .int .i64 (x.req 0), .int .i64 (x.req 1), .int .i64 (x.req 2), .int .i64 (x.req 3), .int .i64 (x.req 4), .slice x.al x.labels.length x.cl, .slice x.aw x.whr.length x.cw, .slice x.ab x.bears.length x.cb, strV x.wt, .slice x.awt x.wtm.length x.cwt, strV x.ap, .slice x.aap x.apm.length x.cap, strV x.on]
def cellsP (l : List PodD) : List Value := l.flatMap fun x => [strV x.name, strV x.owner, .int .i64 (x.req 0), .int .i64 (x.req 1), .int .i64 (x.req 2), .int .i64 (x.req 3), .int .i64 (x.req 4), .slice x.al x.labels.length x.cl, .slice x.aw x.whr.length x.cw, .slice x.ab x.bears.length x.cb, strV x.wt, .slice x.awt x.wtm.length x.cwt, strV x.ap, .slice x.aap x.apm.length x.cap, strV x.on]
theorem cellsP_at : ∀ (l : List PodD) (k : Nat) (x : PodD), l[k]? = some x → ∀ i : Nat, i < 15 → (cellsP l)[k * 15 + i]? = [strV x.name, strV x.owner, .int .i64 (x.req 0), .int .i64 (x.req 1), .int .i64 (x.req 2), .int .i64 (x.req 3), .int .i64 (x.req 4), .slice x.al x.labels.length x.cl, .slice x.aw x.whr.length x.cw, .slice x.ab x.bears.length x.cb, strV x.wt, .slice x.awt x.wtm.length x.cwt, strV x.ap, .slice x.aap x.apm.length x.cap, strV x.on][i]?
  | [], k, x, h, i, hi => by simp at h
  | y :: t, 0, x, h, i, hi => by
    simp only [List.getElem?_cons_zero, Option.some.injEq] at h
    subst h
    show ([strV y.name, strV y.owner, .int .i64 (y.req 0), .int .i64 (y.req 1), .int .i64 (y.req 2), .int .i64 (y.req 3), .int .i64 (y.req 4), .slice y.al y.labels.length y.cl, .slice y.aw y.whr.length y.cw, .slice y.ab y.bears.length y.cb, strV y.wt, .slice y.awt y.wtm.length y.cwt, strV y.ap, .slice y.aap y.apm.length y.cap, strV y.on] ++ cellsP t)[0 * 15 + i]? = _
    rw [Nat.zero_mul, Nat.zero_add, List.getElem?_append_left (by simpa using hi)]
  | y :: t, k + 1, x, h, i, hi => by
    have := cellsP_at t k x (by simpa using h) i hi
    show ([strV y.name, strV y.owner, .int .i64 (y.req 0), .int .i64 (y.req 1), .int .i64 (y.req 2), .int .i64 (y.req 3), .int .i64 (y.req 4), .slice y.al y.labels.length y.cl, .slice y.aw y.whr.length y.cw, .slice y.ab y.bears.length y.cb, strV y.wt, .slice y.awt y.wtm.length y.cwt, strV y.ap, .slice y.aap y.apm.length y.cap, strV y.on] ++ cellsP t)[(k + 1) * 15 + i]? = _
    rw [List.getElem?_append_right (by simp; omega), ← this]
    congr 1
    simp
    omega

theorem atP {w : World} {A : Option Addr} {l : List PodD} (h : La.SlAt w A (cellsP l)) {k : Nat} {x : PodD} (hk : l[k]? = some x) :
    ∃ b o, A = some ⟨b, o, none⟩ ∧ b < w.heap.size ∧ w.cell? ⟨b, o + k * 15, none⟩ = some (strV x.name) ∧ w.cell? ⟨b, o + k * 15 + 1, none⟩ = some (strV x.owner) ∧ w.cell? ⟨b, o + k * 15 + 2, none⟩ = some (.int .i64 (x.req 0)) ∧ w.cell? ⟨b, o + k * 15 + 3, none⟩ = some (.int .i64 (x.req 1)) ∧ w.cell? ⟨b, o + k * 15 + 4, none⟩ = some (.int .i64 (x.req 2)) ∧ w.cell? ⟨b, o + k * 15 + 5, none⟩ = some (.int .i64 (x.req 3)) ∧ w.cell? ⟨b, o + k * 15 + 6, none⟩ = some (.int .i64 (x.req 4)) ∧ w.cell? ⟨b, o + k * 15 + 7, none⟩ = some (.slice x.al x.labels.length x.cl) ∧ w.cell? ⟨b, o + k * 15 + 8, none⟩ = some (.slice x.aw x.whr.length x.cw) ∧ w.cell? ⟨b, o + k * 15 + 9, none⟩ = some (.slice x.ab x.bears.length x.cb) ∧ w.cell? ⟨b, o + k * 15 + 10, none⟩ = some (strV x.wt) ∧ w.cell? ⟨b, o + k * 15 + 11, none⟩ = some (.slice x.awt x.wtm.length x.cwt) ∧ w.cell? ⟨b, o + k * 15 + 12, none⟩ = some (strV x.ap) ∧ w.cell? ⟨b, o + k * 15 + 13, none⟩ = some (.slice x.aap x.apm.length x.cap) ∧ w.cell? ⟨b, o + k * 15 + 14, none⟩ = some (strV x.on) := by
  have hc := cellsP_at l k x hk
  obtain ⟨b, o, hA, h0⟩ := h (k * 15 + 0) _ (hc 0 (by omega))
  have key : ∀ i v, (cellsP l)[k * 15 + i]? = some v → w.cell? ⟨b, o + k * 15 + i, none⟩ = some v := by
    intro i v hv
    obtain ⟨b', o', hA', h1⟩ := h _ _ hv
    rw [hA] at hA'
    cases hA'
    rw [Nat.add_assoc]
    exact h1
  exact ⟨b, o, hA, World.block_lt_of_cell? w _ h0, key 0 _ (hc 0 (by omega)), key 1 _ (hc 1 (by omega)), key 2 _ (hc 2 (by omega)), key 3 _ (hc 3 (by omega)), key 4 _ (hc 4 (by omega)), key 5 _ (hc 5 (by omega)), key 6 _ (hc 6 (by omega)), key 7 _ (hc 7 (by omega)), key 8 _ (hc 8 (by omega)), key 9 _ (hc 9 (by omega)), key 10 _ (hc 10 (by omega)), key 11 _ (hc 11 (by omega)), key 12 _ (hc 12 (by omega)), key 13 _ (hc 13 (by omega)), key 14 _ (hc 14 (by omega))⟩

abbrev valO (x : OwnD) : Value := .agg #[strV x.name, .int .i64 x.min, strV x.topo, .int .i64 x.skew, .bool x.single]
def cellsO (l : List OwnD) : List Value := l.flatMap fun x => [strV x.name, .int .i64 x.min, strV x.topo, .int .i64 x.skew, .bool x.single]
theorem cellsO_at : ∀ (l : List OwnD) (k : Nat) (x : OwnD), l[k]? = some x → ∀ i : Nat, i < 5 → (cellsO l)[k * 5 + i]? = [strV x.name, .int .i64 x.min, strV x.topo, .int .i64 x.skew, .bool x.single][i]?
  | [], k, x, h, i, hi => by simp at h
  | y :: t, 0, x, h, i, hi => by
    simp only [List.getElem?_cons_zero, Option.some.injEq] at h
    subst h
    show ([strV y.name, .int .i64 y.min, strV y.topo, .int .i64 y.skew, .bool y.single] ++ cellsO t)[0 * 5 + i]? = _
    rw [Nat.zero_mul, Nat.zero_add, List.getElem?_append_left (by simpa using hi)]
  | y :: t, k + 1, x, h, i, hi => by
    have := cellsO_at t k x (by simpa using h) i hi
    show ([strV y.name, .int .i64 y.min, strV y.topo, .int .i64 y.skew, .bool y.single] ++ cellsO t)[(k + 1) * 5 + i]? = _
    rw [List.getElem?_append_right (by simp; omega), ← this]
    congr 1
    simp
    omega

theorem atO {w : World} {A : Option Addr} {l : List OwnD} (h : La.SlAt w A (cellsO l)) {k : Nat} {x : OwnD} (hk : l[k]? = some x) :
    ∃ b o, A = some ⟨b, o, none⟩ ∧ b < w.heap.size ∧ w.cell? ⟨b, o + k * 5, none⟩ = some (strV x.name) ∧ w.cell? ⟨b, o + k * 5 + 1, none⟩ = some (.int .i64 x.min) ∧ w.cell? ⟨b, o + k * 5 + 2, none⟩ = some (strV x.topo) ∧ w.cell? ⟨b, o + k * 5 + 3, none⟩ = some (.int .i64 x.skew) ∧ w.cell? ⟨b, o + k * 5 + 4, none⟩ = some (.bool x.single) := by
  have hc := cellsO_at l k x hk
  obtain ⟨b, o, hA, h0⟩ := h (k * 5 + 0) _ (hc 0 (by omega))
  have key : ∀ i v, (cellsO l)[k * 5 + i]? = some v → w.cell? ⟨b, o + k * 5 + i, none⟩ = some v := by
    intro i v hv
    obtain ⟨b', o', hA', h1⟩ := h _ _ hv
    rw [hA] at hA'
    cases hA'
    rw [Nat.add_assoc]
    exact h1
  exact ⟨b, o, hA, World.block_lt_of_cell? w _ h0, key 0 _ (hc 0 (by omega)), key 1 _ (hc 1 (by omega)), key 2 _ (hc 2 (by omega)), key 3 _ (hc 3 (by omega)), key 4 _ (hc 4 (by omega))⟩

/-- The lists of a cluster. -/
structure NodesAt (w : World) (A : Option Addr) (l : List NodeD) : Prop where
  cells : La.SlAt w A (cellsN l)
  fit : ∀ x ∈ l, x.fit w
structure PodsAt (w : World) (A : Option Addr) (l : List PodD) : Prop where
  cells : La.SlAt w A (cellsP l)
  fit : ∀ x ∈ l, x.fit w
theorem NodesAt.below {w w' : World} {A : Option Addr} {l : List NodeD} (h : NodesAt w A l) (hb : Below w.heap.size w w') : NodesAt w' A l := ⟨h.cells.below hb, fun x hx => (h.fit x hx).below hb⟩
theorem PodsAt.below {w w' : World} {A : Option Addr} {l : List PodD} (h : PodsAt w A l) (hb : Below w.heap.size w w') : PodsAt w' A l := ⟨h.cells.below hb, fun x hx => (h.fit x hx).below hb⟩
end Go.Proofs.YtmmokiaipfalmaaGreat

namespace Go.Proofs.YtmmokiaipfalmaaGreat
open Go.RowKit

set_option maxHeartbeats 400000 in
theorem nodeName_any (x : NodeD) (w : World) : Calls Tryz.prog 197 #[valN x] w fun e w' => e = .returned (strV x.name) ∧ Below w.heap.size w w' := by
  go_enter Tryz.func197, Tryz.ntmps197
  go_wp2
  go_ret
  exact ⟨rfl, by first | exact Below.refl _ _ | exact (Below.refl _ _).alloc (Nat.le_refl _) _⟩
set_option maxHeartbeats 400000 in
theorem podName_any (x : PodD) (w : World) : Calls Tryz.prog 199 #[valP x] w fun e w' => e = .returned (strV x.name) ∧ Below w.heap.size w w' := by
  go_enter Tryz.func199, Tryz.ntmps199
  go_wp2
  go_ret
  exact ⟨rfl, by first | exact Below.refl _ _ | exact (Below.refl _ _).alloc (Nat.le_refl _) _⟩
set_option maxHeartbeats 400000 in
theorem ownerName_any (x : OwnD) (w : World) : Calls Tryz.prog 201 #[valO x] w fun e w' => e = .returned (strV x.name) ∧ Below w.heap.size w w' := by
  go_enter Tryz.func201, Tryz.ntmps201
  go_wp2
  go_ret
  exact ⟨rfl, by first | exact Below.refl _ _ | exact (Below.refl _ _).alloc (Nat.le_refl _) _⟩
theorem results_row1 {P : Program} {fn : Func} {p : Tmp} {ty : TypeId} (h : fn.results = #[.cell p ty]) (tmps : Array Value) (w : World) (g : Nat) (t : TypeId) (cs : Array Value) (fr : Nat × Nat) (d : TypeDesc)
    (hp : tmps.getD p undef = .pointer (some ⟨g, 0, none⟩)) (hg : w.heap[g]? = some (.cells cs t fr))
    (hu : P.underlying ty = some d) (hd : (match d with | .struct _ | .array _ _ => true | _ => false) = true) (hi : (P.info? ty).map (·.size) = some cs.size) :
    (results fn tmps).run P w = .ok (.agg cs) w := by
  have hp' : tmps[p]?.getD undef = .pointer (some ⟨g, 0, none⟩) := by simpa using hp
  simp [results, h, hp', asAddr, run_loadVar_row w g t ty cs fr d hg hu hd hi]
theorem bodyPost_row1 {P : Program} {fn : Func} {p : Tmp} {ty : TypeId} {R : Ending → World → Prop} {a : Act} {w : World} (h : fn.results = #[.cell p ty]) (g : Nat) (t : TypeId) (cs : Array Value) (fr : Nat × Nat) (d : TypeDesc)
    (hd0 : a.defers = []) (hp : a.tmps.getD p undef = .pointer (some ⟨g, 0, none⟩)) (hg : w.heap[g]? = some (.cells cs t fr))
    (hu : P.underlying ty = some d) (hd : (match d with | .struct _ | .array _ _ => true | _ => false) = true) (hi : (P.info? ty).map (·.size) = some cs.size)
    (hR : R (.returned (.agg cs)) w) : bodyPost P fn R .ret a w :=
  bodyPost_ret (results_row1 h a.tmps w g t cs fr d hp hg hu hd hi) hd0 hR
theorem blk2 (w : World) (o : Obj) (cs : Array Value) (t : TypeId) : ((w.alloc o).alloc (.cells cs t)).heap[w.heap.size + 1]? = some (.cells cs t (0, 0)) := by
  have h := heap_alloc_new (w.alloc o) (.cells cs t)
  rw [show (w.alloc o).heap.size = w.heap.size + 1 by simp] at h
  exact h
theorem vec_size : (Tryz.prog.info? 47).map (·.size) = some 5 := by kernel_rfl
abbrev rowV (x : Nat → Int) : Value := .agg #[.int .i64 (x 0), .int .i64 (x 1), .int .i64 (x 2), .int .i64 (x 3), .int .i64 (x 4)]
set_option maxHeartbeats 400000 in
theorem capOf_any (x : NodeD) (w : World) : Calls Tryz.prog 146 #[valN x] w fun e w' => e = .returned (rowV x.cap) ∧ Below w.heap.size w w' := by
  go_enter Tryz.func146, Tryz.ntmps146
  go_wp2
  refine bodyPost_row1 Tryz.results146 (w.heap.size + 1) _ _ _ _ ?d1 ?p1 (blk2 w _ _ _) Tryz.underlying47 rfl vec_size ?_
  case d1 => rfl
  case p1 => rfl
  exact ⟨rfl, Qu.below2 _ _ _⟩
set_option maxHeartbeats 400000 in
theorem reqOf_any (x : PodD) (w : World) : Calls Tryz.prog 148 #[valP x] w fun e w' => e = .returned (rowV x.req) ∧ Below w.heap.size w w' := by
  go_enter Tryz.func148, Tryz.ntmps148
  go_wp2
  refine bodyPost_row1 Tryz.results148 (w.heap.size + 1) _ _ _ _ ?d1 ?p1 (blk2 w _ _ _) Tryz.underlying47 rfl vec_size ?_
  case d1 => rfl
  case p1 => rfl
  exact ⟨rfl, Qu.below2 _ _ _⟩
end Go.Proofs.YtmmokiaipfalmaaGreat

namespace Go.Proofs.YtmmokiaipfalmaaGreat
open Go.RowKit

/-- A block of n elements of d cells; the first k of them are made. -/
def DestAt (w : World) (B n d t k : Nat) (g : Nat → List Value) : Prop := ∃ cs : Array Value, w.heap[B]? = some (.cells cs t (0, 0)) ∧ cs.size = n * d ∧ ∀ j, j < k → ∀ i, i < d → cs[j * d + i]? = (g j)[i]?
theorem DestAt.lt {w : World} {B n d t k : Nat} {g : Nat → List Value} (h : DestAt w B n d t k g) : B < w.heap.size := by
  obtain ⟨cs, hb, _⟩ := h
  exact (Array.getElem?_eq_some_iff.1 hb).1
theorem DestAt.below {w w' : World} {B C n d t k : Nat} {g : Nat → List Value} (h : DestAt w B n d t k g) (hb : Below C w w') (hB : B < C) : DestAt w' B n d t k g := by
  obtain ⟨cs, h1, h2, h3⟩ := h
  exact ⟨cs, (hb.block B hB).trans h1, h2, h3⟩
theorem DestAt.alloc {w : World} {B n d t k : Nat} {g : Nat → List Value} (h : DestAt w B n d t k g) (o : Obj) : DestAt (w.alloc o) B n d t k g := by
  have hlt := h.lt
  obtain ⟨cs, h1, h2, h3⟩ := h
  exact ⟨cs, by rw [Below.heap_alloc w o B hlt, h1], h2, h3⟩
theorem DestAt.free {w : World} {B n d t k : Nat} {g : Nat → List Value} (h : DestAt w B n d t k g) (i : Nat) : w.frozen? ⟨B, i, none⟩ = false := by
  obtain ⟨cs, hb, _⟩ := h
  simp [World.frozen?, hb]
theorem DestAt.has {w : World} {B n d t k : Nat} {g : Nat → List Value} (h : DestAt w B n d t k g) {i : Nat} (hi : i < n * d) : ∃ v, w.cell? ⟨B, i, none⟩ = some v := by
  obtain ⟨cs, hb, hs, _⟩ := h
  exact ⟨cs[i]'(by omega), by rw [cell_of_row w B i cs _ _ hb, Array.getElem?_eq_getElem]⟩
theorem DestAt.set1 {w : World} {B n t k : Nat} {g : Nat → List Value} (h : DestAt w B n 1 t k g) (hk : k < n) (v : Value) (hv : g k = [v]) : DestAt (w.setCell ⟨B, k, none⟩ v) B n 1 t (k + 1) g := by
  obtain ⟨cs, hb, hs, hz⟩ := h
  refine ⟨cs.setIfInBounds k v, heap_setCell_same w B k cs _ _ hb, by simpa using hs, fun j hj i hi => ?_⟩
  obtain rfl : i = 0 := by omega
  rw [Nat.mul_one, Nat.add_zero]
  by_cases hjk : j = k
  · subst hjk
    rw [Array.getElem?_setIfInBounds_self_of_lt (by omega), hv]
    rfl
  · rw [Array.getElem?_setIfInBounds_ne (Ne.symm hjk)]
    have := hz j (by omega) 0 hi
    rw [Nat.mul_one, Nat.add_zero] at this
    exact this
theorem DestAt.own {w : World} {base B n d t : Nat} {g : Nat → List Value} (h : DestAt w B n d t n g) (hB : base ≤ B) (hn : n ≤ maxLen) (xs : List Value) (hl : xs.length = n * d) (hg : ∀ j, j < n → ∀ i, i < d → xs[j * d + i]? = (g j)[i]?) (hd : 0 < d) : w.ownsRow base t d (.slice (some ⟨B, 0, none⟩) n n) n xs := by
  obtain ⟨cs, hb, hs, hz⟩ := h
  refine ⟨hl, .inr ⟨B, n, cs, rfl, hB, hb, Nat.le_refl _, hn, hs, ?_⟩⟩
  rw [List.take_of_length_le (by rw [Array.length_toList]; omega)]
  refine List.ext_getElem? fun m => ?_
  by_cases hm : m < n * d
  · have e : m = (m / d) * d + m % d := by rw [Nat.mul_comm]; exact (Nat.div_add_mod m d).symm
    have h1 : m / d < n := (Nat.div_lt_iff_lt_mul hd).2 hm
    have h2 : m % d < d := Nat.mod_lt _ hd
    rw [e, Array.getElem?_toList, hz _ h1 _ h2, hg _ h1 _ h2]
  · rw [List.getElem?_eq_none (by rw [Array.length_toList]; omega), List.getElem?_eq_none (by omega)]
theorem str_info : (Tryz.prog.info? 9).map (fun i => (i.zero, i.size, i.bytes)) = some (some (.string ⟨#[]⟩), 1, 16) := by kernel_rfl
/-- A slice of n empty texts is made. -/
theorem run_strs (w : World) (n : Nat) (hn : n ≤ 1000000) : (Instr.makeSlice 66 (.int .i64 (n : Int)) (.int .i64 (n : Int))).run Tryz.prog w = .ok (.slice (some ⟨w.heap.size, 0, none⟩) n n) (w.alloc (.cells (madeCells #[.string ⟨#[]⟩] n) 9)) := by
  cases hi : Tryz.prog.info? 9 with
  | none => have h := str_info; rw [hi] at h; cases h
  | some i =>
    have h := str_info
    rw [hi] at h
    simp only [Option.map_some, Option.some.injEq, Prod.mk.injEq] at h
    obtain ⟨h0, h1, h2⟩ := h
    have k := run_make (P := Tryz.prog) w 66 9 i (.string ⟨#[]⟩) Tryz.underlying66 hi h0 .i64 .i64 n n (by omega) (by omega) (by rw [h2]; omega) (by omega)
    simpa [h1, Value.cells] using k

/-- Is a list none at all? -/
theorem run_eqnil {P : Program} {w : World} (t e : TypeId) (a : Option Addr) (l c : Nat) (h : P.underlying t = some (.slice e)) : (binOp .eql t (.slice a l c) (.slice none 0 0)).run P w = .ok (.bool a.isNone) w := by
  simp only [binOp]
  simp [run_equal_slice_nil w t e a l c h]

set_option maxRecDepth 100000 in
set_option maxHeartbeats 2000000 in
theorem eachNS (A : Option Addr) (c : Nat) (l : List NodeD) (g : FuncId) (w : World) (hl : l.length ≤ 1000) (hs : La.SlAt w A (cellsN l)) (hn : A = none → l = [])
    (hg : ∀ args w, (callFunc g args).run Tryz.prog w = .ok (.enter g args) w)
    (hK : ∀ (x : NodeD) (w : World), Calls Tryz.prog g #[valN x] w fun e w' => e = .returned (strV x.name) ∧ Below w.heap.size w w') :
    Calls Tryz.prog 196 #[.slice A l.length c, .func (Fn.func g) #[] #[]] w fun e w' => ∃ v, e = .returned v ∧ w'.ownsRow w.heap.size 9 1 v l.length (l.map fun x => strV x.name) ∧ Below w.heap.size w w' := by
  cases A with
  | none =>
    obtain rfl := hn rfl
    have hnl := fun w => run_eqnil (P := Tryz.prog) (w := w) 22 81 none 0 c Tryz.underlying22
    clear hs hn hK
    go_enter Tryz.func196, Tryz.ntmps196
    go_wp2
    go_ret
    exact ⟨_, rfl, World.ownsRow_nil _ _ _ _, Below.refl _ _⟩
  | some a =>
    have HS := Lib.hid hs
    clear hs hn
    have hmk := run_strs w l.length (by omega)
    have hnl := fun w => run_eqnil (P := Tryz.prog) (w := w) 22 81 (some a) l.length c Tryz.underlying22
    go_enter Tryz.func196, Tryz.ntmps196
    go_wp2_with fail
    clear hmk hnl
    go_loopw [15] (fun i wr => ∃ k : Nat, k ≤ l.length ∧ i = .int .i64 k ∧ DestAt wr w.heap.size l.length 1 9 k (fun j => [strV ((l.map (·.name)).getD j [])]) ∧ Below w.heap.size w wr) (fun i _ => l.length - (intOf i).toNat)
    case atStart => exact ⟨0, by omega, rfl, ⟨_, heap_alloc_new _ _, by rw [size_madeCells, Nat.mul_one], fun j hj => by omega⟩, below1 w _⟩
    case round =>
      obtain ⟨k, hk, rfl, hd, hb⟩ := hrel
      have HD := Lib.hid hd
      have HB := Lib.hid hb
      have hsz := hd.lt
      clear hd hb
      by_cases hlt : k < l.length
      · obtain ⟨x, hx⟩ : ∃ x, l[k]? = some x := ⟨l[k], List.getElem?_eq_getElem hlt⟩
        obtain ⟨b, o, hA, hbl, c0, c1, c2, c3, c4, c5, c6, c7, c8, c9⟩ := atN (HS.out.below HB.out) hx
        cases hA
        have k0 : (0 : Int) ≤ (k : Int) := by omega
        have k1 : (k : Int) < (l.length : Int) := by omega
        have hgd : (l.map (·.name)).getD k [] = x.name := by simp [List.getD_eq_getElem?_getD, hx]
        have HG := Lib.hid hgd
        have KX := Lib.hid (hK x)
        clear hx hgd
        go_wp2_with fail
        refine (KX.out _).mono ?_
        rintro e w3 ⟨rfl, hb3⟩
        have D3 := Lib.hid ((HD.out.alloc (.cells (cellsN [x]).toArray 81)).below hb3 (Nat.lt_of_lt_of_le hsz (by simp)))
        have B3 := Lib.hid ((HB.out.alloc HB.out.size (.cells (cellsN [x]).toArray 81)).trans (hb3.mono (Nat.le_trans (Nat.le_of_lt hsz) (by simp))))
        have f3 := D3.out.free k
        obtain ⟨v3, h3⟩ := D3.out.has (i := k) (by omega)
        clear hb3 KX c0 c1 c2 c3 c4 c5 c6 c7 c8 c9
        go_wp2
        go_roundw
        case rel => exact ⟨k + 1, by omega, by go_num, D3.out.set1 hlt (strV x.name) (by show [strV ((l.map (·.name)).getD k [])] = _; rw [HG.out]), B3.out.setCell (p := ⟨w.heap.size, k, none⟩) (Nat.le_refl _) _⟩
        case measure => simp [intOf]; omega
      · obtain rfl : k = l.length := by omega
        go_wp2
        go_ret
        refine ⟨_, rfl, HD.out.own (Nat.le_refl _) (by unfold maxLen; omega) _ (by simp) (fun j hj i hi => ?_) (by omega), HB.out⟩
        obtain rfl : i = 0 := by omega
        rw [Nat.mul_one, Nat.add_zero, List.getElem?_map, List.getElem?_eq_getElem hj]
        simp [List.getD_eq_getElem?_getD, List.getElem?_eq_getElem hj]
set_option maxRecDepth 100000 in
set_option maxHeartbeats 2000000 in
theorem eachPS (A : Option Addr) (c : Nat) (l : List PodD) (g : FuncId) (w : World) (hl : l.length ≤ 1000) (hs : La.SlAt w A (cellsP l)) (hn : A = none → l = [])
    (hg : ∀ args w, (callFunc g args).run Tryz.prog w = .ok (.enter g args) w)
    (hK : ∀ (x : PodD) (w : World), Calls Tryz.prog g #[valP x] w fun e w' => e = .returned (strV x.name) ∧ Below w.heap.size w w') :
    Calls Tryz.prog 198 #[.slice A l.length c, .func (Fn.func g) #[] #[]] w fun e w' => ∃ v, e = .returned v ∧ w'.ownsRow w.heap.size 9 1 v l.length (l.map fun x => strV x.name) ∧ Below w.heap.size w w' := by
  cases A with
  | none =>
    obtain rfl := hn rfl
    have hnl := fun w => run_eqnil (P := Tryz.prog) (w := w) 23 53 none 0 c Tryz.underlying23
    clear hs hn hK
    go_enter Tryz.func198, Tryz.ntmps198
    go_wp2
    go_ret
    exact ⟨_, rfl, World.ownsRow_nil _ _ _ _, Below.refl _ _⟩
  | some a =>
    have HS := Lib.hid hs
    clear hs hn
    have hmk := run_strs w l.length (by omega)
    have hnl := fun w => run_eqnil (P := Tryz.prog) (w := w) 23 53 (some a) l.length c Tryz.underlying23
    go_enter Tryz.func198, Tryz.ntmps198
    go_wp2_with fail
    clear hmk hnl
    go_loopw [15] (fun i wr => ∃ k : Nat, k ≤ l.length ∧ i = .int .i64 k ∧ DestAt wr w.heap.size l.length 1 9 k (fun j => [strV ((l.map (·.name)).getD j [])]) ∧ Below w.heap.size w wr) (fun i _ => l.length - (intOf i).toNat)
    case atStart => exact ⟨0, by omega, rfl, ⟨_, heap_alloc_new _ _, by rw [size_madeCells, Nat.mul_one], fun j hj => by omega⟩, below1 w _⟩
    case round =>
      obtain ⟨k, hk, rfl, hd, hb⟩ := hrel
      have HD := Lib.hid hd
      have HB := Lib.hid hb
      have hsz := hd.lt
      clear hd hb
      by_cases hlt : k < l.length
      · obtain ⟨x, hx⟩ : ∃ x, l[k]? = some x := ⟨l[k], List.getElem?_eq_getElem hlt⟩
        obtain ⟨b, o, hA, hbl, c0, c1, c2, c3, c4, c5, c6, c7, c8, c9, c10, c11, c12, c13, c14⟩ := atP (HS.out.below HB.out) hx
        cases hA
        have k0 : (0 : Int) ≤ (k : Int) := by omega
        have k1 : (k : Int) < (l.length : Int) := by omega
        have hgd : (l.map (·.name)).getD k [] = x.name := by simp [List.getD_eq_getElem?_getD, hx]
        have HG := Lib.hid hgd
        have KX := Lib.hid (hK x)
        clear hx hgd
        go_wp2_with fail
        refine (KX.out _).mono ?_
        rintro e w3 ⟨rfl, hb3⟩
        have D3 := Lib.hid ((HD.out.alloc (.cells (cellsP [x]).toArray 53)).below hb3 (Nat.lt_of_lt_of_le hsz (by simp)))
        have B3 := Lib.hid ((HB.out.alloc HB.out.size (.cells (cellsP [x]).toArray 53)).trans (hb3.mono (Nat.le_trans (Nat.le_of_lt hsz) (by simp))))
        have f3 := D3.out.free k
        obtain ⟨v3, h3⟩ := D3.out.has (i := k) (by omega)
        clear hb3 KX c0 c1 c2 c3 c4 c5 c6 c7 c8 c9 c10 c11 c12 c13 c14
        go_wp2
        go_roundw
        case rel => exact ⟨k + 1, by omega, by go_num, D3.out.set1 hlt (strV x.name) (by show [strV ((l.map (·.name)).getD k [])] = _; rw [HG.out]), B3.out.setCell (p := ⟨w.heap.size, k, none⟩) (Nat.le_refl _) _⟩
        case measure => simp [intOf]; omega
      · obtain rfl : k = l.length := by omega
        go_wp2
        go_ret
        refine ⟨_, rfl, HD.out.own (Nat.le_refl _) (by unfold maxLen; omega) _ (by simp) (fun j hj i hi => ?_) (by omega), HB.out⟩
        obtain rfl : i = 0 := by omega
        rw [Nat.mul_one, Nat.add_zero, List.getElem?_map, List.getElem?_eq_getElem hj]
        simp [List.getD_eq_getElem?_getD, List.getElem?_eq_getElem hj]
set_option maxRecDepth 100000 in
set_option maxHeartbeats 2000000 in
theorem eachOS (A : Option Addr) (c : Nat) (l : List OwnD) (g : FuncId) (w : World) (hl : l.length ≤ 1000) (hs : La.SlAt w A (cellsO l)) (hn : A = none → l = [])
    (hg : ∀ args w, (callFunc g args).run Tryz.prog w = .ok (.enter g args) w)
    (hK : ∀ (x : OwnD) (w : World), Calls Tryz.prog g #[valO x] w fun e w' => e = .returned (strV x.name) ∧ Below w.heap.size w w') :
    Calls Tryz.prog 200 #[.slice A l.length c, .func (Fn.func g) #[] #[]] w fun e w' => ∃ v, e = .returned v ∧ w'.ownsRow w.heap.size 9 1 v l.length (l.map fun x => strV x.name) ∧ Below w.heap.size w w' := by
  cases A with
  | none =>
    obtain rfl := hn rfl
    have hnl := fun w => run_eqnil (P := Tryz.prog) (w := w) 24 102 none 0 c Tryz.underlying24
    clear hs hn hK
    go_enter Tryz.func200, Tryz.ntmps200
    go_wp2
    go_ret
    exact ⟨_, rfl, World.ownsRow_nil _ _ _ _, Below.refl _ _⟩
  | some a =>
    have HS := Lib.hid hs
    clear hs hn
    have hmk := run_strs w l.length (by omega)
    have hnl := fun w => run_eqnil (P := Tryz.prog) (w := w) 24 102 (some a) l.length c Tryz.underlying24
    go_enter Tryz.func200, Tryz.ntmps200
    go_wp2_with fail
    clear hmk hnl
    go_loopw [15] (fun i wr => ∃ k : Nat, k ≤ l.length ∧ i = .int .i64 k ∧ DestAt wr w.heap.size l.length 1 9 k (fun j => [strV ((l.map (·.name)).getD j [])]) ∧ Below w.heap.size w wr) (fun i _ => l.length - (intOf i).toNat)
    case atStart => exact ⟨0, by omega, rfl, ⟨_, heap_alloc_new _ _, by rw [size_madeCells, Nat.mul_one], fun j hj => by omega⟩, below1 w _⟩
    case round =>
      obtain ⟨k, hk, rfl, hd, hb⟩ := hrel
      have HD := Lib.hid hd
      have HB := Lib.hid hb
      have hsz := hd.lt
      clear hd hb
      by_cases hlt : k < l.length
      · obtain ⟨x, hx⟩ : ∃ x, l[k]? = some x := ⟨l[k], List.getElem?_eq_getElem hlt⟩
        obtain ⟨b, o, hA, hbl, c0, c1, c2, c3, c4⟩ := atO (HS.out.below HB.out) hx
        cases hA
        have k0 : (0 : Int) ≤ (k : Int) := by omega
        have k1 : (k : Int) < (l.length : Int) := by omega
        have hgd : (l.map (·.name)).getD k [] = x.name := by simp [List.getD_eq_getElem?_getD, hx]
        have HG := Lib.hid hgd
        have KX := Lib.hid (hK x)
        clear hx hgd
        go_wp2_with fail
        refine (KX.out _).mono ?_
        rintro e w3 ⟨rfl, hb3⟩
        have D3 := Lib.hid ((HD.out.alloc (.cells (cellsO [x]).toArray 102)).below hb3 (Nat.lt_of_lt_of_le hsz (by simp)))
        have B3 := Lib.hid ((HB.out.alloc HB.out.size (.cells (cellsO [x]).toArray 102)).trans (hb3.mono (Nat.le_trans (Nat.le_of_lt hsz) (by simp))))
        have f3 := D3.out.free k
        obtain ⟨v3, h3⟩ := D3.out.has (i := k) (by omega)
        clear hb3 KX c0 c1 c2 c3 c4
        go_wp2
        go_roundw
        case rel => exact ⟨k + 1, by omega, by go_num, D3.out.set1 hlt (strV x.name) (by show [strV ((l.map (·.name)).getD k [])] = _; rw [HG.out]), B3.out.setCell (p := ⟨w.heap.size, k, none⟩) (Nat.le_refl _) _⟩
        case measure => simp [intOf]; omega
      · obtain rfl : k = l.length := by omega
        go_wp2
        go_ret
        refine ⟨_, rfl, HD.out.own (Nat.le_refl _) (by unfold maxLen; omega) _ (by simp) (fun j hj i hi => ?_) (by omega), HB.out⟩
        obtain rfl : i = 0 := by omega
        rw [Nat.mul_one, Nat.add_zero, List.getElem?_map, List.getElem?_eq_getElem hj]
        simp [List.getD_eq_getElem?_getD, List.getElem?_eq_getElem hj]
end Go.Proofs.YtmmokiaipfalmaaGreat

namespace Go.Proofs.YtmmokiaipfalmaaGreat
open Go.RowKit

abbrev strC (l : List (List UInt8)) : List Value := l.map strV
/-- Does one stand ahead of another? -/
def ltS (y x : List UInt8) : Bool := !(Op.bytesLess x y || x == y)
/-- Names that rise. -/
def namesB (l : List (List UInt8)) : Bool := La.chkK La.nameB ltS l l.length
theorem strC_at {w : World} {A : Option Addr} {l : List (List UInt8)} (h : La.SlAt w A (strC l)) {k : Nat} {x : List UInt8} (hk : l[k]? = some x) : ∃ b o, A = some ⟨b, o, none⟩ ∧ b < w.heap.size ∧ w.cell? ⟨b, o + k, none⟩ = some (strV x) := by
  obtain ⟨b, o, hA, hc⟩ := h k (strV x) (by simp [strC, hk])
  exact ⟨b, o, hA, World.block_lt_of_cell? w _ hc, hc⟩

set_option maxRecDepth 100000 in
set_option maxHeartbeats 2000000 in
theorem mayBeNames_any (A : Option Addr) (c : Nat) (l : List (List UInt8)) (w : World) (hl : l.length ≤ 1000) (hc : l.length ≤ c) (hcm : c ≤ 9223372036854775807) (hs : La.SlAt w A (strC l)) (hbig : ∀ x ∈ l, x.length ≤ 9223372036854775807) :
    Calls Tryz.prog 195 #[.slice A l.length c] w fun e w' => e = .returned (.bool (namesB l)) ∧ Below w.heap.size w w' := by
  have HS := Lib.hid hs
  have Hbig := Lib.hid hbig
  clear hs hbig
  obtain ⟨R, hR⟩ : ∃ R, namesB l = R := ⟨_, rfl⟩
  rw [hR]
  have HR := Lib.hid hR
  clear hR
  go_enter Tryz.func195, Tryz.ntmps195
  go_wp2
  go_loopw [7] (fun i wr => ∃ k : Nat, k ≤ l.length ∧ i = .int .i64 k ∧ La.chkK La.nameB ltS l k = true ∧ Below w.heap.size w wr) (fun i _ => l.length - (intOf i).toNat)
  case atStart => exact ⟨0, by omega, rfl, rfl, Below.refl _ _⟩
  case round =>
    obtain ⟨k, hk, rfl, hp, hbw⟩ := hrel
    have Hp := Lib.hid hp
    have HB := Lib.hid hbw
    clear hp hbw
    by_cases hlt : k < l.length
    · obtain ⟨x, hxk⟩ : ∃ x, l[k]? = some x := ⟨l[k], List.getElem?_eq_getElem hlt⟩
      obtain ⟨b, o, hA, hb0, hx⟩ := strC_at (HS.out.below HB.out) hxk
      subst hA
      have hstep : La.chkK La.nameB ltS l (k + 1) = La.okAt La.nameB ltS l k x := by rw [La.chkK, Hp.out, hxk]; rfl
      have Hstep := Lib.hid hstep
      have KN := Lib.hid (La.nameB_any x wr (Hbig.out x (List.mem_of_getElem? hxk)))
      have Hxk := Lib.hid hxk
      have k0 : (0 : Int) ≤ (k : Int) := by omega
      have k1 : (k : Int) < (l.length : Int) := by omega
      clear hxk hstep
      go_wp2_with fail
      refine KN.out.mono ?_
      rintro e w3 ⟨rfl, hb3⟩
      have B3 := Lib.hid (HB.out.trans (hb3.mono HB.out.size))
      have Hb3 := Lib.hid hb3
      clear hb3 KN hx
      cases hnb : La.nameB x
      · have hno : R = false := by
          rw [← HR.out]
          exact La.chkK_false (k := k + 1) (by rw [Hstep.out]; exact La.okAt_no hnb) (by omega)
        have HNo := Lib.hid hno
        clear hno
        go_wp2
        go_ret
        exact ⟨La.retB HNo.out.symm, B3.out⟩
      · by_cases hz : k = 0
        · have hok := La.okAt_zero (mb := La.nameB) (ri := ltS) (l := l) (k := k) hnb hz
          have HO := Lib.hid hok
          have hz1 : ¬ (0 : Int) < (k : Int) := by omega
          have hz2 : decide ((0 : Int) < (k : Int)) = false := by simp; omega
          clear hok hz
          go_wp2_with fail
          go_roundw
          case rel => exact ⟨k + 1, by omega, by go_num, by rw [Hstep.out, HO.out], B3.out⟩
          case measure => simp [intOf]; omega
        · obtain ⟨y, hy⟩ : ∃ y, l[k - 1]? = some y := ⟨l[k - 1]'(by omega), List.getElem?_eq_getElem (by omega)⟩
          obtain ⟨b', o', hA', _, hyc⟩ := strC_at (HS.out.below B3.out) hy
          simp only [Option.some.injEq, Addr.mk.injEq] at hA'
          obtain ⟨rfl, rfl, _⟩ := hA'
          have hok := La.okAt_pos (mb := La.nameB) (ri := ltS) (l := l) (k := k) hnb hz hy
          have HO := Lib.hid hok
          have hz1 : (0 : Int) < (k : Int) := by omega
          obtain ⟨m, hm⟩ : ∃ m, k = m + 1 := ⟨k - 1, by omega⟩
          subst hm
          rw [Nat.add_sub_cancel] at hyc
          have m0 : (0 : Int) ≤ (m : Int) := by omega
          have m1 : (m : Int) < (l.length : Int) := by omega
          have m2 : ((m + 1 : Nat) : Int) - 1 = (m : Int) := by omega
          clear hok hz hy
          have hno0 : ltS y x = false → R = false := fun hls => by
            rw [← HR.out]
            exact La.chkK_false (k := m + 1 + 1) (by rw [Hstep.out, HO.out, hls]) (by omega)
          have HN0 := Lib.hid hno0
          clear hno0
          cases h1 : Op.bytesLess x y
          · cases h2 : (x == y)
            · have HL : Hid (ltS y x = true) := Lib.hid (by unfold ltS; rw [h1, h2]; rfl)
              go_wp2
              go_roundw
              case rel => exact ⟨m + 1 + 1, by omega, by go_num, by rw [Hstep.out, HO.out, HL.out], B3.out⟩
              case measure => simp [intOf]; omega
            · have HNo := Lib.hid (HN0.out (by unfold ltS; rw [h1, h2]; rfl))
              go_wp2
              go_ret
              exact ⟨La.retB HNo.out.symm, B3.out⟩
          · have HNo := Lib.hid (HN0.out (by unfold ltS; rw [h1]; rfl))
            go_wp2
            go_ret
            exact ⟨La.retB HNo.out.symm, B3.out⟩
    · obtain rfl : k = l.length := by omega
      have hyes : R = true := by rw [← HR.out]; exact Hp.out
      have HY := Lib.hid hyes
      clear hyes
      go_wp2
      go_ret
      exact ⟨La.retB HY.out.symm, HB.out⟩
end Go.Proofs.YtmmokiaipfalmaaGreat

namespace Go.Proofs.YtmmokiaipfalmaaGreat
open Go.RowKit

def nodeB (x : NodeD) : Bool := (Qu.chkV x.cap == 0) && (La.chkA La.labB La.keyR x.labels == 0) && (La.chkA La.labB La.keyR x.taints == 0)
set_option maxHeartbeats 1000000 in
theorem mayBeNode_any (x : NodeD) (w : World) (hx : x.fit w) :
    Calls Tryz.prog 203 #[valN x] w fun e w' => e = .returned (.bool (nodeB x)) ∧ Below w.heap.size w w' := by
  have KV := Lib.hid (fun w => Qu.vcheck_any x.cap w)
  have HX := Lib.hid hx
  have K1 : Hid (∀ w', Below w.heap.size w w' → Calls Tryz.prog 271 #[.slice x.al x.labels.length x.cl] w' fun e w'' => e = .returned (.int .i64 (La.chkA La.labB La.keyR x.labels)) ∧ Below w'.heap.size w' w'') := Lib.hid (fun w' hb => by
    have h := hx.l.below hb
    exact La.check_anyW x.al x.cl x.labels w' h.le h.most h.cells h.big)
  have K2 : Hid (∀ w', Below w.heap.size w w' → Calls Tryz.prog 271 #[.slice x.at_ x.taints.length x.ct] w' fun e w'' => e = .returned (.int .i64 (La.chkA La.labB La.keyR x.taints)) ∧ Below w'.heap.size w' w'') := Lib.hid (fun w' hb => by
    have h := hx.t.below hb
    exact La.check_anyW x.at_ x.ct x.taints w' h.le h.most h.cells h.big)
  have B0 : Hid (Below w.heap.size w (w.alloc (.cells (cellsN [x]).toArray 81))) := Lib.hid (below1 w _)
  have Q0 : Hid (Blk (w.alloc (.cells (cellsN [x]).toArray 81)) w.heap.size (cellsN [x]).toArray 81) := Lib.hid (Blk.new w _ _)
  have hlt0 : w.heap.size < (w.alloc (.cells (cellsN [x]).toArray 81)).heap.size := Blk.lt Q0.out
  have E : Hid (nodeB x = ((Qu.chkV x.cap == 0) && (La.chkA La.labB La.keyR x.labels == 0) && (La.chkA La.labB La.keyR x.taints == 0))) := Lib.hid rfl
  generalize nodeB x = R at E ⊢
  generalize Qu.chkV x.cap = v1 at KV E
  generalize La.chkA La.labB La.keyR x.labels = v2 at K1 E
  generalize La.chkA La.labB La.keyR x.taints = v3 at K2 E
  clear hx
  go_enter Tryz.func203, Tryz.ntmps203
  go_wp2_with fail
  refine (KV.out _).mono ?_
  rintro e w2 ⟨rfl, hb⟩
  have Q2 := Lib.hid (Q0.out.below hb hlt0)
  have B2 := Lib.hid (B0.out.trans (hb.mono (Nat.le_of_lt hlt0)))
  clear hb KV
  have hl2 := Blk.lt Q2.out
  have c6 : w2.cell? ⟨w.heap.size, 6, none⟩ = some (.slice x.al x.labels.length x.cl) := Blk.cell Q2.out 6
  cases h1 : (v1 == 0)
  · have HE : Hid (R = false) := Lib.hid (by rw [E.out, h1]; rfl)
    have h1' : (v1 != 0) = true := by simpa using h1
    go_wp2
    go_ret
    exact ⟨La.retB HE.out.symm, B2.out⟩
  · have h1' : (v1 != 0) = false := by simpa using h1
    go_wp2_with fail
    refine (K1.out _ B2.out).mono ?_
    rintro e w3 ⟨rfl, hb⟩
    have Q3 := Lib.hid (Q2.out.below hb hl2)
    have B3 := Lib.hid (B2.out.trans (hb.mono (Nat.le_of_lt hl2)))
    clear hb K1 c6
    have hl3 := Blk.lt Q3.out
    have c7 : w3.cell? ⟨w.heap.size, 7, none⟩ = some (.slice x.at_ x.taints.length x.ct) := Blk.cell Q3.out 7
    cases h2 : (v2 == 0)
    · have HE : Hid (R = false) := Lib.hid (by rw [E.out, h1, h2]; rfl)
      have h2' : (v2 != 0) = true := by simpa using h2
      go_wp2
      go_ret
      exact ⟨La.retB HE.out.symm, B3.out⟩
    · have h2' : (v2 != 0) = false := by simpa using h2
      go_wp2_with fail
      refine (K2.out _ B3.out).mono ?_
      rintro e w4 ⟨rfl, hb⟩
      have B4 := Lib.hid (B3.out.trans (hb.mono (Nat.le_of_lt hl3)))
      clear hb K2 c7
      have HE : Hid (R = (v3 == 0)) := Lib.hid (by rw [E.out, h1, h2]; rfl)
      clear h1 h1' h2 h2'
      go_wp2
      go_ret
      exact ⟨La.retB HE.out.symm, B4.out⟩

def nearB (topo : List UInt8) (l : List T3) : Bool := if topo = [] then decide (l.length = 0) else La.nameB topo && (La.chkA La.terB La.anyR l == 0)
abbrev valNear (topo : List UInt8) (l : List T3) (a : Option Addr) (c : Nat) : Value := .agg #[strV topo, .slice a l.length c]
set_option maxHeartbeats 1000000 in
theorem mayBeNear_any (topo : List UInt8) (l : List T3) (a : Option Addr) (c : Nat) (w : World) (h : ListT w a c l) (ht : topo.length ≤ 9223372036854775807) :
    Calls Tryz.prog 274 #[valNear topo l a c] w fun e w' => e = .returned (.bool (nearB topo l)) ∧ Below w.heap.size w w' := by
  have KN := Lib.hid (fun w => La.nameB_any topo w ht)
  have K1 : Hid (∀ w', Below w.heap.size w w' → Calls Tryz.prog 272 #[.slice a l.length c] w' fun e w'' => e = .returned (.int .i64 (La.chkA La.terB La.anyR l)) ∧ Below w'.heap.size w' w'') := Lib.hid (fun w' hb => by
    have h := h.below hb
    exact La.checkTerms_anyW a c l w' h.le h.most h.cells h.big)
  have B0 : Hid (Below w.heap.size w (w.alloc (.cells #[strV topo, .slice a l.length c] 51))) := Lib.hid (below1 w _)
  have Q0 : Hid (Blk (w.alloc (.cells #[strV topo, .slice a l.length c] 51)) w.heap.size #[strV topo, .slice a l.length c] 51) := Lib.hid (Blk.new w _ _)
  have hlt0 : w.heap.size < (w.alloc (.cells #[strV topo, .slice a l.length c] 51)).heap.size := Blk.lt Q0.out
  have E : Hid (nearB topo l = (if topo = [] then decide (l.length = 0) else La.nameB topo && (La.chkA La.terB La.anyR l == 0))) := Lib.hid rfl
  generalize nearB topo l = R at E ⊢
  generalize La.chkA La.terB La.anyR l = v1 at K1 E
  generalize La.nameB topo = v0 at KN E
  clear h
  by_cases htp : topo = []
  · subst htp
    have HE : Hid (R = decide (l.length = 0)) := Lib.hid (by rw [E.out, if_pos rfl])
    clear KN K1 E
    go_enter Tryz.func274, Tryz.ntmps274
    go_wp2
    go_ret
    refine ⟨La.retB ?_, B0.out⟩
    rw [HE.out, Bool.eq_iff_iff]
    simp
  · have HE : Hid (R = (v0 && (v1 == 0))) := Lib.hid (by rw [E.out, if_neg htp])
    have h1 : topo.isEmpty = false := by simpa using htp
    have h2 : (!topo.isEmpty) = true := by simpa using htp
    have HT := Lib.hid htp
    clear htp E
    go_enter Tryz.func274, Tryz.ntmps274
    go_wp2_with fail
    refine (KN.out _).mono ?_
    rintro e w2 ⟨rfl, hb⟩
    have Q2 := Lib.hid (Q0.out.below hb hlt0)
    have B2 := Lib.hid (B0.out.trans (hb.mono (Nat.le_of_lt hlt0)))
    clear hb KN
    have c1 : w2.cell? ⟨w.heap.size, 1, none⟩ = some (.slice a l.length c) := Blk.cell Q2.out 1
    have hl2 := Blk.lt Q2.out
    cases v0
    · go_wp2
      go_ret
      exact ⟨La.retB (by rw [HE.out]; rfl), B2.out⟩
    · go_wp2_with fail
      refine (K1.out _ B2.out).mono ?_
      rintro e w3 ⟨rfl, hb⟩
      have B3 := Lib.hid (B2.out.trans (hb.mono (Nat.le_of_lt hl2)))
      clear hb K1 c1
      go_wp2
      go_ret
      exact ⟨La.retB (by rw [HE.out]; rfl), B3.out⟩

def ownB (x : OwnD) : Bool := if x.min < 0 ∨ 24 < x.min then false else if x.topo = [] then decide (x.skew = 0) else La.nameB x.topo && decide (1 ≤ x.skew ∧ x.skew ≤ 24)
set_option maxHeartbeats 1000000 in
theorem mayBeOwner_any (x : OwnD) (w : World) (hx : x.fit) :
    Calls Tryz.prog 209 #[valO x] w fun e w' => e = .returned (.bool (ownB x)) ∧ Below w.heap.size w w' := by
  have KN := Lib.hid (fun w => La.nameB_any x.topo w hx.t)
  have B0 : Hid (Below w.heap.size w (w.alloc (.cells (cellsO [x]).toArray 102))) := Lib.hid (below1 w _)
  have Q0 : Hid (Blk (w.alloc (.cells (cellsO [x]).toArray 102)) w.heap.size (cellsO [x]).toArray 102) := Lib.hid (Blk.new w _ _)
  have hlt0 : w.heap.size < (w.alloc (.cells (cellsO [x]).toArray 102)).heap.size := Blk.lt Q0.out
  obtain ⟨nm, mn, tp, sk, sg⟩ := x
  have E : Hid (ownB ⟨nm, mn, tp, sk, sg⟩ = (if mn < 0 ∨ 24 < mn then false else if tp = [] then decide (sk = 0) else La.nameB tp && decide (1 ≤ sk ∧ sk ≤ 24))) := Lib.hid rfl
  generalize ownB ⟨nm, mn, tp, sk, sg⟩ = R at E ⊢
  simp only at KN
  generalize La.nameB tp = v0 at KN E
  clear hx
  by_cases h1 : mn < 0
  · have HE : Hid (R = false) := Lib.hid (by rw [E.out, if_pos (.inl h1)])
    clear E KN
    go_enter Tryz.func209, Tryz.ntmps209
    go_wp2
    go_ret
    exact ⟨La.retB HE.out.symm, B0.out⟩
  by_cases h2 : 24 < mn
  · have HE : Hid (R = false) := Lib.hid (by rw [E.out, if_pos (.inr h2)])
    clear E KN
    go_enter Tryz.func209, Tryz.ntmps209
    go_wp2
    go_ret
    exact ⟨La.retB HE.out.symm, B0.out⟩
  by_cases htp : tp = []
  · subst htp
    have HE : Hid (R = decide (sk = 0)) := Lib.hid (by rw [E.out, if_neg (by omega), if_pos rfl])
    clear E KN
    go_enter Tryz.func209, Tryz.ntmps209
    go_wp2
    go_ret
    refine ⟨La.retB ?_, B0.out⟩
    rw [HE.out, Bool.eq_iff_iff]
    simp
  · have HE : Hid (R = (v0 && decide (1 ≤ sk ∧ sk ≤ 24))) := Lib.hid (by rw [E.out, if_neg (by omega), if_neg htp])
    have h3 : tp.isEmpty = false := by simpa using htp
    have h4 : (!tp.isEmpty) = true := by simpa using htp
    have HT := Lib.hid htp
    clear htp E
    go_enter Tryz.func209, Tryz.ntmps209
    go_wp2_with fail
    refine (KN.out _).mono ?_
    rintro e w2 ⟨rfl, hb⟩
    have Q2 := Lib.hid (Q0.out.below hb hlt0)
    have B2 := Lib.hid (B0.out.trans (hb.mono (Nat.le_of_lt hlt0)))
    clear hb KN
    have c3 : w2.cell? ⟨w.heap.size, 3, none⟩ = some (.int .i64 sk) := Blk.cell Q2.out 3
    cases v0
    · go_wp2
      go_ret
      exact ⟨La.retB (by rw [HE.out]; rfl), B2.out⟩
    · go_wp2
      all_goals
        go_ret
        refine ⟨La.retB ?_, B2.out⟩
        rw [HE.out, Bool.eq_iff_iff]
        simp
        try omega
end Go.Proofs.YtmmokiaipfalmaaGreat

namespace Go.Proofs.YtmmokiaipfalmaaGreat
open Go.RowKit

/-- The place of the first one of that name, or -1. -/
def idxF (name : List UInt8) : List (List UInt8) → Int
  | [] => -1
  | x :: t => if x = name then 0 else if idxF name t = -1 then -1 else idxF name t + 1
theorem idx_hit (name : List UInt8) : ∀ (l : List (List UInt8)) (k : Nat), l[k]? = some name → (∀ (j : Nat) (x : List UInt8), j < k → l[j]? = some x → x ≠ name) → idxF name l = (k : Int) := by
  intro l
  induction l with
  | nil => intro k h; simp at h
  | cons a t ih =>
    intro k h hn
    rw [idxF]
    cases k with
    | zero =>
      simp only [List.getElem?_cons_zero, Option.some.injEq] at h
      rw [if_pos h]
      rfl
    | succ k =>
      rw [if_neg (hn 0 a (by omega) rfl), ih k (by simpa using h) (fun j x hj hx => hn (j + 1) x (by omega) (by simpa using hx)), if_neg (by omega)]
      omega
theorem idx_miss (name : List UInt8) : ∀ (l : List (List UInt8)), (∀ (j : Nat) (x : List UInt8), l[j]? = some x → x ≠ name) → idxF name l = -1 := by
  intro l
  induction l with
  | nil => intro _; rfl
  | cons a t ih =>
    intro hn
    rw [idxF, if_neg (hn 0 a rfl), ih (fun j x hx => hn (j + 1) x (by simpa using hx)), if_pos rfl]

set_option maxHeartbeats 1000000 in
theorem isN (x : NodeD) (name : List UInt8) (q : Nat) (w : World) (hq : w.cell? ⟨q, 0, none⟩ = some (strV name)) :
    Calls Tryz.prog 347 #[valN x, .pointer (some ⟨q, 0, none⟩)] w fun e w' => e = .returned (.bool (decide (x.name = name))) ∧ Below w.heap.size w w' := by
  have hql : q < w.heap.size := World.block_lt_of_cell? w _ hq
  have hq1 : (w.alloc (.cells (cellsN [x]).toArray 81)).cell? ⟨q, 0, none⟩ = some (strV name) := ((below1 w (.cells (cellsN [x]).toArray 81)).cell (p := ⟨q, 0, none⟩) hql).trans hq
  have hne : ¬ w.heap.size = q := by omega
  have hne2 : ¬ q = w.heap.size := by omega
  go_enter Tryz.func347, Tryz.ntmps347
  go_wp2
  go_ret
  refine ⟨La.retB ?_, (Below.refl _ _).alloc (Nat.le_refl _) _⟩
  rw [Bool.eq_iff_iff]
  simp

set_option maxRecDepth 100000 in
set_option maxHeartbeats 2000000 in
theorem indexN (A : Option Addr) (c q : Nat) (l : List NodeD) (name : List UInt8) (w : World) (hl : l.length ≤ 1000) (hs : La.SlAt w A (cellsN l)) (hq : w.cell? ⟨q, 0, none⟩ = some (strV name)) :
    Calls Tryz.prog 346 #[.slice A l.length c, .func (Fn.func 347) #[] #[.pointer (some ⟨q, 0, none⟩)]] w fun e w' => e = .returned (.int .i64 (idxF name (l.map (·.name)))) ∧ Below w.heap.size w w' := by
  have HS := Lib.hid hs
  have HQ := Lib.hid hq
  have hql : q < w.heap.size := World.block_lt_of_cell? w _ hq
  have hg : ∀ (args : Array Value) (w : World), (callFunc 347 args).run Tryz.prog w = .ok (.enter 347 args) w := fun _ _ => by kernel_rfl
  obtain ⟨R, hR⟩ : ∃ R, idxF name (l.map (·.name)) = R := ⟨_, rfl⟩
  have HR := Lib.hid hR
  rw [hR]
  clear hs hq hR
  go_enter Tryz.func346, Tryz.ntmps346
  go_wp2_with fail
  go_loopw [8] (fun i wr => ∃ k : Nat, k ≤ l.length ∧ i = .int .i64 k ∧ (∀ j x, j < k → (l.map (·.name))[j]? = some x → x ≠ name) ∧ Below w.heap.size w wr) (fun i _ => l.length - (intOf i).toNat)
  case atStart => exact ⟨0, by omega, rfl, fun j x h => by omega, Below.refl _ _⟩
  case round =>
    obtain ⟨k, hk, rfl, hn, hb⟩ := hrel
    have HN := Lib.hid hn
    have HB := Lib.hid hb
    clear hn hb
    by_cases hlt : k < l.length
    · obtain ⟨x, hx⟩ : ∃ x, l[k]? = some x := ⟨l[k], List.getElem?_eq_getElem hlt⟩
      obtain ⟨b, o, hA, hbl, c0, c1, c2, c3, c4, c5, c6, c7, c8, c9⟩ := atN (HS.out.below HB.out) hx
      subst hA
      have hxn : (l.map (·.name))[k]? = some x.name := by simp [hx]
      have HX := Lib.hid hxn
      have k0 : (0 : Int) ≤ (k : Int) := by omega
      have k1 : (k : Int) < (l.length : Int) := by omega
      have KI := Lib.hid (fun w' (hb : Below wr.heap.size wr w') => isN x name q w' ((hb.cell (p := ⟨q, 0, none⟩) (by show q < wr.heap.size; have := HB.out.size; omega)).trans ((HB.out.cell (p := ⟨q, 0, none⟩) hql).trans HQ.out)))
      clear hx hxn
      go_wp2_with fail
      refine (KI.out _ (by first | exact Below.refl _ _ | exact (Below.refl _ _).drew)).mono ?_
      rintro e w3 ⟨rfl, hb3⟩
      have B3 := Lib.hid (HB.out.trans (hb3.mono HB.out.size))
      clear hb3 KI c0 c1 c2 c3 c4 c5 c6 c7 c8 c9
      by_cases he : x.name = name
      · have hd : decide (x.name = name) = true := by simpa using he
        have HE : Hid ((k : Int) = R) := Lib.hid (by rw [← HR.out]; exact (idx_hit name _ k (by rw [HX.out, he]) HN.out).symm)
        have He := Lib.hid he
        clear he
        go_wp2
        go_ret
        exact ⟨La.retI HE.out, B3.out⟩
      · have hd : decide (x.name = name) = false := by simpa using he
        have He := Lib.hid he
        clear he
        go_wp2
        go_roundw
        case rel =>
          refine ⟨k + 1, by omega, by go_num, fun j y hj hy => ?_, B3.out⟩
          by_cases hjk : j = k
          · subst hjk
            rw [HX.out] at hy
            cases hy
            exact He.out
          · exact HN.out j y (by omega) hy
        case measure => simp [intOf]; omega
    · obtain rfl : k = l.length := by omega
      have HE : Hid ((-1 : Int) = R) := Lib.hid (by
        rw [← HR.out]
        refine (idx_miss name _ (fun j y hy => HN.out j y ?_ hy)).symm
        rcases Nat.lt_or_ge j l.length with h | h
        · exact h
        · rw [List.getElem?_eq_none (by simpa using h)] at hy
          cases hy)
      go_wp2
      go_ret
      exact ⟨La.retI HE.out, HB.out⟩

set_option maxHeartbeats 1000000 in
theorem findN (A B C : Option Addr) (ca cb cc la lb lc : Nat) (l : List NodeD) (name : List UInt8) (w : World) (hl : l.length ≤ 1000) (hs : La.SlAt w A (cellsN l)) (hn : la = l.length) :
    Calls Tryz.prog 277 #[.agg #[.slice A la ca, .slice B lb cb, .slice C lc cc], strV name] w fun e w' => e = .returned (.int .i64 (idxF name (l.map (·.name)))) ∧ Below w.heap.size w w' := by
  subst hn
  have B2 := Lib.hid (Qu.below2 w (.cells #[.slice A l.length ca, .slice B lb cb, .slice C lc cc] 26) (.cells #[strV name] 9))
  have KI := Lib.hid (indexN A ca (w.heap.size + 1) l name _ hl (hs.below B2.out) (by
    rw [cell_of_row _ (w.heap.size + 1) 0 _ _ _ (blk2 w (.cells #[.slice A l.length ca, .slice B lb cb, .slice C lc cc] 26) #[strV name] 9)]
    rfl))
  generalize idxF name (l.map (·.name)) = R at KI ⊢
  clear hs
  go_enter Tryz.func277, Tryz.ntmps277
  go_wp2_with fail
  refine KI.out.mono ?_
  rintro e w3 ⟨rfl, hb3⟩
  have B3 := Lib.hid (B2.out.trans (hb3.mono B2.out.size))
  clear hb3 KI
  go_wp2
  go_ret
  exact ⟨rfl, B3.out⟩

set_option maxHeartbeats 1000000 in
theorem isO (x : OwnD) (name : List UInt8) (q : Nat) (w : World) (hq : w.cell? ⟨q, 0, none⟩ = some (strV name)) :
    Calls Tryz.prog 345 #[valO x, .pointer (some ⟨q, 0, none⟩)] w fun e w' => e = .returned (.bool (decide (x.name = name))) ∧ Below w.heap.size w w' := by
  have hql : q < w.heap.size := World.block_lt_of_cell? w _ hq
  have hq1 : (w.alloc (.cells (cellsO [x]).toArray 102)).cell? ⟨q, 0, none⟩ = some (strV name) := ((below1 w (.cells (cellsO [x]).toArray 102)).cell (p := ⟨q, 0, none⟩) hql).trans hq
  have hne : ¬ w.heap.size = q := by omega
  have hne2 : ¬ q = w.heap.size := by omega
  go_enter Tryz.func345, Tryz.ntmps345
  go_wp2
  go_ret
  refine ⟨La.retB ?_, (Below.refl _ _).alloc (Nat.le_refl _) _⟩
  rw [Bool.eq_iff_iff]
  simp

set_option maxRecDepth 100000 in
set_option maxHeartbeats 2000000 in
theorem indexO (A : Option Addr) (c q : Nat) (l : List OwnD) (name : List UInt8) (w : World) (hl : l.length ≤ 1000) (hs : La.SlAt w A (cellsO l)) (hq : w.cell? ⟨q, 0, none⟩ = some (strV name)) :
    Calls Tryz.prog 333 #[.slice A l.length c, .func (Fn.func 345) #[] #[.pointer (some ⟨q, 0, none⟩)]] w fun e w' => e = .returned (.int .i64 (idxF name (l.map (·.name)))) ∧ Below w.heap.size w w' := by
  have HS := Lib.hid hs
  have HQ := Lib.hid hq
  have hql : q < w.heap.size := World.block_lt_of_cell? w _ hq
  have hg : ∀ (args : Array Value) (w : World), (callFunc 345 args).run Tryz.prog w = .ok (.enter 345 args) w := fun _ _ => by kernel_rfl
  obtain ⟨R, hR⟩ : ∃ R, idxF name (l.map (·.name)) = R := ⟨_, rfl⟩
  have HR := Lib.hid hR
  rw [hR]
  clear hs hq hR
  go_enter Tryz.func333, Tryz.ntmps333
  go_wp2_with fail
  go_loopw [8] (fun i wr => ∃ k : Nat, k ≤ l.length ∧ i = .int .i64 k ∧ (∀ j x, j < k → (l.map (·.name))[j]? = some x → x ≠ name) ∧ Below w.heap.size w wr) (fun i _ => l.length - (intOf i).toNat)
  case atStart => exact ⟨0, by omega, rfl, fun j x h => by omega, Below.refl _ _⟩
  case round =>
    obtain ⟨k, hk, rfl, hn, hb⟩ := hrel
    have HN := Lib.hid hn
    have HB := Lib.hid hb
    clear hn hb
    by_cases hlt : k < l.length
    · obtain ⟨x, hx⟩ : ∃ x, l[k]? = some x := ⟨l[k], List.getElem?_eq_getElem hlt⟩
      obtain ⟨b, o, hA, hbl, c0, c1, c2, c3, c4⟩ := atO (HS.out.below HB.out) hx
      subst hA
      have hxn : (l.map (·.name))[k]? = some x.name := by simp [hx]
      have HX := Lib.hid hxn
      have k0 : (0 : Int) ≤ (k : Int) := by omega
      have k1 : (k : Int) < (l.length : Int) := by omega
      have KI := Lib.hid (fun w' (hb : Below wr.heap.size wr w') => isO x name q w' ((hb.cell (p := ⟨q, 0, none⟩) (by show q < wr.heap.size; have := HB.out.size; omega)).trans ((HB.out.cell (p := ⟨q, 0, none⟩) hql).trans HQ.out)))
      clear hx hxn
      go_wp2_with fail
      refine (KI.out _ (by first | exact Below.refl _ _ | exact (Below.refl _ _).drew)).mono ?_
      rintro e w3 ⟨rfl, hb3⟩
      have B3 := Lib.hid (HB.out.trans (hb3.mono HB.out.size))
      clear hb3 KI c0 c1 c2 c3 c4
      by_cases he : x.name = name
      · have hd : decide (x.name = name) = true := by simpa using he
        have HE : Hid ((k : Int) = R) := Lib.hid (by rw [← HR.out]; exact (idx_hit name _ k (by rw [HX.out, he]) HN.out).symm)
        have He := Lib.hid he
        clear he
        go_wp2
        go_ret
        exact ⟨La.retI HE.out, B3.out⟩
      · have hd : decide (x.name = name) = false := by simpa using he
        have He := Lib.hid he
        clear he
        go_wp2
        go_roundw
        case rel =>
          refine ⟨k + 1, by omega, by go_num, fun j y hj hy => ?_, B3.out⟩
          by_cases hjk : j = k
          · subst hjk
            rw [HX.out] at hy
            cases hy
            exact He.out
          · exact HN.out j y (by omega) hy
        case measure => simp [intOf]; omega
    · obtain rfl : k = l.length := by omega
      have HE : Hid ((-1 : Int) = R) := Lib.hid (by
        rw [← HR.out]
        refine (idx_miss name _ (fun j y hy => HN.out j y ?_ hy)).symm
        rcases Nat.lt_or_ge j l.length with h | h
        · exact h
        · rw [List.getElem?_eq_none (by simpa using h)] at hy
          cases hy)
      go_wp2
      go_ret
      exact ⟨La.retI HE.out, HB.out⟩

set_option maxHeartbeats 1000000 in
theorem findO (A B C : Option Addr) (ca cb cc la lb lc : Nat) (l : List OwnD) (name : List UInt8) (w : World) (hl : l.length ≤ 1000) (hs : La.SlAt w C (cellsO l)) (hn : lc = l.length) :
    Calls Tryz.prog 275 #[.agg #[.slice A la ca, .slice B lb cb, .slice C lc cc], strV name] w fun e w' => e = .returned (.int .i64 (idxF name (l.map (·.name)))) ∧ Below w.heap.size w w' := by
  subst hn
  have B2 := Lib.hid (Qu.below2 w (.cells #[.slice A la ca, .slice B lb cb, .slice C l.length cc] 26) (.cells #[strV name] 9))
  have KI := Lib.hid (indexO C cc (w.heap.size + 1) l name _ hl (hs.below B2.out) (by
    rw [cell_of_row _ (w.heap.size + 1) 0 _ _ _ (blk2 w (.cells #[.slice A la ca, .slice B lb cb, .slice C l.length cc] 26) #[strV name] 9)]
    rfl))
  generalize idxF name (l.map (·.name)) = R at KI ⊢
  clear hs
  go_enter Tryz.func275, Tryz.ntmps275
  go_wp2_with fail
  refine KI.out.mono ?_
  rintro e w3 ⟨rfl, hb3⟩
  have B3 := Lib.hid (B2.out.trans (hb3.mono B2.out.size))
  clear hb3 KI
  go_wp2
  go_ret
  exact ⟨rfl, B3.out⟩
end Go.Proofs.YtmmokiaipfalmaaGreat

namespace Go.Proofs.YtmmokiaipfalmaaGreat
open Go.RowKit

/-- Is there a node at that place that is not lost? -/
def tpB (l : List NodeD) (k : Int) : Bool := decide (0 ≤ k) && (match l[k.toNat]? with
  | none => false
  | some x => !x.lost)
set_option maxHeartbeats 1000000 in
theorem takes_any (A B C : Option Addr) (ca cb cc lb lc : Nat) (l : List NodeD) (k : Int) (w : World) (_hl : l.length ≤ 1000) (hk1 : -1 ≤ k) (hk2 : k ≤ 1000) (hs : La.SlAt w A (cellsN l)) :
    Calls Tryz.prog 276 #[.agg #[.slice A l.length ca, .slice B lb cb, .slice C lc cc], .int .i64 k] w fun e w' => e = .returned (.bool (tpB l k)) ∧ Below w.heap.size w w' := by
  have B0 := Lib.hid (below1 w (.cells #[.slice A l.length ca, .slice B lb cb, .slice C lc cc] 26))
  by_cases h0 : 0 ≤ k
  · obtain ⟨n, rfl⟩ : ∃ n : Nat, k = (n : Int) := ⟨k.toNat, by omega⟩
    by_cases hn : n < l.length
    · obtain ⟨x, hx⟩ : ∃ x, l[n]? = some x := ⟨l[n], List.getElem?_eq_getElem hn⟩
      obtain ⟨b, o, hA, hbl, c0, c1, c2, c3, c4, c5, c6, c7, c8, c9⟩ := atN (hs.below B0.out) hx
      subst hA
      have E : Hid (tpB l (n : Int) = !x.lost) := Lib.hid (by unfold tpB; rw [Int.toNat_natCast, hx]; simp)
      have n0 : (0 : Int) ≤ (n : Int) := by omega
      have n1 : (n : Int) < (l.length : Int) := by omega
      have hnot : ∀ (x : Bool) (w : World), (Op.unary .not (.bool x)).run Tryz.prog w = .ok (.bool (!x)) w := fun _ _ => rfl
      clear hs hx h0 c0 c1 c2 c3 c4 c5 c6 c7 c8
      go_enter Tryz.func276, Tryz.ntmps276
      go_wp2
      all_goals
        go_ret
        first
          | exact ⟨La.retB E.out.symm, B0.out⟩
          | exact ⟨La.retB (by rw [E.out]; simp_all), B0.out⟩
    · have E : Hid (tpB l (n : Int) = false) := Lib.hid (by unfold tpB; rw [Int.toNat_natCast, List.getElem?_eq_none (by omega)]; simp)
      have n0 : (0 : Int) ≤ (n : Int) := by omega
      have n1 : ¬ (n : Int) < (l.length : Int) := by omega
      clear hs h0 hn
      go_enter Tryz.func276, Tryz.ntmps276
      go_wp2
      go_ret
      exact ⟨La.retB E.out.symm, B0.out⟩
  · have E : Hid (tpB l k = false) := Lib.hid (by unfold tpB; rw [decide_eq_false h0]; rfl)
    clear hs
    go_enter Tryz.func276, Tryz.ntmps276
    go_wp2
    go_ret
    exact ⟨La.retB E.out.symm, B0.out⟩

def podB (x : PodD) : Bool := (Qu.chkV x.req == 0) && (La.chkA La.labB La.keyR x.labels == 0) && (La.chkA La.terB La.anyR x.whr == 0) && (La.chkA La.borB La.pairR x.bears == 0) && nearB x.wt x.wtm && nearB x.ap x.apm
set_option maxRecDepth 100000 in
set_option maxHeartbeats 2000000 in
theorem mayBePod_any (x : PodD) (w : World) (hx : x.fit w) :
    Calls Tryz.prog 206 #[valP x] w fun e w' => e = .returned (.bool (podB x)) ∧ Below w.heap.size w w' := by
  have KV := Lib.hid (fun w => Qu.vcheck_any x.req w)
  have K1 : Hid (∀ w', Below w.heap.size w w' → Calls Tryz.prog 271 #[.slice x.al x.labels.length x.cl] w' fun e w'' => e = .returned (.int .i64 (La.chkA La.labB La.keyR x.labels)) ∧ Below w'.heap.size w' w'') := Lib.hid (fun w' hb => by
    have h := hx.l.below hb
    exact La.check_anyW x.al x.cl x.labels w' h.le h.most h.cells h.big)
  have K2 : Hid (∀ w', Below w.heap.size w w' → Calls Tryz.prog 272 #[.slice x.aw x.whr.length x.cw] w' fun e w'' => e = .returned (.int .i64 (La.chkA La.terB La.anyR x.whr)) ∧ Below w'.heap.size w' w'') := Lib.hid (fun w' hb => by
    have h := hx.wh.below hb
    exact La.checkTerms_anyW x.aw x.cw x.whr w' h.le h.most h.cells h.big)
  have K3 : Hid (∀ w', Below w.heap.size w w' → Calls Tryz.prog 273 #[.slice x.ab x.bears.length x.cb] w' fun e w'' => e = .returned (.int .i64 (La.chkA La.borB La.pairR x.bears)) ∧ Below w'.heap.size w' w'') := Lib.hid (fun w' hb => by
    have h := hx.b.below hb
    exact La.checkBears_anyW x.ab x.cb x.bears w' h.le h.most h.cells h.big)
  have K4 : Hid (∀ w', Below w.heap.size w w' → Calls Tryz.prog 274 #[valNear x.wt x.wtm x.awt x.cwt] w' fun e w'' => e = .returned (.bool (nearB x.wt x.wtm)) ∧ Below w'.heap.size w' w'') := Lib.hid (fun w' hb => mayBeNear_any x.wt x.wtm x.awt x.cwt w' (hx.wt.below hb) hx.n.2.2.1)
  have K5 : Hid (∀ w', Below w.heap.size w w' → Calls Tryz.prog 274 #[valNear x.ap x.apm x.aap x.cap] w' fun e w'' => e = .returned (.bool (nearB x.ap x.apm)) ∧ Below w'.heap.size w' w'') := Lib.hid (fun w' hb => mayBeNear_any x.ap x.apm x.aap x.cap w' (hx.ap.below hb) hx.n.2.2.2.1)
  have B0 : Hid (Below w.heap.size w (w.alloc (.cells (cellsP [x]).toArray 53))) := Lib.hid (below1 w _)
  have Q0 : Hid (Blk (w.alloc (.cells (cellsP [x]).toArray 53)) w.heap.size (cellsP [x]).toArray 53) := Lib.hid (Blk.new w _ _)
  have hlt0 : w.heap.size < (w.alloc (.cells (cellsP [x]).toArray 53)).heap.size := Blk.lt Q0.out
  have E : Hid (podB x = ((Qu.chkV x.req == 0) && (La.chkA La.labB La.keyR x.labels == 0) && (La.chkA La.terB La.anyR x.whr == 0) && (La.chkA La.borB La.pairR x.bears == 0) && nearB x.wt x.wtm && nearB x.ap x.apm)) := Lib.hid rfl
  generalize podB x = R at E ⊢
  generalize Qu.chkV x.req = v1 at KV E
  generalize La.chkA La.labB La.keyR x.labels = v2 at K1 E
  generalize La.chkA La.terB La.anyR x.whr = v3 at K2 E
  generalize La.chkA La.borB La.pairR x.bears = v4 at K3 E
  generalize nearB x.wt x.wtm = v5 at K4 E
  generalize nearB x.ap x.apm = v6 at K5 E
  clear hx
  go_enter Tryz.func206, Tryz.ntmps206
  go_wp2_with fail
  refine (KV.out _).mono ?_
  rintro e w2 ⟨rfl, hb⟩
  have Q2 := Lib.hid (Q0.out.below hb hlt0)
  have B2 := Lib.hid (B0.out.trans (hb.mono (Nat.le_of_lt hlt0)))
  clear hb KV
  have hl2 := Blk.lt Q2.out
  have c7 : w2.cell? ⟨w.heap.size, 7, none⟩ = some (.slice x.al x.labels.length x.cl) := Blk.cell Q2.out 7
  cases h1 : (v1 == 0)
  · have HE : Hid (R = false) := Lib.hid (by rw [E.out, h1]; rfl)
    have h1' : (v1 != 0) = true := by simpa using h1
    go_wp2
    go_ret
    exact ⟨La.retB HE.out.symm, B2.out⟩
  have h1' : (v1 != 0) = false := by simpa using h1
  go_wp2_with fail
  refine (K1.out _ B2.out).mono ?_
  rintro e w3 ⟨rfl, hb⟩
  have Q3 := Lib.hid (Q2.out.below hb hl2)
  have B3 := Lib.hid (B2.out.trans (hb.mono (Nat.le_of_lt hl2)))
  clear hb K1 c7 Q2
  have hl3 := Blk.lt Q3.out
  have c8 : w3.cell? ⟨w.heap.size, 8, none⟩ = some (.slice x.aw x.whr.length x.cw) := Blk.cell Q3.out 8
  cases h2 : (v2 == 0)
  · have HE : Hid (R = false) := Lib.hid (by rw [E.out, h1, h2]; rfl)
    have h2' : (v2 != 0) = true := by simpa using h2
    go_wp2
    go_ret
    exact ⟨La.retB HE.out.symm, B3.out⟩
  have h2' : (v2 != 0) = false := by simpa using h2
  go_wp2_with fail
  refine (K2.out _ B3.out).mono ?_
  rintro e w4 ⟨rfl, hb⟩
  have Q4 := Lib.hid (Q3.out.below hb hl3)
  have B4 := Lib.hid (B3.out.trans (hb.mono (Nat.le_of_lt hl3)))
  clear hb K2 c8 Q3
  have hl4 := Blk.lt Q4.out
  have c9 : w4.cell? ⟨w.heap.size, 9, none⟩ = some (.slice x.ab x.bears.length x.cb) := Blk.cell Q4.out 9
  cases h3 : (v3 == 0)
  · have HE : Hid (R = false) := Lib.hid (by rw [E.out, h1, h2, h3]; rfl)
    have h3' : (v3 != 0) = true := by simpa using h3
    go_wp2
    go_ret
    exact ⟨La.retB HE.out.symm, B4.out⟩
  have h3' : (v3 != 0) = false := by simpa using h3
  go_wp2_with fail
  refine (K3.out _ B4.out).mono ?_
  rintro e w5 ⟨rfl, hb⟩
  have Q5 := Lib.hid (Q4.out.below hb hl4)
  have B5 := Lib.hid (B4.out.trans (hb.mono (Nat.le_of_lt hl4)))
  clear hb K3 c9 Q4
  have hl5 := Blk.lt Q5.out
  have c10 : w5.cell? ⟨w.heap.size, 10, none⟩ = some (strV x.wt) := Blk.cell Q5.out 10
  have c11 : w5.cell? ⟨w.heap.size, 11, none⟩ = some (.slice x.awt x.wtm.length x.cwt) := Blk.cell Q5.out 11
  cases h4 : (v4 == 0)
  · have HE : Hid (R = false) := Lib.hid (by rw [E.out, h1, h2, h3, h4]; rfl)
    have h4' : (v4 != 0) = true := by simpa using h4
    go_wp2
    go_ret
    exact ⟨La.retB HE.out.symm, B5.out⟩
  have h4' : (v4 != 0) = false := by simpa using h4
  go_wp2_with fail
  refine (K4.out _ B5.out).mono ?_
  rintro e w6 ⟨rfl, hb⟩
  have Q6 := Lib.hid (Q5.out.below hb hl5)
  have B6 := Lib.hid (B5.out.trans (hb.mono (Nat.le_of_lt hl5)))
  clear hb K4 c10 c11 Q5
  have hl6 := Blk.lt Q6.out
  have c12 : w6.cell? ⟨w.heap.size, 12, none⟩ = some (strV x.ap) := Blk.cell Q6.out 12
  have c13 : w6.cell? ⟨w.heap.size, 13, none⟩ = some (.slice x.aap x.apm.length x.cap) := Blk.cell Q6.out 13
  have HE0 : Hid (R = (v5 && v6)) := Lib.hid (by rw [E.out, h1, h2, h3, h4]; simp)
  clear h1 h2 h3 h4 h1' h2' h3' h4' E
  cases v5
  · have HE : Hid (R = false) := Lib.hid (by rw [HE0.out]; rfl)
    go_wp2
    go_ret
    exact ⟨La.retB HE.out.symm, B6.out⟩
  · go_wp2_with fail
    refine (K5.out _ B6.out).mono ?_
    rintro e w7 ⟨rfl, hb⟩
    have B7 := Lib.hid (B6.out.trans (hb.mono (Nat.le_of_lt hl6)))
    clear hb K5 c12 c13
    have HE : Hid (R = v6) := Lib.hid (by rw [HE0.out]; rfl)
    go_wp2
    go_ret
    exact ⟨La.retB HE.out.symm, B7.out⟩
end Go.Proofs.YtmmokiaipfalmaaGreat
