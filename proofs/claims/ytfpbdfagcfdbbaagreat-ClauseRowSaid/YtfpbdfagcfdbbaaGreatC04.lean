/- What Plus answers of a thousand rows at most: VecPlus with a greater bound. Condition: they lie in memory. What each makes of a cluster's lists: rows. Condition: the list lies in memory. May sums be? A contract. Condition: the rows lie in memory. May a cluster be, and may its sums? The contract of Check. Condition: the cluster lies in memory. Lists of numbers in memory; whether a place is one, whether a node takes pods. No conditions but that what is read lies in memory. May a placement be? The contract of Check. Condition: the cluster and the numbers lie in memory. A placement in which one pod is elsewhere; what evict and bind answer. Condition: the numbers lie in memory. What a step makes of a placement: the contracts of evict, bind and Apply. Condition: the cluster and the numbers lie in memory. Lists of numbers held against each other; what is unlike in two of them. Condition: they lie in memory. Whose a pod is; which value a node has for a key: the contracts of Members and domainOf. Condition: the cluster lies in memory. Which value a node has for a key: the contract of domainOf. Condition: the cluster lies in memory. Whether there is an owner at a place, of a placement that may be; the value of a node for a key. Condition: the cluster and the numbers lie in memory. The chapter's cluster. No conditions. What the document's reader of a word answers, as a plain function. Condition: a text that can lie in memory. What the document's Value and Name answer of a text. Condition: a text that can lie in memory. -/
import Derived.Test.YtfpbdfagcfdbbaaGreatC03
import Derived.Laws.Cover3
import Derived.Test.YtfpbdfagcfdbbaaGreatShelf
import Derived.Deep.RegionLawGrows

namespace Go.Proofs.YtfpbdfagcfdbbaaGreat.Qu
open Go.RowKit

/-- A slice of n noughts is made. -/
theorem run_numsM (w : World) (n : Nat) (hn : n ≤ 1000) : (Instr.makeSlice 27 (.int .i64 (n : Int)) (.int .i64 (n : Int))).run Tryz.prog w = .ok (.slice (some ⟨w.heap.size, 0, none⟩) n n) (w.alloc (.cells (madeCells #[.int .i64 0] n) 3)) := by
  cases hi : Tryz.prog.info? 3 with
  | none => have h := int_info; rw [hi] at h; cases h
  | some i =>
    have h := int_info
    rw [hi] at h
    simp only [Option.map_some, Option.some.injEq, Prod.mk.injEq] at h
    obtain ⟨h0, h1, h2⟩ := h
    have k := run_make (P := Tryz.prog) w 27 3 i (.int .i64 0) Tryz.underlying27 hi h0 .i64 .i64 n n (by omega) (by omega) (by rw [h2]; omega) (by omega)
    simpa [h1, Value.cells] using k

set_option maxRecDepth 100000 in
set_option maxHeartbeats 1000000 in
theorem column_anyM (A : Option Addr) (c : Nat) (l : List (Nat → Int)) (p : Nat) (w : World) (hl : l.length ≤ 1000) (hp : p < 5) (hr : RowsOf w A l) :
    Calls Tryz.prog 141 #[.slice A l.length c, .int .i64 (p : Int)] w fun e w' => e = .returned (.slice (some ⟨w.heap.size, 0, none⟩) l.length l.length) ∧ Below w.heap.size w w' ∧ RowOf w' (some ⟨w.heap.size, 0, none⟩) (colL l p) := by
  have Hr := Lib.hid hr
  clear hr
  have hmk := run_numsM w l.length hl
  go_enter Tryz.func141, Tryz.ntmps141
  go_wp2
  clear hmk
  go_loopw [13] (fun i wr => ∃ k : Nat, k ≤ l.length ∧ i = .int .i64 k ∧ NumsAt wr w.heap.size l.length (fun j => if j < k then (l.getD j (fun _ => 0)) p else 0) ∧ Below w.heap.size w wr) (fun i _ => l.length - (intOf i).toNat)
  case atStart => exact ⟨0, by omega, rfl, nums_new w l.length, (Below.refl _ _).alloc (Nat.le_refl _) _⟩
  case round =>
    obtain ⟨k, hk, rfl, hn, hb⟩ := hrel
    have Hn := Lib.hid hn
    have HB := Lib.hid hb
    clear hn hb
    by_cases hlt : k < l.length
    · obtain ⟨b, o, rfl, hbl, hc⟩ := Hr.out k l[k] (List.getElem?_eq_getElem hlt)
      have hc' : ∀ j, j < 5 → wr.cell? ⟨b, o + k * 5 + j, none⟩ = some (.int .i64 (l[k] j)) := fun j hj => (HB.out.cell (p := ⟨b, o + k * 5 + j, none⟩) hbl).trans (hc j hj)
      have c0 := hc' 0 (by omega)
      have c1 := hc' 1 (by omega)
      have c2 := hc' 2 (by omega)
      have c3 := hc' 3 (by omega)
      have c4 := hc' 4 (by omega)
      clear hc hc'
      simp only [Nat.add_zero] at c0
      have hv := cell_new l[k] p hp wr 60
      have hcn := (Hn.out.alloc (.cells #[.int .i64 (l[k] 0), .int .i64 (l[k] 1), .int .i64 (l[k] 2), .int .i64 (l[k] 3), .int .i64 (l[k] 4)] 60)).cell hlt
      have hfn := (Hn.out.alloc (.cells #[.int .i64 (l[k] 0), .int .i64 (l[k] 1), .int .i64 (l[k] 2), .int .i64 (l[k] 3), .int .i64 (l[k] 4)] 60)).free k
      go_wp2
      go_roundw
      case rel =>
        refine ⟨k + 1, by omega, by go_num, ?_, (HB.out.alloc HB.out.size _).setCell (by simp) _⟩
        have h := (Hn.out.alloc (.cells #[.int .i64 (l[k] 0), .int .i64 (l[k] 1), .int .i64 (l[k] 2), .int .i64 (l[k] 3), .int .i64 (l[k] 4)] 60)).set k (l[k] p)
        have e : (fun j => if j < k + 1 then (l.getD j (fun _ => 0)) p else 0) = upd (fun j => if j < k then (l.getD j (fun _ => 0)) p else 0) k (l[k] p) := by
          funext j
          unfold upd
          by_cases hj : j = k
          · subst hj
            simp [List.getD_eq_getElem?_getD, List.getElem?_eq_getElem hlt]
          · by_cases hj2 : j < k
            · simp [hj, hj2, show j < k + 1 by omega]
            · simp [hj, hj2, show ¬ j < k + 1 by omega]
        rw [e]
        exact h
      case measure => simp [intOf]; omega
    · go_wp2
      go_ret
      refine ⟨rfl, HB.out, fun j x hj => ?_⟩
      unfold colL at hj
      rw [List.getElem?_map] at hj
      cases hq : l[j]? with
      | none => rw [hq] at hj; cases hj
      | some y =>
        rw [hq] at hj
        simp only [Option.map_some, Option.some.injEq] at hj
        subst hj
        have hjl : j < l.length := (List.getElem?_eq_some_iff.1 hq).1
        refine ⟨w.heap.size, 0, rfl, ?_⟩
        have h := Hn.out.cell hjl
        simp only [show j < k by omega, if_true, List.getD_eq_getElem?_getD, hq, Option.getD_some] at h
        rw [Nat.zero_add]
        exact h


theorem add_toM (A : Option Addr) (n c : Nat) (l : List Int) (s e0 : Int) (w : World) (hn : l.length = n) (hl : n ≤ 1000) (hr : RowOf w A l) (h : addL l = (s, e0)) :
    Calls Tryz.prog 140 #[.slice A n c] w fun e w' => e = .returned (.tuple #[.int .i64 s, .int .i64 e0]) ∧ w = w' := by
  have k := add_any A c l w (by unfold maxLen; omega) hr
  rw [h, hn] at k
  exact k

set_option maxRecDepth 100000 in
set_option maxHeartbeats 400000 in
theorem plus_inM (A : Option Addr) (c : Nat) (l : List (Nat → Int)) (k q : Nat) (w : World) (hk : k < 5) (hl : l.length ≤ 1000) (hq : w.cell? ⟨q, 0, none⟩ = some (.slice A l.length c)) (hr : RowsOf w A l) :
    Calls Tryz.prog 139 #[.int .i64 (k : Int), .pointer (some ⟨q, 0, none⟩)] w fun e w' => e = .returned (.tuple #[.int .i64 (plusF l k).1, .int .i64 (plusF l k).2]) ∧ Below w.heap.size w w' := by
  have Hr := Lib.hid hr
  clear hr
  rcases ha : plusF l k with ⟨n, e0⟩
  have Ha := Lib.hid ha
  clear ha
  go_enter Tryz.func139, Tryz.ntmps139
  go_wp2_with fail
  refine (column_anyM A c l k _ hl hk Hr.out).mono ?_
  rintro e w1 ⟨rfl, hb, hrow⟩
  have HB := Lib.hid hb
  have Hrow := Lib.hid hrow
  clear hb hrow hq
  go_wp2_with fail
  refine (add_toM _ _ _ (colL l k) n e0 _ (col_len l k) hl Hrow.out Ha.out).mono ?_
  rintro e w2 ⟨rfl, rfl⟩
  go_wp2
  go_ret2
  exact ⟨rfl, HB.out⟩


set_option maxRecDepth 100000 in
set_option maxHeartbeats 400000 in
theorem plus_anyM (A : Option Addr) (c : Nat) (l : List (Nat → Int)) (w : World) (hl : l.length ≤ 1000) (hr : RowsOf w A l) :
    Calls Tryz.prog 111 #[.slice A l.length c] w fun e w' => e = .returned (.tuple #[.agg #[.int .i64 (eachR (plusF l) 0), .int .i64 (eachR (plusF l) 1), .int .i64 (eachR (plusF l) 2), .int .i64 (eachR (plusF l) 3), .int .i64 (eachR (plusF l) 4)], .int .i64 (firstE (plusF l) 5)]) ∧ Below w.heap.size w w' := by
  have Hr := Lib.hid hr
  clear hr
  have hmf := run_func
  go_enter Tryz.func111, Tryz.ntmps111
  go_wp2_with fail
  clear hmf
  have hb0 := below2 w (.cells #[.slice A l.length c] 114) (.cells #[.int .i64 0, .int .i64 0, .int .i64 0, .int .i64 0, .int .i64 0] 60)
  have hc : ((w.alloc (.cells #[.slice A l.length c] 114)).alloc (.cells #[.int .i64 0, .int .i64 0, .int .i64 0, .int .i64 0, .int .i64 0] 60)).cell? ⟨w.heap.size, 0, none⟩ = some (.slice A l.length c) := by simp [go_sem]
  have hz : RowAt ((w.alloc (.cells #[.slice A l.length c] 114)).alloc (.cells #[.int .i64 0, .int .i64 0, .int .i64 0, .int .i64 0, .int .i64 0] 60)) (w.heap.size + 1) (fun _ => 0) := heap_alloc2_new _ _ _
  have hrs : RowsOf ((w.alloc (.cells #[.slice A l.length c] 114)).alloc (.cells #[.int .i64 0, .int .i64 0, .int .i64 0, .int .i64 0, .int .i64 0] 60)) A l := Hr.out.below hb0 (Nat.le_refl _)
  refine (each1_any 139 _ (plusF l) _ Tryz.call139 ?_).mono ?_
  · intro k hk w' hb
    exact plus_inM A c l k _ w' hk hl ((hb.cell (p := ⟨w.heap.size, 0, none⟩) (Nat.lt_of_succ_lt hz.lt)).trans hc) (hrs.below hb (Nat.le_refl _))
  rintro e w1 ⟨rfl, hb⟩
  have Hz := Lib.hid (hz.below hb hz.lt)
  have HB := Lib.hid (hb0.trans (hb.mono hb0.size))
  clear hc hz hrs hb0 hb
  go_wp2_with (refine wpList_store_row rfl 60 (.tmp 2) (.tmp 6) rfl (w.heap.size + 1) _ rfl rfl 60 _ Hz.out vec_size (by kernel_rfl) (by kernel_rfl) ?_)
  refine bodyPost_row2 Tryz.results111 (w.heap.size + 1) _ _ _ _ (.int .i64 (firstE (plusF l) 5)) ?d1 ?p1 ?s1 (Hz.out.put (eachR (plusF l))) Tryz.underlying60 rfl vec_size ?_
  case d1 => rfl
  case p1 => rfl
  case s1 => rfl
  exact ⟨rfl, below_setRow HB.out (by omega) _⟩


end Go.Proofs.YtfpbdfagcfdbbaaGreat.Qu

namespace Go.Proofs.YtfpbdfagcfdbbaaGreat
open Go.RowKit

abbrev rowC (x : Nat → Int) : List Value := [.int .i64 (x 0), .int .i64 (x 1), .int .i64 (x 2), .int .i64 (x 3), .int .i64 (x 4)]
theorem vec_info : (Tryz.prog.info? 60).map (fun i => (i.zero, i.size, i.bytes)) = some (some (.agg #[.int .i64 0, .int .i64 0, .int .i64 0, .int .i64 0, .int .i64 0]), 5, 40) := by kernel_rfl
/-- A slice of n rows of noughts is made. -/
theorem run_vecs (w : World) (n : Nat) (hn : n ≤ 1000000) : (Instr.makeSlice 114 (.int .i64 (n : Int)) (.int .i64 (n : Int))).run Tryz.prog w = .ok (.slice (some ⟨w.heap.size, 0, none⟩) n n) (w.alloc (.cells (madeCells #[.int .i64 0, .int .i64 0, .int .i64 0, .int .i64 0, .int .i64 0] (n * 5)) 60)) := by
  cases hi : Tryz.prog.info? 60 with
  | none => have h := vec_info; rw [hi] at h; cases h
  | some i =>
    have h := vec_info
    rw [hi] at h
    simp only [Option.map_some, Option.some.injEq, Prod.mk.injEq] at h
    obtain ⟨h0, h1, h2⟩ := h
    have k := run_make (P := Tryz.prog) w 114 60 i (.agg #[.int .i64 0, .int .i64 0, .int .i64 0, .int .i64 0, .int .i64 0]) Tryz.underlying114 hi h0 .i64 .i64 n n (by omega) (by omega) (by rw [h2]; omega) (by omega)
    simpa [h1, Value.cells] using k

theorem flat5_len {α : Type} (f : α → Nat → Int) : ∀ l : List α, (l.flatMap fun x => rowC (f x)).length = l.length * 5
  | [] => rfl
  | x :: t => by
    have := flat5_len f t
    rw [List.flatMap_cons, List.length_append, this]
    simp only [List.length_cons, List.length_nil]
    omega
theorem flat5_at {α : Type} (f : α → Nat → Int) : ∀ (l : List α) (j i : Nat) (x : α), l[j]? = some x → i < 5 → (l.flatMap fun x => rowC (f x))[j * 5 + i]? = (rowC (f x))[i]?
  | [], j, i, x, h, _ => by simp at h
  | y :: t, 0, i, x, h, hi => by
    simp only [List.getElem?_cons_zero, Option.some.injEq] at h
    subst h
    rw [List.flatMap_cons, Nat.zero_mul, Nat.zero_add, List.getElem?_append_left (by simpa using hi)]
  | y :: t, j + 1, i, x, h, hi => by
    rw [List.flatMap_cons, show (j + 1) * 5 + i = 5 + (j * 5 + i) by omega, List.getElem?_append_right (by simp)]
    simp only [List.length_cons, List.length_nil]
    rw [show 5 + (j * 5 + i) - (0 + 1 + 1 + 1 + 1 + 1) = j * 5 + i by omega]
    exact flat5_at f t j i x (by simpa using h) hi
theorem DestAt.set5 {w : World} {B n t k : Nat} {g : Nat → List Value} (h : DestAt w B n 5 t k g) (hk : k < n) (v0 v1 v2 v3 v4 : Value) (hv : g k = [v0, v1, v2, v3, v4]) :
    DestAt (((((w.setCell ⟨B, k * 5, none⟩ v0).setCell ⟨B, k * 5 + 1, none⟩ v1).setCell ⟨B, k * 5 + 2, none⟩ v2).setCell ⟨B, k * 5 + 3, none⟩ v3).setCell ⟨B, k * 5 + 4, none⟩ v4) B n 5 t (k + 1) g := by
  obtain ⟨cs, hb, hs, hz⟩ := h
  refine ⟨((((cs.setIfInBounds (k * 5) v0).setIfInBounds (k * 5 + 1) v1).setIfInBounds (k * 5 + 2) v2).setIfInBounds (k * 5 + 3) v3).setIfInBounds (k * 5 + 4) v4,
    heap_setCell_same _ B _ _ _ _ (heap_setCell_same _ B _ _ _ _ (heap_setCell_same _ B _ _ _ _ (heap_setCell_same _ B _ _ _ _ (heap_setCell_same _ B _ _ _ _ hb)))), by simpa using hs, fun j hj i hi => ?_⟩
  by_cases hjk : j = k
  · subst hjk
    rw [hv]
    have e : i = 0 ∨ i = 1 ∨ i = 2 ∨ i = 3 ∨ i = 4 := by omega
    rcases e with rfl | rfl | rfl | rfl | rfl
    all_goals simp [Array.getElem?_setIfInBounds]; omega
  · have hlt : j * 5 + i < k * 5 := by omega
    rw [Array.getElem?_setIfInBounds_ne (by omega), Array.getElem?_setIfInBounds_ne (by omega), Array.getElem?_setIfInBounds_ne (by omega), Array.getElem?_setIfInBounds_ne (by omega), Array.getElem?_setIfInBounds_ne (by omega)]
    exact hz j (by omega) i hi

set_option maxRecDepth 100000 in
set_option maxHeartbeats 2000000 in
theorem eachNV (A : Option Addr) (c : Nat) (l : List NodeD) (g : FuncId) (w : World) (hl : l.length ≤ 1000) (hs : La.SlAt w A (cellsN l)) (hn : A = none → l = [])
    (hg : ∀ args w, (callFunc g args).run Tryz.prog w = .ok (.enter g args) w)
    (hK : ∀ (x : NodeD) (w : World), Calls Tryz.prog g #[valN x] w fun e w' => e = .returned (rowV x.cap) ∧ Below w.heap.size w w') :
    Calls Tryz.prog 73 #[.slice A l.length c, .func (Fn.func g) #[] #[]] w fun e w' => ∃ v, e = .returned v ∧ w'.ownsRow w.heap.size 60 5 v l.length (l.flatMap fun x => rowC x.cap) ∧ Below w.heap.size w w' := by
  cases A with
  | none =>
    obtain rfl := hn rfl
    have hnl := fun w => run_eqnil (P := Tryz.prog) (w := w) 22 62 none 0 c Tryz.underlying22
    clear hs hn hK
    go_enter Tryz.func73, Tryz.ntmps73
    go_wp2
    go_ret
    exact ⟨_, rfl, World.ownsRow_nil _ _ _ _, Below.refl _ _⟩
  | some a =>
    have HS := Lib.hid hs
    clear hs hn
    have hmk := run_vecs w l.length (by omega)
    have hnl := fun w => run_eqnil (P := Tryz.prog) (w := w) 22 62 (some a) l.length c Tryz.underlying22
    go_enter Tryz.func73, Tryz.ntmps73
    go_wp2_with fail
    clear hmk hnl
    go_loopw [15] (fun i wr => ∃ k : Nat, k ≤ l.length ∧ i = .int .i64 k ∧ DestAt wr w.heap.size l.length 5 60 k (fun j => rowC ((l.map (·.cap)).getD j (fun _ => 0))) ∧ Below w.heap.size w wr) (fun i _ => l.length - (intOf i).toNat)
    case atStart => exact ⟨0, by omega, rfl, ⟨_, heap_alloc_new _ _, by rw [size_madeCells], fun j hj => by omega⟩, below1 w _⟩
    case round =>
      obtain ⟨k, hk, rfl, hd, hb⟩ := hrel
      have HD := Lib.hid hd
      have HB := Lib.hid hb
      have hsz := hd.lt
      clear hd hb
      by_cases hlt : k < l.length
      · obtain ⟨x, hx⟩ : ∃ x, l[k]? = some x := ⟨l[k], List.getElem?_eq_getElem hlt⟩
        obtain ⟨b, o, hA, hbl, c0, c1, c2, c3, c4, c5, c6, c7, c8, c9⟩ := atN (HS.out.below HB.out) hx
        cases hA
        have k0 : (0 : Int) ≤ (k : Int) := by omega
        have k1 : (k : Int) < (l.length : Int) := by omega
        have hgd : (l.map (·.cap)).getD k (fun _ => 0) = x.cap := by simp [List.getD_eq_getElem?_getD, hx]
        have HG := Lib.hid hgd
        have KX := Lib.hid (hK x)
        clear hx hgd
        go_wp2_with fail
        refine (KX.out _).mono ?_
        rintro e w3 ⟨rfl, hb3⟩
        have D3 := Lib.hid ((HD.out.alloc (.cells (cellsN [x]).toArray 62)).below hb3 (Nat.lt_of_lt_of_le hsz (by simp)))
        have B3 := Lib.hid ((HB.out.alloc HB.out.size (.cells (cellsN [x]).toArray 62)).trans (hb3.mono (Nat.le_trans (Nat.le_of_lt hsz) (by simp))))
        clear hb3 KX c0 c1 c2 c3 c4 c5 c6 c7 c8 c9
        obtain ⟨v0, h0⟩ := D3.out.has (i := k * 5) (by omega)
        obtain ⟨v1, h1⟩ := D3.out.has (i := k * 5 + 1) (by omega)
        obtain ⟨v2, h2⟩ := D3.out.has (i := k * 5 + 2) (by omega)
        obtain ⟨v3, h3⟩ := D3.out.has (i := k * 5 + 3) (by omega)
        obtain ⟨v4, h4⟩ := D3.out.has (i := k * 5 + 4) (by omega)
        have f0 := D3.out.free (k * 5)
        have f1 := D3.out.free (k * 5 + 1)
        have f2 := D3.out.free (k * 5 + 2)
        have f3 := D3.out.free (k * 5 + 3)
        have f4 := D3.out.free (k * 5 + 4)
        go_wp2
        go_roundw
        case rel => exact ⟨k + 1, by omega, by go_num, DestAt.set5 D3.out hlt _ _ _ _ _ (by show rowC ((l.map (·.cap)).getD k (fun _ => 0)) = _; rw [HG.out]), ((((B3.out.setCell (p := ⟨w.heap.size, k * 5, none⟩) (Nat.le_refl _) _).setCell (p := ⟨w.heap.size, k * 5 + 1, none⟩) (Nat.le_refl _) _).setCell (p := ⟨w.heap.size, k * 5 + 2, none⟩) (Nat.le_refl _) _).setCell (p := ⟨w.heap.size, k * 5 + 3, none⟩) (Nat.le_refl _) _).setCell (p := ⟨w.heap.size, k * 5 + 4, none⟩) (Nat.le_refl _) _⟩
        case measure => simp [intOf]; omega
      · obtain rfl : k = l.length := by omega
        go_wp2
        go_ret
        refine ⟨_, rfl, HD.out.own (Nat.le_refl _) (by unfold maxLen; omega) _ (flat5_len (·.cap) l) (fun j hj i hi => ?_) (by omega), HB.out⟩
        rw [flat5_at (·.cap) l j i _ (List.getElem?_eq_getElem hj) hi]
        simp [List.getD_eq_getElem?_getD, List.getElem?_eq_getElem hj]
set_option maxRecDepth 100000 in
set_option maxHeartbeats 2000000 in
theorem eachPV (A : Option Addr) (c : Nat) (l : List PodD) (g : FuncId) (w : World) (hl : l.length ≤ 1000) (hs : La.SlAt w A (cellsP l)) (hn : A = none → l = [])
    (hg : ∀ args w, (callFunc g args).run Tryz.prog w = .ok (.enter g args) w)
    (hK : ∀ (x : PodD) (w : World), Calls Tryz.prog g #[valP x] w fun e w' => e = .returned (rowV x.req) ∧ Below w.heap.size w w') :
    Calls Tryz.prog 75 #[.slice A l.length c, .func (Fn.func g) #[] #[]] w fun e w' => ∃ v, e = .returned v ∧ w'.ownsRow w.heap.size 60 5 v l.length (l.flatMap fun x => rowC x.req) ∧ Below w.heap.size w w' := by
  cases A with
  | none =>
    obtain rfl := hn rfl
    have hnl := fun w => run_eqnil (P := Tryz.prog) (w := w) 23 69 none 0 c Tryz.underlying23
    clear hs hn hK
    go_enter Tryz.func75, Tryz.ntmps75
    go_wp2
    go_ret
    exact ⟨_, rfl, World.ownsRow_nil _ _ _ _, Below.refl _ _⟩
  | some a =>
    have HS := Lib.hid hs
    clear hs hn
    have hmk := run_vecs w l.length (by omega)
    have hnl := fun w => run_eqnil (P := Tryz.prog) (w := w) 23 69 (some a) l.length c Tryz.underlying23
    go_enter Tryz.func75, Tryz.ntmps75
    go_wp2_with fail
    clear hmk hnl
    go_loopw [15] (fun i wr => ∃ k : Nat, k ≤ l.length ∧ i = .int .i64 k ∧ DestAt wr w.heap.size l.length 5 60 k (fun j => rowC ((l.map (·.req)).getD j (fun _ => 0))) ∧ Below w.heap.size w wr) (fun i _ => l.length - (intOf i).toNat)
    case atStart => exact ⟨0, by omega, rfl, ⟨_, heap_alloc_new _ _, by rw [size_madeCells], fun j hj => by omega⟩, below1 w _⟩
    case round =>
      obtain ⟨k, hk, rfl, hd, hb⟩ := hrel
      have HD := Lib.hid hd
      have HB := Lib.hid hb
      have hsz := hd.lt
      clear hd hb
      by_cases hlt : k < l.length
      · obtain ⟨x, hx⟩ : ∃ x, l[k]? = some x := ⟨l[k], List.getElem?_eq_getElem hlt⟩
        obtain ⟨b, o, hA, hbl, c0, c1, c2, c3, c4, c5, c6, c7, c8, c9, c10, c11, c12, c13, c14⟩ := atP (HS.out.below HB.out) hx
        cases hA
        have k0 : (0 : Int) ≤ (k : Int) := by omega
        have k1 : (k : Int) < (l.length : Int) := by omega
        have hgd : (l.map (·.req)).getD k (fun _ => 0) = x.req := by simp [List.getD_eq_getElem?_getD, hx]
        have HG := Lib.hid hgd
        have KX := Lib.hid (hK x)
        clear hx hgd
        go_wp2_with fail
        refine (KX.out _).mono ?_
        rintro e w3 ⟨rfl, hb3⟩
        have D3 := Lib.hid ((HD.out.alloc (.cells (cellsP [x]).toArray 69)).below hb3 (Nat.lt_of_lt_of_le hsz (by simp)))
        have B3 := Lib.hid ((HB.out.alloc HB.out.size (.cells (cellsP [x]).toArray 69)).trans (hb3.mono (Nat.le_trans (Nat.le_of_lt hsz) (by simp))))
        clear hb3 KX c0 c1 c2 c3 c4 c5 c6 c7 c8 c9 c10 c11 c12 c13 c14
        obtain ⟨v0, h0⟩ := D3.out.has (i := k * 5) (by omega)
        obtain ⟨v1, h1⟩ := D3.out.has (i := k * 5 + 1) (by omega)
        obtain ⟨v2, h2⟩ := D3.out.has (i := k * 5 + 2) (by omega)
        obtain ⟨v3, h3⟩ := D3.out.has (i := k * 5 + 3) (by omega)
        obtain ⟨v4, h4⟩ := D3.out.has (i := k * 5 + 4) (by omega)
        have f0 := D3.out.free (k * 5)
        have f1 := D3.out.free (k * 5 + 1)
        have f2 := D3.out.free (k * 5 + 2)
        have f3 := D3.out.free (k * 5 + 3)
        have f4 := D3.out.free (k * 5 + 4)
        go_wp2
        go_roundw
        case rel => exact ⟨k + 1, by omega, by go_num, DestAt.set5 D3.out hlt _ _ _ _ _ (by show rowC ((l.map (·.req)).getD k (fun _ => 0)) = _; rw [HG.out]), ((((B3.out.setCell (p := ⟨w.heap.size, k * 5, none⟩) (Nat.le_refl _) _).setCell (p := ⟨w.heap.size, k * 5 + 1, none⟩) (Nat.le_refl _) _).setCell (p := ⟨w.heap.size, k * 5 + 2, none⟩) (Nat.le_refl _) _).setCell (p := ⟨w.heap.size, k * 5 + 3, none⟩) (Nat.le_refl _) _).setCell (p := ⟨w.heap.size, k * 5 + 4, none⟩) (Nat.le_refl _) _⟩
        case measure => simp [intOf]; omega
      · obtain rfl : k = l.length := by omega
        go_wp2
        go_ret
        refine ⟨_, rfl, HD.out.own (Nat.le_refl _) (by unfold maxLen; omega) _ (flat5_len (·.req) l) (fun j hj i hi => ?_) (by omega), HB.out⟩
        rw [flat5_at (·.req) l j i _ (List.getElem?_eq_getElem hj) hi]
        simp [List.getD_eq_getElem?_getD, List.getElem?_eq_getElem hj]
end Go.Proofs.YtfpbdfagcfdbbaaGreat

namespace Go.Proofs.YtfpbdfagcfdbbaaGreat
open Go.RowKit

def sumB (l : List (Nat → Int)) : Bool := decide (Qu.firstE (Qu.plusF l) 5 = 0)
set_option maxRecDepth 100000 in
set_option maxHeartbeats 1000000 in
theorem sum_any (A : Option Addr) (c : Nat) (l : List (Nat → Int)) (w : World) (hl : l.length ≤ 1000) (hr : Qu.RowsOf w A l) :
    Calls Tryz.prog 72 #[.slice A l.length c] w fun e w' => e = .returned (.bool (sumB l)) ∧ Below w.heap.size w w' := by
  have KP := Lib.hid (Qu.plus_anyM A c l w hl hr)
  have E : Hid (sumB l = decide (Qu.firstE (Qu.plusF l) 5 = 0)) := Lib.hid rfl
  generalize sumB l = R at E ⊢
  generalize Qu.firstE (Qu.plusF l) 5 = e0 at KP E
  clear hr
  go_enter Tryz.func72, Tryz.ntmps72
  go_wp2_with fail
  refine KP.out.mono ?_
  rintro e w3 ⟨rfl, hb⟩
  have HB := Lib.hid hb
  clear hb KP
  go_wp2
  go_ret
  exact ⟨La.retB (by rw [E.out]; first | rfl | (rw [Bool.eq_iff_iff]; simp)), by first | exact HB.out | exact HB.out.alloc HB.out.size _⟩
/-- What each made of rows, as Plus reads it. -/
theorem rowsOf {α : Type} {w : World} {base : Nat} {A : Option Addr} {c : Nat} (f : α → Nat → Int) (l : List α) (h : w.ownsRow base 60 5 (.slice A l.length c) l.length (l.flatMap fun x => rowC (f x))) : Qu.RowsOf w A (l.map f) := by
  intro i x hx
  rw [List.getElem?_map] at hx
  obtain ⟨y, hy, rfl⟩ := Option.map_eq_some_iff.1 hx
  have hs := La.own_slat h
  have hat := fun k (hk : k < 5) => flat5_at f l i k y hy hk
  obtain ⟨b, o, rfl, hc⟩ := hs (i * 5 + 0) (.int .i64 (f y 0)) (by rw [hat 0 (by omega)]; rfl)
  refine ⟨b, o, rfl, World.block_lt_of_cell? w _ hc, fun k hk => ?_⟩
  obtain ⟨b', o', hA, hc'⟩ := hs (i * 5 + k) (.int .i64 (f y k)) (by
    rw [hat k hk]
    have e : k = 0 ∨ k = 1 ∨ k = 2 ∨ k = 3 ∨ k = 4 := by omega
    rcases e with rfl | rfl | rfl | rfl | rfl <;> rfl)
  cases hA
  rw [Nat.add_assoc]
  exact hc'
end Go.Proofs.YtfpbdfagcfdbbaaGreat

namespace Go.Proofs.YtfpbdfagcfdbbaaGreat
open Go.RowKit

/-- What Check tells. -/
def checkS (ns : List NodeD) (ps : List PodD) (os : List OwnD) : Int := if clusB ns ps os then (if sumB (ns.map (·.cap)) && sumB (ps.map (·.req)) then 0 else 10) else 50
set_option maxRecDepth 100000 in
set_option maxHeartbeats 4000000 in
theorem check_any (A B C : Option Addr) (ca cb cc : Nat) (ns : List NodeD) (ps : List PodD) (os : List OwnD) (w : World) (h : SnapAt w A B C ca cb cc ns ps os) :
    Calls Tryz.prog 51 #[snapV A B C ca cb cc ns ps os] w fun e w' => e = .returned (.int .i64 (checkS ns ps os)) ∧ Below w.heap.size w w' := by
  have H := Lib.hid h
  have B0 : Hid (Below w.heap.size w (w.alloc (.cells (snapC A B C ca cb cc ns ps os) 26))) := Lib.hid (below1 w _)
  have S0 : Hid (Blk (w.alloc (.cells (snapC A B C ca cb cc ns ps os) 26)) w.heap.size (snapC A B C ca cb cc ns ps os) 26) := Lib.hid (Blk.new w _ _)
  have hg1 : ∀ (args : Array Value) (w : World), (callFunc 74 args).run Tryz.prog w = .ok (.enter 74 args) w := fun _ _ => by kernel_rfl
  have hg2 : ∀ (args : Array Value) (w : World), (callFunc 76 args).run Tryz.prog w = .ok (.enter 76 args) w := fun _ _ => by kernel_rfl
  have KM := Lib.hid (may_any A B C ca cb cc ns ps os (w.alloc (.cells (snapC A B C ca cb cc ns ps os) 26)) (H.out.below B0.out))
  have E1 := Lib.hid (fun w' (hb : Below w.heap.size w w') => eachNV A ca ns 74 w' H.out.ln (H.out.below hb).n.cells (fun e => noneN (w := w) (e ▸ H.out.n.cells)) hg1 capOf_any)
  have E2 := Lib.hid (fun w' (hb : Below w.heap.size w w') => eachPV B cb ps 76 w' H.out.lp (H.out.below hb).p.cells (fun e => noneP (w := w) (e ▸ H.out.p.cells)) hg2 reqOf_any)
  have F1 := Lib.hid (fun (w' : World) (base : Nat) (A : Option Addr) (c : Nat) (ho : w'.ownsRow base 60 5 (.slice A ns.length c) ns.length (ns.flatMap fun x => rowC x.cap)) => by
    have k := sum_any A c (ns.map (·.cap)) w' (by simpa using H.out.ln) (rowsOf (·.cap) ns ho)
    rwa [List.length_map] at k)
  have F2 := Lib.hid (fun (w' : World) (base : Nat) (A : Option Addr) (c : Nat) (ho : w'.ownsRow base 60 5 (.slice A ps.length c) ps.length (ps.flatMap fun x => rowC x.req)) => by
    have k := sum_any A c (ps.map (·.req)) w' (by simpa using H.out.lp) (rowsOf (·.req) ps ho)
    rwa [List.length_map] at k)
  have E : Hid (checkS ns ps os = if clusB ns ps os then (if sumB (ns.map (·.cap)) && sumB (ps.map (·.req)) then 0 else 10) else 50) := Lib.hid rfl
  generalize checkS ns ps os = R at E ⊢
  generalize clusB ns ps os = v0 at KM E
  generalize sumB (ns.map (·.cap)) = v1 at F1 E
  generalize sumB (ps.map (·.req)) = v2 at F2 E
  clear h H hg1 hg2
  have hlt0 : w.heap.size < (w.alloc (.cells (snapC A B C ca cb cc ns ps os) 26)).heap.size := Blk.lt S0.out
  go_enter Tryz.func51, Tryz.ntmps51
  go_wp2_with fail
  refine (KM.out).mono ?_
  rintro e w1 ⟨rfl, hb⟩
  clear KM
  have S1 := Lib.hid (S0.out.below hb hlt0)
  have B1 := Lib.hid (B0.out.trans (hb.mono (Nat.le_of_lt hlt0)))
  clear hb
  have hl1 := Blk.lt S1.out
  have s0 : w1.cell? ⟨w.heap.size, 0, none⟩ = some (.slice A ns.length ca) := Blk.cell S1.out 0
  have s1 : w1.cell? ⟨w.heap.size, 1, none⟩ = some (.slice B ps.length cb) := Blk.cell S1.out 1
  have s2 : w1.cell? ⟨w.heap.size, 2, none⟩ = some (.slice C os.length cc) := Blk.cell S1.out 2
  cases v0
  · have HE : Hid (R = 50) := Lib.hid (by rw [E.out]; simp)
    go_wp2
    go_ret
    exact ⟨La.retI HE.out.symm, B1.out⟩
  go_wp2_with fail
  refine (E1.out _ B1.out).mono ?_
  rintro e w2 ⟨u1, rfl, ho, hb⟩
  obtain ⟨A1, c1, rfl, hm⟩ := La.own_slice ho
  have KF := Lib.hid (F1.out _ _ _ _ ho)
  clear ho hm E1 F1 s0 s1 s2
  have S2 := Lib.hid (S1.out.below hb hl1)
  have B2 := Lib.hid (B1.out.trans (hb.mono (Nat.le_of_lt hl1)))
  clear hb
  have hl2 := Blk.lt S2.out
  have s0 : w2.cell? ⟨w.heap.size, 0, none⟩ = some (.slice A ns.length ca) := Blk.cell S2.out 0
  have s1 : w2.cell? ⟨w.heap.size, 1, none⟩ = some (.slice B ps.length cb) := Blk.cell S2.out 1
  have s2 : w2.cell? ⟨w.heap.size, 2, none⟩ = some (.slice C os.length cc) := Blk.cell S2.out 2
  go_wp2_with fail
  refine (KF.out).mono ?_
  rintro e w3 ⟨rfl, hb⟩
  clear KF s0 s1 s2
  have S3 := Lib.hid (S2.out.below hb hl2)
  have B3 := Lib.hid (B2.out.trans (hb.mono (Nat.le_of_lt hl2)))
  clear hb
  have hl3 := Blk.lt S3.out
  have s0 : w3.cell? ⟨w.heap.size, 0, none⟩ = some (.slice A ns.length ca) := Blk.cell S3.out 0
  have s1 : w3.cell? ⟨w.heap.size, 1, none⟩ = some (.slice B ps.length cb) := Blk.cell S3.out 1
  have s2 : w3.cell? ⟨w.heap.size, 2, none⟩ = some (.slice C os.length cc) := Blk.cell S3.out 2
  cases v1
  · have HE : Hid (R = 10) := Lib.hid (by rw [E.out]; simp)
    go_wp2
    go_ret
    exact ⟨La.retI HE.out.symm, B3.out⟩
  go_wp2_with fail
  refine (E2.out _ B3.out).mono ?_
  rintro e w4 ⟨u2, rfl, ho, hb⟩
  obtain ⟨A2, c2, rfl, hm⟩ := La.own_slice ho
  have KF := Lib.hid (F2.out _ _ _ _ ho)
  clear ho hm E2 F2 s0 s1 s2
  have S4 := Lib.hid (S3.out.below hb hl3)
  have B4 := Lib.hid (B3.out.trans (hb.mono (Nat.le_of_lt hl3)))
  clear hb
  have hl4 := Blk.lt S4.out
  have s0 : w4.cell? ⟨w.heap.size, 0, none⟩ = some (.slice A ns.length ca) := Blk.cell S4.out 0
  have s1 : w4.cell? ⟨w.heap.size, 1, none⟩ = some (.slice B ps.length cb) := Blk.cell S4.out 1
  have s2 : w4.cell? ⟨w.heap.size, 2, none⟩ = some (.slice C os.length cc) := Blk.cell S4.out 2
  go_wp2_with fail
  refine (KF.out).mono ?_
  rintro e w5 ⟨rfl, hb⟩
  clear KF s0 s1 s2
  have S5 := Lib.hid (S4.out.below hb hl4)
  have B5 := Lib.hid (B4.out.trans (hb.mono (Nat.le_of_lt hl4)))
  clear hb
  have hl5 := Blk.lt S5.out
  cases v2
  · have HE : Hid (R = 10) := Lib.hid (by rw [E.out]; simp)
    go_wp2
    go_ret
    exact ⟨La.retI HE.out.symm, B5.out⟩
  have HE : Hid (R = 0) := Lib.hid (by rw [E.out]; simp)
  go_wp2
  go_ret
  exact ⟨La.retI HE.out.symm, B5.out⟩
end Go.Proofs.YtfpbdfagcfdbbaaGreat

namespace Go.Proofs.YtfpbdfagcfdbbaaGreat
open Go.RowKit

abbrev intsC (l : List Int) : List Value := l.map (Value.int .i64)
theorem atI {w : World} {A : Option Addr} {l : List Int} (h : La.SlAt w A (intsC l)) {k : Nat} {x : Int} (hk : l[k]? = some x) :
    ∃ b o, A = some ⟨b, o, none⟩ ∧ b < w.heap.size ∧ w.cell? ⟨b, o + k, none⟩ = some (.int .i64 x) := by
  obtain ⟨b, o, hA, h0⟩ := h k (.int .i64 x) (by simp [intsC, hk])
  exact ⟨b, o, hA, World.block_lt_of_cell? w _ h0, h0⟩
/-- A list of numbers as a value. -/
structure IntsAt (w : World) (A : Option Addr) (c : Nat) (l : List Int) : Prop where
  cells : La.SlAt w A (intsC l)
  le : l.length ≤ c
  most : c ≤ 9223372036854775807
theorem IntsAt.below {w w' : World} {A : Option Addr} {c : Nat} {l : List Int} (h : IntsAt w A c l) (hb : Below w.heap.size w w') : IntsAt w' A c l := ⟨h.cells.below hb, h.le, h.most⟩
theorem IntsAt.own {w : World} {base : Nat} {A : Option Addr} {c : Nat} {l : List Int} (h : w.ownsRow base 3 1 (.slice A l.length c) l.length (intsC l)) : IntsAt w A c l := by
  have hc := capOwn h
  have hm : maxLen ≤ 9223372036854775807 := by unfold maxLen; omega
  exact ⟨La.own_slat h, hc.1, Nat.le_trans hc.2 hm⟩
theorem IntsAt.nil (w : World) : IntsAt w none 0 [] := ⟨fun j y h => by simp at h, Nat.le_refl _, by omega⟩

set_option maxHeartbeats 400000 in
theorem isPlace_any (i c : Int) (w : World) :
    Calls Tryz.prog 77 #[.int .i64 i, .int .i64 c] w fun e w' => e = .returned (.bool (decide (0 ≤ i ∧ i < c))) ∧ w' = w := by
  by_cases h0 : 0 ≤ i
  · go_enter Tryz.func77, Tryz.ntmps77
    go_wp2
    go_ret
    exact ⟨La.retB (by simp [h0]), rfl⟩
  · go_enter Tryz.func77, Tryz.ntmps77
    go_wp2
    go_ret
    exact ⟨La.retB (by symm; simp; omega), rfl⟩

set_option maxHeartbeats 1000000 in
theorem ptakes_any (A B C : Option Addr) (ca cb cc lb lc : Nat) (l : List NodeD) (k : Int) (w : World) (hs : La.SlAt w A (cellsN l)) :
    Calls Tryz.prog 52 #[.agg #[.slice A l.length ca, .slice B lb cb, .slice C lc cc], .int .i64 k] w fun e w' => e = .returned (.bool (tpB l k)) ∧ Below w.heap.size w w' := by
  have B0 := Lib.hid (below1 w (.cells #[.slice A l.length ca, .slice B lb cb, .slice C lc cc] 26))
  by_cases h0 : 0 ≤ k ∧ k < (l.length : Int)
  · have KP : Hid (∀ w', Calls Tryz.prog 77 #[.int .i64 k, .int .i64 (l.length : Int)] w' fun e w'' => e = .returned (.bool true) ∧ w'' = w') := Lib.hid (fun w' => by
      have := isPlace_any k l.length w'
      rwa [decide_eq_true h0] at this)
    obtain ⟨n, rfl⟩ : ∃ n : Nat, k = (n : Int) := ⟨k.toNat, by omega⟩
    have hn : n < l.length := by omega
    obtain ⟨x, hx⟩ : ∃ x, l[n]? = some x := ⟨l[n], List.getElem?_eq_getElem hn⟩
    obtain ⟨b, o, hA, hbl, c0, c1, c2, c3, c4, c5, c6, c7, c8, c9⟩ := atN (hs.below B0.out) hx
    subst hA
    have E : Hid (tpB l (n : Int) = !x.lost) := Lib.hid (by unfold tpB; rw [Int.toNat_natCast, hx]; simp)
    have n0 : (0 : Int) ≤ (n : Int) := by omega
    have n1 : (n : Int) < (l.length : Int) := by omega
    have hnot : ∀ (x : Bool) (w : World), (Op.unary .not (.bool x)).run Tryz.prog w = .ok (.bool (!x)) w := fun _ _ => rfl
    clear hs hx h0 c0 c1 c2 c3 c4 c5 c6 c7 c8
    go_enter Tryz.func52, Tryz.ntmps52
    go_wp2_with fail
    refine (KP.out _).mono ?_
    rintro e w1 ⟨rfl, rfl⟩
    go_wp2
    all_goals
      go_ret
      first
        | exact ⟨La.retB E.out.symm, B0.out⟩
        | exact ⟨La.retB (by rw [E.out]; simp_all), B0.out⟩
  · have KP : Hid (∀ w', Calls Tryz.prog 77 #[.int .i64 k, .int .i64 (l.length : Int)] w' fun e w'' => e = .returned (.bool false) ∧ w'' = w') := Lib.hid (fun w' => by
      have := isPlace_any k l.length w'
      rwa [decide_eq_false h0] at this)
    have E : Hid (tpB l k = false) := Lib.hid (by
      unfold tpB
      by_cases hk : 0 ≤ k
      · rw [List.getElem?_eq_none (by omega)]
        simp
      · rw [decide_eq_false hk]
        rfl)
    clear hs h0
    go_enter Tryz.func52, Tryz.ntmps52
    go_wp2_with fail
    refine (KP.out _).mono ?_
    rintro e w1 ⟨rfl, rfl⟩
    go_wp2
    go_ret
    exact ⟨La.retB E.out.symm, B0.out⟩
end Go.Proofs.YtfpbdfagcfdbbaaGreat

namespace Go.Proofs.YtfpbdfagcfdbbaaGreat
open Go.RowKit

/-- A number that a placement may have. -/
def okB (ns : List NodeD) (k : Int) : Bool := decide (k = -1) || tpB ns k
/-- What Check tells. -/
def placeE (ns : List NodeD) (ps : List PodD) (os : List OwnD) (p : List Int) : Int := if checkS ns ps os = 0 then (if p.length = ps.length then (if p.all (okB ns) then 0 else 2) else 2) else checkS ns ps os

set_option maxRecDepth 100000 in
set_option maxHeartbeats 4000000 in
theorem pcheck_any (A B C P : Option Addr) (ca cb cc cp : Nat) (ns : List NodeD) (ps : List PodD) (os : List OwnD) (p : List Int) (w : World) (h : SnapAt w A B C ca cb cc ns ps os) (hp : IntsAt w P cp p) :
    Calls Tryz.prog 26 #[snapV A B C ca cb cc ns ps os, .slice P p.length cp] w fun e w' => e = .returned (.int .i64 (placeE ns ps os p)) ∧ Below w.heap.size w w' := by
  have H := Lib.hid h
  have HP := Lib.hid hp
  have B0 : Hid (Below w.heap.size w (w.alloc (.cells (snapC A B C ca cb cc ns ps os) 26))) := Lib.hid (below1 w _)
  have S0 : Hid (Blk (w.alloc (.cells (snapC A B C ca cb cc ns ps os) 26)) w.heap.size (snapC A B C ca cb cc ns ps os) 26) := Lib.hid (Blk.new w _ _)
  have hlp := H.out.lp
  have KC := Lib.hid (check_any A B C ca cb cc ns ps os (w.alloc (.cells (snapC A B C ca cb cc ns ps os) 26)) (H.out.below B0.out))
  have E : Hid (placeE ns ps os p = if checkS ns ps os = 0 then (if p.length = ps.length then (if p.all (okB ns) then 0 else 2) else 2) else checkS ns ps os) := Lib.hid rfl
  have KT := Lib.hid (fun k w' (hb : Below w.heap.size w w') => ptakes_any A B C ca cb cc ps.length os.length ns k w' (H.out.below hb).n.cells)
  generalize placeE ns ps os p = R at E ⊢
  generalize checkS ns ps os = v0 at KC E
  clear h H hp
  have hlt0 : w.heap.size < (w.alloc (.cells (snapC A B C ca cb cc ns ps os) 26)).heap.size := Blk.lt S0.out
  go_enter Tryz.func26, Tryz.ntmps26
  go_wp2_with fail
  refine (KC.out).mono ?_
  rintro e w1 ⟨rfl, hb⟩
  clear KC
  have S1 := Lib.hid (S0.out.below hb hlt0)
  have B1 := Lib.hid (B0.out.trans (hb.mono (Nat.le_of_lt hlt0)))
  clear hb
  have hl1 := Blk.lt S1.out
  have s0 : w1.cell? ⟨w.heap.size, 0, none⟩ = some (.slice A ns.length ca) := Blk.cell S1.out 0
  have s1 : w1.cell? ⟨w.heap.size, 1, none⟩ = some (.slice B ps.length cb) := Blk.cell S1.out 1
  have s2 : w1.cell? ⟨w.heap.size, 2, none⟩ = some (.slice C os.length cc) := Blk.cell S1.out 2
  by_cases hv : v0 = 0
  case neg =>
    have HE : Hid (R = v0) := Lib.hid (by rw [E.out, if_neg hv])
    have hvb : (v0 == 0) = false := by simpa using hv
    go_wp2
    go_ret
    exact ⟨La.retI HE.out.symm, B1.out⟩
  subst hv
  by_cases hn : p.length = ps.length
  case neg =>
    have HE : Hid (R = 2) := Lib.hid (by rw [E.out, if_pos rfl, if_neg hn])
    have hnb : ((p.length : Int) == (ps.length : Int)) = false := by simp; omega
    have hni : ¬ ((p.length : Int) = (ps.length : Int)) := by omega
    go_wp2
    go_ret
    exact ⟨La.retI HE.out.symm, B1.out⟩
  have E2 : Hid (R = if p.all (okB ns) then 0 else 2) := Lib.hid (by rw [E.out, if_pos rfl, if_pos hn])
  have hnb : ((p.length : Int) == (ps.length : Int)) = true := by simp; omega
  have hni : (p.length : Int) = (ps.length : Int) := by omega
  clear E
  go_wp2_with fail
  go_loopw [21] (fun i wr => ∃ k : Nat, k ≤ ps.length ∧ i = .int .i64 k ∧ (∀ j x, j < k → p[j]? = some x → okB ns x = true) ∧ Below w.heap.size w wr ∧ Blk wr w.heap.size (snapC A B C ca cb cc ns ps os) 26) (fun i _ => ps.length - (intOf i).toNat)
  case atStart => exact ⟨0, by omega, rfl, fun j x h => by omega, B1.out, S1.out⟩
  case round =>
    clear s0 s1 s2 B1 S1 hl1
    obtain ⟨k, hk, rfl, hnk, hb, hsk⟩ := hrel
    have HN := Lib.hid hnk
    have HB := Lib.hid hb
    have HS := Lib.hid hsk
    clear hnk hb hsk
    have s0 : wr.cell? ⟨w.heap.size, 0, none⟩ = some (.slice A ns.length ca) := Blk.cell HS.out 0
    have s1 : wr.cell? ⟨w.heap.size, 1, none⟩ = some (.slice B ps.length cb) := Blk.cell HS.out 1
    have s2 : wr.cell? ⟨w.heap.size, 2, none⟩ = some (.slice C os.length cc) := Blk.cell HS.out 2
    by_cases hlt : k < ps.length
    · obtain ⟨x, hx⟩ : ∃ x, p[k]? = some x := ⟨p[k]'(by omega), List.getElem?_eq_getElem (by omega)⟩
      obtain ⟨b, o, hA, hbl, c0⟩ := atI (HP.out.below HB.out).cells hx
      subst hA
      have HX := Lib.hid hx
      have k0 : (0 : Int) ≤ (k : Int) := by omega
      have k1 : (k : Int) < (ps.length : Int) := by omega
      clear hx
      by_cases hm : x = -1
      · subst hm
        go_wp2_with fail
        go_roundw
        case rel =>
          refine ⟨k + 1, by omega, by go_num, fun j y hj hy => ?_, HB.out, HS.out⟩
          by_cases hjk : j = k
          · subst hjk
            rw [HX.out] at hy
            cases hy
            rfl
          · exact HN.out j y (by omega) hy
        case measure => simp [intOf]; omega
      · have hmb : (x != -1) = true := by simpa using hm
        have KI := Lib.hid (KT.out x wr HB.out)
        obtain ⟨r, hr⟩ : ∃ r, tpB ns x = r := ⟨_, rfl⟩
        have Hr := Lib.hid hr
        rw [hr] at KI
        clear hr
        have Hm := Lib.hid hm
        clear hm
        go_wp2_with fail
        refine (KI.out).mono ?_
        rintro e w3 ⟨rfl, hb3⟩
        have hlw : w.heap.size < wr.heap.size := Blk.lt HS.out
        have B3 := Lib.hid (HB.out.trans (hb3.mono HB.out.size))
        have S3 := Lib.hid (HS.out.below hb3 hlw)
        clear hb3 KI c0 s0 s1 s2
        cases r
        · have HE : Hid (2 = R) := Lib.hid (by
            rw [E2.out, if_neg]
            rw [List.all_eq_true]
            intro hall
            have := hall x (List.mem_of_getElem? HX.out)
            unfold okB at this
            rw [Hr.out, decide_eq_false Hm.out] at this
            cases this)
          go_wp2
          go_ret
          exact ⟨La.retI HE.out, B3.out⟩
        · go_wp2
          go_roundw
          case rel =>
            refine ⟨k + 1, by omega, by go_num, fun j y hj hy => ?_, B3.out, S3.out⟩
            by_cases hjk : j = k
            · subst hjk
              rw [HX.out] at hy
              cases hy
              unfold okB
              rw [Hr.out, Bool.or_true]
            · exact HN.out j y (by omega) hy
          case measure => simp [intOf]; omega
    · obtain rfl : k = ps.length := by omega
      have HE : Hid (0 = R) := Lib.hid (by
        rw [E2.out, if_pos]
        rw [List.all_eq_true]
        intro y hy
        obtain ⟨j, hj⟩ := List.mem_iff_getElem?.1 hy
        refine HN.out j y ?_ hj
        have := (List.getElem?_eq_some_iff.1 hj).1
        omega)
      go_wp2
      go_ret
      exact ⟨La.retI HE.out, HB.out⟩
end Go.Proofs.YtfpbdfagcfdbbaaGreat

namespace Go.Proofs.YtfpbdfagcfdbbaaGreat
open Go.RowKit

theorem own_base {w : World} {base base' : Nat} {e : TypeId} {size : Nat} {v : Value} {k : Nat} {xs : List Value} (h : w.ownsRow base e size v k xs) (hb : base' ≤ base) : w.ownsRow base' e size v k xs := by
  obtain ⟨hl, h1 | ⟨g, cap, cur, hv, h0, hr⟩⟩ := h
  · exact ⟨hl, .inl h1⟩
  · exact ⟨hl, .inr ⟨g, cap, cur, hv, Nat.le_trans hb h0, hr⟩⟩
theorem own_put {w : World} {base : Nat} {e : TypeId} {g n cap : Nat} {xs : List Value} (h : w.ownsRow base e 1 (.slice (some ⟨g, 0, none⟩) n cap) n xs) (k : Nat) (v : Value) :
    (w.setCell ⟨g, k, none⟩ v).ownsRow base e 1 (.slice (some ⟨g, 0, none⟩) n cap) n (xs.set k v) := by
  obtain ⟨hl, h1 | ⟨g', cap', cur, hv, hb, hg, h1, h2, h3, h4⟩⟩ := h
  · cases h1.1
  · cases hv
    refine ⟨by simpa using hl, .inr ⟨g, cap, cur.setIfInBounds k v, rfl, hb, heap_setCell_same _ g _ _ _ _ hg, h1, h2, by simpa using h3, ?_⟩⟩
    rw [Array.toList_setIfInBounds, List.take_set, h4]
theorem own_free {w : World} {base : Nat} {e : TypeId} {g n cap : Nat} {xs : List Value} (h : w.ownsRow base e 1 (.slice (some ⟨g, 0, none⟩) n cap) n xs) (k : Nat) :
    w.frozen? ⟨g, k, none⟩ = false := by
  obtain ⟨hl, h1 | ⟨g', cap', cur, hv, hb, hg, h1, h2, h3, h4⟩⟩ := h
  · cases h1.1
  · cases hv
    exact Blk.free hg k
theorem ints_set (l : List Int) (k : Nat) (x : Int) : (intsC l).set k (.int .i64 x) = intsC (l.set k x) := by simp [intsC, List.map_set]

set_option maxHeartbeats 1000000 in
theorem with_any (P : Option Addr) (cp : Nat) (p : List Int) (k : Nat) (node : Int) (w : World) (hp : IntsAt w P cp p) (hk : k < p.length) (hfew : p.length ≤ 1000) :
    Calls Tryz.prog 78 #[.slice P p.length cp, .int .i64 (k : Int), .int .i64 node] w fun e w' => ∃ v, e = .returned v ∧ w'.ownsRow w.heap.size 3 1 v (p.set k node).length (intsC (p.set k node)) ∧ Below w.heap.size w w' := by
  obtain ⟨x, hx⟩ : ∃ x, p[k]? = some x := ⟨p[k], List.getElem?_eq_getElem hk⟩
  obtain ⟨b, o, hA, hbl, _⟩ := atI hp.cells hx
  subst hA
  have KC := Lib.hid (Tryz.slices_Clone_int b o p.length cp p w (Nat.le_refl _) (by omega) (fun j hj => by
    obtain ⟨b', o', hA', _, hc⟩ := atI hp.cells (k := j) (x := p[j]) (List.getElem?_eq_getElem hj)
    cases hA'
    rw [hc]
    congr 2
    rw [List.getD_eq_getElem?_getD, List.getElem?_eq_getElem hj]
    rfl))
  have k0 : (0 : Int) ≤ (k : Int) := by omega
  have k1 : (k : Int) < (p.length : Int) := by omega
  have HX := Lib.hid hx
  clear hp hx
  go_enter Tryz.func78, Tryz.ntmps78
  go_wp2_with fail
  refine (KC.out).mono ?_
  rintro e w1 ⟨v, rfl, ho, hn, hb⟩
  rw [List.take_length] at ho
  obtain ⟨A1, c1, rfl, hm⟩ := La.own_slice ho
  cases A1 with
  | none =>
    rcases ho.2 with ⟨_, h⟩ | ⟨g, cap, cur, hv, _⟩
    · omega
    · cases hv
  | some a =>
    obtain ⟨g, hg⟩ : ∃ g, a = ⟨g, 0, none⟩ := by
      rcases ho.2 with ⟨_, h⟩ | ⟨g, cap, cur, hv, _⟩
      · omega
      · exact ⟨g, by cases hv; rfl⟩
    subst hg
    have hfr := own_free ho k
    obtain ⟨b2, o2, hA2, hbl2, hcur⟩ := atI (La.own_slat ho) HX.out
    cases hA2
    rw [Nat.zero_add] at hcur
    have hgb : w.heap.size ≤ g := by
      rcases ho.2 with ⟨_, h⟩ | ⟨g', cap, cur, hv, hb', _⟩
      · omega
      · cases hv; exact hb'
    have HO := Lib.hid (own_put ho k (.int .i64 node))
    have HB := Lib.hid (hb.setCell (p := ⟨g, k, none⟩) hgb (.int .i64 node))
    clear ho hb hn KC
    go_wp2
    go_ret
    refine ⟨_, rfl, ?_, HB.out⟩
    have := HO.out
    rw [ints_set] at this
    rw [List.length_set]
    exact this
end Go.Proofs.YtfpbdfagcfdbbaaGreat

namespace Go.Proofs.YtfpbdfagcfdbbaaGreat
open Go.RowKit

def evictF (p : List Int) (pd nd : Int) : List Int × Int :=
  if 0 ≤ pd ∧ pd < (p.length : Int) then (if nd = 0 then (if p[pd.toNat]? = some (-1) then ([], 110) else (p.set pd.toNat (-1), 0)) else ([], 9)) else ([], 9)
/-- Is that node lost? -/
def lostB (ns : List NodeD) (k : Nat) : Bool := match ns[k]? with
  | none => false
  | some x => x.lost
def bindF (ns : List NodeD) (p : List Int) (pd nd : Int) : List Int × Int :=
  if 0 ≤ pd ∧ pd < (p.length : Int) then (if 0 ≤ nd ∧ nd < (ns.length : Int) then (if p[pd.toNat]? = some (-1) then (if lostB ns nd.toNat then ([], 110) else (p.set pd.toNat nd, 0)) else ([], 110)) else ([], 9)) else ([], 9)
/-- What Apply answers. -/
def applyF (ns : List NodeD) (ps : List PodD) (os : List OwnD) (p : List Int) (kd pd nd : Int) : List Int × Int :=
  if placeE ns ps os p = 0 then (if kd = 1 then evictF p pd nd else if kd = 2 then bindF ns p pd nd else ([], 2)) else ([], placeE ns ps os p)
abbrev stepV (kd pd nd : Int) : Value := .agg #[.int .i64 kd, .int .i64 pd, .int .i64 nd]
/-- What it is to answer a row and a number. -/
abbrev RowNo (w : World) (F : List Int × Int) (e : Ending) (w' : World) : Prop := ∃ v, e = .returned (.tuple #[v, .int .i64 F.2]) ∧ w'.ownsRow w.heap.size 3 1 v F.1.length (intsC F.1) ∧ Below w.heap.size w w'
theorem nil_post {w w' : World} {c : Int} {F : List Int × Int} (hF : F = ([], c)) (hb : Below w.heap.size w w') : RowNo w F (.returned (.tuple #[.slice none 0 0, .int .i64 c])) w' := by
  subst hF
  exact ⟨_, rfl, World.ownsRow_nil _ _ _ _, hb⟩

set_option maxHeartbeats 1000000 in
theorem evict_any (P : Option Addr) (cp : Nat) (p : List Int) (kd pd nd : Int) (w : World) (hp : IntsAt w P cp p) (hfew : p.length ≤ 1000) :
    Calls Tryz.prog 53 #[.slice P p.length cp, stepV kd pd nd] w fun e w' => RowNo w (evictF p pd nd) e w' := by
  have B0 := Lib.hid (below1 w (.cells #[.int .i64 kd, .int .i64 pd, .int .i64 nd] 50))
  have S0 : Hid (Blk (w.alloc (.cells #[.int .i64 kd, .int .i64 pd, .int .i64 nd] 50)) w.heap.size #[.int .i64 kd, .int .i64 pd, .int .i64 nd] 50) := Lib.hid (Blk.new w _ _)
  by_cases h0 : 0 ≤ pd ∧ pd < (p.length : Int)
  case neg =>
    have KP : Hid (∀ w', Calls Tryz.prog 77 #[.int .i64 pd, .int .i64 (p.length : Int)] w' fun e w'' => e = .returned (.bool false) ∧ w'' = w') := Lib.hid (fun w' => by
      have := isPlace_any pd p.length w'
      rwa [decide_eq_false h0] at this)
    have E : Hid (evictF p pd nd = ([], 9)) := Lib.hid (by unfold evictF; rw [if_neg h0])
    clear hp h0
    go_enter Tryz.func53, Tryz.ntmps53
    go_wp2_with fail
    refine (KP.out _).mono ?_
    rintro e w1 ⟨rfl, rfl⟩
    go_wp2
    go_ret2
    exact nil_post E.out B0.out
  have KP : Hid (∀ w', Calls Tryz.prog 77 #[.int .i64 pd, .int .i64 (p.length : Int)] w' fun e w'' => e = .returned (.bool true) ∧ w'' = w') := Lib.hid (fun w' => by
    have := isPlace_any pd p.length w'
    rwa [decide_eq_true h0] at this)
  obtain ⟨n, rfl⟩ : ∃ n : Nat, pd = (n : Int) := ⟨pd.toNat, by omega⟩
  have hn : n < p.length := by omega
  have n0 : (0 : Int) ≤ (n : Int) := by omega
  have n1 : (n : Int) < (p.length : Int) := by omega
  have E1 : Hid (evictF p (n : Int) nd = if nd = 0 then (if p[n]? = some (-1) then ([], 110) else (p.set n (-1), 0)) else ([], 9)) := Lib.hid (by unfold evictF; rw [if_pos h0, Int.toNat_natCast])
  clear h0
  have s0 := Blk.cell S0.out 0
  have s1 := Blk.cell S0.out 1
  have s2 := Blk.cell S0.out 2
  by_cases hd : nd = 0
  case neg =>
    have E : Hid (evictF p (n : Int) nd = ([], 9)) := Lib.hid (by rw [E1.out, if_neg hd])
    have hdb : (nd != 0) = true := by simpa using hd
    clear hp E1
    go_enter Tryz.func53, Tryz.ntmps53
    go_wp2_with fail
    refine (KP.out _).mono ?_
    rintro e w1 ⟨rfl, rfl⟩
    go_wp2
    go_ret2
    exact nil_post E.out B0.out
  subst hd
  obtain ⟨x, hx⟩ : ∃ x, p[n]? = some x := ⟨p[n], List.getElem?_eq_getElem hn⟩
  have KW := Lib.hid (with_any P cp p n (-1) (w.alloc (.cells #[.int .i64 kd, .int .i64 (n : Int), .int .i64 0] 50)) (hp.below B0.out) hn hfew)
  obtain ⟨b, o, hA, hbl, c0⟩ := atI (hp.below B0.out).cells hx
  subst hA
  by_cases hm : x = -1
  case pos =>
    subst hm
    have E : Hid (evictF p (n : Int) 0 = ([], 110)) := Lib.hid (by rw [E1.out, if_pos rfl, if_pos hx])
    clear hp E1 hx KW
    go_enter Tryz.func53, Tryz.ntmps53
    go_wp2_with fail
    refine (KP.out _).mono ?_
    rintro e w1 ⟨rfl, rfl⟩
    go_wp2
    go_ret2
    exact nil_post E.out B0.out
  have E : Hid (evictF p (n : Int) 0 = (p.set n (-1), 0)) := Lib.hid (by rw [E1.out, if_pos rfl, if_neg (by rw [hx]; simpa using hm)])
  have hmb : (x == -1) = false := by simpa using hm
  clear hp E1 hx
  go_enter Tryz.func53, Tryz.ntmps53
  go_wp2_with fail
  refine (KP.out _).mono ?_
  rintro e w1 ⟨rfl, rfl⟩
  go_wp2_with fail
  refine (KW.out).mono ?_
  rintro e w2 ⟨v, rfl, ho, hb⟩
  have HO := Lib.hid (own_base ho B0.out.size)
  have HB := Lib.hid (B0.out.trans (hb.mono B0.out.size))
  clear ho hb KW
  go_wp2
  go_ret2
  rw [E.out]
  exact ⟨_, rfl, HO.out, HB.out⟩

set_option maxHeartbeats 1000000 in
theorem bind_any (A B C P : Option Addr) (ca cb cc cp lb lc : Nat) (ns : List NodeD) (p : List Int) (kd pd nd : Int) (w : World) (hs : La.SlAt w A (cellsN ns)) (hp : IntsAt w P cp p) (hfew : p.length ≤ 1000) :
    Calls Tryz.prog 54 #[.agg #[.slice A ns.length ca, .slice B lb cb, .slice C lc cc], .slice P p.length cp, stepV kd pd nd] w fun e w' => RowNo w (bindF ns p pd nd) e w' := by
  have B0 := Lib.hid (Qu.below2 w (.cells #[.slice A ns.length ca, .slice B lb cb, .slice C lc cc] 26) (.cells #[.int .i64 kd, .int .i64 pd, .int .i64 nd] 50))
  by_cases h0 : 0 ≤ pd ∧ pd < (p.length : Int)
  case neg =>
    have KP : Hid (∀ w', Calls Tryz.prog 77 #[.int .i64 pd, .int .i64 (p.length : Int)] w' fun e w'' => e = .returned (.bool false) ∧ w'' = w') := Lib.hid (fun w' => by
      have := isPlace_any pd p.length w'
      rwa [decide_eq_false h0] at this)
    have E : Hid (bindF ns p pd nd = ([], 9)) := Lib.hid (by unfold bindF; rw [if_neg h0])
    clear hp h0 hs
    go_enter Tryz.func54, Tryz.ntmps54
    go_wp2_with fail
    refine (KP.out _).mono ?_
    rintro e w1 ⟨rfl, rfl⟩
    go_wp2
    go_ret2
    exact nil_post E.out B0.out
  have KP : Hid (∀ w', Calls Tryz.prog 77 #[.int .i64 pd, .int .i64 (p.length : Int)] w' fun e w'' => e = .returned (.bool true) ∧ w'' = w') := Lib.hid (fun w' => by
    have := isPlace_any pd p.length w'
    rwa [decide_eq_true h0] at this)
  obtain ⟨n, rfl⟩ : ∃ n : Nat, pd = (n : Int) := ⟨pd.toNat, by omega⟩
  have hn : n < p.length := by omega
  have n0 : (0 : Int) ≤ (n : Int) := by omega
  have n1 : (n : Int) < (p.length : Int) := by omega
  have E1 : Hid (bindF ns p (n : Int) nd = if 0 ≤ nd ∧ nd < (ns.length : Int) then (if p[n]? = some (-1) then (if lostB ns nd.toNat then ([], 110) else (p.set n nd, 0)) else ([], 110)) else ([], 9)) := Lib.hid (by unfold bindF; rw [if_pos h0, Int.toNat_natCast])
  clear h0
  by_cases hd : 0 ≤ nd ∧ nd < (ns.length : Int)
  case neg =>
    have E : Hid (bindF ns p (n : Int) nd = ([], 9)) := Lib.hid (by rw [E1.out, if_neg hd])
    have KQ : Hid (∀ w', Calls Tryz.prog 77 #[.int .i64 nd, .int .i64 (ns.length : Int)] w' fun e w'' => e = .returned (.bool false) ∧ w'' = w') := Lib.hid (fun w' => by
      have := isPlace_any nd ns.length w'
      rwa [decide_eq_false hd] at this)
    clear hp E1 hs hd
    go_enter Tryz.func54, Tryz.ntmps54
    go_wp2_with fail
    refine (KP.out _).mono ?_
    rintro e w1 ⟨rfl, rfl⟩
    go_wp2_with fail
    refine (KQ.out _).mono ?_
    rintro e w1 ⟨rfl, rfl⟩
    go_wp2
    go_ret2
    exact nil_post E.out B0.out
  have KQ : Hid (∀ w', Calls Tryz.prog 77 #[.int .i64 nd, .int .i64 (ns.length : Int)] w' fun e w'' => e = .returned (.bool true) ∧ w'' = w') := Lib.hid (fun w' => by
    have := isPlace_any nd ns.length w'
    rwa [decide_eq_true hd] at this)
  obtain ⟨m, rfl⟩ : ∃ m : Nat, nd = (m : Int) := ⟨nd.toNat, by omega⟩
  have hm : m < ns.length := by omega
  have m0 : (0 : Int) ≤ (m : Int) := by omega
  have m1 : (m : Int) < (ns.length : Int) := by omega
  have E2 : Hid (bindF ns p (n : Int) (m : Int) = if p[n]? = some (-1) then (if lostB ns m then ([], 110) else (p.set n (m : Int), 0)) else ([], 110)) := Lib.hid (by rw [E1.out, if_pos hd, Int.toNat_natCast])
  clear E1 hd
  obtain ⟨x, hx⟩ : ∃ x, p[n]? = some x := ⟨p[n], List.getElem?_eq_getElem hn⟩
  obtain ⟨y, hy⟩ : ∃ y, ns[m]? = some y := ⟨ns[m], List.getElem?_eq_getElem hm⟩
  have KW := Lib.hid (with_any P cp p n (m : Int) _ (hp.below B0.out) hn hfew)
  obtain ⟨b, o, hA, hbl, q0⟩ := atI (hp.below B0.out).cells hx
  subst hA
  obtain ⟨b', o', hA', hbl', c0, c1, c2, c3, c4, c5, c6, c7, c8, c9⟩ := atN (hs.below B0.out) hy
  subst hA'
  have hlost : lostB ns m = y.lost := by unfold lostB; rw [hy]
  clear hs hp hy c0 c1 c2 c3 c4 c5 c6 c7 c8
  by_cases hm1 : x = -1
  case neg =>
    have E : Hid (bindF ns p (n : Int) (m : Int) = ([], 110)) := Lib.hid (by rw [E2.out, if_neg (by rw [hx]; simpa using hm1)])
    have hmb : (x != -1) = true := by simpa using hm1
    clear E2 hx KW hlost
    go_enter Tryz.func54, Tryz.ntmps54
    go_wp2_with fail
    refine (KP.out _).mono ?_
    rintro e w1 ⟨rfl, rfl⟩
    go_wp2_with fail
    refine (KQ.out _).mono ?_
    rintro e w1 ⟨rfl, rfl⟩
    go_wp2
    go_ret2
    exact nil_post E.out B0.out
  subst hm1
  obtain ⟨l, hl⟩ : ∃ l, y.lost = l := ⟨_, rfl⟩
  rw [hl] at hlost c9
  clear hl
  cases l
  case true =>
    have E : Hid (bindF ns p (n : Int) (m : Int) = ([], 110)) := Lib.hid (by rw [E2.out, if_pos hx, hlost, if_pos rfl])
    clear E2 hx KW hlost
    go_enter Tryz.func54, Tryz.ntmps54
    go_wp2_with fail
    refine (KP.out _).mono ?_
    rintro e w1 ⟨rfl, rfl⟩
    go_wp2_with fail
    refine (KQ.out _).mono ?_
    rintro e w1 ⟨rfl, rfl⟩
    go_wp2
    go_ret2
    exact nil_post E.out B0.out
  have E : Hid (bindF ns p (n : Int) (m : Int) = (p.set n (m : Int), 0)) := Lib.hid (by rw [E2.out, if_pos hx, hlost, if_neg (by simp)])
  clear E2 hx hlost
  go_enter Tryz.func54, Tryz.ntmps54
  go_wp2_with fail
  refine (KP.out _).mono ?_
  rintro e w1 ⟨rfl, rfl⟩
  go_wp2_with fail
  refine (KQ.out _).mono ?_
  rintro e w1 ⟨rfl, rfl⟩
  go_wp2_with fail
  refine (KW.out).mono ?_
  rintro e w2 ⟨v, rfl, ho, hb⟩
  have HO := Lib.hid (own_base ho B0.out.size)
  have HB := Lib.hid (B0.out.trans (hb.mono B0.out.size))
  clear ho hb KW
  go_wp2
  go_ret2
  rw [E.out]
  exact ⟨_, rfl, HO.out, HB.out⟩

set_option maxHeartbeats 1000000 in
theorem apply_any (A B C P : Option Addr) (ca cb cc cp : Nat) (ns : List NodeD) (ps : List PodD) (os : List OwnD) (p : List Int) (kd pd nd : Int) (w : World) (h : SnapAt w A B C ca cb cc ns ps os) (hp : IntsAt w P cp p) :
    Calls Tryz.prog 27 #[snapV A B C ca cb cc ns ps os, .slice P p.length cp, stepV kd pd nd] w fun e w' => RowNo w (applyF ns ps os p kd pd nd) e w' := by
  have B0 := Lib.hid (Qu.below2 w (.cells (snapC A B C ca cb cc ns ps os) 26) (.cells #[.int .i64 kd, .int .i64 pd, .int .i64 nd] 50))
  have S0 : Hid (Blk ((w.alloc (.cells (snapC A B C ca cb cc ns ps os) 26)).alloc (.cells #[.int .i64 kd, .int .i64 pd, .int .i64 nd] 50)) (w.heap.size + 1) #[.int .i64 kd, .int .i64 pd, .int .i64 nd] 50) := Lib.hid (blk2 w _ _ _)
  have Z0 : Hid (Blk ((w.alloc (.cells (snapC A B C ca cb cc ns ps os) 26)).alloc (.cells #[.int .i64 kd, .int .i64 pd, .int .i64 nd] 50)) w.heap.size (snapC A B C ca cb cc ns ps os) 26) := Lib.hid (Blk.alloc (Blk.new w _ _) _)
  have hlt0 := Blk.lt S0.out
  have KC := Lib.hid (pcheck_any A B C P ca cb cc cp ns ps os p _ (h.below B0.out) (hp.below B0.out))
  have hlen : placeE ns ps os p = 0 → p.length = ps.length := by
    intro hE
    unfold placeE at hE
    split at hE
    · split at hE
      · assumption
      · cases hE
    · rename_i hne
      exact absurd hE hne
  have E0 : Hid (applyF ns ps os p kd pd nd = if placeE ns ps os p = 0 then (if kd = 1 then evictF p pd nd else if kd = 2 then bindF ns p pd nd else ([], 2)) else ([], placeE ns ps os p)) := Lib.hid rfl
  have hlp := h.lp
  have H := Lib.hid h
  have HP := Lib.hid hp
  clear h hp
  generalize placeE ns ps os p = v0 at KC E0 hlen
  by_cases hv : v0 = 0
  case neg =>
    have E : Hid (applyF ns ps os p kd pd nd = ([], v0)) := Lib.hid (by rw [E0.out, if_neg hv])
    have hvb : (v0 != 0) = true := by simpa using hv
    clear E0 hlen
    go_enter Tryz.func27, Tryz.ntmps27
    go_wp2_with fail
    refine (KC.out).mono ?_
    rintro e w1 ⟨rfl, hb⟩
    have B1 := Lib.hid (B0.out.trans (hb.mono B0.out.size))
    clear hb
    go_wp2
    go_ret2
    exact nil_post E.out B1.out
  subst hv
  have hfew : p.length ≤ 1000 := by rw [hlen rfl]; exact hlp
  have E1 : Hid (applyF ns ps os p kd pd nd = if kd = 1 then evictF p pd nd else if kd = 2 then bindF ns p pd nd else ([], 2)) := Lib.hid (by rw [E0.out, if_pos rfl])
  clear E0 hlen
  go_enter Tryz.func27, Tryz.ntmps27
  go_wp2_with fail
  refine (KC.out).mono ?_
  rintro e w1 ⟨rfl, hb⟩
  have B1 := Lib.hid (B0.out.trans (hb.mono B0.out.size))
  have S1 := Lib.hid (S0.out.below hb hlt0)
  have Z1 := Lib.hid (Z0.out.below hb (Nat.lt_trans (Nat.lt_succ_self _) hlt0))
  clear hb KC
  have s0 : w1.cell? ⟨w.heap.size + 1, 0, none⟩ = some (.int .i64 kd) := Blk.cell S1.out 0
  have s1 : w1.cell? ⟨w.heap.size + 1, 1, none⟩ = some (.int .i64 pd) := Blk.cell S1.out 1
  have s2 : w1.cell? ⟨w.heap.size + 1, 2, none⟩ = some (.int .i64 nd) := Blk.cell S1.out 2
  have z0 : w1.cell? ⟨w.heap.size, 0, none⟩ = some (.slice A ns.length ca) := Blk.cell Z1.out 0
  have z1 : w1.cell? ⟨w.heap.size, 1, none⟩ = some (.slice B ps.length cb) := Blk.cell Z1.out 1
  have z2 : w1.cell? ⟨w.heap.size, 2, none⟩ = some (.slice C os.length cc) := Blk.cell Z1.out 2
  by_cases h1 : kd = 1
  · subst h1
    have KE := Lib.hid (evict_any P cp p 1 pd nd w1 (HP.out.below B1.out) hfew)
    have E2 : Hid (applyF ns ps os p 1 pd nd = evictF p pd nd) := Lib.hid (by rw [E1.out, if_pos rfl])
    clear E1
    go_wp2_with fail
    refine (KE.out).mono ?_
    rintro e w2 ⟨v, rfl, ho, hb⟩
    have HO := Lib.hid (own_base ho B1.out.size)
    have HB := Lib.hid (B1.out.trans (hb.mono B1.out.size))
    clear ho hb KE
    go_wp2
    go_ret2
    rw [E2.out]
    exact ⟨_, rfl, HO.out, HB.out⟩
  · have h1b : (kd == 1) = false := by simpa using h1
    by_cases h2 : kd = 2
    · subst h2
      have KE := Lib.hid (bind_any A B C P ca cb cc cp ps.length os.length ns p 2 pd nd w1 (H.out.below B1.out).n.cells (HP.out.below B1.out) hfew)
      have E2 : Hid (applyF ns ps os p 2 pd nd = bindF ns p pd nd) := Lib.hid (by rw [E1.out, if_neg h1, if_pos rfl])
      clear E1
      go_wp2_with fail
      refine (KE.out).mono ?_
      rintro e w2 ⟨v, rfl, ho, hb⟩
      have HO := Lib.hid (own_base ho B1.out.size)
      have HB := Lib.hid (B1.out.trans (hb.mono B1.out.size))
      clear ho hb KE
      go_wp2
      go_ret2
      rw [E2.out]
      exact ⟨_, rfl, HO.out, HB.out⟩
    · have h2b : (kd == 2) = false := by simpa using h2
      have E2 : Hid (applyF ns ps os p kd pd nd = ([], 2)) := Lib.hid (by rw [E1.out, if_neg h1, if_neg h2])
      clear E1
      go_wp2
      go_ret2
      exact nil_post E2.out B1.out
end Go.Proofs.YtfpbdfagcfdbbaaGreat

namespace Go.Proofs.YtfpbdfagcfdbbaaGreat
open Go.RowKit

theorem own_gem {w : World} {base : Nat} {e : TypeId} {size : Nat} {v : Value} {n : Nat} {xs : List Value} (h : w.ownsRow base e size v n xs) {j : Nat} (hj : v.ownBlock = some j) : base ≤ j := (h.lt j hj).1
/-- What is unlike at the first k places. -/
def movesU (p q : List Int) : Nat → List (Int × Int)
  | 0 => []
  | k + 1 => movesU p q k ++ (if p.getD k 0 = q.getD k 0 then [] else [((k : Int), q.getD k 0)])
/-- What Moves tells. -/
def movesF (p q : List Int) : List (Int × Int) := movesU p q (min p.length q.length)
def cells2 (l : List (Int × Int)) : List Value := l.flatMap fun x => [.int .i64 x.1, .int .i64 x.2]
theorem cells2_len : ∀ l, (cells2 l).length = l.length * 2
  | [] => rfl
  | x :: t => by
    have := cells2_len t
    simp only [cells2, List.flatMap_cons, List.length_append, List.length_cons, List.length_nil] at this ⊢
    omega
theorem cells2_snoc (l : List (Int × Int)) (x : Int × Int) : cells2 (l ++ [x]) = cells2 l ++ [.int .i64 x.1, .int .i64 x.2] := by simp [cells2]
theorem movesU_len (p q : List Int) : ∀ k, (movesU p q k).length ≤ k
  | 0 => Nat.le_refl _
  | k + 1 => by
    have := movesU_len p q k
    rw [movesU, List.length_append]
    split <;> simp <;> omega

set_option maxRecDepth 100000 in
set_option maxHeartbeats 2000000 in
theorem eqInts_any (A B : Option Addr) (ca cb : Nat) (l m : List Int) (w : World) (hl : l.length ≤ 1000) (ha : IntsAt w A ca l) (hb : IntsAt w B cb m) :
    Calls Tryz.prog 19 #[.slice A l.length ca, .slice B m.length cb] w fun e w' => e = .returned (.bool (decide (l = m))) ∧ Below w.heap.size w w' := by
  by_cases hn : l.length = m.length
  case neg =>
    have hni : ¬ (l.length : Int) = (m.length : Int) := by omega
    have hnb : ((l.length : Int) != (m.length : Int)) = true := by simpa using hni
    have hne : decide (l = m) = false := decide_eq_false (fun e => hn (by rw [e]))
    rw [hne]
    clear ha hb
    go_enter Tryz.func19, Tryz.ntmps19
    go_wp2
    go_ret
    exact ⟨rfl, Below.refl _ _⟩
  have hni : (l.length : Int) = (m.length : Int) := by omega
  have hnb : ((l.length : Int) != (m.length : Int)) = false := by simpa using hni
  have HA := Lib.hid ha
  have HB := Lib.hid hb
  clear ha hb
  obtain ⟨R, hR⟩ : ∃ R, decide (l = m) = R := ⟨_, rfl⟩
  have HR := Lib.hid hR
  rw [hR]
  clear hR
  go_enter Tryz.func19, Tryz.ntmps19
  go_wp2_with fail
  go_loopw [5] (fun i wr => ∃ k : Nat, k ≤ l.length ∧ i = .int .i64 k ∧ (∀ j, j < k → l[j]? = m[j]?) ∧ Below w.heap.size w wr) (fun i _ => l.length - (intOf i).toNat)
  case atStart => exact ⟨0, by omega, rfl, fun j h => by omega, Below.refl _ _⟩
  case round =>
    obtain ⟨k, hk, rfl, hnk, hbw⟩ := hrel
    have HN := Lib.hid hnk
    have HW := Lib.hid hbw
    clear hnk hbw
    by_cases hlt : k < l.length
    · obtain ⟨x, hx⟩ : ∃ x, l[k]? = some x := ⟨l[k], List.getElem?_eq_getElem hlt⟩
      obtain ⟨y, hy⟩ : ∃ y, m[k]? = some y := ⟨m[k]'(by omega), List.getElem?_eq_getElem (by omega)⟩
      obtain ⟨b1, o1, hA1, hbl1, c1⟩ := atI (HA.out.below HW.out).cells hx
      obtain ⟨b2, o2, hA2, hbl2, c2⟩ := atI (HB.out.below HW.out).cells hy
      subst hA1 hA2
      have HX := Lib.hid hx
      have HY := Lib.hid hy
      have k0 : (0 : Int) ≤ (k : Int) := by omega
      have k1 : (k : Int) < (l.length : Int) := by omega
      have k2 : (k : Int) < (m.length : Int) := by omega
      clear hx hy
      by_cases hxy : x = y
      · subst hxy
        have hxb : (x != x) = false := by simp
        go_wp2_with fail
        go_region
        go_wp2
        go_roundw
        case rel =>
          refine ⟨k + 1, by omega, by go_num, fun j hj => ?_, by first | exact HW.out | exact HW.out.drew | exact La.belowN HW.out _⟩
          by_cases hjk : j = k
          · subst hjk
            rw [HX.out, HY.out]
          · exact HN.out j (by omega)
        case measure => simp [intOf]; omega
      · have hxb : (x != y) = true := by simpa using hxy
        have HE : Hid (false = R) := Lib.hid (by
          rw [← HR.out]
          symm
          refine decide_eq_false (fun e => hxy ?_)
          have h1 := HX.out
          rw [e, HY.out] at h1
          exact (Option.some.inj h1).symm)
        go_wp2_with fail
        go_region
        go_wp2
        go_ret
        exact ⟨La.retB HE.out, by first | exact HW.out | exact HW.out.drew | exact La.belowN HW.out _⟩
    · obtain rfl : k = l.length := by omega
      have HE : Hid (true = R) := Lib.hid (by
        rw [← HR.out]
        symm
        refine decide_eq_true (List.ext_getElem? fun j => ?_)
        by_cases hj : j < l.length
        · exact HN.out j hj
        · rw [List.getElem?_eq_none (by omega), List.getElem?_eq_none (by omega)])
      go_wp2
      go_ret
      exact ⟨La.retB HE.out, HW.out⟩

end Go.Proofs.YtfpbdfagcfdbbaaGreat

namespace Go.Proofs.YtfpbdfagcfdbbaaGreat
open Go.RowKit

/-- The places of the first k pods that are of that owner. -/
def membersU (ps : List PodD) (name : List UInt8) : Nat → List Int
  | 0 => []
  | k + 1 => membersU ps name k ++ (match ps[k]? with
    | some x => if x.owner = name then [(k : Int)] else []
    | none => [])
theorem membersU_len (ps : List PodD) (name : List UInt8) : ∀ k, (membersU ps name k).length ≤ k
  | 0 => Nat.le_refl _
  | k + 1 => by
    have := membersU_len ps name k
    rw [membersU, List.length_append]
    split
    · split <;> simp <;> omega
    · simp; omega
/-- What Members tells of an owner that there is. -/
def membersF (ps : List PodD) (name : List UInt8) : List Int := membersU ps name ps.length

set_option maxRecDepth 100000 in
set_option maxHeartbeats 4000000 in
theorem members_any (A B C : Option Addr) (ca cb cc : Nat) (ns : List NodeD) (ps : List PodD) (os : List OwnD) (k : Nat) (x : OwnD) (w : World) (h : SnapAt w A B C ca cb cc ns ps os) (hx : os[k]? = some x) :
    Calls Tryz.prog 183 #[snapV A B C ca cb cc ns ps os, .int .i64 (k : Int)] w fun e w' => ∃ v, e = .returned v ∧ w'.ownsRow w.heap.size 3 1 v (membersF ps x.name).length (intsC (membersF ps x.name)) ∧ Below w.heap.size w w' := by
  have H := Lib.hid h
  have HX := Lib.hid hx
  have B0 : Hid (Below w.heap.size w (w.alloc (.cells (snapC A B C ca cb cc ns ps os) 26))) := Lib.hid (below1 w _)
  have S0 : Hid (Blk (w.alloc (.cells (snapC A B C ca cb cc ns ps os) 26)) w.heap.size (snapC A B C ca cb cc ns ps os) 26) := Lib.hid (Blk.new w _ _)
  have hko : k < os.length := (List.getElem?_eq_some_iff.1 hx).1
  have k0 : (0 : Int) ≤ (k : Int) := by omega
  have k0' : ¬ (k : Int) < 0 := by omega
  have k1 : (k : Int) < (os.length : Int) := by omega
  have k1' : ¬ (os.length : Int) ≤ (k : Int) := by omega
  have hlp := h.lp
  have hlo := h.lo
  clear h hx
  obtain ⟨i0, hi0, hz0, hz1, hz2⟩ := info_parts Qu.int_info
  go_enter Tryz.func183, Tryz.ntmps183
  go_wp2_with fail
  go_loopw [20, 5] (fun i v wr => ∃ j : Nat, j ≤ ps.length ∧ i = .int .i64 j ∧ wr.ownsRow w.heap.size 3 1 v (membersU ps x.name j).length (intsC (membersU ps x.name j)) ∧ Below w.heap.size w wr ∧ Blk wr w.heap.size (snapC A B C ca cb cc ns ps os) 26) (fun i _ _ => ps.length - (intOf i).toNat)
  case atStart => exact ⟨0, by omega, rfl, World.ownsRow_nil _ _ _ _, B0.out, S0.out⟩
  case round =>
    obtain ⟨j, hj, rfl, hown, hbw, hsk⟩ := hrel
    have HO := Lib.hid hown
    have HW := Lib.hid hbw
    have HS := Lib.hid hsk
    clear hown hbw hsk
    by_cases hlt : j < ps.length
    · obtain ⟨y, hy⟩ : ∃ y, ps[j]? = some y := ⟨ps[j], List.getElem?_eq_getElem hlt⟩
      obtain ⟨b, o, hA, hbl, c0, c1, c2, c3, c4, c5, c6, c7, c8, c9, c10, c11, c12, c13, c14⟩ := atP (H.out.below HW.out).p.cells hy
      subst hA
      have hstep : membersU ps x.name (j + 1) = membersU ps x.name j ++ (if y.owner = x.name then [(j : Int)] else []) := by rw [membersU, hy]
      have HT := Lib.hid hstep
      have hml := membersU_len ps x.name j
      have j0 : (0 : Int) ≤ (j : Int) := by omega
      have j1 : (j : Int) < (ps.length : Int) := by omega
      have B2 := Lib.hid (HW.out.alloc HW.out.size (.cells (cellsP [y]).toArray 69))
      have P2 : Hid (Blk (wr.alloc (.cells (cellsP [y]).toArray 69)) wr.heap.size (cellsP [y]).toArray 69) := Lib.hid (Blk.new wr _ _)
      have S2 := Lib.hid (Blk.alloc HS.out (.cells (cellsP [y]).toArray 69))
      have O2 := Lib.hid (show World.ownsRow _ _ _ _ _ _ _ from HO.out.alloc (.cells (cellsP [y]).toArray 69))
      obtain ⟨b2, o2, hA2, hbl2, d0, d1, d2, d3, d4⟩ := atO (H.out.below B2.out).o HX.out
      subst hA2
      clear hy hstep d1 d2 d3 d4
      go_wp2_with fail
      change Code.wp _ _ _ _ (wr.alloc (.cells (cellsP [y]).toArray 69))
      generalize hW2 : (wr.alloc (.cells (cellsP [y]).toArray 69)) = W2 at B2 P2 S2 O2 d0 hbl2 ⊢
      have p1 : W2.cell? ⟨wr.heap.size, 1, none⟩ = some (strV y.owner) := Blk.cell P2.out 1
      have z2 : W2.cell? ⟨w.heap.size, 2, none⟩ = some (.slice (some ⟨b2, o2, none⟩) os.length cc) := Blk.cell S2.out 2
      clear hW2 c0 c1 c2 c3 c4 c5 c6 c7 c8 c9 c10 c11 c12 c13 c14
      by_cases hxy : y.owner = x.name
      · go_region
        go_wp2_with (at_builtin; refine wpList_append_own _ rfl _ _ 27 rfl w.heap.size 3 i0 (.int .i64 0) 1 8 Tryz.underlying27 hi0 hz0 hz1 hz2 rfl (by decide) _ _ _ rfl (show World.ownsRow _ _ _ _ _ _ _ from O2.out.alloc _) ⟨W2.heap.size, 0, none⟩ 1 1 [.int .i64 (j : Int)] rfl rfl ?c1 ?c2 ?c3 ?c4 ?c5 ?_)
        case c1 =>
          intro j u hj
          match j, hj with
          | 0, hj => simp at hj; subst hj; simp [Addr.add]
        case c2 => first | rfl | (intro u hu; simp at hu; subst hu; rfl)
        case c3 => unfold maxLen; omega
        case c4 => omega
        case c5 => have := B2.out.size; simp; omega
        intro v' w2 hown' hgrow' _
        have hwz : w.heap.size < W2.heap.size := Blk.lt S2.out
        have HO2 := Lib.hid hown'
        have HW2 := Lib.hid ((B2.out.drew.alloc B2.out.size (.cells #[.int .i64 (j : Int)] 3)).grown hgrow' (by have := B2.out.size; simp; omega) (fun j hj => own_gem O2.out hj))
        have HS2 : Hid (Blk w2 w.heap.size (snapC A (some ⟨b, o, none⟩) (some ⟨b2, o2, none⟩) ca cb cc ns ps os) 26) := Lib.hid (Blk.kept (Blk.alloc (show Blk W2.drew _ _ _ from S2.out) (.cells #[.int .i64 (j : Int)] 3)) hgrow' (fun e => by
          have he := e.symm
          rcases O2.out.2 with ⟨hv, _⟩ | ⟨g, cap, cur, hv, hbg, hg, _⟩
          · rw [hv] at he; cases he
          · rw [hv] at he
            simp only [Value.ownBlock, Option.some.injEq] at he
            subst he
            have h1 := S2.out
            unfold Blk at h1
            rw [hg] at h1
            cases h1))
        clear hown' hgrow'
        go_wp2
        go_roundw
        case rel =>
          refine ⟨j + 1, by omega, by go_num, ?_, HW2.out, HS2.out⟩
          rw [HT.out, if_pos hxy, List.length_append]
          simpa [intsC] using HO2.out
        case measure => simp [intOf]; omega
      · go_region
        rw [show (y.owner == x.name) = false from beq_eq_false_iff_ne.2 hxy]
        go_wp2_with fail
        go_roundw
        case rel =>
          refine ⟨j + 1, by omega, by go_num, ?_, B2.out.drew, (show Blk W2.drew _ _ _ from S2.out)⟩
          rw [HT.out, if_neg hxy, List.append_nil]
          exact (show World.ownsRow W2.drew _ _ _ _ _ _ from O2.out)
        case measure => simp [intOf]; omega
    · obtain rfl : j = ps.length := by omega
      go_wp2
      go_ret
      exact ⟨_, rfl, HO.out, HW.out⟩

end Go.Proofs.YtfpbdfagcfdbbaaGreat

namespace Go.Proofs.YtfpbdfagcfdbbaaGreat
open Go.RowKit

theorem size_of (t : List UInt8) : ((⟨t.toArray⟩ : ByteArray).size) = t.length := by simp [ByteArray.size]
set_option maxHeartbeats 1000000 in
theorem clone_any (t : List UInt8) (w : World) (h : t.length ≤ 281474976710656) :
    Calls Tryz.prog 181 #[strV t] w fun e w' => e = .returned (strV t) ∧ Below w.heap.size w w' := by
  have K := Lib.hid (Tryz.stringslite_Clone ⟨t.toArray⟩ w (by rw [size_of]; exact h))
  go_enter Tryz.func181, Tryz.ntmps181
  go_wp2_with fail
  refine K.out.mono ?_
  rintro e w1 ⟨rfl, hb⟩
  have HB := Lib.hid hb
  clear hb K
  go_wp2
  go_ret
  exact ⟨rfl, HB.out⟩

set_option maxRecDepth 100000 in
set_option maxHeartbeats 4000000 in
/-- Which value has a node that is not lost for a key? -/
def domF (ns : List NodeD) (k : Int) (key : List UInt8) : Option (List UInt8) := if tpB ns k then (match ns[k.toNat]? with
  | some x => (x.labels.find? (fun y => decide (y.1 = key))).map (·.2)
  | none => none) else none
theorem domainOf_any (A B C : Option Addr) (ca cb cc lb lc : Nat) (ns : List NodeD) (k : Int) (key : List UInt8) (w : World) (h : NodesAt w A ns) (hval : ∀ x ∈ ns, ∀ y ∈ x.labels, y.2.length ≤ 281474976710656) :
    Calls Tryz.prog 151 #[.agg #[.slice A ns.length ca, .slice B lb cb, .slice C lc cc], .int .i64 k, strV key] w fun e w' => e = .returned (.tuple #[strV ((domF ns k key).getD []), .bool (domF ns k key).isSome]) ∧ Below w.heap.size w w' := by
  have H := Lib.hid h
  have B0 := Lib.hid (below1 w (.cells #[.slice A ns.length ca, .slice B lb cb, .slice C lc cc] 26))
  have S0 : Hid (Blk (w.alloc (.cells #[.slice A ns.length ca, .slice B lb cb, .slice C lc cc] 26)) w.heap.size #[.slice A ns.length ca, .slice B lb cb, .slice C lc cc] 26) := Lib.hid (Blk.new w _ _)
  have KT := Lib.hid (ptakes_any A B C ca cb cc lb lc ns k _ (h.below B0.out).cells)
  have E0 : Hid (domF ns k key = if tpB ns k then (match ns[k.toNat]? with
    | some x => (x.labels.find? (fun y => decide (y.1 = key))).map (·.2)
    | none => none) else none) := Lib.hid rfl
  generalize domF ns k key = R at E0 ⊢
  obtain ⟨r, hr⟩ : ∃ r, tpB ns k = r := ⟨_, rfl⟩
  rw [hr] at E0 KT
  have HR := Lib.hid hr
  clear h hr
  have hlt0 := Blk.lt S0.out
  go_enter Tryz.func151, Tryz.ntmps151
  go_wp2_with fail
  refine (KT.out).mono ?_
  rintro e w1 ⟨rfl, hb⟩
  clear KT
  have S1 := Lib.hid (S0.out.below hb hlt0)
  have B1 := Lib.hid (B0.out.trans (hb.mono (Nat.le_of_lt hlt0)))
  clear hb
  cases r
  · have HE : Hid (R = none) := Lib.hid (by rw [E0.out]; rfl)
    clear E0
    go_wp2
    go_ret2
    rw [HE.out]
    exact ⟨rfl, B1.out⟩
  obtain ⟨n, rfl⟩ : ∃ n : Nat, k = (n : Int) := ⟨k.toNat, by
    have := HR.out
    unfold tpB at this
    simp only [Bool.and_eq_true, decide_eq_true_eq] at this
    omega⟩
  obtain ⟨x, hx⟩ : ∃ x, ns[n]? = some x := by
    have := HR.out
    unfold tpB at this
    rw [Int.toNat_natCast] at this
    cases hq : ns[n]? with
    | none => rw [hq] at this; simp at this
    | some x => exact ⟨x, rfl⟩
  have hnl : n < ns.length := (List.getElem?_eq_some_iff.1 hx).1
  have n0 : (0 : Int) ≤ (n : Int) := by omega
  have n1 : (n : Int) < (ns.length : Int) := by omega
  have HE : Hid (R = (x.labels.find? (fun y => decide (y.1 = key))).map (·.2)) := Lib.hid (by rw [E0.out, Int.toNat_natCast, hx]; rfl)
  have HF := Lib.hid ((H.out.below B1.out).fit x (List.mem_of_getElem? hx))
  have HM := Lib.hid (List.mem_of_getElem? hx)
  obtain ⟨b, o, hA, hbl, c0, c1, c2, c3, c4, c5, c6, c7, c8, c9⟩ := atN (H.out.below B1.out).cells hx
  subst hA
  have s0 : w1.cell? ⟨w.heap.size, 0, none⟩ = some (.slice (some ⟨b, o, none⟩) ns.length ca) := Blk.cell S1.out 0
  clear c0 c1 c2 c3 c4 c5 c7 c8 c9 E0 hx
  obtain ⟨L, hL⟩ : ∃ L, L = x.labels := ⟨_, rfl⟩
  obtain ⟨al, hal⟩ : ∃ al, al = x.al := ⟨_, rfl⟩
  obtain ⟨cl, hcl⟩ : ∃ cl, cl = x.cl := ⟨_, rfl⟩
  have HV : Hid (∀ y ∈ L, y.2.length ≤ 281474976710656) := Lib.hid (by rw [hL]; exact hval x HM.out)
  have HL : Hid (ListL w1 al cl L) := Lib.hid (by rw [hL, hal, hcl]; exact HF.out.l)
  have HE2 : Hid (R = (L.find? (fun y => decide (y.1 = key))).map (·.2)) := Lib.hid (by rw [hL]; exact HE.out)
  rw [← hL, ← hal, ← hcl] at c6
  clear hval HE HF hL hal hcl
  have hLm : L.length ≤ 9223372036854775807 := Nat.le_trans HL.out.le HL.out.most
  go_wp2_with fail
  go_loopw [21] (fun i wr => ∃ k : Nat, k ≤ L.length ∧ i = .int .i64 k ∧ (∀ j y, j < k → L[j]? = some y → y.1 ≠ key) ∧ Below w.heap.size w wr ∧ Below w1.heap.size w1 wr) (fun i _ => L.length - (intOf i).toNat)
  case atStart => exact ⟨0, by omega, rfl, fun j x h => by omega, B1.out, Below.refl _ _⟩
  case round =>
    obtain ⟨k, hk, rfl, hnk, hbw, hb1⟩ := hrel
    have HN := Lib.hid hnk
    have HW := Lib.hid hbw
    have HW1 := Lib.hid hb1
    clear hnk hbw hb1
    by_cases hlt : k < L.length
    · obtain ⟨y, hy⟩ : ∃ y, L[k]? = some y := ⟨L[k], List.getElem?_eq_getElem hlt⟩
      obtain ⟨b0, o0, hA, hb0, hc⟩ := La.SlAt.lab (HL.out.cells.below HW1.out) hy
      subst hA
      have hx0 : wr.cell? ⟨b0, o0 + k * 2, none⟩ = some (strV y.1) := hc.1
      have hx1 : wr.cell? ⟨b0, o0 + k * 2 + 1, none⟩ = some (strV y.2) := hc.2
      have HY := Lib.hid hy
      have k0 : (0 : Int) ≤ (k : Int) := by omega
      have k1 : (k : Int) < (L.length : Int) := by omega
      have B2 := Lib.hid (HW.out.alloc HW.out.size (.cells #[strV y.1, strV y.2] 57))
      have B3 := Lib.hid (HW1.out.alloc HW1.out.size (.cells #[strV y.1, strV y.2] 57))
      have KC := Lib.hid (clone_any y.2 (wr.alloc (.cells #[strV y.1, strV y.2] 57)) (HV.out y (List.mem_of_getElem? hy)))
      clear hy hc
      by_cases hkey : y.1 = key
      · have HR2 : Hid (R = some y.2) := Lib.hid (by
          rw [HE2.out]
          have : L.find? (fun y => decide (y.1 = key)) = some y := by
            rw [List.find?_eq_some_iff_getElem]
            refine ⟨by simpa using hkey, k, hlt, (List.getElem?_eq_some_iff.1 HY.out).2, fun j hj => ?_⟩
            have := HN.out j _ hj (List.getElem?_eq_getElem (by omega))
            simpa using this
          rw [this]
          rfl)
        subst hkey
        go_wp2_with fail
        refine (KC.out).mono ?_
        rintro e w3 ⟨rfl, hb3⟩
        have B4 := Lib.hid (B2.out.trans (hb3.mono B2.out.size))
        clear hb3 KC
        go_wp2
        go_ret2
        rw [HR2.out]
        exact ⟨rfl, B4.out⟩
      · have hkb : (y.1 == key) = false := beq_eq_false_iff_ne.2 hkey
        go_wp2_with fail
        go_roundw
        case rel =>
          refine ⟨k + 1, by omega, by go_num, fun j z hj hz => ?_, B2.out, B3.out⟩
          by_cases hjk : j = k
          · subst hjk
            rw [HY.out] at hz
            cases hz
            exact hkey
          · exact HN.out j z (by omega) hz
        case measure => simp [intOf]; omega
    · obtain rfl : k = L.length := by omega
      have HR2 : Hid (R = none) := Lib.hid (by
        rw [HE2.out]
        have : L.find? (fun y => decide (y.1 = key)) = none := by
          rw [List.find?_eq_none]
          intro y hy
          obtain ⟨j, hj⟩ := List.mem_iff_getElem?.1 hy
          have := HN.out j y (List.getElem?_eq_some_iff.1 hj).1 hj
          simpa using this
        rw [this]
        rfl)
      go_wp2
      go_ret2
      rw [HR2.out]
      exact ⟨rfl, HW.out⟩
end Go.Proofs.YtfpbdfagcfdbbaaGreat

namespace Go.Proofs.YtfpbdfagcfdbbaaGreat
open Go.RowKit

/-- What isOwner tells. -/
def ownerB (ns : List NodeD) (ps : List PodD) (os : List OwnD) (p : List Int) (k : Int) : Bool := decide (placeE ns ps os p = 0) && decide (0 ≤ k ∧ k < (os.length : Int))

set_option maxRecDepth 100000 in
set_option maxHeartbeats 1000000 in
theorem isOwner_any (A B C P : Option Addr) (ca cb cc cp : Nat) (ns : List NodeD) (ps : List PodD) (os : List OwnD) (p : List Int) (k : Int) (w : World) (h : SnapAt w A B C ca cb cc ns ps os) (hp : IntsAt w P cp p) :
    Calls Tryz.prog 148 #[snapV A B C ca cb cc ns ps os, .slice P p.length cp, .int .i64 k] w fun e w' => e = .returned (.bool (ownerB ns ps os p k)) ∧ Below w.heap.size w w' := by
  have B0 : Hid (Below w.heap.size w (w.alloc (.cells (snapC A B C ca cb cc ns ps os) 26))) := Lib.hid (below1 w _)
  have S0 : Hid (Blk (w.alloc (.cells (snapC A B C ca cb cc ns ps os) 26)) w.heap.size (snapC A B C ca cb cc ns ps os) 26) := Lib.hid (Blk.new w _ _)
  have KC := Lib.hid (pcheck_any A B C P ca cb cc cp ns ps os p _ (h.below B0.out) (hp.below B0.out))
  have hl0 := Blk.lt S0.out
  have KP : Hid (∀ w', Calls Tryz.prog 77 #[.int .i64 k, .int .i64 (os.length : Int)] w' fun e w'' => e = .returned (.bool (decide (0 ≤ k ∧ k < (os.length : Int)))) ∧ w'' = w') := Lib.hid (fun w' => isPlace_any k os.length w')
  have E : Hid (ownerB ns ps os p k = (decide (placeE ns ps os p = 0) && decide (0 ≤ k ∧ k < (os.length : Int)))) := Lib.hid rfl
  generalize ownerB ns ps os p k = R at E ⊢
  generalize decide (0 ≤ k ∧ k < (os.length : Int)) = D at E KP
  generalize placeE ns ps os p = v0 at KC E
  clear h hp
  go_enter Tryz.func148, Tryz.ntmps148
  go_wp2_with fail
  refine (KC.out).mono ?_
  rintro e w1 ⟨rfl, hb⟩
  clear KC
  have S1 := Lib.hid (S0.out.below hb (by omega))
  have B1 := Lib.hid (B0.out.trans (hb.mono (by omega)))
  clear hb S0 B0 hl0
  have s2 : w1.cell? ⟨w.heap.size, 2, none⟩ = some (.slice C os.length cc) := Blk.cell S1.out 2
  by_cases hv : v0 = 0
  · subst hv
    have HE : Hid (R = D) := Lib.hid (by rw [E.out]; simp)
    clear E
    go_wp2_with fail
    refine (KP.out _).mono ?_
    rintro e w2 ⟨rfl, rfl⟩
    go_wp2
    go_ret
    exact ⟨La.retB HE.out.symm, B1.out⟩
  · have HE : Hid (R = false) := Lib.hid (by rw [E.out, decide_eq_false hv]; rfl)
    have hvb : (v0 == 0) = false := by simpa using hv
    clear E
    go_wp2
    go_ret
    exact ⟨La.retB HE.out.symm, B1.out⟩

/-- What Domain tells. -/
def domE (ns : List NodeD) (ps : List PodD) (os : List OwnD) (k : Int) (key : List UInt8) : Option (List UInt8) := if checkS ns ps os = 0 then domF ns k key else none

/-- Values of labels of a cluster that may be are short. -/
def Short (ns : List NodeD) : Prop := ∀ x ∈ ns, ∀ y ∈ x.labels, y.2.length ≤ 281474976710656

end Go.Proofs.YtfpbdfagcfdbbaaGreat

namespace Go.Proofs.YtfpbdfagcfdbbaaGreat
open Go.RowKit

abbrev bZone : List UInt8 := [122, 111, 110, 101]
abbrev zer5F : Nat → Int := fun _ => 0
abbrev ten5 : Nat → Int := fun k => if k = 0 then 10 else 0
/-- The chapter's cluster: a name and a mark of its second node are letters. -/
def chN (N : Nat) (nm : List UInt8) (lost : Bool) : List NodeD := [
  { name := [97], cap := zer5F, labels := [(bZone, [120])], taints := [], cordon := false, lost := false, al := some ⟨N + 1, 0, none⟩, cl := 1, at_ := none, ct := 0 },
  { name := nm, cap := zer5F, labels := [(bZone, [121])], taints := [], cordon := false, lost := lost, al := some ⟨N + 2, 0, none⟩, cl := 1, at_ := none, ct := 0 },
  { name := [99], cap := zer5F, labels := [], taints := [], cordon := false, lost := false, al := none, cl := 0, at_ := none, ct := 0 }]
def chPod (c : UInt8) : PodD := { name := [c], owner := [111], req := ten5, labels := [], whr := [], bears := [], wt := [], wtm := [], ap := [], apm := [], on := [], al := none, cl := 0, aw := none, cw := 0, ab := none, cb := 0, awt := none, cwt := 0, aap := none, cap := 0 }
def chP : List PodD := [chPod 112, chPod 113, chPod 114]
def chO : List OwnD := [{ name := [111], min := 0, topo := bZone, skew := 1, single := false }]

theorem pod_info : (Tryz.prog.info? 69).map (fun i => (i.zero, i.size, i.bytes)) = some (some (.agg #[.string ⟨#[]⟩, .string ⟨#[]⟩, .int .i64 0, .int .i64 0, .int .i64 0, .int .i64 0, .int .i64 0, .slice none 0 0, .slice none 0 0, .slice none 0 0, .string ⟨#[]⟩, .slice none 0 0, .string ⟨#[]⟩, .slice none 0 0, .string ⟨#[]⟩]), 15, 240) := by kernel_rfl
/-- The chapter's cluster lies in memory, from block N on; its pods in a row of their own. -/
structure ChapAt (w : World) (N : Nat) (v : Value) (k : Nat) (nm : List UInt8) (lost : Bool) : Prop where
  l1 : Blk w (N + 1) #[strV bZone, strV [120]] 57
  l2 : Blk w (N + 2) #[strV bZone, strV [121]] 57
  n : Blk w (N + 3) (cellsN (chN N nm lost)).toArray 62
  o : Blk w (N + 4) (cellsO chO).toArray 53
  p : w.ownsRow N 69 15 v k (cellsP (chP.take k))
theorem ChapAt.kept {w w' : World} {N k : Nat} {v : Value} {nm : List UInt8} {lost : Bool} (h : ChapAt w N v k nm lost) (hb : Below w.heap.size w w') : ChapAt w' N v k nm lost :=
  ⟨h.l1.below hb h.l1.lt, h.l2.below hb h.l2.lt, h.n.below hb h.n.lt, h.o.below hb h.o.lt, by
    refine h.p.kept (grown_of_below hb none) ?_
    rcases h.p.2 with ⟨rfl, _⟩ | ⟨g, cap, cur, rfl, _⟩
    · exact .inl rfl
    · exact .inr (by simp [Value.ownBlock])⟩

theorem ch_other {w w' : World} {base : Nat} {e : TypeId} {sz n : Nat} {v : Value} {xs : List Value} (ho : w.ownsRow base e sz v n xs) (hg : w.grownBy w' v.ownBlock) {j : Nat} {cs : Array Value} {t : TypeId} (hj : Blk w j cs t) (hne : t ≠ e) : Blk w' j cs t := by
  refine (hg.block j hj.lt ?_).trans hj
  rcases ho.2 with ⟨rfl, _⟩ | ⟨g, cap, cur, rfl, _, hgb, _⟩
  · intro e'; cases e'
  · intro e'
    simp only [Value.ownBlock, Option.some.injEq] at e'
    subst e'
    unfold Blk at hj
    rw [hgb] at hj
    cases hj
    exact hne rfl
theorem ch_set {w : World} {base : Nat} {e : TypeId} {sz n : Nat} {v : Value} {xs : List Value} (ho : w.ownsRow base e sz v n xs) {j : Nat} {cs : Array Value} {t : TypeId} (hj : Blk w j cs t) (hne : t ≠ e) (i : Nat) (u : Value) : (w.setCell ⟨j, i, none⟩ u).ownsRow base e sz v n xs := by
  obtain ⟨hl, h1 | ⟨g, cap, cur, hv, hb, hg, r⟩⟩ := ho
  · exact ⟨hl, .inl h1⟩
  · refine ⟨hl, .inr ⟨g, cap, cur, hv, hb, (Below.heap_setCell w ⟨j, i, none⟩ u g ?_).trans hg, r⟩⟩
    intro e'
    subst e'
    unfold Blk at hj
    rw [hg] at hj
    cases hj
    exact hne rfl

/-- An append onto a row of one's own, as one step of a region that draws its order. -/
theorem step_append_own {P : Program} {ops : Array Oper} {o : Oper} {a : Act} {w : World} {K : Act → World → Prop} {Q : Exit → Act → World → Prop} {E : Prop}
    (hg : o.guard = none) (s x : Operand) (t : TypeId) (hop : o.op = Op.call { callee := Callee.builtin Builtin.append, args := #[s, x], argTypes := #[t, t] })
    (base : Nat) (e : TypeId) (i : TypeInfo) (z : Value) (size bytes : Nat) (h1 : P.underlying t = some (.slice e)) (h2 : P.info? e = some i) (h3 : i.zero = some z) (h4 : i.size = size) (h5 : i.bytes = bytes) (h6 : z.cells.size = size) (h7 : 0 < size)
    (v : Value) (n : Nat) (xs : List Value) (hs : a.eval s = v) (hown : w.ownsRow base e size v n xs)
    (ad : Addr) (m c : Nat) (news : List Value) (hx : a.eval x = .slice (some ad) m c) (hn : news.length = m * size) (hc : ∀ j u, news[j]? = some u → w.cell? (ad.add j) = some u) (h1c : ∀ u ∈ news, u.oneCell' = true)
    (b1 : n + m ≤ maxLen) (b2 : (n + m) * bytes ≤ 140737488355328) (hbase : base ≤ w.heap.size)
    (hK : ∀ v' w', w'.ownsRow base e size v' (n + m) (xs ++ news) → w.grownBy w' v.ownBlock → K (a.put o.dst v') w') :
    if Region.wanted o (yielded ops a.tmps) = true then Oper.wp P o a w K Q else E := by
  have hw : Region.wanted o (yielded ops a.tmps) = true := by simp [Region.wanted, hg]
  rw [if_pos hw]
  obtain ⟨v', w', hrun, r1, r2, _⟩ := run_append_own (P := P) w base t o.type e i z size bytes h1 h2 h3 h4 h5 h6 h7 v n xs hown ad m c news hn hc h1c b1 b2 hbase
  unfold Oper.wp
  simp [execOp, hop, resolve, invoke, builtin, hs, hx, hrun, Result.andThen]
  exact hK v' w' r1 r2

theorem ChapAt.set {w : World} {N k : Nat} {v : Value} {nm : List UInt8} {lost : Bool} (h : ChapAt w N v k nm lost) {b : Nat} {cs : Array Value} {t : TypeId} (hb : Blk w b cs t) (h1 : b ≠ N + 1 ∧ b ≠ N + 2 ∧ b ≠ N + 3 ∧ b ≠ N + 4) (ht : t ≠ 69) (i : Nat) (u : Value) : ChapAt (w.setCell ⟨b, i, none⟩ u) N v k nm lost :=
  ⟨h.l1.oth (Ne.symm h1.1) i u, h.l2.oth (Ne.symm h1.2.1) i u, h.n.oth (Ne.symm h1.2.2.1) i u, h.o.oth (Ne.symm h1.2.2.2) i u, ch_set h.p hb ht i u⟩
theorem ChapAt.step {w W w' : World} {N k k' : Nat} {v v' : Value} {nm : List UInt8} {lost : Bool} (h : ChapAt w N v k nm lost) (hW : Below w.heap.size w W) {n : Nat} {xs : List Value} (ho : W.ownsRow N 69 15 v n xs) (hg : W.grownBy w' v.ownBlock) (hn : w'.ownsRow N 69 15 v' k' (cellsP (chP.take k'))) : ChapAt w' N v' k' nm lost :=
  ⟨ch_other ho hg (h.l1.below hW h.l1.lt) (by decide), ch_other ho hg (h.l2.below hW h.l2.lt) (by decide), ch_other ho hg (h.n.below hW h.n.lt) (by decide), ch_other ho hg (h.o.below hW h.o.lt) (by decide), hn⟩

/-- The chapter's cluster as a cluster. -/
theorem ChapAt.snap {w : World} {N : Nat} {B : Option Addr} {cb : Nat} {nm : List UInt8} {lost : Bool} (h : ChapAt w N (.slice B 3 cb) 3 nm lost) (hnm : nm.length ≤ 1000) : SnapAt w (some ⟨N + 3, 0, none⟩) B (some ⟨N + 4, 0, none⟩) 3 cb 1 (chN N nm lost) chP chO := by
  have lab : ∀ (b : Nat) (v : UInt8), Blk w b #[strV bZone, strV [v]] 57 → ListL w (some ⟨b, 0, none⟩) 1 [(bZone, [v])] := fun b v hb => by
    refine ⟨by simp, by omega, fun j y hj => ⟨b, 0, rfl, ?_⟩, fun x hx => ?_⟩
    · rw [Nat.zero_add, Blk.cell hb j, ← hj, ← List.getElem?_toArray]
      rfl
    · simp only [List.mem_singleton] at hx
      subst hx
      exact ⟨by simp, by simp⟩
  have nolab : ListL w none 0 [] := ⟨by simp, by omega, fun j y hj => by simp [La.cellsL] at hj, fun x hx => by cases hx⟩
  have noter : ListT w none 0 [] := ⟨by simp, by omega, fun j y hj => by simp [La.cellsT] at hj, fun x hx => by cases hx⟩
  have hcap : 3 ≤ cb ∧ cb ≤ maxLen := by
    rcases h.p.2 with ⟨e, _⟩ | ⟨g, cap, cur, e, _, _, h1, h2, _⟩
    · cases e
    · cases e
      exact ⟨h1, h2⟩
  have hpod : ∀ c, (chPod c).fit w := fun c => ⟨nolab, noter, nolab, noter, noter, by simp [chPod]⟩
  constructor
  · constructor
    · intro j y hj
      refine ⟨N + 3, 0, rfl, ?_⟩
      rw [Nat.zero_add, Blk.cell h.n j, ← hj, ← List.getElem?_toArray]
    · intro x hx
      simp only [chN, List.mem_cons, List.not_mem_nil, or_false] at hx
      rcases hx with rfl | rfl | rfl
      · exact ⟨lab _ _ h.l1, nolab, by simp⟩
      · exact ⟨lab _ _ h.l2, nolab, by show nm.length ≤ _; omega⟩
      · exact ⟨nolab, nolab, by simp⟩
  · constructor
    · exact La.own_slat h.p
    · intro x hx
      simp only [chP, List.mem_cons, List.not_mem_nil, or_false] at hx
      rcases hx with rfl | rfl | rfl <;> exact hpod _
  · intro j y hj
    refine ⟨N + 4, 0, rfl, ?_⟩
    rw [Nat.zero_add, Blk.cell h.o j, ← hj, ← List.getElem?_toArray]
  · intro x hx
    simp only [chO, List.mem_singleton] at hx
    subst hx
    exact ⟨by simp, by simp⟩
  · simp [chN]
  · simp [chP]
  · simp [chO]
  · exact ⟨by simp [chN], by omega⟩
  · refine ⟨by simp [chP]; omega, ?_⟩
    have := hcap.2
    unfold maxLen at this
    omega
  · exact ⟨by simp [chO], by omega⟩
end Go.Proofs.YtfpbdfagcfdbbaaGreat

namespace Go.Proofs.YtfpbdfagcfdbbaaGreat.La
open Go.RowKit

def insB (n : Nat) : Bool := letB n || digB n
def insAt (l : List UInt8) (i : Nat) : Bool := match l[i]? with | some b => insB b.toNat | none => false

theorem rletter_any (b : UInt8) (w : World) :
    Calls Tryz.prog 188 #[.int .u8 (b.toNat : Int)] w fun e w' => e = .returned (.bool (letB b.toNat)) ∧ w = w' := by
  have hb : b.toNat < 256 := b.toNat_lt
  generalize b.toNat = c at *
  go_enter Tryz.func188, Tryz.ntmps188
  go_wp2
  all_goals
    go_ret
    refine ⟨retB ?_, rfl⟩
    unfold letB
    rw [Bool.eq_iff_iff]
    simp
    try omega
theorem rinside_any (b : UInt8) (w : World) :
    Calls Tryz.prog 200 #[.int .u8 (b.toNat : Int)] w fun e w' => e = .returned (.bool (insB b.toNat)) ∧ w = w' := by
  have K := Lib.hid (fun w => rletter_any b w)
  have hb : b.toNat < 256 := b.toNat_lt
  generalize b.toNat = c at *
  cases hl : letB c
  · rw [hl] at K
    have E : Hid (insB c = digB c) := by show insB c = _; unfold insB; rw [hl]; rfl
    clear hl
    go_enter Tryz.func200, Tryz.ntmps200
    go_wp2_with fail
    refine (K.out _).mono ?_
    rintro e w1 ⟨rfl, rfl⟩
    go_wp2
    all_goals
      go_ret
      refine ⟨retB ?_, rfl⟩
      rw [E.out]
      unfold digB
      rw [Bool.eq_iff_iff]
      simp
      try omega
  · rw [hl] at K
    have E : Hid (insB c = true) := by show insB c = _; unfold insB; rw [hl]; rfl
    clear hl
    go_enter Tryz.func200, Tryz.ntmps200
    go_wp2_with fail
    refine (K.out _).mono ?_
    rintro e w1 ⟨rfl, rfl⟩
    go_wp2
    go_ret
    exact ⟨retB (by rw [E.out]), rfl⟩

/-- A word that stands at a byte, and where it ends; where it is wrong, and how. -/
def runF (nm : Bool) (l : List UInt8) (a : Nat) : List UInt8 × Nat × Int :=
  if wordL (if nm = true then okName else okVal) l a = 0 ∧ a = l.length then ([], a, 3)
  else if wordL (if nm = true then okName else okVal) l a = 0 ∨ insAt l (a + wordL (if nm = true then okName else okVal) l a) = true then ([], a + wordL (if nm = true then okName else okVal) l a, 4)
  else ((l.drop a).take (wordL (if nm = true then okName else okVal) l a), a + wordL (if nm = true then okName else okVal) l a, 0)
/-- What the document's reader leaves. -/
def RunsTo (w : World) (x : List UInt8 × Nat × Int) (e : Ending) (w' : World) : Prop := e = .returned (.tuple #[strV x.1, .int .i64 (x.2.1 : Int), .int .i64 x.2.2]) ∧ w = w'

theorem run_word {nm : Bool} {l : List UInt8} {a p : Nat} (h : wordL (if nm = true then okName else okVal) l a = p - a) (ha : a ≤ p) (_hp : p ≤ l.length) :
    runF nm l a = if p = a ∧ p = l.length then ([], p, 3) else if p = a ∨ insAt l p = true then ([], p, 4) else ((l.drop a).take (p - a), p, 0) := by
  unfold runF
  rw [h]
  by_cases hpa : p = a
  · subst hpa
    simp
  · have e : a + (p - a) = p := by omega
    have h0 : ¬ (p - a = 0) := by omega
    simp only [e, h0, hpa, false_and, if_false, false_or]
theorem slice_at (l : List UInt8) (a p : Nat) : (⟨l.toArray⟩ : ByteArray).extract a p = ⟨((l.drop a).take (p - a)).toArray⟩ := cut_eq l a p

end Go.Proofs.YtfpbdfagcfdbbaaGreat.La

namespace Go.Proofs.YtfpbdfagcfdbbaaGreat.La
open Go.RowKit

/-- May a text be a value, a name, as the document says it? -/
def valR (s : List UInt8) : Bool := s.all (fun b => insB b.toNat) && decide (1 ≤ s.length ∧ s.length ≤ 15)
def headR (s : List UInt8) : Bool := match s with
  | b :: _ => letB b.toNat
  | [] => false
theorem span_iff (ok : Nat → Nat → Bool) : ∀ (t : List UInt8) (a : Nat), a ≤ 15 → (spanF ok t a = a + t.length ↔ (a + t.length ≤ 15 ∧ ∀ j (b : UInt8), t[j]? = some b → ok (a + j) b.toNat = true))
  | [], a, ha => by
    constructor
    · intro _
      exact ⟨by simpa using ha, fun j b h => by simp at h⟩
    · intro _
      rfl
  | b :: t, a, ha => by
    rw [spanF]
    by_cases h15 : a = 15
    · subst h15
      simp
      omega
    · cases hok : ok a b.toNat
      · rw [if_pos (.inr rfl)]
        constructor
        · intro h
          simp only [List.length_cons] at h
          omega
        · rintro ⟨_, h⟩
          have := h 0 b rfl
          rw [Nat.add_zero, hok] at this
          cases this
      · rw [if_neg (by rintro (h | h); exact h15 h; cases h)]
        have ih := span_iff ok t (a + 1) (by omega)
        have e : a + (b :: t).length = a + 1 + t.length := by simp only [List.length_cons]; omega
        rw [e, ih]
        constructor
        · rintro ⟨h1, h2⟩
          refine ⟨h1, fun j c hj => ?_⟩
          cases j with
          | zero =>
            simp only [List.getElem?_cons_zero, Option.some.injEq] at hj
            subst hj
            exact hok
          | succ j =>
            rw [List.getElem?_cons_succ] at hj
            have := h2 j c hj
            rwa [show a + 1 + j = a + (j + 1) by omega] at this
        · rintro ⟨h1, h2⟩
          refine ⟨h1, fun j c hj => ?_⟩
          have := h2 (j + 1) c (by rw [List.getElem?_cons_succ]; exact hj)
          rwa [show a + 1 + j = a + (j + 1) by omega]
theorem nameR_eq (s : List UInt8) : (valR s && headR s) = nameB s := by
  rw [Bool.eq_iff_iff]
  cases s with
  | nil => simp [valR, headR, nameB]
  | cons c t =>
    have h := span_iff okName (c :: t) 0 (by omega)
    rw [Nat.zero_add] at h
    unfold valR headR nameB
    simp only [Bool.and_eq_true, decide_eq_true_eq, List.all_eq_true]
    rw [h]
    constructor
    · rintro ⟨⟨ha, _, hl⟩, hc⟩
      refine ⟨by simp, hl, fun j b hj => ?_⟩
      have hb := ha b (List.mem_of_getElem? hj)
      rw [Nat.zero_add]
      unfold okName
      cases j with
      | zero =>
        simp only [List.getElem?_cons_zero, Option.some.injEq] at hj
        subst hj
        rw [hc, Bool.true_or]
      | succ j =>
        unfold insB at hb
        simp only [Nat.zero_lt_succ, decide_true, Bool.true_and]
        exact hb
    · rintro ⟨_, hl, ha⟩
      refine ⟨⟨fun b hb => ?_, by simp, hl⟩, ?_⟩
      · obtain ⟨j, hj⟩ := List.mem_iff_getElem?.1 hb
        have := ha j b hj
        unfold okName at this
        unfold insB
        revert this
        cases letB b.toNat <;> cases digB b.toNat <;> simp
      · have := ha 0 c rfl
        simpa [okName] using this

set_option maxRecDepth 100000 in
set_option maxHeartbeats 400000 in
theorem rvalue_any (s : List UInt8) (w : World) (hl : s.length ≤ 9223372036854775807) :
    Calls Tryz.prog 187 #[strV s] w fun e w' => e = .returned (.bool (valR s)) ∧ w = w' := by
  obtain ⟨R, hR⟩ : ∃ R, valR s = R := ⟨_, rfl⟩
  rw [hR]
  have HR := Lib.hid hR
  clear hR
  go_enter Tryz.func187, Tryz.ntmps187
  go_wp2
  go_loop [3] (fun t => ∃ p : Nat, p ≤ s.length ∧ t = .int .i64 p ∧ (∀ j b, j < p → s[j]? = some b → insB b.toNat = true)) (fun t => s.length - (intOf t).toNat)
  case atStart => exact ⟨0, by omega, rfl, fun j b h => by omega⟩
  case round =>
    obtain ⟨p, hp, rfl, ha⟩ := hrel
    have HA := Lib.hid ha
    clear ha
    have p0 : (0 : Int) ≤ (p : Int) := by omega
    by_cases hlt : p < s.length
    · have hlti : (p : Int) < (s.length : Int) := by omega
      have KI := Lib.hid (fun w => rinside_any (s[p]) w)
      have HX : Hid (s[p]? = some s[p]) := Lib.hid (List.getElem?_eq_getElem hlt)
      cases hin : insB (s[p]).toNat
      · have E : Hid (R = false) := Lib.hid (by
          rw [← HR.out]
          unfold valR
          rw [Bool.and_eq_false_iff]
          left
          rw [List.all_eq_false]
          exact ⟨s[p], List.getElem_mem hlt, by simp [hin]⟩)
        rw [hin] at KI
        clear hin
        go_wp2_with (go_at_call 200; refine (KI.out _).mono ?_; rintro e w1 ⟨rfl, rfl⟩)
        go_ret
        exact ⟨retB E.out.symm, rfl⟩
      · rw [hin] at KI
        have HI := Lib.hid hin
        clear hin
        go_wp2_with (go_at_call 200; refine (KI.out _).mono ?_; rintro e w1 ⟨rfl, rfl⟩)
        go_round
        case rel =>
          refine ⟨p + 1, by omega, by go_num, fun j b hj hb => ?_⟩
          by_cases hjp : j = p
          · subst hjp
            rw [HX.out] at hb
            cases hb
            exact HI.out
          · exact HA.out j b (by omega) hb
        case measure => simp [intOf]; omega
    · obtain rfl : p = s.length := by omega
      have E : Hid (R = decide (1 ≤ s.length ∧ s.length ≤ 15)) := Lib.hid (by
        rw [← HR.out]
        unfold valR
        rw [show (s.all fun b => insB b.toNat) = true from List.all_eq_true.2 (fun b hb => by
          obtain ⟨j, hj⟩ := List.mem_iff_getElem?.1 hb
          exact HA.out j b (List.getElem?_eq_some_iff.1 hj).1 hj), Bool.true_and])
      clear HA HR
      by_cases h1 : (1 : Int) ≤ (s.length : Int)
      · go_wp2
        go_ret
        refine ⟨retB ?_, rfl⟩
        rw [E.out, Bool.eq_iff_iff]
        simp
        try omega
      · go_wp2
        go_ret
        refine ⟨retB ?_, rfl⟩
        rw [E.out, Bool.eq_iff_iff]
        simp
        try omega
theorem rname_any (s : List UInt8) (w : World) (hl : s.length ≤ 9223372036854775807) :
    Calls Tryz.prog 154 #[strV s] w fun e w' => e = .returned (.bool (nameB s)) ∧ w = w' := by
  have K := Lib.hid (rvalue_any s w hl)
  have E := Lib.hid (nameR_eq s)
  generalize nameB s = R at E ⊢
  cases hv : valR s
  · rw [hv] at K E
    clear hv
    go_enter Tryz.func154, Tryz.ntmps154
    go_wp2_with fail
    refine (K.out).mono ?_
    rintro e w1 ⟨rfl, rfl⟩
    go_wp2
    go_ret
    exact ⟨retB E.out, rfl⟩
  · rw [hv] at K E
    cases s with
    | nil => simp [valR] at hv
    | cons c t =>
      clear hv
      have KL := Lib.hid (fun w => rletter_any c w)
      have E2 : Hid (R = letB c.toNat) := Lib.hid (by rw [← E.out]; rfl)
      have h0 : (0 : Int) < ((c :: t).length : Int) := by simp
      go_enter Tryz.func154, Tryz.ntmps154
      go_wp2_with fail
      refine (K.out).mono ?_
      rintro e w1 ⟨rfl, rfl⟩
      go_wp2_with fail
      refine (KL.out _).mono ?_
      rintro e w1 ⟨rfl, rfl⟩
      go_wp2
      go_ret
      exact ⟨retB E2.out.symm, rfl⟩
end Go.Proofs.YtfpbdfagcfdbbaaGreat.La
