/- What Plus answers of a thousand rows at most: VecPlus with a greater bound. Condition: they lie in memory. What each makes of a cluster's lists: rows. Condition: the list lies in memory. May sums be? A contract. Condition: the rows lie in memory. May a cluster be, and may its sums? The contract of Check. Condition: the cluster lies in memory. Lists of numbers in memory; whether a place is one, whether a node takes pods. No conditions but that what is read lies in memory. May a placement be? The contract of Check. Condition: the cluster and the numbers lie in memory. A placement in which one pod is elsewhere; what evict and bind answer. Condition: the numbers lie in memory. What a step makes of a placement: the contracts of evict, bind and Apply. Condition: the cluster and the numbers lie in memory. Lists of numbers held against each other; what is unlike in two of them. Condition: they lie in memory. What the document's reader of a word answers, as a plain function. Condition: a text that can lie in memory. What the document's Value and Name answer of a text. Condition: a text that can lie in memory. What the document's checks of labels, of what is borne, and of terms answer. Condition: the list lies in memory. May a node, an owner, a Near be, each by itself, as the document says it? Contracts. Condition: its lists lie in memory. -/
import Derived.Test.YtoankplhahbgkaaGreatC03
import Derived.Laws.Cover3
import Derived.Test.YtoankplhahbgkaaGreatShelf
import Derived.Deep.RegionHeld3
import Derived.Deep.DeepCutAuto

namespace Go.Proofs.YtoankplhahbgkaaGreat.Qu
open Go.RowKit

/-- A slice of n noughts is made. -/
theorem run_numsM (w : World) (n : Nat) (hn : n ≤ 1000) : (Instr.makeSlice 27 (.int .i64 (n : Int)) (.int .i64 (n : Int))).run Tryz.prog w = .ok (.slice (some ⟨w.heap.size, 0, none⟩) n n) (w.alloc (.cells (madeCells #[.int .i64 0] n) 3)) := by
  cases hi : Tryz.prog.info? 3 with
  | none => have h := int_info; rw [hi] at h; cases h
  | some i =>
    have h := int_info
    rw [hi] at h
    simp only [Option.map_some, Option.some.injEq, Prod.mk.injEq] at h
    obtain ⟨h0, h1, h2⟩ := h
    have k := run_make (P := Tryz.prog) w 27 3 i (.int .i64 0) Tryz.underlying27 hi h0 .i64 .i64 n n (by omega) (by omega) (by rw [h2]; omega) (by omega)
    simpa [h1, Value.cells] using k

set_option maxRecDepth 100000 in
set_option maxHeartbeats 1000000 in
theorem column_anyM (A : Option Addr) (c : Nat) (l : List (Nat → Int)) (p : Nat) (w : World) (hl : l.length ≤ 1000) (hp : p < 5) (hr : RowsOf w A l) :
    Calls Tryz.prog 176 #[.slice A l.length c, .int .i64 (p : Int)] w fun e w' => e = .returned (.slice (some ⟨w.heap.size, 0, none⟩) l.length l.length) ∧ Below w.heap.size w w' ∧ RowOf w' (some ⟨w.heap.size, 0, none⟩) (colL l p) := by
  have Hr := Lib.hid hr
  clear hr
  have hmk := run_numsM w l.length hl
  go_enter Tryz.func176, Tryz.ntmps176
  go_wp2
  clear hmk
  go_loopw [13] (fun i wr => ∃ k : Nat, k ≤ l.length ∧ i = .int .i64 k ∧ NumsAt wr w.heap.size l.length (fun j => if j < k then (l.getD j (fun _ => 0)) p else 0) ∧ Below w.heap.size w wr) (fun i _ => l.length - (intOf i).toNat)
  case atStart => exact ⟨0, by omega, rfl, nums_new w l.length, (Below.refl _ _).alloc (Nat.le_refl _) _⟩
  case round =>
    obtain ⟨k, hk, rfl, hn, hb⟩ := hrel
    have Hn := Lib.hid hn
    have HB := Lib.hid hb
    clear hn hb
    by_cases hlt : k < l.length
    · obtain ⟨b, o, rfl, hbl, hc⟩ := Hr.out k l[k] (List.getElem?_eq_getElem hlt)
      have hc' : ∀ j, j < 5 → wr.cell? ⟨b, o + k * 5 + j, none⟩ = some (.int .i64 (l[k] j)) := fun j hj => (HB.out.cell (p := ⟨b, o + k * 5 + j, none⟩) hbl).trans (hc j hj)
      have c0 := hc' 0 (by omega)
      have c1 := hc' 1 (by omega)
      have c2 := hc' 2 (by omega)
      have c3 := hc' 3 (by omega)
      have c4 := hc' 4 (by omega)
      clear hc hc'
      simp only [Nat.add_zero] at c0
      have hv := cell_new l[k] p hp wr 33
      have hcn := (Hn.out.alloc (.cells #[.int .i64 (l[k] 0), .int .i64 (l[k] 1), .int .i64 (l[k] 2), .int .i64 (l[k] 3), .int .i64 (l[k] 4)] 33)).cell hlt
      have hfn := (Hn.out.alloc (.cells #[.int .i64 (l[k] 0), .int .i64 (l[k] 1), .int .i64 (l[k] 2), .int .i64 (l[k] 3), .int .i64 (l[k] 4)] 33)).free k
      go_wp2
      go_roundw
      case rel =>
        refine ⟨k + 1, by omega, by go_num, ?_, (HB.out.alloc HB.out.size _).setCell (by simp) _⟩
        have h := (Hn.out.alloc (.cells #[.int .i64 (l[k] 0), .int .i64 (l[k] 1), .int .i64 (l[k] 2), .int .i64 (l[k] 3), .int .i64 (l[k] 4)] 33)).set k (l[k] p)
        have e : (fun j => if j < k + 1 then (l.getD j (fun _ => 0)) p else 0) = upd (fun j => if j < k then (l.getD j (fun _ => 0)) p else 0) k (l[k] p) := by
          funext j
          unfold upd
          by_cases hj : j = k
          · subst hj
            simp [List.getD_eq_getElem?_getD, List.getElem?_eq_getElem hlt]
          · by_cases hj2 : j < k
            · simp [hj, hj2, show j < k + 1 by omega]
            · simp [hj, hj2, show ¬ j < k + 1 by omega]
        rw [e]
        exact h
      case measure => simp [intOf]; omega
    · go_wp2
      go_ret
      refine ⟨rfl, HB.out, fun j x hj => ?_⟩
      unfold colL at hj
      rw [List.getElem?_map] at hj
      cases hq : l[j]? with
      | none => rw [hq] at hj; cases hj
      | some y =>
        rw [hq] at hj
        simp only [Option.map_some, Option.some.injEq] at hj
        subst hj
        have hjl : j < l.length := (List.getElem?_eq_some_iff.1 hq).1
        refine ⟨w.heap.size, 0, rfl, ?_⟩
        have h := Hn.out.cell hjl
        simp only [show j < k by omega, if_true, List.getD_eq_getElem?_getD, hq, Option.getD_some] at h
        rw [Nat.zero_add]
        exact h


theorem add_toM (A : Option Addr) (n c : Nat) (l : List Int) (s e0 : Int) (w : World) (hn : l.length = n) (hl : n ≤ 1000) (hr : RowOf w A l) (h : addL l = (s, e0)) :
    Calls Tryz.prog 175 #[.slice A n c] w fun e w' => e = .returned (.tuple #[.int .i64 s, .int .i64 e0]) ∧ w = w' := by
  have k := add_any A c l w (by unfold maxLen; omega) hr
  rw [h, hn] at k
  exact k

set_option maxRecDepth 100000 in
set_option maxHeartbeats 400000 in
theorem plus_inM (A : Option Addr) (c : Nat) (l : List (Nat → Int)) (k q : Nat) (w : World) (hk : k < 5) (hl : l.length ≤ 1000) (hq : w.cell? ⟨q, 0, none⟩ = some (.slice A l.length c)) (hr : RowsOf w A l) :
    Calls Tryz.prog 174 #[.int .i64 (k : Int), .pointer (some ⟨q, 0, none⟩)] w fun e w' => e = .returned (.tuple #[.int .i64 (plusF l k).1, .int .i64 (plusF l k).2]) ∧ Below w.heap.size w w' := by
  have Hr := Lib.hid hr
  clear hr
  rcases ha : plusF l k with ⟨n, e0⟩
  have Ha := Lib.hid ha
  clear ha
  go_enter Tryz.func174, Tryz.ntmps174
  go_wp2_with fail
  refine (column_anyM A c l k _ hl hk Hr.out).mono ?_
  rintro e w1 ⟨rfl, hb, hrow⟩
  have HB := Lib.hid hb
  have Hrow := Lib.hid hrow
  clear hb hrow hq
  go_wp2_with fail
  refine (add_toM _ _ _ (colL l k) n e0 _ (col_len l k) hl Hrow.out Ha.out).mono ?_
  rintro e w2 ⟨rfl, rfl⟩
  go_wp2
  go_ret2
  exact ⟨rfl, HB.out⟩


set_option maxRecDepth 100000 in
set_option maxHeartbeats 400000 in
theorem plus_anyM (A : Option Addr) (c : Nat) (l : List (Nat → Int)) (w : World) (hl : l.length ≤ 1000) (hr : RowsOf w A l) :
    Calls Tryz.prog 141 #[.slice A l.length c] w fun e w' => e = .returned (.tuple #[.agg #[.int .i64 (eachR (plusF l) 0), .int .i64 (eachR (plusF l) 1), .int .i64 (eachR (plusF l) 2), .int .i64 (eachR (plusF l) 3), .int .i64 (eachR (plusF l) 4)], .int .i64 (firstE (plusF l) 5)]) ∧ Below w.heap.size w w' := by
  have Hr := Lib.hid hr
  clear hr
  have hmf := run_func
  go_enter Tryz.func141, Tryz.ntmps141
  go_wp2_with fail
  clear hmf
  have hb0 := below2 w (.cells #[.slice A l.length c] 122) (.cells #[.int .i64 0, .int .i64 0, .int .i64 0, .int .i64 0, .int .i64 0] 33)
  have hc : ((w.alloc (.cells #[.slice A l.length c] 122)).alloc (.cells #[.int .i64 0, .int .i64 0, .int .i64 0, .int .i64 0, .int .i64 0] 33)).cell? ⟨w.heap.size, 0, none⟩ = some (.slice A l.length c) := by simp [go_sem]
  have hz : RowAt ((w.alloc (.cells #[.slice A l.length c] 122)).alloc (.cells #[.int .i64 0, .int .i64 0, .int .i64 0, .int .i64 0, .int .i64 0] 33)) (w.heap.size + 1) (fun _ => 0) := heap_alloc2_new _ _ _
  have hrs : RowsOf ((w.alloc (.cells #[.slice A l.length c] 122)).alloc (.cells #[.int .i64 0, .int .i64 0, .int .i64 0, .int .i64 0, .int .i64 0] 33)) A l := Hr.out.below hb0 (Nat.le_refl _)
  refine (each1_any 174 _ (plusF l) _ Tryz.call174 ?_).mono ?_
  · intro k hk w' hb
    exact plus_inM A c l k _ w' hk hl ((hb.cell (p := ⟨w.heap.size, 0, none⟩) (Nat.lt_of_succ_lt hz.lt)).trans hc) (hrs.below hb (Nat.le_refl _))
  rintro e w1 ⟨rfl, hb⟩
  have Hz := Lib.hid (hz.below hb hz.lt)
  have HB := Lib.hid (hb0.trans (hb.mono hb0.size))
  clear hc hz hrs hb0 hb
  go_wp2_with (refine wpList_store_row rfl 33 (.tmp 2) (.tmp 6) rfl (w.heap.size + 1) _ rfl rfl 33 _ Hz.out vec_size (by kernel_rfl) (by kernel_rfl) ?_)
  refine bodyPost_row2 Tryz.results141 (w.heap.size + 1) _ _ _ _ (.int .i64 (firstE (plusF l) 5)) ?d1 ?p1 ?s1 (Hz.out.put (eachR (plusF l))) Tryz.underlying33 rfl vec_size ?_
  case d1 => rfl
  case p1 => rfl
  case s1 => rfl
  exact ⟨rfl, below_setRow HB.out (by omega) _⟩


end Go.Proofs.YtoankplhahbgkaaGreat.Qu

namespace Go.Proofs.YtoankplhahbgkaaGreat
open Go.RowKit

abbrev rowC (x : Nat → Int) : List Value := [.int .i64 (x 0), .int .i64 (x 1), .int .i64 (x 2), .int .i64 (x 3), .int .i64 (x 4)]
theorem vec_info : (Tryz.prog.info? 33).map (fun i => (i.zero, i.size, i.bytes)) = some (some (.agg #[.int .i64 0, .int .i64 0, .int .i64 0, .int .i64 0, .int .i64 0]), 5, 40) := by kernel_rfl
/-- A slice of n rows of noughts is made. -/
theorem run_vecs (w : World) (n : Nat) (hn : n ≤ 1000000) : (Instr.makeSlice 122 (.int .i64 (n : Int)) (.int .i64 (n : Int))).run Tryz.prog w = .ok (.slice (some ⟨w.heap.size, 0, none⟩) n n) (w.alloc (.cells (madeCells #[.int .i64 0, .int .i64 0, .int .i64 0, .int .i64 0, .int .i64 0] (n * 5)) 33)) := by
  cases hi : Tryz.prog.info? 33 with
  | none => have h := vec_info; rw [hi] at h; cases h
  | some i =>
    have h := vec_info
    rw [hi] at h
    simp only [Option.map_some, Option.some.injEq, Prod.mk.injEq] at h
    obtain ⟨h0, h1, h2⟩ := h
    have k := run_make (P := Tryz.prog) w 122 33 i (.agg #[.int .i64 0, .int .i64 0, .int .i64 0, .int .i64 0, .int .i64 0]) Tryz.underlying122 hi h0 .i64 .i64 n n (by omega) (by omega) (by rw [h2]; omega) (by omega)
    simpa [h1, Value.cells] using k

theorem flat5_len {α : Type} (f : α → Nat → Int) : ∀ l : List α, (l.flatMap fun x => rowC (f x)).length = l.length * 5
  | [] => rfl
  | x :: t => by
    have := flat5_len f t
    rw [List.flatMap_cons, List.length_append, this]
    simp only [List.length_cons, List.length_nil]
    omega
theorem flat5_at {α : Type} (f : α → Nat → Int) : ∀ (l : List α) (j i : Nat) (x : α), l[j]? = some x → i < 5 → (l.flatMap fun x => rowC (f x))[j * 5 + i]? = (rowC (f x))[i]?
  | [], j, i, x, h, _ => by simp at h
  | y :: t, 0, i, x, h, hi => by
    simp only [List.getElem?_cons_zero, Option.some.injEq] at h
    subst h
    rw [List.flatMap_cons, Nat.zero_mul, Nat.zero_add, List.getElem?_append_left (by simpa using hi)]
  | y :: t, j + 1, i, x, h, hi => by
    rw [List.flatMap_cons, show (j + 1) * 5 + i = 5 + (j * 5 + i) by omega, List.getElem?_append_right (by simp)]
    simp only [List.length_cons, List.length_nil]
    rw [show 5 + (j * 5 + i) - (0 + 1 + 1 + 1 + 1 + 1) = j * 5 + i by omega]
    exact flat5_at f t j i x (by simpa using h) hi
theorem DestAt.set5 {w : World} {B n t k : Nat} {g : Nat → List Value} (h : DestAt w B n 5 t k g) (hk : k < n) (v0 v1 v2 v3 v4 : Value) (hv : g k = [v0, v1, v2, v3, v4]) :
    DestAt (((((w.setCell ⟨B, k * 5, none⟩ v0).setCell ⟨B, k * 5 + 1, none⟩ v1).setCell ⟨B, k * 5 + 2, none⟩ v2).setCell ⟨B, k * 5 + 3, none⟩ v3).setCell ⟨B, k * 5 + 4, none⟩ v4) B n 5 t (k + 1) g := by
  obtain ⟨cs, hb, hs, hz⟩ := h
  refine ⟨((((cs.setIfInBounds (k * 5) v0).setIfInBounds (k * 5 + 1) v1).setIfInBounds (k * 5 + 2) v2).setIfInBounds (k * 5 + 3) v3).setIfInBounds (k * 5 + 4) v4,
    heap_setCell_same _ B _ _ _ _ (heap_setCell_same _ B _ _ _ _ (heap_setCell_same _ B _ _ _ _ (heap_setCell_same _ B _ _ _ _ (heap_setCell_same _ B _ _ _ _ hb)))), by simpa using hs, fun j hj i hi => ?_⟩
  by_cases hjk : j = k
  · subst hjk
    rw [hv]
    have e : i = 0 ∨ i = 1 ∨ i = 2 ∨ i = 3 ∨ i = 4 := by omega
    rcases e with rfl | rfl | rfl | rfl | rfl
    all_goals simp [Array.getElem?_setIfInBounds]; omega
  · have hlt : j * 5 + i < k * 5 := by omega
    rw [Array.getElem?_setIfInBounds_ne (by omega), Array.getElem?_setIfInBounds_ne (by omega), Array.getElem?_setIfInBounds_ne (by omega), Array.getElem?_setIfInBounds_ne (by omega), Array.getElem?_setIfInBounds_ne (by omega)]
    exact hz j (by omega) i hi

set_option maxRecDepth 100000 in
set_option maxHeartbeats 2000000 in
theorem eachNV (A : Option Addr) (c : Nat) (l : List NodeD) (g : FuncId) (w : World) (hl : l.length ≤ 1000) (hs : La.SlAt w A (cellsN l)) (hn : A = none → l = [])
    (hg : ∀ args w, (callFunc g args).run Tryz.prog w = .ok (.enter g args) w)
    (hK : ∀ (x : NodeD) (w : World), Calls Tryz.prog g #[valN x] w fun e w' => e = .returned (rowV x.cap) ∧ Below w.heap.size w w') :
    Calls Tryz.prog 102 #[.slice A l.length c, .func (Fn.func g) #[] #[]] w fun e w' => ∃ v, e = .returned v ∧ w'.ownsRow w.heap.size 33 5 v l.length (l.flatMap fun x => rowC x.cap) ∧ Below w.heap.size w w' := by
  cases A with
  | none =>
    obtain rfl := hn rfl
    have hnl := fun w => run_eqnil (P := Tryz.prog) (w := w) 22 83 none 0 c Tryz.underlying22
    clear hs hn hK
    go_enter Tryz.func102, Tryz.ntmps102
    go_wp2
    go_ret
    exact ⟨_, rfl, World.ownsRow_nil _ _ _ _, Below.refl _ _⟩
  | some a =>
    have HS := Lib.hid hs
    clear hs hn
    have hmk := run_vecs w l.length (by omega)
    have hnl := fun w => run_eqnil (P := Tryz.prog) (w := w) 22 83 (some a) l.length c Tryz.underlying22
    go_enter Tryz.func102, Tryz.ntmps102
    go_wp2_with fail
    clear hmk hnl
    go_loopw [15] (fun i wr => ∃ k : Nat, k ≤ l.length ∧ i = .int .i64 k ∧ DestAt wr w.heap.size l.length 5 33 k (fun j => rowC ((l.map (·.cap)).getD j (fun _ => 0))) ∧ Below w.heap.size w wr) (fun i _ => l.length - (intOf i).toNat)
    case atStart => exact ⟨0, by omega, rfl, ⟨_, heap_alloc_new _ _, by rw [size_madeCells], fun j hj => by omega⟩, below1 w _⟩
    case round =>
      obtain ⟨k, hk, rfl, hd, hb⟩ := hrel
      have HD := Lib.hid hd
      have HB := Lib.hid hb
      have hsz := hd.lt
      clear hd hb
      by_cases hlt : k < l.length
      · obtain ⟨x, hx⟩ : ∃ x, l[k]? = some x := ⟨l[k], List.getElem?_eq_getElem hlt⟩
        obtain ⟨b, o, hA, hbl, c0, c1, c2, c3, c4, c5, c6, c7, c8, c9⟩ := atN (HS.out.below HB.out) hx
        cases hA
        have k0 : (0 : Int) ≤ (k : Int) := by omega
        have k1 : (k : Int) < (l.length : Int) := by omega
        have hgd : (l.map (·.cap)).getD k (fun _ => 0) = x.cap := by simp [List.getD_eq_getElem?_getD, hx]
        have HG := Lib.hid hgd
        have KX := Lib.hid (hK x)
        clear hx hgd
        go_wp2_with fail
        refine (KX.out _).mono ?_
        rintro e w3 ⟨rfl, hb3⟩
        have D3 := Lib.hid ((HD.out.alloc (.cells (cellsN [x]).toArray 83)).below hb3 (Nat.lt_of_lt_of_le hsz (by simp)))
        have B3 := Lib.hid ((HB.out.alloc HB.out.size (.cells (cellsN [x]).toArray 83)).trans (hb3.mono (Nat.le_trans (Nat.le_of_lt hsz) (by simp))))
        clear hb3 KX c0 c1 c2 c3 c4 c5 c6 c7 c8 c9
        obtain ⟨v0, h0⟩ := D3.out.has (i := k * 5) (by omega)
        obtain ⟨v1, h1⟩ := D3.out.has (i := k * 5 + 1) (by omega)
        obtain ⟨v2, h2⟩ := D3.out.has (i := k * 5 + 2) (by omega)
        obtain ⟨v3, h3⟩ := D3.out.has (i := k * 5 + 3) (by omega)
        obtain ⟨v4, h4⟩ := D3.out.has (i := k * 5 + 4) (by omega)
        have f0 := D3.out.free (k * 5)
        have f1 := D3.out.free (k * 5 + 1)
        have f2 := D3.out.free (k * 5 + 2)
        have f3 := D3.out.free (k * 5 + 3)
        have f4 := D3.out.free (k * 5 + 4)
        go_wp2
        go_roundw
        case rel => exact ⟨k + 1, by omega, by go_num, DestAt.set5 D3.out hlt _ _ _ _ _ (by show rowC ((l.map (·.cap)).getD k (fun _ => 0)) = _; rw [HG.out]), ((((B3.out.setCell (p := ⟨w.heap.size, k * 5, none⟩) (Nat.le_refl _) _).setCell (p := ⟨w.heap.size, k * 5 + 1, none⟩) (Nat.le_refl _) _).setCell (p := ⟨w.heap.size, k * 5 + 2, none⟩) (Nat.le_refl _) _).setCell (p := ⟨w.heap.size, k * 5 + 3, none⟩) (Nat.le_refl _) _).setCell (p := ⟨w.heap.size, k * 5 + 4, none⟩) (Nat.le_refl _) _⟩
        case measure => simp [intOf]; omega
      · obtain rfl : k = l.length := by omega
        go_wp2
        go_ret
        refine ⟨_, rfl, HD.out.own (Nat.le_refl _) (by unfold maxLen; omega) _ (flat5_len (·.cap) l) (fun j hj i hi => ?_) (by omega), HB.out⟩
        rw [flat5_at (·.cap) l j i _ (List.getElem?_eq_getElem hj) hi]
        simp [List.getD_eq_getElem?_getD, List.getElem?_eq_getElem hj]
set_option maxRecDepth 100000 in
set_option maxHeartbeats 2000000 in
theorem eachPV (A : Option Addr) (c : Nat) (l : List PodD) (g : FuncId) (w : World) (hl : l.length ≤ 1000) (hs : La.SlAt w A (cellsP l)) (hn : A = none → l = [])
    (hg : ∀ args w, (callFunc g args).run Tryz.prog w = .ok (.enter g args) w)
    (hK : ∀ (x : PodD) (w : World), Calls Tryz.prog g #[valP x] w fun e w' => e = .returned (rowV x.req) ∧ Below w.heap.size w w') :
    Calls Tryz.prog 104 #[.slice A l.length c, .func (Fn.func g) #[] #[]] w fun e w' => ∃ v, e = .returned v ∧ w'.ownsRow w.heap.size 33 5 v l.length (l.flatMap fun x => rowC x.req) ∧ Below w.heap.size w w' := by
  cases A with
  | none =>
    obtain rfl := hn rfl
    have hnl := fun w => run_eqnil (P := Tryz.prog) (w := w) 23 62 none 0 c Tryz.underlying23
    clear hs hn hK
    go_enter Tryz.func104, Tryz.ntmps104
    go_wp2
    go_ret
    exact ⟨_, rfl, World.ownsRow_nil _ _ _ _, Below.refl _ _⟩
  | some a =>
    have HS := Lib.hid hs
    clear hs hn
    have hmk := run_vecs w l.length (by omega)
    have hnl := fun w => run_eqnil (P := Tryz.prog) (w := w) 23 62 (some a) l.length c Tryz.underlying23
    go_enter Tryz.func104, Tryz.ntmps104
    go_wp2_with fail
    clear hmk hnl
    go_loopw [15] (fun i wr => ∃ k : Nat, k ≤ l.length ∧ i = .int .i64 k ∧ DestAt wr w.heap.size l.length 5 33 k (fun j => rowC ((l.map (·.req)).getD j (fun _ => 0))) ∧ Below w.heap.size w wr) (fun i _ => l.length - (intOf i).toNat)
    case atStart => exact ⟨0, by omega, rfl, ⟨_, heap_alloc_new _ _, by rw [size_madeCells], fun j hj => by omega⟩, below1 w _⟩
    case round =>
      obtain ⟨k, hk, rfl, hd, hb⟩ := hrel
      have HD := Lib.hid hd
      have HB := Lib.hid hb
      have hsz := hd.lt
      clear hd hb
      by_cases hlt : k < l.length
      · obtain ⟨x, hx⟩ : ∃ x, l[k]? = some x := ⟨l[k], List.getElem?_eq_getElem hlt⟩
        obtain ⟨b, o, hA, hbl, c0, c1, c2, c3, c4, c5, c6, c7, c8, c9, c10, c11, c12, c13, c14⟩ := atP (HS.out.below HB.out) hx
        cases hA
        have k0 : (0 : Int) ≤ (k : Int) := by omega
        have k1 : (k : Int) < (l.length : Int) := by omega
        have hgd : (l.map (·.req)).getD k (fun _ => 0) = x.req := by simp [List.getD_eq_getElem?_getD, hx]
        have HG := Lib.hid hgd
        have KX := Lib.hid (hK x)
        clear hx hgd
        go_wp2_with fail
        refine (KX.out _).mono ?_
        rintro e w3 ⟨rfl, hb3⟩
        have D3 := Lib.hid ((HD.out.alloc (.cells (cellsP [x]).toArray 62)).below hb3 (Nat.lt_of_lt_of_le hsz (by simp)))
        have B3 := Lib.hid ((HB.out.alloc HB.out.size (.cells (cellsP [x]).toArray 62)).trans (hb3.mono (Nat.le_trans (Nat.le_of_lt hsz) (by simp))))
        clear hb3 KX c0 c1 c2 c3 c4 c5 c6 c7 c8 c9 c10 c11 c12 c13 c14
        obtain ⟨v0, h0⟩ := D3.out.has (i := k * 5) (by omega)
        obtain ⟨v1, h1⟩ := D3.out.has (i := k * 5 + 1) (by omega)
        obtain ⟨v2, h2⟩ := D3.out.has (i := k * 5 + 2) (by omega)
        obtain ⟨v3, h3⟩ := D3.out.has (i := k * 5 + 3) (by omega)
        obtain ⟨v4, h4⟩ := D3.out.has (i := k * 5 + 4) (by omega)
        have f0 := D3.out.free (k * 5)
        have f1 := D3.out.free (k * 5 + 1)
        have f2 := D3.out.free (k * 5 + 2)
        have f3 := D3.out.free (k * 5 + 3)
        have f4 := D3.out.free (k * 5 + 4)
        go_wp2
        go_roundw
        case rel => exact ⟨k + 1, by omega, by go_num, DestAt.set5 D3.out hlt _ _ _ _ _ (by show rowC ((l.map (·.req)).getD k (fun _ => 0)) = _; rw [HG.out]), ((((B3.out.setCell (p := ⟨w.heap.size, k * 5, none⟩) (Nat.le_refl _) _).setCell (p := ⟨w.heap.size, k * 5 + 1, none⟩) (Nat.le_refl _) _).setCell (p := ⟨w.heap.size, k * 5 + 2, none⟩) (Nat.le_refl _) _).setCell (p := ⟨w.heap.size, k * 5 + 3, none⟩) (Nat.le_refl _) _).setCell (p := ⟨w.heap.size, k * 5 + 4, none⟩) (Nat.le_refl _) _⟩
        case measure => simp [intOf]; omega
      · obtain rfl : k = l.length := by omega
        go_wp2
        go_ret
        refine ⟨_, rfl, HD.out.own (Nat.le_refl _) (by unfold maxLen; omega) _ (flat5_len (·.req) l) (fun j hj i hi => ?_) (by omega), HB.out⟩
        rw [flat5_at (·.req) l j i _ (List.getElem?_eq_getElem hj) hi]
        simp [List.getD_eq_getElem?_getD, List.getElem?_eq_getElem hj]
end Go.Proofs.YtoankplhahbgkaaGreat

namespace Go.Proofs.YtoankplhahbgkaaGreat
open Go.RowKit

def sumB (l : List (Nat → Int)) : Bool := decide (Qu.firstE (Qu.plusF l) 5 = 0)
set_option maxRecDepth 100000 in
set_option maxHeartbeats 1000000 in
theorem sum_any (A : Option Addr) (c : Nat) (l : List (Nat → Int)) (w : World) (hl : l.length ≤ 1000) (hr : Qu.RowsOf w A l) :
    Calls Tryz.prog 101 #[.slice A l.length c] w fun e w' => e = .returned (.bool (sumB l)) ∧ Below w.heap.size w w' := by
  have KP := Lib.hid (Qu.plus_anyM A c l w hl hr)
  have E : Hid (sumB l = decide (Qu.firstE (Qu.plusF l) 5 = 0)) := Lib.hid rfl
  generalize sumB l = R at E ⊢
  generalize Qu.firstE (Qu.plusF l) 5 = e0 at KP E
  clear hr
  go_enter Tryz.func101, Tryz.ntmps101
  go_wp2_with fail
  refine KP.out.mono ?_
  rintro e w3 ⟨rfl, hb⟩
  have HB := Lib.hid hb
  clear hb KP
  go_wp2
  go_ret
  exact ⟨La.retB (by rw [E.out]; first | rfl | (rw [Bool.eq_iff_iff]; simp)), by first | exact HB.out | exact HB.out.alloc HB.out.size _⟩
/-- What each made of rows, as Plus reads it. -/
theorem rowsOf {α : Type} {w : World} {base : Nat} {A : Option Addr} {c : Nat} (f : α → Nat → Int) (l : List α) (h : w.ownsRow base 33 5 (.slice A l.length c) l.length (l.flatMap fun x => rowC (f x))) : Qu.RowsOf w A (l.map f) := by
  intro i x hx
  rw [List.getElem?_map] at hx
  obtain ⟨y, hy, rfl⟩ := Option.map_eq_some_iff.1 hx
  have hs := La.own_slat h
  have hat := fun k (hk : k < 5) => flat5_at f l i k y hy hk
  obtain ⟨b, o, rfl, hc⟩ := hs (i * 5 + 0) (.int .i64 (f y 0)) (by rw [hat 0 (by omega)]; rfl)
  refine ⟨b, o, rfl, World.block_lt_of_cell? w _ hc, fun k hk => ?_⟩
  obtain ⟨b', o', hA, hc'⟩ := hs (i * 5 + k) (.int .i64 (f y k)) (by
    rw [hat k hk]
    have e : k = 0 ∨ k = 1 ∨ k = 2 ∨ k = 3 ∨ k = 4 := by omega
    rcases e with rfl | rfl | rfl | rfl | rfl <;> rfl)
  cases hA
  rw [Nat.add_assoc]
  exact hc'
end Go.Proofs.YtoankplhahbgkaaGreat

namespace Go.Proofs.YtoankplhahbgkaaGreat
open Go.RowKit

/-- What Check tells. -/
def checkS (ns : List NodeD) (ps : List PodD) (os : List OwnD) : Int := if clusB ns ps os then (if sumB (ns.map (·.cap)) && sumB (ps.map (·.req)) then 0 else 10) else 50
set_option maxRecDepth 100000 in
set_option maxHeartbeats 4000000 in
theorem check_any (A B C : Option Addr) (ca cb cc : Nat) (ns : List NodeD) (ps : List PodD) (os : List OwnD) (w : World) (h : SnapAt w A B C ca cb cc ns ps os) :
    Calls Tryz.prog 67 #[snapV A B C ca cb cc ns ps os] w fun e w' => e = .returned (.int .i64 (checkS ns ps os)) ∧ Below w.heap.size w w' := by
  have H := Lib.hid h
  have B0 : Hid (Below w.heap.size w (w.alloc (.cells (snapC A B C ca cb cc ns ps os) 26))) := Lib.hid (below1 w _)
  have S0 : Hid (Blk (w.alloc (.cells (snapC A B C ca cb cc ns ps os) 26)) w.heap.size (snapC A B C ca cb cc ns ps os) 26) := Lib.hid (Blk.new w _ _)
  have hg1 : ∀ (args : Array Value) (w : World), (callFunc 103 args).run Tryz.prog w = .ok (.enter 103 args) w := fun _ _ => by kernel_rfl
  have hg2 : ∀ (args : Array Value) (w : World), (callFunc 105 args).run Tryz.prog w = .ok (.enter 105 args) w := fun _ _ => by kernel_rfl
  have KM := Lib.hid (may_any A B C ca cb cc ns ps os (w.alloc (.cells (snapC A B C ca cb cc ns ps os) 26)) (H.out.below B0.out))
  have E1 := Lib.hid (fun w' (hb : Below w.heap.size w w') => eachNV A ca ns 103 w' H.out.ln (H.out.below hb).n.cells (fun e => noneN (w := w) (e ▸ H.out.n.cells)) hg1 capOf_any)
  have E2 := Lib.hid (fun w' (hb : Below w.heap.size w w') => eachPV B cb ps 105 w' H.out.lp (H.out.below hb).p.cells (fun e => noneP (w := w) (e ▸ H.out.p.cells)) hg2 reqOf_any)
  have F1 := Lib.hid (fun (w' : World) (base : Nat) (A : Option Addr) (c : Nat) (ho : w'.ownsRow base 33 5 (.slice A ns.length c) ns.length (ns.flatMap fun x => rowC x.cap)) => by
    have k := sum_any A c (ns.map (·.cap)) w' (by simpa using H.out.ln) (rowsOf (·.cap) ns ho)
    rwa [List.length_map] at k)
  have F2 := Lib.hid (fun (w' : World) (base : Nat) (A : Option Addr) (c : Nat) (ho : w'.ownsRow base 33 5 (.slice A ps.length c) ps.length (ps.flatMap fun x => rowC x.req)) => by
    have k := sum_any A c (ps.map (·.req)) w' (by simpa using H.out.lp) (rowsOf (·.req) ps ho)
    rwa [List.length_map] at k)
  have E : Hid (checkS ns ps os = if clusB ns ps os then (if sumB (ns.map (·.cap)) && sumB (ps.map (·.req)) then 0 else 10) else 50) := Lib.hid rfl
  generalize checkS ns ps os = R at E ⊢
  generalize clusB ns ps os = v0 at KM E
  generalize sumB (ns.map (·.cap)) = v1 at F1 E
  generalize sumB (ps.map (·.req)) = v2 at F2 E
  clear h H hg1 hg2
  have hlt0 : w.heap.size < (w.alloc (.cells (snapC A B C ca cb cc ns ps os) 26)).heap.size := Blk.lt S0.out
  go_enter Tryz.func67, Tryz.ntmps67
  go_wp2_with fail
  refine (KM.out).mono ?_
  rintro e w1 ⟨rfl, hb⟩
  clear KM
  have S1 := Lib.hid (S0.out.below hb hlt0)
  have B1 := Lib.hid (B0.out.trans (hb.mono (Nat.le_of_lt hlt0)))
  clear hb
  have hl1 := Blk.lt S1.out
  have s0 : w1.cell? ⟨w.heap.size, 0, none⟩ = some (.slice A ns.length ca) := Blk.cell S1.out 0
  have s1 : w1.cell? ⟨w.heap.size, 1, none⟩ = some (.slice B ps.length cb) := Blk.cell S1.out 1
  have s2 : w1.cell? ⟨w.heap.size, 2, none⟩ = some (.slice C os.length cc) := Blk.cell S1.out 2
  cases v0
  · have HE : Hid (R = 50) := Lib.hid (by rw [E.out]; simp)
    go_wp2
    go_ret
    exact ⟨La.retI HE.out.symm, B1.out⟩
  go_wp2_with fail
  refine (E1.out _ B1.out).mono ?_
  rintro e w2 ⟨u1, rfl, ho, hb⟩
  obtain ⟨A1, c1, rfl, hm⟩ := La.own_slice ho
  have KF := Lib.hid (F1.out _ _ _ _ ho)
  clear ho hm E1 F1 s0 s1 s2
  have S2 := Lib.hid (S1.out.below hb hl1)
  have B2 := Lib.hid (B1.out.trans (hb.mono (Nat.le_of_lt hl1)))
  clear hb
  have hl2 := Blk.lt S2.out
  have s0 : w2.cell? ⟨w.heap.size, 0, none⟩ = some (.slice A ns.length ca) := Blk.cell S2.out 0
  have s1 : w2.cell? ⟨w.heap.size, 1, none⟩ = some (.slice B ps.length cb) := Blk.cell S2.out 1
  have s2 : w2.cell? ⟨w.heap.size, 2, none⟩ = some (.slice C os.length cc) := Blk.cell S2.out 2
  go_wp2_with fail
  refine (KF.out).mono ?_
  rintro e w3 ⟨rfl, hb⟩
  clear KF s0 s1 s2
  have S3 := Lib.hid (S2.out.below hb hl2)
  have B3 := Lib.hid (B2.out.trans (hb.mono (Nat.le_of_lt hl2)))
  clear hb
  have hl3 := Blk.lt S3.out
  have s0 : w3.cell? ⟨w.heap.size, 0, none⟩ = some (.slice A ns.length ca) := Blk.cell S3.out 0
  have s1 : w3.cell? ⟨w.heap.size, 1, none⟩ = some (.slice B ps.length cb) := Blk.cell S3.out 1
  have s2 : w3.cell? ⟨w.heap.size, 2, none⟩ = some (.slice C os.length cc) := Blk.cell S3.out 2
  cases v1
  · have HE : Hid (R = 10) := Lib.hid (by rw [E.out]; simp)
    go_wp2
    go_ret
    exact ⟨La.retI HE.out.symm, B3.out⟩
  go_wp2_with fail
  refine (E2.out _ B3.out).mono ?_
  rintro e w4 ⟨u2, rfl, ho, hb⟩
  obtain ⟨A2, c2, rfl, hm⟩ := La.own_slice ho
  have KF := Lib.hid (F2.out _ _ _ _ ho)
  clear ho hm E2 F2 s0 s1 s2
  have S4 := Lib.hid (S3.out.below hb hl3)
  have B4 := Lib.hid (B3.out.trans (hb.mono (Nat.le_of_lt hl3)))
  clear hb
  have hl4 := Blk.lt S4.out
  have s0 : w4.cell? ⟨w.heap.size, 0, none⟩ = some (.slice A ns.length ca) := Blk.cell S4.out 0
  have s1 : w4.cell? ⟨w.heap.size, 1, none⟩ = some (.slice B ps.length cb) := Blk.cell S4.out 1
  have s2 : w4.cell? ⟨w.heap.size, 2, none⟩ = some (.slice C os.length cc) := Blk.cell S4.out 2
  go_wp2_with fail
  refine (KF.out).mono ?_
  rintro e w5 ⟨rfl, hb⟩
  clear KF s0 s1 s2
  have S5 := Lib.hid (S4.out.below hb hl4)
  have B5 := Lib.hid (B4.out.trans (hb.mono (Nat.le_of_lt hl4)))
  clear hb
  have hl5 := Blk.lt S5.out
  cases v2
  · have HE : Hid (R = 10) := Lib.hid (by rw [E.out]; simp)
    go_wp2
    go_ret
    exact ⟨La.retI HE.out.symm, B5.out⟩
  have HE : Hid (R = 0) := Lib.hid (by rw [E.out]; simp)
  go_wp2
  go_ret
  exact ⟨La.retI HE.out.symm, B5.out⟩
end Go.Proofs.YtoankplhahbgkaaGreat

namespace Go.Proofs.YtoankplhahbgkaaGreat
open Go.RowKit

abbrev intsC (l : List Int) : List Value := l.map (Value.int .i64)
theorem atI {w : World} {A : Option Addr} {l : List Int} (h : La.SlAt w A (intsC l)) {k : Nat} {x : Int} (hk : l[k]? = some x) :
    ∃ b o, A = some ⟨b, o, none⟩ ∧ b < w.heap.size ∧ w.cell? ⟨b, o + k, none⟩ = some (.int .i64 x) := by
  obtain ⟨b, o, hA, h0⟩ := h k (.int .i64 x) (by simp [intsC, hk])
  exact ⟨b, o, hA, World.block_lt_of_cell? w _ h0, h0⟩
/-- A list of numbers as a value. -/
structure IntsAt (w : World) (A : Option Addr) (c : Nat) (l : List Int) : Prop where
  cells : La.SlAt w A (intsC l)
  le : l.length ≤ c
  most : c ≤ 9223372036854775807
theorem IntsAt.below {w w' : World} {A : Option Addr} {c : Nat} {l : List Int} (h : IntsAt w A c l) (hb : Below w.heap.size w w') : IntsAt w' A c l := ⟨h.cells.below hb, h.le, h.most⟩
theorem IntsAt.own {w : World} {base : Nat} {A : Option Addr} {c : Nat} {l : List Int} (h : w.ownsRow base 3 1 (.slice A l.length c) l.length (intsC l)) : IntsAt w A c l := by
  have hc := capOwn h
  have hm : maxLen ≤ 9223372036854775807 := by unfold maxLen; omega
  exact ⟨La.own_slat h, hc.1, Nat.le_trans hc.2 hm⟩
theorem IntsAt.nil (w : World) : IntsAt w none 0 [] := ⟨fun j y h => by simp at h, Nat.le_refl _, by omega⟩

set_option maxHeartbeats 400000 in
theorem isPlace_any (i c : Int) (w : World) :
    Calls Tryz.prog 70 #[.int .i64 i, .int .i64 c] w fun e w' => e = .returned (.bool (decide (0 ≤ i ∧ i < c))) ∧ w' = w := by
  by_cases h0 : 0 ≤ i
  · go_enter Tryz.func70, Tryz.ntmps70
    go_wp2
    go_ret
    exact ⟨La.retB (by simp [h0]), rfl⟩
  · go_enter Tryz.func70, Tryz.ntmps70
    go_wp2
    go_ret
    exact ⟨La.retB (by symm; simp; omega), rfl⟩

set_option maxHeartbeats 1000000 in
theorem ptakes_any (A B C : Option Addr) (ca cb cc lb lc : Nat) (l : List NodeD) (k : Int) (w : World) (hs : La.SlAt w A (cellsN l)) :
    Calls Tryz.prog 68 #[.agg #[.slice A l.length ca, .slice B lb cb, .slice C lc cc], .int .i64 k] w fun e w' => e = .returned (.bool (tpB l k)) ∧ Below w.heap.size w w' := by
  have B0 := Lib.hid (below1 w (.cells #[.slice A l.length ca, .slice B lb cb, .slice C lc cc] 26))
  by_cases h0 : 0 ≤ k ∧ k < (l.length : Int)
  · have KP : Hid (∀ w', Calls Tryz.prog 70 #[.int .i64 k, .int .i64 (l.length : Int)] w' fun e w'' => e = .returned (.bool true) ∧ w'' = w') := Lib.hid (fun w' => by
      have := isPlace_any k l.length w'
      rwa [decide_eq_true h0] at this)
    obtain ⟨n, rfl⟩ : ∃ n : Nat, k = (n : Int) := ⟨k.toNat, by omega⟩
    have hn : n < l.length := by omega
    obtain ⟨x, hx⟩ : ∃ x, l[n]? = some x := ⟨l[n], List.getElem?_eq_getElem hn⟩
    obtain ⟨b, o, hA, hbl, c0, c1, c2, c3, c4, c5, c6, c7, c8, c9⟩ := atN (hs.below B0.out) hx
    subst hA
    have E : Hid (tpB l (n : Int) = !x.lost) := Lib.hid (by unfold tpB; rw [Int.toNat_natCast, hx]; simp)
    have n0 : (0 : Int) ≤ (n : Int) := by omega
    have n1 : (n : Int) < (l.length : Int) := by omega
    have hnot : ∀ (x : Bool) (w : World), (Op.unary .not (.bool x)).run Tryz.prog w = .ok (.bool (!x)) w := fun _ _ => rfl
    clear hs hx h0 c0 c1 c2 c3 c4 c5 c6 c7 c8
    go_enter Tryz.func68, Tryz.ntmps68
    go_wp2_with fail
    refine (KP.out _).mono ?_
    rintro e w1 ⟨rfl, rfl⟩
    go_wp2
    all_goals
      go_ret
      first
        | exact ⟨La.retB E.out.symm, B0.out⟩
        | exact ⟨La.retB (by rw [E.out]; simp_all), B0.out⟩
  · have KP : Hid (∀ w', Calls Tryz.prog 70 #[.int .i64 k, .int .i64 (l.length : Int)] w' fun e w'' => e = .returned (.bool false) ∧ w'' = w') := Lib.hid (fun w' => by
      have := isPlace_any k l.length w'
      rwa [decide_eq_false h0] at this)
    have E : Hid (tpB l k = false) := Lib.hid (by
      unfold tpB
      by_cases hk : 0 ≤ k
      · rw [List.getElem?_eq_none (by omega)]
        simp
      · rw [decide_eq_false hk]
        rfl)
    clear hs h0
    go_enter Tryz.func68, Tryz.ntmps68
    go_wp2_with fail
    refine (KP.out _).mono ?_
    rintro e w1 ⟨rfl, rfl⟩
    go_wp2
    go_ret
    exact ⟨La.retB E.out.symm, B0.out⟩
end Go.Proofs.YtoankplhahbgkaaGreat

namespace Go.Proofs.YtoankplhahbgkaaGreat
open Go.RowKit

/-- A number that a placement may have. -/
def okB (ns : List NodeD) (k : Int) : Bool := decide (k = -1) || tpB ns k
/-- What Check tells. -/
def placeE (ns : List NodeD) (ps : List PodD) (os : List OwnD) (p : List Int) : Int := if checkS ns ps os = 0 then (if p.length = ps.length then (if p.all (okB ns) then 0 else 2) else 2) else checkS ns ps os

set_option maxRecDepth 100000 in
set_option maxHeartbeats 4000000 in
theorem pcheck_any (A B C P : Option Addr) (ca cb cc cp : Nat) (ns : List NodeD) (ps : List PodD) (os : List OwnD) (p : List Int) (w : World) (h : SnapAt w A B C ca cb cc ns ps os) (hp : IntsAt w P cp p) :
    Calls Tryz.prog 18 #[snapV A B C ca cb cc ns ps os, .slice P p.length cp] w fun e w' => e = .returned (.int .i64 (placeE ns ps os p)) ∧ Below w.heap.size w w' := by
  have H := Lib.hid h
  have HP := Lib.hid hp
  have B0 : Hid (Below w.heap.size w (w.alloc (.cells (snapC A B C ca cb cc ns ps os) 26))) := Lib.hid (below1 w _)
  have S0 : Hid (Blk (w.alloc (.cells (snapC A B C ca cb cc ns ps os) 26)) w.heap.size (snapC A B C ca cb cc ns ps os) 26) := Lib.hid (Blk.new w _ _)
  have hlp := H.out.lp
  have KC := Lib.hid (check_any A B C ca cb cc ns ps os (w.alloc (.cells (snapC A B C ca cb cc ns ps os) 26)) (H.out.below B0.out))
  have E : Hid (placeE ns ps os p = if checkS ns ps os = 0 then (if p.length = ps.length then (if p.all (okB ns) then 0 else 2) else 2) else checkS ns ps os) := Lib.hid rfl
  have KT := Lib.hid (fun k w' (hb : Below w.heap.size w w') => ptakes_any A B C ca cb cc ps.length os.length ns k w' (H.out.below hb).n.cells)
  generalize placeE ns ps os p = R at E ⊢
  generalize checkS ns ps os = v0 at KC E
  clear h H hp
  have hlt0 : w.heap.size < (w.alloc (.cells (snapC A B C ca cb cc ns ps os) 26)).heap.size := Blk.lt S0.out
  go_enter Tryz.func18, Tryz.ntmps18
  go_wp2_with fail
  refine (KC.out).mono ?_
  rintro e w1 ⟨rfl, hb⟩
  clear KC
  have S1 := Lib.hid (S0.out.below hb hlt0)
  have B1 := Lib.hid (B0.out.trans (hb.mono (Nat.le_of_lt hlt0)))
  clear hb
  have hl1 := Blk.lt S1.out
  have s0 : w1.cell? ⟨w.heap.size, 0, none⟩ = some (.slice A ns.length ca) := Blk.cell S1.out 0
  have s1 : w1.cell? ⟨w.heap.size, 1, none⟩ = some (.slice B ps.length cb) := Blk.cell S1.out 1
  have s2 : w1.cell? ⟨w.heap.size, 2, none⟩ = some (.slice C os.length cc) := Blk.cell S1.out 2
  by_cases hv : v0 = 0
  case neg =>
    have HE : Hid (R = v0) := Lib.hid (by rw [E.out, if_neg hv])
    have hvb : (v0 == 0) = false := by simpa using hv
    go_wp2
    go_ret
    exact ⟨La.retI HE.out.symm, B1.out⟩
  subst hv
  by_cases hn : p.length = ps.length
  case neg =>
    have HE : Hid (R = 2) := Lib.hid (by rw [E.out, if_pos rfl, if_neg hn])
    have hnb : ((p.length : Int) == (ps.length : Int)) = false := by simp; omega
    have hni : ¬ ((p.length : Int) = (ps.length : Int)) := by omega
    go_wp2
    go_ret
    exact ⟨La.retI HE.out.symm, B1.out⟩
  have E2 : Hid (R = if p.all (okB ns) then 0 else 2) := Lib.hid (by rw [E.out, if_pos rfl, if_pos hn])
  have hnb : ((p.length : Int) == (ps.length : Int)) = true := by simp; omega
  have hni : (p.length : Int) = (ps.length : Int) := by omega
  clear E
  go_wp2_with fail
  go_loopw [21] (fun i wr => ∃ k : Nat, k ≤ ps.length ∧ i = .int .i64 k ∧ (∀ j x, j < k → p[j]? = some x → okB ns x = true) ∧ Below w.heap.size w wr ∧ Blk wr w.heap.size (snapC A B C ca cb cc ns ps os) 26) (fun i _ => ps.length - (intOf i).toNat)
  case atStart => exact ⟨0, by omega, rfl, fun j x h => by omega, B1.out, S1.out⟩
  case round =>
    clear s0 s1 s2 B1 S1 hl1
    obtain ⟨k, hk, rfl, hnk, hb, hsk⟩ := hrel
    have HN := Lib.hid hnk
    have HB := Lib.hid hb
    have HS := Lib.hid hsk
    clear hnk hb hsk
    have s0 : wr.cell? ⟨w.heap.size, 0, none⟩ = some (.slice A ns.length ca) := Blk.cell HS.out 0
    have s1 : wr.cell? ⟨w.heap.size, 1, none⟩ = some (.slice B ps.length cb) := Blk.cell HS.out 1
    have s2 : wr.cell? ⟨w.heap.size, 2, none⟩ = some (.slice C os.length cc) := Blk.cell HS.out 2
    by_cases hlt : k < ps.length
    · obtain ⟨x, hx⟩ : ∃ x, p[k]? = some x := ⟨p[k]'(by omega), List.getElem?_eq_getElem (by omega)⟩
      obtain ⟨b, o, hA, hbl, c0⟩ := atI (HP.out.below HB.out).cells hx
      subst hA
      have HX := Lib.hid hx
      have k0 : (0 : Int) ≤ (k : Int) := by omega
      have k1 : (k : Int) < (ps.length : Int) := by omega
      clear hx
      by_cases hm : x = -1
      · subst hm
        go_wp2_with fail
        go_roundw
        case rel =>
          refine ⟨k + 1, by omega, by go_num, fun j y hj hy => ?_, HB.out, HS.out⟩
          by_cases hjk : j = k
          · subst hjk
            rw [HX.out] at hy
            cases hy
            rfl
          · exact HN.out j y (by omega) hy
        case measure => simp [intOf]; omega
      · have hmb : (x != -1) = true := by simpa using hm
        have KI := Lib.hid (KT.out x wr HB.out)
        obtain ⟨r, hr⟩ : ∃ r, tpB ns x = r := ⟨_, rfl⟩
        have Hr := Lib.hid hr
        rw [hr] at KI
        clear hr
        have Hm := Lib.hid hm
        clear hm
        go_wp2_with fail
        refine (KI.out).mono ?_
        rintro e w3 ⟨rfl, hb3⟩
        have hlw : w.heap.size < wr.heap.size := Blk.lt HS.out
        have B3 := Lib.hid (HB.out.trans (hb3.mono HB.out.size))
        have S3 := Lib.hid (HS.out.below hb3 hlw)
        clear hb3 KI c0 s0 s1 s2
        cases r
        · have HE : Hid (2 = R) := Lib.hid (by
            rw [E2.out, if_neg]
            rw [List.all_eq_true]
            intro hall
            have := hall x (List.mem_of_getElem? HX.out)
            unfold okB at this
            rw [Hr.out, decide_eq_false Hm.out] at this
            cases this)
          go_wp2
          go_ret
          exact ⟨La.retI HE.out, B3.out⟩
        · go_wp2
          go_roundw
          case rel =>
            refine ⟨k + 1, by omega, by go_num, fun j y hj hy => ?_, B3.out, S3.out⟩
            by_cases hjk : j = k
            · subst hjk
              rw [HX.out] at hy
              cases hy
              unfold okB
              rw [Hr.out, Bool.or_true]
            · exact HN.out j y (by omega) hy
          case measure => simp [intOf]; omega
    · obtain rfl : k = ps.length := by omega
      have HE : Hid (0 = R) := Lib.hid (by
        rw [E2.out, if_pos]
        rw [List.all_eq_true]
        intro y hy
        obtain ⟨j, hj⟩ := List.mem_iff_getElem?.1 hy
        refine HN.out j y ?_ hj
        have := (List.getElem?_eq_some_iff.1 hj).1
        omega)
      go_wp2
      go_ret
      exact ⟨La.retI HE.out, HB.out⟩
end Go.Proofs.YtoankplhahbgkaaGreat

namespace Go.Proofs.YtoankplhahbgkaaGreat
open Go.RowKit

theorem own_base {w : World} {base base' : Nat} {e : TypeId} {size : Nat} {v : Value} {k : Nat} {xs : List Value} (h : w.ownsRow base e size v k xs) (hb : base' ≤ base) : w.ownsRow base' e size v k xs := by
  obtain ⟨hl, h1 | ⟨g, cap, cur, hv, h0, hr⟩⟩ := h
  · exact ⟨hl, .inl h1⟩
  · exact ⟨hl, .inr ⟨g, cap, cur, hv, Nat.le_trans hb h0, hr⟩⟩
theorem own_put {w : World} {base : Nat} {e : TypeId} {g n cap : Nat} {xs : List Value} (h : w.ownsRow base e 1 (.slice (some ⟨g, 0, none⟩) n cap) n xs) (k : Nat) (v : Value) :
    (w.setCell ⟨g, k, none⟩ v).ownsRow base e 1 (.slice (some ⟨g, 0, none⟩) n cap) n (xs.set k v) := by
  obtain ⟨hl, h1 | ⟨g', cap', cur, hv, hb, hg, h1, h2, h3, h4⟩⟩ := h
  · cases h1.1
  · cases hv
    refine ⟨by simpa using hl, .inr ⟨g, cap, cur.setIfInBounds k v, rfl, hb, heap_setCell_same _ g _ _ _ _ hg, h1, h2, by simpa using h3, ?_⟩⟩
    rw [Array.toList_setIfInBounds, List.take_set, h4]
theorem own_free {w : World} {base : Nat} {e : TypeId} {g n cap : Nat} {xs : List Value} (h : w.ownsRow base e 1 (.slice (some ⟨g, 0, none⟩) n cap) n xs) (k : Nat) :
    w.frozen? ⟨g, k, none⟩ = false := by
  obtain ⟨hl, h1 | ⟨g', cap', cur, hv, hb, hg, h1, h2, h3, h4⟩⟩ := h
  · cases h1.1
  · cases hv
    exact Blk.free hg k
theorem ints_set (l : List Int) (k : Nat) (x : Int) : (intsC l).set k (.int .i64 x) = intsC (l.set k x) := by simp [intsC, List.map_set]

set_option maxHeartbeats 1000000 in
theorem with_any (P : Option Addr) (cp : Nat) (p : List Int) (k : Nat) (node : Int) (w : World) (hp : IntsAt w P cp p) (hk : k < p.length) (hfew : p.length ≤ 1000) :
    Calls Tryz.prog 115 #[.slice P p.length cp, .int .i64 (k : Int), .int .i64 node] w fun e w' => ∃ v, e = .returned v ∧ w'.ownsRow w.heap.size 3 1 v (p.set k node).length (intsC (p.set k node)) ∧ Below w.heap.size w w' := by
  obtain ⟨x, hx⟩ : ∃ x, p[k]? = some x := ⟨p[k], List.getElem?_eq_getElem hk⟩
  obtain ⟨b, o, hA, hbl, _⟩ := atI hp.cells hx
  subst hA
  have KC := Lib.hid (Tryz.slices_Clone_int b o p.length cp p w (Nat.le_refl _) (by omega) (fun j hj => by
    obtain ⟨b', o', hA', _, hc⟩ := atI hp.cells (k := j) (x := p[j]) (List.getElem?_eq_getElem hj)
    cases hA'
    rw [hc]
    congr 2
    rw [List.getD_eq_getElem?_getD, List.getElem?_eq_getElem hj]
    rfl))
  have k0 : (0 : Int) ≤ (k : Int) := by omega
  have k1 : (k : Int) < (p.length : Int) := by omega
  have HX := Lib.hid hx
  clear hp hx
  go_enter Tryz.func115, Tryz.ntmps115
  go_wp2_with fail
  refine (KC.out).mono ?_
  rintro e w1 ⟨v, rfl, ho, hn, hb⟩
  rw [List.take_length] at ho
  obtain ⟨A1, c1, rfl, hm⟩ := La.own_slice ho
  cases A1 with
  | none =>
    rcases ho.2 with ⟨_, h⟩ | ⟨g, cap, cur, hv, _⟩
    · omega
    · cases hv
  | some a =>
    obtain ⟨g, hg⟩ : ∃ g, a = ⟨g, 0, none⟩ := by
      rcases ho.2 with ⟨_, h⟩ | ⟨g, cap, cur, hv, _⟩
      · omega
      · exact ⟨g, by cases hv; rfl⟩
    subst hg
    have hfr := own_free ho k
    obtain ⟨b2, o2, hA2, hbl2, hcur⟩ := atI (La.own_slat ho) HX.out
    cases hA2
    rw [Nat.zero_add] at hcur
    have hgb : w.heap.size ≤ g := by
      rcases ho.2 with ⟨_, h⟩ | ⟨g', cap, cur, hv, hb', _⟩
      · omega
      · cases hv; exact hb'
    have HO := Lib.hid (own_put ho k (.int .i64 node))
    have HB := Lib.hid (hb.setCell (p := ⟨g, k, none⟩) hgb (.int .i64 node))
    clear ho hb hn KC
    go_wp2
    go_ret
    refine ⟨_, rfl, ?_, HB.out⟩
    have := HO.out
    rw [ints_set] at this
    rw [List.length_set]
    exact this
end Go.Proofs.YtoankplhahbgkaaGreat

namespace Go.Proofs.YtoankplhahbgkaaGreat
open Go.RowKit

def evictF (p : List Int) (pd nd : Int) : List Int × Int :=
  if 0 ≤ pd ∧ pd < (p.length : Int) then (if nd = 0 then (if p[pd.toNat]? = some (-1) then ([], 110) else (p.set pd.toNat (-1), 0)) else ([], 9)) else ([], 9)
/-- Is that node lost? -/
def lostB (ns : List NodeD) (k : Nat) : Bool := match ns[k]? with
  | none => false
  | some x => x.lost
def bindF (ns : List NodeD) (p : List Int) (pd nd : Int) : List Int × Int :=
  if 0 ≤ pd ∧ pd < (p.length : Int) then (if 0 ≤ nd ∧ nd < (ns.length : Int) then (if p[pd.toNat]? = some (-1) then (if lostB ns nd.toNat then ([], 110) else (p.set pd.toNat nd, 0)) else ([], 110)) else ([], 9)) else ([], 9)
/-- What Apply answers. -/
def applyF (ns : List NodeD) (ps : List PodD) (os : List OwnD) (p : List Int) (kd pd nd : Int) : List Int × Int :=
  if placeE ns ps os p = 0 then (if kd = 1 then evictF p pd nd else if kd = 2 then bindF ns p pd nd else ([], 2)) else ([], placeE ns ps os p)
abbrev stepV (kd pd nd : Int) : Value := .agg #[.int .i64 kd, .int .i64 pd, .int .i64 nd]
/-- What it is to answer a row and a number. -/
abbrev RowNo (w : World) (F : List Int × Int) (e : Ending) (w' : World) : Prop := ∃ v, e = .returned (.tuple #[v, .int .i64 F.2]) ∧ w'.ownsRow w.heap.size 3 1 v F.1.length (intsC F.1) ∧ Below w.heap.size w w'
theorem nil_post {w w' : World} {c : Int} {F : List Int × Int} (hF : F = ([], c)) (hb : Below w.heap.size w w') : RowNo w F (.returned (.tuple #[.slice none 0 0, .int .i64 c])) w' := by
  subst hF
  exact ⟨_, rfl, World.ownsRow_nil _ _ _ _, hb⟩

set_option maxHeartbeats 1000000 in
theorem evict_any (P : Option Addr) (cp : Nat) (p : List Int) (kd pd nd : Int) (w : World) (hp : IntsAt w P cp p) (hfew : p.length ≤ 1000) :
    Calls Tryz.prog 86 #[.slice P p.length cp, stepV kd pd nd] w fun e w' => RowNo w (evictF p pd nd) e w' := by
  have B0 := Lib.hid (below1 w (.cells #[.int .i64 kd, .int .i64 pd, .int .i64 nd] 50))
  have S0 : Hid (Blk (w.alloc (.cells #[.int .i64 kd, .int .i64 pd, .int .i64 nd] 50)) w.heap.size #[.int .i64 kd, .int .i64 pd, .int .i64 nd] 50) := Lib.hid (Blk.new w _ _)
  by_cases h0 : 0 ≤ pd ∧ pd < (p.length : Int)
  case neg =>
    have KP : Hid (∀ w', Calls Tryz.prog 70 #[.int .i64 pd, .int .i64 (p.length : Int)] w' fun e w'' => e = .returned (.bool false) ∧ w'' = w') := Lib.hid (fun w' => by
      have := isPlace_any pd p.length w'
      rwa [decide_eq_false h0] at this)
    have E : Hid (evictF p pd nd = ([], 9)) := Lib.hid (by unfold evictF; rw [if_neg h0])
    clear hp h0
    go_enter Tryz.func86, Tryz.ntmps86
    go_wp2_with fail
    refine (KP.out _).mono ?_
    rintro e w1 ⟨rfl, rfl⟩
    go_wp2
    go_ret2
    exact nil_post E.out B0.out
  have KP : Hid (∀ w', Calls Tryz.prog 70 #[.int .i64 pd, .int .i64 (p.length : Int)] w' fun e w'' => e = .returned (.bool true) ∧ w'' = w') := Lib.hid (fun w' => by
    have := isPlace_any pd p.length w'
    rwa [decide_eq_true h0] at this)
  obtain ⟨n, rfl⟩ : ∃ n : Nat, pd = (n : Int) := ⟨pd.toNat, by omega⟩
  have hn : n < p.length := by omega
  have n0 : (0 : Int) ≤ (n : Int) := by omega
  have n1 : (n : Int) < (p.length : Int) := by omega
  have E1 : Hid (evictF p (n : Int) nd = if nd = 0 then (if p[n]? = some (-1) then ([], 110) else (p.set n (-1), 0)) else ([], 9)) := Lib.hid (by unfold evictF; rw [if_pos h0, Int.toNat_natCast])
  clear h0
  have s0 := Blk.cell S0.out 0
  have s1 := Blk.cell S0.out 1
  have s2 := Blk.cell S0.out 2
  by_cases hd : nd = 0
  case neg =>
    have E : Hid (evictF p (n : Int) nd = ([], 9)) := Lib.hid (by rw [E1.out, if_neg hd])
    have hdb : (nd != 0) = true := by simpa using hd
    clear hp E1
    go_enter Tryz.func86, Tryz.ntmps86
    go_wp2_with fail
    refine (KP.out _).mono ?_
    rintro e w1 ⟨rfl, rfl⟩
    go_wp2
    go_ret2
    exact nil_post E.out B0.out
  subst hd
  obtain ⟨x, hx⟩ : ∃ x, p[n]? = some x := ⟨p[n], List.getElem?_eq_getElem hn⟩
  have KW := Lib.hid (with_any P cp p n (-1) (w.alloc (.cells #[.int .i64 kd, .int .i64 (n : Int), .int .i64 0] 50)) (hp.below B0.out) hn hfew)
  obtain ⟨b, o, hA, hbl, c0⟩ := atI (hp.below B0.out).cells hx
  subst hA
  by_cases hm : x = -1
  case pos =>
    subst hm
    have E : Hid (evictF p (n : Int) 0 = ([], 110)) := Lib.hid (by rw [E1.out, if_pos rfl, if_pos hx])
    clear hp E1 hx KW
    go_enter Tryz.func86, Tryz.ntmps86
    go_wp2_with fail
    refine (KP.out _).mono ?_
    rintro e w1 ⟨rfl, rfl⟩
    go_wp2
    go_ret2
    exact nil_post E.out B0.out
  have E : Hid (evictF p (n : Int) 0 = (p.set n (-1), 0)) := Lib.hid (by rw [E1.out, if_pos rfl, if_neg (by rw [hx]; simpa using hm)])
  have hmb : (x == -1) = false := by simpa using hm
  clear hp E1 hx
  go_enter Tryz.func86, Tryz.ntmps86
  go_wp2_with fail
  refine (KP.out _).mono ?_
  rintro e w1 ⟨rfl, rfl⟩
  go_wp2_with fail
  refine (KW.out).mono ?_
  rintro e w2 ⟨v, rfl, ho, hb⟩
  have HO := Lib.hid (own_base ho B0.out.size)
  have HB := Lib.hid (B0.out.trans (hb.mono B0.out.size))
  clear ho hb KW
  go_wp2
  go_ret2
  rw [E.out]
  exact ⟨_, rfl, HO.out, HB.out⟩

set_option maxHeartbeats 1000000 in
theorem bind_any (A B C P : Option Addr) (ca cb cc cp lb lc : Nat) (ns : List NodeD) (p : List Int) (kd pd nd : Int) (w : World) (hs : La.SlAt w A (cellsN ns)) (hp : IntsAt w P cp p) (hfew : p.length ≤ 1000) :
    Calls Tryz.prog 87 #[.agg #[.slice A ns.length ca, .slice B lb cb, .slice C lc cc], .slice P p.length cp, stepV kd pd nd] w fun e w' => RowNo w (bindF ns p pd nd) e w' := by
  have B0 := Lib.hid (Qu.below2 w (.cells #[.slice A ns.length ca, .slice B lb cb, .slice C lc cc] 26) (.cells #[.int .i64 kd, .int .i64 pd, .int .i64 nd] 50))
  by_cases h0 : 0 ≤ pd ∧ pd < (p.length : Int)
  case neg =>
    have KP : Hid (∀ w', Calls Tryz.prog 70 #[.int .i64 pd, .int .i64 (p.length : Int)] w' fun e w'' => e = .returned (.bool false) ∧ w'' = w') := Lib.hid (fun w' => by
      have := isPlace_any pd p.length w'
      rwa [decide_eq_false h0] at this)
    have E : Hid (bindF ns p pd nd = ([], 9)) := Lib.hid (by unfold bindF; rw [if_neg h0])
    clear hp h0 hs
    go_enter Tryz.func87, Tryz.ntmps87
    go_wp2_with fail
    refine (KP.out _).mono ?_
    rintro e w1 ⟨rfl, rfl⟩
    go_wp2
    go_ret2
    exact nil_post E.out B0.out
  have KP : Hid (∀ w', Calls Tryz.prog 70 #[.int .i64 pd, .int .i64 (p.length : Int)] w' fun e w'' => e = .returned (.bool true) ∧ w'' = w') := Lib.hid (fun w' => by
    have := isPlace_any pd p.length w'
    rwa [decide_eq_true h0] at this)
  obtain ⟨n, rfl⟩ : ∃ n : Nat, pd = (n : Int) := ⟨pd.toNat, by omega⟩
  have hn : n < p.length := by omega
  have n0 : (0 : Int) ≤ (n : Int) := by omega
  have n1 : (n : Int) < (p.length : Int) := by omega
  have E1 : Hid (bindF ns p (n : Int) nd = if 0 ≤ nd ∧ nd < (ns.length : Int) then (if p[n]? = some (-1) then (if lostB ns nd.toNat then ([], 110) else (p.set n nd, 0)) else ([], 110)) else ([], 9)) := Lib.hid (by unfold bindF; rw [if_pos h0, Int.toNat_natCast])
  clear h0
  by_cases hd : 0 ≤ nd ∧ nd < (ns.length : Int)
  case neg =>
    have E : Hid (bindF ns p (n : Int) nd = ([], 9)) := Lib.hid (by rw [E1.out, if_neg hd])
    have KQ : Hid (∀ w', Calls Tryz.prog 70 #[.int .i64 nd, .int .i64 (ns.length : Int)] w' fun e w'' => e = .returned (.bool false) ∧ w'' = w') := Lib.hid (fun w' => by
      have := isPlace_any nd ns.length w'
      rwa [decide_eq_false hd] at this)
    clear hp E1 hs hd
    go_enter Tryz.func87, Tryz.ntmps87
    go_wp2_with fail
    refine (KP.out _).mono ?_
    rintro e w1 ⟨rfl, rfl⟩
    go_wp2_with fail
    refine (KQ.out _).mono ?_
    rintro e w1 ⟨rfl, rfl⟩
    go_wp2
    go_ret2
    exact nil_post E.out B0.out
  have KQ : Hid (∀ w', Calls Tryz.prog 70 #[.int .i64 nd, .int .i64 (ns.length : Int)] w' fun e w'' => e = .returned (.bool true) ∧ w'' = w') := Lib.hid (fun w' => by
    have := isPlace_any nd ns.length w'
    rwa [decide_eq_true hd] at this)
  obtain ⟨m, rfl⟩ : ∃ m : Nat, nd = (m : Int) := ⟨nd.toNat, by omega⟩
  have hm : m < ns.length := by omega
  have m0 : (0 : Int) ≤ (m : Int) := by omega
  have m1 : (m : Int) < (ns.length : Int) := by omega
  have E2 : Hid (bindF ns p (n : Int) (m : Int) = if p[n]? = some (-1) then (if lostB ns m then ([], 110) else (p.set n (m : Int), 0)) else ([], 110)) := Lib.hid (by rw [E1.out, if_pos hd, Int.toNat_natCast])
  clear E1 hd
  obtain ⟨x, hx⟩ : ∃ x, p[n]? = some x := ⟨p[n], List.getElem?_eq_getElem hn⟩
  obtain ⟨y, hy⟩ : ∃ y, ns[m]? = some y := ⟨ns[m], List.getElem?_eq_getElem hm⟩
  have KW := Lib.hid (with_any P cp p n (m : Int) _ (hp.below B0.out) hn hfew)
  obtain ⟨b, o, hA, hbl, q0⟩ := atI (hp.below B0.out).cells hx
  subst hA
  obtain ⟨b', o', hA', hbl', c0, c1, c2, c3, c4, c5, c6, c7, c8, c9⟩ := atN (hs.below B0.out) hy
  subst hA'
  have hlost : lostB ns m = y.lost := by unfold lostB; rw [hy]
  clear hs hp hy c0 c1 c2 c3 c4 c5 c6 c7 c8
  by_cases hm1 : x = -1
  case neg =>
    have E : Hid (bindF ns p (n : Int) (m : Int) = ([], 110)) := Lib.hid (by rw [E2.out, if_neg (by rw [hx]; simpa using hm1)])
    have hmb : (x != -1) = true := by simpa using hm1
    clear E2 hx KW hlost
    go_enter Tryz.func87, Tryz.ntmps87
    go_wp2_with fail
    refine (KP.out _).mono ?_
    rintro e w1 ⟨rfl, rfl⟩
    go_wp2_with fail
    refine (KQ.out _).mono ?_
    rintro e w1 ⟨rfl, rfl⟩
    go_wp2
    go_ret2
    exact nil_post E.out B0.out
  subst hm1
  obtain ⟨l, hl⟩ : ∃ l, y.lost = l := ⟨_, rfl⟩
  rw [hl] at hlost c9
  clear hl
  cases l
  case true =>
    have E : Hid (bindF ns p (n : Int) (m : Int) = ([], 110)) := Lib.hid (by rw [E2.out, if_pos hx, hlost, if_pos rfl])
    clear E2 hx KW hlost
    go_enter Tryz.func87, Tryz.ntmps87
    go_wp2_with fail
    refine (KP.out _).mono ?_
    rintro e w1 ⟨rfl, rfl⟩
    go_wp2_with fail
    refine (KQ.out _).mono ?_
    rintro e w1 ⟨rfl, rfl⟩
    go_wp2
    go_ret2
    exact nil_post E.out B0.out
  have E : Hid (bindF ns p (n : Int) (m : Int) = (p.set n (m : Int), 0)) := Lib.hid (by rw [E2.out, if_pos hx, hlost, if_neg (by simp)])
  clear E2 hx hlost
  go_enter Tryz.func87, Tryz.ntmps87
  go_wp2_with fail
  refine (KP.out _).mono ?_
  rintro e w1 ⟨rfl, rfl⟩
  go_wp2_with fail
  refine (KQ.out _).mono ?_
  rintro e w1 ⟨rfl, rfl⟩
  go_wp2_with fail
  refine (KW.out).mono ?_
  rintro e w2 ⟨v, rfl, ho, hb⟩
  have HO := Lib.hid (own_base ho B0.out.size)
  have HB := Lib.hid (B0.out.trans (hb.mono B0.out.size))
  clear ho hb KW
  go_wp2
  go_ret2
  rw [E.out]
  exact ⟨_, rfl, HO.out, HB.out⟩

set_option maxHeartbeats 1000000 in
theorem apply_any (A B C P : Option Addr) (ca cb cc cp : Nat) (ns : List NodeD) (ps : List PodD) (os : List OwnD) (p : List Int) (kd pd nd : Int) (w : World) (h : SnapAt w A B C ca cb cc ns ps os) (hp : IntsAt w P cp p) :
    Calls Tryz.prog 35 #[snapV A B C ca cb cc ns ps os, .slice P p.length cp, stepV kd pd nd] w fun e w' => RowNo w (applyF ns ps os p kd pd nd) e w' := by
  have B0 := Lib.hid (Qu.below2 w (.cells (snapC A B C ca cb cc ns ps os) 26) (.cells #[.int .i64 kd, .int .i64 pd, .int .i64 nd] 50))
  have S0 : Hid (Blk ((w.alloc (.cells (snapC A B C ca cb cc ns ps os) 26)).alloc (.cells #[.int .i64 kd, .int .i64 pd, .int .i64 nd] 50)) (w.heap.size + 1) #[.int .i64 kd, .int .i64 pd, .int .i64 nd] 50) := Lib.hid (blk2 w _ _ _)
  have Z0 : Hid (Blk ((w.alloc (.cells (snapC A B C ca cb cc ns ps os) 26)).alloc (.cells #[.int .i64 kd, .int .i64 pd, .int .i64 nd] 50)) w.heap.size (snapC A B C ca cb cc ns ps os) 26) := Lib.hid (Blk.alloc (Blk.new w _ _) _)
  have hlt0 := Blk.lt S0.out
  have KC := Lib.hid (pcheck_any A B C P ca cb cc cp ns ps os p _ (h.below B0.out) (hp.below B0.out))
  have hlen : placeE ns ps os p = 0 → p.length = ps.length := by
    intro hE
    unfold placeE at hE
    split at hE
    · split at hE
      · assumption
      · cases hE
    · rename_i hne
      exact absurd hE hne
  have E0 : Hid (applyF ns ps os p kd pd nd = if placeE ns ps os p = 0 then (if kd = 1 then evictF p pd nd else if kd = 2 then bindF ns p pd nd else ([], 2)) else ([], placeE ns ps os p)) := Lib.hid rfl
  have hlp := h.lp
  have H := Lib.hid h
  have HP := Lib.hid hp
  clear h hp
  generalize placeE ns ps os p = v0 at KC E0 hlen
  by_cases hv : v0 = 0
  case neg =>
    have E : Hid (applyF ns ps os p kd pd nd = ([], v0)) := Lib.hid (by rw [E0.out, if_neg hv])
    have hvb : (v0 != 0) = true := by simpa using hv
    clear E0 hlen
    go_enter Tryz.func35, Tryz.ntmps35
    go_wp2_with fail
    refine (KC.out).mono ?_
    rintro e w1 ⟨rfl, hb⟩
    have B1 := Lib.hid (B0.out.trans (hb.mono B0.out.size))
    clear hb
    go_wp2
    go_ret2
    exact nil_post E.out B1.out
  subst hv
  have hfew : p.length ≤ 1000 := by rw [hlen rfl]; exact hlp
  have E1 : Hid (applyF ns ps os p kd pd nd = if kd = 1 then evictF p pd nd else if kd = 2 then bindF ns p pd nd else ([], 2)) := Lib.hid (by rw [E0.out, if_pos rfl])
  clear E0 hlen
  go_enter Tryz.func35, Tryz.ntmps35
  go_wp2_with fail
  refine (KC.out).mono ?_
  rintro e w1 ⟨rfl, hb⟩
  have B1 := Lib.hid (B0.out.trans (hb.mono B0.out.size))
  have S1 := Lib.hid (S0.out.below hb hlt0)
  have Z1 := Lib.hid (Z0.out.below hb (Nat.lt_trans (Nat.lt_succ_self _) hlt0))
  clear hb KC
  have s0 : w1.cell? ⟨w.heap.size + 1, 0, none⟩ = some (.int .i64 kd) := Blk.cell S1.out 0
  have s1 : w1.cell? ⟨w.heap.size + 1, 1, none⟩ = some (.int .i64 pd) := Blk.cell S1.out 1
  have s2 : w1.cell? ⟨w.heap.size + 1, 2, none⟩ = some (.int .i64 nd) := Blk.cell S1.out 2
  have z0 : w1.cell? ⟨w.heap.size, 0, none⟩ = some (.slice A ns.length ca) := Blk.cell Z1.out 0
  have z1 : w1.cell? ⟨w.heap.size, 1, none⟩ = some (.slice B ps.length cb) := Blk.cell Z1.out 1
  have z2 : w1.cell? ⟨w.heap.size, 2, none⟩ = some (.slice C os.length cc) := Blk.cell Z1.out 2
  by_cases h1 : kd = 1
  · subst h1
    have KE := Lib.hid (evict_any P cp p 1 pd nd w1 (HP.out.below B1.out) hfew)
    have E2 : Hid (applyF ns ps os p 1 pd nd = evictF p pd nd) := Lib.hid (by rw [E1.out, if_pos rfl])
    clear E1
    go_wp2_with fail
    refine (KE.out).mono ?_
    rintro e w2 ⟨v, rfl, ho, hb⟩
    have HO := Lib.hid (own_base ho B1.out.size)
    have HB := Lib.hid (B1.out.trans (hb.mono B1.out.size))
    clear ho hb KE
    go_wp2
    go_ret2
    rw [E2.out]
    exact ⟨_, rfl, HO.out, HB.out⟩
  · have h1b : (kd == 1) = false := by simpa using h1
    by_cases h2 : kd = 2
    · subst h2
      have KE := Lib.hid (bind_any A B C P ca cb cc cp ps.length os.length ns p 2 pd nd w1 (H.out.below B1.out).n.cells (HP.out.below B1.out) hfew)
      have E2 : Hid (applyF ns ps os p 2 pd nd = bindF ns p pd nd) := Lib.hid (by rw [E1.out, if_neg h1, if_pos rfl])
      clear E1
      go_wp2_with fail
      refine (KE.out).mono ?_
      rintro e w2 ⟨v, rfl, ho, hb⟩
      have HO := Lib.hid (own_base ho B1.out.size)
      have HB := Lib.hid (B1.out.trans (hb.mono B1.out.size))
      clear ho hb KE
      go_wp2
      go_ret2
      rw [E2.out]
      exact ⟨_, rfl, HO.out, HB.out⟩
    · have h2b : (kd == 2) = false := by simpa using h2
      have E2 : Hid (applyF ns ps os p kd pd nd = ([], 2)) := Lib.hid (by rw [E1.out, if_neg h1, if_neg h2])
      clear E1
      go_wp2
      go_ret2
      exact nil_post E2.out B1.out
end Go.Proofs.YtoankplhahbgkaaGreat

namespace Go.Proofs.YtoankplhahbgkaaGreat
open Go.RowKit

theorem own_gem {w : World} {base : Nat} {e : TypeId} {size : Nat} {v : Value} {n : Nat} {xs : List Value} (h : w.ownsRow base e size v n xs) {j : Nat} (hj : v.ownBlock = some j) : base ≤ j := (h.lt j hj).1
theorem mov_info : (Tryz.prog.info? 106).map (fun i => (i.zero, i.size, i.bytes)) = some (some (.agg #[.int .i64 0, .int .i64 0]), 2, 16) := by kernel_rfl

/-- What is unlike at the first k places. -/
def movesU (p q : List Int) : Nat → List (Int × Int)
  | 0 => []
  | k + 1 => movesU p q k ++ (if p.getD k 0 = q.getD k 0 then [] else [((k : Int), q.getD k 0)])
/-- What Moves tells. -/
def movesF (p q : List Int) : List (Int × Int) := movesU p q (min p.length q.length)
def cells2 (l : List (Int × Int)) : List Value := l.flatMap fun x => [.int .i64 x.1, .int .i64 x.2]
theorem cells2_len : ∀ l, (cells2 l).length = l.length * 2
  | [] => rfl
  | x :: t => by
    have := cells2_len t
    simp only [cells2, List.flatMap_cons, List.length_append, List.length_cons, List.length_nil] at this ⊢
    omega
theorem cells2_snoc (l : List (Int × Int)) (x : Int × Int) : cells2 (l ++ [x]) = cells2 l ++ [.int .i64 x.1, .int .i64 x.2] := by simp [cells2]
theorem movesU_len (p q : List Int) : ∀ k, (movesU p q k).length ≤ k
  | 0 => Nat.le_refl _
  | k + 1 => by
    have := movesU_len p q k
    rw [movesU, List.length_append]
    split <;> simp <;> omega

set_option maxRecDepth 100000 in
set_option maxHeartbeats 2000000 in
theorem eqInts_any (A B : Option Addr) (ca cb : Nat) (l m : List Int) (w : World) (hl : l.length ≤ 1000) (ha : IntsAt w A ca l) (hb : IntsAt w B cb m) :
    Calls Tryz.prog 22 #[.slice A l.length ca, .slice B m.length cb] w fun e w' => e = .returned (.bool (decide (l = m))) ∧ Below w.heap.size w w' := by
  by_cases hn : l.length = m.length
  case neg =>
    have hni : ¬ (l.length : Int) = (m.length : Int) := by omega
    have hnb : ((l.length : Int) != (m.length : Int)) = true := by simpa using hni
    have hne : decide (l = m) = false := decide_eq_false (fun e => hn (by rw [e]))
    rw [hne]
    clear ha hb
    go_enter Tryz.func22, Tryz.ntmps22
    go_wp2
    go_ret
    exact ⟨rfl, Below.refl _ _⟩
  have hni : (l.length : Int) = (m.length : Int) := by omega
  have hnb : ((l.length : Int) != (m.length : Int)) = false := by simpa using hni
  have HA := Lib.hid ha
  have HB := Lib.hid hb
  clear ha hb
  obtain ⟨R, hR⟩ : ∃ R, decide (l = m) = R := ⟨_, rfl⟩
  have HR := Lib.hid hR
  rw [hR]
  clear hR
  go_enter Tryz.func22, Tryz.ntmps22
  go_wp2_with fail
  go_loopw [5] (fun i wr => ∃ k : Nat, k ≤ l.length ∧ i = .int .i64 k ∧ (∀ j, j < k → l[j]? = m[j]?) ∧ Below w.heap.size w wr) (fun i _ => l.length - (intOf i).toNat)
  case atStart => exact ⟨0, by omega, rfl, fun j h => by omega, Below.refl _ _⟩
  case round =>
    obtain ⟨k, hk, rfl, hnk, hbw⟩ := hrel
    have HN := Lib.hid hnk
    have HW := Lib.hid hbw
    clear hnk hbw
    by_cases hlt : k < l.length
    · obtain ⟨x, hx⟩ : ∃ x, l[k]? = some x := ⟨l[k], List.getElem?_eq_getElem hlt⟩
      obtain ⟨y, hy⟩ : ∃ y, m[k]? = some y := ⟨m[k]'(by omega), List.getElem?_eq_getElem (by omega)⟩
      obtain ⟨b1, o1, hA1, hbl1, c1⟩ := atI (HA.out.below HW.out).cells hx
      obtain ⟨b2, o2, hA2, hbl2, c2⟩ := atI (HB.out.below HW.out).cells hy
      subst hA1 hA2
      have HX := Lib.hid hx
      have HY := Lib.hid hy
      have k0 : (0 : Int) ≤ (k : Int) := by omega
      have k1 : (k : Int) < (l.length : Int) := by omega
      have k2 : (k : Int) < (m.length : Int) := by omega
      clear hx hy
      by_cases hxy : x = y
      · subst hxy
        have hxb : (x != x) = false := by simp
        go_wp2_with fail
        go_region
        go_wp2
        go_roundw
        case rel =>
          refine ⟨k + 1, by omega, by go_num, fun j hj => ?_, by first | exact HW.out | exact HW.out.drew | exact La.belowN HW.out _⟩
          by_cases hjk : j = k
          · subst hjk
            rw [HX.out, HY.out]
          · exact HN.out j (by omega)
        case measure => simp [intOf]; omega
      · have hxb : (x != y) = true := by simpa using hxy
        have HE : Hid (false = R) := Lib.hid (by
          rw [← HR.out]
          symm
          refine decide_eq_false (fun e => hxy ?_)
          have h1 := HX.out
          rw [e, HY.out] at h1
          exact (Option.some.inj h1).symm)
        go_wp2_with fail
        go_region
        go_wp2
        go_ret
        exact ⟨La.retB HE.out, by first | exact HW.out | exact HW.out.drew | exact La.belowN HW.out _⟩
    · obtain rfl : k = l.length := by omega
      have HE : Hid (true = R) := Lib.hid (by
        rw [← HR.out]
        symm
        refine decide_eq_true (List.ext_getElem? fun j => ?_)
        by_cases hj : j < l.length
        · exact HN.out j hj
        · rw [List.getElem?_eq_none (by omega), List.getElem?_eq_none (by omega)])
      go_wp2
      go_ret
      exact ⟨La.retB HE.out, HW.out⟩

set_option maxRecDepth 100000 in
set_option maxHeartbeats 2000000 in
theorem moves_any (A B : Option Addr) (ca cb : Nat) (p q : List Int) (w : World) (hl : p.length ≤ 1000) (ha : IntsAt w A ca p) (hb : IntsAt w B cb q) :
    Calls Tryz.prog 38 #[.slice A p.length ca, .slice B q.length cb] w fun e w' => ∃ v, e = .returned v ∧ w'.ownsRow w.heap.size 106 2 v (movesF p q).length (cells2 (movesF p q)) ∧ Below w.heap.size w w' := by
  have HA := Lib.hid ha
  have HB := Lib.hid hb
  obtain ⟨M, hM⟩ : ∃ M : Nat, M = min p.length q.length := ⟨_, rfl⟩
  have hMi : (min (p.length : Int) (q.length : Int)) = (M : Int) := by omega
  have hMl : M ≤ 1000 := by omega
  have hMp : M ≤ p.length := by omega
  have hMq : M ≤ q.length := by omega
  have HE : Hid (movesF p q = movesU p q M) := Lib.hid (by rw [hM]; rfl)
  obtain ⟨i0, hi0, hz0, hz1, hz2⟩ := info_parts mov_info
  clear ha hb hM
  go_enter Tryz.func38, Tryz.ntmps38
  go_wp2_with fail
  clear hMi
  go_loopw [12, 5] (fun i v wr => ∃ k : Nat, k ≤ M ∧ i = .int .i64 k ∧ wr.ownsRow w.heap.size 106 2 v (movesU p q k).length (cells2 (movesU p q k)) ∧ Below w.heap.size w wr) (fun i _ _ => M - (intOf i).toNat)
  case atStart => exact ⟨0, by omega, rfl, World.ownsRow_nil _ _ _ _, Below.refl _ _⟩
  case round =>
    obtain ⟨k, hk, rfl, hown, hbw⟩ := hrel
    have HO := Lib.hid hown
    have HW := Lib.hid hbw
    clear hown hbw
    by_cases hlt : k < M
    · obtain ⟨x, hx⟩ : ∃ x, p[k]? = some x := ⟨p[k]'(by omega), List.getElem?_eq_getElem (by omega)⟩
      obtain ⟨y, hy⟩ : ∃ y, q[k]? = some y := ⟨q[k]'(by omega), List.getElem?_eq_getElem (by omega)⟩
      obtain ⟨b1, o1, hA1, hbl1, c1⟩ := atI (HA.out.below HW.out).cells hx
      obtain ⟨b2, o2, hA2, hbl2, c2⟩ := atI (HB.out.below HW.out).cells hy
      subst hA1 hA2
      have hstep : movesU p q (k + 1) = movesU p q k ++ (if x = y then [] else [((k : Int), y)]) := by
        rw [movesU, List.getD_eq_getElem?_getD, List.getD_eq_getElem?_getD, hx, hy]
        rfl
      have HX := Lib.hid hstep
      have hml := movesU_len p q k
      have k0 : (0 : Int) ≤ (k : Int) := by omega
      have k1 : (k : Int) < (p.length : Int) := by omega
      have k2 : (k : Int) < (q.length : Int) := by omega
      have k3 : (k : Int) < (M : Int) := by omega
      clear hx hy hstep
      by_cases hxy : x = y
      · subst hxy
        have hxb : (x != x) = false := by simp
        go_wp2_with fail
        go_region
        go_wp2
        go_roundw
        case rel =>
          refine ⟨k + 1, by omega, by go_num, ?_, by first | exact HW.out | exact HW.out.drew | exact La.belowN HW.out _⟩
          rw [HX.out]
          simp only [if_true, List.append_nil]
          exact HO.out
        case measure => simp [intOf]; omega
      · have hxb : (x != y) = true := by simpa using hxy
        go_wp2_with fail
        go_region
        go_wp2_with (at_builtin; refine wpList_append_own _ rfl _ _ 52 rfl w.heap.size 106 i0 (.agg #[.int .i64 0, .int .i64 0]) 2 16 Tryz.underlying52 hi0 hz0 hz1 hz2 rfl (by decide) _ _ _ rfl (show World.ownsRow _ _ _ _ _ _ _ from HO.out.alloc _) ⟨wr.heap.size, 0, none⟩ 1 1 [.int .i64 (k : Int), .int .i64 y] rfl rfl ?c1 ?c2 ?c3 ?c4 ?c5 ?_)
        case c1 =>
          intro j u hj
          match j, hj with
          | 0, hj => simp at hj; subst hj; simp [Addr.add]
          | 1, hj => simp at hj; subst hj; simp [Addr.add]
        case c2 => first | rfl | (intro u hu; simp at hu; rcases hu with rfl | rfl <;> rfl)
        case c3 => unfold maxLen; omega
        case c4 => omega
        case c5 => have := HW.out.size; simp; omega
        intro v' w2 hown' hgrow' _
        have HO2 := Lib.hid hown'
        have HW2 := Lib.hid ((HW.out.drew.alloc HW.out.size (.cells #[.int .i64 (k : Int), .int .i64 y] 106)).grown hgrow' (by have := HW.out.size; simp; omega) (fun j hj => own_gem HO.out hj))
        clear hown' hgrow'
        go_wp2
        go_roundw
        case rel =>
          refine ⟨k + 1, by omega, by go_num, ?_, HW2.out⟩
          rw [HX.out, if_neg hxy, List.length_append, cells2_snoc]
          exact HO2.out
        case measure => simp [intOf]; omega
    · obtain rfl : k = M := by omega
      go_wp2
      go_ret
      rw [HE.out]
      exact ⟨_, rfl, HO.out, HW.out⟩
end Go.Proofs.YtoankplhahbgkaaGreat

namespace Go.Proofs.YtoankplhahbgkaaGreat.La
open Go.RowKit

def insB (n : Nat) : Bool := letB n || digB n
def insAt (l : List UInt8) (i : Nat) : Bool := match l[i]? with | some b => insB b.toNat | none => false

theorem rletter_any (b : UInt8) (w : World) :
    Calls Tryz.prog 220 #[.int .u8 (b.toNat : Int)] w fun e w' => e = .returned (.bool (letB b.toNat)) ∧ w = w' := by
  have hb : b.toNat < 256 := b.toNat_lt
  generalize b.toNat = c at *
  go_enter Tryz.func220, Tryz.ntmps220
  go_wp2
  all_goals
    go_ret
    refine ⟨retB ?_, rfl⟩
    unfold letB
    rw [Bool.eq_iff_iff]
    simp
    try omega
theorem rinside_any (b : UInt8) (w : World) :
    Calls Tryz.prog 241 #[.int .u8 (b.toNat : Int)] w fun e w' => e = .returned (.bool (insB b.toNat)) ∧ w = w' := by
  have K := Lib.hid (fun w => rletter_any b w)
  have hb : b.toNat < 256 := b.toNat_lt
  generalize b.toNat = c at *
  cases hl : letB c
  · rw [hl] at K
    have E : Hid (insB c = digB c) := by show insB c = _; unfold insB; rw [hl]; rfl
    clear hl
    go_enter Tryz.func241, Tryz.ntmps241
    go_wp2_with fail
    refine (K.out _).mono ?_
    rintro e w1 ⟨rfl, rfl⟩
    go_wp2
    all_goals
      go_ret
      refine ⟨retB ?_, rfl⟩
      rw [E.out]
      unfold digB
      rw [Bool.eq_iff_iff]
      simp
      try omega
  · rw [hl] at K
    have E : Hid (insB c = true) := by show insB c = _; unfold insB; rw [hl]; rfl
    clear hl
    go_enter Tryz.func241, Tryz.ntmps241
    go_wp2_with fail
    refine (K.out _).mono ?_
    rintro e w1 ⟨rfl, rfl⟩
    go_wp2
    go_ret
    exact ⟨retB (by rw [E.out]), rfl⟩

/-- A word that stands at a byte, and where it ends; where it is wrong, and how. -/
def runF (nm : Bool) (l : List UInt8) (a : Nat) : List UInt8 × Nat × Int :=
  if wordL (if nm = true then okName else okVal) l a = 0 ∧ a = l.length then ([], a, 3)
  else if wordL (if nm = true then okName else okVal) l a = 0 ∨ insAt l (a + wordL (if nm = true then okName else okVal) l a) = true then ([], a + wordL (if nm = true then okName else okVal) l a, 4)
  else ((l.drop a).take (wordL (if nm = true then okName else okVal) l a), a + wordL (if nm = true then okName else okVal) l a, 0)
/-- What the document's reader leaves. -/
def RunsTo (w : World) (x : List UInt8 × Nat × Int) (e : Ending) (w' : World) : Prop := e = .returned (.tuple #[strV x.1, .int .i64 (x.2.1 : Int), .int .i64 x.2.2]) ∧ w = w'

theorem run_word {nm : Bool} {l : List UInt8} {a p : Nat} (h : wordL (if nm = true then okName else okVal) l a = p - a) (ha : a ≤ p) (_hp : p ≤ l.length) :
    runF nm l a = if p = a ∧ p = l.length then ([], p, 3) else if p = a ∨ insAt l p = true then ([], p, 4) else ((l.drop a).take (p - a), p, 0) := by
  unfold runF
  rw [h]
  by_cases hpa : p = a
  · subst hpa
    simp
  · have e : a + (p - a) = p := by omega
    have h0 : ¬ (p - a = 0) := by omega
    simp only [e, h0, hpa, false_and, if_false, false_or]
theorem slice_at (l : List UInt8) (a p : Nat) : (⟨l.toArray⟩ : ByteArray).extract a p = ⟨((l.drop a).take (p - a)).toArray⟩ := cut_eq l a p

end Go.Proofs.YtoankplhahbgkaaGreat.La

namespace Go.Proofs.YtoankplhahbgkaaGreat.La
open Go.RowKit

/-- May a text be a value, a name, as the document says it? -/
def valR (s : List UInt8) : Bool := s.all (fun b => insB b.toNat) && decide (1 ≤ s.length ∧ s.length ≤ 15)
def headR (s : List UInt8) : Bool := match s with
  | b :: _ => letB b.toNat
  | [] => false
theorem span_iff (ok : Nat → Nat → Bool) : ∀ (t : List UInt8) (a : Nat), a ≤ 15 → (spanF ok t a = a + t.length ↔ (a + t.length ≤ 15 ∧ ∀ j (b : UInt8), t[j]? = some b → ok (a + j) b.toNat = true))
  | [], a, ha => by
    constructor
    · intro _
      exact ⟨by simpa using ha, fun j b h => by simp at h⟩
    · intro _
      rfl
  | b :: t, a, ha => by
    rw [spanF]
    by_cases h15 : a = 15
    · subst h15
      simp
      omega
    · cases hok : ok a b.toNat
      · rw [if_pos (.inr rfl)]
        constructor
        · intro h
          simp only [List.length_cons] at h
          omega
        · rintro ⟨_, h⟩
          have := h 0 b rfl
          rw [Nat.add_zero, hok] at this
          cases this
      · rw [if_neg (by rintro (h | h); exact h15 h; cases h)]
        have ih := span_iff ok t (a + 1) (by omega)
        have e : a + (b :: t).length = a + 1 + t.length := by simp only [List.length_cons]; omega
        rw [e, ih]
        constructor
        · rintro ⟨h1, h2⟩
          refine ⟨h1, fun j c hj => ?_⟩
          cases j with
          | zero =>
            simp only [List.getElem?_cons_zero, Option.some.injEq] at hj
            subst hj
            exact hok
          | succ j =>
            rw [List.getElem?_cons_succ] at hj
            have := h2 j c hj
            rwa [show a + 1 + j = a + (j + 1) by omega] at this
        · rintro ⟨h1, h2⟩
          refine ⟨h1, fun j c hj => ?_⟩
          have := h2 (j + 1) c (by rw [List.getElem?_cons_succ]; exact hj)
          rwa [show a + 1 + j = a + (j + 1) by omega]
theorem nameR_eq (s : List UInt8) : (valR s && headR s) = nameB s := by
  rw [Bool.eq_iff_iff]
  cases s with
  | nil => simp [valR, headR, nameB]
  | cons c t =>
    have h := span_iff okName (c :: t) 0 (by omega)
    rw [Nat.zero_add] at h
    unfold valR headR nameB
    simp only [Bool.and_eq_true, decide_eq_true_eq, List.all_eq_true]
    rw [h]
    constructor
    · rintro ⟨⟨ha, _, hl⟩, hc⟩
      refine ⟨by simp, hl, fun j b hj => ?_⟩
      have hb := ha b (List.mem_of_getElem? hj)
      rw [Nat.zero_add]
      unfold okName
      cases j with
      | zero =>
        simp only [List.getElem?_cons_zero, Option.some.injEq] at hj
        subst hj
        rw [hc, Bool.true_or]
      | succ j =>
        unfold insB at hb
        simp only [Nat.zero_lt_succ, decide_true, Bool.true_and]
        exact hb
    · rintro ⟨_, hl, ha⟩
      refine ⟨⟨fun b hb => ?_, by simp, hl⟩, ?_⟩
      · obtain ⟨j, hj⟩ := List.mem_iff_getElem?.1 hb
        have := ha j b hj
        unfold okName at this
        unfold insB
        revert this
        cases letB b.toNat <;> cases digB b.toNat <;> simp
      · have := ha 0 c rfl
        simpa [okName] using this

set_option maxRecDepth 100000 in
set_option maxHeartbeats 400000 in
theorem rvalue_any (s : List UInt8) (w : World) (hl : s.length ≤ 9223372036854775807) :
    Calls Tryz.prog 219 #[strV s] w fun e w' => e = .returned (.bool (valR s)) ∧ w = w' := by
  obtain ⟨R, hR⟩ : ∃ R, valR s = R := ⟨_, rfl⟩
  rw [hR]
  have HR := Lib.hid hR
  clear hR
  go_enter Tryz.func219, Tryz.ntmps219
  go_wp2
  go_loop [3] (fun t => ∃ p : Nat, p ≤ s.length ∧ t = .int .i64 p ∧ (∀ j b, j < p → s[j]? = some b → insB b.toNat = true)) (fun t => s.length - (intOf t).toNat)
  case atStart => exact ⟨0, by omega, rfl, fun j b h => by omega⟩
  case round =>
    obtain ⟨p, hp, rfl, ha⟩ := hrel
    have HA := Lib.hid ha
    clear ha
    have p0 : (0 : Int) ≤ (p : Int) := by omega
    by_cases hlt : p < s.length
    · have hlti : (p : Int) < (s.length : Int) := by omega
      have KI := Lib.hid (fun w => rinside_any (s[p]) w)
      have HX : Hid (s[p]? = some s[p]) := Lib.hid (List.getElem?_eq_getElem hlt)
      cases hin : insB (s[p]).toNat
      · have E : Hid (R = false) := Lib.hid (by
          rw [← HR.out]
          unfold valR
          rw [Bool.and_eq_false_iff]
          left
          rw [List.all_eq_false]
          exact ⟨s[p], List.getElem_mem hlt, by simp [hin]⟩)
        rw [hin] at KI
        clear hin
        go_wp2_with (go_at_call 241; refine (KI.out _).mono ?_; rintro e w1 ⟨rfl, rfl⟩)
        go_ret
        exact ⟨retB E.out.symm, rfl⟩
      · rw [hin] at KI
        have HI := Lib.hid hin
        clear hin
        go_wp2_with (go_at_call 241; refine (KI.out _).mono ?_; rintro e w1 ⟨rfl, rfl⟩)
        go_round
        case rel =>
          refine ⟨p + 1, by omega, by go_num, fun j b hj hb => ?_⟩
          by_cases hjp : j = p
          · subst hjp
            rw [HX.out] at hb
            cases hb
            exact HI.out
          · exact HA.out j b (by omega) hb
        case measure => simp [intOf]; omega
    · obtain rfl : p = s.length := by omega
      have E : Hid (R = decide (1 ≤ s.length ∧ s.length ≤ 15)) := Lib.hid (by
        rw [← HR.out]
        unfold valR
        rw [show (s.all fun b => insB b.toNat) = true from List.all_eq_true.2 (fun b hb => by
          obtain ⟨j, hj⟩ := List.mem_iff_getElem?.1 hb
          exact HA.out j b (List.getElem?_eq_some_iff.1 hj).1 hj), Bool.true_and])
      clear HA HR
      by_cases h1 : (1 : Int) ≤ (s.length : Int)
      · go_wp2
        go_ret
        refine ⟨retB ?_, rfl⟩
        rw [E.out, Bool.eq_iff_iff]
        simp
        try omega
      · go_wp2
        go_ret
        refine ⟨retB ?_, rfl⟩
        rw [E.out, Bool.eq_iff_iff]
        simp
        try omega
theorem rname_any (s : List UInt8) (w : World) (hl : s.length ≤ 9223372036854775807) :
    Calls Tryz.prog 177 #[strV s] w fun e w' => e = .returned (.bool (nameB s)) ∧ w = w' := by
  have K := Lib.hid (rvalue_any s w hl)
  have E := Lib.hid (nameR_eq s)
  generalize nameB s = R at E ⊢
  cases hv : valR s
  · rw [hv] at K E
    clear hv
    go_enter Tryz.func177, Tryz.ntmps177
    go_wp2_with fail
    refine (K.out).mono ?_
    rintro e w1 ⟨rfl, rfl⟩
    go_wp2
    go_ret
    exact ⟨retB E.out, rfl⟩
  · rw [hv] at K E
    cases s with
    | nil => simp [valR] at hv
    | cons c t =>
      clear hv
      have KL := Lib.hid (fun w => rletter_any c w)
      have E2 : Hid (R = letB c.toNat) := Lib.hid (by rw [← E.out]; rfl)
      have h0 : (0 : Int) < ((c :: t).length : Int) := by simp
      go_enter Tryz.func177, Tryz.ntmps177
      go_wp2_with fail
      refine (K.out).mono ?_
      rintro e w1 ⟨rfl, rfl⟩
      go_wp2_with fail
      refine (KL.out _).mono ?_
      rintro e w1 ⟨rfl, rfl⟩
      go_wp2
      go_ret
      exact ⟨retB E2.out.symm, rfl⟩
end Go.Proofs.YtoankplhahbgkaaGreat.La

namespace Go.Proofs.YtoankplhahbgkaaGreat
open Go.RowKit

theorem valR_eq (s : List UInt8) : La.valR s = La.valueB s := by
  rw [Bool.eq_iff_iff]
  have h := La.span_iff La.okVal s 0 (by omega)
  rw [Nat.zero_add] at h
  unfold La.valR La.valueB
  simp only [Bool.and_eq_true, decide_eq_true_eq, List.all_eq_true]
  rw [h]
  constructor
  · rintro ⟨ha, h1, hl⟩
    refine ⟨fun e => by subst e; simp at h1, hl, fun j b hj => ?_⟩
    exact ha b (List.mem_of_getElem? hj)
  · rintro ⟨hn, hl, ha⟩
    refine ⟨fun b hb => ?_, ?_, hl⟩
    · obtain ⟨j, hj⟩ := List.mem_iff_getElem?.1 hb
      exact ha j b hj
    · cases s with
      | nil => exact absurd rfl hn
      | cons c t => simp
theorem value3_any (s : List UInt8) (w : World) (hl : s.length ≤ 9223372036854775807) :
    Calls Tryz.prog 219 #[strV s] w fun e w' => e = .returned (.bool (La.valueB s)) ∧ w = w' := by
  rw [← valR_eq]
  exact La.rvalue_any s w hl

/-- The rows' two orders, and what each may be. -/
def mbS (star : Bool) : L2 → Bool := if star then La.borB else La.labB
def riS (star : Bool) : L2 → L2 → Bool := if star then La.pairR else La.keyR
theorem rises3_any (star : Bool) (a b : L2) (w : World) :
    Calls Tryz.prog 242 #[La.labV a, La.labV b, .bool star] w fun e w' => e = .returned (.bool (riS star a b)) ∧ Below w.heap.size w w' := by
  cases star
  all_goals
    go_enter Tryz.func242, Tryz.ntmps242
    go_wp2
    all_goals
      go_ret
      refine ⟨La.retB ?_, ((Below.refl _ _).alloc (Nat.le_refl _) _).alloc (by simp) _⟩
      simp_all [riS, La.pairR, La.keyR]

set_option maxRecDepth 100000 in
set_option maxHeartbeats 4000000 in
theorem row3_any (star : Bool) (A : Option Addr) (c : Nat) (l : List L2) (w : World) (h : ListL w A c l) :
    Calls Tryz.prog 221 #[.slice A l.length c, .bool star] w fun e w' => e = .returned (.int .i64 (La.chkA (mbS star) (riS star) l)) ∧ Below w.heap.size w w' := by
  have HS := Lib.hid h.cells
  have Hbig := Lib.hid h.big
  have hle := h.le
  have hmost := h.most
  obtain ⟨R, hR⟩ : ∃ R, La.chkA (mbS star) (riS star) l = R := ⟨_, rfl⟩
  rw [hR]
  have HR := Lib.hid hR
  clear hR h
  by_cases h6 : 6 < l.length
  · have E : Hid (R = 2) := Lib.hid (by rw [← HR.out]; unfold La.chkA; rw [if_pos (.inl h6)])
    have h6i : (6 : Int) < (l.length : Int) := by omega
    go_enter Tryz.func221, Tryz.ntmps221
    go_wp2
    go_ret
    exact ⟨La.retI E.out.symm, Below.refl _ _⟩
  · have h6i : ¬ (6 : Int) < (l.length : Int) := by omega
    have E : Hid (R = if La.chkK (mbS star) (riS star) l l.length = false then 2 else 0) := Lib.hid (by
      rw [← HR.out]
      unfold La.chkA
      by_cases hq : La.chkK (mbS star) (riS star) l l.length = false
      · rw [if_pos (.inr hq), if_pos hq]
      · rw [if_neg (fun h => h.elim h6 hq), if_neg hq])
    clear HR
    go_enter Tryz.func221, Tryz.ntmps221
    go_wp2_with fail
    go_loopw [5] (fun i wr => ∃ k : Nat, k ≤ l.length ∧ i = .int .i64 k ∧ La.chkK (mbS star) (riS star) l k = true ∧ Below w.heap.size w wr) (fun i _ => l.length - (intOf i).toNat)
    case atStart => exact ⟨0, by omega, rfl, rfl, Below.refl _ _⟩
    case round =>
      obtain ⟨k, hk, rfl, hp, hbw⟩ := hrel
      have Hp := Lib.hid hp
      have HB := Lib.hid hbw
      clear hp hbw
      by_cases hlt : k < l.length
      · obtain ⟨x, hxk⟩ : ∃ x, l[k]? = some x := ⟨l[k], List.getElem?_eq_getElem hlt⟩
        obtain ⟨b, o, hA, hb0, hx0, hx1⟩ := La.SlAt.lab (HS.out.below HB.out) hxk
        subst hA
        have Hstep : Hid (La.chkK (mbS star) (riS star) l (k + 1) = La.okAt (mbS star) (riS star) l k x) := Lib.hid (by rw [La.chkK, Hp.out, hxk]; rfl)
        have hbx := Hbig.out x (List.mem_of_getElem? hxk)
        have KN := Lib.hid (fun w => La.rname_any x.1 w hbx.1)
        have KV := Lib.hid (fun w => value3_any x.2 w hbx.2)
        have k0 : (0 : Int) ≤ (k : Int) := by omega
        have k1 : (k : Int) < (l.length : Int) := by omega
        have Hxk := Lib.hid hxk
        clear hxk hbx
        go_upto_region 6 with fail
        go_cut [42] (fun v wc => v = .bool (!(mbS star x)) ∧ wc = wr)
        case first =>
          cases hn : La.nameB x.1
          · have HE : Hid (mbS star x = false) := Lib.hid (by cases star <;> simp [mbS, La.labB, La.borB, hn])
            rw [hn] at KN
            clear hn
            go_wp2_with fail
            refine (KN.out _).mono ?_
            rintro e w1 ⟨rfl, rfl⟩
            go_wp2
            go_meet
            exact ⟨by rw [HE.out]; rfl, rfl⟩
          · rw [hn] at KN
            cases hv : La.valueB x.2
            · rw [hv] at KV
              cases star
              · have HE : Hid (mbS false x = false) := Lib.hid (by simp [mbS, La.labB, hn, hv])
                clear hn hv
                go_wp2_with fail
                refine (KN.out _).mono ?_
                rintro e w1 ⟨rfl, rfl⟩
                go_wp2_with fail
                refine (KV.out _).mono ?_
                rintro e w1 ⟨rfl, rfl⟩
                go_wp2
                go_meet
                exact ⟨by rw [HE.out]; rfl, rfl⟩
              · by_cases hs : x.2 = [42]
                · have HE : Hid (mbS true x = true) := Lib.hid (by simp [mbS, La.borB, hn, hs])
                  have hsb : (x.2 == [42]) = true := by simpa using hs
                  clear hn hv hs
                  go_wp2_with fail
                  refine (KN.out _).mono ?_
                  rintro e w1 ⟨rfl, rfl⟩
                  go_wp2_with fail
                  refine (KV.out _).mono ?_
                  rintro e w1 ⟨rfl, rfl⟩
                  go_wp2
                  go_meet
                  exact ⟨by rw [HE.out]; rfl, rfl⟩
                · have HE : Hid (mbS true x = false) := Lib.hid (by simp [mbS, La.borB, hn, hv, hs])
                  have hsb : (x.2 == [42]) = false := by simpa using hs
                  clear hn hv hs
                  go_wp2_with fail
                  refine (KN.out _).mono ?_
                  rintro e w1 ⟨rfl, rfl⟩
                  go_wp2_with fail
                  refine (KV.out _).mono ?_
                  rintro e w1 ⟨rfl, rfl⟩
                  go_wp2
                  go_meet
                  exact ⟨by rw [HE.out]; rfl, rfl⟩
            · have HE : Hid (mbS star x = true) := Lib.hid (by cases star <;> simp [mbS, La.labB, La.borB, hn, hv])
              rw [hv] at KV
              clear hn hv
              go_wp2_with fail
              refine (KN.out _).mono ?_
              rintro e w1 ⟨rfl, rfl⟩
              go_wp2_with fail
              refine (KV.out _).mono ?_
              rintro e w1 ⟨rfl, rfl⟩
              go_wp2
              go_meet
              exact ⟨by rw [HE.out]; rfl, rfl⟩
        case rest =>
          rename_i wc
          obtain ⟨rfl, rfl⟩ := hcut
          clear KN KV
          cases hm : mbS star x
          · have HE : Hid (R = 2) := Lib.hid (by
              rw [E.out, if_pos]
              exact La.chkK_false (k := k + 1) (by rw [Hstep.out]; exact La.okAt_no hm) (by omega))
            clear hm E
            go_wp2
            go_ret
            exact ⟨La.retI HE.out.symm, HB.out⟩
          · by_cases hz : k = 0
            · subst hz
              have hok := Lib.hid (La.okAt_zero (mb := mbS star) (ri := riS star) (l := l) (k := 0) hm rfl)
              clear hm
              go_wp2_with fail
              go_quiet (fail)
              go_wp2
              go_roundw
              case rel => exact ⟨1, by omega, by go_num, by rw [Hstep.out, hok.out], belowN HB.out _⟩
              case measure => simp [intOf]; omega
            · obtain ⟨y, hy⟩ : ∃ y, l[k - 1]? = some y := ⟨l[k - 1]'(by omega), List.getElem?_eq_getElem (by omega)⟩
              obtain ⟨b', o', hA', _, hy0, hy1⟩ := La.SlAt.lab (HS.out.below HB.out) hy
              simp only [Option.some.injEq, Addr.mk.injEq] at hA'
              obtain ⟨rfl, rfl, _⟩ := hA'
              have hok := Lib.hid (La.okAt_pos (mb := mbS star) (ri := riS star) (l := l) (k := k) hm hz hy)
              have hk1 : 1 ≤ k := by omega
              have n1 : (1 : Int) ≤ (k : Int) := by omega
              have n2 : (0 : Int) < (k : Int) := by omega
              have n9 : decide (0 < k) = true := decide_eq_true (by omega)
              have n10 : 0 < k := by omega
              have n3 : ((k : Int) - 1).toNat = k - 1 := by omega
              have n5 : (0 : Int) ≤ (k : Int) - 1 := by omega
              have n6 : (k : Int) - 1 < (l.length : Int) := by omega
              have n7 : ((k : Int) - 1 < 0) = False := by simp; omega
              have n8 : decide ((k : Int) - 1 < (l.length : Int)) = true := by simp; omega
              have n4 : IntKind.i64.wrap ((k : Int) - 1) = (k : Int) - 1 := IntWalk.i64_in _ (by omega)
              have KR := Lib.hid (fun w => rises3_any star y x w)
              have Hb0 := Lib.hid hb0
              clear hm hz hy
              cases hr : riS star y x
              · rw [hr] at KR
                have HE : Hid (R = 2) := Lib.hid (by
                  rw [E.out, if_pos]
                  exact La.chkK_false (k := k + 1) (by rw [Hstep.out, hok.out, hr]) (by omega))
                clear hr E
                go_wp2_with fail
                go_region_held3 (fun w' => w'.cell? ⟨b, o + (k - 1) * 2, none⟩ = some (strV y.1) ∧ w'.cell? ⟨b, o + (k - 1) * 2 + 1, none⟩ = some (strV y.2) ∧ w'.cell? ⟨b, o + k * 2, none⟩ = some (strV x.1) ∧ w'.cell? ⟨b, o + k * 2 + 1, none⟩ = some (strV x.2)) (first | exact ⟨hy0, hy1, hx0, hx1⟩ | exact ⟨py0, py1, px0, px1⟩)
                  (first | ((with_reducible refine (KR.out _).mono ?_); rintro e w3 ⟨rfl, hb3⟩; have py0 := (hb3.cell (p := ⟨b, o + (k - 1) * 2, none⟩) Hb0.out).trans hy0; have py1 := (hb3.cell (p := ⟨b, o + (k - 1) * 2 + 1, none⟩) Hb0.out).trans hy1; have px0 := (hb3.cell (p := ⟨b, o + k * 2, none⟩) Hb0.out).trans hx0; have px1 := (hb3.cell (p := ⟨b, o + k * 2 + 1, none⟩) Hb0.out).trans hx1; have HB3 := Lib.hid hb3; clear hb3))
                go_wp2
                go_ret
                exact ⟨La.retI HE.out.symm, La.below_of HB.out HB3.out⟩
              · rw [hr] at KR
                have HE := Lib.hid hr
                clear hr
                go_wp2_with fail
                go_region_held3 (fun w' => w'.cell? ⟨b, o + (k - 1) * 2, none⟩ = some (strV y.1) ∧ w'.cell? ⟨b, o + (k - 1) * 2 + 1, none⟩ = some (strV y.2) ∧ w'.cell? ⟨b, o + k * 2, none⟩ = some (strV x.1) ∧ w'.cell? ⟨b, o + k * 2 + 1, none⟩ = some (strV x.2)) (first | exact ⟨hy0, hy1, hx0, hx1⟩ | exact ⟨py0, py1, px0, px1⟩)
                  (first | ((with_reducible refine (KR.out _).mono ?_); rintro e w3 ⟨rfl, hb3⟩; have py0 := (hb3.cell (p := ⟨b, o + (k - 1) * 2, none⟩) Hb0.out).trans hy0; have py1 := (hb3.cell (p := ⟨b, o + (k - 1) * 2 + 1, none⟩) Hb0.out).trans hy1; have px0 := (hb3.cell (p := ⟨b, o + k * 2, none⟩) Hb0.out).trans hx0; have px1 := (hb3.cell (p := ⟨b, o + k * 2 + 1, none⟩) Hb0.out).trans hx1; have HB3 := Lib.hid hb3; clear hb3))
                go_wp2
                go_roundw
                case rel => exact ⟨k + 1, by omega, by go_num, by rw [Hstep.out, hok.out, HE.out], La.below_of HB.out HB3.out⟩
                case measure => simp [intOf]; omega
      · obtain rfl : k = l.length := by omega
        have HE : Hid (R = 0) := Lib.hid (by rw [E.out, if_neg]; rw [Hp.out]; decide)
        go_wp2
        go_ret
        exact ⟨La.retI HE.out.symm, HB.out⟩
set_option maxHeartbeats 400000 in
theorem check3_any (A : Option Addr) (c : Nat) (l : List L2) (w : World) (h : ListL w A c l) :
    Calls Tryz.prog 179 #[.slice A l.length c] w fun e w' => e = .returned (.int .i64 (La.chkA La.labB La.keyR l)) ∧ Below w.heap.size w w' := by
  have K := Lib.hid (row3_any false A c l w h)
  rw [show mbS false = La.labB from rfl, show riS false = La.keyR from rfl] at K
  clear h
  go_enter Tryz.func179, Tryz.ntmps179
  go_wp2_with fail
  refine K.out.mono ?_
  rintro e w1 ⟨rfl, hb⟩
  have HB := Lib.hid hb
  clear hb K
  go_wp2
  go_ret
  exact ⟨rfl, HB.out⟩
set_option maxHeartbeats 400000 in
theorem checkBears3_any (A : Option Addr) (c : Nat) (l : List L2) (w : World) (h : ListL w A c l) :
    Calls Tryz.prog 183 #[.slice A l.length c] w fun e w' => e = .returned (.int .i64 (La.chkA La.borB La.pairR l)) ∧ Below w.heap.size w w' := by
  have K := Lib.hid (row3_any true A c l w h)
  rw [show mbS true = La.borB from rfl, show riS true = La.pairR from rfl] at K
  clear h
  go_enter Tryz.func183, Tryz.ntmps183
  go_wp2_with fail
  refine K.out.mono ?_
  rintro e w1 ⟨rfl, hb⟩
  have HB := Lib.hid hb
  clear hb K
  go_wp2
  go_ret
  exact ⟨rfl, HB.out⟩

theorem name3_any (s : List UInt8) (w : World) (hl : s.length ≤ 9223372036854775807) :
    Calls Tryz.prog 177 #[strV s] w fun e w' => e = .returned (.bool (La.nameB s)) ∧ Below w.heap.size w w' :=
  (La.rname_any s w hl).mono (by rintro e w' ⟨rfl, rfl⟩; exact ⟨rfl, Below.refl _ _⟩)
theorem valued_any (k : Int) (w : World) :
    Calls Tryz.prog 222 #[.int .i64 k] w fun e w' => e = .returned (.bool (decide (k = 1 ∨ k = 2))) ∧ w = w' := by
  by_cases h1 : k = 1
  · subst h1
    go_enter Tryz.func222, Tryz.ntmps222
    go_wp2
    go_ret
    exact ⟨rfl, rfl⟩
  · have h1b : (k == 1) = false := by simpa using h1
    have e : decide (k = 1 ∨ k = 2) = decide (k = 2) := by simp [h1]
    rw [e]
    clear e
    go_enter Tryz.func222, Tryz.ntmps222
    go_wp2
    go_ret
    refine ⟨La.retB ?_, rfl⟩
    rw [Bool.eq_iff_iff]
    simp
theorem okAt_ter (l : List T3) (k : Nat) (x : T3) : La.okAt La.terB La.anyR l k x = La.terB x := by
  unfold La.okAt La.anyR
  cases l[k - 1]? <;> simp

set_option maxRecDepth 100000 in
set_option maxHeartbeats 4000000 in
theorem terms3_any (A : Option Addr) (c : Nat) (l : List T3) (w : World) (h : ListT w A c l) :
    Calls Tryz.prog 182 #[.slice A l.length c] w fun e w' => e = .returned (.int .i64 (La.chkA La.terB La.anyR l)) ∧ Below w.heap.size w w' := by
  have HS := Lib.hid h.cells
  have Hbig := Lib.hid h.big
  have hle := h.le
  have hmost := h.most
  obtain ⟨R, hR⟩ : ∃ R, La.chkA La.terB La.anyR l = R := ⟨_, rfl⟩
  rw [hR]
  have HR := Lib.hid hR
  clear hR h
  by_cases h6 : 6 < l.length
  · have E : Hid (R = 2) := Lib.hid (by rw [← HR.out]; unfold La.chkA; rw [if_pos (.inl h6)])
    have h6i : (6 : Int) < (l.length : Int) := by omega
    go_enter Tryz.func182, Tryz.ntmps182
    go_wp2
    go_ret
    exact ⟨La.retI E.out.symm, Below.refl _ _⟩
  · have h6i : ¬ (6 : Int) < (l.length : Int) := by omega
    have E : Hid (R = if La.chkK La.terB La.anyR l l.length = false then 2 else 0) := Lib.hid (by
      rw [← HR.out]
      unfold La.chkA
      by_cases hq : La.chkK La.terB La.anyR l l.length = false
      · rw [if_pos (.inr hq), if_pos hq]
      · rw [if_neg (fun h => h.elim h6 hq), if_neg hq])
    clear HR
    go_enter Tryz.func182, Tryz.ntmps182
    go_wp2_with fail
    go_loopw [3] (fun i wr => ∃ k : Nat, k ≤ l.length ∧ i = .int .i64 k ∧ La.chkK La.terB La.anyR l k = true ∧ Below w.heap.size w wr) (fun i _ => l.length - (intOf i).toNat)
    case atStart => exact ⟨0, by omega, rfl, rfl, Below.refl _ _⟩
    case round =>
      obtain ⟨k, hk, rfl, hp, hbw⟩ := hrel
      have Hp := Lib.hid hp
      have HB := Lib.hid hbw
      clear hp hbw
      by_cases hlt : k < l.length
      · obtain ⟨x, hxk⟩ : ∃ x, l[k]? = some x := ⟨l[k], List.getElem?_eq_getElem hlt⟩
        obtain ⟨b, o, hA, hb0, hx0, hx1, hx2⟩ := La.SlAt.ter (HS.out.below HB.out) hxk
        subst hA
        have Hstep : Hid (La.chkK La.terB La.anyR l (k + 1) = La.terB x) := Lib.hid (by rw [La.chkK, Hp.out, hxk]; simp only [okAt_ter, Bool.true_and])
        have hbx := Hbig.out x (List.mem_of_getElem? hxk)
        have KN := Lib.hid (fun w => La.rname_any x.2.1 w hbx.1)
        have KV := Lib.hid (fun w => value3_any x.2.2 w hbx.2)
        have KD := Lib.hid (fun w => valued_any x.1 w)
        have k0 : (0 : Int) ≤ (k : Int) := by omega
        have k1 : (k : Int) < (l.length : Int) := by omega
        have Hxk := Lib.hid hxk
        have B2 := Lib.hid (HB.out.alloc HB.out.size (.cells #[.int .i64 x.1, strV x.2.1, strV x.2.2] 85))
        have P2 : Hid (Blk (wr.alloc (.cells #[.int .i64 x.1, strV x.2.1, strV x.2.2] 85)) wr.heap.size #[.int .i64 x.1, strV x.2.1, strV x.2.2] 85) := Lib.hid (Blk.new wr _ _)
        clear hxk hbx
        go_upto_region 7 with fail
        change Code.wp _ _ _ _ (wr.alloc (.cells #[.int .i64 x.1, strV x.2.1, strV x.2.2] 85))
        generalize (wr.alloc (.cells #[.int .i64 x.1, strV x.2.1, strV x.2.2] 85)) = W at B2 P2 ⊢
        go_cut [53] (fun v wc => v = .bool (!(La.terB x)) ∧ wc = W)
        case first =>
          clear hx0 hx1 hx2
          have p0 : W.cell? ⟨wr.heap.size, 0, none⟩ = some (.int .i64 x.1) := Blk.cell P2.out 0
          have p1 : W.cell? ⟨wr.heap.size, 1, none⟩ = some (strV x.2.1) := Blk.cell P2.out 1
          have p2 : W.cell? ⟨wr.heap.size, 2, none⟩ = some (strV x.2.2) := Blk.cell P2.out 2
          obtain ⟨t, a, v⟩ := x
          dsimp only at KN KV KD p0 p1 p2 ⊢
          by_cases t1 : t < 1
          · have HE : Hid (La.terB (t, a, v) = false) := Lib.hid (by unfold La.terB; rw [if_neg (by dsimp only; omega), if_neg (by dsimp only; omega)])
            go_wp2
            go_meet
            exact ⟨by rw [HE.out]; rfl, rfl⟩
          by_cases t4 : 4 < t
          · have HE : Hid (La.terB (t, a, v) = false) := Lib.hid (by unfold La.terB; rw [if_neg (by dsimp only; omega), if_neg (by dsimp only; omega)])
            go_wp2
            go_meet
            exact ⟨by rw [HE.out]; rfl, rfl⟩
          cases hn : La.nameB a
          · have HE : Hid (La.terB (t, a, v) = false) := Lib.hid (by unfold La.terB; rw [hn]; simp)
            rw [hn] at KN
            clear hn
            go_wp2_with fail
            refine (KN.out _).mono ?_
            rintro e w1 ⟨rfl, rfl⟩
            go_wp2
            go_meet
            exact ⟨by rw [HE.out]; rfl, rfl⟩
          rw [hn] at KN
          by_cases t2 : t = 1 ∨ t = 2
          · rw [decide_eq_true t2] at KD
            cases hv : La.valueB v
            · have HE : Hid (La.terB (t, a, v) = false) := Lib.hid (by unfold La.terB; rw [if_pos t2, hn, hv]; rfl)
              rw [hv] at KV
              clear hn hv t2
              go_wp2_with fail
              refine (KN.out _).mono ?_
              rintro e w1 ⟨rfl, rfl⟩
              go_wp2_with fail
              refine (KD.out _).mono ?_
              rintro e w1 ⟨rfl, rfl⟩
              go_wp2_with fail
              refine (KV.out _).mono ?_
              rintro e w1 ⟨rfl, rfl⟩
              go_wp2
              go_meet
              exact ⟨by rw [HE.out]; rfl, rfl⟩
            · have HE : Hid (La.terB (t, a, v) = true) := Lib.hid (by unfold La.terB; rw [if_pos t2, hn, hv]; rfl)
              rw [hv] at KV
              clear hn hv t2
              go_wp2_with fail
              refine (KN.out _).mono ?_
              rintro e w1 ⟨rfl, rfl⟩
              go_wp2_with fail
              refine (KD.out _).mono ?_
              rintro e w1 ⟨rfl, rfl⟩
              go_wp2_with fail
              refine (KV.out _).mono ?_
              rintro e w1 ⟨rfl, rfl⟩
              go_wp2_with fail
              refine (KD.out _).mono ?_
              rintro e w1 ⟨rfl, rfl⟩
              go_wp2
              go_meet
              exact ⟨by rw [HE.out]; rfl, rfl⟩
          · rw [decide_eq_false t2] at KD
            have HE : Hid (La.terB (t, a, v) = decide (v = [])) := Lib.hid (by unfold La.terB; rw [if_neg t2, if_pos (by dsimp only; omega), hn]; rfl)
            clear hn t2
            by_cases hs : v = []
            · subst hs
              go_wp2_with fail
              refine (KN.out _).mono ?_
              rintro e w1 ⟨rfl, rfl⟩
              go_wp2_with fail
              refine (KD.out _).mono ?_
              rintro e w1 ⟨rfl, rfl⟩
              go_wp2_with fail
              refine (KD.out _).mono ?_
              rintro e w1 ⟨rfl, rfl⟩
              go_wp2
              go_meet
              exact ⟨by rw [HE.out]; rfl, rfl⟩
            · have h1 : v.isEmpty = false := by simpa using hs
              have h2 : (v == []) = false := by simpa using hs
              have h3 : (v != []) = true := by simpa using hs
              rw [decide_eq_false hs] at HE
              clear hs
              go_wp2_with fail
              refine (KN.out _).mono ?_
              rintro e w1 ⟨rfl, rfl⟩
              go_wp2_with fail
              refine (KD.out _).mono ?_
              rintro e w1 ⟨rfl, rfl⟩
              go_wp2_with fail
              refine (KD.out _).mono ?_
              rintro e w1 ⟨rfl, rfl⟩
              go_wp2
              go_meet
              exact ⟨by rw [HE.out]; rfl, rfl⟩
        case rest =>
          rename_i wc
          obtain ⟨rfl, rfl⟩ := hcut
          clear KN KV KD hx0 hx1 hx2
          cases hm : La.terB x
          · have HE : Hid (R = 2) := Lib.hid (by
              rw [E.out, if_pos]
              exact La.chkK_false (k := k + 1) (by rw [Hstep.out, hm]) (by omega))
            clear hm E
            go_wp2
            go_ret
            exact ⟨La.retI HE.out.symm, B2.out⟩
          · have hok := Lib.hid hm
            clear hm
            go_wp2_with fail
            go_roundw
            case rel => exact ⟨k + 1, by omega, by go_num, by rw [Hstep.out, hok.out], B2.out⟩
            case measure => simp [intOf]; omega
      · obtain rfl : k = l.length := by omega
        have HE : Hid (R = 0) := Lib.hid (by rw [E.out, if_neg]; rw [Hp.out]; decide)
        go_wp2
        go_ret
        exact ⟨La.retI HE.out.symm, HB.out⟩
end Go.Proofs.YtoankplhahbgkaaGreat

namespace Go.Proofs.YtoankplhahbgkaaGreat
open Go.RowKit

set_option maxHeartbeats 1000000 in
theorem node3_any (x : NodeD) (w : World) (hx : x.fit w) :
    Calls Tryz.prog 144 #[valN x] w fun e w' => e = .returned (.bool (nodeB x)) ∧ Below w.heap.size w w' := by
  have KV := Lib.hid (fun w => Qu.rvcheck_any x.cap w)
  have HX := Lib.hid hx
  have K1 : Hid (∀ w', Below w.heap.size w w' → Calls Tryz.prog 179 #[.slice x.al x.labels.length x.cl] w' fun e w'' => e = .returned (.int .i64 (La.chkA La.labB La.keyR x.labels)) ∧ Below w'.heap.size w' w'') := Lib.hid (fun w' hb => by
    have h := hx.l.below hb
    exact check3_any x.al x.cl x.labels w' h)
  have K2 : Hid (∀ w', Below w.heap.size w w' → Calls Tryz.prog 179 #[.slice x.at_ x.taints.length x.ct] w' fun e w'' => e = .returned (.int .i64 (La.chkA La.labB La.keyR x.taints)) ∧ Below w'.heap.size w' w'') := Lib.hid (fun w' hb => by
    have h := hx.t.below hb
    exact check3_any x.at_ x.ct x.taints w' h)
  have B0 : Hid (Below w.heap.size w (w.alloc (.cells (cellsN [x]).toArray 83))) := Lib.hid (below1 w _)
  have Q0 : Hid (Blk (w.alloc (.cells (cellsN [x]).toArray 83)) w.heap.size (cellsN [x]).toArray 83) := Lib.hid (Blk.new w _ _)
  have hlt0 : w.heap.size < (w.alloc (.cells (cellsN [x]).toArray 83)).heap.size := Blk.lt Q0.out
  have E : Hid (nodeB x = ((Qu.chkV x.cap == 0) && (La.chkA La.labB La.keyR x.labels == 0) && (La.chkA La.labB La.keyR x.taints == 0))) := Lib.hid rfl
  generalize nodeB x = R at E ⊢
  generalize Qu.chkV x.cap = v1 at KV E
  generalize La.chkA La.labB La.keyR x.labels = v2 at K1 E
  generalize La.chkA La.labB La.keyR x.taints = v3 at K2 E
  clear hx
  go_enter Tryz.func144, Tryz.ntmps144
  go_wp2_with fail
  refine (KV.out _).mono ?_
  rintro e w2 ⟨rfl, hb⟩
  have Q2 := Lib.hid (Q0.out.below hb hlt0)
  have B2 := Lib.hid (B0.out.trans (hb.mono (Nat.le_of_lt hlt0)))
  clear hb KV
  have hl2 := Blk.lt Q2.out
  have c6 : w2.cell? ⟨w.heap.size, 6, none⟩ = some (.slice x.al x.labels.length x.cl) := Blk.cell Q2.out 6
  cases h1 : (v1 == 0)
  · have HE : Hid (R = false) := Lib.hid (by rw [E.out, h1]; rfl)
    have h1' : (v1 != 0) = true := by simpa using h1
    go_wp2
    go_ret
    exact ⟨La.retB HE.out.symm, B2.out⟩
  · have h1' : (v1 != 0) = false := by simpa using h1
    go_wp2_with fail
    refine (K1.out _ B2.out).mono ?_
    rintro e w3 ⟨rfl, hb⟩
    have Q3 := Lib.hid (Q2.out.below hb hl2)
    have B3 := Lib.hid (B2.out.trans (hb.mono (Nat.le_of_lt hl2)))
    clear hb K1 c6
    have hl3 := Blk.lt Q3.out
    have c7 : w3.cell? ⟨w.heap.size, 7, none⟩ = some (.slice x.at_ x.taints.length x.ct) := Blk.cell Q3.out 7
    cases h2 : (v2 == 0)
    · have HE : Hid (R = false) := Lib.hid (by rw [E.out, h1, h2]; rfl)
      have h2' : (v2 != 0) = true := by simpa using h2
      go_wp2
      go_ret
      exact ⟨La.retB HE.out.symm, B3.out⟩
    · have h2' : (v2 != 0) = false := by simpa using h2
      go_wp2_with fail
      refine (K2.out _ B3.out).mono ?_
      rintro e w4 ⟨rfl, hb⟩
      have B4 := Lib.hid (B3.out.trans (hb.mono (Nat.le_of_lt hl3)))
      clear hb K2 c7
      have HE : Hid (R = (v3 == 0)) := Lib.hid (by rw [E.out, h1, h2]; rfl)
      clear h1 h1' h2 h2'
      go_wp2
      go_ret
      exact ⟨La.retB HE.out.symm, B4.out⟩

set_option maxHeartbeats 1000000 in
theorem near3_any (topo : List UInt8) (l : List T3) (a : Option Addr) (c : Nat) (w : World) (h : ListT w a c l) (ht : topo.length ≤ 9223372036854775807) :
    Calls Tryz.prog 184 #[valNear topo l a c] w fun e w' => e = .returned (.bool (nearB topo l)) ∧ Below w.heap.size w w' := by
  have KN := Lib.hid (fun w => name3_any topo w ht)
  have K1 : Hid (∀ w', Below w.heap.size w w' → Calls Tryz.prog 182 #[.slice a l.length c] w' fun e w'' => e = .returned (.int .i64 (La.chkA La.terB La.anyR l)) ∧ Below w'.heap.size w' w'') := Lib.hid (fun w' hb => by
    have h := h.below hb
    exact terms3_any a c l w' h)
  have B0 : Hid (Below w.heap.size w (w.alloc (.cells #[strV topo, .slice a l.length c] 60))) := Lib.hid (below1 w _)
  have Q0 : Hid (Blk (w.alloc (.cells #[strV topo, .slice a l.length c] 60)) w.heap.size #[strV topo, .slice a l.length c] 60) := Lib.hid (Blk.new w _ _)
  have hlt0 : w.heap.size < (w.alloc (.cells #[strV topo, .slice a l.length c] 60)).heap.size := Blk.lt Q0.out
  have E : Hid (nearB topo l = (if topo = [] then decide (l.length = 0) else La.nameB topo && (La.chkA La.terB La.anyR l == 0))) := Lib.hid rfl
  generalize nearB topo l = R at E ⊢
  generalize La.chkA La.terB La.anyR l = v1 at K1 E
  generalize La.nameB topo = v0 at KN E
  clear h
  by_cases htp : topo = []
  · subst htp
    have HE : Hid (R = decide (l.length = 0)) := Lib.hid (by rw [E.out, if_pos rfl])
    clear KN K1 E
    go_enter Tryz.func184, Tryz.ntmps184
    go_wp2
    go_ret
    refine ⟨La.retB ?_, B0.out⟩
    rw [HE.out, Bool.eq_iff_iff]
    simp
  · have HE : Hid (R = (v0 && (v1 == 0))) := Lib.hid (by rw [E.out, if_neg htp])
    have h1 : topo.isEmpty = false := by simpa using htp
    have h2 : (!topo.isEmpty) = true := by simpa using htp
    have HT := Lib.hid htp
    clear htp E
    go_enter Tryz.func184, Tryz.ntmps184
    go_wp2_with fail
    refine (KN.out _).mono ?_
    rintro e w2 ⟨rfl, hb⟩
    have Q2 := Lib.hid (Q0.out.below hb hlt0)
    have B2 := Lib.hid (B0.out.trans (hb.mono (Nat.le_of_lt hlt0)))
    clear hb KN
    have c1 : w2.cell? ⟨w.heap.size, 1, none⟩ = some (.slice a l.length c) := Blk.cell Q2.out 1
    have hl2 := Blk.lt Q2.out
    cases v0
    · go_wp2
      go_ret
      exact ⟨La.retB (by rw [HE.out]; rfl), B2.out⟩
    · go_wp2_with fail
      refine (K1.out _ B2.out).mono ?_
      rintro e w3 ⟨rfl, hb⟩
      have B3 := Lib.hid (B2.out.trans (hb.mono (Nat.le_of_lt hl2)))
      clear hb K1 c1
      go_wp2
      go_ret
      exact ⟨La.retB (by rw [HE.out]; rfl), B3.out⟩

set_option maxHeartbeats 1000000 in
theorem owner3_any (x : OwnD) (w : World) (hx : x.fit) :
    Calls Tryz.prog 146 #[valO x] w fun e w' => e = .returned (.bool (ownB x)) ∧ Below w.heap.size w w' := by
  have KN := Lib.hid (fun w => name3_any x.topo w hx.t)
  have B0 : Hid (Below w.heap.size w (w.alloc (.cells (cellsO [x]).toArray 64))) := Lib.hid (below1 w _)
  have Q0 : Hid (Blk (w.alloc (.cells (cellsO [x]).toArray 64)) w.heap.size (cellsO [x]).toArray 64) := Lib.hid (Blk.new w _ _)
  have hlt0 : w.heap.size < (w.alloc (.cells (cellsO [x]).toArray 64)).heap.size := Blk.lt Q0.out
  obtain ⟨nm, mn, tp, sk, sg⟩ := x
  have E : Hid (ownB ⟨nm, mn, tp, sk, sg⟩ = (if mn < 0 ∨ 24 < mn then false else if tp = [] then decide (sk = 0) else La.nameB tp && decide (1 ≤ sk ∧ sk ≤ 24))) := Lib.hid rfl
  generalize ownB ⟨nm, mn, tp, sk, sg⟩ = R at E ⊢
  simp only at KN
  generalize La.nameB tp = v0 at KN E
  clear hx
  by_cases h1 : mn < 0
  · have HE : Hid (R = false) := Lib.hid (by rw [E.out, if_pos (.inl h1)])
    clear E KN
    go_enter Tryz.func146, Tryz.ntmps146
    go_wp2
    go_ret
    exact ⟨La.retB HE.out.symm, B0.out⟩
  by_cases h2 : 24 < mn
  · have HE : Hid (R = false) := Lib.hid (by rw [E.out, if_pos (.inr h2)])
    clear E KN
    go_enter Tryz.func146, Tryz.ntmps146
    go_wp2
    go_ret
    exact ⟨La.retB HE.out.symm, B0.out⟩
  by_cases htp : tp = []
  · subst htp
    have HE : Hid (R = decide (sk = 0)) := Lib.hid (by rw [E.out, if_neg (by omega), if_pos rfl])
    clear E KN
    go_enter Tryz.func146, Tryz.ntmps146
    go_wp2
    go_ret
    refine ⟨La.retB ?_, B0.out⟩
    rw [HE.out, Bool.eq_iff_iff]
    simp
  · have HE : Hid (R = (v0 && decide (1 ≤ sk ∧ sk ≤ 24))) := Lib.hid (by rw [E.out, if_neg (by omega), if_neg htp])
    have h3 : tp.isEmpty = false := by simpa using htp
    have h4 : (!tp.isEmpty) = true := by simpa using htp
    have HT := Lib.hid htp
    clear htp E
    go_enter Tryz.func146, Tryz.ntmps146
    go_wp2_with fail
    refine (KN.out _).mono ?_
    rintro e w2 ⟨rfl, hb⟩
    have Q2 := Lib.hid (Q0.out.below hb hlt0)
    have B2 := Lib.hid (B0.out.trans (hb.mono (Nat.le_of_lt hlt0)))
    clear hb KN
    have c3 : w2.cell? ⟨w.heap.size, 3, none⟩ = some (.int .i64 sk) := Blk.cell Q2.out 3
    cases v0
    · go_wp2
      go_ret
      exact ⟨La.retB (by rw [HE.out]; rfl), B2.out⟩
    · go_wp2
      all_goals
        go_ret
        refine ⟨La.retB ?_, B2.out⟩
        rw [HE.out, Bool.eq_iff_iff]
        simp
        try omega
end Go.Proofs.YtoankplhahbgkaaGreat
