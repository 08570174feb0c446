/- What each makes of a cluster's lists: rows. Condition: the list lies in memory. -/
import Derived.Test.YtfnigiiocapceaaGreatNMay
import Derived.Test.YtfnigiiocapceaaGreatVecPlusM
import Derived.Laws.Cover3
namespace Go.Proofs.YtfnigiiocapceaaGreat
open Go.RowKit

abbrev rowC (x : Nat → Int) : List Value := [.int .i64 (x 0), .int .i64 (x 1), .int .i64 (x 2), .int .i64 (x 3), .int .i64 (x 4)]
theorem vec_info : (Tryz.prog.info? 33).map (fun i => (i.zero, i.size, i.bytes)) = some (some (.agg #[.int .i64 0, .int .i64 0, .int .i64 0, .int .i64 0, .int .i64 0]), 5, 40) := by kernel_rfl
/-- A slice of n rows of noughts is made. -/
theorem run_vecs (w : World) (n : Nat) (hn : n ≤ 1000000) : (Instr.makeSlice 94 (.int .i64 (n : Int)) (.int .i64 (n : Int))).run Tryz.prog w = .ok (.slice (some ⟨w.heap.size, 0, none⟩) n n) (w.alloc (.cells (madeCells #[.int .i64 0, .int .i64 0, .int .i64 0, .int .i64 0, .int .i64 0] (n * 5)) 33)) := by
  cases hi : Tryz.prog.info? 33 with
  | none => have h := vec_info; rw [hi] at h; cases h
  | some i =>
    have h := vec_info
    rw [hi] at h
    simp only [Option.map_some, Option.some.injEq, Prod.mk.injEq] at h
    obtain ⟨h0, h1, h2⟩ := h
    have k := run_make (P := Tryz.prog) w 94 33 i (.agg #[.int .i64 0, .int .i64 0, .int .i64 0, .int .i64 0, .int .i64 0]) Tryz.underlying94 hi h0 .i64 .i64 n n (by omega) (by omega) (by rw [h2]; omega) (by omega)
    simpa [h1, Value.cells] using k

theorem flat5_len {α : Type} (f : α → Nat → Int) : ∀ l : List α, (l.flatMap fun x => rowC (f x)).length = l.length * 5
  | [] => rfl
  | x :: t => by
    have := flat5_len f t
    rw [List.flatMap_cons, List.length_append, this]
    simp only [List.length_cons, List.length_nil]
    omega
theorem flat5_at {α : Type} (f : α → Nat → Int) : ∀ (l : List α) (j i : Nat) (x : α), l[j]? = some x → i < 5 → (l.flatMap fun x => rowC (f x))[j * 5 + i]? = (rowC (f x))[i]?
  | [], j, i, x, h, _ => by simp at h
  | y :: t, 0, i, x, h, hi => by
    simp only [List.getElem?_cons_zero, Option.some.injEq] at h
    subst h
    rw [List.flatMap_cons, Nat.zero_mul, Nat.zero_add, List.getElem?_append_left (by simpa using hi)]
  | y :: t, j + 1, i, x, h, hi => by
    rw [List.flatMap_cons, show (j + 1) * 5 + i = 5 + (j * 5 + i) by omega, List.getElem?_append_right (by simp)]
    simp only [List.length_cons, List.length_nil]
    rw [show 5 + (j * 5 + i) - (0 + 1 + 1 + 1 + 1 + 1) = j * 5 + i by omega]
    exact flat5_at f t j i x (by simpa using h) hi
theorem DestAt.set5 {w : World} {B n t k : Nat} {g : Nat → List Value} (h : DestAt w B n 5 t k g) (hk : k < n) (v0 v1 v2 v3 v4 : Value) (hv : g k = [v0, v1, v2, v3, v4]) :
    DestAt (((((w.setCell ⟨B, k * 5, none⟩ v0).setCell ⟨B, k * 5 + 1, none⟩ v1).setCell ⟨B, k * 5 + 2, none⟩ v2).setCell ⟨B, k * 5 + 3, none⟩ v3).setCell ⟨B, k * 5 + 4, none⟩ v4) B n 5 t (k + 1) g := by
  obtain ⟨cs, hb, hs, hz⟩ := h
  refine ⟨((((cs.setIfInBounds (k * 5) v0).setIfInBounds (k * 5 + 1) v1).setIfInBounds (k * 5 + 2) v2).setIfInBounds (k * 5 + 3) v3).setIfInBounds (k * 5 + 4) v4,
    heap_setCell_same _ B _ _ _ _ (heap_setCell_same _ B _ _ _ _ (heap_setCell_same _ B _ _ _ _ (heap_setCell_same _ B _ _ _ _ (heap_setCell_same _ B _ _ _ _ hb)))), by simpa using hs, fun j hj i hi => ?_⟩
  by_cases hjk : j = k
  · subst hjk
    rw [hv]
    have e : i = 0 ∨ i = 1 ∨ i = 2 ∨ i = 3 ∨ i = 4 := by omega
    rcases e with rfl | rfl | rfl | rfl | rfl
    all_goals simp [Array.getElem?_setIfInBounds]; omega
  · have hlt : j * 5 + i < k * 5 := by omega
    rw [Array.getElem?_setIfInBounds_ne (by omega), Array.getElem?_setIfInBounds_ne (by omega), Array.getElem?_setIfInBounds_ne (by omega), Array.getElem?_setIfInBounds_ne (by omega), Array.getElem?_setIfInBounds_ne (by omega)]
    exact hz j (by omega) i hi

set_option maxRecDepth 100000 in
set_option maxHeartbeats 2000000 in
theorem eachNV (A : Option Addr) (c : Nat) (l : List NodeD) (g : FuncId) (w : World) (hl : l.length ≤ 1000) (hs : La.SlAt w A (cellsN l)) (hn : A = none → l = [])
    (hg : ∀ args w, (callFunc g args).run Tryz.prog w = .ok (.enter g args) w)
    (hK : ∀ (x : NodeD) (w : World), Calls Tryz.prog g #[valN x] w fun e w' => e = .returned (rowV x.cap) ∧ Below w.heap.size w w') :
    Calls Tryz.prog 59 #[.slice A l.length c, .func (Fn.func g) #[] #[]] w fun e w' => ∃ v, e = .returned v ∧ w'.ownsRow w.heap.size 33 5 v l.length (l.flatMap fun x => rowC x.cap) ∧ Below w.heap.size w w' := by
  cases A with
  | none =>
    obtain rfl := hn rfl
    have hnl := fun w => run_eqnil (P := Tryz.prog) (w := w) 22 73 none 0 c Tryz.underlying22
    clear hs hn hK
    go_enter Tryz.func59, Tryz.ntmps59
    go_wp2
    go_ret
    exact ⟨_, rfl, World.ownsRow_nil _ _ _ _, Below.refl _ _⟩
  | some a =>
    have HS := Lib.hid hs
    clear hs hn
    have hmk := run_vecs w l.length (by omega)
    have hnl := fun w => run_eqnil (P := Tryz.prog) (w := w) 22 73 (some a) l.length c Tryz.underlying22
    go_enter Tryz.func59, Tryz.ntmps59
    go_wp2_with fail
    clear hmk hnl
    go_loopw [15] (fun i wr => ∃ k : Nat, k ≤ l.length ∧ i = .int .i64 k ∧ DestAt wr w.heap.size l.length 5 33 k (fun j => rowC ((l.map (·.cap)).getD j (fun _ => 0))) ∧ Below w.heap.size w wr) (fun i _ => l.length - (intOf i).toNat)
    case atStart => exact ⟨0, by omega, rfl, ⟨_, heap_alloc_new _ _, by rw [size_madeCells], fun j hj => by omega⟩, below1 w _⟩
    case round =>
      obtain ⟨k, hk, rfl, hd, hb⟩ := hrel
      have HD := Lib.hid hd
      have HB := Lib.hid hb
      have hsz := hd.lt
      clear hd hb
      by_cases hlt : k < l.length
      · obtain ⟨x, hx⟩ : ∃ x, l[k]? = some x := ⟨l[k], List.getElem?_eq_getElem hlt⟩
        obtain ⟨b, o, hA, hbl, c0, c1, c2, c3, c4, c5, c6, c7, c8, c9⟩ := atN (HS.out.below HB.out) hx
        cases hA
        have k0 : (0 : Int) ≤ (k : Int) := by omega
        have k1 : (k : Int) < (l.length : Int) := by omega
        have hgd : (l.map (·.cap)).getD k (fun _ => 0) = x.cap := by simp [List.getD_eq_getElem?_getD, hx]
        have HG := Lib.hid hgd
        have KX := Lib.hid (hK x)
        clear hx hgd
        go_wp2_with fail
        refine (KX.out _).mono ?_
        rintro e w3 ⟨rfl, hb3⟩
        have D3 := Lib.hid ((HD.out.alloc (.cells (cellsN [x]).toArray 73)).below hb3 (Nat.lt_of_lt_of_le hsz (by simp)))
        have B3 := Lib.hid ((HB.out.alloc HB.out.size (.cells (cellsN [x]).toArray 73)).trans (hb3.mono (Nat.le_trans (Nat.le_of_lt hsz) (by simp))))
        clear hb3 KX c0 c1 c2 c3 c4 c5 c6 c7 c8 c9
        obtain ⟨v0, h0⟩ := D3.out.has (i := k * 5) (by omega)
        obtain ⟨v1, h1⟩ := D3.out.has (i := k * 5 + 1) (by omega)
        obtain ⟨v2, h2⟩ := D3.out.has (i := k * 5 + 2) (by omega)
        obtain ⟨v3, h3⟩ := D3.out.has (i := k * 5 + 3) (by omega)
        obtain ⟨v4, h4⟩ := D3.out.has (i := k * 5 + 4) (by omega)
        have f0 := D3.out.free (k * 5)
        have f1 := D3.out.free (k * 5 + 1)
        have f2 := D3.out.free (k * 5 + 2)
        have f3 := D3.out.free (k * 5 + 3)
        have f4 := D3.out.free (k * 5 + 4)
        go_wp2
        go_roundw
        case rel => exact ⟨k + 1, by omega, by go_num, DestAt.set5 D3.out hlt _ _ _ _ _ (by show rowC ((l.map (·.cap)).getD k (fun _ => 0)) = _; rw [HG.out]), ((((B3.out.setCell (p := ⟨w.heap.size, k * 5, none⟩) (Nat.le_refl _) _).setCell (p := ⟨w.heap.size, k * 5 + 1, none⟩) (Nat.le_refl _) _).setCell (p := ⟨w.heap.size, k * 5 + 2, none⟩) (Nat.le_refl _) _).setCell (p := ⟨w.heap.size, k * 5 + 3, none⟩) (Nat.le_refl _) _).setCell (p := ⟨w.heap.size, k * 5 + 4, none⟩) (Nat.le_refl _) _⟩
        case measure => simp [intOf]; omega
      · obtain rfl : k = l.length := by omega
        go_wp2
        go_ret
        refine ⟨_, rfl, HD.out.own (Nat.le_refl _) (by unfold maxLen; omega) _ (flat5_len (·.cap) l) (fun j hj i hi => ?_) (by omega), HB.out⟩
        rw [flat5_at (·.cap) l j i _ (List.getElem?_eq_getElem hj) hi]
        simp [List.getD_eq_getElem?_getD, List.getElem?_eq_getElem hj]
set_option maxRecDepth 100000 in
set_option maxHeartbeats 2000000 in
theorem eachPV (A : Option Addr) (c : Nat) (l : List PodD) (g : FuncId) (w : World) (hl : l.length ≤ 1000) (hs : La.SlAt w A (cellsP l)) (hn : A = none → l = [])
    (hg : ∀ args w, (callFunc g args).run Tryz.prog w = .ok (.enter g args) w)
    (hK : ∀ (x : PodD) (w : World), Calls Tryz.prog g #[valP x] w fun e w' => e = .returned (rowV x.req) ∧ Below w.heap.size w w') :
    Calls Tryz.prog 61 #[.slice A l.length c, .func (Fn.func g) #[] #[]] w fun e w' => ∃ v, e = .returned v ∧ w'.ownsRow w.heap.size 33 5 v l.length (l.flatMap fun x => rowC x.req) ∧ Below w.heap.size w w' := by
  cases A with
  | none =>
    obtain rfl := hn rfl
    have hnl := fun w => run_eqnil (P := Tryz.prog) (w := w) 23 62 none 0 c Tryz.underlying23
    clear hs hn hK
    go_enter Tryz.func61, Tryz.ntmps61
    go_wp2
    go_ret
    exact ⟨_, rfl, World.ownsRow_nil _ _ _ _, Below.refl _ _⟩
  | some a =>
    have HS := Lib.hid hs
    clear hs hn
    have hmk := run_vecs w l.length (by omega)
    have hnl := fun w => run_eqnil (P := Tryz.prog) (w := w) 23 62 (some a) l.length c Tryz.underlying23
    go_enter Tryz.func61, Tryz.ntmps61
    go_wp2_with fail
    clear hmk hnl
    go_loopw [15] (fun i wr => ∃ k : Nat, k ≤ l.length ∧ i = .int .i64 k ∧ DestAt wr w.heap.size l.length 5 33 k (fun j => rowC ((l.map (·.req)).getD j (fun _ => 0))) ∧ Below w.heap.size w wr) (fun i _ => l.length - (intOf i).toNat)
    case atStart => exact ⟨0, by omega, rfl, ⟨_, heap_alloc_new _ _, by rw [size_madeCells], fun j hj => by omega⟩, below1 w _⟩
    case round =>
      obtain ⟨k, hk, rfl, hd, hb⟩ := hrel
      have HD := Lib.hid hd
      have HB := Lib.hid hb
      have hsz := hd.lt
      clear hd hb
      by_cases hlt : k < l.length
      · obtain ⟨x, hx⟩ : ∃ x, l[k]? = some x := ⟨l[k], List.getElem?_eq_getElem hlt⟩
        obtain ⟨b, o, hA, hbl, c0, c1, c2, c3, c4, c5, c6, c7, c8, c9, c10, c11, c12, c13, c14⟩ := atP (HS.out.below HB.out) hx
        cases hA
        have k0 : (0 : Int) ≤ (k : Int) := by omega
        have k1 : (k : Int) < (l.length : Int) := by omega
        have hgd : (l.map (·.req)).getD k (fun _ => 0) = x.req := by simp [List.getD_eq_getElem?_getD, hx]
        have HG := Lib.hid hgd
        have KX := Lib.hid (hK x)
        clear hx hgd
        go_wp2_with fail
        refine (KX.out _).mono ?_
        rintro e w3 ⟨rfl, hb3⟩
        have D3 := Lib.hid ((HD.out.alloc (.cells (cellsP [x]).toArray 62)).below hb3 (Nat.lt_of_lt_of_le hsz (by simp)))
        have B3 := Lib.hid ((HB.out.alloc HB.out.size (.cells (cellsP [x]).toArray 62)).trans (hb3.mono (Nat.le_trans (Nat.le_of_lt hsz) (by simp))))
        clear hb3 KX c0 c1 c2 c3 c4 c5 c6 c7 c8 c9 c10 c11 c12 c13 c14
        obtain ⟨v0, h0⟩ := D3.out.has (i := k * 5) (by omega)
        obtain ⟨v1, h1⟩ := D3.out.has (i := k * 5 + 1) (by omega)
        obtain ⟨v2, h2⟩ := D3.out.has (i := k * 5 + 2) (by omega)
        obtain ⟨v3, h3⟩ := D3.out.has (i := k * 5 + 3) (by omega)
        obtain ⟨v4, h4⟩ := D3.out.has (i := k * 5 + 4) (by omega)
        have f0 := D3.out.free (k * 5)
        have f1 := D3.out.free (k * 5 + 1)
        have f2 := D3.out.free (k * 5 + 2)
        have f3 := D3.out.free (k * 5 + 3)
        have f4 := D3.out.free (k * 5 + 4)
        go_wp2
        go_roundw
        case rel => exact ⟨k + 1, by omega, by go_num, DestAt.set5 D3.out hlt _ _ _ _ _ (by show rowC ((l.map (·.req)).getD k (fun _ => 0)) = _; rw [HG.out]), ((((B3.out.setCell (p := ⟨w.heap.size, k * 5, none⟩) (Nat.le_refl _) _).setCell (p := ⟨w.heap.size, k * 5 + 1, none⟩) (Nat.le_refl _) _).setCell (p := ⟨w.heap.size, k * 5 + 2, none⟩) (Nat.le_refl _) _).setCell (p := ⟨w.heap.size, k * 5 + 3, none⟩) (Nat.le_refl _) _).setCell (p := ⟨w.heap.size, k * 5 + 4, none⟩) (Nat.le_refl _) _⟩
        case measure => simp [intOf]; omega
      · obtain rfl : k = l.length := by omega
        go_wp2
        go_ret
        refine ⟨_, rfl, HD.out.own (Nat.le_refl _) (by unfold maxLen; omega) _ (flat5_len (·.req) l) (fun j hj i hi => ?_) (by omega), HB.out⟩
        rw [flat5_at (·.req) l j i _ (List.getElem?_eq_getElem hj) hi]
        simp [List.getD_eq_getElem?_getD, List.getElem?_eq_getElem hj]
end Go.Proofs.YtfnigiiocapceaaGreat
