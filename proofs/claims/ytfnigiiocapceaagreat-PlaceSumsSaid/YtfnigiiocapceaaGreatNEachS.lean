/- What each makes of a cluster's lists: names. Condition: the list lies in memory. -/
import Derived.Test.YtfnigiiocapceaaGreatNd
import Derived.Laws.Cover3
namespace Go.Proofs.YtfnigiiocapceaaGreat
open Go.RowKit

/-- A block of n elements of d cells; the first k of them are made. -/
def DestAt (w : World) (B n d t k : Nat) (g : Nat → List Value) : Prop := ∃ cs : Array Value, w.heap[B]? = some (.cells cs t (0, 0)) ∧ cs.size = n * d ∧ ∀ j, j < k → ∀ i, i < d → cs[j * d + i]? = (g j)[i]?
theorem DestAt.lt {w : World} {B n d t k : Nat} {g : Nat → List Value} (h : DestAt w B n d t k g) : B < w.heap.size := by
  obtain ⟨cs, hb, _⟩ := h
  exact (Array.getElem?_eq_some_iff.1 hb).1
theorem DestAt.below {w w' : World} {B C n d t k : Nat} {g : Nat → List Value} (h : DestAt w B n d t k g) (hb : Below C w w') (hB : B < C) : DestAt w' B n d t k g := by
  obtain ⟨cs, h1, h2, h3⟩ := h
  exact ⟨cs, (hb.block B hB).trans h1, h2, h3⟩
theorem DestAt.alloc {w : World} {B n d t k : Nat} {g : Nat → List Value} (h : DestAt w B n d t k g) (o : Obj) : DestAt (w.alloc o) B n d t k g := by
  have hlt := h.lt
  obtain ⟨cs, h1, h2, h3⟩ := h
  exact ⟨cs, by rw [Below.heap_alloc w o B hlt, h1], h2, h3⟩
theorem DestAt.free {w : World} {B n d t k : Nat} {g : Nat → List Value} (h : DestAt w B n d t k g) (i : Nat) : w.frozen? ⟨B, i, none⟩ = false := by
  obtain ⟨cs, hb, _⟩ := h
  simp [World.frozen?, hb]
theorem DestAt.has {w : World} {B n d t k : Nat} {g : Nat → List Value} (h : DestAt w B n d t k g) {i : Nat} (hi : i < n * d) : ∃ v, w.cell? ⟨B, i, none⟩ = some v := by
  obtain ⟨cs, hb, hs, _⟩ := h
  exact ⟨cs[i]'(by omega), by rw [cell_of_row w B i cs _ _ hb, Array.getElem?_eq_getElem]⟩
theorem DestAt.set1 {w : World} {B n t k : Nat} {g : Nat → List Value} (h : DestAt w B n 1 t k g) (hk : k < n) (v : Value) (hv : g k = [v]) : DestAt (w.setCell ⟨B, k, none⟩ v) B n 1 t (k + 1) g := by
  obtain ⟨cs, hb, hs, hz⟩ := h
  refine ⟨cs.setIfInBounds k v, heap_setCell_same w B k cs _ _ hb, by simpa using hs, fun j hj i hi => ?_⟩
  obtain rfl : i = 0 := by omega
  rw [Nat.mul_one, Nat.add_zero]
  by_cases hjk : j = k
  · subst hjk
    rw [Array.getElem?_setIfInBounds_self_of_lt (by omega), hv]
    rfl
  · rw [Array.getElem?_setIfInBounds_ne (Ne.symm hjk)]
    have := hz j (by omega) 0 hi
    rw [Nat.mul_one, Nat.add_zero] at this
    exact this
theorem DestAt.own {w : World} {base B n d t : Nat} {g : Nat → List Value} (h : DestAt w B n d t n g) (hB : base ≤ B) (hn : n ≤ maxLen) (xs : List Value) (hl : xs.length = n * d) (hg : ∀ j, j < n → ∀ i, i < d → xs[j * d + i]? = (g j)[i]?) (hd : 0 < d) : w.ownsRow base t d (.slice (some ⟨B, 0, none⟩) n n) n xs := by
  obtain ⟨cs, hb, hs, hz⟩ := h
  refine ⟨hl, .inr ⟨B, n, cs, rfl, hB, hb, Nat.le_refl _, hn, hs, ?_⟩⟩
  rw [List.take_of_length_le (by rw [Array.length_toList]; omega)]
  refine List.ext_getElem? fun m => ?_
  by_cases hm : m < n * d
  · have e : m = (m / d) * d + m % d := by rw [Nat.mul_comm]; exact (Nat.div_add_mod m d).symm
    have h1 : m / d < n := (Nat.div_lt_iff_lt_mul hd).2 hm
    have h2 : m % d < d := Nat.mod_lt _ hd
    rw [e, Array.getElem?_toList, hz _ h1 _ h2, hg _ h1 _ h2]
  · rw [List.getElem?_eq_none (by rw [Array.length_toList]; omega), List.getElem?_eq_none (by omega)]
theorem str_info : (Tryz.prog.info? 9).map (fun i => (i.zero, i.size, i.bytes)) = some (some (.string ⟨#[]⟩), 1, 16) := by kernel_rfl
/-- A slice of n empty texts is made. -/
theorem run_strs (w : World) (n : Nat) (hn : n ≤ 1000000) : (Instr.makeSlice 40 (.int .i64 (n : Int)) (.int .i64 (n : Int))).run Tryz.prog w = .ok (.slice (some ⟨w.heap.size, 0, none⟩) n n) (w.alloc (.cells (madeCells #[.string ⟨#[]⟩] n) 9)) := by
  cases hi : Tryz.prog.info? 9 with
  | none => have h := str_info; rw [hi] at h; cases h
  | some i =>
    have h := str_info
    rw [hi] at h
    simp only [Option.map_some, Option.some.injEq, Prod.mk.injEq] at h
    obtain ⟨h0, h1, h2⟩ := h
    have k := run_make (P := Tryz.prog) w 40 9 i (.string ⟨#[]⟩) Tryz.underlying40 hi h0 .i64 .i64 n n (by omega) (by omega) (by rw [h2]; omega) (by omega)
    simpa [h1, Value.cells] using k

/-- Is a list none at all? -/
theorem run_eqnil {P : Program} {w : World} (t e : TypeId) (a : Option Addr) (l c : Nat) (h : P.underlying t = some (.slice e)) : (binOp .eql t (.slice a l c) (.slice none 0 0)).run P w = .ok (.bool a.isNone) w := by
  simp only [binOp]
  simp [run_equal_slice_nil w t e a l c h]

set_option maxRecDepth 100000 in
set_option maxHeartbeats 2000000 in
theorem eachNS (A : Option Addr) (c : Nat) (l : List NodeD) (g : FuncId) (w : World) (hl : l.length ≤ 1000) (hs : La.SlAt w A (cellsN l)) (hn : A = none → l = [])
    (hg : ∀ args w, (callFunc g args).run Tryz.prog w = .ok (.enter g args) w)
    (hK : ∀ (x : NodeD) (w : World), Calls Tryz.prog g #[valN x] w fun e w' => e = .returned (strV x.name) ∧ Below w.heap.size w w') :
    Calls Tryz.prog 74 #[.slice A l.length c, .func (Fn.func g) #[] #[]] w fun e w' => ∃ v, e = .returned v ∧ w'.ownsRow w.heap.size 9 1 v l.length (l.map fun x => strV x.name) ∧ Below w.heap.size w w' := by
  cases A with
  | none =>
    obtain rfl := hn rfl
    have hnl := fun w => run_eqnil (P := Tryz.prog) (w := w) 22 73 none 0 c Tryz.underlying22
    clear hs hn hK
    go_enter Tryz.func74, Tryz.ntmps74
    go_wp2
    go_ret
    exact ⟨_, rfl, World.ownsRow_nil _ _ _ _, Below.refl _ _⟩
  | some a =>
    have HS := Lib.hid hs
    clear hs hn
    have hmk := run_strs w l.length (by omega)
    have hnl := fun w => run_eqnil (P := Tryz.prog) (w := w) 22 73 (some a) l.length c Tryz.underlying22
    go_enter Tryz.func74, Tryz.ntmps74
    go_wp2_with fail
    clear hmk hnl
    go_loopw [15] (fun i wr => ∃ k : Nat, k ≤ l.length ∧ i = .int .i64 k ∧ DestAt wr w.heap.size l.length 1 9 k (fun j => [strV ((l.map (·.name)).getD j [])]) ∧ Below w.heap.size w wr) (fun i _ => l.length - (intOf i).toNat)
    case atStart => exact ⟨0, by omega, rfl, ⟨_, heap_alloc_new _ _, by rw [size_madeCells, Nat.mul_one], fun j hj => by omega⟩, below1 w _⟩
    case round =>
      obtain ⟨k, hk, rfl, hd, hb⟩ := hrel
      have HD := Lib.hid hd
      have HB := Lib.hid hb
      have hsz := hd.lt
      clear hd hb
      by_cases hlt : k < l.length
      · obtain ⟨x, hx⟩ : ∃ x, l[k]? = some x := ⟨l[k], List.getElem?_eq_getElem hlt⟩
        obtain ⟨b, o, hA, hbl, c0, c1, c2, c3, c4, c5, c6, c7, c8, c9⟩ := atN (HS.out.below HB.out) hx
        cases hA
        have k0 : (0 : Int) ≤ (k : Int) := by omega
        have k1 : (k : Int) < (l.length : Int) := by omega
        have hgd : (l.map (·.name)).getD k [] = x.name := by simp [List.getD_eq_getElem?_getD, hx]
        have HG := Lib.hid hgd
        have KX := Lib.hid (hK x)
        clear hx hgd
        go_wp2_with fail
        refine (KX.out _).mono ?_
        rintro e w3 ⟨rfl, hb3⟩
        have D3 := Lib.hid ((HD.out.alloc (.cells (cellsN [x]).toArray 73)).below hb3 (Nat.lt_of_lt_of_le hsz (by simp)))
        have B3 := Lib.hid ((HB.out.alloc HB.out.size (.cells (cellsN [x]).toArray 73)).trans (hb3.mono (Nat.le_trans (Nat.le_of_lt hsz) (by simp))))
        have f3 := D3.out.free k
        obtain ⟨v3, h3⟩ := D3.out.has (i := k) (by omega)
        clear hb3 KX c0 c1 c2 c3 c4 c5 c6 c7 c8 c9
        go_wp2
        go_roundw
        case rel => exact ⟨k + 1, by omega, by go_num, D3.out.set1 hlt (strV x.name) (by show [strV ((l.map (·.name)).getD k [])] = _; rw [HG.out]), B3.out.setCell (p := ⟨w.heap.size, k, none⟩) (Nat.le_refl _) _⟩
        case measure => simp [intOf]; omega
      · obtain rfl : k = l.length := by omega
        go_wp2
        go_ret
        refine ⟨_, rfl, HD.out.own (Nat.le_refl _) (by unfold maxLen; omega) _ (by simp) (fun j hj i hi => ?_) (by omega), HB.out⟩
        obtain rfl : i = 0 := by omega
        rw [Nat.mul_one, Nat.add_zero, List.getElem?_map, List.getElem?_eq_getElem hj]
        simp [List.getD_eq_getElem?_getD, List.getElem?_eq_getElem hj]
set_option maxRecDepth 100000 in
set_option maxHeartbeats 2000000 in
theorem eachPS (A : Option Addr) (c : Nat) (l : List PodD) (g : FuncId) (w : World) (hl : l.length ≤ 1000) (hs : La.SlAt w A (cellsP l)) (hn : A = none → l = [])
    (hg : ∀ args w, (callFunc g args).run Tryz.prog w = .ok (.enter g args) w)
    (hK : ∀ (x : PodD) (w : World), Calls Tryz.prog g #[valP x] w fun e w' => e = .returned (strV x.name) ∧ Below w.heap.size w w') :
    Calls Tryz.prog 76 #[.slice A l.length c, .func (Fn.func g) #[] #[]] w fun e w' => ∃ v, e = .returned v ∧ w'.ownsRow w.heap.size 9 1 v l.length (l.map fun x => strV x.name) ∧ Below w.heap.size w w' := by
  cases A with
  | none =>
    obtain rfl := hn rfl
    have hnl := fun w => run_eqnil (P := Tryz.prog) (w := w) 23 62 none 0 c Tryz.underlying23
    clear hs hn hK
    go_enter Tryz.func76, Tryz.ntmps76
    go_wp2
    go_ret
    exact ⟨_, rfl, World.ownsRow_nil _ _ _ _, Below.refl _ _⟩
  | some a =>
    have HS := Lib.hid hs
    clear hs hn
    have hmk := run_strs w l.length (by omega)
    have hnl := fun w => run_eqnil (P := Tryz.prog) (w := w) 23 62 (some a) l.length c Tryz.underlying23
    go_enter Tryz.func76, Tryz.ntmps76
    go_wp2_with fail
    clear hmk hnl
    go_loopw [15] (fun i wr => ∃ k : Nat, k ≤ l.length ∧ i = .int .i64 k ∧ DestAt wr w.heap.size l.length 1 9 k (fun j => [strV ((l.map (·.name)).getD j [])]) ∧ Below w.heap.size w wr) (fun i _ => l.length - (intOf i).toNat)
    case atStart => exact ⟨0, by omega, rfl, ⟨_, heap_alloc_new _ _, by rw [size_madeCells, Nat.mul_one], fun j hj => by omega⟩, below1 w _⟩
    case round =>
      obtain ⟨k, hk, rfl, hd, hb⟩ := hrel
      have HD := Lib.hid hd
      have HB := Lib.hid hb
      have hsz := hd.lt
      clear hd hb
      by_cases hlt : k < l.length
      · obtain ⟨x, hx⟩ : ∃ x, l[k]? = some x := ⟨l[k], List.getElem?_eq_getElem hlt⟩
        obtain ⟨b, o, hA, hbl, c0, c1, c2, c3, c4, c5, c6, c7, c8, c9, c10, c11, c12, c13, c14⟩ := atP (HS.out.below HB.out) hx
        cases hA
        have k0 : (0 : Int) ≤ (k : Int) := by omega
        have k1 : (k : Int) < (l.length : Int) := by omega
        have hgd : (l.map (·.name)).getD k [] = x.name := by simp [List.getD_eq_getElem?_getD, hx]
        have HG := Lib.hid hgd
        have KX := Lib.hid (hK x)
        clear hx hgd
        go_wp2_with fail
        refine (KX.out _).mono ?_
        rintro e w3 ⟨rfl, hb3⟩
        have D3 := Lib.hid ((HD.out.alloc (.cells (cellsP [x]).toArray 62)).below hb3 (Nat.lt_of_lt_of_le hsz (by simp)))
        have B3 := Lib.hid ((HB.out.alloc HB.out.size (.cells (cellsP [x]).toArray 62)).trans (hb3.mono (Nat.le_trans (Nat.le_of_lt hsz) (by simp))))
        have f3 := D3.out.free k
        obtain ⟨v3, h3⟩ := D3.out.has (i := k) (by omega)
        clear hb3 KX c0 c1 c2 c3 c4 c5 c6 c7 c8 c9 c10 c11 c12 c13 c14
        go_wp2
        go_roundw
        case rel => exact ⟨k + 1, by omega, by go_num, D3.out.set1 hlt (strV x.name) (by show [strV ((l.map (·.name)).getD k [])] = _; rw [HG.out]), B3.out.setCell (p := ⟨w.heap.size, k, none⟩) (Nat.le_refl _) _⟩
        case measure => simp [intOf]; omega
      · obtain rfl : k = l.length := by omega
        go_wp2
        go_ret
        refine ⟨_, rfl, HD.out.own (Nat.le_refl _) (by unfold maxLen; omega) _ (by simp) (fun j hj i hi => ?_) (by omega), HB.out⟩
        obtain rfl : i = 0 := by omega
        rw [Nat.mul_one, Nat.add_zero, List.getElem?_map, List.getElem?_eq_getElem hj]
        simp [List.getD_eq_getElem?_getD, List.getElem?_eq_getElem hj]
set_option maxRecDepth 100000 in
set_option maxHeartbeats 2000000 in
theorem eachOS (A : Option Addr) (c : Nat) (l : List OwnD) (g : FuncId) (w : World) (hl : l.length ≤ 1000) (hs : La.SlAt w A (cellsO l)) (hn : A = none → l = [])
    (hg : ∀ args w, (callFunc g args).run Tryz.prog w = .ok (.enter g args) w)
    (hK : ∀ (x : OwnD) (w : World), Calls Tryz.prog g #[valO x] w fun e w' => e = .returned (strV x.name) ∧ Below w.heap.size w w') :
    Calls Tryz.prog 78 #[.slice A l.length c, .func (Fn.func g) #[] #[]] w fun e w' => ∃ v, e = .returned v ∧ w'.ownsRow w.heap.size 9 1 v l.length (l.map fun x => strV x.name) ∧ Below w.heap.size w w' := by
  cases A with
  | none =>
    obtain rfl := hn rfl
    have hnl := fun w => run_eqnil (P := Tryz.prog) (w := w) 24 64 none 0 c Tryz.underlying24
    clear hs hn hK
    go_enter Tryz.func78, Tryz.ntmps78
    go_wp2
    go_ret
    exact ⟨_, rfl, World.ownsRow_nil _ _ _ _, Below.refl _ _⟩
  | some a =>
    have HS := Lib.hid hs
    clear hs hn
    have hmk := run_strs w l.length (by omega)
    have hnl := fun w => run_eqnil (P := Tryz.prog) (w := w) 24 64 (some a) l.length c Tryz.underlying24
    go_enter Tryz.func78, Tryz.ntmps78
    go_wp2_with fail
    clear hmk hnl
    go_loopw [15] (fun i wr => ∃ k : Nat, k ≤ l.length ∧ i = .int .i64 k ∧ DestAt wr w.heap.size l.length 1 9 k (fun j => [strV ((l.map (·.name)).getD j [])]) ∧ Below w.heap.size w wr) (fun i _ => l.length - (intOf i).toNat)
    case atStart => exact ⟨0, by omega, rfl, ⟨_, heap_alloc_new _ _, by rw [size_madeCells, Nat.mul_one], fun j hj => by omega⟩, below1 w _⟩
    case round =>
      obtain ⟨k, hk, rfl, hd, hb⟩ := hrel
      have HD := Lib.hid hd
      have HB := Lib.hid hb
      have hsz := hd.lt
      clear hd hb
      by_cases hlt : k < l.length
      · obtain ⟨x, hx⟩ : ∃ x, l[k]? = some x := ⟨l[k], List.getElem?_eq_getElem hlt⟩
        obtain ⟨b, o, hA, hbl, c0, c1, c2, c3, c4⟩ := atO (HS.out.below HB.out) hx
        cases hA
        have k0 : (0 : Int) ≤ (k : Int) := by omega
        have k1 : (k : Int) < (l.length : Int) := by omega
        have hgd : (l.map (·.name)).getD k [] = x.name := by simp [List.getD_eq_getElem?_getD, hx]
        have HG := Lib.hid hgd
        have KX := Lib.hid (hK x)
        clear hx hgd
        go_wp2_with fail
        refine (KX.out _).mono ?_
        rintro e w3 ⟨rfl, hb3⟩
        have D3 := Lib.hid ((HD.out.alloc (.cells (cellsO [x]).toArray 64)).below hb3 (Nat.lt_of_lt_of_le hsz (by simp)))
        have B3 := Lib.hid ((HB.out.alloc HB.out.size (.cells (cellsO [x]).toArray 64)).trans (hb3.mono (Nat.le_trans (Nat.le_of_lt hsz) (by simp))))
        have f3 := D3.out.free k
        obtain ⟨v3, h3⟩ := D3.out.has (i := k) (by omega)
        clear hb3 KX c0 c1 c2 c3 c4
        go_wp2
        go_roundw
        case rel => exact ⟨k + 1, by omega, by go_num, D3.out.set1 hlt (strV x.name) (by show [strV ((l.map (·.name)).getD k [])] = _; rw [HG.out]), B3.out.setCell (p := ⟨w.heap.size, k, none⟩) (Nat.le_refl _) _⟩
        case measure => simp [intOf]; omega
      · obtain rfl : k = l.length := by omega
        go_wp2
        go_ret
        refine ⟨_, rfl, HD.out.own (Nat.le_refl _) (by unfold maxLen; omega) _ (by simp) (fun j hj i hi => ?_) (by omega), HB.out⟩
        obtain rfl : i = 0 := by omega
        rw [Nat.mul_one, Nat.add_zero, List.getElem?_map, List.getElem?_eq_getElem hj]
        simp [List.getD_eq_getElem?_getD, List.getElem?_eq_getElem hj]
end Go.Proofs.YtfnigiiocapceaaGreat
