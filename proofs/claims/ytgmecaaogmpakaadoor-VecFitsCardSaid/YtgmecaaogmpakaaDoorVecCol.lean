/- What the document's Share answers of every two rows; what column answers of rows and a place. Conditions: they are ints; the rows lie in memory. -/
import Derived.Test.YtgmecaaogmpakaaDoorVecRef
import Derived.Test.YtgmecaaogmpakaaDoorVecEach1
import Derived.Test.YtgmecaaogmpakaaDoorAdd
import Derived.Laws.MakeOwn
namespace Go.Proofs.YtgmecaaogmpakaaDoor
open Go.RowKit

theorem great_zero : ∀ k, greatest (fun _ => 0) k = 0
  | 0 => rfl
  | k + 1 => by rw [greatest, great_zero k]; simp
theorem eachR_err {f : Nat → Int × Int} (h : firstE f 5 ≠ 0) : eachR f = fun _ => 0 := by
  funext j
  unfold eachR
  rw [if_pos h]
theorem eachR_ok {f : Nat → Int × Int} (h : firstE f 5 = 0) : eachR f = fun j => (f j).1 := by
  funext j
  unfold eachR
  rw [if_neg (by rw [h]; simp)]

set_option maxRecDepth 100000 in
set_option maxHeartbeats 1000000 in
theorem rvshare_any (x y : Nat → Int) (w : World) (ix : Ints x) (iy : Ints y) :
    Calls Tryd.prog 15 #[.agg #[.int .i64 (x 0), .int .i64 (x 1), .int .i64 (x 2), .int .i64 (x 3), .int .i64 (x 4)], .agg #[.int .i64 (y 0), .int .i64 (y 1), .int .i64 (y 2), .int .i64 (y 3), .int .i64 (y 4)]] w fun e w' => e = .returned (.tuple #[.int .i64 (greatest (eachR (shareF x y)) 5), .int .i64 (firstE (shareF x y) 5)]) ∧ Below w.heap.size w w' := by
  go_enter Tryd.func15, Tryd.ntmps15
  go_wp2
  go_loopw [6, 7] (fun s i wr => ∃ k : Nat, k ≤ 5 ∧ i = .int .i64 k ∧ s = .int .i64 (greatest (fun j => (shareF x y j).1) k) ∧ (∀ j, j < k → (shareF x y j).2 = 0) ∧ RowAt wr w.heap.size x ∧ RowAt wr (w.heap.size + 1) y ∧ Below w.heap.size w wr) (fun _ i _ => 5 - (intOf i).toNat)
  case atStart => exact ⟨0, by omega, rfl, rfl, by omega, (two_at w x y).1, (two_at w x y).2, below2 w _ _⟩
  case round =>
    obtain ⟨k, hk, rfl, rfl, hall, hx, hy, hb⟩ := hrel
    have Hall := Lib.hid hall
    have Hx := Lib.hid hx
    have Hy := Lib.hid hy
    have HB := Lib.hid hb
    clear hall hx hy hb
    by_cases hlt : k < 5
    · obtain ⟨ix0, ix1⟩ := ix k hlt
      obtain ⟨iy0, iy1⟩ := iy k hlt
      have cx := Hx.out.cell hlt
      have cy := Hy.out.cell hlt
      have Hpx := Lib.hid Hx.out.lt
      have Hpy := Lib.hid Hy.out.lt
      have Hix := Lib.hid ix
      have Hiy := Lib.hid iy
      clear ix iy
      have k0 : (0 : Int) ≤ (k : Int) := by omega
      have k1 : (k : Int) < 5 := by omega
      rcases hq : shareL (x k) (y k) with ⟨n, e0⟩
      have Hq := Lib.hid hq
      clear hq
      go_wp2
      go_region_held3 (fun w' => w'.cell? ⟨w.heap.size, k, none⟩ = some (.int .i64 (x k)) ∧ w'.cell? ⟨w.heap.size + 1, k, none⟩ = some (.int .i64 (y k))) (first | exact ⟨cx, cy⟩ | exact ⟨cx2, cy2⟩)
        (first | (go_at_call 41; refine (rshare_to (x k) (y k) n e0 _ ix0 ix1 iy0 iy1 Hq.out).mono ?_; rintro e w2 ⟨rfl, hb2⟩; have cx2 := (hb2.cell (p := ⟨w.heap.size, k, none⟩) Hpx.out).trans cx; have cy2 := (hb2.cell (p := ⟨w.heap.size + 1, k, none⟩) Hpy.out).trans cy; have HB2 := Lib.hid hb2; clear hb2))
      have Hx1 := Lib.hid ((RowAt.drew Hx.out).below HB2.out Hx.out.lt)
      have Hy1 := Lib.hid ((RowAt.drew Hy.out).below HB2.out Hy.out.lt)
      have HB1 := Lib.hid ((HB.out.drew).trans (HB2.out.mono HB.out.size))
      clear cx cy cx2 cy2
      by_cases he : e0 = 0
      · have heb : (e0 != 0) = false := by simp [he]
        have He := Lib.hid he
        clear he
        go_wp2
        go_roundw
        case rel => exact ⟨k + 1, by omega, by go_num, by rw [greatest]; unfold shareF; simp only [Hq.out], all_snoc Hall.out (by unfold shareF; rw [Hq.out]; exact He.out), Hx1.out, Hy1.out, HB1.out⟩
        case measure => simp [intOf]; omega
      · have heb : (e0 != 0) = true := by simpa using he
        have He := Lib.hid he
        clear he
        have h1 : (shareF x y k).2 = e0 := by unfold shareF; rw [Hq.out]
        have h2 : firstE (shareF x y) 5 = e0 := by rw [firstE_at hlt Hall.out (by rw [h1]; exact He.out), h1]
        have H2 := Lib.hid h2
        clear h1 h2
        go_wp2
        go_ret2
        exact ⟨ret2I (by rw [eachR_err (by rw [H2.out]; exact He.out), great_zero]) H2.out.symm, HB1.out⟩
    · obtain rfl : k = 5 := by omega
      have H2 := Lib.hid (firstE_none Hall.out)
      go_wp2
      go_ret2
      exact ⟨ret2I (by rw [eachR_ok H2.out]) H2.out.symm, HB.out⟩

/-- Rows lie in a slice. -/
def RowsOf (w : World) (A : Option Addr) (l : List (Nat → Int)) : Prop :=
  ∀ i x, l[i]? = some x → ∃ b o, A = some ⟨b, o, none⟩ ∧ b < w.heap.size ∧ ∀ k, k < 5 → w.cell? ⟨b, o + i * 5 + k, none⟩ = some (.int .i64 (x k))
theorem RowsOf.below {w w' : World} {A : Option Addr} {l : List (Nat → Int)} {B : Nat} (h : RowsOf w A l) (hb : Below B w w') (hB : w.heap.size ≤ B) : RowsOf w' A l := by
  intro i x hx
  obtain ⟨b, o, hA, hlt, hc⟩ := h i x hx
  exact ⟨b, o, hA, Nat.lt_of_lt_of_le hlt hb.size, fun k hk => (hb.cell (p := ⟨b, o + i * 5 + k, none⟩) (Nat.lt_of_lt_of_le hlt hB)).trans (hc k hk)⟩

/-- What stands at one place in each of the rows. -/
def colL (l : List (Nat → Int)) (p : Nat) : List Int := l.map (fun x => x p)

/-- These numbers lie in a block. -/
def NumsAt (w : World) (B n : Nat) (z : Nat → Int) : Prop := ∃ cs : Array Value, w.heap[B]? = some (.cells cs 3 (0, 0)) ∧ cs.size = n ∧ ∀ j, j < n → cs[j]? = some (.int .i64 (z j))
theorem NumsAt.cell {w : World} {B n : Nat} {z : Nat → Int} (h : NumsAt w B n z) {k : Nat} (hk : k < n) : w.cell? ⟨B, k, none⟩ = some (.int .i64 (z k)) := by
  obtain ⟨cs, hb, _, hz⟩ := h
  rw [cell_of_row w B k cs _ _ hb, hz k hk]
theorem NumsAt.free {w : World} {B n : Nat} {z : Nat → Int} (h : NumsAt w B n z) (k : Nat) : w.frozen? ⟨B, k, none⟩ = false := by
  obtain ⟨cs, hb, _, _⟩ := h
  simp [World.frozen?, hb]
theorem NumsAt.lt {w : World} {B n : Nat} {z : Nat → Int} (h : NumsAt w B n z) : B < w.heap.size := by
  obtain ⟨cs, hb, _, _⟩ := h
  rcases Nat.lt_or_ge B w.heap.size with g | g
  · exact g
  · rw [Array.getElem?_eq_none g] at hb; cases hb
theorem NumsAt.set {w : World} {B n : Nat} {z : Nat → Int} (h : NumsAt w B n z) (k : Nat) (v : Int) : NumsAt (w.setCell ⟨B, k, none⟩ (.int .i64 v)) B n (upd z k v) := by
  obtain ⟨cs, hb, hs, hz⟩ := h
  refine ⟨cs.setIfInBounds k (.int .i64 v), heap_setCell_same w B k cs _ _ hb, by simpa using hs, fun j hj => ?_⟩
  unfold upd
  by_cases hjk : j = k
  · subst hjk
    rw [Array.getElem?_setIfInBounds_self_of_lt (by omega)]
    simp
  · rw [Array.getElem?_setIfInBounds_ne (Ne.symm hjk), hz j hj]
    simp [hjk]
theorem NumsAt.alloc {w : World} {B n : Nat} {z : Nat → Int} (h : NumsAt w B n z) (o : Obj) : NumsAt (w.alloc o) B n z := by
  have hlt := h.lt
  obtain ⟨cs, hb, hs, hz⟩ := h
  exact ⟨cs, by rw [Below.heap_alloc w o B hlt, hb], hs, hz⟩

theorem int_info : (Tryd.prog.info? 3).map (fun i => (i.zero, i.size, i.bytes)) = some (some (.int .i64 0), 1, 8) := by kernel_rfl
/-- A slice of n noughts is made. -/
theorem run_nums (w : World) (n : Nat) (hn : n ≤ 12) : (Instr.makeSlice 50 (.int .i64 (n : Int)) (.int .i64 (n : Int))).run Tryd.prog w = .ok (.slice (some ⟨w.heap.size, 0, none⟩) n n) (w.alloc (.cells (madeCells #[.int .i64 0] n) 3)) := by
  cases hi : Tryd.prog.info? 3 with
  | none => have h := int_info; rw [hi] at h; cases h
  | some i =>
    have h := int_info
    rw [hi] at h
    simp only [Option.map_some, Option.some.injEq, Prod.mk.injEq] at h
    obtain ⟨h0, h1, h2⟩ := h
    have k := run_make (P := Tryd.prog) w 50 3 i (.int .i64 0) Tryd.underlying50 hi h0 .i64 .i64 n n (by omega) (by omega) (by rw [h2]; omega) (by omega)
    simpa [h1, Value.cells] using k
theorem nums_new (w : World) (n : Nat) : NumsAt (w.alloc (.cells (madeCells #[.int .i64 0] n) 3)) w.heap.size n (fun _ => 0) := by
  refine ⟨_, heap_alloc_new _ _, size_madeCells _ _, fun j hj => ?_⟩
  unfold madeCells
  rw [Array.getElem?_map, Array.getElem?_eq_getElem (by simpa using hj)]
  simp [Nat.mod_one]

set_option maxRecDepth 100000 in
set_option maxHeartbeats 1000000 in
theorem column_any (A : Option Addr) (c : Nat) (l : List (Nat → Int)) (p : Nat) (w : World) (hl : l.length ≤ 12) (hp : p < 5) (hr : RowsOf w A l) :
    Calls Tryd.prog 31 #[.slice A l.length c, .int .i64 (p : Int)] w fun e w' => e = .returned (.slice (some ⟨w.heap.size, 0, none⟩) l.length l.length) ∧ Below w.heap.size w w' ∧ RowOf w' (some ⟨w.heap.size, 0, none⟩) (colL l p) := by
  have Hr := Lib.hid hr
  clear hr
  have hmk := run_nums w l.length hl
  go_enter Tryd.func31, Tryd.ntmps31
  go_wp2
  clear hmk
  go_loopw [13] (fun i wr => ∃ k : Nat, k ≤ l.length ∧ i = .int .i64 k ∧ NumsAt wr w.heap.size l.length (fun j => if j < k then (l.getD j (fun _ => 0)) p else 0) ∧ Below w.heap.size w wr) (fun i _ => l.length - (intOf i).toNat)
  case atStart => exact ⟨0, by omega, rfl, nums_new w l.length, (Below.refl _ _).alloc (Nat.le_refl _) _⟩
  case round =>
    obtain ⟨k, hk, rfl, hn, hb⟩ := hrel
    have Hn := Lib.hid hn
    have HB := Lib.hid hb
    clear hn hb
    by_cases hlt : k < l.length
    · obtain ⟨b, o, rfl, hbl, hc⟩ := Hr.out k l[k] (List.getElem?_eq_getElem hlt)
      have hc' : ∀ j, j < 5 → wr.cell? ⟨b, o + k * 5 + j, none⟩ = some (.int .i64 (l[k] j)) := fun j hj => (HB.out.cell (p := ⟨b, o + k * 5 + j, none⟩) hbl).trans (hc j hj)
      have c0 := hc' 0 (by omega)
      have c1 := hc' 1 (by omega)
      have c2 := hc' 2 (by omega)
      have c3 := hc' 3 (by omega)
      have c4 := hc' 4 (by omega)
      clear hc hc'
      simp only [Nat.add_zero] at c0
      have hv := cell_new l[k] p hp wr 24
      have hcn := (Hn.out.alloc (.cells #[.int .i64 (l[k] 0), .int .i64 (l[k] 1), .int .i64 (l[k] 2), .int .i64 (l[k] 3), .int .i64 (l[k] 4)] 24)).cell hlt
      have hfn := (Hn.out.alloc (.cells #[.int .i64 (l[k] 0), .int .i64 (l[k] 1), .int .i64 (l[k] 2), .int .i64 (l[k] 3), .int .i64 (l[k] 4)] 24)).free k
      go_wp2
      go_roundw
      case rel =>
        refine ⟨k + 1, by omega, by go_num, ?_, (HB.out.alloc HB.out.size _).setCell (by simp) _⟩
        have h := (Hn.out.alloc (.cells #[.int .i64 (l[k] 0), .int .i64 (l[k] 1), .int .i64 (l[k] 2), .int .i64 (l[k] 3), .int .i64 (l[k] 4)] 24)).set k (l[k] p)
        have e : (fun j => if j < k + 1 then (l.getD j (fun _ => 0)) p else 0) = upd (fun j => if j < k then (l.getD j (fun _ => 0)) p else 0) k (l[k] p) := by
          funext j
          unfold upd
          by_cases hj : j = k
          · subst hj
            simp [List.getD_eq_getElem?_getD, List.getElem?_eq_getElem hlt]
          · by_cases hj2 : j < k
            · simp [hj, hj2, show j < k + 1 by omega]
            · simp [hj, hj2, show ¬ j < k + 1 by omega]
        rw [e]
        exact h
      case measure => simp [intOf]; omega
    · go_wp2
      go_ret
      refine ⟨rfl, HB.out, fun j x hj => ?_⟩
      unfold colL at hj
      rw [List.getElem?_map] at hj
      cases hq : l[j]? with
      | none => rw [hq] at hj; cases hj
      | some y =>
        rw [hq] at hj
        simp only [Option.map_some, Option.some.injEq] at hj
        subst hj
        have hjl : j < l.length := (List.getElem?_eq_some_iff.1 hq).1
        refine ⟨w.heap.size, 0, rfl, ?_⟩
        have h := Hn.out.cell hjl
        simp only [show j < k by omega, if_true, List.getD_eq_getElem?_getD, hq, Option.getD_some] at h
        rw [Nat.zero_add]
        exact h

end Go.Proofs.YtgmecaaogmpakaaDoor
