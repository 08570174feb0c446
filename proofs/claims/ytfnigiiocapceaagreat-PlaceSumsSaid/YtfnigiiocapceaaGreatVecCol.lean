/- What the document's Share answers of every two rows; what column answers of rows and a place. Conditions: they are ints; the rows lie in memory. -/
import Derived.Test.YtfnigiiocapceaaGreatVecRef
import Derived.Test.YtfnigiiocapceaaGreatVecEach1
import Derived.Test.YtfnigiiocapceaaGreatAdd
import Derived.Laws.MakeOwn
namespace Go.Proofs.YtfnigiiocapceaaGreat.Qu
open Go.RowKit

theorem great_zero : ∀ k, greatest (fun _ => 0) k = 0
  | 0 => rfl
  | k + 1 => by rw [greatest, great_zero k]; simp
theorem eachR_err {f : Nat → Int × Int} (h : firstE f 5 ≠ 0) : eachR f = fun _ => 0 := by
  funext j
  unfold eachR
  rw [if_pos h]
theorem eachR_ok {f : Nat → Int × Int} (h : firstE f 5 = 0) : eachR f = fun j => (f j).1 := by
  funext j
  unfold eachR
  rw [if_neg (by rw [h]; simp)]

/-- Rows lie in a slice. -/
def RowsOf (w : World) (A : Option Addr) (l : List (Nat → Int)) : Prop :=
  ∀ i x, l[i]? = some x → ∃ b o, A = some ⟨b, o, none⟩ ∧ b < w.heap.size ∧ ∀ k, k < 5 → w.cell? ⟨b, o + i * 5 + k, none⟩ = some (.int .i64 (x k))
theorem RowsOf.below {w w' : World} {A : Option Addr} {l : List (Nat → Int)} {B : Nat} (h : RowsOf w A l) (hb : Below B w w') (hB : w.heap.size ≤ B) : RowsOf w' A l := by
  intro i x hx
  obtain ⟨b, o, hA, hlt, hc⟩ := h i x hx
  exact ⟨b, o, hA, Nat.lt_of_lt_of_le hlt hb.size, fun k hk => (hb.cell (p := ⟨b, o + i * 5 + k, none⟩) (Nat.lt_of_lt_of_le hlt hB)).trans (hc k hk)⟩

/-- What stands at one place in each of the rows. -/
def colL (l : List (Nat → Int)) (p : Nat) : List Int := l.map (fun x => x p)

/-- These numbers lie in a block. -/
def NumsAt (w : World) (B n : Nat) (z : Nat → Int) : Prop := ∃ cs : Array Value, w.heap[B]? = some (.cells cs 3 (0, 0)) ∧ cs.size = n ∧ ∀ j, j < n → cs[j]? = some (.int .i64 (z j))
theorem NumsAt.cell {w : World} {B n : Nat} {z : Nat → Int} (h : NumsAt w B n z) {k : Nat} (hk : k < n) : w.cell? ⟨B, k, none⟩ = some (.int .i64 (z k)) := by
  obtain ⟨cs, hb, _, hz⟩ := h
  rw [cell_of_row w B k cs _ _ hb, hz k hk]
theorem NumsAt.free {w : World} {B n : Nat} {z : Nat → Int} (h : NumsAt w B n z) (k : Nat) : w.frozen? ⟨B, k, none⟩ = false := by
  obtain ⟨cs, hb, _, _⟩ := h
  simp [World.frozen?, hb]
theorem NumsAt.lt {w : World} {B n : Nat} {z : Nat → Int} (h : NumsAt w B n z) : B < w.heap.size := by
  obtain ⟨cs, hb, _, _⟩ := h
  rcases Nat.lt_or_ge B w.heap.size with g | g
  · exact g
  · rw [Array.getElem?_eq_none g] at hb; cases hb
theorem NumsAt.set {w : World} {B n : Nat} {z : Nat → Int} (h : NumsAt w B n z) (k : Nat) (v : Int) : NumsAt (w.setCell ⟨B, k, none⟩ (.int .i64 v)) B n (upd z k v) := by
  obtain ⟨cs, hb, hs, hz⟩ := h
  refine ⟨cs.setIfInBounds k (.int .i64 v), heap_setCell_same w B k cs _ _ hb, by simpa using hs, fun j hj => ?_⟩
  unfold upd
  by_cases hjk : j = k
  · subst hjk
    rw [Array.getElem?_setIfInBounds_self_of_lt (by omega)]
    simp
  · rw [Array.getElem?_setIfInBounds_ne (Ne.symm hjk), hz j hj]
    simp [hjk]
theorem NumsAt.alloc {w : World} {B n : Nat} {z : Nat → Int} (h : NumsAt w B n z) (o : Obj) : NumsAt (w.alloc o) B n z := by
  have hlt := h.lt
  obtain ⟨cs, hb, hs, hz⟩ := h
  exact ⟨cs, by rw [Below.heap_alloc w o B hlt, hb], hs, hz⟩

theorem int_info : (Tryz.prog.info? 3).map (fun i => (i.zero, i.size, i.bytes)) = some (some (.int .i64 0), 1, 8) := by kernel_rfl
/-- A slice of n noughts is made. -/
theorem run_nums (w : World) (n : Nat) (hn : n ≤ 12) : (Instr.makeSlice 27 (.int .i64 (n : Int)) (.int .i64 (n : Int))).run Tryz.prog w = .ok (.slice (some ⟨w.heap.size, 0, none⟩) n n) (w.alloc (.cells (madeCells #[.int .i64 0] n) 3)) := by
  cases hi : Tryz.prog.info? 3 with
  | none => have h := int_info; rw [hi] at h; cases h
  | some i =>
    have h := int_info
    rw [hi] at h
    simp only [Option.map_some, Option.some.injEq, Prod.mk.injEq] at h
    obtain ⟨h0, h1, h2⟩ := h
    have k := run_make (P := Tryz.prog) w 27 3 i (.int .i64 0) Tryz.underlying27 hi h0 .i64 .i64 n n (by omega) (by omega) (by rw [h2]; omega) (by omega)
    simpa [h1, Value.cells] using k
theorem nums_new (w : World) (n : Nat) : NumsAt (w.alloc (.cells (madeCells #[.int .i64 0] n) 3)) w.heap.size n (fun _ => 0) := by
  refine ⟨_, heap_alloc_new _ _, size_madeCells _ _, fun j hj => ?_⟩
  unfold madeCells
  rw [Array.getElem?_map, Array.getElem?_eq_getElem (by simpa using hj)]
  simp [Nat.mod_one]

set_option maxRecDepth 100000 in
set_option maxHeartbeats 1000000 in
theorem column_any (A : Option Addr) (c : Nat) (l : List (Nat → Int)) (p : Nat) (w : World) (hl : l.length ≤ 12) (hp : p < 5) (hr : RowsOf w A l) :
    Calls Tryz.prog 112 #[.slice A l.length c, .int .i64 (p : Int)] w fun e w' => e = .returned (.slice (some ⟨w.heap.size, 0, none⟩) l.length l.length) ∧ Below w.heap.size w w' ∧ RowOf w' (some ⟨w.heap.size, 0, none⟩) (colL l p) := by
  have Hr := Lib.hid hr
  clear hr
  have hmk := run_nums w l.length hl
  go_enter Tryz.func112, Tryz.ntmps112
  go_wp2
  clear hmk
  go_loopw [13] (fun i wr => ∃ k : Nat, k ≤ l.length ∧ i = .int .i64 k ∧ NumsAt wr w.heap.size l.length (fun j => if j < k then (l.getD j (fun _ => 0)) p else 0) ∧ Below w.heap.size w wr) (fun i _ => l.length - (intOf i).toNat)
  case atStart => exact ⟨0, by omega, rfl, nums_new w l.length, (Below.refl _ _).alloc (Nat.le_refl _) _⟩
  case round =>
    obtain ⟨k, hk, rfl, hn, hb⟩ := hrel
    have Hn := Lib.hid hn
    have HB := Lib.hid hb
    clear hn hb
    by_cases hlt : k < l.length
    · obtain ⟨b, o, rfl, hbl, hc⟩ := Hr.out k l[k] (List.getElem?_eq_getElem hlt)
      have hc' : ∀ j, j < 5 → wr.cell? ⟨b, o + k * 5 + j, none⟩ = some (.int .i64 (l[k] j)) := fun j hj => (HB.out.cell (p := ⟨b, o + k * 5 + j, none⟩) hbl).trans (hc j hj)
      have c0 := hc' 0 (by omega)
      have c1 := hc' 1 (by omega)
      have c2 := hc' 2 (by omega)
      have c3 := hc' 3 (by omega)
      have c4 := hc' 4 (by omega)
      clear hc hc'
      simp only [Nat.add_zero] at c0
      have hv := cell_new l[k] p hp wr 33
      have hcn := (Hn.out.alloc (.cells #[.int .i64 (l[k] 0), .int .i64 (l[k] 1), .int .i64 (l[k] 2), .int .i64 (l[k] 3), .int .i64 (l[k] 4)] 33)).cell hlt
      have hfn := (Hn.out.alloc (.cells #[.int .i64 (l[k] 0), .int .i64 (l[k] 1), .int .i64 (l[k] 2), .int .i64 (l[k] 3), .int .i64 (l[k] 4)] 33)).free k
      go_wp2
      go_roundw
      case rel =>
        refine ⟨k + 1, by omega, by go_num, ?_, (HB.out.alloc HB.out.size _).setCell (by simp) _⟩
        have h := (Hn.out.alloc (.cells #[.int .i64 (l[k] 0), .int .i64 (l[k] 1), .int .i64 (l[k] 2), .int .i64 (l[k] 3), .int .i64 (l[k] 4)] 33)).set k (l[k] p)
        have e : (fun j => if j < k + 1 then (l.getD j (fun _ => 0)) p else 0) = upd (fun j => if j < k then (l.getD j (fun _ => 0)) p else 0) k (l[k] p) := by
          funext j
          unfold upd
          by_cases hj : j = k
          · subst hj
            simp [List.getD_eq_getElem?_getD, List.getElem?_eq_getElem hlt]
          · by_cases hj2 : j < k
            · simp [hj, hj2, show j < k + 1 by omega]
            · simp [hj, hj2, show ¬ j < k + 1 by omega]
        rw [e]
        exact h
      case measure => simp [intOf]; omega
    · go_wp2
      go_ret
      refine ⟨rfl, HB.out, fun j x hj => ?_⟩
      unfold colL at hj
      rw [List.getElem?_map] at hj
      cases hq : l[j]? with
      | none => rw [hq] at hj; cases hj
      | some y =>
        rw [hq] at hj
        simp only [Option.map_some, Option.some.injEq] at hj
        subst hj
        have hjl : j < l.length := (List.getElem?_eq_some_iff.1 hq).1
        refine ⟨w.heap.size, 0, rfl, ?_⟩
        have h := Hn.out.cell hjl
        simp only [show j < k by omega, if_true, List.getD_eq_getElem?_getD, hq, Option.getD_some] at h
        rw [Nat.zero_add]
        exact h

end Go.Proofs.YtfnigiiocapceaaGreat.Qu
