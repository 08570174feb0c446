/- The chapter's rows come out as the chapter says: the examples that every law asks. Conditions: the names of the places, and the library's table of powers of ten, lie as they were laid. -/
import Derived.Test.YtgmecaaogmpakaaDoorVecParse
import Derived.Test.YtgmecaaogmpakaaDoorVecPrint
import Derived.Test.YtgmecaaogmpakaaDoorVecMinus
import Derived.Test.YtgmecaaogmpakaaDoorVecEq
namespace Go.Proofs.YtgmecaaogmpakaaDoor
open Go.RowKit

theorem vparse_is (l : List UInt8) (w : World) (r0 r1 r2 r3 r4 x e0 : Int) (hl : l.length ≤ 1000000) (hn : NamesAt w) (h0 : (parseV l).1 0 = r0) (h1 : (parseV l).1 1 = r1) (h2 : (parseV l).1 2 = r2) (h3 : (parseV l).1 3 = r3) (h4 : (parseV l).1 4 = r4) (hx : (parseV l).2 = (x, e0)) :
    Calls Tryd.prog 25 #[.string ⟨l.toArray⟩] w fun e w' => e = .returned (.tuple #[.agg #[.int .i64 r0, .int .i64 r1, .int .i64 r2, .int .i64 r3, .int .i64 r4], .int .i64 x, .int .i64 e0]) ∧ Below w.heap.size w w' := by
  have k := vparse_any l w hl hn
  rw [h0, h1, h2, h3, h4, hx] at k
  exact k

set_option maxRecDepth 100000 in
set_option maxHeartbeats 400000 in
theorem wrongV_yes (l : List UInt8) (x e0 : Int) (w : World) (hl : l.length ≤ 1000000) (hn : NamesAt w) (h0 : (parseV l).1 0 = 0) (h1 : (parseV l).1 1 = 0) (h2 : (parseV l).1 2 = 0) (h3 : (parseV l).1 3 = 0) (h4 : (parseV l).1 4 = 0) (hx : (parseV l).2 = (x, e0)) :
    Calls Tryd.prog 42 #[.string ⟨l.toArray⟩, .int .i64 x, .int .i64 e0] w fun e w' => e = .returned (.bool true) ∧ Below w.heap.size w w' := by
  have K := Lib.hid (vparse_is l w 0 0 0 0 0 x e0 hl hn h0 h1 h2 h3 h4 hx)
  clear hn h0 h1 h2 h3 h4 hx
  have hq := fun w => eq_row 0 0 0 0 0 w
  have hg := vec_guard
  have b1 : (x == x) = true := by simp
  have b2 : (e0 == e0) = true := by simp
  go_enter Tryd.func42, Tryd.ntmps42
  go_wp2_with fail
  refine K.out.mono ?_
  rintro e w1 ⟨rfl, hb⟩
  have HB := Lib.hid hb
  clear hb K
  go_wp2
  go_ret
  exact ⟨rfl, HB.out.alloc HB.out.size _⟩

/-- The chapter's row. -/
def rowE : Nat → Int
  | 0 => 1500
  | 1 => 1048576
  | 3 => 3
  | _ => 0
def textE : List UInt8 := [99, 112, 117, 61, 49, 53, 48, 48, 109, 44, 109, 101, 109, 61, 49, 77, 105, 44, 115, 108, 111, 116, 115, 61, 51]
theorem printE : printV rowE = (textE, 0) := by
  have hc : chkV rowE = 0 := by decide
  unfold printV
  rw [if_neg (by simp [hc])]
  have p0 : partT rowE 0 = [99, 112, 117, 61, 49, 53, 48, 48, 109] := by simp [partT, nameL, rowE, printL, milliL, dec, Lib.decDigits]
  have p1 : partT rowE 1 = [109, 101, 109, 61, 49, 77, 105] := by simp [partT, nameL, rowE, printL, wholeL, dec, Lib.decDigits]
  have p3 : partT rowE 3 = [115, 108, 111, 116, 115, 61, 51] := by simp [partT, nameL, rowE, printL, wholeL, dec, Lib.decDigits]
  have hp : partsT rowE 5 = [partT rowE 0, partT rowE 1, partT rowE 3] := by simp [partsT, rowE]
  rw [hp, p0, p1, p3]
  simp [Lib.join, List.intercalate, List.intersperse, textE]
theorem e0 : (parseV textE).1 0 = 1500 := by decide +kernel
theorem e1 : (parseV textE).1 1 = 1048576 := by decide +kernel
theorem e2 : (parseV textE).1 2 = 0 := by decide +kernel
theorem e3 : (parseV textE).1 3 = 3 := by decide +kernel
theorem e4 : (parseV textE).1 4 = 0 := by decide +kernel
theorem ex : (parseV textE).2 = (0, 0) := by decide +kernel
theorem wrong1 (w : World) (hn : NamesAt w) : Calls Tryd.prog 42 #[.string ⟨#[109, 101, 109, 61, 49, 44, 99, 112, 117, 61, 49]⟩, .int .i64 6, .int .i64 4] w fun e w' => e = .returned (.bool true) ∧ Below w.heap.size w w' :=
  wrongV_yes [109, 101, 109, 61, 49, 44, 99, 112, 117, 61, 49] 6 4 w (by decide) hn (by decide +kernel) (by decide +kernel) (by decide +kernel) (by decide +kernel) (by decide +kernel) (by decide +kernel)
theorem wrong2 (w : World) (hn : NamesAt w) : Calls Tryd.prog 42 #[.string ⟨#[99, 112, 117, 61]⟩, .int .i64 4, .int .i64 3] w fun e w' => e = .returned (.bool true) ∧ Below w.heap.size w w' :=
  wrongV_yes [99, 112, 117, 61] 4 3 w (by decide) hn (by decide +kernel) (by decide +kernel) (by decide +kernel) (by decide +kernel) (by decide +kernel) (by decide +kernel)
theorem wrong3 (w : World) (hn : NamesAt w) : Calls Tryd.prog 42 #[.string ⟨#[99, 112, 117, 61, 48]⟩, .int .i64 0, .int .i64 4] w fun e w' => e = .returned (.bool true) ∧ Below w.heap.size w w' :=
  wrongV_yes [99, 112, 117, 61, 48] 0 4 w (by decide) hn (by decide +kernel) (by decide +kernel) (by decide +kernel) (by decide +kernel) (by decide +kernel) (by decide +kernel)
theorem wrong4 (w : World) (hn : NamesAt w) : Calls Tryd.prog 42 #[.string ⟨#[99, 112, 117, 61, 49, 44]⟩, .int .i64 6, .int .i64 3] w fun e w' => e = .returned (.bool true) ∧ Below w.heap.size w w' :=
  wrongV_yes [99, 112, 117, 61, 49, 44] 6 3 w (by decide) hn (by decide +kernel) (by decide +kernel) (by decide +kernel) (by decide +kernel) (by decide +kernel) (by decide +kernel)

/-- Rows of the other examples. -/
def two (a b : Int) : Nat → Int
  | 0 => a
  | 1 => b
  | _ => 0
theorem ints_two (a b : Int) (ha : 0 ≤ a) (hb : 0 ≤ b) (ha' : a ≤ 9) (hb' : b ≤ 9) : Ints (two a b) := by
  intro k hk
  unfold two
  split <;> omega
theorem shareE (w : World) : Calls Tryd.prog 14 #[.agg #[.int .i64 1, .int .i64 2, .int .i64 0, .int .i64 0, .int .i64 0], .agg #[.int .i64 4, .int .i64 4, .int .i64 0, .int .i64 0, .int .i64 0]] w fun e w' => e = .returned (.tuple #[.int .i64 500, .int .i64 0]) ∧ Below w.heap.size w w' := by
  have k := vshare_any (two 1 2) (two 4 4) w (ints_two 1 2 (by omega) (by omega) (by omega) (by omega)) (ints_two 4 4 (by omega) (by omega) (by omega) (by omega))
  have h1 : greatest (eachR (shareF (two 1 2) (two 4 4))) 5 = 500 := by decide +kernel
  have h2 : firstE (shareF (two 1 2) (two 4 4)) 5 = 0 := by decide +kernel
  rw [h1, h2] at k
  exact k
theorem fitsE (w : World) : Calls Tryd.prog 18 #[.agg #[.int .i64 1, .int .i64 2, .int .i64 0, .int .i64 0, .int .i64 0], .agg #[.int .i64 1, .int .i64 3, .int .i64 0, .int .i64 0, .int .i64 0]] w fun e w' => e = .returned (.bool true) ∧ Below w.heap.size w w' :=
  fits_any (two 1 2) (two 1 3) w
theorem overE (w : World) : Calls Tryd.prog 20 #[.agg #[.int .i64 5, .int .i64 1, .int .i64 0, .int .i64 0, .int .i64 0], .agg #[.int .i64 3, .int .i64 3, .int .i64 0, .int .i64 0, .int .i64 0]] w fun e w' => e = .returned (.int .i64 2) ∧ Below w.heap.size w w' := by
  have k := over_any (two 5 1) (two 3 3) w
  have h : overV (two 5 1) (two 3 3) 5 = 2 := by decide +kernel
  rw [h] at k
  exact k

set_option maxRecDepth 100000 in
set_option maxHeartbeats 4000000 in
theorem worksV_any (w : World) (hn : NamesAt w) (ht : Tab w) :
    Calls Tryd.prog 22 #[] w fun e w' => e = .returned (.bool true) ∧ Below w.heap.size w w' := by
  have HN := Lib.hid hn
  have HT := Lib.hid ht
  clear hn ht
  have hq := fun w => eq_row 1500 1048576 0 3 0 w
  have hg := vec_guard
  go_enter Tryd.func22, Tryd.ntmps22
  go_wp2_with fail
  have HB := Lib.hid (below1 w (.cells #[.int .i64 1500, .int .i64 1048576, .int .i64 0, .int .i64 3, .int .i64 0] 24))
  have HR := Lib.hid (RowAt.new w rowE)
  refine (vprint_is rowE _ textE 0 (HN.out.below HB.out) (HT.out.below HB.out) printE).mono ?_
  rintro e w1 ⟨rfl, hb⟩
  replace HR := Lib.hid (RowAt.below HR.out hb HR.out.lt)
  replace HB := Lib.hid (HB.out.trans (hb.mono HB.out.size))
  clear hb
  go_wp2_with fail
  refine (vparse_is textE _ 1500 1048576 0 3 0 0 0 (by decide) (HN.out.below HB.out) e0 e1 e2 e3 e4 ex).mono ?_
  rintro e w2 ⟨rfl, hb⟩
  replace HR := Lib.hid (RowAt.below HR.out hb HR.out.lt)
  replace HB := Lib.hid (HB.out.trans (hb.mono HB.out.size))
  clear hb
  go_wp2_with fail
  have HR2 := Lib.hid (RowAt.new w2 rowE)
  replace HR := Lib.hid (RowAt.alloc HR.out (.cells #[.int .i64 1500, .int .i64 1048576, .int .i64 0, .int .i64 3, .int .i64 0] 24))
  replace HB := Lib.hid (HB.out.alloc HB.out.size (.cells #[.int .i64 1500, .int .i64 1048576, .int .i64 0, .int .i64 3, .int .i64 0] 24))
  refine (shareE _).mono ?_
  rintro e w3 ⟨rfl, hb⟩
  replace HR := Lib.hid (RowAt.below HR.out hb HR.out.lt)
  replace HR2 := Lib.hid (RowAt.below HR2.out hb HR2.out.lt)
  replace HB := Lib.hid (HB.out.trans (hb.mono HB.out.size))
  clear hb
  have a0 : w3.cell? ⟨w.heap.size, 0, none⟩ = some (.int .i64 1500) := HR.out.cell (k := 0) (by omega)
  have a1 : w3.cell? ⟨w.heap.size, 1, none⟩ = some (.int .i64 1048576) := HR.out.cell (k := 1) (by omega)
  have a2 : w3.cell? ⟨w.heap.size, 2, none⟩ = some (.int .i64 0) := HR.out.cell (k := 2) (by omega)
  have a3 : w3.cell? ⟨w.heap.size, 3, none⟩ = some (.int .i64 3) := HR.out.cell (k := 3) (by omega)
  have a4 : w3.cell? ⟨w.heap.size, 4, none⟩ = some (.int .i64 0) := HR.out.cell (k := 4) (by omega)
  have b0 : w3.cell? ⟨w2.heap.size, 0, none⟩ = some (.int .i64 1500) := HR2.out.cell (k := 0) (by omega)
  have b1 : w3.cell? ⟨w2.heap.size, 1, none⟩ = some (.int .i64 1048576) := HR2.out.cell (k := 1) (by omega)
  have b2 : w3.cell? ⟨w2.heap.size, 2, none⟩ = some (.int .i64 0) := HR2.out.cell (k := 2) (by omega)
  have b3 : w3.cell? ⟨w2.heap.size, 3, none⟩ = some (.int .i64 3) := HR2.out.cell (k := 3) (by omega)
  have b4 : w3.cell? ⟨w2.heap.size, 4, none⟩ = some (.int .i64 0) := HR2.out.cell (k := 4) (by omega)
  go_wp2_with fail
  clear a0 a1 a2 a3 a4 b0 b1 b2 b3 b4 hq hg
  refine (wrong1 _ (HN.out.below HB.out)).mono ?_
  rintro e w4 ⟨rfl, hb⟩
  replace HB := Lib.hid (HB.out.trans (hb.mono HB.out.size))
  clear hb
  go_wp2_with fail
  refine (wrong2 _ (HN.out.below HB.out)).mono ?_
  rintro e w5 ⟨rfl, hb⟩
  replace HB := Lib.hid (HB.out.trans (hb.mono HB.out.size))
  clear hb
  go_wp2_with fail
  refine (wrong3 _ (HN.out.below HB.out)).mono ?_
  rintro e w6 ⟨rfl, hb⟩
  replace HB := Lib.hid (HB.out.trans (hb.mono HB.out.size))
  clear hb
  go_wp2_with fail
  refine (wrong4 _ (HN.out.below HB.out)).mono ?_
  rintro e w7 ⟨rfl, hb⟩
  replace HB := Lib.hid (HB.out.trans (hb.mono HB.out.size))
  clear hb
  go_wp2_with fail
  refine (fitsE _).mono ?_
  rintro e w8 ⟨rfl, hb⟩
  replace HB := Lib.hid (HB.out.trans (hb.mono HB.out.size))
  clear hb
  go_wp2_with fail
  refine (overE _).mono ?_
  rintro e w9 ⟨rfl, hb⟩
  replace HB := Lib.hid (HB.out.trans (hb.mono HB.out.size))
  clear hb
  go_wp2
  go_ret
  exact ⟨rfl, HB.out⟩

end Go.Proofs.YtgmecaaogmpakaaDoor
