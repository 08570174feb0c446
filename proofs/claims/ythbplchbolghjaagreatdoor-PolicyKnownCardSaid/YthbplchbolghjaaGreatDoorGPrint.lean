/- What Print answers of a policy, as a plain function. Conditions: its names lie in memory; the variables hold what was laid. -/
import Derived.Test.YthbplchbolghjaaGreatDoorGPrintM
namespace Go.Proofs.YthbplchbolghjaaGreatDoor
open Go.RowKit

/-- What a line says lies in memory. -/
structure SaidAt (w : World) (q k : Nat) (x : Said) (A : Option Addr) (c : Nat) : Prop where
  is : w.cell? ⟨q, k * 2, none⟩ = some (.bool x.1)
  ws : w.cell? ⟨q, k * 2 + 1, none⟩ = some (.slice A x.2.length c)
  cells : La.SlAt w A (strC x.2)
  le : x.2.length ≤ c
  most : c ≤ 9223372036854775807
theorem SaidAt.below {w w' : World} {q k : Nat} {x : Said} {A : Option Addr} {c : Nat} (h : SaidAt w q k x A c) (hb : Below w.heap.size w w') : SaidAt w' q k x A c := by
  have kc : ∀ {p : Addr} {v : Value}, w.cell? p = some v → w'.cell? p = some v := fun {p v} hc => (hb.cell (World.block_lt_of_cell? w p hc)).trans hc
  exact ⟨kc h.is, kc h.ws, h.cells.below hb, h.le, h.most⟩
theorem wordsT_take {l : List (List UInt8)} {j : Nat} {t : List UInt8} (h : l[j]? = some t) : wordsT (l.take (j + 1)) = wordsT (l.take j) ++ (32 :: t) := by
  rw [List.take_add_one, h]
  simp [wordsT]
theorem key_ix (k : Nat) (hk : k < 7) (w : World) : (Instr.index 54 (.agg #[strV [108, 111, 119], strV [104, 105, 103, 104], strV [111, 110], strV [100, 114, 97, 105, 110], strV [109, 111, 118, 101, 115], strV [116, 114, 105, 101, 115], strV [114, 111, 108, 108, 98, 97, 99, 107]]) (.int .i64 (k : Int))).run Tryz.prog w = .ok (strV (keysL.getD k [])) w := by
  obtain rfl | rfl | rfl | rfl | rfl | rfl | rfl : k = 0 ∨ k = 1 ∨ k = 2 ∨ k = 3 ∨ k = 4 ∨ k = 5 ∨ k = 6 := by omega
  all_goals kernel_rfl

/-- Fourteen cells are written. -/
abbrev set14 (W : World) (b : Nat) (v0 v1 v2 v3 v4 v5 v6 v7 v8 v9 v10 v11 v12 v13 : Value) : World := (((((((((((((W.setCell ⟨b, 0, none⟩ v0).setCell ⟨b, 1, none⟩ v1).setCell ⟨b, 2, none⟩ v2).setCell ⟨b, 3, none⟩ v3).setCell ⟨b, 4, none⟩ v4).setCell ⟨b, 5, none⟩ v5).setCell ⟨b, 6, none⟩ v6).setCell ⟨b, 7, none⟩ v7).setCell ⟨b, 8, none⟩ v8).setCell ⟨b, 9, none⟩ v9).setCell ⟨b, 10, none⟩ v10).setCell ⟨b, 11, none⟩ v11).setCell ⟨b, 12, none⟩ v12).setCell ⟨b, 13, none⟩ v13
theorem blk14 {W : World} {b : Nat} {t : TypeId} {a0 a1 a2 a3 a4 a5 a6 a7 a8 a9 a10 a11 a12 a13 : Value} (h : Blk W b #[a0, a1, a2, a3, a4, a5, a6, a7, a8, a9, a10, a11, a12, a13] t) (v0 v1 v2 v3 v4 v5 v6 v7 v8 v9 v10 v11 v12 v13 : Value) : Blk (set14 W b v0 v1 v2 v3 v4 v5 v6 v7 v8 v9 v10 v11 v12 v13) b #[v0, v1, v2, v3, v4, v5, v6, v7, v8, v9, v10, v11, v12, v13] t := by
  have s0 : Blk (W.setCell ⟨b, 0, none⟩ v0) b #[v0, a1, a2, a3, a4, a5, a6, a7, a8, a9, a10, a11, a12, a13] t := Blk.set h 0 v0
  have s1 : Blk ((W.setCell ⟨b, 0, none⟩ v0).setCell ⟨b, 1, none⟩ v1) b #[v0, v1, a2, a3, a4, a5, a6, a7, a8, a9, a10, a11, a12, a13] t := Blk.set s0 1 v1
  have s2 : Blk (((W.setCell ⟨b, 0, none⟩ v0).setCell ⟨b, 1, none⟩ v1).setCell ⟨b, 2, none⟩ v2) b #[v0, v1, v2, a3, a4, a5, a6, a7, a8, a9, a10, a11, a12, a13] t := Blk.set s1 2 v2
  have s3 : Blk ((((W.setCell ⟨b, 0, none⟩ v0).setCell ⟨b, 1, none⟩ v1).setCell ⟨b, 2, none⟩ v2).setCell ⟨b, 3, none⟩ v3) b #[v0, v1, v2, v3, a4, a5, a6, a7, a8, a9, a10, a11, a12, a13] t := Blk.set s2 3 v3
  have s4 : Blk (((((W.setCell ⟨b, 0, none⟩ v0).setCell ⟨b, 1, none⟩ v1).setCell ⟨b, 2, none⟩ v2).setCell ⟨b, 3, none⟩ v3).setCell ⟨b, 4, none⟩ v4) b #[v0, v1, v2, v3, v4, a5, a6, a7, a8, a9, a10, a11, a12, a13] t := Blk.set s3 4 v4
  have s5 : Blk ((((((W.setCell ⟨b, 0, none⟩ v0).setCell ⟨b, 1, none⟩ v1).setCell ⟨b, 2, none⟩ v2).setCell ⟨b, 3, none⟩ v3).setCell ⟨b, 4, none⟩ v4).setCell ⟨b, 5, none⟩ v5) b #[v0, v1, v2, v3, v4, v5, a6, a7, a8, a9, a10, a11, a12, a13] t := Blk.set s4 5 v5
  have s6 : Blk (((((((W.setCell ⟨b, 0, none⟩ v0).setCell ⟨b, 1, none⟩ v1).setCell ⟨b, 2, none⟩ v2).setCell ⟨b, 3, none⟩ v3).setCell ⟨b, 4, none⟩ v4).setCell ⟨b, 5, none⟩ v5).setCell ⟨b, 6, none⟩ v6) b #[v0, v1, v2, v3, v4, v5, v6, a7, a8, a9, a10, a11, a12, a13] t := Blk.set s5 6 v6
  have s7 : Blk ((((((((W.setCell ⟨b, 0, none⟩ v0).setCell ⟨b, 1, none⟩ v1).setCell ⟨b, 2, none⟩ v2).setCell ⟨b, 3, none⟩ v3).setCell ⟨b, 4, none⟩ v4).setCell ⟨b, 5, none⟩ v5).setCell ⟨b, 6, none⟩ v6).setCell ⟨b, 7, none⟩ v7) b #[v0, v1, v2, v3, v4, v5, v6, v7, a8, a9, a10, a11, a12, a13] t := Blk.set s6 7 v7
  have s8 : Blk (((((((((W.setCell ⟨b, 0, none⟩ v0).setCell ⟨b, 1, none⟩ v1).setCell ⟨b, 2, none⟩ v2).setCell ⟨b, 3, none⟩ v3).setCell ⟨b, 4, none⟩ v4).setCell ⟨b, 5, none⟩ v5).setCell ⟨b, 6, none⟩ v6).setCell ⟨b, 7, none⟩ v7).setCell ⟨b, 8, none⟩ v8) b #[v0, v1, v2, v3, v4, v5, v6, v7, v8, a9, a10, a11, a12, a13] t := Blk.set s7 8 v8
  have s9 : Blk ((((((((((W.setCell ⟨b, 0, none⟩ v0).setCell ⟨b, 1, none⟩ v1).setCell ⟨b, 2, none⟩ v2).setCell ⟨b, 3, none⟩ v3).setCell ⟨b, 4, none⟩ v4).setCell ⟨b, 5, none⟩ v5).setCell ⟨b, 6, none⟩ v6).setCell ⟨b, 7, none⟩ v7).setCell ⟨b, 8, none⟩ v8).setCell ⟨b, 9, none⟩ v9) b #[v0, v1, v2, v3, v4, v5, v6, v7, v8, v9, a10, a11, a12, a13] t := Blk.set s8 9 v9
  have s10 : Blk (((((((((((W.setCell ⟨b, 0, none⟩ v0).setCell ⟨b, 1, none⟩ v1).setCell ⟨b, 2, none⟩ v2).setCell ⟨b, 3, none⟩ v3).setCell ⟨b, 4, none⟩ v4).setCell ⟨b, 5, none⟩ v5).setCell ⟨b, 6, none⟩ v6).setCell ⟨b, 7, none⟩ v7).setCell ⟨b, 8, none⟩ v8).setCell ⟨b, 9, none⟩ v9).setCell ⟨b, 10, none⟩ v10) b #[v0, v1, v2, v3, v4, v5, v6, v7, v8, v9, v10, a11, a12, a13] t := Blk.set s9 10 v10
  have s11 : Blk ((((((((((((W.setCell ⟨b, 0, none⟩ v0).setCell ⟨b, 1, none⟩ v1).setCell ⟨b, 2, none⟩ v2).setCell ⟨b, 3, none⟩ v3).setCell ⟨b, 4, none⟩ v4).setCell ⟨b, 5, none⟩ v5).setCell ⟨b, 6, none⟩ v6).setCell ⟨b, 7, none⟩ v7).setCell ⟨b, 8, none⟩ v8).setCell ⟨b, 9, none⟩ v9).setCell ⟨b, 10, none⟩ v10).setCell ⟨b, 11, none⟩ v11) b #[v0, v1, v2, v3, v4, v5, v6, v7, v8, v9, v10, v11, a12, a13] t := Blk.set s10 11 v11
  have s12 : Blk (((((((((((((W.setCell ⟨b, 0, none⟩ v0).setCell ⟨b, 1, none⟩ v1).setCell ⟨b, 2, none⟩ v2).setCell ⟨b, 3, none⟩ v3).setCell ⟨b, 4, none⟩ v4).setCell ⟨b, 5, none⟩ v5).setCell ⟨b, 6, none⟩ v6).setCell ⟨b, 7, none⟩ v7).setCell ⟨b, 8, none⟩ v8).setCell ⟨b, 9, none⟩ v9).setCell ⟨b, 10, none⟩ v10).setCell ⟨b, 11, none⟩ v11).setCell ⟨b, 12, none⟩ v12) b #[v0, v1, v2, v3, v4, v5, v6, v7, v8, v9, v10, v11, v12, a13] t := Blk.set s11 12 v12
  have s13 : Blk ((((((((((((((W.setCell ⟨b, 0, none⟩ v0).setCell ⟨b, 1, none⟩ v1).setCell ⟨b, 2, none⟩ v2).setCell ⟨b, 3, none⟩ v3).setCell ⟨b, 4, none⟩ v4).setCell ⟨b, 5, none⟩ v5).setCell ⟨b, 6, none⟩ v6).setCell ⟨b, 7, none⟩ v7).setCell ⟨b, 8, none⟩ v8).setCell ⟨b, 9, none⟩ v9).setCell ⟨b, 10, none⟩ v10).setCell ⟨b, 11, none⟩ v11).setCell ⟨b, 12, none⟩ v12).setCell ⟨b, 13, none⟩ v13) b #[v0, v1, v2, v3, v4, v5, v6, v7, v8, v9, v10, v11, v12, v13] t := Blk.set s12 13 v13
  exact s13
theorem below14 {w W : World} {B b : Nat} (h : Below B w W) (hb : B ≤ b) (v0 v1 v2 v3 v4 v5 v6 v7 v8 v9 v10 v11 v12 v13 : Value) : Below B w (set14 W b v0 v1 v2 v3 v4 v5 v6 v7 v8 v9 v10 v11 v12 v13) := (((((((((((((h.setCell (p := ⟨b, 0, none⟩) hb v0).setCell (p := ⟨b, 1, none⟩) hb v1).setCell (p := ⟨b, 2, none⟩) hb v2).setCell (p := ⟨b, 3, none⟩) hb v3).setCell (p := ⟨b, 4, none⟩) hb v4).setCell (p := ⟨b, 5, none⟩) hb v5).setCell (p := ⟨b, 6, none⟩) hb v6).setCell (p := ⟨b, 7, none⟩) hb v7).setCell (p := ⟨b, 8, none⟩) hb v8).setCell (p := ⟨b, 9, none⟩) hb v9).setCell (p := ⟨b, 10, none⟩) hb v10).setCell (p := ⟨b, 11, none⟩) hb v11).setCell (p := ⟨b, 12, none⟩) hb v12).setCell (p := ⟨b, 13, none⟩) hb v13
theorem keep14 (W : World) (b : Nat) (v0 v1 v2 v3 v4 v5 v6 v7 v8 v9 v10 v11 v12 v13 : Value) : KeepR b W (set14 W b v0 v1 v2 v3 v4 v5 v6 v7 v8 v9 v10 v11 v12 v13) := ((((((((((((((KeepR.refl b W).setCell 0 v0).setCell 1 v1).setCell 2 v2).setCell 3 v3).setCell 4 v4).setCell 5 v5).setCell 6 v6).setCell 7 v7).setCell 8 v8).setCell 9 v9).setCell 10 v10).setCell 11 v11).setCell 12 v12).setCell 13 v13
theorem KeepR.own' {q base : Nat} {w w' : World} {e t : TypeId} {size : Nat} {v : Value} {n : Nat} {xs : List Value} {cs : Array Value} (h : KeepR q w w') (k : w.ownsRow base e size v n xs) (hb : Blk w q cs t) (hne : t ≠ e) : w'.ownsRow base e size v n xs := by
  obtain ⟨h1, h2⟩ := k
  refine ⟨h1, ?_⟩
  rcases h2 with h2 | ⟨p, cap, cur, hv, hp, hc, h3⟩
  · exact .inl h2
  · refine .inr ⟨p, cap, cur, hv, hp, (h.block p (Array.getElem?_eq_some_iff.1 hc).1 (fun e => ?_)).trans hc, h3⟩
    subst e
    unfold Blk at hb
    rw [hb] at hc
    cases hc
    exact hne rfl


/-- What stands in memory when all lines are told. -/
def PrintCut (w2 : World) (g : Pol) (A : Option Addr) (c : Nat) (x0 : Bool) (y0 : List (List UInt8)) (x1 : Bool) (y1 : List (List UInt8)) (x2 : Bool) (y2 : List (List UInt8)) (x4 : Bool) (y4 : List (List UInt8)) (x5 : Bool) (y5 : List (List UInt8)) (v : Value) (wc : World) : Prop :=
  ∃ (q : Nat) (A3 : Option Addr) (c3 : Nat) (A4 : Option Addr) (c4 : Nat) (A5 : Option Addr) (c5 : Nat) (A6 : Option Addr) (c6 : Nat) (A7 : Option Addr) (c7 : Nat), v = .pointer (some ⟨q, 0, none⟩) ∧ w2.heap.size ≤ q ∧ Blk wc q #[.bool x0, .slice A3 y0.length c3, .bool x1, .slice A4 y1.length c4, .bool x2, .slice A5 y2.length c5, .bool (decide (0 < g.drain.length)), .slice A g.drain.length c, .bool x4, .slice A6 y4.length c6, .bool x5, .slice A7 y5.length c7, .bool g.rb, .slice none 0 0] 49 ∧ wc.ownsRow w2.heap.size 9 1 (.slice A3 y0.length c3) y0.length (strC y0) ∧ wc.ownsRow w2.heap.size 9 1 (.slice A4 y1.length c4) y1.length (strC y1) ∧ wc.ownsRow w2.heap.size 9 1 (.slice A5 y2.length c5) y2.length (strC y2) ∧ wc.ownsRow w2.heap.size 9 1 (.slice A6 y4.length c6) y4.length (strC y4) ∧ wc.ownsRow w2.heap.size 9 1 (.slice A7 y5.length c7) y5.length (strC y5) ∧ Below w2.heap.size w2 wc
theorem leafA {w2 : World} {g : Pol} {A : Option Addr} {c : Nat} {x0 : Bool} {y0 : List (List UInt8)} {x1 : Bool} {y1 : List (List UInt8)} {x2 : Bool} {y2 : List (List UInt8)} {x4 : Bool} {y4 : List (List UInt8)} {x5 : Bool} {y5 : List (List UInt8)} {w7 : World} {A3 : Option Addr} {c3 : Nat} {A4 : Option Addr} {c4 : Nat} {A5 : Option Addr} {c5 : Nat} {A6 : Option Addr} {c6 : Nat} {A7 : Option Addr} {c7 : Nat} {dB : Bool} (D7 : Below w2.heap.size w2 w7) (O3 : w7.ownsRow w2.heap.size 9 1 (.slice A3 y0.length c3) y0.length (strC y0)) (O4 : w7.ownsRow w2.heap.size 9 1 (.slice A4 y1.length c4) y1.length (strC y1)) (O5 : w7.ownsRow w2.heap.size 9 1 (.slice A5 y2.length c5) y2.length (strC y2)) (O6 : w7.ownsRow w2.heap.size 9 1 (.slice A6 y4.length c6) y4.length (strC y4)) (O7 : w7.ownsRow w2.heap.size 9 1 (.slice A7 y5.length c7) y5.length (strC y5)) (hd : dB = decide (0 < g.drain.length)) :
    PrintCut w2 g A c x0 y0 x1 y1 x2 y2 x4 y4 x5 y5 (.pointer (some ⟨w7.heap.size, 0, none⟩)) (w7.alloc (.cells #[.bool x0, .slice A3 y0.length c3, .bool x1, .slice A4 y1.length c4, .bool x2, .slice A5 y2.length c5, .bool dB, .slice A g.drain.length c, .bool x4, .slice A6 y4.length c6, .bool x5, .slice A7 y5.length c7, .bool g.rb, .slice none 0 0] 49)) := by
  subst hd
  exact ⟨w7.heap.size, A3, c3, A4, c4, A5, c5, A6, c6, A7, c7, rfl, D7.size, Blk.new w7 _ _, O3.alloc _, O4.alloc _, O5.alloc _, O6.alloc _, O7.alloc _, D7.alloc D7.size _⟩
theorem leafB {w2 : World} {g : Pol} {A : Option Addr} {c : Nat} {x0 : Bool} {y0 : List (List UInt8)} {x1 : Bool} {y1 : List (List UInt8)} {x2 : Bool} {y2 : List (List UInt8)} {x4 : Bool} {y4 : List (List UInt8)} {x5 : Bool} {y5 : List (List UInt8)} {w7 : World} {q : Nat} {A3 : Option Addr} {c3 : Nat} {A4 : Option Addr} {c4 : Nat} {A5 : Option Addr} {c5 : Nat} {A6 : Option Addr} {c6 : Nat} {A7 : Option Addr} {c7 : Nat} {dB : Bool} (D7 : Below w2.heap.size w2 w7) (Z : Blk w7 q #[.bool false, .slice none 0 0, .bool false, .slice none 0 0, .bool false, .slice none 0 0, .bool false, .slice none 0 0, .bool false, .slice none 0 0, .bool false, .slice none 0 0, .bool false, .slice none 0 0] 49) (ZQ : w2.heap.size ≤ q) (O3 : w7.ownsRow w2.heap.size 9 1 (.slice A3 y0.length c3) y0.length (strC y0)) (O4 : w7.ownsRow w2.heap.size 9 1 (.slice A4 y1.length c4) y1.length (strC y1)) (O5 : w7.ownsRow w2.heap.size 9 1 (.slice A5 y2.length c5) y2.length (strC y2)) (O6 : w7.ownsRow w2.heap.size 9 1 (.slice A6 y4.length c6) y4.length (strC y4)) (O7 : w7.ownsRow w2.heap.size 9 1 (.slice A7 y5.length c7) y5.length (strC y5)) (hd : dB = decide (0 < g.drain.length)) :
    PrintCut w2 g A c x0 y0 x1 y1 x2 y2 x4 y4 x5 y5 (.pointer (some ⟨q, 0, none⟩)) (set14 w7 q (.bool x0) (.slice A3 y0.length c3) (.bool x1) (.slice A4 y1.length c4) (.bool x2) (.slice A5 y2.length c5) (.bool dB) (.slice A g.drain.length c) (.bool x4) (.slice A6 y4.length c6) (.bool x5) (.slice A7 y5.length c7) (.bool g.rb) (.slice none 0 0)) := by
  subst hd
  have K := keep14 w7 q (.bool x0) (.slice A3 y0.length c3) (.bool x1) (.slice A4 y1.length c4) (.bool x2) (.slice A5 y2.length c5) (.bool (decide (0 < g.drain.length))) (.slice A g.drain.length c) (.bool x4) (.slice A6 y4.length c6) (.bool x5) (.slice A7 y5.length c7) (.bool g.rb) (.slice none 0 0)
  exact ⟨q, A3, c3, A4, c4, A5, c5, A6, c6, A7, c7, rfl, ZQ, blk14 Z (.bool x0) (.slice A3 y0.length c3) (.bool x1) (.slice A4 y1.length c4) (.bool x2) (.slice A5 y2.length c5) (.bool (decide (0 < g.drain.length))) (.slice A g.drain.length c) (.bool x4) (.slice A6 y4.length c6) (.bool x5) (.slice A7 y5.length c7) (.bool g.rb) (.slice none 0 0), K.own' O3 Z (by decide), K.own' O4 Z (by decide), K.own' O5 Z (by decide), K.own' O6 Z (by decide), K.own' O7 Z (by decide), below14 D7 ZQ (.bool x0) (.slice A3 y0.length c3) (.bool x1) (.slice A4 y1.length c4) (.bool x2) (.slice A5 y2.length c5) (.bool (decide (0 < g.drain.length))) (.slice A g.drain.length c) (.bool x4) (.slice A6 y4.length c6) (.bool x5) (.slice A7 y5.length c7) (.bool g.rb) (.slice none 0 0)⟩
set_option maxRecDepth 100000 in
set_option maxHeartbeats 8000000 in
theorem print_any (g : Pol) (A : Option Addr) (c : Nat) (w : World) (he : Env w) (h : NamesAt w A c g.drain) :
    Calls Tryz.prog 9 #[valG g A c] w fun e w' => e = .returned (.tuple #[strV (printG g).1, .int .i64 (printG g).2]) ∧ Below w.heap.size w w' := by
  have HE := Lib.hid he
  have HN := Lib.hid h
  have B0 : Hid (Below w.heap.size w (w.alloc (.cells (cellsG g A c) 25))) := Lib.hid (below1 w _)
  have Q0 : Hid (Blk (w.alloc (.cells (cellsG g A c) 25)) w.heap.size (cellsG g A c) 25) := Lib.hid (Blk.new w _ _)
  have hl0 := Blk.lt Q0.out
  have KC := Lib.hid (fun w' (hb : Below w.heap.size w w') => gcheck_any g A c w' (h.below hb))
  obtain ⟨T, hT⟩ : ∃ T, printG g = T := ⟨_, rfl⟩
  have HT := Lib.hid (show T = if checkG g = 0 then (textK g 7, 0) else ([], checkG g) from hT.symm)
  have HSM := Lib.hid (fun h => saids_small (g := g) h)
  have HTL := Lib.hid (fun h => textK_len (g := g) h)
  have HPB := Lib.hid (fun h => polB_all (g := g) h)
  rw [hT]
  clear hT he h
  generalize hcg : checkG g = cg at KC HT HSM HTL HPB
  clear hcg
  go_enter Tryz.func9, Tryz.ntmps9
  go_upto_region 1 with fail
  change Code.wp _ _ _ _ (w.alloc (.cells (cellsG g A c) 25))
  generalize (w.alloc (.cells (cellsG g A c) 25)) = W1 at B0 Q0 hl0 ⊢
  have c0 : W1.cell? ⟨w.heap.size, 0, none⟩ = some (.int .i64 g.l0) := Blk.cell Q0.out 0
  have c1 : W1.cell? ⟨w.heap.size, 1, none⟩ = some (.int .i64 g.l1) := Blk.cell Q0.out 1
  have c2 : W1.cell? ⟨w.heap.size, 2, none⟩ = some (.int .i64 g.h0) := Blk.cell Q0.out 2
  have c3 : W1.cell? ⟨w.heap.size, 3, none⟩ = some (.int .i64 g.h1) := Blk.cell Q0.out 3
  have c4 : W1.cell? ⟨w.heap.size, 4, none⟩ = some (.int .i64 g.on) := Blk.cell Q0.out 4
  have c5 : W1.cell? ⟨w.heap.size, 5, none⟩ = some (.slice A g.drain.length c) := Blk.cell Q0.out 5
  have c6 : W1.cell? ⟨w.heap.size, 6, none⟩ = some (.int .i64 g.mx) := Blk.cell Q0.out 6
  have c7 : W1.cell? ⟨w.heap.size, 7, none⟩ = some (.int .i64 g.tr) := Blk.cell Q0.out 7
  have c8 : W1.cell? ⟨w.heap.size, 8, none⟩ = some (.bool g.rb) := Blk.cell Q0.out 8
  go_wp2_with fail
  refine (KC.out _ B0.out).mono ?_
  rintro e w2 ⟨rfl, hb2⟩
  have Q2 := Lib.hid (Blk.below Q0.out hb2 hl0)
  have B2 := Lib.hid (B0.out.trans (hb2.mono (Nat.le_of_lt hl0)))
  clear hb2 KC Q0 B0 c0 c1 c2 c3 c4 c5 c6 c7 c8
  have hl2 := Blk.lt Q2.out
  by_cases hz : cg = 0
  · subst hz
    have HZ : Hid (T = (textK g 7, 0)) := Lib.hid (by rw [HT.out, if_pos rfl])
    have hsm := Lib.hid (HSM.out rfl)
    have htl := Lib.hid (HTL.out rfl)
    obtain ⟨_, hon, ⟨hdr, _⟩, hmx, htr⟩ := HPB.out rfl
    clear HT HSM HTL HPB
    have E2 := Lib.hid (HE.out.below B2.out)
    have N2 := Lib.hid (HN.out.below B2.out)
    have K1 : Hid (∀ w', Below w2.heap.size w2 w' → Calls Tryz.prog 23 #[.agg #[.int .i64 g.l0, .int .i64 g.l1]] w' (SaidR w' (saidShares g.l0 g.l1))) := Lib.hid (fun w' hb => sharesSaid_any _ _ w' (E2.out.below hb))
    have K2 : Hid (∀ w', Below w2.heap.size w2 w' → Calls Tryz.prog 23 #[.agg #[.int .i64 g.h0, .int .i64 g.h1]] w' (SaidR w' (saidShares g.h0 g.h1))) := Lib.hid (fun w' hb => sharesSaid_any _ _ w' (E2.out.below hb))
    have K3 : Hid (∀ w', Below w2.heap.size w2 w' → Calls Tryz.prog 24 #[.int .i64 g.on] w' (SaidR w' (saidLooks g.on))) := Lib.hid (fun w' hb => looksSaid_any _ w' (E2.out.below hb))
    have K5 : Hid (∀ w', Below w2.heap.size w2 w' → Calls Tryz.prog 25 #[.int .i64 g.mx] w' (SaidR w' (saidNum g.mx))) := Lib.hid (fun w' hb => numberSaid_any _ w' (by omega) (by omega) (E2.out.below hb).tab)
    have K6 : Hid (∀ w', Below w2.heap.size w2 w' → Calls Tryz.prog 25 #[.int .i64 g.tr] w' (SaidR w' (saidNum g.tr))) := Lib.hid (fun w' hb => numberSaid_any _ w' (by omega) (by omega) (E2.out.below hb).tab)
    have HSG : Hid (∀ k x, (saidsG g)[k]? = some x → x ∈ saidsG g) := Lib.hid (fun k x h => List.mem_of_getElem? h)
    have HSD : Hid (saidsG g = [saidShares g.l0 g.l1, saidShares g.h0 g.h1, saidLooks g.on, (decide (0 < g.drain.length), g.drain), saidNum g.mx, saidNum g.tr, (g.rb, [])]) := Lib.hid rfl
    generalize saidShares g.l0 g.l1 = x0 at K1 HSD
    generalize saidShares g.h0 g.h1 = x1 at K2 HSD
    generalize saidLooks g.on = x2 at K3 HSD
    generalize saidNum g.mx = x4 at K5 HSD
    generalize saidNum g.tr = x5 at K6 HSD
    obtain ⟨x0, y0⟩ := x0
    obtain ⟨x1, y1⟩ := x1
    obtain ⟨x2, y2⟩ := x2
    obtain ⟨x4, y4⟩ := x4
    obtain ⟨x5, y5⟩ := x5
    have D2 : Hid (Below w2.heap.size w2 w2.drew) := Lib.hid ((Below.refl _ _).drew)
    have S2 : w2.drew.cell? ⟨w.heap.size, 0, none⟩ = some (.int .i64 g.l0) ∧ w2.drew.cell? ⟨w.heap.size, 1, none⟩ = some (.int .i64 g.l1) ∧ w2.drew.cell? ⟨w.heap.size, 2, none⟩ = some (.int .i64 g.h0) ∧ w2.drew.cell? ⟨w.heap.size, 3, none⟩ = some (.int .i64 g.h1) ∧ w2.drew.cell? ⟨w.heap.size, 4, none⟩ = some (.int .i64 g.on) ∧ w2.drew.cell? ⟨w.heap.size, 5, none⟩ = some (.slice A g.drain.length c) ∧ w2.drew.cell? ⟨w.heap.size, 6, none⟩ = some (.int .i64 g.mx) ∧ w2.drew.cell? ⟨w.heap.size, 7, none⟩ = some (.int .i64 g.tr) ∧ w2.drew.cell? ⟨w.heap.size, 8, none⟩ = some (.bool g.rb) := ⟨Blk.cell (show Blk w2.drew _ _ _ from Q2.out) 0, Blk.cell (show Blk w2.drew _ _ _ from Q2.out) 1, Blk.cell (show Blk w2.drew _ _ _ from Q2.out) 2, Blk.cell (show Blk w2.drew _ _ _ from Q2.out) 3, Blk.cell (show Blk w2.drew _ _ _ from Q2.out) 4, Blk.cell (show Blk w2.drew _ _ _ from Q2.out) 5, Blk.cell (show Blk w2.drew _ _ _ from Q2.out) 6, Blk.cell (show Blk w2.drew _ _ _ from Q2.out) 7, Blk.cell (show Blk w2.drew _ _ _ from Q2.out) 8⟩
    have hzz : Hid (∀ q w', Blk w' q #[.bool false, .slice none 0 0, .bool false, .slice none 0 0, .bool false, .slice none 0 0, .bool false, .slice none 0 0, .bool false, .slice none 0 0, .bool false, .slice none 0 0, .bool false, .slice none 0 0] 49 → True) := Lib.hid (fun _ _ _ => trivial)
    have S2w : w2.cell? ⟨w.heap.size, 0, none⟩ = some (.int .i64 g.l0) ∧ w2.cell? ⟨w.heap.size, 1, none⟩ = some (.int .i64 g.l1) ∧ w2.cell? ⟨w.heap.size, 2, none⟩ = some (.int .i64 g.h0) ∧ w2.cell? ⟨w.heap.size, 3, none⟩ = some (.int .i64 g.h1) ∧ w2.cell? ⟨w.heap.size, 4, none⟩ = some (.int .i64 g.on) ∧ w2.cell? ⟨w.heap.size, 5, none⟩ = some (.slice A g.drain.length c) ∧ w2.cell? ⟨w.heap.size, 6, none⟩ = some (.int .i64 g.mx) ∧ w2.cell? ⟨w.heap.size, 7, none⟩ = some (.int .i64 g.tr) ∧ w2.cell? ⟨w.heap.size, 8, none⟩ = some (.bool g.rb) := ⟨Blk.cell Q2.out 0, Blk.cell Q2.out 1, Blk.cell Q2.out 2, Blk.cell Q2.out 3, Blk.cell Q2.out 4, Blk.cell Q2.out 5, Blk.cell Q2.out 6, Blk.cell Q2.out 7, Blk.cell Q2.out 8⟩
    have nq0a : ¬ w.heap.size = w2.heap.size := by omega
    have nq0b : ¬ w2.heap.size = w.heap.size := by omega
    go_upto_region 4 with fail
    go_cut [5] (fun v wc => PrintCut w2 g A c x0 y0 x1 y1 x2 y2 x4 y4 x5 y5 v wc)
    case first =>
      go_region_held3 (fun w' => w'.cell? ⟨w.heap.size, 0, none⟩ = some (.int .i64 g.l0) ∧ w'.cell? ⟨w.heap.size, 1, none⟩ = some (.int .i64 g.l1) ∧ w'.cell? ⟨w.heap.size, 2, none⟩ = some (.int .i64 g.h0) ∧ w'.cell? ⟨w.heap.size, 3, none⟩ = some (.int .i64 g.h1) ∧ w'.cell? ⟨w.heap.size, 4, none⟩ = some (.int .i64 g.on) ∧ w'.cell? ⟨w.heap.size, 5, none⟩ = some (.slice A g.drain.length c) ∧ w'.cell? ⟨w.heap.size, 6, none⟩ = some (.int .i64 g.mx) ∧ w'.cell? ⟨w.heap.size, 7, none⟩ = some (.int .i64 g.tr) ∧ w'.cell? ⟨w.heap.size, 8, none⟩ = some (.bool g.rb))
        (first | (with_reducible exact S2) | (with_reducible exact S2w) | (with_reducible exact S3) | (with_reducible exact S4) | (with_reducible exact S5) | (with_reducible exact S6) | (with_reducible exact S7) | go_keep)
        (first
          | (go_at_call 23; (with_reducible refine (K1.out _ ((Below.refl w2.heap.size w2).alloc (Nat.le_refl _) (.cells #[.bool false, .slice none 0 0, .bool false, .slice none 0 0, .bool false, .slice none 0 0, .bool false, .slice none 0 0, .bool false, .slice none 0 0, .bool false, .slice none 0 0, .bool false, .slice none 0 0] 49)).drew).mono ?_); rintro e w3 ⟨A3, c3, rfl, ho3, hb3⟩; have Z := Lib.hid (Blk.below (Blk.drew (Blk.new w2 #[.bool false, .slice none 0 0, .bool false, .slice none 0 0, .bool false, .slice none 0 0, .bool false, .slice none 0 0, .bool false, .slice none 0 0, .bool false, .slice none 0 0, .bool false, .slice none 0 0] 49)) hb3 (Blk.lt (Blk.drew (Blk.new w2 #[.bool false, .slice none 0 0, .bool false, .slice none 0 0, .bool false, .slice none 0 0, .bool false, .slice none 0 0, .bool false, .slice none 0 0, .bool false, .slice none 0 0, .bool false, .slice none 0 0] 49)))); have ZQ : Hid (w2.heap.size ≤ w2.heap.size) := Lib.hid (Nat.le_refl _); have nqa : ¬ w.heap.size = w2.heap.size := Nat.ne_of_lt (Nat.lt_of_lt_of_le hl2 D2.out.size); have nqb : ¬ w2.heap.size = w.heap.size := Nat.ne_of_gt (Nat.lt_of_lt_of_le hl2 D2.out.size); have D3 : Hid (Below w2.heap.size w2 w3) := Lib.hid (((Below.refl w2.heap.size w2).alloc (Nat.le_refl _) (.cells #[.bool false, .slice none 0 0, .bool false, .slice none 0 0, .bool false, .slice none 0 0, .bool false, .slice none 0 0, .bool false, .slice none 0 0, .bool false, .slice none 0 0, .bool false, .slice none 0 0] 49)).drew.trans (hb3.mono ((Below.refl w2.heap.size w2).alloc (Nat.le_refl _) (.cells #[.bool false, .slice none 0 0, .bool false, .slice none 0 0, .bool false, .slice none 0 0, .bool false, .slice none 0 0, .bool false, .slice none 0 0, .bool false, .slice none 0 0, .bool false, .slice none 0 0] 49)).drew.size)); have O3 : Hid (w3.ownsRow w2.heap.size 9 1 (.slice A3 y0.length c3) y0.length (strC y0)) := Lib.hid (own_base ho3 ((Below.refl w2.heap.size w2).alloc (Nat.le_refl _) (.cells #[.bool false, .slice none 0 0, .bool false, .slice none 0 0, .bool false, .slice none 0 0, .bool false, .slice none 0 0, .bool false, .slice none 0 0, .bool false, .slice none 0 0, .bool false, .slice none 0 0] 49)).drew.size); have S3 : w3.cell? ⟨w.heap.size, 0, none⟩ = some (.int .i64 g.l0) ∧ w3.cell? ⟨w.heap.size, 1, none⟩ = some (.int .i64 g.l1) ∧ w3.cell? ⟨w.heap.size, 2, none⟩ = some (.int .i64 g.h0) ∧ w3.cell? ⟨w.heap.size, 3, none⟩ = some (.int .i64 g.h1) ∧ w3.cell? ⟨w.heap.size, 4, none⟩ = some (.int .i64 g.on) ∧ w3.cell? ⟨w.heap.size, 5, none⟩ = some (.slice A g.drain.length c) ∧ w3.cell? ⟨w.heap.size, 6, none⟩ = some (.int .i64 g.mx) ∧ w3.cell? ⟨w.heap.size, 7, none⟩ = some (.int .i64 g.tr) ∧ w3.cell? ⟨w.heap.size, 8, none⟩ = some (.bool g.rb) := ⟨Blk.cell (Blk.below Q2.out D3.out hl2) 0, Blk.cell (Blk.below Q2.out D3.out hl2) 1, Blk.cell (Blk.below Q2.out D3.out hl2) 2, Blk.cell (Blk.below Q2.out D3.out hl2) 3, Blk.cell (Blk.below Q2.out D3.out hl2) 4, Blk.cell (Blk.below Q2.out D3.out hl2) 5, Blk.cell (Blk.below Q2.out D3.out hl2) 6, Blk.cell (Blk.below Q2.out D3.out hl2) 7, Blk.cell (Blk.below Q2.out D3.out hl2) 8⟩; clear ho3 hb3)
          | (go_at_call 23; (with_reducible refine (K1.out _ D2.out).mono ?_); rintro e w3 ⟨A3, c3, rfl, ho3, hb3⟩; have Z := Lib.hid (Blk.below Z.out hb3 (Blk.lt Z.out)); have D3 : Hid (Below w2.heap.size w2 w3) := Lib.hid (D2.out.trans (hb3.mono D2.out.size)); have O3 : Hid (w3.ownsRow w2.heap.size 9 1 (.slice A3 y0.length c3) y0.length (strC y0)) := Lib.hid (own_base ho3 D2.out.size); have S3 : w3.cell? ⟨w.heap.size, 0, none⟩ = some (.int .i64 g.l0) ∧ w3.cell? ⟨w.heap.size, 1, none⟩ = some (.int .i64 g.l1) ∧ w3.cell? ⟨w.heap.size, 2, none⟩ = some (.int .i64 g.h0) ∧ w3.cell? ⟨w.heap.size, 3, none⟩ = some (.int .i64 g.h1) ∧ w3.cell? ⟨w.heap.size, 4, none⟩ = some (.int .i64 g.on) ∧ w3.cell? ⟨w.heap.size, 5, none⟩ = some (.slice A g.drain.length c) ∧ w3.cell? ⟨w.heap.size, 6, none⟩ = some (.int .i64 g.mx) ∧ w3.cell? ⟨w.heap.size, 7, none⟩ = some (.int .i64 g.tr) ∧ w3.cell? ⟨w.heap.size, 8, none⟩ = some (.bool g.rb) := ⟨Blk.cell (Blk.below Q2.out D3.out hl2) 0, Blk.cell (Blk.below Q2.out D3.out hl2) 1, Blk.cell (Blk.below Q2.out D3.out hl2) 2, Blk.cell (Blk.below Q2.out D3.out hl2) 3, Blk.cell (Blk.below Q2.out D3.out hl2) 4, Blk.cell (Blk.below Q2.out D3.out hl2) 5, Blk.cell (Blk.below Q2.out D3.out hl2) 6, Blk.cell (Blk.below Q2.out D3.out hl2) 7, Blk.cell (Blk.below Q2.out D3.out hl2) 8⟩; clear ho3 hb3)
          | (go_at_call 23; (with_reducible refine (K1.out _ D2.out).mono ?_); rintro e w3 ⟨A3, c3, rfl, ho3, hb3⟩; have D3 : Hid (Below w2.heap.size w2 w3) := Lib.hid (D2.out.trans (hb3.mono D2.out.size)); have O3 : Hid (w3.ownsRow w2.heap.size 9 1 (.slice A3 y0.length c3) y0.length (strC y0)) := Lib.hid (own_base ho3 D2.out.size); have S3 : w3.cell? ⟨w.heap.size, 0, none⟩ = some (.int .i64 g.l0) ∧ w3.cell? ⟨w.heap.size, 1, none⟩ = some (.int .i64 g.l1) ∧ w3.cell? ⟨w.heap.size, 2, none⟩ = some (.int .i64 g.h0) ∧ w3.cell? ⟨w.heap.size, 3, none⟩ = some (.int .i64 g.h1) ∧ w3.cell? ⟨w.heap.size, 4, none⟩ = some (.int .i64 g.on) ∧ w3.cell? ⟨w.heap.size, 5, none⟩ = some (.slice A g.drain.length c) ∧ w3.cell? ⟨w.heap.size, 6, none⟩ = some (.int .i64 g.mx) ∧ w3.cell? ⟨w.heap.size, 7, none⟩ = some (.int .i64 g.tr) ∧ w3.cell? ⟨w.heap.size, 8, none⟩ = some (.bool g.rb) := ⟨Blk.cell (Blk.below Q2.out D3.out hl2) 0, Blk.cell (Blk.below Q2.out D3.out hl2) 1, Blk.cell (Blk.below Q2.out D3.out hl2) 2, Blk.cell (Blk.below Q2.out D3.out hl2) 3, Blk.cell (Blk.below Q2.out D3.out hl2) 4, Blk.cell (Blk.below Q2.out D3.out hl2) 5, Blk.cell (Blk.below Q2.out D3.out hl2) 6, Blk.cell (Blk.below Q2.out D3.out hl2) 7, Blk.cell (Blk.below Q2.out D3.out hl2) 8⟩; clear ho3 hb3)
          | (go_at_call 23; (with_reducible refine (K2.out _ (D3.out.alloc D3.out.size _)).mono ?_); rintro e w4 ⟨A4, c4, rfl, ho4, hb4⟩; have Z := Lib.hid (Blk.below (Blk.new w3 #[.bool false, .slice none 0 0, .bool false, .slice none 0 0, .bool false, .slice none 0 0, .bool false, .slice none 0 0, .bool false, .slice none 0 0, .bool false, .slice none 0 0, .bool false, .slice none 0 0] 49) hb4 (Blk.lt (Blk.new w3 #[.bool false, .slice none 0 0, .bool false, .slice none 0 0, .bool false, .slice none 0 0, .bool false, .slice none 0 0, .bool false, .slice none 0 0, .bool false, .slice none 0 0, .bool false, .slice none 0 0] 49))); have ZQ : Hid (w2.heap.size ≤ w3.heap.size) := Lib.hid D3.out.size; have nqa : ¬ w.heap.size = w3.heap.size := Nat.ne_of_lt (Nat.lt_of_lt_of_le hl2 D3.out.size); have nqb : ¬ w3.heap.size = w.heap.size := Nat.ne_of_gt (Nat.lt_of_lt_of_le hl2 D3.out.size); have D4 : Hid (Below w2.heap.size w2 w4) := Lib.hid ((D3.out.alloc D3.out.size _).trans (hb4.mono (D3.out.alloc D3.out.size _).size)); have O4 : Hid (w4.ownsRow w2.heap.size 9 1 (.slice A4 y1.length c4) y1.length (strC y1)) := Lib.hid (own_base ho4 (D3.out.alloc D3.out.size _).size); have O3 : Hid (w4.ownsRow w2.heap.size 9 1 (.slice A3 y0.length c3) y0.length (strC y0)) := Lib.hid (Sc.own_below (World.ownsRow.alloc O3.out _) hb4); have S4 : w4.cell? ⟨w.heap.size, 0, none⟩ = some (.int .i64 g.l0) ∧ w4.cell? ⟨w.heap.size, 1, none⟩ = some (.int .i64 g.l1) ∧ w4.cell? ⟨w.heap.size, 2, none⟩ = some (.int .i64 g.h0) ∧ w4.cell? ⟨w.heap.size, 3, none⟩ = some (.int .i64 g.h1) ∧ w4.cell? ⟨w.heap.size, 4, none⟩ = some (.int .i64 g.on) ∧ w4.cell? ⟨w.heap.size, 5, none⟩ = some (.slice A g.drain.length c) ∧ w4.cell? ⟨w.heap.size, 6, none⟩ = some (.int .i64 g.mx) ∧ w4.cell? ⟨w.heap.size, 7, none⟩ = some (.int .i64 g.tr) ∧ w4.cell? ⟨w.heap.size, 8, none⟩ = some (.bool g.rb) := ⟨Blk.cell (Blk.below Q2.out D4.out hl2) 0, Blk.cell (Blk.below Q2.out D4.out hl2) 1, Blk.cell (Blk.below Q2.out D4.out hl2) 2, Blk.cell (Blk.below Q2.out D4.out hl2) 3, Blk.cell (Blk.below Q2.out D4.out hl2) 4, Blk.cell (Blk.below Q2.out D4.out hl2) 5, Blk.cell (Blk.below Q2.out D4.out hl2) 6, Blk.cell (Blk.below Q2.out D4.out hl2) 7, Blk.cell (Blk.below Q2.out D4.out hl2) 8⟩; clear ho4 hb4)
          | (go_at_call 23; (with_reducible refine (K2.out _ D3.out).mono ?_); rintro e w4 ⟨A4, c4, rfl, ho4, hb4⟩; have Z := Lib.hid (Blk.below Z.out hb4 (Blk.lt Z.out)); have D4 : Hid (Below w2.heap.size w2 w4) := Lib.hid (D3.out.trans (hb4.mono D3.out.size)); have O4 : Hid (w4.ownsRow w2.heap.size 9 1 (.slice A4 y1.length c4) y1.length (strC y1)) := Lib.hid (own_base ho4 D3.out.size); have O3 : Hid (w4.ownsRow w2.heap.size 9 1 (.slice A3 y0.length c3) y0.length (strC y0)) := Lib.hid (Sc.own_below O3.out hb4); have S4 : w4.cell? ⟨w.heap.size, 0, none⟩ = some (.int .i64 g.l0) ∧ w4.cell? ⟨w.heap.size, 1, none⟩ = some (.int .i64 g.l1) ∧ w4.cell? ⟨w.heap.size, 2, none⟩ = some (.int .i64 g.h0) ∧ w4.cell? ⟨w.heap.size, 3, none⟩ = some (.int .i64 g.h1) ∧ w4.cell? ⟨w.heap.size, 4, none⟩ = some (.int .i64 g.on) ∧ w4.cell? ⟨w.heap.size, 5, none⟩ = some (.slice A g.drain.length c) ∧ w4.cell? ⟨w.heap.size, 6, none⟩ = some (.int .i64 g.mx) ∧ w4.cell? ⟨w.heap.size, 7, none⟩ = some (.int .i64 g.tr) ∧ w4.cell? ⟨w.heap.size, 8, none⟩ = some (.bool g.rb) := ⟨Blk.cell (Blk.below Q2.out D4.out hl2) 0, Blk.cell (Blk.below Q2.out D4.out hl2) 1, Blk.cell (Blk.below Q2.out D4.out hl2) 2, Blk.cell (Blk.below Q2.out D4.out hl2) 3, Blk.cell (Blk.below Q2.out D4.out hl2) 4, Blk.cell (Blk.below Q2.out D4.out hl2) 5, Blk.cell (Blk.below Q2.out D4.out hl2) 6, Blk.cell (Blk.below Q2.out D4.out hl2) 7, Blk.cell (Blk.below Q2.out D4.out hl2) 8⟩; clear ho4 hb4)
          | (go_at_call 23; (with_reducible refine (K2.out _ D3.out).mono ?_); rintro e w4 ⟨A4, c4, rfl, ho4, hb4⟩; have D4 : Hid (Below w2.heap.size w2 w4) := Lib.hid (D3.out.trans (hb4.mono D3.out.size)); have O4 : Hid (w4.ownsRow w2.heap.size 9 1 (.slice A4 y1.length c4) y1.length (strC y1)) := Lib.hid (own_base ho4 D3.out.size); have O3 : Hid (w4.ownsRow w2.heap.size 9 1 (.slice A3 y0.length c3) y0.length (strC y0)) := Lib.hid (Sc.own_below O3.out hb4); have S4 : w4.cell? ⟨w.heap.size, 0, none⟩ = some (.int .i64 g.l0) ∧ w4.cell? ⟨w.heap.size, 1, none⟩ = some (.int .i64 g.l1) ∧ w4.cell? ⟨w.heap.size, 2, none⟩ = some (.int .i64 g.h0) ∧ w4.cell? ⟨w.heap.size, 3, none⟩ = some (.int .i64 g.h1) ∧ w4.cell? ⟨w.heap.size, 4, none⟩ = some (.int .i64 g.on) ∧ w4.cell? ⟨w.heap.size, 5, none⟩ = some (.slice A g.drain.length c) ∧ w4.cell? ⟨w.heap.size, 6, none⟩ = some (.int .i64 g.mx) ∧ w4.cell? ⟨w.heap.size, 7, none⟩ = some (.int .i64 g.tr) ∧ w4.cell? ⟨w.heap.size, 8, none⟩ = some (.bool g.rb) := ⟨Blk.cell (Blk.below Q2.out D4.out hl2) 0, Blk.cell (Blk.below Q2.out D4.out hl2) 1, Blk.cell (Blk.below Q2.out D4.out hl2) 2, Blk.cell (Blk.below Q2.out D4.out hl2) 3, Blk.cell (Blk.below Q2.out D4.out hl2) 4, Blk.cell (Blk.below Q2.out D4.out hl2) 5, Blk.cell (Blk.below Q2.out D4.out hl2) 6, Blk.cell (Blk.below Q2.out D4.out hl2) 7, Blk.cell (Blk.below Q2.out D4.out hl2) 8⟩; clear ho4 hb4)
          | (go_at_call 24; (with_reducible refine (K3.out _ (D4.out.alloc D4.out.size _)).mono ?_); rintro e w5 ⟨A5, c5, rfl, ho5, hb5⟩; have Z := Lib.hid (Blk.below (Blk.new w4 #[.bool false, .slice none 0 0, .bool false, .slice none 0 0, .bool false, .slice none 0 0, .bool false, .slice none 0 0, .bool false, .slice none 0 0, .bool false, .slice none 0 0, .bool false, .slice none 0 0] 49) hb5 (Blk.lt (Blk.new w4 #[.bool false, .slice none 0 0, .bool false, .slice none 0 0, .bool false, .slice none 0 0, .bool false, .slice none 0 0, .bool false, .slice none 0 0, .bool false, .slice none 0 0, .bool false, .slice none 0 0] 49))); have ZQ : Hid (w2.heap.size ≤ w4.heap.size) := Lib.hid D4.out.size; have nqa : ¬ w.heap.size = w4.heap.size := Nat.ne_of_lt (Nat.lt_of_lt_of_le hl2 D4.out.size); have nqb : ¬ w4.heap.size = w.heap.size := Nat.ne_of_gt (Nat.lt_of_lt_of_le hl2 D4.out.size); have D5 : Hid (Below w2.heap.size w2 w5) := Lib.hid ((D4.out.alloc D4.out.size _).trans (hb5.mono (D4.out.alloc D4.out.size _).size)); have O5 : Hid (w5.ownsRow w2.heap.size 9 1 (.slice A5 y2.length c5) y2.length (strC y2)) := Lib.hid (own_base ho5 (D4.out.alloc D4.out.size _).size); have O3 : Hid (w5.ownsRow w2.heap.size 9 1 (.slice A3 y0.length c3) y0.length (strC y0)) := Lib.hid (Sc.own_below (World.ownsRow.alloc O3.out _) hb5); have O4 : Hid (w5.ownsRow w2.heap.size 9 1 (.slice A4 y1.length c4) y1.length (strC y1)) := Lib.hid (Sc.own_below (World.ownsRow.alloc O4.out _) hb5); have S5 : w5.cell? ⟨w.heap.size, 0, none⟩ = some (.int .i64 g.l0) ∧ w5.cell? ⟨w.heap.size, 1, none⟩ = some (.int .i64 g.l1) ∧ w5.cell? ⟨w.heap.size, 2, none⟩ = some (.int .i64 g.h0) ∧ w5.cell? ⟨w.heap.size, 3, none⟩ = some (.int .i64 g.h1) ∧ w5.cell? ⟨w.heap.size, 4, none⟩ = some (.int .i64 g.on) ∧ w5.cell? ⟨w.heap.size, 5, none⟩ = some (.slice A g.drain.length c) ∧ w5.cell? ⟨w.heap.size, 6, none⟩ = some (.int .i64 g.mx) ∧ w5.cell? ⟨w.heap.size, 7, none⟩ = some (.int .i64 g.tr) ∧ w5.cell? ⟨w.heap.size, 8, none⟩ = some (.bool g.rb) := ⟨Blk.cell (Blk.below Q2.out D5.out hl2) 0, Blk.cell (Blk.below Q2.out D5.out hl2) 1, Blk.cell (Blk.below Q2.out D5.out hl2) 2, Blk.cell (Blk.below Q2.out D5.out hl2) 3, Blk.cell (Blk.below Q2.out D5.out hl2) 4, Blk.cell (Blk.below Q2.out D5.out hl2) 5, Blk.cell (Blk.below Q2.out D5.out hl2) 6, Blk.cell (Blk.below Q2.out D5.out hl2) 7, Blk.cell (Blk.below Q2.out D5.out hl2) 8⟩; clear ho5 hb5)
          | (go_at_call 24; (with_reducible refine (K3.out _ D4.out).mono ?_); rintro e w5 ⟨A5, c5, rfl, ho5, hb5⟩; have Z := Lib.hid (Blk.below Z.out hb5 (Blk.lt Z.out)); have D5 : Hid (Below w2.heap.size w2 w5) := Lib.hid (D4.out.trans (hb5.mono D4.out.size)); have O5 : Hid (w5.ownsRow w2.heap.size 9 1 (.slice A5 y2.length c5) y2.length (strC y2)) := Lib.hid (own_base ho5 D4.out.size); have O3 : Hid (w5.ownsRow w2.heap.size 9 1 (.slice A3 y0.length c3) y0.length (strC y0)) := Lib.hid (Sc.own_below O3.out hb5); have O4 : Hid (w5.ownsRow w2.heap.size 9 1 (.slice A4 y1.length c4) y1.length (strC y1)) := Lib.hid (Sc.own_below O4.out hb5); have S5 : w5.cell? ⟨w.heap.size, 0, none⟩ = some (.int .i64 g.l0) ∧ w5.cell? ⟨w.heap.size, 1, none⟩ = some (.int .i64 g.l1) ∧ w5.cell? ⟨w.heap.size, 2, none⟩ = some (.int .i64 g.h0) ∧ w5.cell? ⟨w.heap.size, 3, none⟩ = some (.int .i64 g.h1) ∧ w5.cell? ⟨w.heap.size, 4, none⟩ = some (.int .i64 g.on) ∧ w5.cell? ⟨w.heap.size, 5, none⟩ = some (.slice A g.drain.length c) ∧ w5.cell? ⟨w.heap.size, 6, none⟩ = some (.int .i64 g.mx) ∧ w5.cell? ⟨w.heap.size, 7, none⟩ = some (.int .i64 g.tr) ∧ w5.cell? ⟨w.heap.size, 8, none⟩ = some (.bool g.rb) := ⟨Blk.cell (Blk.below Q2.out D5.out hl2) 0, Blk.cell (Blk.below Q2.out D5.out hl2) 1, Blk.cell (Blk.below Q2.out D5.out hl2) 2, Blk.cell (Blk.below Q2.out D5.out hl2) 3, Blk.cell (Blk.below Q2.out D5.out hl2) 4, Blk.cell (Blk.below Q2.out D5.out hl2) 5, Blk.cell (Blk.below Q2.out D5.out hl2) 6, Blk.cell (Blk.below Q2.out D5.out hl2) 7, Blk.cell (Blk.below Q2.out D5.out hl2) 8⟩; clear ho5 hb5)
          | (go_at_call 24; (with_reducible refine (K3.out _ D4.out).mono ?_); rintro e w5 ⟨A5, c5, rfl, ho5, hb5⟩; have D5 : Hid (Below w2.heap.size w2 w5) := Lib.hid (D4.out.trans (hb5.mono D4.out.size)); have O5 : Hid (w5.ownsRow w2.heap.size 9 1 (.slice A5 y2.length c5) y2.length (strC y2)) := Lib.hid (own_base ho5 D4.out.size); have O3 : Hid (w5.ownsRow w2.heap.size 9 1 (.slice A3 y0.length c3) y0.length (strC y0)) := Lib.hid (Sc.own_below O3.out hb5); have O4 : Hid (w5.ownsRow w2.heap.size 9 1 (.slice A4 y1.length c4) y1.length (strC y1)) := Lib.hid (Sc.own_below O4.out hb5); have S5 : w5.cell? ⟨w.heap.size, 0, none⟩ = some (.int .i64 g.l0) ∧ w5.cell? ⟨w.heap.size, 1, none⟩ = some (.int .i64 g.l1) ∧ w5.cell? ⟨w.heap.size, 2, none⟩ = some (.int .i64 g.h0) ∧ w5.cell? ⟨w.heap.size, 3, none⟩ = some (.int .i64 g.h1) ∧ w5.cell? ⟨w.heap.size, 4, none⟩ = some (.int .i64 g.on) ∧ w5.cell? ⟨w.heap.size, 5, none⟩ = some (.slice A g.drain.length c) ∧ w5.cell? ⟨w.heap.size, 6, none⟩ = some (.int .i64 g.mx) ∧ w5.cell? ⟨w.heap.size, 7, none⟩ = some (.int .i64 g.tr) ∧ w5.cell? ⟨w.heap.size, 8, none⟩ = some (.bool g.rb) := ⟨Blk.cell (Blk.below Q2.out D5.out hl2) 0, Blk.cell (Blk.below Q2.out D5.out hl2) 1, Blk.cell (Blk.below Q2.out D5.out hl2) 2, Blk.cell (Blk.below Q2.out D5.out hl2) 3, Blk.cell (Blk.below Q2.out D5.out hl2) 4, Blk.cell (Blk.below Q2.out D5.out hl2) 5, Blk.cell (Blk.below Q2.out D5.out hl2) 6, Blk.cell (Blk.below Q2.out D5.out hl2) 7, Blk.cell (Blk.below Q2.out D5.out hl2) 8⟩; clear ho5 hb5)
          | (go_at_call 25; (with_reducible refine (K5.out _ (D5.out.alloc D5.out.size _)).mono ?_); rintro e w6 ⟨A6, c6, rfl, ho6, hb6⟩; have Z := Lib.hid (Blk.below (Blk.new w5 #[.bool false, .slice none 0 0, .bool false, .slice none 0 0, .bool false, .slice none 0 0, .bool false, .slice none 0 0, .bool false, .slice none 0 0, .bool false, .slice none 0 0, .bool false, .slice none 0 0] 49) hb6 (Blk.lt (Blk.new w5 #[.bool false, .slice none 0 0, .bool false, .slice none 0 0, .bool false, .slice none 0 0, .bool false, .slice none 0 0, .bool false, .slice none 0 0, .bool false, .slice none 0 0, .bool false, .slice none 0 0] 49))); have ZQ : Hid (w2.heap.size ≤ w5.heap.size) := Lib.hid D5.out.size; have nqa : ¬ w.heap.size = w5.heap.size := Nat.ne_of_lt (Nat.lt_of_lt_of_le hl2 D5.out.size); have nqb : ¬ w5.heap.size = w.heap.size := Nat.ne_of_gt (Nat.lt_of_lt_of_le hl2 D5.out.size); have D6 : Hid (Below w2.heap.size w2 w6) := Lib.hid ((D5.out.alloc D5.out.size _).trans (hb6.mono (D5.out.alloc D5.out.size _).size)); have O6 : Hid (w6.ownsRow w2.heap.size 9 1 (.slice A6 y4.length c6) y4.length (strC y4)) := Lib.hid (own_base ho6 (D5.out.alloc D5.out.size _).size); have O3 : Hid (w6.ownsRow w2.heap.size 9 1 (.slice A3 y0.length c3) y0.length (strC y0)) := Lib.hid (Sc.own_below (World.ownsRow.alloc O3.out _) hb6); have O4 : Hid (w6.ownsRow w2.heap.size 9 1 (.slice A4 y1.length c4) y1.length (strC y1)) := Lib.hid (Sc.own_below (World.ownsRow.alloc O4.out _) hb6); have O5 : Hid (w6.ownsRow w2.heap.size 9 1 (.slice A5 y2.length c5) y2.length (strC y2)) := Lib.hid (Sc.own_below (World.ownsRow.alloc O5.out _) hb6); have S6 : w6.cell? ⟨w.heap.size, 0, none⟩ = some (.int .i64 g.l0) ∧ w6.cell? ⟨w.heap.size, 1, none⟩ = some (.int .i64 g.l1) ∧ w6.cell? ⟨w.heap.size, 2, none⟩ = some (.int .i64 g.h0) ∧ w6.cell? ⟨w.heap.size, 3, none⟩ = some (.int .i64 g.h1) ∧ w6.cell? ⟨w.heap.size, 4, none⟩ = some (.int .i64 g.on) ∧ w6.cell? ⟨w.heap.size, 5, none⟩ = some (.slice A g.drain.length c) ∧ w6.cell? ⟨w.heap.size, 6, none⟩ = some (.int .i64 g.mx) ∧ w6.cell? ⟨w.heap.size, 7, none⟩ = some (.int .i64 g.tr) ∧ w6.cell? ⟨w.heap.size, 8, none⟩ = some (.bool g.rb) := ⟨Blk.cell (Blk.below Q2.out D6.out hl2) 0, Blk.cell (Blk.below Q2.out D6.out hl2) 1, Blk.cell (Blk.below Q2.out D6.out hl2) 2, Blk.cell (Blk.below Q2.out D6.out hl2) 3, Blk.cell (Blk.below Q2.out D6.out hl2) 4, Blk.cell (Blk.below Q2.out D6.out hl2) 5, Blk.cell (Blk.below Q2.out D6.out hl2) 6, Blk.cell (Blk.below Q2.out D6.out hl2) 7, Blk.cell (Blk.below Q2.out D6.out hl2) 8⟩; clear ho6 hb6)
          | (go_at_call 25; (with_reducible refine (K5.out _ D5.out).mono ?_); rintro e w6 ⟨A6, c6, rfl, ho6, hb6⟩; have Z := Lib.hid (Blk.below Z.out hb6 (Blk.lt Z.out)); have D6 : Hid (Below w2.heap.size w2 w6) := Lib.hid (D5.out.trans (hb6.mono D5.out.size)); have O6 : Hid (w6.ownsRow w2.heap.size 9 1 (.slice A6 y4.length c6) y4.length (strC y4)) := Lib.hid (own_base ho6 D5.out.size); have O3 : Hid (w6.ownsRow w2.heap.size 9 1 (.slice A3 y0.length c3) y0.length (strC y0)) := Lib.hid (Sc.own_below O3.out hb6); have O4 : Hid (w6.ownsRow w2.heap.size 9 1 (.slice A4 y1.length c4) y1.length (strC y1)) := Lib.hid (Sc.own_below O4.out hb6); have O5 : Hid (w6.ownsRow w2.heap.size 9 1 (.slice A5 y2.length c5) y2.length (strC y2)) := Lib.hid (Sc.own_below O5.out hb6); have S6 : w6.cell? ⟨w.heap.size, 0, none⟩ = some (.int .i64 g.l0) ∧ w6.cell? ⟨w.heap.size, 1, none⟩ = some (.int .i64 g.l1) ∧ w6.cell? ⟨w.heap.size, 2, none⟩ = some (.int .i64 g.h0) ∧ w6.cell? ⟨w.heap.size, 3, none⟩ = some (.int .i64 g.h1) ∧ w6.cell? ⟨w.heap.size, 4, none⟩ = some (.int .i64 g.on) ∧ w6.cell? ⟨w.heap.size, 5, none⟩ = some (.slice A g.drain.length c) ∧ w6.cell? ⟨w.heap.size, 6, none⟩ = some (.int .i64 g.mx) ∧ w6.cell? ⟨w.heap.size, 7, none⟩ = some (.int .i64 g.tr) ∧ w6.cell? ⟨w.heap.size, 8, none⟩ = some (.bool g.rb) := ⟨Blk.cell (Blk.below Q2.out D6.out hl2) 0, Blk.cell (Blk.below Q2.out D6.out hl2) 1, Blk.cell (Blk.below Q2.out D6.out hl2) 2, Blk.cell (Blk.below Q2.out D6.out hl2) 3, Blk.cell (Blk.below Q2.out D6.out hl2) 4, Blk.cell (Blk.below Q2.out D6.out hl2) 5, Blk.cell (Blk.below Q2.out D6.out hl2) 6, Blk.cell (Blk.below Q2.out D6.out hl2) 7, Blk.cell (Blk.below Q2.out D6.out hl2) 8⟩; clear ho6 hb6)
          | (go_at_call 25; (with_reducible refine (K5.out _ D5.out).mono ?_); rintro e w6 ⟨A6, c6, rfl, ho6, hb6⟩; have D6 : Hid (Below w2.heap.size w2 w6) := Lib.hid (D5.out.trans (hb6.mono D5.out.size)); have O6 : Hid (w6.ownsRow w2.heap.size 9 1 (.slice A6 y4.length c6) y4.length (strC y4)) := Lib.hid (own_base ho6 D5.out.size); have O3 : Hid (w6.ownsRow w2.heap.size 9 1 (.slice A3 y0.length c3) y0.length (strC y0)) := Lib.hid (Sc.own_below O3.out hb6); have O4 : Hid (w6.ownsRow w2.heap.size 9 1 (.slice A4 y1.length c4) y1.length (strC y1)) := Lib.hid (Sc.own_below O4.out hb6); have O5 : Hid (w6.ownsRow w2.heap.size 9 1 (.slice A5 y2.length c5) y2.length (strC y2)) := Lib.hid (Sc.own_below O5.out hb6); have S6 : w6.cell? ⟨w.heap.size, 0, none⟩ = some (.int .i64 g.l0) ∧ w6.cell? ⟨w.heap.size, 1, none⟩ = some (.int .i64 g.l1) ∧ w6.cell? ⟨w.heap.size, 2, none⟩ = some (.int .i64 g.h0) ∧ w6.cell? ⟨w.heap.size, 3, none⟩ = some (.int .i64 g.h1) ∧ w6.cell? ⟨w.heap.size, 4, none⟩ = some (.int .i64 g.on) ∧ w6.cell? ⟨w.heap.size, 5, none⟩ = some (.slice A g.drain.length c) ∧ w6.cell? ⟨w.heap.size, 6, none⟩ = some (.int .i64 g.mx) ∧ w6.cell? ⟨w.heap.size, 7, none⟩ = some (.int .i64 g.tr) ∧ w6.cell? ⟨w.heap.size, 8, none⟩ = some (.bool g.rb) := ⟨Blk.cell (Blk.below Q2.out D6.out hl2) 0, Blk.cell (Blk.below Q2.out D6.out hl2) 1, Blk.cell (Blk.below Q2.out D6.out hl2) 2, Blk.cell (Blk.below Q2.out D6.out hl2) 3, Blk.cell (Blk.below Q2.out D6.out hl2) 4, Blk.cell (Blk.below Q2.out D6.out hl2) 5, Blk.cell (Blk.below Q2.out D6.out hl2) 6, Blk.cell (Blk.below Q2.out D6.out hl2) 7, Blk.cell (Blk.below Q2.out D6.out hl2) 8⟩; clear ho6 hb6)
          | (go_at_call 25; (with_reducible refine (K6.out _ (D6.out.alloc D6.out.size _)).mono ?_); rintro e w7 ⟨A7, c7, rfl, ho7, hb7⟩; have Z := Lib.hid (Blk.below (Blk.new w6 #[.bool false, .slice none 0 0, .bool false, .slice none 0 0, .bool false, .slice none 0 0, .bool false, .slice none 0 0, .bool false, .slice none 0 0, .bool false, .slice none 0 0, .bool false, .slice none 0 0] 49) hb7 (Blk.lt (Blk.new w6 #[.bool false, .slice none 0 0, .bool false, .slice none 0 0, .bool false, .slice none 0 0, .bool false, .slice none 0 0, .bool false, .slice none 0 0, .bool false, .slice none 0 0, .bool false, .slice none 0 0] 49))); have ZQ : Hid (w2.heap.size ≤ w6.heap.size) := Lib.hid D6.out.size; have nqa : ¬ w.heap.size = w6.heap.size := Nat.ne_of_lt (Nat.lt_of_lt_of_le hl2 D6.out.size); have nqb : ¬ w6.heap.size = w.heap.size := Nat.ne_of_gt (Nat.lt_of_lt_of_le hl2 D6.out.size); have D7 : Hid (Below w2.heap.size w2 w7) := Lib.hid ((D6.out.alloc D6.out.size _).trans (hb7.mono (D6.out.alloc D6.out.size _).size)); have O7 : Hid (w7.ownsRow w2.heap.size 9 1 (.slice A7 y5.length c7) y5.length (strC y5)) := Lib.hid (own_base ho7 (D6.out.alloc D6.out.size _).size); have O3 : Hid (w7.ownsRow w2.heap.size 9 1 (.slice A3 y0.length c3) y0.length (strC y0)) := Lib.hid (Sc.own_below (World.ownsRow.alloc O3.out _) hb7); have O4 : Hid (w7.ownsRow w2.heap.size 9 1 (.slice A4 y1.length c4) y1.length (strC y1)) := Lib.hid (Sc.own_below (World.ownsRow.alloc O4.out _) hb7); have O5 : Hid (w7.ownsRow w2.heap.size 9 1 (.slice A5 y2.length c5) y2.length (strC y2)) := Lib.hid (Sc.own_below (World.ownsRow.alloc O5.out _) hb7); have O6 : Hid (w7.ownsRow w2.heap.size 9 1 (.slice A6 y4.length c6) y4.length (strC y4)) := Lib.hid (Sc.own_below (World.ownsRow.alloc O6.out _) hb7); have S7 : w7.cell? ⟨w.heap.size, 0, none⟩ = some (.int .i64 g.l0) ∧ w7.cell? ⟨w.heap.size, 1, none⟩ = some (.int .i64 g.l1) ∧ w7.cell? ⟨w.heap.size, 2, none⟩ = some (.int .i64 g.h0) ∧ w7.cell? ⟨w.heap.size, 3, none⟩ = some (.int .i64 g.h1) ∧ w7.cell? ⟨w.heap.size, 4, none⟩ = some (.int .i64 g.on) ∧ w7.cell? ⟨w.heap.size, 5, none⟩ = some (.slice A g.drain.length c) ∧ w7.cell? ⟨w.heap.size, 6, none⟩ = some (.int .i64 g.mx) ∧ w7.cell? ⟨w.heap.size, 7, none⟩ = some (.int .i64 g.tr) ∧ w7.cell? ⟨w.heap.size, 8, none⟩ = some (.bool g.rb) := ⟨Blk.cell (Blk.below Q2.out D7.out hl2) 0, Blk.cell (Blk.below Q2.out D7.out hl2) 1, Blk.cell (Blk.below Q2.out D7.out hl2) 2, Blk.cell (Blk.below Q2.out D7.out hl2) 3, Blk.cell (Blk.below Q2.out D7.out hl2) 4, Blk.cell (Blk.below Q2.out D7.out hl2) 5, Blk.cell (Blk.below Q2.out D7.out hl2) 6, Blk.cell (Blk.below Q2.out D7.out hl2) 7, Blk.cell (Blk.below Q2.out D7.out hl2) 8⟩; have zc0 : w7.cell? ⟨_, 0, none⟩ = some (.bool false) := Blk.cell Z.out 0; have zf0 : w7.frozen? ⟨_, 0, none⟩ = false := Blk.free Z.out 0; have zc1 : w7.cell? ⟨_, 1, none⟩ = some (.slice none 0 0) := Blk.cell Z.out 1; have zf1 : w7.frozen? ⟨_, 1, none⟩ = false := Blk.free Z.out 1; have zc2 : w7.cell? ⟨_, 2, none⟩ = some (.bool false) := Blk.cell Z.out 2; have zf2 : w7.frozen? ⟨_, 2, none⟩ = false := Blk.free Z.out 2; have zc3 : w7.cell? ⟨_, 3, none⟩ = some (.slice none 0 0) := Blk.cell Z.out 3; have zf3 : w7.frozen? ⟨_, 3, none⟩ = false := Blk.free Z.out 3; have zc4 : w7.cell? ⟨_, 4, none⟩ = some (.bool false) := Blk.cell Z.out 4; have zf4 : w7.frozen? ⟨_, 4, none⟩ = false := Blk.free Z.out 4; have zc5 : w7.cell? ⟨_, 5, none⟩ = some (.slice none 0 0) := Blk.cell Z.out 5; have zf5 : w7.frozen? ⟨_, 5, none⟩ = false := Blk.free Z.out 5; have zc6 : w7.cell? ⟨_, 6, none⟩ = some (.bool false) := Blk.cell Z.out 6; have zf6 : w7.frozen? ⟨_, 6, none⟩ = false := Blk.free Z.out 6; have zc7 : w7.cell? ⟨_, 7, none⟩ = some (.slice none 0 0) := Blk.cell Z.out 7; have zf7 : w7.frozen? ⟨_, 7, none⟩ = false := Blk.free Z.out 7; have zc8 : w7.cell? ⟨_, 8, none⟩ = some (.bool false) := Blk.cell Z.out 8; have zf8 : w7.frozen? ⟨_, 8, none⟩ = false := Blk.free Z.out 8; have zc9 : w7.cell? ⟨_, 9, none⟩ = some (.slice none 0 0) := Blk.cell Z.out 9; have zf9 : w7.frozen? ⟨_, 9, none⟩ = false := Blk.free Z.out 9; have zc10 : w7.cell? ⟨_, 10, none⟩ = some (.bool false) := Blk.cell Z.out 10; have zf10 : w7.frozen? ⟨_, 10, none⟩ = false := Blk.free Z.out 10; have zc11 : w7.cell? ⟨_, 11, none⟩ = some (.slice none 0 0) := Blk.cell Z.out 11; have zf11 : w7.frozen? ⟨_, 11, none⟩ = false := Blk.free Z.out 11; have zc12 : w7.cell? ⟨_, 12, none⟩ = some (.bool false) := Blk.cell Z.out 12; have zf12 : w7.frozen? ⟨_, 12, none⟩ = false := Blk.free Z.out 12; have zc13 : w7.cell? ⟨_, 13, none⟩ = some (.slice none 0 0) := Blk.cell Z.out 13; have zf13 : w7.frozen? ⟨_, 13, none⟩ = false := Blk.free Z.out 13; clear ho7 hb7)
          | (go_at_call 25; (with_reducible refine (K6.out _ D6.out).mono ?_); rintro e w7 ⟨A7, c7, rfl, ho7, hb7⟩; have Z := Lib.hid (Blk.below Z.out hb7 (Blk.lt Z.out)); have D7 : Hid (Below w2.heap.size w2 w7) := Lib.hid (D6.out.trans (hb7.mono D6.out.size)); have O7 : Hid (w7.ownsRow w2.heap.size 9 1 (.slice A7 y5.length c7) y5.length (strC y5)) := Lib.hid (own_base ho7 D6.out.size); have O3 : Hid (w7.ownsRow w2.heap.size 9 1 (.slice A3 y0.length c3) y0.length (strC y0)) := Lib.hid (Sc.own_below O3.out hb7); have O4 : Hid (w7.ownsRow w2.heap.size 9 1 (.slice A4 y1.length c4) y1.length (strC y1)) := Lib.hid (Sc.own_below O4.out hb7); have O5 : Hid (w7.ownsRow w2.heap.size 9 1 (.slice A5 y2.length c5) y2.length (strC y2)) := Lib.hid (Sc.own_below O5.out hb7); have O6 : Hid (w7.ownsRow w2.heap.size 9 1 (.slice A6 y4.length c6) y4.length (strC y4)) := Lib.hid (Sc.own_below O6.out hb7); have S7 : w7.cell? ⟨w.heap.size, 0, none⟩ = some (.int .i64 g.l0) ∧ w7.cell? ⟨w.heap.size, 1, none⟩ = some (.int .i64 g.l1) ∧ w7.cell? ⟨w.heap.size, 2, none⟩ = some (.int .i64 g.h0) ∧ w7.cell? ⟨w.heap.size, 3, none⟩ = some (.int .i64 g.h1) ∧ w7.cell? ⟨w.heap.size, 4, none⟩ = some (.int .i64 g.on) ∧ w7.cell? ⟨w.heap.size, 5, none⟩ = some (.slice A g.drain.length c) ∧ w7.cell? ⟨w.heap.size, 6, none⟩ = some (.int .i64 g.mx) ∧ w7.cell? ⟨w.heap.size, 7, none⟩ = some (.int .i64 g.tr) ∧ w7.cell? ⟨w.heap.size, 8, none⟩ = some (.bool g.rb) := ⟨Blk.cell (Blk.below Q2.out D7.out hl2) 0, Blk.cell (Blk.below Q2.out D7.out hl2) 1, Blk.cell (Blk.below Q2.out D7.out hl2) 2, Blk.cell (Blk.below Q2.out D7.out hl2) 3, Blk.cell (Blk.below Q2.out D7.out hl2) 4, Blk.cell (Blk.below Q2.out D7.out hl2) 5, Blk.cell (Blk.below Q2.out D7.out hl2) 6, Blk.cell (Blk.below Q2.out D7.out hl2) 7, Blk.cell (Blk.below Q2.out D7.out hl2) 8⟩; have zc0 : w7.cell? ⟨_, 0, none⟩ = some (.bool false) := Blk.cell Z.out 0; have zf0 : w7.frozen? ⟨_, 0, none⟩ = false := Blk.free Z.out 0; have zc1 : w7.cell? ⟨_, 1, none⟩ = some (.slice none 0 0) := Blk.cell Z.out 1; have zf1 : w7.frozen? ⟨_, 1, none⟩ = false := Blk.free Z.out 1; have zc2 : w7.cell? ⟨_, 2, none⟩ = some (.bool false) := Blk.cell Z.out 2; have zf2 : w7.frozen? ⟨_, 2, none⟩ = false := Blk.free Z.out 2; have zc3 : w7.cell? ⟨_, 3, none⟩ = some (.slice none 0 0) := Blk.cell Z.out 3; have zf3 : w7.frozen? ⟨_, 3, none⟩ = false := Blk.free Z.out 3; have zc4 : w7.cell? ⟨_, 4, none⟩ = some (.bool false) := Blk.cell Z.out 4; have zf4 : w7.frozen? ⟨_, 4, none⟩ = false := Blk.free Z.out 4; have zc5 : w7.cell? ⟨_, 5, none⟩ = some (.slice none 0 0) := Blk.cell Z.out 5; have zf5 : w7.frozen? ⟨_, 5, none⟩ = false := Blk.free Z.out 5; have zc6 : w7.cell? ⟨_, 6, none⟩ = some (.bool false) := Blk.cell Z.out 6; have zf6 : w7.frozen? ⟨_, 6, none⟩ = false := Blk.free Z.out 6; have zc7 : w7.cell? ⟨_, 7, none⟩ = some (.slice none 0 0) := Blk.cell Z.out 7; have zf7 : w7.frozen? ⟨_, 7, none⟩ = false := Blk.free Z.out 7; have zc8 : w7.cell? ⟨_, 8, none⟩ = some (.bool false) := Blk.cell Z.out 8; have zf8 : w7.frozen? ⟨_, 8, none⟩ = false := Blk.free Z.out 8; have zc9 : w7.cell? ⟨_, 9, none⟩ = some (.slice none 0 0) := Blk.cell Z.out 9; have zf9 : w7.frozen? ⟨_, 9, none⟩ = false := Blk.free Z.out 9; have zc10 : w7.cell? ⟨_, 10, none⟩ = some (.bool false) := Blk.cell Z.out 10; have zf10 : w7.frozen? ⟨_, 10, none⟩ = false := Blk.free Z.out 10; have zc11 : w7.cell? ⟨_, 11, none⟩ = some (.slice none 0 0) := Blk.cell Z.out 11; have zf11 : w7.frozen? ⟨_, 11, none⟩ = false := Blk.free Z.out 11; have zc12 : w7.cell? ⟨_, 12, none⟩ = some (.bool false) := Blk.cell Z.out 12; have zf12 : w7.frozen? ⟨_, 12, none⟩ = false := Blk.free Z.out 12; have zc13 : w7.cell? ⟨_, 13, none⟩ = some (.slice none 0 0) := Blk.cell Z.out 13; have zf13 : w7.frozen? ⟨_, 13, none⟩ = false := Blk.free Z.out 13; clear ho7 hb7)
          | (go_at_call 25; (with_reducible refine (K6.out _ D6.out).mono ?_); rintro e w7 ⟨A7, c7, rfl, ho7, hb7⟩; have D7 : Hid (Below w2.heap.size w2 w7) := Lib.hid (D6.out.trans (hb7.mono D6.out.size)); have O7 : Hid (w7.ownsRow w2.heap.size 9 1 (.slice A7 y5.length c7) y5.length (strC y5)) := Lib.hid (own_base ho7 D6.out.size); have O3 : Hid (w7.ownsRow w2.heap.size 9 1 (.slice A3 y0.length c3) y0.length (strC y0)) := Lib.hid (Sc.own_below O3.out hb7); have O4 : Hid (w7.ownsRow w2.heap.size 9 1 (.slice A4 y1.length c4) y1.length (strC y1)) := Lib.hid (Sc.own_below O4.out hb7); have O5 : Hid (w7.ownsRow w2.heap.size 9 1 (.slice A5 y2.length c5) y2.length (strC y2)) := Lib.hid (Sc.own_below O5.out hb7); have O6 : Hid (w7.ownsRow w2.heap.size 9 1 (.slice A6 y4.length c6) y4.length (strC y4)) := Lib.hid (Sc.own_below O6.out hb7); have S7 : w7.cell? ⟨w.heap.size, 0, none⟩ = some (.int .i64 g.l0) ∧ w7.cell? ⟨w.heap.size, 1, none⟩ = some (.int .i64 g.l1) ∧ w7.cell? ⟨w.heap.size, 2, none⟩ = some (.int .i64 g.h0) ∧ w7.cell? ⟨w.heap.size, 3, none⟩ = some (.int .i64 g.h1) ∧ w7.cell? ⟨w.heap.size, 4, none⟩ = some (.int .i64 g.on) ∧ w7.cell? ⟨w.heap.size, 5, none⟩ = some (.slice A g.drain.length c) ∧ w7.cell? ⟨w.heap.size, 6, none⟩ = some (.int .i64 g.mx) ∧ w7.cell? ⟨w.heap.size, 7, none⟩ = some (.int .i64 g.tr) ∧ w7.cell? ⟨w.heap.size, 8, none⟩ = some (.bool g.rb) := ⟨Blk.cell (Blk.below Q2.out D7.out hl2) 0, Blk.cell (Blk.below Q2.out D7.out hl2) 1, Blk.cell (Blk.below Q2.out D7.out hl2) 2, Blk.cell (Blk.below Q2.out D7.out hl2) 3, Blk.cell (Blk.below Q2.out D7.out hl2) 4, Blk.cell (Blk.below Q2.out D7.out hl2) 5, Blk.cell (Blk.below Q2.out D7.out hl2) 6, Blk.cell (Blk.below Q2.out D7.out hl2) 7, Blk.cell (Blk.below Q2.out D7.out hl2) 8⟩; clear ho7 hb7)
          | skip)
      all_goals
        go_wp2_with fail
        go_meet
        first
          | (have Z2 := Z; exact leafB D7.out Z.out ZQ.out O3.out O4.out O5.out O6.out O7.out (by first | rfl | exact decide_eq_decide.2 Iff.rfl))
          | exact leafA D7.out O3.out O4.out O5.out O6.out O7.out (by first | rfl | exact decide_eq_decide.2 Iff.rfl)
    case rest =>
      obtain ⟨q, A3, c3, A4, c4, A5, c5, A6, c6, A7, c7, rfl, hq, hZ, o3, o4, o5, o6, o7, hb⟩ := hcut
      have HW := Lib.hid (B2.out.trans (hb.mono (Nat.le_of_lt hl2)))
      have EC := Lib.hid (E2.out.below hb)
      have NC := Lib.hid (N2.out.below hb)
      have HSA : Hid (∀ k x, (saidsG g)[k]? = some x → ∃ A c, SaidAt wc q k x A c) := Lib.hid (by
        intro k x hx
        rw [HSD.out] at hx
        have kO : ∀ {A : Option Addr} {c : Nat} {l : List (List UInt8)}, wc.ownsRow w2.heap.size 9 1 (.slice A l.length c) l.length (strC l) → La.SlAt wc A (strC l) ∧ l.length ≤ c ∧ c ≤ 9223372036854775807 := fun ho => ⟨fun j y hj => Sc.own_slat ho j y hj, (Sc.own_cap ho).1, (Sc.own_cap ho).2⟩
        match k, hx with
        | 0, hx => cases hx; exact ⟨A3, c3, Blk.cell hZ 0, Blk.cell hZ 1, (kO o3).1, (kO o3).2.1, (kO o3).2.2⟩
        | 1, hx => cases hx; exact ⟨A4, c4, Blk.cell hZ 2, Blk.cell hZ 3, (kO o4).1, (kO o4).2.1, (kO o4).2.2⟩
        | 2, hx => cases hx; exact ⟨A5, c5, Blk.cell hZ 4, Blk.cell hZ 5, (kO o5).1, (kO o5).2.1, (kO o5).2.2⟩
        | 3, hx => cases hx; exact ⟨A, c, Blk.cell hZ 6, Blk.cell hZ 7, NC.out.cells, NC.out.le, NC.out.most⟩
        | 4, hx => cases hx; exact ⟨A6, c6, Blk.cell hZ 8, Blk.cell hZ 9, (kO o6).1, (kO o6).2.1, (kO o6).2.2⟩
        | 5, hx => cases hx; exact ⟨A7, c7, Blk.cell hZ 10, Blk.cell hZ 11, (kO o7).1, (kO o7).2.1, (kO o7).2.2⟩
        | 6, hx => cases hx; exact ⟨none, 0, Blk.cell hZ 12, Blk.cell hZ 13, La.SlAt.nil _ _, Nat.le_refl _, by omega⟩
        | k + 7, hx => simp at hx)
      have HSL : Hid ((saidsG g).length = 7) := Lib.hid (by rw [HSD.out]; rfl)
      have hISB := Lib.hid (La.isB_new wc)
      have HBC : Hid (Below wc.heap.size wc (wc.alloc (.cells #[.pointer none, .slice none 0 0] 53))) := Lib.hid (below1 wc _)
      clear hZ o3 o4 o5 o6 o7 hb E2 N2 NC HSD K1 K2 K3 K5 K6 S2 S2w D2 Q2 hzz HSG
      go_upto_region 6 with fail
      generalize (wc.alloc (.cells #[.pointer none, .slice none 0 0] 53)) = W5 at hISB HBC ⊢
      obtain ⟨BB, hBB⟩ : ∃ BB, wc.heap.size = BB := ⟨_, rfl⟩
      rw [hBB] at hISB HBC ⊢
      have E5 := Lib.hid (EC.out.below (by rw [hBB]; exact HBC.out))
      have kc0 : W5.cell? ⟨0, 0, none⟩ = some (strV [108, 111, 119]) := E5.out.keys 0 _ rfl
      have kc1 : W5.cell? ⟨0, 1, none⟩ = some (strV [104, 105, 103, 104]) := E5.out.keys 1 _ rfl
      have kc2 : W5.cell? ⟨0, 2, none⟩ = some (strV [111, 110]) := E5.out.keys 2 _ rfl
      have kc3 : W5.cell? ⟨0, 3, none⟩ = some (strV [100, 114, 97, 105, 110]) := E5.out.keys 3 _ rfl
      have kc4 : W5.cell? ⟨0, 4, none⟩ = some (strV [109, 111, 118, 101, 115]) := E5.out.keys 4 _ rfl
      have kc5 : W5.cell? ⟨0, 5, none⟩ = some (strV [116, 114, 105, 101, 115]) := E5.out.keys 5 _ rfl
      have kc6 : W5.cell? ⟨0, 6, none⟩ = some (strV [114, 111, 108, 108, 98, 97, 99, 107]) := E5.out.keys 6 _ rfl
      have HBBW := Lib.hid (show w.heap.size ≤ BB by have := HW.out.size; omega)
      go_wp2_with fail
      go_loopw [43] (fun i wr => ∃ k : Nat, k ≤ 7 ∧ i = .int .i64 k ∧ La.IsB BB BB (Lib.byteCells (textK g k)) wr ∧ Below BB wc wr) (fun i _ => 7 - (intOf i).toNat)
      case atStart => exact ⟨0, by omega, rfl, hISB.out, HBC.out⟩
      case round =>
        clear kc0 kc1 kc2 kc3 kc4 kc5 kc6 hISB HBC E5
        obtain ⟨k, hk, rfl, hB, hbw⟩ := hrel
        have HB := Lib.hid hB
        have HBW := Lib.hid hbw
        have hBr : BB ≤ wr.heap.size := by have := hbw.size; omega
        clear hB hbw
        by_cases hlt : k < 7
        · obtain ⟨x, hx⟩ : ∃ x, (saidsG g)[k]? = some x := ⟨(saidsG g)[k]'(by rw [HSL.out]; exact hlt), List.getElem?_eq_getElem _⟩
          obtain ⟨A9, c9, hsa⟩ := HSA.out k x hx
          have HA9 := Lib.hid hsa
          have HS9 := Lib.hid (hsa.below (by rw [hBB]; exact HBW.out))
          have hsmx := hsm.out x (List.mem_of_getElem? hx)
          have HSTEP : Hid (textK g (k + 1) = textK g k ++ lineT (keysL.getD k []) x) := Lib.hid (by rw [textK, hx])
          have htlk := htl.out k
          have ix := fun w => key_ix k hlt w
          have hkl : (keysL.getD k []).length ≤ 8 := by
            obtain rfl | rfl | rfl | rfl | rfl | rfl | rfl : k = 0 ∨ k = 1 ∨ k = 2 ∨ k = 3 ∨ k = 4 ∨ k = 5 ∨ k = 6 := by omega
            all_goals decide
          generalize keysL.getD k [] = key at HSTEP hkl ix
          obtain ⟨b9, l9⟩ := x
          have i0 : wr.cell? ⟨q, k * 2, none⟩ = some (.bool b9) := HS9.out.is
          have k0 : (0 : Int) ≤ (k : Int) := by omega
          have k1 : (k : Int) < 7 := by omega
          have hkn : ¬ (7 : Int) ≤ (k : Int) := by omega
          clear hx hsa
          cases b9 with
          | false =>
            have HL : Hid (textK g (k + 1) = textK g k) := Lib.hid (by rw [HSTEP.out]; simp [lineT])
            go_wp2_with fail
            go_roundw
            case rel => exact ⟨k + 1, by omega, by go_num, by rw [HL.out]; exact HB.out, HBW.out⟩
            case measure => simp [intOf]; omega
          | true =>
            have HL : Hid (textK g (k + 1) = textK g k ++ (key ++ wordsT l9 ++ [10])) := Lib.hid (by rw [HSTEP.out]; simp [lineT])
            have HS10 := Lib.hid hsmx
            have hl9 : l9.length ≤ 8 := hsmx.1
            clear hsmx i0
            have i0 : wr.cell? ⟨q, k * 2, none⟩ = some (.bool true) := HS9.out.is
            go_wp2_with fail
            refine (La.writeString_any BB BB _ ⟨key.toArray⟩ _ HB.out (by rw [Lib.byteCells_length]; show _ + key.length ≤ _; omega) hBr).mono ?_
            rintro e w6 ⟨rfl, hB6, hb6, _⟩
            have HB6 : Hid (La.IsB BB BB (Lib.byteCells (textK g k ++ key)) w6) := Lib.hid (by rw [Lib.byteCells_append, ← La.strC key]; exact hB6)
            have HBW6 := Lib.hid (HBW.out.trans hb6)
            have hBr6 : BB ≤ w6.heap.size := Nat.le_trans hBr hb6.size
            have ws6 : w6.cell? ⟨q, k * 2 + 1, none⟩ = some (.slice A9 l9.length c9) := (HA9.out.below (by rw [hBB]; exact HBW6.out)).ws
            have h9c := HA9.out.le
            have h9m := HA9.out.most
            clear hB6 hb6 HB HBW HS9 i0
            go_wp2_with fail
            go_loopw [59] (fun i wr => ∃ j : Nat, j ≤ l9.length ∧ i = .int .i64 j ∧ La.IsB BB BB (Lib.byteCells (textK g k ++ key ++ wordsT (l9.take j))) wr ∧ Below BB wc wr) (fun i _ => l9.length - (intOf i).toNat)
            case atStart => exact ⟨0, by omega, rfl, by simpa [wordsT] using HB6.out, HBW6.out⟩
            case round =>
              obtain ⟨j, hj, rfl, hB7, hbw7⟩ := hrel
              have HB7 := Lib.hid hB7
              have HBW7 := Lib.hid hbw7
              rename_i w7 _
              have hBr7 : BB ≤ _ := Nat.le_trans (show BB ≤ wc.heap.size by omega) hbw7.size
              have hwl := Lib.hid (wordsT_len 100 (l9.take j) (fun t ht => HS10.out.2 t (List.mem_of_mem_take ht)))
              have hwl2 : (wordsT (l9.take j)).length ≤ 808 := by
                have h1 := hwl.out
                have h2 : (l9.take j).length ≤ 8 := Nat.le_trans (List.length_take_le' _ _) hl9
                have h3 : (100 + 1) * (l9.take j).length ≤ 101 * 8 := Nat.mul_le_mul (Nat.le_refl _) h2
                omega
              clear hB7 hbw7 ws6
              by_cases hlj : j < l9.length
              · obtain ⟨t, ht⟩ : ∃ t, l9[j]? = some t := ⟨l9[j], List.getElem?_eq_getElem hlj⟩
                have htl9 := HS10.out.2 t (List.mem_of_getElem? ht)
                obtain ⟨b, o, hA, hb0, htc⟩ := strC_at (HA9.out.cells.below (by rw [hBB]; exact HBW7.out)) ht
                subst hA
                have HT9 := Lib.hid (wordsT_take ht)
                have hjn : ∀ w, (Op.stringOp .add ⟨#[32]⟩ ⟨t.toArray⟩).run Tryz.prog w = .ok (strV (32 :: t)) w := fun w => Qu.join_l Tryz.prog w [32] t (by decide) htl9
                have j0 : (0 : Int) ≤ (j : Int) := by omega
                have j1 : (j : Int) < (l9.length : Int) := by omega
                clear ht
                go_wp2_with fail
                refine (La.writeString_any BB BB _ ⟨(32 :: t).toArray⟩ _ HB7.out (by rw [Lib.byteCells_length]; simp only [List.length_append]; show _ + (32 :: t).length ≤ _; simp only [List.length_cons]; omega) hBr7).mono ?_
                rintro e w8 ⟨rfl, hB8, hb8, _⟩
                have HB8 : Hid (La.IsB BB BB (Lib.byteCells (textK g k ++ key ++ wordsT (l9.take (j + 1)))) w8) := Lib.hid (by rw [HT9.out, ← List.append_assoc, Lib.byteCells_append, ← La.strC (32 :: t)]; exact hB8)
                have HBW8 := Lib.hid (HBW7.out.trans hb8)
                clear hB8 hb8
                go_wp2
                go_roundw
                case rel => exact ⟨j + 1, by omega, by go_num, HB8.out, HBW8.out⟩
                case measure => simp [intOf]; omega
              · obtain rfl : j = l9.length := by omega
                have HF : Hid (wordsT (l9.take l9.length) = wordsT l9) := Lib.hid (by rw [List.take_length])
                go_wp2_with fail
                refine (La.writeByte_any BB BB _ 10 _ HB7.out (by rw [Lib.byteCells_length]; simp only [List.length_append]; omega) hBr7).mono ?_
                rintro e w8 ⟨rfl, hB8, hb8, _⟩
                have HB8 : Hid (La.IsB BB BB (Lib.byteCells (textK g (k + 1))) w8) := Lib.hid (by
                  have e : Lib.byteCells (textK g (k + 1)) = Lib.byteCells (textK g k ++ key ++ wordsT (l9.take l9.length)) ++ [.int .u8 10] := by
                    rw [HL.out, HF.out]
                    simp [Lib.byteCells]
                  rw [e]
                  exact hB8)
                have HBW8 := Lib.hid (HBW7.out.trans hb8)
                clear hB8 hb8
                go_wp2
                go_roundw
                case rel => exact ⟨k + 1, by omega, by go_num, HB8.out, HBW8.out⟩
                case measure => simp [intOf]; omega
        · obtain rfl : k = 7 := by omega
          go_wp2_with fail
          refine (Tryz.Builder_String_any BB BB _ _ HB.out hBr).mono ?_
          rintro e w6 ⟨rfl, hb6⟩
          have HBW6 := Lib.hid (HW.out.trans ((HBW.out.trans hb6).mono HBBW.out))
          clear hb6
          go_wp2
          go_ret2
          rw [HZ.out]
          exact ⟨rfl, HBW6.out⟩
  · have HZ : Hid (T = ([], cg)) := Lib.hid (by rw [HT.out, if_neg hz])
    have e1 : decide (cg = 0) = false := by simpa using hz
    have e2 : (cg == 0) = false := by simpa using hz
    clear HT HSM HTL HPB hz
    go_wp2
    go_ret2
    rw [HZ.out]
    exact ⟨rfl, B2.out⟩
end Go.Proofs.YthbplchbolghjaaGreatDoor
