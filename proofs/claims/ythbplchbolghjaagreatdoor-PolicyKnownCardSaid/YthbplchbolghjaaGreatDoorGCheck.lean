/- What Check and Drains answer of a policy, as plain functions. Condition: its names lie in memory. -/
import Derived.Test.YthbplchbolghjaaGreatDoorGBase
namespace Go.Proofs.YthbplchbolghjaaGreatDoor
open Go.RowKit

abbrev cellsG (g : Pol) (A : Option Addr) (c : Nat) : Array Value := #[.int .i64 g.l0, .int .i64 g.l1, .int .i64 g.h0, .int .i64 g.h1, .int .i64 g.on, .slice A g.drain.length c, .int .i64 g.mx, .int .i64 g.tr, .bool g.rb]
set_option maxRecDepth 100000 in
set_option maxHeartbeats 1000000 in
theorem gcheck_any (g : Pol) (A : Option Addr) (c : Nat) (w : World) (h : NamesAt w A c g.drain) :
    Calls Tryz.prog 11 #[valG g A c] w fun e w' => e = .returned (.int .i64 (checkG g)) ∧ Below w.heap.size w w' := by
  obtain ⟨s1, h1⟩ : ∃ s, sharesB g.l0 g.l1 g.h0 g.h1 = s := ⟨_, rfl⟩
  obtain ⟨s2, h2⟩ : ∃ s, upB g.on 31 = s := ⟨_, rfl⟩
  obtain ⟨s3, h3⟩ : ∃ s, drainB g.drain = s := ⟨_, rfl⟩
  obtain ⟨s4, h4⟩ : ∃ s, upB g.mx 48 = s := ⟨_, rfl⟩
  obtain ⟨s5, h5⟩ : ∃ s, upB g.tr 8 = s := ⟨_, rfl⟩
  obtain ⟨R, hR⟩ : ∃ R, checkG g = R := ⟨_, rfl⟩
  have HR : Hid (R = if s1 && s2 && s3 && s4 && s5 then 0 else 60) := Lib.hid (by rw [← hR, ← h1, ← h2, ← h3, ← h4, ← h5]; rfl)
  have K1 : Hid (∀ w, Calls Tryz.prog 32 #[.agg #[.int .i64 g.l0, .int .i64 g.l1], .agg #[.int .i64 g.h0, .int .i64 g.h1]] w fun e w' => e = .returned (.bool s1) ∧ Below w.heap.size w w') := Lib.hid (fun w => by rw [← h1]; exact shares2_any _ _ _ _ _)
  have K2 : Hid (∀ w, Calls Tryz.prog 33 #[.int .i64 g.on, .int .i64 31] w fun e w' => e = .returned (.bool s2) ∧ w' = w) := Lib.hid (fun w => by rw [← h2]; exact upTo_any _ _ _)
  have K3 : Hid (∀ w', Below w.heap.size w w' → Calls Tryz.prog 34 #[.slice A g.drain.length c] w' fun e w'' => e = .returned (.bool s3) ∧ Below w'.heap.size w' w'') := Lib.hid (fun w' hb => by
    have h := h.below hb
    rw [← h3]
    exact drained_any A c g.drain w' h.le h.most h.cells h.big)
  have K4 : Hid (∀ w, Calls Tryz.prog 33 #[.int .i64 g.mx, .int .i64 48] w fun e w' => e = .returned (.bool s4) ∧ w' = w) := Lib.hid (fun w => by rw [← h4]; exact upTo_any _ _ _)
  have K5 : Hid (∀ w, Calls Tryz.prog 33 #[.int .i64 g.tr, .int .i64 8] w fun e w' => e = .returned (.bool s5) ∧ w' = w) := Lib.hid (fun w => by rw [← h5]; exact upTo_any _ _ _)
  rw [hR]
  clear hR h1 h2 h3 h4 h5
  have B0 : Hid (Below w.heap.size w (w.alloc (.cells (cellsG g A c) 25))) := Lib.hid (below1 w _)
  have Q0 : Hid (Blk (w.alloc (.cells (cellsG g A c) 25)) w.heap.size (cellsG g A c) 25) := Lib.hid (Blk.new w _ _)
  have hlt0 : w.heap.size < (w.alloc (.cells (cellsG g A c) 25)).heap.size := Blk.lt Q0.out
  clear h
  go_enter Tryz.func11, Tryz.ntmps11
  go_wp2_with fail
  refine (K1.out _).mono ?_
  rintro e w2 ⟨rfl, hb⟩
  have Q2 := Lib.hid (Q0.out.below hb hlt0)
  have B2 := Lib.hid (B0.out.trans (hb.mono (Nat.le_of_lt hlt0)))
  clear hb K1
  have hl2 := Blk.lt Q2.out
  have c4 : w2.cell? ⟨w.heap.size, 4, none⟩ = some (.int .i64 g.on) := Blk.cell Q2.out 4
  have c5 : w2.cell? ⟨w.heap.size, 5, none⟩ = some (.slice A g.drain.length c) := Blk.cell Q2.out 5
  cases s1
  · have HE : Hid (R = 60) := Lib.hid (by rw [HR.out]; simp)
    go_wp2
    go_ret
    exact ⟨congrArg (fun z => Ending.returned (.int .i64 z)) HE.out.symm, B2.out⟩
  · go_wp2_with fail
    refine (K2.out _).mono ?_
    rintro e w3 ⟨rfl, rfl⟩
    cases s2
    · have HE : Hid (R = 60) := Lib.hid (by rw [HR.out]; simp)
      go_wp2
      go_ret
      exact ⟨congrArg (fun z => Ending.returned (.int .i64 z)) HE.out.symm, B2.out⟩
    · go_wp2_with fail
      refine (K3.out _ B2.out).mono ?_
      rintro e w4 ⟨rfl, hb⟩
      have Q4 := Lib.hid (Q2.out.below hb hl2)
      have B4 := Lib.hid (B2.out.trans (hb.mono (Nat.le_of_lt hl2)))
      clear hb K3 c4 c5
      have c6 : w4.cell? ⟨w.heap.size, 6, none⟩ = some (.int .i64 g.mx) := Blk.cell Q4.out 6
      have c7 : w4.cell? ⟨w.heap.size, 7, none⟩ = some (.int .i64 g.tr) := Blk.cell Q4.out 7
      cases s3
      · have HE : Hid (R = 60) := Lib.hid (by rw [HR.out]; simp)
        go_wp2
        go_ret
        exact ⟨congrArg (fun z => Ending.returned (.int .i64 z)) HE.out.symm, B4.out⟩
      · go_wp2_with fail
        refine (K4.out _).mono ?_
        rintro e w5 ⟨rfl, rfl⟩
        cases s4
        · have HE : Hid (R = 60) := Lib.hid (by rw [HR.out]; simp)
          go_wp2
          go_ret
          exact ⟨congrArg (fun z => Ending.returned (.int .i64 z)) HE.out.symm, B4.out⟩
        · go_wp2_with fail
          refine (K5.out _).mono ?_
          rintro e w6 ⟨rfl, rfl⟩
          cases s5
          · have HE : Hid (R = 60) := Lib.hid (by rw [HR.out]; simp)
            go_wp2
            go_ret
            exact ⟨congrArg (fun z => Ending.returned (.int .i64 z)) HE.out.symm, B4.out⟩
          · have HE : Hid (R = 0) := Lib.hid (by rw [HR.out]; simp)
            go_wp2
            go_ret
            exact ⟨congrArg (fun z => Ending.returned (.int .i64 z)) HE.out.symm, B4.out⟩

/-- Where a name stands first. -/
def idxL (l : List (List UInt8)) (x : List UInt8) : Int := if x ∈ l then (l.idxOf x : Int) else -1
theorem idx_take {l : List (List UInt8)} {x : List UInt8} {k : Nat} (h : ∀ j, j < k → l[j]? ≠ some x) (hk : l[k]? = some x) : idxL l x = (k : Int) := by
  have hm : x ∈ l := List.mem_of_getElem? hk
  unfold idxL
  rw [if_pos hm]
  have h1 : l.idxOf x < l.length := List.idxOf_lt_length_iff.2 hm
  have h2 : l[l.idxOf x]? = some x := by rw [List.getElem?_eq_getElem h1]; simp
  rcases Nat.lt_trichotomy (l.idxOf x) k with h3 | h3 | h3
  · exact absurd h2 (h _ h3)
  · rw [h3]
  · have : l[k]? ≠ some x := by
      intro hk
      have hkl := (List.getElem?_eq_some_iff.1 hk)
      have := List.not_of_lt_findIdx (p := (· == x)) (xs := l) (i := k) (by simpa [List.idxOf] using h3)
      simp [hkl.2] at this
    exact absurd hk this
theorem idx_none {l : List (List UInt8)} {x : List UInt8} (h : ∀ j : Nat, l[j]? ≠ some x) : idxL l x = -1 := by
  unfold idxL
  rw [if_neg]
  intro hm
  obtain ⟨j, hj⟩ := List.getElem?_of_mem hm
  exact h j hj

set_option maxRecDepth 100000 in
set_option maxHeartbeats 1000000 in
theorem index_any (A : Option Addr) (c : Nat) (l : List (List UInt8)) (x : List UInt8) (w : World) (h : NamesAt w A c l) (hx : x.length ≤ 9223372036854775807) :
    Calls Tryz.prog 59 #[.slice A l.length c, strV x] w fun e w' => e = .returned (.int .i64 (idxL l x)) ∧ Below w.heap.size w w' := by
  have hl := Nat.le_trans h.le h.most
  have HS := Lib.hid h
  clear h
  go_enter Tryz.func59, Tryz.ntmps59
  go_wp2
  go_loopw [8] (fun i wr => ∃ k : Nat, k ≤ l.length ∧ i = .int .i64 k ∧ (∀ j, j < k → l[j]? ≠ some x) ∧ Below w.heap.size w wr) (fun i _ => l.length - (intOf i).toNat)
  case atStart => exact ⟨0, by omega, rfl, fun j hj => by omega, Below.refl _ _⟩
  case round =>
    obtain ⟨k, hk, rfl, hp, hbw⟩ := hrel
    have Hp := Lib.hid hp
    have HB := Lib.hid hbw
    clear hp hbw
    by_cases hlt : k < l.length
    · obtain ⟨y, hy⟩ : ∃ y, l[k]? = some y := ⟨l[k], List.getElem?_eq_getElem hlt⟩
      obtain ⟨b, o, hA, hb0, hyc⟩ := strC_at (HS.out.cells.below HB.out) hy
      subst hA
      have Hy := Lib.hid hy
      have k0 : (0 : Int) ≤ (k : Int) := by omega
      have k1 : (k : Int) < (l.length : Int) := by omega
      clear hy
      by_cases hq : x = y
      · subst hq
        have HE := Lib.hid (idx_take Hp.out Hy.out)
        go_wp2
        go_ret
        exact ⟨congrArg (fun z => Ending.returned (.int .i64 z)) HE.out.symm, HB.out⟩
      · have e3 : decide (x = y) = false := by simpa using hq
        have e4 : (x == y) = false := by simpa using hq
        have HQ := Lib.hid hq
        clear hq
        go_wp2
        go_roundw
        case rel =>
          refine ⟨k + 1, by omega, by go_num, fun j hj => ?_, HB.out⟩
          rcases Nat.lt_succ_iff_lt_or_eq.1 hj with h | rfl
          · exact Hp.out j h
          · rw [Hy.out]
            intro e
            cases e
            exact HQ.out rfl
        case measure => simp [intOf]; omega
    · obtain rfl : k = l.length := by omega
      have HE := Lib.hid (idx_none (l := l) (x := x) (fun j hj => Hp.out j (List.getElem?_eq_some_iff.1 hj).1 hj))
      go_wp2
      go_ret
      exact ⟨congrArg (fun z => Ending.returned (.int .i64 z)) HE.out.symm, HB.out⟩
theorem idx_in (l : List (List UInt8)) (x : List UInt8) : decide (0 ≤ idxL l x) = decide (x ∈ l) := by
  unfold idxL
  split
  · next h => simp [h]
  · next h => simp [h]
theorem contains_any (A : Option Addr) (c : Nat) (l : List (List UInt8)) (x : List UInt8) (w : World) (h : NamesAt w A c l) (hx : x.length ≤ 9223372036854775807) :
    Calls Tryz.prog 37 #[.slice A l.length c, strV x] w fun e w' => e = .returned (.bool (decide (x ∈ l))) ∧ Below w.heap.size w w' := by
  have K := Lib.hid (index_any A c l x w h hx)
  rw [← idx_in]
  generalize idxL l x = z at K ⊢
  clear h
  go_enter Tryz.func37, Tryz.ntmps37
  go_wp2_with fail
  refine K.out.mono ?_
  rintro e w2 ⟨rfl, hb⟩
  have HB := Lib.hid hb
  clear hb
  by_cases h0 : (0 : Int) ≤ z
  · go_wp2
    go_ret
    exact ⟨by simp [h0], HB.out⟩
  · go_wp2
    go_ret
    exact ⟨by simp [h0], HB.out⟩
theorem drains_any (g : Pol) (A : Option Addr) (c : Nat) (x : List UInt8) (w : World) (h : NamesAt w A c g.drain) (hx : x.length ≤ 9223372036854775807) :
    Calls Tryz.prog 13 #[valG g A c, strV x] w fun e w' => e = .returned (.bool (decide (x ∈ g.drain))) ∧ Below w.heap.size w w' := by
  have K : Hid (∀ w', Below w.heap.size w w' → Calls Tryz.prog 37 #[.slice A g.drain.length c, strV x] w' fun e w'' => e = .returned (.bool (decide (x ∈ g.drain))) ∧ Below w'.heap.size w' w'') := Lib.hid (fun w' hb => contains_any A c g.drain x w' (h.below hb) hx)
  generalize decide (x ∈ g.drain) = z at K ⊢
  have B0 : Hid (Below w.heap.size w (w.alloc (.cells (cellsG g A c) 25))) := Lib.hid (below1 w _)
  clear h
  go_enter Tryz.func13, Tryz.ntmps13
  go_wp2_with fail
  refine (K.out _ B0.out).mono ?_
  rintro e w2 ⟨rfl, hb⟩
  have HB := Lib.hid (B0.out.trans (hb.mono B0.out.size))
  clear hb
  go_wp2
  go_ret
  exact ⟨rfl, HB.out⟩
end Go.Proofs.YthbplchbolghjaaGreatDoor
