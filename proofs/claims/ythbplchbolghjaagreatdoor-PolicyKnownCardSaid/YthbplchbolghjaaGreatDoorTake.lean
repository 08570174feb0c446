/- What one rune does to a text that is being read: the methods of reading, each by what it leaves in memory. No conditions but those that the reader itself keeps. -/
import Derived.Test.YthbplchbolghjaaGreatDoorBase
import Derived.Maps.OwnOps
import Derived.Maps.OwnSet
import Derived.WalkSpells
import Derived.WalkLawsBesides
namespace Go.Proofs.YthbplchbolghjaaGreatDoor.Qu
open Go.RowKit

/-- One more store into the block that may turn. -/
theorem one_set {a w : World} {g : Nat} (h : a.grownBy w (some g)) (i : Nat) (u : Value) : a.grownBy (w.setCell ⟨g, i, none⟩ u) (some g) :=
  ⟨h.os, h.tape, h.output, by simpa [World.setCell] using h.size, fun j hj hne => (Below.heap_setCell w ⟨g, i, none⟩ u j (fun e => hne (by rw [e]))).trans (h.block j hj hne)⟩

/-- What has been read of a text. -/
structure Rd where
  v : Int
  b : Bool
  p : Bool
  k : Nat
  s : List UInt8

def RdAt (w : World) (B : Nat) (r : Rd) : Prop :=
  w.heap[B]? = some (.cells #[.int .i64 r.v, .bool r.b, .bool r.p, .int .i64 (r.k : Int), .string ⟨r.s.toArray⟩] 166 (0, 0))

section
variable {w w' : World} {B : Nat} {r : Rd}
theorem RdAt.lt (h : RdAt w B r) : B < w.heap.size := (Array.getElem?_eq_some_iff.1 h).1
theorem RdAt.c0 (h : RdAt w B r) : w.cell? ⟨B, 0, none⟩ = some (.int .i64 r.v) := by rw [cell_of_row w B 0 _ _ _ h]; rfl
theorem RdAt.c1 (h : RdAt w B r) : w.cell? ⟨B, 1, none⟩ = some (.bool r.b) := by rw [cell_of_row w B 1 _ _ _ h]; rfl
theorem RdAt.c2 (h : RdAt w B r) : w.cell? ⟨B, 2, none⟩ = some (.bool r.p) := by rw [cell_of_row w B 2 _ _ _ h]; rfl
theorem RdAt.c3 (h : RdAt w B r) : w.cell? ⟨B, 3, none⟩ = some (.int .i64 (r.k : Int)) := by rw [cell_of_row w B 3 _ _ _ h]; rfl
theorem RdAt.c4 (h : RdAt w B r) : w.cell? ⟨B, 4, none⟩ = some (.string ⟨r.s.toArray⟩) := by rw [cell_of_row w B 4 _ _ _ h]; rfl
theorem RdAt.free (h : RdAt w B r) (i : Nat) : w.frozen? ⟨B, i, none⟩ = false := by
  unfold RdAt at h
  simp [World.frozen?, h]
theorem RdAt.set0 (h : RdAt w B r) (x : Int) : RdAt (w.setCell ⟨B, 0, none⟩ (.int .i64 x)) B { r with v := x } := by
  unfold RdAt at h ⊢
  simp [World.setCell, Array.getElem?_modify, h]
theorem RdAt.set1 (h : RdAt w B r) (x : Bool) : RdAt (w.setCell ⟨B, 1, none⟩ (.bool x)) B { r with b := x } := by
  unfold RdAt at h ⊢
  simp [World.setCell, Array.getElem?_modify, h]
theorem RdAt.set2 (h : RdAt w B r) (x : Bool) : RdAt (w.setCell ⟨B, 2, none⟩ (.bool x)) B { r with p := x } := by
  unfold RdAt at h ⊢
  simp [World.setCell, Array.getElem?_modify, h]
theorem RdAt.set3 (h : RdAt w B r) (x : Nat) : RdAt (w.setCell ⟨B, 3, none⟩ (.int .i64 (x : Int))) B { r with k := x } := by
  unfold RdAt at h ⊢
  simp [World.setCell, Array.getElem?_modify, h]
theorem RdAt.set4 (h : RdAt w B r) (x : List UInt8) : RdAt (w.setCell ⟨B, 4, none⟩ (.string ⟨x.toArray⟩)) B { r with s := x } := by
  unfold RdAt at h ⊢
  simp [World.setCell, Array.getElem?_modify, h]
theorem RdAt.kept {row : Option Nat} (h : RdAt w B r) (hg : w.grownBy w' row) (hne : some B ≠ row) : RdAt w' B r := (hg.block B h.lt hne).trans h
theorem RdAt.alloc (h : RdAt w B r) (o : Obj) : RdAt (w.alloc o) B r := h.kept (World.grownBy_alloc w o none) (by simp)
end

/-- isNumber, in plain words. -/
def Rd.num (r : Rd) : Bool := r.b && (!r.p || decide (0 < r.k))

set_option maxHeartbeats 400000 in
theorem isNumber_any (B : Nat) (r : Rd) (w : World) (h : RdAt w B r) :
    Calls Tryz.prog 152 #[.pointer (some ⟨B, 0, none⟩)] w fun e w' => e = .returned (.bool r.num) ∧ w = w' := by
  have c1 := h.c1
  have c2 := h.c2
  have c3 := h.c3
  obtain ⟨v, b, p, k, s⟩ := r
  simp only at c1 c2 c3
  have H := Lib.hid h
  clear h
  cases b
  · go_enter Tryz.func152, Tryz.ntmps152
    go_wp2
    go_ret
    exact ⟨rfl, rfl⟩
  · cases p
    · go_enter Tryz.func152, Tryz.ntmps152
      go_wp2
      go_ret
      exact ⟨rfl, rfl⟩
    · by_cases hk : 0 < k
      · go_enter Tryz.func152, Tryz.ntmps152
        go_wp2
        go_ret
        exact ⟨by simp [Rd.num, hk], rfl⟩
      · obtain rfl : k = 0 := by omega
        go_enter Tryz.func152, Tryz.ntmps152
        go_wp2
        go_ret
        exact ⟨by simp [Rd.num], rfl⟩

set_option maxHeartbeats 400000 in
theorem takePlace_no (B : Nat) (r : Rd) (d : Int) (P : Nat) (w : World) (h : RdAt w B r) (hk : r.k = P) :
    Calls Tryz.prog 166 #[.pointer (some ⟨B, 0, none⟩), .int .i64 d, .int .i64 (P : Int)] w fun e w' => e = .returned (.bool false) ∧ w = w' := by
  have c3 := h.c3
  rw [hk] at c3
  clear hk h
  have hb : ((P : Int) == (P : Int)) = true := by simp
  go_enter Tryz.func166, Tryz.ntmps166
  go_wp2
  go_ret
  exact ⟨rfl, rfl⟩

set_option maxHeartbeats 400000 in
theorem takePlace_yes (B : Nat) (r : Rd) (d : Int) (P : Nat) (w : World) (h : RdAt w B r) (hk : r.k < P) (hP : P ≤ 9) (hv : 0 ≤ r.v) (hv' : r.v ≤ 900000000000000000) (hd : 0 ≤ d) (hd' : d ≤ 9) :
    Calls Tryz.prog 166 #[.pointer (some ⟨B, 0, none⟩), .int .i64 d, .int .i64 (P : Int)] w fun e w' =>
      e = .returned (.bool true) ∧ RdAt w' B { r with k := r.k + 1, v := r.v * 10 + d } ∧ w.grownBy w' (some B) := by
  have c0 := h.c0
  have c3 := h.c3
  have f0 := h.free 0
  have f3 := h.free 3
  have hb : ((r.k : Int) == (P : Int)) = false := by rw [beq_eq_false_iff_ne]; omega
  have H := Lib.hid h
  clear h
  go_enter Tryz.func166, Tryz.ntmps166
  go_wp2
  go_ret
  refine ⟨rfl, ?_, ?_⟩
  · have := ((H.out.set3 (r.k + 1)).set0 (r.v * 10 + d))
    simpa using this
  · exact one_set (one_set (World.grownBy.refl _ _) _ _) _ _

/-- What a step on the reader leaves: whether it could be done, what has been read then, and that nothing else has turned. -/
def After (w : World) (B : Nat) (r : Rd) (o : Option Rd) (e : Ending) (w' : World) : Prop :=
  e = .returned (.bool o.isSome) ∧ RdAt w' B (o.getD r) ∧ w.grownBy w' (some B)

def enough : Int := 1125899906842624

def Rd.digit (r : Rd) (d : Int) (P : Nat) : Option Rd :=
  if r.s ≠ [] then none
  else if r.p = true then (if r.k = P then none else some { r with k := r.k + 1, v := r.v * 10 + d })
  else if r.b = true ∧ r.v = 0 then none
  else some { r with b := true, v := if r.v * 10 + d > enough then enough else r.v * 10 + d }

theorem str_ne {s : List UInt8} (h : s ≠ []) : (!s.isEmpty) = true := by cases s <;> simp_all

set_option maxHeartbeats 800000 in
theorem takeDigit_any (B : Nat) (r : Rd) (d : Int) (P : Nat) (w : World) (h : RdAt w B r) (hP : P ≤ 9) (hk : r.k ≤ P) (hv : 0 ≤ r.v) (hv' : r.k < P → r.v ≤ 900000000000000000) (hp : r.p = false → r.v ≤ 900000000000000000) (hd : 0 ≤ d) (hd' : d ≤ 9) :
    Calls Tryz.prog 160 #[.pointer (some ⟨B, 0, none⟩), .int .i64 d, .int .i64 (P : Int)] w (After w B r (r.digit d P)) := by
  have c0 := h.c0
  have c1 := h.c1
  have c2 := h.c2
  have c4 := h.c4
  have f0 := h.free 0
  have f1 := h.free 1
  have H := Lib.hid h
  have Hk := Lib.hid hv'
  have Hp := Lib.hid hp
  clear h hv' hp
  by_cases hs : r.s = []
  · obtain ⟨v, b, p, k, s⟩ := r
    simp only at c0 c1 c2 c4 hs hv hk
    subst hs
    cases p
    · have hv1 : v ≤ 900000000000000000 := Hp.out rfl
      clear Hk Hp
      by_cases hz : b = true ∧ v = 0
      · have ho : Rd.digit ⟨v, b, false, k, []⟩ d P = none := by unfold Rd.digit; simp [hz]
        rw [ho]
        clear ho
        obtain ⟨rfl, hz⟩ := hz
        have hzb : (v == 0) = true := by simpa using hz
        have Hz := Lib.hid hz
        clear hz
        go_enter Tryz.func160, Tryz.ntmps160
        go_wp2
        go_ret
        exact ⟨rfl, H.out, World.grownBy.refl _ _⟩
      · by_cases hbig : 1125899906842624 < v * 10 + d
        · have ho : Rd.digit ⟨v, b, false, k, []⟩ d P = some ⟨enough, true, false, k, []⟩ := by
            unfold Rd.digit; rw [if_neg (by simp), if_neg (by simp), if_neg hz]; simp only; rw [if_pos (by unfold enough; omega)]
          rw [ho]
          clear ho
          cases b
          · clear hz
            go_enter Tryz.func160, Tryz.ntmps160
            go_wp2
            go_ret
            exact ⟨rfl, ((H.out.set1 true).set0 (v * 10 + d)).set0 enough, one_set (one_set (one_set (World.grownBy.refl _ _) _ _) _ _) _ _⟩
          · have hzb : (v == 0) = false := by rw [beq_eq_false_iff_ne]; intro h; exact hz ⟨rfl, h⟩
            clear hz
            go_enter Tryz.func160, Tryz.ntmps160
            go_wp2
            go_ret
            exact ⟨rfl, ((H.out.set1 true).set0 (v * 10 + d)).set0 enough, one_set (one_set (one_set (World.grownBy.refl _ _) _ _) _ _) _ _⟩
        · have ho : Rd.digit ⟨v, b, false, k, []⟩ d P = some ⟨v * 10 + d, true, false, k, []⟩ := by
            unfold Rd.digit; rw [if_neg (by simp), if_neg (by simp), if_neg hz]; simp only; rw [if_neg (by unfold enough; omega)]
          rw [ho]
          clear ho
          cases b
          · clear hz
            go_enter Tryz.func160, Tryz.ntmps160
            go_wp2
            go_ret
            exact ⟨rfl, (H.out.set1 true).set0 (v * 10 + d), one_set (one_set (World.grownBy.refl _ _) _ _) _ _⟩
          · have hzb : (v == 0) = false := by rw [beq_eq_false_iff_ne]; intro h; exact hz ⟨rfl, h⟩
            clear hz
            go_enter Tryz.func160, Tryz.ntmps160
            go_wp2
            go_ret
            exact ⟨rfl, (H.out.set1 true).set0 (v * 10 + d), one_set (one_set (World.grownBy.refl _ _) _ _) _ _⟩
    · clear Hp
      by_cases hkP : k = P
      · have ho : Rd.digit ⟨v, b, true, k, []⟩ d P = none := by unfold Rd.digit; simp [hkP]
        rw [ho]
        clear ho
        have HkP := Lib.hid hkP
        clear hkP Hk
        go_enter Tryz.func160, Tryz.ntmps160
        go_wp2_with (go_at_call 166; refine (takePlace_no B _ d P _ H.out HkP.out).mono ?_; rintro e w' ⟨rfl, rfl⟩)
        go_ret
        exact ⟨rfl, H.out, World.grownBy.refl _ _⟩
      · have ho : Rd.digit ⟨v, b, true, k, []⟩ d P = some ⟨v * 10 + d, b, true, k + 1, []⟩ := by unfold Rd.digit; simp [hkP]
        rw [ho]
        clear ho
        have hlt : k < P := by omega
        have hv1 : v ≤ 900000000000000000 := Hk.out hlt
        clear hkP Hk
        go_enter Tryz.func160, Tryz.ntmps160
        go_wp2_with (go_at_call 166; refine (takePlace_yes B _ d P _ H.out hlt hP hv hv1 hd hd').mono ?_; rintro e w' ⟨rfl, hat, hg⟩)
        go_ret
        exact ⟨rfl, hat, hg⟩
  · have ho : r.digit d P = none := by unfold Rd.digit; rw [if_pos hs]
    rw [ho]
    have hb := str_ne hs
    have Hs := Lib.hid hs
    clear hs Hk Hp
    go_enter Tryz.func160, Tryz.ntmps160
    go_wp2
    go_ret
    exact ⟨rfl, H.out, World.grownBy.refl _ _⟩

end Go.Proofs.YthbplchbolghjaaGreatDoor.Qu
