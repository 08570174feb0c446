/- What reading a text comes to, rune by rune, for any table of suffixes: as a plain function of its bytes. Conditions: at most three places, no long suffix, a text that can lie in memory. -/
import Derived.Test.YthbplchbolghjaaGreatDoorSuffix
import Derived.Lib.OthersKept
namespace Go.Proofs.YthbplchbolghjaaGreatDoor.Qu
open Go.RowKit

theorem grown_trans {a b c : World} {row : Option Nat} (h : a.grownBy b row) (k : b.grownBy c row) : a.grownBy c row :=
  ⟨k.os.trans h.os, k.tape.trans h.tape, k.output.trans h.output, Nat.le_trans h.size k.size, fun i hi hne => (k.block i (Nat.lt_of_lt_of_le hi h.size) hne).trans (h.block i hi hne)⟩

def Rd.take (r : Rd) (c P : Nat) (m : List (List UInt8 × Int)) : Option Rd :=
  if 48 ≤ c ∧ c ≤ 57 then r.digit ((c : Int) - 48) P else if c = 46 then r.point else r.suffix c m

/-- What the reader keeps to. -/
structure Rd.Ok (r : Rd) (P : Nat) : Prop where
  v0 : 0 ≤ r.v
  kP : r.k ≤ P
  pk : r.p = false → r.k = 0
  v1 : r.v < 1125899906842625 * (10 : Int) ^ r.k
  sl : r.s.length ≤ 100

theorem Rd.Ok.small {r : Rd} {P : Nat} (h : r.Ok P) (hP : P ≤ 3) (hk : r.k < P) : r.v ≤ 900000000000000000 := by
  have h1 := h.v1
  have : r.k = 0 ∨ r.k = 1 ∨ r.k = 2 := by omega
  rcases this with e | e | e <;> rw [e] at h1 <;> omega
theorem Rd.Ok.first {r : Rd} {P : Nat} (h : r.Ok P) (hp : r.p = false) : r.v ≤ 900000000000000000 := by
  have h1 := h.v1
  rw [h.pk hp] at h1
  omega

theorem take_ok {r r' : Rd} {c P : Nat} {m : List (List UInt8 × Int)} (h : r.Ok P) (hm : ∀ k x, look m k = some x → k.length ≤ 100) (ht : r.take c P m = some r') : r'.Ok P := by
  unfold Rd.take at ht
  by_cases hd : 48 ≤ c ∧ c ≤ 57
  · rw [if_pos hd] at ht
    unfold Rd.digit at ht
    by_cases hs : r.s ≠ []
    · rw [if_pos hs] at ht; cases ht
    · rw [if_neg hs] at ht
      by_cases hp : r.p = true
      · rw [if_pos hp] at ht
        by_cases hk : r.k = P
        · rw [if_pos hk] at ht; cases ht
        · rw [if_neg hk] at ht
          cases ht
          have h0 := h.v0
          have h1 := h.v1
          refine ⟨?_, ?_, ?_, ?_, h.sl⟩
          · show 0 ≤ r.v * 10 + ((c : Int) - 48); omega
          · show r.k + 1 ≤ P; have := h.kP; omega
          · show r.p = false → _; rw [hp]; intro e; cases e
          · show r.v * 10 + ((c : Int) - 48) < 1125899906842625 * (10 : Int) ^ (r.k + 1)
            rw [Int.pow_succ]
            generalize (10 : Int) ^ r.k = q at *
            omega
      · rw [if_neg hp] at ht
        have hp' : r.p = false := by simpa using hp
        have hk := h.pk hp'
        by_cases hz : r.b = true ∧ r.v = 0
        · rw [if_pos hz] at ht; cases ht
        · rw [if_neg hz] at ht
          cases ht
          have h0 := h.v0
          have h1 := h.v1
          refine ⟨?_, h.kP, h.pk, ?_, h.sl⟩
          · show 0 ≤ (if r.v * 10 + ((c : Int) - 48) > enough then enough else r.v * 10 + ((c : Int) - 48))
            unfold enough; split <;> omega
          · show (if r.v * 10 + ((c : Int) - 48) > enough then enough else r.v * 10 + ((c : Int) - 48)) < 1125899906842625 * (10 : Int) ^ r.k
            rw [hk]
            unfold enough; split <;> omega
  · rw [if_neg hd] at ht
    by_cases hc : c = 46
    · rw [if_pos hc] at ht
      unfold Rd.point at ht
      by_cases hb : r.b = false ∨ r.p = true ∨ r.s ≠ []
      · rw [if_pos hb] at ht; cases ht
      · rw [if_neg hb] at ht
        cases ht
        exact ⟨h.v0, h.kP, fun e => (by cases e), h.v1, h.sl⟩
    · rw [if_neg hc] at ht
      unfold Rd.suffix at ht
      by_cases hn : r.num = false
      · rw [if_pos hn] at ht; cases ht
      · rw [if_neg hn] at ht
        by_cases hl : (look m (r.s ++ enc c)).isSome
        · rw [if_pos hl] at ht
          cases ht
          obtain ⟨x, hx⟩ := Option.isSome_iff_exists.1 hl
          exact ⟨h.v0, h.kP, h.pk, h.v1, hm _ x hx⟩
        · rw [if_neg hl] at ht; cases ht

/-- A grammar's block. -/
def GrAt (w : World) (G P M : Nat) : Prop := w.heap[G]? = some (.cells #[.int .i64 (P : Int), .map (some M)] 154 (0, 0))
section
variable {w w' : World} {G P M : Nat}
theorem GrAt.lt (h : GrAt w G P M) : G < w.heap.size := (Array.getElem?_eq_some_iff.1 h).1
theorem GrAt.c0 (h : GrAt w G P M) : w.cell? ⟨G, 0, none⟩ = some (.int .i64 (P : Int)) := by rw [cell_of_row w G 0 _ _ _ h]; rfl
theorem GrAt.c1 (h : GrAt w G P M) : w.cell? ⟨G, 1, none⟩ = some (.map (some M)) := by rw [cell_of_row w G 1 _ _ _ h]; rfl
theorem GrAt.kept {row : Option Nat} (h : GrAt w G P M) (hg : w.grownBy w' row) (hne : some G ≠ row) : GrAt w' G P M := (hg.block G h.lt hne).trans h
end

theorem After.alloc {w w' : World} {B : Nat} {r : Rd} {o : Option Rd} {e : Ending} {x : Obj} (h : After (w.alloc x) B r o e w') : After w B r o e w' :=
  ⟨h.1, h.2.1, grown_trans (World.grownBy_alloc w x (some B)) h.2.2⟩

set_option maxHeartbeats 400000 in
theorem take_any (B M : Nat) (r : Rd) (c P : Nat) (m : List (List UInt8 × Int)) (w : World) (h : RdAt w B r) (hM : MapAt w M m) (hr : r.Ok P) (hP : P ≤ 3) (hc : c ≤ 2147483647) :
    Calls Tryz.prog 151 #[.pointer (some ⟨B, 0, none⟩), .int .i32 (c : Int), .agg #[.int .i64 (P : Int), .map (some M)]] w (After w B r (r.take c P m)) := by
  have H := Lib.hid h
  have HM := Lib.hid hM
  have Hr := Lib.hid hr
  clear h hM hr
  unfold Rd.take
  by_cases hd : 48 ≤ c ∧ c ≤ 57
  · rw [if_pos hd]
    obtain ⟨h1, h2⟩ := hd
    have i1 : (48 : Int) ≤ (c : Int) := by omega
    have i2 : (c : Int) ≤ 57 := by omega
    go_enter Tryz.func151, Tryz.ntmps151
    go_wp2_with fail
    refine (takeDigit_any B r _ P _ (H.out.alloc _) (by omega) Hr.out.kP Hr.out.v0 (Hr.out.small hP) Hr.out.first (by omega) (by omega)).mono ?_
    rintro e w' ⟨rfl, hat, hg⟩
    go_wp2
    go_ret
    exact ⟨rfl, hat, grown_trans (World.grownBy_alloc w _ (some B)) hg⟩
  · rw [if_neg hd]
    have hne : (48 ≤ c ∧ 57 < c) ∨ c < 48 := by omega
    have He := Lib.hid hne
    clear hd hne
    by_cases hp : c = 46
    · rw [if_pos hp]
      subst hp
      clear hc
      go_enter Tryz.func151, Tryz.ntmps151
      go_wp2_with fail
      refine (takePoint_any B r _ (H.out.alloc _)).mono ?_
      rintro e w' ⟨rfl, hat, hg⟩
      go_wp2
      go_ret
      exact ⟨rfl, hat, grown_trans (World.grownBy_alloc w _ (some B)) hg⟩
    · rw [if_neg hp]
      have hb : ((c : Int) == 46) = false := by rw [beq_eq_false_iff_ne]; omega
      clear hp
      rcases He.out with ⟨h1, h2⟩ | h1
      · have i1 : (48 : Int) ≤ (c : Int) := by omega
        have i2 : ¬ (c : Int) ≤ 57 := by omega
        have i3 : ¬ c ≤ 57 := by omega
        go_enter Tryz.func151, Tryz.ntmps151
        go_wp2_with fail
        refine (takeSuffix_any B M r c m _ (H.out.alloc _) (HM.out.alloc _) Hr.out.sl).mono ?_
        rintro e w' ⟨rfl, hat, hg⟩
        go_wp2
        go_ret
        exact ⟨rfl, hat, grown_trans (World.grownBy_alloc w _ (some B)) hg⟩
      · have i1 : ¬ (48 : Int) ≤ (c : Int) := by omega
        have i3 : ¬ 48 ≤ c := by omega
        go_enter Tryz.func151, Tryz.ntmps151
        go_wp2_with fail
        refine (takeSuffix_any B M r c m _ (H.out.alloc _) (HM.out.alloc _) Hr.out.sl).mono ?_
        rintro e w' ⟨rfl, hat, hg⟩
        go_wp2
        go_ret
        exact ⟨rfl, hat, grown_trans (World.grownBy_alloc w _ (some B)) hg⟩

end Go.Proofs.YthbplchbolghjaaGreatDoor.Qu
