/- What isMilli, placeOf and upTo answer. Condition of placeOf: the names of the places lie as they were laid. -/
import Derived.Test.YtgmecaaogmpakaaDoorVecBase
import Derived.Test.YtgmecaaogmpakaaDoorShelf
import Derived.WalkSpells
import Derived.Lib.IndexBytes
namespace Go.Proofs.YtgmecaaogmpakaaDoor
open Go.RowKit

/-- The names of a row's places. -/
def nameL : Nat → List UInt8
  | 0 => [99, 112, 117]
  | 1 => [109, 101, 109]
  | 2 => [100, 105, 115, 107]
  | 3 => [115, 108, 111, 116, 115]
  | _ => [101, 120, 116, 114, 97]

/-- The names lie as they were laid. -/
def NamesAt (w : World) : Prop := 0 < w.heap.size ∧ ∀ k, k < 5 → w.cell? ⟨0, k, none⟩ = some (.string ⟨(nameL k).toArray⟩)
theorem NamesAt.below {w w' : World} (h : NamesAt w) (hb : Below w.heap.size w w') : NamesAt w' :=
  ⟨Nat.lt_of_lt_of_le h.1 hb.size, fun k hk => (hb.cell (p := ⟨0, k, none⟩) h.1).trans (h.2 k hk)⟩

set_option maxHeartbeats 400000 in
theorem milli_any (k : Nat) (w : World) : Calls Tryd.prog 44 #[.int .i64 (k : Int)] w fun e w' => e = .returned (.bool (decide (k = 0))) ∧ w = w' := by
  by_cases h : k = 0
  · have hb : ((k : Int) == 0) = true := by simp [h]
    have H := Lib.hid h
    clear h
    go_enter Tryd.func44, Tryd.ntmps44
    go_wp2
    go_ret
    exact ⟨by simp [H.out], rfl⟩
  · have hb : ((k : Int) == 0) = false := by simp; omega
    have H := Lib.hid h
    clear h
    go_enter Tryd.func44, Tryd.ntmps44
    go_wp2
    go_ret
    exact ⟨by simp [H.out], rfl⟩

/-- The place from next on that has the name, or -1. -/
def placeF (t : List UInt8) : Nat → Nat → Int
  | 0, _ => -1
  | f + 1, k => if nameL k = t then k else placeF t f (k + 1)
def placeL (t : List UInt8) (next : Nat) : Int := placeF t (5 - next) next

set_option maxHeartbeats 400000 in
theorem place_any (t : List UInt8) (next : Nat) (w : World) (hn : next ≤ 5) (ht : NamesAt w) :
    Calls Tryd.prog 57 #[.string ⟨t.toArray⟩, .int .i64 (next : Int)] w fun e w' => e = .returned (.int .i64 (placeL t next)) ∧ w = w' := by
  have Ht := Lib.hid ht
  clear ht
  go_enter Tryd.func57, Tryd.ntmps57
  go_wp2
  go_loop [5] (fun i => ∃ k : Nat, k ≤ 5 ∧ i = .int .i64 k ∧ placeF t (5 - k) k = placeL t next) (fun i => 5 - (intOf i).toNat)
  case atStart => exact ⟨next, hn, rfl, rfl⟩
  case round =>
    obtain ⟨k, hk, rfl, hp⟩ := hrel
    have Hp := Lib.hid hp
    clear hp
    by_cases hlt : k < 5
    · have hc := Ht.out.2 k hlt
      have e5 : 5 - k = (5 - (k + 1)) + 1 := by omega
      have Hs := Lib.hid (show placeF t (5 - k) k = if nameL k = t then (k : Int) else placeF t (5 - (k + 1)) (k + 1) by rw [e5, placeF])
      clear e5
      by_cases hq : nameL k = t
      · have hqb : (nameL k == t) = true := by simpa using hq
        have Hq := Lib.hid hq
        clear hq
        go_wp2
        go_ret
        exact ⟨retI (by rw [← Hp.out, Hs.out, if_pos Hq.out]), rfl⟩
      · have hqb : (nameL k == t) = false := by simpa using hq
        have Hq := Lib.hid hq
        clear hq
        go_wp2
        go_round
        case rel => exact ⟨k + 1, by omega, by go_num, by rw [← Hp.out, Hs.out, if_neg Hq.out]⟩
        case measure => simp [intOf]; omega
    · obtain rfl : k = 5 := by omega
      go_wp2
      go_ret
      exact ⟨retI Hp.out, rfl⟩

/-- How many bytes stand ahead of the first such, or all. -/
def findB (c : UInt8) : List UInt8 → Nat
  | [] => 0
  | b :: t => if b = c then 0 else findB c t + 1
theorem findB_le (c : UInt8) : ∀ l, findB c l ≤ l.length
  | [] => Nat.le_refl _
  | b :: t => by
    rw [findB]
    have := findB_le c t
    split
    · omega
    · simp; omega
theorem index_find (c : UInt8) : ∀ l, Lib.indexByte l c = if findB c l < l.length then (findB c l : Int) else -1
  | [] => rfl
  | b :: t => by
    rw [Lib.indexByte, findB, index_find c t]
    by_cases h : b = c
    · simp [h]
    · have hb : (b == c) = false := by simpa using h
      rw [hb, if_neg h]
      by_cases h2 : findB c t < t.length
      · have h3 : ((findB c t : Int) == -1) = false := by simp
        simp [h2, h3]
      · simp [h2]
/-- Where the next such byte stands, or the end. -/
def upToL (l : List UInt8) (a : Nat) (c : UInt8) : Nat := a + findB c (l.drop a)
theorem upToL_le (l : List UInt8) (a : Nat) (c : UInt8) (h : a ≤ l.length) : upToL l a c ≤ l.length := by
  have := findB_le c (l.drop a)
  rw [List.length_drop] at this
  unfold upToL
  omega
theorem upToL_ge (l : List UInt8) (a : Nat) (c : UInt8) : a ≤ upToL l a c := by
  unfold upToL
  omega
theorem drop_bytes (l : List UInt8) (a : Nat) : ((⟨l.toArray⟩ : ByteArray).extract a (⟨l.toArray⟩ : ByteArray).size) = ⟨(l.drop a).toArray⟩ := by
  have h := Lib.extract_to_end ⟨l.toArray⟩ a
  cases hq : (⟨l.toArray⟩ : ByteArray).extract a (⟨l.toArray⟩ : ByteArray).size with
  | mk d =>
    rw [hq] at h
    congr 1
    have h2 : d.toList = l.drop a := by simpa using h
    rw [← h2]
theorem cut_bytes (l : List UInt8) (a b : Nat) : ((⟨l.toArray⟩ : ByteArray).extract a b) = ⟨((l.drop a).take (b - a)).toArray⟩ := by
  have h := Lib.extract_data ⟨l.toArray⟩ a b
  cases hq : (⟨l.toArray⟩ : ByteArray).extract a b with
  | mk d =>
    rw [hq] at h
    congr 1
    have h2 : d.toList = (l.drop a).take (b - a) := by simpa using h
    rw [← h2]

theorem index_at (l : List UInt8) (a : Nat) (c : UInt8) (r : Int) (w : World) (hr : Lib.indexByte (l.drop a) c = r) :
    Calls Tryd.prog 62 #[.string ((⟨l.toArray⟩ : ByteArray).extract a l.length), .int .u8 (c.toNat : Int)] w fun e w' => e = .returned (.int .i64 r) ∧ w = w' := by
  subst hr
  refine (Tryd.strings_IndexByte _ _ w).mono ?_
  rintro e w' ⟨rfl, rfl⟩
  refine ⟨retI ?_, rfl⟩
  rw [cut_bytes, List.take_of_length_le (by simp)]
  simp

set_option maxHeartbeats 400000 in
theorem upTo_any (l : List UInt8) (a : Nat) (c : UInt8) (w : World) (hl : l.length ≤ 1000000) (ha : a ≤ l.length) :
    Calls Tryd.prog 56 #[.string ⟨l.toArray⟩, .int .i64 (a : Int), .int .u8 (c.toNat : Int)] w fun e w' => e = .returned (.int .i64 (upToL l a c : Int)) ∧ w = w' := by
  have hfl := findB_le c (l.drop a)
  have hi := index_find c (l.drop a)
  rw [List.length_drop] at hfl hi
  by_cases hf : findB c (l.drop a) < l.length - a
  · rw [if_pos hf] at hi
    have Hi := Lib.hid hi
    have Hr := Lib.hid (show (upToL l a c : Int) = (a : Int) + (findB c (l.drop a) : Int) by unfold upToL; omega)
    clear hi
    generalize findB c (l.drop a) = f at *
    go_enter Tryd.func56, Tryd.ntmps56
    go_wp2_with fail
    refine (index_at l a c f _ Hi.out).mono ?_
    rintro e w' ⟨rfl, rfl⟩
    go_wp2
    go_ret
    exact ⟨retI Hr.out.symm, rfl⟩
  · rw [if_neg hf] at hi
    have Hi := Lib.hid hi
    have Hr := Lib.hid (show upToL l a c = l.length by unfold upToL; omega)
    clear hi
    go_enter Tryd.func56, Tryd.ntmps56
    go_wp2_with fail
    refine (index_at l a c (-1) _ Hi.out).mono ?_
    rintro e w' ⟨rfl, rfl⟩
    go_wp2
    go_ret
    exact ⟨retI (by rw [Hr.out]), rfl⟩

end Go.Proofs.YtgmecaaogmpakaaDoor
