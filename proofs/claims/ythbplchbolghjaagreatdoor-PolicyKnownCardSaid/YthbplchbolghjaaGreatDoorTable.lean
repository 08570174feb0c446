/- A map that a call lays down out of constants, with texts as keys and ints as elements: what a look-up and one more entry come to, in plain words. No conditions. -/
import Derived.Test.YthbplchbolghjaaGreatDoorBase
import Derived.MapKept
import Derived.Maps.Own
import Derived.WalkSpells
namespace Go.Proofs.YthbplchbolghjaaGreatDoor.Qu
open Go.RowKit

def look : List (List UInt8 × Int) → List UInt8 → Option Int
  | [], _ => none
  | (a, x) :: t, k => if k = a then some x else look t k

def ents : List (List UInt8 × Int) → Nat → List MapEntry
  | [], _ => []
  | (a, x) :: t, i => ⟨.string ⟨a.toArray⟩, .int .i64 x, i⟩ :: ents t (i + 1)

/-- Block M is a map that was laid down with these entries, in their order. -/
def MapAt (w : World) (M : Nat) (m : List (List UInt8 × Int)) : Prop := w.heap[M]? = some (.map (ents m 0).toArray m.length)

section
variable {w w' : World} {M : Nat} {m : List (List UInt8 × Int)}
theorem MapAt.lt (h : MapAt w M m) : M < w.heap.size := (Array.getElem?_eq_some_iff.1 h).1
theorem MapAt.kept {row : Option Nat} (h : MapAt w M m) (hg : w.grownBy w' row) (hne : some M ≠ row) : MapAt w' M m := (hg.block M h.lt hne).trans h
theorem MapAt.alloc (h : MapAt w M m) (o : Obj) : MapAt (w.alloc o) M m := h.kept (World.grownBy_alloc w o none) (by simp)
theorem MapAt.below {B : Nat} (h : MapAt w M m) (hb : Below B w w') (hM : M < B) : MapAt w' M m := (hb.block M hM).trans h
end

theorem ba_beq (a b : List UInt8) : ((⟨a.toArray⟩ : ByteArray) == ⟨b.toArray⟩) = decide (a = b) := by
  show (a.toArray == b.toArray) = _
  rw [Bool.eq_iff_iff]
  simp

theorem find_ents (k : List UInt8) : ∀ (m : List (List UInt8 × Int)) (i j : Nat), ∃ q, Instr.findNow .string (.string ⟨k.toArray⟩) (ents m i) j = some q ∧ q.map (·.2) = (look m k).map (Value.int .i64)
  | [], i, j => ⟨none, rfl, rfl⟩
  | (a, x) :: t, i, j => by
    by_cases h : k = a
    · refine ⟨some (j, .int .i64 x), ?_, by simp [look, h]⟩
      simp [ents, Instr.findNow, Instr.sameNow, ba_beq, h]
    · obtain ⟨q, h1, h2⟩ := find_ents k t (i + 1) (j + 1)
      refine ⟨q, ?_, by simp [look, h, h2]⟩
      simp [ents, Instr.findNow, Instr.sameNow, ba_beq, h, h1]

theorem isKey_str (s : ByteArray) : MapKept.IsKey .string (.string s) := by simp [MapKept.IsKey]

theorem run_look_ok (w : World) (M : Nat) (m : List (List UInt8 × Int)) (k : List UInt8) (h : MapAt w M m) :
    (Instr.lookup 91 (.map (some M)) (.string ⟨k.toArray⟩) true).run Tryz.prog w = .ok (.tuple #[.int .i64 ((look m k).getD 0), .bool (look m k).isSome]) w := by
  obtain ⟨q, h1, h2⟩ := find_ents k m 0 0
  have hz : (zeroValue 3).run Tryz.prog w = .ok (.int .i64 0) w := by kernel_rfl
  unfold MapAt at h
  unfold Instr.lookup
  simp only [Sem.run_bind, run_underlying Tryz.underlying91, Result.andThen]
  simp [getObj, Sem.run, h, Result.andThen, MapKept.run_checkKey Tryz.underlying9 (isKey_str _), MapKept.run_findKey Tryz.underlying9 h1]
  cases q with
  | none =>
    have hl : look m k = none := by
      cases hl : look m k with
      | none => rfl
      | some x => rw [hl] at h2; simp at h2
    simp [hl, hz, Result.andThen]
  | some q =>
    obtain ⟨i, v⟩ := q
    cases hl : look m k with
    | none => rw [hl] at h2; simp at h2
    | some x =>
      rw [hl] at h2
      simp at h2
      simp [h2]

theorem run_look (w : World) (M : Nat) (m : List (List UInt8 × Int)) (k : List UInt8) (h : MapAt w M m) :
    (Instr.lookup 91 (.map (some M)) (.string ⟨k.toArray⟩) false).run Tryz.prog w = .ok (.int .i64 ((look m k).getD 0)) w := by
  obtain ⟨q, h1, h2⟩ := find_ents k m 0 0
  have hz : (zeroValue 3).run Tryz.prog w = .ok (.int .i64 0) w := by kernel_rfl
  unfold MapAt at h
  unfold Instr.lookup
  simp only [Sem.run_bind, run_underlying Tryz.underlying91, Result.andThen]
  simp [getObj, Sem.run, h, Result.andThen, MapKept.run_checkKey Tryz.underlying9 (isKey_str _), MapKept.run_findKey Tryz.underlying9 h1]
  cases q with
  | none =>
    have hl : look m k = none := by
      cases hl : look m k with
      | none => rfl
      | some x => rw [hl] at h2; simp at h2
    simp [hl, hz]
  | some q =>
    obtain ⟨i, v⟩ := q
    cases hl : look m k with
    | none => rw [hl] at h2; simp at h2
    | some x =>
      rw [hl] at h2
      simp at h2
      simp [h2]

/-- One more entry behind those that were laid down, in a map that is the last block. -/
theorem run_lay (w : World) (m : List (List UInt8 × Int)) (k : List UInt8) (x : Int) (hn : look m k = none) :
    (Instr.mapUpdate 91 (.map (some w.heap.size)) (.string ⟨k.toArray⟩) (.int .i64 x)).run Tryz.prog (w.alloc (.map (ents m 0).toArray m.length)) =
      .ok () (w.alloc (.map (ents (m ++ [(k, x)]) 0).toArray (m ++ [(k, x)]).length)) := by
  obtain ⟨q, h1, h2⟩ := find_ents k m 0 0
  obtain rfl : q = none := by rw [hn] at h2; simpa using h2
  have hb := (MapKept.heap_alloc w (.map (ents m 0).toArray m.length)).1
  have he : ∀ (l : List (List UInt8 × Int)) (i : Nat), ents (l ++ [(k, x)]) i = ents l i ++ [⟨.string ⟨k.toArray⟩, .int .i64 x, i + l.length⟩] := by
    intro l
    induction l with
    | nil => intro i; rfl
    | cons a t ih => intro i; obtain ⟨a, y⟩ := a; simp [ents, ih]; omega
  have hset : ∀ o : Obj, { w.alloc (.map (ents m 0).toArray m.length) with heap := (w.alloc (.map (ents m 0).toArray m.length)).heap.setIfInBounds w.heap.size o } = w.alloc o := by
    intro o
    simp only [World.alloc]
    congr 1
    apply Array.ext'
    simp [Array.setIfInBounds, Array.toList_push]
  generalize w.alloc (.map (ents m 0).toArray m.length) = W at hb hset
  unfold Instr.mapUpdate
  simp only [Sem.run_bind, run_underlying Tryz.underlying91, Result.andThen]
  simp [getObj, Sem.run, hb, MapKept.run_checkKey Tryz.underlying9 (isKey_str _), MapKept.run_findKey Tryz.underlying9 h1, MapKept.run_setObj_map _ hb, hset, he]

end Go.Proofs.YthbplchbolghjaaGreatDoor.Qu
