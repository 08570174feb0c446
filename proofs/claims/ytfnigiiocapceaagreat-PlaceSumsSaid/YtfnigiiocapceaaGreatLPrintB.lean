/- What the printers' own functions answer; a slice that holds a list; a list's text. No conditions. -/
import Derived.Test.YtfnigiiocapceaaGreatLRise
import Derived.Test.YtfnigiiocapceaaGreatLBuild
namespace Go.Proofs.YtfnigiiocapceaaGreat.La
open Go.RowKit

theorem SlAt.below {w w' : World} {A : Option Addr} {xs : List Value} (h : SlAt w A xs) (hb : Below w.heap.size w w') : SlAt w' A xs := by
  intro j y hj
  obtain ⟨b, o, hA, hc⟩ := h j y hj
  exact ⟨b, o, hA, (hb.cell (World.block_lt_of_cell? w _ hc)).trans hc⟩
theorem SlAt.nil (w : World) (A : Option Addr) : SlAt w A [] := fun j y h => by simp at h
theorem own_slat {w : World} {base : Nat} {e : TypeId} {size : Nat} {A : Option Addr} {n c : Nat} {xs : List Value} (h : w.ownsRow base e size (.slice A n c) n xs) : SlAt w A xs := by
  rcases Nat.eq_zero_or_pos n with hn | hn
  · have : xs = [] := List.length_eq_zero_iff.1 (by rw [h.1, hn, Nat.zero_mul])
    rw [this]
    exact SlAt.nil _ _
  · obtain ⟨g, cap, hv, _, _, _, _, hc⟩ := own_cells h hn
    cases hv
    exact fun j y hj => ⟨g, 0, rfl, by rw [Nat.zero_add]; exact hc j y hj⟩
theorem SlAt.lab {w : World} {A : Option Addr} {l : List (List UInt8 × List UInt8)} (h : SlAt w A (cellsL l)) {k : Nat} {x : List UInt8 × List UInt8} (hk : l[k]? = some x) :
    ∃ b o, A = some ⟨b, o, none⟩ ∧ b < w.heap.size ∧ w.cell? ⟨b, o + k * 2, none⟩ = some (strV x.1) ∧ w.cell? ⟨b, o + k * 2 + 1, none⟩ = some (strV x.2) := by
  obtain ⟨h0, h1⟩ := cellsL_at l k x hk
  obtain ⟨b, o, hA, hc⟩ := h _ _ h0
  obtain ⟨b', o', hA', hc'⟩ := h _ _ h1
  rw [hA] at hA'
  cases hA'
  exact ⟨b, o, hA, World.block_lt_of_cell? w _ hc, hc, by rw [Nat.add_assoc]; exact hc'⟩
theorem SlAt.ter {w : World} {A : Option Addr} {l : List (Int × List UInt8 × List UInt8)} (h : SlAt w A (cellsT l)) {k : Nat} {x : Int × List UInt8 × List UInt8} (hk : l[k]? = some x) :
    ∃ b o, A = some ⟨b, o, none⟩ ∧ b < w.heap.size ∧ w.cell? ⟨b, o + k * 3, none⟩ = some (.int .i64 x.1) ∧ w.cell? ⟨b, o + k * 3 + 1, none⟩ = some (strV x.2.1) ∧ w.cell? ⟨b, o + k * 3 + 2, none⟩ = some (strV x.2.2) := by
  obtain ⟨h0, h1, h2⟩ := cellsT_at l k x hk
  obtain ⟨b, o, hA, hc⟩ := h _ _ h0
  obtain ⟨b', o', hA', hc'⟩ := h _ _ h1
  rw [hA] at hA'
  cases hA'
  obtain ⟨b', o', hA', hc''⟩ := h _ _ h2
  rw [hA] at hA'
  cases hA'
  exact ⟨b, o, hA, World.block_lt_of_cell? w _ hc, hc, by rw [Nat.add_assoc]; exact hc', by rw [Nat.add_assoc]; exact hc''⟩

/-- A list's text, part by part. -/
def printK {α : Type} (part : α → List UInt8) (l : List α) : Nat → List UInt8
  | 0 => []
  | k + 1 => printK part l k ++ (if k = 0 then [] else [44]) ++ (match l[k]? with | some x => part x | none => [])
def printA {α : Type} (part : α → List UInt8) (l : List α) : List UInt8 := printK part l l.length
theorem printK_len {α : Type} (part : α → List UInt8) (l : List α) (n : Nat) (h : ∀ x ∈ l, (part x).length ≤ n) : ∀ k, (printK part l k).length ≤ k * (n + 1)
  | 0 => Nat.zero_le _
  | k + 1 => by
    have := printK_len part l n h k
    rw [printK, Nat.succ_mul]
    cases hk : l[k]? with
    | none => split <;> simp <;> omega
    | some x =>
      have := h x (List.mem_of_getElem? hk)
      split <;> simp <;> omega

def labP (x : List UInt8 × List UInt8) : List UInt8 := x.1 ++ [61] ++ x.2
def terP (x : Int × List UInt8 × List UInt8) : List UInt8 :=
  if x.1 = 1 then x.2.1 ++ [61] ++ x.2.2 else if x.1 = 2 then x.2.1 ++ [33, 61] ++ x.2.2 else if x.1 = 3 then x.2.1 else [33] ++ x.2.1

theorem join_ba (a b : List UInt8) : (⟨a.toArray⟩ : ByteArray) ++ (⟨b.toArray⟩ : ByteArray) = ⟨(a ++ b).toArray⟩ := by
  apply ByteArray.ext
  simp [ByteArray.data_append]
theorem retS {a b : ByteArray} (h : a = b) : Ending.returned (.string a) = .returned (.string b) := by rw [h]

theorem strC (l : List UInt8) : Lib.strCells ⟨l.toArray⟩ = Lib.byteCells l := rfl
end Go.Proofs.YtfnigiiocapceaaGreat.La
