/- What the reader of layer 3 does: a sign, a name, a value, each by what it answers and where the reader stands then. Condition: the reader lies in memory. -/
import Derived.Test.YtfnigiiocapceaaGreatLSpan
import Derived.Test.YtfnigiiocapceaaGreatShelf
import Derived.Deep.RegionHeld3
import Derived.Lib.IndexBytes
import Derived.Deep.RegionWith
import Derived.Deep.DeepCutAuto
namespace Go.Proofs.YtfnigiiocapceaaGreat.La
open Go.RowKit

section
variable {w w' : World} {B a : Nat} {l : List UInt8}
end

theorem cut_eq (l : List UInt8) (a b : Nat) : (⟨l.toArray⟩ : ByteArray).extract a b = ⟨((l.drop a).take (b - a)).toArray⟩ := by
  apply ByteArray.ext
  apply Array.toList_inj.1
  have := Lib.extract_data (⟨l.toArray⟩ : ByteArray) a b
  exact this
theorem cut_end (l : List UInt8) (a : Nat) : (⟨l.toArray⟩ : ByteArray).extract a l.length = ⟨(l.drop a).toArray⟩ := by
  rw [cut_eq, List.take_of_length_le (by simp)]

/-- Does this sign stand there? -/
def signL (l : List UInt8) (a : Nat) (c : UInt8) : Bool := decide (l[a]? = some c)
theorem sign_prefix (l : List UInt8) (a : Nat) (c : UInt8) : Lib.hasPrefix (l.drop a) [c] = signL l a c := by
  unfold Lib.hasPrefix signL
  rw [Bool.eq_iff_iff]
  rcases Nat.lt_or_ge a l.length with h | h
  · rw [List.drop_eq_getElem_cons h, List.getElem?_eq_getElem h]
    simp [List.isPrefixOf]
    exact eq_comm
  · rw [List.drop_eq_nil_of_le h, List.getElem?_eq_none h]
    simp [List.isPrefixOf]
theorem clone_at (l : List UInt8) (a n : Nat) (w : World) (hl : l.length ≤ 140737488355328) :
    Calls Tryz.prog 68 #[.string ((⟨l.toArray⟩ : ByteArray).extract a (a + n))] w fun e w' => e = .returned (strV ((l.drop a).take n)) ∧ Below w.heap.size w w' := by
  have hs : (⟨((l.drop a).take n).toArray⟩ : ByteArray).size ≤ 281474976710656 := by
    show ((l.drop a).take n).length ≤ _
    rw [List.length_take, List.length_drop]
    omega
  have K := Lib.hid (fun w => Tryz.stringslite_Clone ⟨((l.drop a).take n).toArray⟩ w hs)
  rw [cut_eq, Nat.add_sub_cancel_left]
  clear hs
  go_enter Tryz.func68, Tryz.ntmps68
  go_wp2_with fail
  refine (K.out _).mono ?_
  rintro e w1 ⟨rfl, hb⟩
  have HB := Lib.hid hb
  clear hb
  go_wp2
  go_ret
  exact ⟨rfl, HB.out⟩

/-- A word: what goes on, and where it ends. -/
def wordL (ok : Nat → Nat → Bool) (l : List UInt8) (a : Nat) : Nat := spanF ok (l.drop a) 0

theorem span_le (ok : Nat → Nat → Bool) : ∀ (l : List UInt8) (a : Nat), a ≤ spanF ok l a ∧ spanF ok l a ≤ a + l.length
  | [], a => ⟨Nat.le_refl _, Nat.le_refl _⟩
  | b :: t, a => by
    rw [spanF]
    split
    · exact ⟨Nat.le_refl _, Nat.le_add_right _ _⟩
    · have := span_le ok t (a + 1)
      simp only [List.length_cons]
      omega
theorem word_le (ok : Nat → Nat → Bool) (l : List UInt8) (a : Nat) (h : a ≤ l.length) : a + wordL ok l a ≤ l.length := by
  have := (span_le ok (l.drop a) 0).2
  rw [List.length_drop] at this
  unfold wordL
  omega

/-- What a value reads: the word, whether it is one, where it ends. -/
def valF (l : List UInt8) (a : Nat) : List UInt8 × Bool × Nat := ((l.drop a).take (wordL okVal l a), decide (0 < wordL okVal l a), a + wordL okVal l a)
def anyF (l : List UInt8) (a : Nat) : List UInt8 × Bool × Nat := if signL l a 42 = true then ([42], true, a + 1) else valF l a

end Go.Proofs.YtfnigiiocapceaaGreat.La
