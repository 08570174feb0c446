/- What the document's digits, points and suffixes come to: each by where reading stands, byte by byte. Condition: a text of a hundred bytes at most. -/
import Derived.Test.YtmhblnlbfhfegaaDoorBackMath
namespace Go.Proofs.YtmhblnlbfhfegaaDoor
open Go.RowKit

/-- A byte that is a digit. -/
def isDig (b : UInt8) : Prop := 48 ≤ b.toNat ∧ b.toNat ≤ 57

theorem getElem_list (s : ByteArray) (k : Nat) (h : k < s.size) : s.data.toList[k]? = some s[k] := by
  rw [List.getElem?_eq_getElem (by simpa using h)]
  rfl

set_option maxHeartbeats 400000 in
theorem digit_end (s : ByteArray) (k : Nat) (w : World) (hk : s.size ≤ k) :
    Calls Tryd.prog 49 #[.string s, .int .i64 (k : Int)] w fun e w' => e = .returned (.bool false) ∧ w = w' := by
  have i1 : ¬ (k : Int) < (s.size : Int) := by omega
  have i2 : ¬ k < s.size := by omega
  go_enter Tryd.func49, Tryd.ntmps49
  go_wp2
  go_ret
  exact ⟨rfl, rfl⟩

set_option maxHeartbeats 400000 in
theorem digit_yes (s : ByteArray) (k : Nat) (w : World) (hk : k < s.size) (hd : isDig s[k]) :
    Calls Tryd.prog 49 #[.string s, .int .i64 (k : Int)] w fun e w' => e = .returned (.bool true) ∧ w = w' := by
  obtain ⟨h1, h2⟩ := hd
  have i1 : (48 : Int) ≤ (s[k].toNat : Int) := by omega
  have i2 : (s[k].toNat : Int) ≤ 57 := by omega
  go_enter Tryd.func49, Tryd.ntmps49
  go_wp2
  go_ret
  exact ⟨rfl, rfl⟩

set_option maxHeartbeats 400000 in
theorem digit_no (s : ByteArray) (k : Nat) (w : World) (hk : k < s.size) (hd : ¬ isDig s[k]) :
    Calls Tryd.prog 49 #[.string s, .int .i64 (k : Int)] w fun e w' => e = .returned (.bool false) ∧ w = w' := by
  by_cases h1 : 48 ≤ s[k].toNat
  · have h2 : ¬ s[k].toNat ≤ 57 := fun h => hd ⟨h1, h⟩
    have i1 : (48 : Int) ≤ (s[k].toNat : Int) := by omega
    have i2 : ¬ (s[k].toNat : Int) ≤ 57 := by omega
    clear hd
    go_enter Tryd.func49, Tryd.ntmps49
    go_wp2
    go_ret
    exact ⟨rfl, rfl⟩
  · have i1 : ¬ (48 : Int) ≤ (s[k].toNat : Int) := by omega
    clear hd
    go_enter Tryd.func49, Tryd.ntmps49
    go_wp2
    go_ret
    exact ⟨rfl, rfl⟩

/-- Reading stands behind the first k bytes, with this read. -/
def Stands (s : ByteArray) (P : Nat) (m : List (List UInt8 × Int)) (k : Nat) (r : Rd) : Prop := k ≤ s.size ∧ scanL P m (s.data.toList.take k) 0 rd0 = (some r, k)

theorem Stands.start (s : ByteArray) (P : Nat) (m : List (List UInt8 × Int)) : Stands s P m 0 rd0 := ⟨Nat.zero_le _, rfl⟩

theorem Stands.step {s : ByteArray} {P : Nat} {m : List (List UInt8 × Int)} {k : Nat} {r r' : Rd} (h : Stands s P m k r) (hk : k < s.size) (hb : r.byte s[k] P m = some r') : Stands s P m (k + 1) r' := by
  refine ⟨hk, ?_⟩
  rw [List.take_add_one, getElem_list s k hk, scan_append, h.2]
  simp only [Option.toList_some, scanL, hb]

/-- A byte that can't stand: reading is wrong there. -/
theorem Stands.wrong {s : ByteArray} {P : Nat} {m : List (List UInt8 × Int)} (hm : Ascii m) {k : Nat} {r : Rd} (h : Stands s P m k r) (hk : k < s.size) (hb : r.byte s[k] P m = none) : readL s P m = (0, 0, (k : Int), 4) := by
  have e : s.data.toList = s.data.toList.take k ++ (s[k] :: s.data.toList.drop (k + 1)) := by
    conv => lhs; rw [← List.take_append_drop k s.data.toList]
    rw [List.drop_eq_getElem_cons (by simpa using hk)]
    rfl
  unfold readL
  rw [scan_all s P m hm, e, scan_append, h.2]
  simp only [scanL, hb]

/-- The end: what was read is all. -/
theorem Stands.all {s : ByteArray} {P : Nat} {m : List (List UInt8 × Int)} (hm : Ascii m) {k : Nat} {r : Rd} (h : Stands s P m k r) (hk : k = s.size) :
    readL s P m = if r.num = false ∨ (look m r.s).getD 0 = 0 then (0, 0, (s.size : Int), 3) else (r.v * 10 ^ (P - r.k), (look m r.s).getD 0, 0, 0) := by
  unfold readL
  have e : s.data.toList.take k = s.data.toList := List.take_of_length_le (by rw [hk]; exact Nat.le_refl _)
  have h2 := h.2
  rw [e] at h2
  rw [scan_all s P m hm, h2]

end Go.Proofs.YtmhblnlbfhfegaaDoor
