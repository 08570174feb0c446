/- What the table of suffixes is, and what a point or another rune does to a text that is being read. No conditions but those that the reader itself keeps. -/
import Derived.Test.YthbplchbolghjaaGreatDoorTake
import Derived.Test.YthbplchbolghjaaGreatDoorTable
namespace Go.Proofs.YthbplchbolghjaaGreatDoor.Qu
open Go.RowKit

/-- The suffixes, in thousandths; 0: one that must go on. -/
def sufM : List (List UInt8 × Int) := [([], 1000), ([109], 1), ([107], 1000000), ([77], 1000000000), ([71], 1000000000000), ([75], 0), ([75, 105], 1024000), ([77, 105], 1048576000), ([71, 105], 1073741824000)]
/-- The one suffix of a share. -/
def pctM : List (List UInt8 × Int) := [([37], 1)]

def lay (w : World) (m : List (List UInt8 × Int)) : World := w.alloc (.map (ents m 0).toArray m.length)
theorem lay_at (w : World) (m : List (List UInt8 × Int)) : MapAt (lay w m) w.heap.size m := (MapKept.heap_alloc w _).1
theorem lay_below (w : World) (m : List (List UInt8 × Int)) : Below w.heap.size w (lay w m) := (Below.refl _ _).alloc (Nat.le_refl _) _
theorem lay_size (w : World) (m : List (List UInt8 × Int)) : (lay w m).heap.size = w.heap.size + 1 := by simp [lay]
theorem run_lay' (w : World) (m : List (List UInt8 × Int)) (k : List UInt8) (x : Int) (m' : List (List UInt8 × Int)) (hn : look m k = none) (hm : m' = m ++ [(k, x)]) :
    (Instr.mapUpdate 91 (.map (some w.heap.size)) (.string ⟨k.toArray⟩) (.int .i64 x)).run Tryz.prog (lay w m) = .ok () (lay w m') := by
  subst hm; exact run_lay w m k x hn
theorem run_make (w : World) : (Instr.makeMap 91 none).run Tryz.prog w = .ok (.map (some w.heap.size)) (lay w []) := rfl

def Rd.point (r : Rd) : Option Rd := if r.b = false ∨ r.p = true ∨ r.s ≠ [] then none else some { r with p := true }

set_option maxHeartbeats 400000 in
theorem takePoint_any (B : Nat) (r : Rd) (w : World) (h : RdAt w B r) :
    Calls Tryz.prog 161 #[.pointer (some ⟨B, 0, none⟩)] w (After w B r r.point) := by
  have c1 := h.c1
  have c2 := h.c2
  have c4 := h.c4
  have f2 := h.free 2
  have H := Lib.hid h
  clear h
  obtain ⟨v, b, p, k, s⟩ := r
  simp only at c1 c2 c4
  cases b
  · have ho : Rd.point ⟨v, false, p, k, s⟩ = none := by unfold Rd.point; simp
    rw [ho]
    clear ho
    go_enter Tryz.func161, Tryz.ntmps161
    go_wp2
    go_ret
    exact ⟨rfl, H.out, World.grownBy.refl _ _⟩
  · cases p
    · by_cases hs : s = []
      · have ho : Rd.point ⟨v, true, false, k, s⟩ = some ⟨v, true, true, k, s⟩ := by unfold Rd.point; simp [hs]
        rw [ho]
        clear ho
        subst hs
        go_enter Tryz.func161, Tryz.ntmps161
        go_wp2
        go_ret
        exact ⟨rfl, H.out.set2 true, one_set (World.grownBy.refl _ _) _ _⟩
      · have ho : Rd.point ⟨v, true, false, k, s⟩ = none := by unfold Rd.point; simp [hs]
        rw [ho]
        have hb := str_ne hs
        clear ho hs
        go_enter Tryz.func161, Tryz.ntmps161
        go_wp2
        go_ret
        exact ⟨rfl, H.out, World.grownBy.refl _ _⟩
    · have ho : Rd.point ⟨v, true, true, k, s⟩ = none := by unfold Rd.point; simp
      rw [ho]
      clear ho
      go_enter Tryz.func161, Tryz.ntmps161
      go_wp2
      go_ret
      exact ⟨rfl, H.out, World.grownBy.refl _ _⟩

/-- A rune's bytes. -/
def bytesOf (t : ByteArray) : List UInt8 := t.data.toList
def enc (c : Nat) : List UInt8 := bytesOf (Utf8.encode (c : Int))

def Rd.suffix (r : Rd) (c : Nat) (m : List (List UInt8 × Int)) : Option Rd :=
  if r.num = false then none else if (look m (r.s ++ enc c)).isSome then some { r with s := r.s ++ enc c } else none

theorem enc_le (c : Int) : (Utf8.encode c).size ≤ 4 := by
  unfold Utf8.encode
  simp only
  generalize (if Utf8.valid c = true then c.toNat else Utf8.runeError) = n
  split
  · show (1 : Nat) ≤ 4; decide
  · split
    · show (2 : Nat) ≤ 4; decide
    · split
      · show (3 : Nat) ≤ 4; decide
      · show (4 : Nat) ≤ 4; decide
theorem app_ba (s : List UInt8) (t : ByteArray) : (⟨s.toArray⟩ : ByteArray) ++ t = ⟨(s ++ t.data.toList).toArray⟩ := by
  apply ByteArray.ext
  simp [ByteArray.data_append]
theorem size_ba (s : List UInt8) : (⟨s.toArray⟩ : ByteArray).size = s.length := by
  show s.toArray.size = _
  simp

theorem run_join (P : Program) (w : World) (s : List UInt8) (t : ByteArray) (hs : s.length ≤ 100) (ht : t.size ≤ 4) : (Op.stringOp .add ⟨s.toArray⟩ t).run P w = .ok (.string ⟨(s ++ t.data.toList).toArray⟩) w := by
  have h : (⟨s.toArray⟩ : ByteArray).size + t.size ≤ 9223372036854775807 := by
    rw [size_ba]
    exact Nat.le_trans (Nat.add_le_add hs ht) (by decide)
  rw [run_string_add_sum _ _ _ h, app_ba]

theorem of_bytes (t : ByteArray) : (⟨(bytesOf t).toArray⟩ : ByteArray) = t := by
  apply ByteArray.ext
  simp [bytesOf]
theorem enc_ba (c : Nat) : (⟨(enc c).toArray⟩ : ByteArray) = Utf8.encode (c : Int) := by
  exact of_bytes (Utf8.encode (c : Int))
theorem run_rune (w : World) (c : Nat) : (convert 21 9 (.int .i32 (c : Int))).run Tryz.prog w = .ok (.string ⟨(enc c).toArray⟩) w := by
  rw [enc_ba]
  exact run_convert_int_string w 21 9 .i32 (c : Int) (by kernel_rfl) Tryz.underlying9
theorem enc_le' (c : Nat) : (⟨(enc c).toArray⟩ : ByteArray).size ≤ 4 := by
  rw [enc_ba]
  exact enc_le (c : Int)

set_option maxHeartbeats 400000 in
theorem takeSuffix_any (B M : Nat) (r : Rd) (c : Nat) (m : List (List UInt8 × Int)) (w : World) (h : RdAt w B r) (hM : MapAt w M m) (hs : r.s.length ≤ 100) :
    Calls Tryz.prog 162 #[.pointer (some ⟨B, 0, none⟩), .int .i32 (c : Int), .map (some M)] w (After w B r (r.suffix c m)) := by
  have c4 := h.c4
  have f4 := h.free 4
  have H := Lib.hid h
  clear h
  cases hn : r.num
  · have ho : r.suffix c m = none := by unfold Rd.suffix; rw [if_pos hn]
    rw [ho]
    have Hn := Lib.hid hn
    clear hn ho
    go_enter Tryz.func162, Tryz.ntmps162
    go_wp2_with (go_at_call 152; refine (isNumber_any B r _ H.out).mono ?_; rintro e w' ⟨rfl, rfl⟩; rw [Hn.out])
    go_ret
    exact ⟨rfl, H.out, World.grownBy.refl _ _⟩
  · have hconv := run_rune w c
    have hadd := run_join Tryz.prog w r.s ⟨(enc c).toArray⟩ hs (enc_le' c)
    have hlook := run_look_ok w M m (r.s ++ enc c) hM
    rw [List.toList_toArray] at hadd
    have Hn := Lib.hid hn
    clear hn
    generalize hF : enc c = F at hconv hadd hlook
    generalize hE : r.s ++ F = E at hadd hlook
    cases hl : (look m E).isSome
    · have ho : r.suffix c m = none := by unfold Rd.suffix; rw [if_neg (by rw [Hn.out]; simp), hF, hE, if_neg (by rw [hl]; simp)]
      rw [ho]
      rw [hl] at hlook
      clear ho hl hE hF
      go_enter Tryz.func162, Tryz.ntmps162
      go_wp2_with (go_at_call 152; refine (isNumber_any B r _ H.out).mono ?_; rintro e w' ⟨rfl, rfl⟩; rw [Hn.out])
      go_ret
      exact ⟨rfl, H.out, World.grownBy.refl _ _⟩
    · have ho : r.suffix c m = some { r with s := E } := by unfold Rd.suffix; rw [if_neg (by rw [Hn.out]; simp), hF, hE, if_pos hl]
      rw [ho]
      rw [hl] at hlook
      clear ho hl hE hF
      go_enter Tryz.func162, Tryz.ntmps162
      go_wp2_with (go_at_call 152; refine (isNumber_any B r _ H.out).mono ?_; rintro e w' ⟨rfl, rfl⟩; rw [Hn.out])
      go_ret
      exact ⟨rfl, H.out.set4 E, one_set (World.grownBy.refl _ _) _ _⟩

end Go.Proofs.YthbplchbolghjaaGreatDoor.Qu
