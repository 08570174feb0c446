/- What the reader of layer 3 does: a sign, a name, a value, each by what it answers and where the reader stands then. Condition: the reader lies in memory. -/
import Derived.Test.YteclbkjonaildaaLSpan
import Derived.Test.YteclbkjonaildaaShelf
import Derived.Deep.RegionHeld3
import Derived.Lib.IndexBytes
import Derived.Deep.RegionWith
import Derived.Deep.DeepCutAuto
namespace Go.Proofs.Yteclbkjonaildaa
open Go.RowKit

/-- The reader lies in this block: its text, and where it stands. -/
def RdAt (w : World) (B : Nat) (l : List UInt8) (a : Nat) : Prop := Blk w B #[strV l, .int .i64 (a : Int)] 83
section
variable {w w' : World} {B a : Nat} {l : List UInt8}
theorem RdAt.lt (h : RdAt w B l a) : B < w.heap.size := Blk.lt h
theorem RdAt.c0 (h : RdAt w B l a) : w.cell? ⟨B, 0, none⟩ = some (strV l) := Blk.cell h 0
theorem RdAt.c1 (h : RdAt w B l a) : w.cell? ⟨B, 1, none⟩ = some (.int .i64 (a : Int)) := Blk.cell h 1
theorem RdAt.set (h : RdAt w B l a) (k : Nat) : RdAt (w.setCell ⟨B, 1, none⟩ (.int .i64 (k : Int))) B l k := by
  unfold RdAt Blk at h ⊢
  rw [heap_setCell_same w B 1 _ _ _ h]
  rfl
end

theorem cut_eq (l : List UInt8) (a b : Nat) : (⟨l.toArray⟩ : ByteArray).extract a b = ⟨((l.drop a).take (b - a)).toArray⟩ := by
  apply ByteArray.ext
  apply Array.toList_inj.1
  have := Lib.extract_data (⟨l.toArray⟩ : ByteArray) a b
  exact this
theorem cut_end (l : List UInt8) (a : Nat) : (⟨l.toArray⟩ : ByteArray).extract a l.length = ⟨(l.drop a).toArray⟩ := by
  rw [cut_eq, List.take_of_length_le (by simp)]

/-- Does this sign stand there? -/
def signL (l : List UInt8) (a : Nat) (c : UInt8) : Bool := decide (l[a]? = some c)
theorem sign_prefix (l : List UInt8) (a : Nat) (c : UInt8) : Lib.hasPrefix (l.drop a) [c] = signL l a c := by
  unfold Lib.hasPrefix signL
  rw [Bool.eq_iff_iff]
  rcases Nat.lt_or_ge a l.length with h | h
  · rw [List.drop_eq_getElem_cons h, List.getElem?_eq_getElem h]
    simp [List.isPrefixOf]
    exact eq_comm
  · rw [List.drop_eq_nil_of_le h, List.getElem?_eq_none h]
    simp [List.isPrefixOf]
theorem prefix_at (l : List UInt8) (a : Nat) (c : UInt8) (w : World) :
    Calls Try.prog 77 #[.string ((⟨l.toArray⟩ : ByteArray).extract a l.length), .string ⟨#[c]⟩] w fun e w' => e = .returned (.bool (signL l a c)) ∧ w' = w := by
  have k := Try.strings_HasPrefix ⟨(l.drop a).toArray⟩ ⟨#[c]⟩ w
  rw [cut_end]
  have e : Lib.hasPrefix (⟨(l.drop a).toArray⟩ : ByteArray).data.toList (⟨#[c]⟩ : ByteArray).data.toList = signL l a c := sign_prefix l a c
  rw [e] at k
  exact k

set_option maxHeartbeats 400000 in
theorem sign_yes (B : Nat) (l : List UInt8) (a : Nat) (c : UInt8) (w : World) (h : RdAt w B l a) (hl : l.length ≤ 140737488355328) (ha : a ≤ l.length) (hs : signL l a c = true) :
    Calls Try.prog 62 #[.pointer (some ⟨B, 0, none⟩), .string ⟨#[c]⟩] w fun e w' => e = .returned (.bool true) ∧ RdAt w' B l (a + 1) ∧ w.grownBy w' (some B) := by
  have c0 := h.c0
  have c1 := h.c1
  have f1 := Blk.free h 1
  have K := Lib.hid (prefix_at l a c)
  have Hs := Lib.hid hs
  have H := Lib.hid h
  clear h hs
  go_enter Try.func62, Try.ntmps62
  go_wp2
  go_quiet ((go_at_call 77; have k := K.out; rw [Hs.out] at k; exact Calls.quiet_of_same (k _)))
  go_wp2
  go_ret
  exact ⟨rfl, RdAt.set (H.out : RdAt _ B l a) (a + 1), grown_set (grown_drewN (World.grownBy.refl w _) _) _ _⟩

set_option maxHeartbeats 400000 in
theorem sign_no (B : Nat) (l : List UInt8) (a : Nat) (c : UInt8) (w : World) (h : RdAt w B l a) (hl : l.length ≤ 140737488355328) (ha : a ≤ l.length) (hs : signL l a c = false) :
    Calls Try.prog 62 #[.pointer (some ⟨B, 0, none⟩), .string ⟨#[c]⟩] w fun e w' => e = .returned (.bool false) ∧ RdAt w' B l a ∧ w.grownBy w' (some B) := by
  have c0 := h.c0
  have c1 := h.c1
  have f1 := Blk.free h 1
  have K := Lib.hid (prefix_at l a c)
  have Hs := Lib.hid hs
  have H := Lib.hid h
  clear h hs
  go_enter Try.func62, Try.ntmps62
  go_wp2
  go_quiet ((go_at_call 77; have k := K.out; rw [Hs.out] at k; exact Calls.quiet_of_same (k _)))
  go_wp2
  go_ret
  exact ⟨rfl, (H.out : RdAt _ B l a), grown_drewN (World.grownBy.refl w _) _⟩

theorem clone_at (l : List UInt8) (a n : Nat) (w : World) (hl : l.length ≤ 140737488355328) :
    Calls Try.prog 61 #[.string ((⟨l.toArray⟩ : ByteArray).extract a (a + n))] w fun e w' => e = .returned (strV ((l.drop a).take n)) ∧ Below w.heap.size w w' := by
  have hs : (⟨((l.drop a).take n).toArray⟩ : ByteArray).size ≤ 281474976710656 := by
    show ((l.drop a).take n).length ≤ _
    rw [List.length_take, List.length_drop]
    omega
  have K := Lib.hid (fun w => Try.stringslite_Clone ⟨((l.drop a).take n).toArray⟩ w hs)
  rw [cut_eq, Nat.add_sub_cancel_left]
  clear hs
  go_enter Try.func61, Try.ntmps61
  go_wp2_with fail
  refine (K.out _).mono ?_
  rintro e w1 ⟨rfl, hb⟩
  have HB := Lib.hid hb
  clear hb
  go_wp2
  go_ret
  exact ⟨rfl, HB.out⟩

set_option maxHeartbeats 1000000 in
theorem take_any (B : Nat) (l : List UInt8) (a n : Nat) (w : World) (h : RdAt w B l a) (hl : l.length ≤ 140737488355328) (ha : a + n ≤ l.length) :
    Calls Try.prog 64 #[.pointer (some ⟨B, 0, none⟩), .int .i64 (n : Int)] w fun e w' => e = .returned (.tuple #[strV ((l.drop a).take n), .bool (decide (0 < n))]) ∧ RdAt w' B l (a + n) ∧ w.grownBy w' (some B) := by
  have c0 := h.c0
  have c1 := h.c1
  have hlt := h.lt
  have H := Lib.hid h
  have s1 : IntKind.i64.wrap ((a : Int) + n) = (a : Int) + n := IntWalk.i64_in _ (by omega)
  have s2 : ((a : Int) + n).toNat = a + n := by omega
  have s3 : (0 : Int) ≤ (a : Int) + n := by omega
  have s4 : (a : Int) ≤ (a : Int) + n := by omega
  have s5 : (a : Int) + n ≤ (l.length : Int) := by omega
  have K := Lib.hid (fun w => clone_at l a n w hl)
  go_enter Try.func64, Try.ntmps64
  go_wp2
  go_region_held3 (fun w' => w'.cell? ⟨B, 0, none⟩ = some (strV l) ∧ w'.cell? ⟨B, 1, none⟩ = some (.int .i64 (a : Int))) (first | exact ⟨c0, c1⟩ | exact ⟨d0, d1⟩)
    (first | (go_at_call 61; refine (K.out _).mono ?_; rintro e w2 ⟨rfl, hb2⟩; have d0 := (hb2.cell (p := ⟨B, 0, none⟩) hlt).trans c0; have d1 := (hb2.cell (p := ⟨B, 1, none⟩) hlt).trans c1; have HB2 := Lib.hid hb2; clear hb2))
  have R2 : Hid (RdAt w2 B l a) := Lib.hid (Blk.below (w := w.drew) H.out HB2.out hlt)
  have G2 : Hid (w.grownBy w2 (some B)) := Lib.hid (grown_below (grown_drew (World.grownBy.refl w _)) HB2.out)
  clear c0 c1 s1 s2 s3 s4 HB2
  have c1 := R2.out.c1
  have f1 := Blk.free R2.out 1
  go_wp2
  go_ret2
  exact ⟨rfl, RdAt.set R2.out (a + n), grown_set G2.out _ _⟩

/-- A word: what goes on, and where it ends. -/
def wordL (ok : Nat → Nat → Bool) (l : List UInt8) (a : Nat) : Nat := spanF ok (l.drop a) 0

theorem span_le (ok : Nat → Nat → Bool) : ∀ (l : List UInt8) (a : Nat), a ≤ spanF ok l a ∧ spanF ok l a ≤ a + l.length
  | [], a => ⟨Nat.le_refl _, Nat.le_refl _⟩
  | b :: t, a => by
    rw [spanF]
    split
    · exact ⟨Nat.le_refl _, Nat.le_add_right _ _⟩
    · have := span_le ok t (a + 1)
      simp only [List.length_cons]
      omega
theorem word_le (ok : Nat → Nat → Bool) (l : List UInt8) (a : Nat) (h : a ≤ l.length) : a + wordL ok l a ≤ l.length := by
  have := (span_le ok (l.drop a) 0).2
  rw [List.length_drop] at this
  unfold wordL
  omega

set_option maxHeartbeats 1000000 in
theorem name_any (B : Nat) (l : List UInt8) (a n : Nat) (w : World) (h : RdAt w B l a) (hl : l.length ≤ 140737488355328) (ha : a ≤ l.length) (hn : wordL okName l a = n) :
    Calls Try.prog 63 #[.pointer (some ⟨B, 0, none⟩)] w fun e w' => e = .returned (.tuple #[strV ((l.drop a).take n), .bool (decide (0 < n))]) ∧ RdAt w' B l (a + n) ∧ w.grownBy w' (some B) := by
  have c0 := h.c0
  have c1 := h.c1
  have hlt := h.lt
  have H := Lib.hid h
  have hle := word_le okName l a ha
  rw [hn] at hle
  have K : Hid (∀ w, Calls Try.prog 69 #[.string ((⟨l.toArray⟩ : ByteArray).extract a l.length)] w fun e w' => e = .returned (.int .i64 (n : Int)) ∧ Below w.heap.size w w') := by
    show ∀ _, _
    intro w
    rw [cut_end, ← hn]
    exact nameLen_any (l.drop a) w (by rw [List.length_drop]; omega)
  clear h hn
  go_enter Try.func63, Try.ntmps63
  go_wp2
  go_region_with (first
    | (go_at_call 69; refine (K.out _).mono ?_; rintro e w2 ⟨rfl, hb2⟩; have HB2 := Lib.hid hb2; clear hb2)
    | (go_at_call 64; have R2 := Lib.hid (Blk.below (w := w.drew) H.out HB2.out hlt); have G2 := Lib.hid (grown_below (grown_drew (World.grownBy.refl w (some B))) HB2.out); refine (take_any B l a n _ R2.out hl hle).mono ?_; rintro e w3 ⟨rfl, hr3, hg3⟩; have R3 := Lib.hid hr3; have G3 := Lib.hid hg3; clear hr3 hg3))
  all_goals
    go_wp2
    go_ret2
    exact ⟨rfl, R3.out, grown_trans G2.out G3.out⟩

/-- What a value reads: the word, whether it is one, where it ends. -/
def valF (l : List UInt8) (a : Nat) : List UInt8 × Bool × Nat := ((l.drop a).take (wordL okVal l a), decide (0 < wordL okVal l a), a + wordL okVal l a)
def anyF (l : List UInt8) (a : Nat) : List UInt8 × Bool × Nat := if signL l a 42 = true then ([42], true, a + 1) else valF l a

set_option maxHeartbeats 1000000 in
theorem value_is (B : Nat) (l : List UInt8) (a n : Nat) (w : World) (h : RdAt w B l a) (hl : l.length ≤ 140737488355328) (ha : a ≤ l.length) (hn : wordL okVal l a = n) :
    Calls Try.prog 32 #[.pointer (some ⟨B, 0, none⟩)] w fun e w' => e = .returned (.tuple #[strV ((l.drop a).take n), .bool (decide (0 < n))]) ∧ RdAt w' B l (a + n) ∧ w.grownBy w' (some B) := by
  have c0 := h.c0
  have c1 := h.c1
  have hlt := h.lt
  have H := Lib.hid h
  have hle := word_le okVal l a ha
  rw [hn] at hle
  have K : Hid (∀ w, Calls Try.prog 65 #[.string ((⟨l.toArray⟩ : ByteArray).extract a l.length)] w fun e w' => e = .returned (.int .i64 (n : Int)) ∧ Below w.heap.size w w') := by
    show ∀ _, _
    intro w
    rw [cut_end, ← hn]
    exact valueLen_any (l.drop a) w (by rw [List.length_drop]; omega)
  clear h hn
  go_enter Try.func32, Try.ntmps32
  go_wp2
  go_region_with (first
    | (go_at_call 65; refine (K.out _).mono ?_; rintro e w2 ⟨rfl, hb2⟩; have HB2 := Lib.hid hb2; clear hb2)
    | (go_at_call 64; have R2 := Lib.hid (Blk.below (w := w.drew) H.out HB2.out hlt); have G2 := Lib.hid (grown_below (grown_drew (World.grownBy.refl w (some B))) HB2.out); refine (take_any B l a n _ R2.out hl hle).mono ?_; rintro e w3 ⟨rfl, hr3, hg3⟩; have R3 := Lib.hid hr3; have G3 := Lib.hid hg3; clear hr3 hg3))
  all_goals
    go_wp2
    go_ret2
    exact ⟨rfl, R3.out, grown_trans G2.out G3.out⟩

/-- What reading a value's make leaves. -/
def Reads (w : World) (B : Nat) (l : List UInt8) (x : List UInt8 × Bool × Nat) (e : Ending) (w' : World) : Prop :=
  e = .returned (.tuple #[strV x.1, .bool x.2.1]) ∧ RdAt w' B l x.2.2 ∧ w.grownBy w' (some B)

theorem value_any (B : Nat) (l : List UInt8) (a : Nat) (w : World) (h : RdAt w B l a) (hl : l.length ≤ 140737488355328) (ha : a ≤ l.length) :
    Calls Try.prog 32 #[.pointer (some ⟨B, 0, none⟩)] w (Reads w B l (valF l a)) :=
  value_is B l a _ w h hl ha rfl

set_option maxHeartbeats 400000 in
theorem valueOrAny_any (B : Nat) (l : List UInt8) (a : Nat) (w : World) (h : RdAt w B l a) (hl : l.length ≤ 140737488355328) (ha : a ≤ l.length) :
    Calls Try.prog 36 #[.pointer (some ⟨B, 0, none⟩)] w (Reads w B l (anyF l a)) := by
  have H := Lib.hid h
  clear h
  cases hs : signL l a 42
  · have e : anyF l a = valF l a := by unfold anyF; rw [hs]; rfl
    have K := Lib.hid (sign_no B l a 42 w H.out hl ha hs)
    rw [e]
    clear e hs
    go_enter Try.func36, Try.ntmps36
    go_wp2_with fail
    refine K.out.mono ?_
    rintro e w1 ⟨rfl, hr, hg⟩
    have R1 := Lib.hid hr
    have G1 := Lib.hid hg
    clear hr hg
    go_wp2_with fail
    refine (value_any B l a _ R1.out hl ha).mono ?_
    rintro e w2 ⟨rfl, hr, hg⟩
    have R2 := Lib.hid hr
    have G2 := Lib.hid hg
    clear hr hg
    go_wp2
    go_ret2
    exact ⟨rfl, R2.out, grown_trans G1.out G2.out⟩
  · have e : anyF l a = ([42], true, a + 1) := by unfold anyF; rw [hs]; rfl
    have K := Lib.hid (sign_yes B l a 42 w H.out hl ha hs)
    rw [e]
    clear e hs
    go_enter Try.func36, Try.ntmps36
    go_wp2_with fail
    refine K.out.mono ?_
    rintro e w1 ⟨rfl, hr, hg⟩
    have R1 := Lib.hid hr
    have G1 := Lib.hid hg
    clear hr hg
    go_wp2
    go_ret2
    exact ⟨rfl, R1.out, G1.out⟩

end Go.Proofs.Yteclbkjonaildaa
