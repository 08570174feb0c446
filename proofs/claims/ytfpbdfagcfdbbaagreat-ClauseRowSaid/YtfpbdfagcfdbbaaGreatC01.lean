/- Words that the proofs of layer 3 share: what stays of memory; strings as lists of bytes; names of the library's. No conditions. How many bytes at a text's beginning are a name's, or a value's: as a plain function. No conditions but a text that can lie in memory. What the reader of layer 3 does: a sign, a name, a value, each by what it answers and where the reader stands then. Condition: the reader lies in memory. What a label, and a term, reads, and what it answers: as plain functions. Condition: the reader lies in memory. What a term reads, and the functions that readList is handed. Condition: the reader lies in memory. The orders of labels, of what is borne, of terms, as plain functions; what a list owns. No conditions. The library's strings.Builder at this program: its copy check, WriteByte and WriteString: what is written stands behind what stood there. Condition: the builder is the call's own, and its bytes can lie in memory. What the printers' own functions answer; a slice that holds a list; a list's text. No conditions. What Check, CheckBears and CheckTerms answer, as plain functions. Condition: the lists lie in memory. What check answers of a list, whatever each of it, and each two, are asked. Conditions: what it is handed answers so, and leaves what was there as it was. What check answers of a list, whatever each of it, and each two, are asked. Conditions: what it is handed answers so, and leaves what was there as it was. What Check, CheckBears and CheckTerms answer. Condition: the lists lie in memory. What Check, CheckBears and CheckTerms answer, of lists of any length. Condition: the lists lie in memory. Words that the proofs of this seat share: what a row of numbers in memory is, what a block is, and what the checked sums come to in plain numbers. No conditions. -/
import Derived.Test.YtfpbdfagcfdbbaaGreatChecked
import Derived.WalkKit
import Derived.Below
import Derived.Outline
import Derived.Lib.Hide
import Derived.Lib.OthersKept
import Derived.Deep.DeepFit
import Derived.BigQuiet
import Derived.Deep.QuietTactic
import Derived.Deep.Draws
import Derived.Laws.Rows
import Derived.Laws.OwnMore
import Derived.IntWalk
import Derived.WalkSpells
import Derived.WalkLawsBesides
import Derived.Laws.CopyOwn
import Derived.Test.YtfpbdfagcfdbbaaGreatShelf
import Derived.Deep.RegionHeld3
import Derived.Lib.IndexBytes
import Derived.Deep.RegionWith
import Derived.Deep.DeepCutAuto
import Derived.Lib.Builder
import Derived.Lib.UnsafeStr

namespace Go.Proofs.YtfpbdfagcfdbbaaGreat
open Go.RowKit

theorem grown_trans {a b c : World} {row : Option Nat} (h : a.grownBy b row) (k : b.grownBy c row) : a.grownBy c row :=
  ⟨k.os.trans h.os, k.tape.trans h.tape, k.output.trans h.output, Nat.le_trans h.size k.size, fun i hi hne => (k.block i (Nat.lt_of_lt_of_le hi h.size) hne).trans (h.block i hi hne)⟩
theorem grown_drew {a w : World} {row : Option Nat} (h : a.grownBy w row) : a.grownBy w.drew row := ⟨h.os, h.tape, h.output, h.size, h.block⟩
theorem grown_drewN {a w : World} {row : Option Nat} (h : a.grownBy w row) (n : Nat) : a.grownBy (w.drewN n) row := ⟨h.os, h.tape, h.output, h.size, h.block⟩
theorem grown_below {a w w' : World} {row : Option Nat} (h : a.grownBy w row) (hb : Below w.heap.size w w') : a.grownBy w' row :=
  ⟨hb.os.trans h.os, hb.tape.trans h.tape, hb.output.trans h.output, Nat.le_trans h.size hb.size, fun i hi hne => (hb.block i (Nat.lt_of_lt_of_le hi h.size)).trans (h.block i hi hne)⟩
theorem grown_of_below {w w' : World} (h : Below w.heap.size w w') (row : Option Nat) : w.grownBy w' row := grown_below (World.grownBy.refl w row) h
theorem grown_alloc {a w : World} {row : Option Nat} (h : a.grownBy w row) (o : Obj) : a.grownBy (w.alloc o) row := grown_trans h (World.grownBy_alloc w o row)
/-- One more store into the block that may turn. -/
theorem grown_set {a w : World} {g : Nat} (h : a.grownBy w (some g)) (i : Nat) (u : Value) : a.grownBy (w.setCell ⟨g, i, none⟩ u) (some g) :=
  ⟨h.os, h.tape, h.output, by simpa [World.setCell] using h.size, fun j hj hne => (Below.heap_setCell w ⟨g, i, none⟩ u j (fun e => hne (by rw [e]))).trans (h.block j hj hne)⟩
/-- One more store into a new block. -/
theorem grown_set_new {a w : World} {row : Option Nat} (h : a.grownBy w row) {g : Nat} (hg : a.heap.size ≤ g) (i : Nat) (u : Value) : a.grownBy (w.setCell ⟨g, i, none⟩ u) row :=
  ⟨h.os, h.tape, h.output, by simpa [World.setCell] using h.size, fun j hj hne => (Below.heap_setCell w ⟨g, i, none⟩ u j (fun e => by simp at e; omega)).trans (h.block j hj hne)⟩
theorem belowN {B : Nat} {a w : World} (h : Below B a w) (n : Nat) : Below B a (w.drewN n) := ⟨h.os, h.tape, h.output, h.size, h.block⟩
theorem below1 (w : World) (o : Obj) : Below w.heap.size w (w.alloc o) := (Below.refl _ _).alloc (Nat.le_refl _) _

/-- A text's value. -/
abbrev strV (l : List UInt8) : Value := .string ⟨l.toArray⟩

/-- A block with these cells. -/
def Blk (w : World) (b : Nat) (cs : Array Value) (t : TypeId) : Prop := w.heap[b]? = some (.cells cs t (0, 0))
section
variable {w w' : World} {b : Nat} {cs : Array Value} {t : TypeId}
theorem Blk.lt (h : Blk w b cs t) : b < w.heap.size := (Array.getElem?_eq_some_iff.1 h).1
theorem Blk.cell (h : Blk w b cs t) (i : Nat) : w.cell? ⟨b, i, none⟩ = cs[i]? := by
  unfold Blk at h
  simp [World.cell?, h]
theorem Blk.free (h : Blk w b cs t) (i : Nat) : w.frozen? ⟨b, i, none⟩ = false := by
  unfold Blk at h
  simp [World.frozen?, h]
theorem Blk.kept {row : Option Nat} (h : Blk w b cs t) (hg : w.grownBy w' row) (hne : some b ≠ row) : Blk w' b cs t := (hg.block b h.lt hne).trans h
theorem Blk.below {B : Nat} (h : Blk w b cs t) (hb : Below B w w') (hB : b < B) : Blk w' b cs t := (hb.block b hB).trans h
theorem Blk.alloc (h : Blk w b cs t) (o : Obj) : Blk (w.alloc o) b cs t := (Below.heap_alloc w o b h.lt).trans h
theorem Blk.new (w : World) (cs : Array Value) (t : TypeId) : Blk (w.alloc (.cells cs t)) w.heap.size cs t := heap_alloc_new _ _
theorem Blk.drew (h : Blk w b cs t) : Blk w.drew b cs t := h
theorem Blk.drewN (h : Blk w b cs t) (n : Nat) : Blk (w.drewN n) b cs t := h
theorem Blk.other (h : Blk w b cs t) (a : Addr) (v : Value) (hne : b ≠ a.block) : Blk (w.setCell a v) b cs t := (Below.heap_setCell w a v b hne).trans h
theorem Blk.oth (h : Blk w b cs t) {g : Nat} (hne : b ≠ g) (i : Nat) (v : Value) : Blk (w.setCell ⟨g, i, none⟩ v) b cs t := Blk.other h _ v hne
theorem Blk.set (h : Blk w b cs t) (i : Nat) (v : Value) : Blk (w.setCell ⟨b, i, none⟩ v) b (cs.setIfInBounds i v) t := by
  unfold Blk at h ⊢
  rw [heap_setCell_same w b i _ _ _ h]
theorem Blk.put (h : Blk w b cs t) (ds : Array Value) : Blk (w.setRow b ds) b ds t := setRow_heap w b _ _ _ _ h
end

end Go.Proofs.YtfpbdfagcfdbbaaGreat

namespace Go.Proofs.YtfpbdfagcfdbbaaGreat.La
open Go.RowKit

def letB (n : Nat) : Bool := decide (97 ≤ n ∧ n ≤ 122)
def digB (n : Nat) : Bool := decide (48 ≤ n ∧ n ≤ 57 ∨ n = 45)
def okName (k n : Nat) : Bool := letB n || (decide (0 < k) && digB n)
def okVal (_ n : Nat) : Bool := letB n || digB n
/-- What goes on from a text's beginning, 15 bytes at most. -/
def spanF (ok : Nat → Nat → Bool) : List UInt8 → Nat → Nat
  | [], a => a
  | b :: t, a => if a = 15 ∨ ok a b.toNat = false then a else spanF ok t (a + 1)

theorem letB_high {n : Nat} (h : 128 ≤ n) : letB n = false := by unfold letB; simp; omega
theorem digB_high {n : Nat} (h : 128 ≤ n) : digB n = false := by unfold digB; simp; omega
theorem okName_high (k n : Nat) (h : 128 ≤ n) : okName k n = false := by simp [okName, letB_high h, digB_high h]
theorem okVal_high (k n : Nat) (h : 128 ≤ n) : okVal k n = false := by simp [okVal, letB_high h, digB_high h]

theorem retB {a b : Bool} (h : a = b) : Ending.returned (.bool a) = .returned (.bool b) := by rw [h]
theorem retI {k : IntKind} {a b : Int} (h : a = b) : Ending.returned (.int k a) = .returned (.int k b) := by rw [h]

theorem letter_any (c : Nat) (w : World) :
    Calls Tryz.prog 193 #[.int .i32 (c : Int)] w fun e w' => e = .returned (.bool (letB c)) ∧ w = w' := by
  go_enter Tryz.func193, Tryz.ntmps193
  go_wp2
  all_goals
    go_ret
    refine ⟨retB ?_, rfl⟩
    unfold letB
    rw [Bool.eq_iff_iff]
    simp
    try omega

theorem digit_any (c : Nat) (w : World) :
    Calls Tryz.prog 194 #[.int .i32 (c : Int)] w fun e w' => e = .returned (.bool (digB c)) ∧ w = w' := by
  go_enter Tryz.func194, Tryz.ntmps194
  go_wp2
  all_goals
    go_ret
    refine ⟨retB ?_, rfl⟩
    unfold digB
    rw [Bool.eq_iff_iff]
    simp
    try omega

theorem name1_any (k c : Nat) (w : World) :
    Calls Tryz.prog 192 #[.int .i64 (k : Int), .int .i32 (c : Int)] w fun e w' => e = .returned (.bool (okName k c)) ∧ w = w' := by
  go_enter Tryz.func192, Tryz.ntmps192
  go_wp2_with (first | (go_at_call 193; refine (letter_any _ _).mono ?_; rintro e w' ⟨rfl, rfl⟩) | (go_at_call 194; refine (digit_any _ _).mono ?_; rintro e w' ⟨rfl, rfl⟩))
  all_goals
    go_ret
    refine ⟨retB ?_, rfl⟩
    unfold okName
    simp_all
    try omega

theorem value1_any (k c : Nat) (w : World) :
    Calls Tryz.prog 202 #[.int .i64 (k : Int), .int .i32 (c : Int)] w fun e w' => e = .returned (.bool (okVal k c)) ∧ w = w' := by
  go_enter Tryz.func202, Tryz.ntmps202
  go_wp2_with (first | (go_at_call 193; refine (letter_any _ _).mono ?_; rintro e w' ⟨rfl, rfl⟩) | (go_at_call 194; refine (digit_any _ _).mono ?_; rintro e w' ⟨rfl, rfl⟩))
  all_goals
    go_ret
    refine ⟨retB ?_, rfl⟩
    unfold okVal
    simp_all

set_option maxHeartbeats 1000000 in
theorem len_any (ok : Nat → Nat → Bool) (g : FuncId) (l : List UInt8) (w : World) (hl : l.length ≤ 9223372036854775807) (hhi : ∀ k c, 128 ≤ c → ok k c = false)
    (henter : ∀ (args : Array Value) (w : World), (callFunc g args).run Tryz.prog w = .ok (.enter g args) w)
    (hcl : ∀ (k c : Nat) (w : World), Calls Tryz.prog g #[.int .i64 (k : Int), .int .i32 (c : Int)] w fun e w' => e = .returned (.bool (ok k c)) ∧ w = w') :
    Calls Tryz.prog 191 #[strV l, .func (Fn.func g) #[] #[]] w fun e w' => e = .returned (.int .i64 (spanF ok l 0 : Int)) ∧ Below w.heap.size w w' := by
  have Hhi := Lib.hid hhi
  have Hcl := Lib.hid hcl
  clear hhi hcl
  go_enter Tryz.func191, Tryz.ntmps191
  go_wp2
  go_loopw [] (fun wr => ∃ (pos : Nat), wr.heap[w.heap.size]? = some (.stringIter ⟨l.toArray⟩ pos) ∧ Below w.heap.size w wr ∧ pos ≤ l.length ∧ spanF ok (l.drop pos) pos = spanF ok l 0) (fun wr => l.length - wr.iterPos w.heap.size)
  case atStart => exact ⟨0, by simpa using World.iter_heap w ⟨l.toArray⟩ 0, below1 _ _, by omega, rfl⟩
  case round =>
    obtain ⟨pos, hit, hbw, hpl, hsp⟩ := hrel
    have hsz : w.heap.size < wr.heap.size := (Array.getElem?_eq_some_iff.1 hit).1
    have Hsp := Lib.hid hsp
    have Hbw := Lib.hid hbw
    clear hsp hbw
    by_cases hp : pos < l.length
    · have hp' : pos < (⟨l.toArray⟩ : ByteArray).size := hp
      have hnx : ∀ ty, (Instr.next (.pointer (some ⟨w.heap.size, 0, none⟩)) true ty).run Tryz.prog wr = _ := fun ty => Lib.run_next_any_at wr w.heap.size ⟨l.toArray⟩ pos ty hit hp'
      have hd : l.drop pos = l[pos] :: l.drop (pos + 1) := List.drop_eq_getElem_cons hp
      have Hstep : Hid (spanF ok (l.drop pos) pos = if pos = 15 ∨ ok pos (l[pos]).toNat = false then pos else spanF ok (l.drop (pos + 1)) (pos + 1)) := by
        show spanF ok (l.drop pos) pos = _
        rw [hd, spanF]
      have Hok : Hid (ok pos (Utf8.decode ⟨l.toArray⟩ pos).1 = ok pos (l[pos]).toNat ∧ (ok pos (l[pos]).toNat = true → (Utf8.decode ⟨l.toArray⟩ pos).2 = 1)) := by
        show _ ∧ _
        have e : ((⟨l.toArray⟩ : ByteArray)[pos]'hp') = l[pos] := rfl
        by_cases ha : (l[pos]).toNat < 128
        · rw [decode_ascii ⟨l.toArray⟩ pos hp' (by rw [e]; exact ha), e]
          exact ⟨rfl, fun _ => rfl⟩
        · have := (decode_high ⟨l.toArray⟩ pos hp' (by rw [e]; omega)).1
          rw [Hhi.out pos _ this, Hhi.out pos _ (by omega)]
          exact ⟨rfl, fun h => by cases h⟩
      have hd1 := decode_le ⟨l.toArray⟩ pos
      clear hd
      generalize hq : Utf8.decode ⟨l.toArray⟩ pos = q at hnx hd1 Hok
      clear hq
      obtain ⟨c, wd⟩ := q
      simp only at hnx hd1 Hok
      have hit1 := Lib.iterAt_heap wr w.heap.size ⟨l.toArray⟩ pos (pos + wd) hit
      have hb1 := Lib.below_iterAt Hbw.out (k := w.heap.size) (Nat.le_refl _) ⟨l.toArray⟩ (pos + wd)
      have Hit1 := Lib.hid hit1
      have Hb1 := Lib.hid hb1
      have Hit := Lib.hid hit
      clear hit1 hb1 hit
      by_cases h15 : pos = 15
      · have hb : ((pos : Int) == 15) = true := by simp; omega
        have Hr : Hid (spanF ok l 0 = pos) := by
          show spanF ok l 0 = pos
          rw [← Hsp.out, Hstep.out, if_pos (.inl h15)]
        have H15 := Lib.hid h15
        clear h15
        go_wp2
        go_ret
        exact ⟨by rw [Hr.out]; rfl, Hb1.out⟩
      · have hb : ((pos : Int) == 15) = false := by simp; omega
        have H15 := Lib.hid h15
        clear h15
        cases ho : ok pos (l[pos]).toNat
        · have Hr : Hid (spanF ok l 0 = pos) := by
            show spanF ok l 0 = pos
            rw [← Hsp.out, Hstep.out, if_pos (.inr ho)]
          have Ho := Lib.hid ho
          clear ho
          go_wp2_with fail
          have kc := Hcl.out pos c (wr.iterAt w.heap.size ⟨l.toArray⟩ (pos + wd))
          rw [Hok.out.1, Ho.out] at kc
          refine kc.mono ?_
          rintro e w1 ⟨rfl, rfl⟩
          clear kc
          go_wp2
          go_ret
          exact ⟨by rw [Hr.out]; rfl, Hb1.out⟩
        · obtain rfl : wd = 1 := Hok.out.2 ho
          have Ho := Lib.hid ho
          clear ho
          go_wp2_with fail
          have kc := Hcl.out pos c (wr.iterAt w.heap.size ⟨l.toArray⟩ (pos + 1))
          rw [Hok.out.1, Ho.out] at kc
          refine kc.mono ?_
          rintro e w1 ⟨rfl, rfl⟩
          clear kc
          go_wp2
          go_roundw
          case rel => exact ⟨pos + 1, Hit1.out, Hb1.out, by omega, by rw [← Hsp.out, Hstep.out, if_neg (by rw [Ho.out]; simp; exact H15.out)]⟩
          case measure =>
            simp only [World.iterPos, Hit1.out, Hit.out]
            omega
    · have hnx : ∀ ty, (Instr.next (.pointer (some ⟨w.heap.size, 0, none⟩)) true ty).run Tryz.prog wr = _ := fun ty => Lib.run_next_end_at wr w.heap.size ⟨l.toArray⟩ pos ty hit hp
      have Hr : Hid (spanF ok l 0 = l.length) := by
        show spanF ok l 0 = l.length
        rw [← Hsp.out, List.drop_eq_nil_of_le (by omega), spanF]
        omega
      have Hit := Lib.hid hit
      clear hit
      go_wp2
      go_ret
      exact ⟨by rw [Hr.out]; rfl, Hbw.out⟩

set_option maxHeartbeats 400000 in
theorem nameLen_any (l : List UInt8) (w : World) (hl : l.length ≤ 9223372036854775807) :
    Calls Tryz.prog 163 #[strV l] w fun e w' => e = .returned (.int .i64 (spanF okName l 0 : Int)) ∧ Below w.heap.size w w' := by
  have K := Lib.hid (len_any okName 192 l w hl okName_high (fun _ _ => by kernel_rfl) name1_any)
  go_enter Tryz.func163, Tryz.ntmps163
  go_wp2_with fail
  refine K.out.mono ?_
  rintro e w1 ⟨rfl, hb⟩
  have HB := Lib.hid hb
  clear hb
  go_wp2
  go_ret
  exact ⟨rfl, HB.out⟩

set_option maxHeartbeats 400000 in
theorem valueLen_any (l : List UInt8) (w : World) (hl : l.length ≤ 9223372036854775807) :
    Calls Tryz.prog 195 #[strV l] w fun e w' => e = .returned (.int .i64 (spanF okVal l 0 : Int)) ∧ Below w.heap.size w w' := by
  have K := Lib.hid (len_any okVal 202 l w hl okVal_high (fun _ _ => by kernel_rfl) value1_any)
  go_enter Tryz.func195, Tryz.ntmps195
  go_wp2_with fail
  refine K.out.mono ?_
  rintro e w1 ⟨rfl, hb⟩
  have HB := Lib.hid hb
  clear hb
  go_wp2
  go_ret
  exact ⟨rfl, HB.out⟩

end Go.Proofs.YtfpbdfagcfdbbaaGreat.La

namespace Go.Proofs.YtfpbdfagcfdbbaaGreat.La
open Go.RowKit

section
variable {w w' : World} {B a : Nat} {l : List UInt8}
end

theorem cut_eq (l : List UInt8) (a b : Nat) : (⟨l.toArray⟩ : ByteArray).extract a b = ⟨((l.drop a).take (b - a)).toArray⟩ := by
  apply ByteArray.ext
  apply Array.toList_inj.1
  have := Lib.extract_data (⟨l.toArray⟩ : ByteArray) a b
  exact this
theorem cut_end (l : List UInt8) (a : Nat) : (⟨l.toArray⟩ : ByteArray).extract a l.length = ⟨(l.drop a).toArray⟩ := by
  rw [cut_eq, List.take_of_length_le (by simp)]

/-- Does this sign stand there? -/
def signL (l : List UInt8) (a : Nat) (c : UInt8) : Bool := decide (l[a]? = some c)
theorem sign_prefix (l : List UInt8) (a : Nat) (c : UInt8) : Lib.hasPrefix (l.drop a) [c] = signL l a c := by
  unfold Lib.hasPrefix signL
  rw [Bool.eq_iff_iff]
  rcases Nat.lt_or_ge a l.length with h | h
  · rw [List.drop_eq_getElem_cons h, List.getElem?_eq_getElem h]
    simp [List.isPrefixOf]
    exact eq_comm
  · rw [List.drop_eq_nil_of_le h, List.getElem?_eq_none h]
    simp [List.isPrefixOf]
theorem clone_at (l : List UInt8) (a n : Nat) (w : World) (hl : l.length ≤ 140737488355328) :
    Calls Tryz.prog 181 #[.string ((⟨l.toArray⟩ : ByteArray).extract a (a + n))] w fun e w' => e = .returned (strV ((l.drop a).take n)) ∧ Below w.heap.size w w' := by
  have hs : (⟨((l.drop a).take n).toArray⟩ : ByteArray).size ≤ 281474976710656 := by
    show ((l.drop a).take n).length ≤ _
    rw [List.length_take, List.length_drop]
    omega
  have K := Lib.hid (fun w => Tryz.stringslite_Clone ⟨((l.drop a).take n).toArray⟩ w hs)
  rw [cut_eq, Nat.add_sub_cancel_left]
  clear hs
  go_enter Tryz.func181, Tryz.ntmps181
  go_wp2_with fail
  refine (K.out _).mono ?_
  rintro e w1 ⟨rfl, hb⟩
  have HB := Lib.hid hb
  clear hb
  go_wp2
  go_ret
  exact ⟨rfl, HB.out⟩

/-- A word: what goes on, and where it ends. -/
def wordL (ok : Nat → Nat → Bool) (l : List UInt8) (a : Nat) : Nat := spanF ok (l.drop a) 0

theorem span_le (ok : Nat → Nat → Bool) : ∀ (l : List UInt8) (a : Nat), a ≤ spanF ok l a ∧ spanF ok l a ≤ a + l.length
  | [], a => ⟨Nat.le_refl _, Nat.le_refl _⟩
  | b :: t, a => by
    rw [spanF]
    split
    · exact ⟨Nat.le_refl _, Nat.le_add_right _ _⟩
    · have := span_le ok t (a + 1)
      simp only [List.length_cons]
      omega
theorem word_le (ok : Nat → Nat → Bool) (l : List UInt8) (a : Nat) (h : a ≤ l.length) : a + wordL ok l a ≤ l.length := by
  have := (span_le ok (l.drop a) 0).2
  rw [List.length_drop] at this
  unfold wordL
  omega

/-- What a value reads: the word, whether it is one, where it ends. -/
def valF (l : List UInt8) (a : Nat) : List UInt8 × Bool × Nat := ((l.drop a).take (wordL okVal l a), decide (0 < wordL okVal l a), a + wordL okVal l a)
def anyF (l : List UInt8) (a : Nat) : List UInt8 × Bool × Nat := if signL l a 42 = true then ([42], true, a + 1) else valF l a

end Go.Proofs.YtfpbdfagcfdbbaaGreat.La

namespace Go.Proofs.YtfpbdfagcfdbbaaGreat.La
open Go.RowKit

/-- A row and a word are handed back. -/
theorem results_row2 {P : Program} {fn : Func} {p s : Tmp} {ty : TypeId} (h : fn.results = #[.cell p ty, .tmp s]) (tmps : Array Value) (w : World) (g : Nat) (t : TypeId) (cs : Array Value) (fr : Nat × Nat) (d : TypeDesc) (v : Value)
    (hp : tmps.getD p undef = .pointer (some ⟨g, 0, none⟩)) (hs : tmps.getD s undef = v) (hg : w.heap[g]? = some (.cells cs t fr))
    (hu : P.underlying ty = some d) (hd : (match d with | .struct _ | .array _ _ => true | _ => false) = true) (hi : (P.info? ty).map (·.size) = some cs.size) :
    (results fn tmps).run P w = .ok (.tuple #[.agg cs, v]) w := by
  have hp' : tmps[p]?.getD undef = .pointer (some ⟨g, 0, none⟩) := by simpa using hp
  have hs' : tmps[s]?.getD undef = v := by simpa using hs
  simp [results, h, hp', hs', asAddr, run_loadVar_row w g t ty cs fr d hg hu hd hi]
theorem bodyPost_row2 {P : Program} {fn : Func} {p s : Tmp} {ty : TypeId} {R : Ending → World → Prop} {a : Act} {w : World} (h : fn.results = #[.cell p ty, .tmp s]) (g : Nat) (t : TypeId) (cs : Array Value) (fr : Nat × Nat) (d : TypeDesc) (v : Value)
    (hd0 : a.defers = []) (hp : a.tmps.getD p undef = .pointer (some ⟨g, 0, none⟩)) (hs : a.tmps.getD s undef = v) (hg : w.heap[g]? = some (.cells cs t fr))
    (hu : P.underlying ty = some d) (hd : (match d with | .struct _ | .array _ _ => true | _ => false) = true) (hi : (P.info? ty).map (·.size) = some cs.size)
    (hR : R (.returned (.tuple #[.agg cs, v])) w) : bodyPost P fn R .ret a w :=
  bodyPost_ret (results_row2 h a.tmps w g t cs fr d v hp hs hg hu hd hi) hd0 hR

theorem label_size : (Tryz.prog.info? 57).map (·.size) = some 2 := by kernel_rfl
theorem term_size : (Tryz.prog.info? 64).map (·.size) = some 3 := by kernel_rfl

/-- A label's value. -/
abbrev labV (x : List UInt8 × List UInt8) : Value := .agg #[strV x.1, strV x.2]
/-- A term's value: its kind, its key, its value. -/
abbrev terV (x : Int × List UInt8 × List UInt8) : Value := .agg #[.int .i64 x.1, strV x.2.1, strV x.2.2]

/-- What a label reads: it, whether it is one, where it ends. -/
def labF (vf : List UInt8 → Nat → List UInt8 × Bool × Nat) (l : List UInt8) (a : Nat) : (List UInt8 × List UInt8) × Bool × Nat :=
  let n := wordL okName l a
  if n = 0 then (([], []), false, a) else if signL l (a + n) 61 = false then (([], []), false, a + n) else
  (((l.drop a).take n, (vf l (a + n + 1)).1), (vf l (a + n + 1)).2)

theorem sign_lt {l : List UInt8} {a : Nat} {c : UInt8} (h : signL l a c = true) : a + 1 ≤ l.length := by
  unfold signL at h
  have := of_decide_eq_true h
  have := (List.getElem?_eq_some_iff.1 this).1
  omega

/-- What stands behind a term's key: its kind, whether it may be, where it ends. -/
def relF (l : List UInt8) (a : Nat) : Int × Bool × Nat :=
  if signL l a 61 = true then (1, true, a + 1) else if signL l a 33 = true then (if signL l (a + 1) 61 = true then (2, true, a + 2) else (2, false, a + 1)) else (3, true, a)

theorem relF_cases (l : List UInt8) (a : Nat) (_ha : a ≤ l.length) : relF l a = (3, true, a) ∨ (∃ b, relF l a = (2, false, b) ∧ b ≤ l.length) ∨ (∃ k b, relF l a = (k, true, b) ∧ (k = 1 ∨ k = 2) ∧ b ≤ l.length) := by
  unfold relF
  by_cases h1 : signL l a 61 = true
  · rw [if_pos h1]
    exact .inr (.inr ⟨1, a + 1, rfl, .inl rfl, sign_lt h1⟩)
  · rw [if_neg h1]
    by_cases h2 : signL l a 33 = true
    · rw [if_pos h2]
      by_cases h3 : signL l (a + 1) 61 = true
      · rw [if_pos h3]
        exact .inr (.inr ⟨2, a + 2, rfl, .inr rfl, sign_lt h3⟩)
      · rw [if_neg h3]
        exact .inr (.inl ⟨a + 1, rfl, sign_lt h2⟩)
    · rw [if_neg h2]
      exact .inl rfl

/-- What a term reads: it, whether it is one, where it ends. -/
def terF (l : List UInt8) (a : Nat) : (Int × List UInt8 × List UInt8) × Bool × Nat :=
  if signL l a 33 = true then ((4, (l.drop (a + 1)).take (wordL okName l (a + 1)), []), decide (0 < wordL okName l (a + 1)), a + 1 + wordL okName l (a + 1)) else
  let n := wordL okName l a
  if n = 0 then ((0, [], []), false, a) else
  match relF l (a + n) with
  | (k, is, b) => if is = true ∧ k ≠ 3 then ((k, (l.drop a).take n, (valF l b).1), (valF l b).2) else ((k, (l.drop a).take n, []), is, b)

end Go.Proofs.YtfpbdfagcfdbbaaGreat.La

namespace Go.Proofs.YtfpbdfagcfdbbaaGreat.La
open Go.RowKit

theorem Blk.c3 {w : World} {b : Nat} {x y z : Value} {t : TypeId} (h : Blk w b #[x, y, z] t) : w.cell? ⟨b, 0, none⟩ = some x ∧ w.cell? ⟨b, 1, none⟩ = some y ∧ w.cell? ⟨b, 2, none⟩ = some z ∧ w.frozen? ⟨b, 0, none⟩ = false ∧ w.frozen? ⟨b, 1, none⟩ = false ∧ w.frozen? ⟨b, 2, none⟩ = false :=
  ⟨Blk.cell h 0, Blk.cell h 1, Blk.cell h 2, Blk.free h 0, Blk.free h 1, Blk.free h 2⟩
theorem Blk.c2 {w : World} {b : Nat} {x y : Value} {t : TypeId} (h : Blk w b #[x, y] t) : w.cell? ⟨b, 0, none⟩ = some x ∧ w.cell? ⟨b, 1, none⟩ = some y ∧ w.frozen? ⟨b, 0, none⟩ = false ∧ w.frozen? ⟨b, 1, none⟩ = false :=
  ⟨Blk.cell h 0, Blk.cell h 1, Blk.free h 0, Blk.free h 1⟩
/-- A row is stored over a row of its own block. -/
theorem Blk.set2 {w : World} {b : Nat} {x y : Value} {t : TypeId} (h : Blk w b #[x, y] t) (x' y' : Value) : Blk ((w.setCell ⟨b, 0, none⟩ x').setCell ⟨b, 1, none⟩ y') b #[x', y'] t := (h.set 0 x').set 1 y'
theorem Blk.set3 {w : World} {b : Nat} {x y z : Value} {t : TypeId} (h : Blk w b #[x, y, z] t) (x' y' z' : Value) : Blk (((w.setCell ⟨b, 0, none⟩ x').setCell ⟨b, 1, none⟩ y').setCell ⟨b, 2, none⟩ z') b #[x', y', z'] t := ((h.set 0 x').set 1 y').set 2 z'
theorem Blk.oth3 {w : World} {b : Nat} {cs : Array Value} {t : TypeId} (h : Blk w b cs t) {g : Nat} (hne : b ≠ g) (x' y' z' : Value) : Blk (((w.setCell ⟨g, 0, none⟩ x').setCell ⟨g, 1, none⟩ y').setCell ⟨g, 2, none⟩ z') b cs t := ((h.oth hne 0 x').oth hne 1 y').oth hne 2 z'
theorem grown_set3 {a w : World} {row : Option Nat} (h : a.grownBy w row) {g : Nat} (hg : a.heap.size ≤ g) (x' y' z' : Value) : a.grownBy (((w.setCell ⟨g, 0, none⟩ x').setCell ⟨g, 1, none⟩ y').setCell ⟨g, 2, none⟩ z') row := grown_set_new (grown_set_new (grown_set_new h hg _ _) hg _ _) hg _ _

abbrev zt : Array Value := #[.int .i64 0, .string ⟨#[]⟩, .string ⟨#[]⟩]

end Go.Proofs.YtfpbdfagcfdbbaaGreat.La

namespace Go.Proofs.YtfpbdfagcfdbbaaGreat.La
open Go.RowKit

def keyR (a b : List UInt8 × List UInt8) : Bool := Op.bytesLess a.1 b.1
def pairR (a b : List UInt8 × List UInt8) : Bool := Op.bytesLess a.1 b.1 || (decide (a.1 = b.1) && Op.bytesLess a.2 b.2)
def anyR (_ _ : Int × List UInt8 × List UInt8) : Bool := true

theorem keysRise_any (a b : List UInt8 × List UInt8) (w : World) :
    Calls Tryz.prog 167 #[labV a, labV b] w fun e w' => e = .returned (.bool (keyR a b)) ∧ Below w.heap.size w w' := by
  go_enter Tryz.func167, Tryz.ntmps167
  go_wp2
  go_ret
  exact ⟨rfl, ((Below.refl _ _).alloc (Nat.le_refl _) _).alloc (by simp) _⟩

theorem pairsRise_any (a b : List UInt8 × List UInt8) (w : World) :
    Calls Tryz.prog 172 #[labV a, labV b] w fun e w' => e = .returned (.bool (pairR a b)) ∧ Below w.heap.size w w' := by
  go_enter Tryz.func172, Tryz.ntmps172
  go_wp2
  all_goals
    go_ret
    refine ⟨retB ?_, ((Below.refl _ _).alloc (Nat.le_refl _) _).alloc (by simp) _⟩
    unfold pairR
    simp_all

theorem anyOrder_any (a b : Int × List UInt8 × List UInt8) (w : World) :
    Calls Tryz.prog 170 #[terV a, terV b] w fun e w' => e = .returned (.bool (anyR a b)) ∧ Below w.heap.size w w' := by
  go_enter Tryz.func170, Tryz.ntmps170
  go_wp2
  go_ret
  exact ⟨rfl, ((Below.refl _ _).alloc (Nat.le_refl _) _).alloc (by simp) _⟩

/-- The cells of a list of labels, of terms. -/
def cellsL (l : List (List UInt8 × List UInt8)) : List Value := l.flatMap fun x => [strV x.1, strV x.2]
def cellsT (l : List (Int × List UInt8 × List UInt8)) : List Value := l.flatMap fun x => [.int .i64 x.1, strV x.2.1, strV x.2.2]
theorem cellsL_len : ∀ l, (cellsL l).length = l.length * 2
  | [] => rfl
  | x :: t => by
    have := cellsL_len t
    simp only [cellsL, List.flatMap_cons, List.length_append, List.length_cons, List.length_nil] at this ⊢
    omega
theorem cellsT_len : ∀ l, (cellsT l).length = l.length * 3
  | [] => rfl
  | x :: t => by
    have := cellsT_len t
    simp only [cellsT, List.flatMap_cons, List.length_append, List.length_cons, List.length_nil] at this ⊢
    omega
theorem cellsL_snoc (l : List (List UInt8 × List UInt8)) (x : List UInt8 × List UInt8) : cellsL (l ++ [x]) = cellsL l ++ [strV x.1, strV x.2] := by simp [cellsL]
theorem cellsT_snoc (l : List (Int × List UInt8 × List UInt8)) (x : Int × List UInt8 × List UInt8) : cellsT (l ++ [x]) = cellsT l ++ [.int .i64 x.1, strV x.2.1, strV x.2.2] := by simp [cellsT]
theorem cellsL_at : ∀ (l : List (List UInt8 × List UInt8)) (k : Nat) (x : List UInt8 × List UInt8), l[k]? = some x → (cellsL l)[k * 2]? = some (strV x.1) ∧ (cellsL l)[k * 2 + 1]? = some (strV x.2)
  | [], k, x, h => by simp at h
  | y :: t, 0, x, h => by
    simp at h
    subst h
    exact ⟨rfl, rfl⟩
  | y :: t, k + 1, x, h => by
    have := cellsL_at t k x (by simpa using h)
    have e : cellsL (y :: t) = strV y.1 :: strV y.2 :: cellsL t := rfl
    rw [e, show (k + 1) * 2 = k * 2 + 1 + 1 by omega]
    simpa using this
theorem cellsT_at : ∀ (l : List (Int × List UInt8 × List UInt8)) (k : Nat) (x : Int × List UInt8 × List UInt8), l[k]? = some x → (cellsT l)[k * 3]? = some (.int .i64 x.1) ∧ (cellsT l)[k * 3 + 1]? = some (strV x.2.1) ∧ (cellsT l)[k * 3 + 2]? = some (strV x.2.2)
  | [], k, x, h => by simp at h
  | y :: t, 0, x, h => by
    simp at h
    subst h
    exact ⟨rfl, rfl, rfl⟩
  | y :: t, k + 1, x, h => by
    have := cellsT_at t k x (by simpa using h)
    have e : cellsT (y :: t) = .int .i64 y.1 :: strV y.2.1 :: strV y.2.2 :: cellsT t := rfl
    rw [e, show (k + 1) * 3 = k * 3 + 1 + 1 + 1 by omega]
    simpa using this

/-- A slice at A holds these cells. -/
def SlAt (w : World) (A : Option Addr) (xs : List Value) : Prop := ∀ j y, xs[j]? = some y → ∃ b o, A = some ⟨b, o, none⟩ ∧ w.cell? ⟨b, o + j, none⟩ = some y

/-- What a list that the call owns holds. -/
theorem own_cells {w : World} {base : Nat} {e : TypeId} {size : Nat} {v : Value} {n : Nat} {xs : List Value} (h : w.ownsRow base e size v n xs) (hn : 0 < n) :
    ∃ g cap, v = .slice (some ⟨g, 0, none⟩) n cap ∧ base ≤ g ∧ g < w.heap.size ∧ n ≤ cap ∧ cap ≤ maxLen ∧ ∀ j y, xs[j]? = some y → w.cell? ⟨g, j, none⟩ = some y := by
  rcases h.2 with ⟨rfl, h0⟩ | ⟨g, cap, cur, rfl, hb, hg, h1, h2, h3, h4⟩
  · omega
  · refine ⟨g, cap, rfl, hb, (Array.getElem?_eq_some_iff.1 hg).1, h1, h2, fun j y hj => ?_⟩
    rw [cell_of_row w g j _ _ _ hg]
    rw [← h4] at hj
    rw [List.getElem?_take] at hj
    split at hj
    · rwa [Array.getElem?_toList] at hj
    · cases hj
theorem own_slice {w : World} {base : Nat} {e : TypeId} {size : Nat} {v : Value} {n : Nat} {xs : List Value} (h : w.ownsRow base e size v n xs) : ∃ A c, v = .slice A n c ∧ n ≤ maxLen := by
  rcases h.2 with ⟨rfl, h0⟩ | ⟨g, cap, cur, rfl, hb, hg, h1, h2, h3, h4⟩
  · exact ⟨none, 0, by rw [h0], by rw [h0]; exact Nat.zero_le _⟩
  · exact ⟨_, _, rfl, Nat.le_trans h1 h2⟩
theorem own_ge' {w : World} {base : Nat} {e : TypeId} {size : Nat} {v : Value} {n : Nat} {xs : List Value} (h : w.ownsRow base e size v n xs) {j : Nat} (hj : v.ownBlock = some j) : base ≤ j := (h.lt j hj).1
theorem own_below {w w' : World} {base : Nat} {e : TypeId} {size : Nat} {v : Value} {n : Nat} {xs : List Value} (h : w.ownsRow base e size v n xs) (hb : Below w.heap.size w w') : w'.ownsRow base e size v n xs := by
  obtain ⟨h1, h2⟩ := h
  refine ⟨h1, ?_⟩
  rcases h2 with h2 | ⟨g, cap, cur, hv, hg, hc, h3⟩
  · exact .inl h2
  · exact .inr ⟨g, cap, cur, hv, hg, by rw [hb.block g (Array.getElem?_eq_some_iff.1 hc).1, hc], h3⟩
/-- Another block's store leaves an owned list as it is. -/
theorem own_not {w : World} {base : Nat} {e t : TypeId} {size : Nat} {v : Value} {n : Nat} {xs : List Value} (h : w.ownsRow base e size v n xs) {b : Nat} {cs : Array Value} (hb : Blk w b cs t) (hne : t ≠ e) : v.ownBlock ≠ some b := by
  rcases h.2 with ⟨rfl, _⟩ | ⟨g, cap, cur, rfl, _, hg, _⟩
  · simp [Value.ownBlock]
  · intro hq
    simp only [Value.ownBlock, Option.some.injEq] at hq
    subst hq
    unfold Blk at hb
    rw [hg] at hb
    simp only [Option.some.injEq, Obj.cells.injEq] at hb
    exact hne hb.2.1.symm

theorem own_drewN {w : World} {base : Nat} {e : TypeId} {size : Nat} {v : Value} {n : Nat} {xs : List Value} (h : w.ownsRow base e size v n xs) (k : Nat) : (w.drewN k).ownsRow base e size v n xs := h
theorem own_of {w w' : World} {base : Nat} {e : TypeId} {size : Nat} {v : Value} {n : Nat} {xs : List Value} (h : w.ownsRow base e size v n xs) (hb : Below w.heap.size w.drew w') : w'.ownsRow base e size v n xs := own_below (w := w.drew) h hb
theorem below_of {a w w' : World} (h : Below a.heap.size a w) (hb : Below w.heap.size w.drew w') : Below a.heap.size a w' := (h.drew).trans (Below.mono hb h.size)
theorem blk_of {w w' : World} {b : Nat} {cs : Array Value} {t : TypeId} (h : Blk w b cs t) (hb : Below w.heap.size w.drew w') : Blk w' b cs t := Blk.below (w := w.drew) h hb h.lt

/-- Part by part: all that is read; where it is wrong, and how. -/
def readF {α : Type} (step : List UInt8 → Nat → α × Bool × Nat) (rises : α → α → Bool) (l : List UInt8) : Nat → List α → Nat → List α × Nat × Int
  | 0, _, _ => ([], 0, 0)
  | f + 1, acc, a =>
    if (step l a).2.1 = false then ([], (step l a).2.2, if (step l a).2.2 = l.length then 3 else 4) else
    if (step l a).2.2 ≠ l.length ∧ signL l (step l a).2.2 44 = false then ([], (step l a).2.2, 4) else
    if acc.length = 6 then ([], a, 5) else
    if (acc.getLast?.map (fun y => rises y (step l a).1)).getD true = false then ([], a, 4) else
    if (step l a).2.2 = l.length then (acc ++ [(step l a).1], 0, 0) else readF step rises l f (acc ++ [(step l a).1]) ((step l a).2.2 + 1)
def readA {α : Type} (step : List UInt8 → Nat → α × Bool × Nat) (rises : α → α → Bool) (l : List UInt8) : List α × Nat × Int := if l = [] then ([], 0, 0) else readF step rises l 7 [] 0

end Go.Proofs.YtfpbdfagcfdbbaaGreat.La

namespace Go.Proofs.YtfpbdfagcfdbbaaGreat.La
open Go.RowKit

theorem info_byte : (Tryz.prog.info? 5).map (fun i => (i.zero, i.size, i.bytes)) = some (some (.int .u8 0), 1, 1) := by kernel_rfl
end Go.Proofs.YtfpbdfagcfdbbaaGreat.La

namespace Go.Proofs.YtfpbdfagcfdbbaaGreat.La
open Go.RowKit

theorem SlAt.below {w w' : World} {A : Option Addr} {xs : List Value} (h : SlAt w A xs) (hb : Below w.heap.size w w') : SlAt w' A xs := by
  intro j y hj
  obtain ⟨b, o, hA, hc⟩ := h j y hj
  exact ⟨b, o, hA, (hb.cell (World.block_lt_of_cell? w _ hc)).trans hc⟩
theorem SlAt.nil (w : World) (A : Option Addr) : SlAt w A [] := fun j y h => by simp at h
theorem own_slat {w : World} {base : Nat} {e : TypeId} {size : Nat} {A : Option Addr} {n c : Nat} {xs : List Value} (h : w.ownsRow base e size (.slice A n c) n xs) : SlAt w A xs := by
  rcases Nat.eq_zero_or_pos n with hn | hn
  · have : xs = [] := List.length_eq_zero_iff.1 (by rw [h.1, hn, Nat.zero_mul])
    rw [this]
    exact SlAt.nil _ _
  · obtain ⟨g, cap, hv, _, _, _, _, hc⟩ := own_cells h hn
    cases hv
    exact fun j y hj => ⟨g, 0, rfl, by rw [Nat.zero_add]; exact hc j y hj⟩
theorem SlAt.lab {w : World} {A : Option Addr} {l : List (List UInt8 × List UInt8)} (h : SlAt w A (cellsL l)) {k : Nat} {x : List UInt8 × List UInt8} (hk : l[k]? = some x) :
    ∃ b o, A = some ⟨b, o, none⟩ ∧ b < w.heap.size ∧ w.cell? ⟨b, o + k * 2, none⟩ = some (strV x.1) ∧ w.cell? ⟨b, o + k * 2 + 1, none⟩ = some (strV x.2) := by
  obtain ⟨h0, h1⟩ := cellsL_at l k x hk
  obtain ⟨b, o, hA, hc⟩ := h _ _ h0
  obtain ⟨b', o', hA', hc'⟩ := h _ _ h1
  rw [hA] at hA'
  cases hA'
  exact ⟨b, o, hA, World.block_lt_of_cell? w _ hc, hc, by rw [Nat.add_assoc]; exact hc'⟩
theorem SlAt.ter {w : World} {A : Option Addr} {l : List (Int × List UInt8 × List UInt8)} (h : SlAt w A (cellsT l)) {k : Nat} {x : Int × List UInt8 × List UInt8} (hk : l[k]? = some x) :
    ∃ b o, A = some ⟨b, o, none⟩ ∧ b < w.heap.size ∧ w.cell? ⟨b, o + k * 3, none⟩ = some (.int .i64 x.1) ∧ w.cell? ⟨b, o + k * 3 + 1, none⟩ = some (strV x.2.1) ∧ w.cell? ⟨b, o + k * 3 + 2, none⟩ = some (strV x.2.2) := by
  obtain ⟨h0, h1, h2⟩ := cellsT_at l k x hk
  obtain ⟨b, o, hA, hc⟩ := h _ _ h0
  obtain ⟨b', o', hA', hc'⟩ := h _ _ h1
  rw [hA] at hA'
  cases hA'
  obtain ⟨b', o', hA', hc''⟩ := h _ _ h2
  rw [hA] at hA'
  cases hA'
  exact ⟨b, o, hA, World.block_lt_of_cell? w _ hc, hc, by rw [Nat.add_assoc]; exact hc', by rw [Nat.add_assoc]; exact hc''⟩

/-- A list's text, part by part. -/
def printK {α : Type} (part : α → List UInt8) (l : List α) : Nat → List UInt8
  | 0 => []
  | k + 1 => printK part l k ++ (if k = 0 then [] else [44]) ++ (match l[k]? with | some x => part x | none => [])
def printA {α : Type} (part : α → List UInt8) (l : List α) : List UInt8 := printK part l l.length
theorem printK_len {α : Type} (part : α → List UInt8) (l : List α) (n : Nat) (h : ∀ x ∈ l, (part x).length ≤ n) : ∀ k, (printK part l k).length ≤ k * (n + 1)
  | 0 => Nat.zero_le _
  | k + 1 => by
    have := printK_len part l n h k
    rw [printK, Nat.succ_mul]
    cases hk : l[k]? with
    | none => split <;> simp <;> omega
    | some x =>
      have := h x (List.mem_of_getElem? hk)
      split <;> simp <;> omega

def labP (x : List UInt8 × List UInt8) : List UInt8 := x.1 ++ [61] ++ x.2
def terP (x : Int × List UInt8 × List UInt8) : List UInt8 :=
  if x.1 = 1 then x.2.1 ++ [61] ++ x.2.2 else if x.1 = 2 then x.2.1 ++ [33, 61] ++ x.2.2 else if x.1 = 3 then x.2.1 else [33] ++ x.2.1

theorem join_ba (a b : List UInt8) : (⟨a.toArray⟩ : ByteArray) ++ (⟨b.toArray⟩ : ByteArray) = ⟨(a ++ b).toArray⟩ := by
  apply ByteArray.ext
  simp [ByteArray.data_append]
theorem retS {a b : ByteArray} (h : a = b) : Ending.returned (.string a) = .returned (.string b) := by rw [h]

theorem strC (l : List UInt8) : Lib.strCells ⟨l.toArray⟩ = Lib.byteCells l := rfl
end Go.Proofs.YtfpbdfagcfdbbaaGreat.La

namespace Go.Proofs.YtfpbdfagcfdbbaaGreat.La
open Go.RowKit

def nameB (s : List UInt8) : Bool := decide (s ≠ []) && decide (spanF okName s 0 = s.length)
def valueB (s : List UInt8) : Bool := decide (s ≠ []) && decide (spanF okVal s 0 = s.length)

theorem nil_size : ((⟨#[]⟩ : ByteArray).size) = 0 := rfl
set_option maxHeartbeats 400000 in
theorem nameB_any (s : List UInt8) (w : World) (hl : s.length ≤ 9223372036854775807) :
    Calls Tryz.prog 129 #[strV s] w fun e w' => e = .returned (.bool (nameB s)) ∧ Below w.heap.size w w' := by
  have K := Lib.hid (nameLen_any s w hl)
  by_cases hs : s = []
  · have h1 : s.isEmpty = true := by simp [hs]
    have E : Hid (nameB s = false) := by show nameB s = false; unfold nameB; simp [hs]
    have Hs := Lib.hid hs
    clear hs
    go_enter Tryz.func129, Tryz.ntmps129
    go_wp2
    go_ret
    exact ⟨retB (by rw [E.out]), Below.refl _ _⟩
  · have h1 : s.isEmpty = false := by simpa using hs
    have h2 : (!s.isEmpty) = true := by simpa using hs
    have E : Hid (nameB s = decide (spanF okName s 0 = s.length)) := by show nameB s = _; unfold nameB; simp [hs]
    have Hs := Lib.hid hs
    clear hs
    go_enter Tryz.func129, Tryz.ntmps129
    go_wp2_with fail
    refine K.out.mono ?_
    rintro e w1 ⟨rfl, hb⟩
    have HB := Lib.hid hb
    clear hb
    go_wp2
    go_ret
    refine ⟨retB ?_, HB.out⟩
    rw [E.out, Bool.eq_iff_iff]
    simp
    try omega
set_option maxHeartbeats 400000 in
theorem valueB_any (s : List UInt8) (w : World) (hl : s.length ≤ 9223372036854775807) :
    Calls Tryz.prog 166 #[strV s] w fun e w' => e = .returned (.bool (valueB s)) ∧ Below w.heap.size w w' := by
  have K := Lib.hid (valueLen_any s w hl)
  by_cases hs : s = []
  · have h1 : s.isEmpty = true := by simp [hs]
    have E : Hid (valueB s = false) := by show valueB s = false; unfold valueB; simp [hs]
    have Hs := Lib.hid hs
    clear hs
    go_enter Tryz.func166, Tryz.ntmps166
    go_wp2
    go_ret
    exact ⟨retB (by rw [E.out]), Below.refl _ _⟩
  · have h1 : s.isEmpty = false := by simpa using hs
    have h2 : (!s.isEmpty) = true := by simpa using hs
    have E : Hid (valueB s = decide (spanF okVal s 0 = s.length)) := by show valueB s = _; unfold valueB; simp [hs]
    have Hs := Lib.hid hs
    clear hs
    go_enter Tryz.func166, Tryz.ntmps166
    go_wp2_with fail
    refine K.out.mono ?_
    rintro e w1 ⟨rfl, hb⟩
    have HB := Lib.hid hb
    clear hb
    go_wp2
    go_ret
    refine ⟨retB ?_, HB.out⟩
    rw [E.out, Bool.eq_iff_iff]
    simp
    try omega

def labB (x : List UInt8 × List UInt8) : Bool := nameB x.1 && valueB x.2
def borB (x : List UInt8 × List UInt8) : Bool := nameB x.1 && (decide (x.2 = [42]) || valueB x.2)
def terB (x : Int × List UInt8 × List UInt8) : Bool :=
  if x.1 = 1 ∨ x.1 = 2 then nameB x.2.1 && valueB x.2.2 else if x.1 = 3 ∨ x.1 = 4 then nameB x.2.1 && decide (x.2.2 = []) else false

set_option maxHeartbeats 400000 in
theorem labB_any (x : List UInt8 × List UInt8) (w : World) (h1 : x.1.length ≤ 9223372036854775807) (h2 : x.2.length ≤ 9223372036854775807) :
    Calls Tryz.prog 165 #[labV x] w fun e w' => e = .returned (.bool (labB x)) ∧ Below w.heap.size w w' := by
  obtain ⟨a, b⟩ := x
  have HX := Lib.hid (Blk.new w #[strV a, strV b] 57)
  have HB := Lib.hid (below1 w (.cells #[strV a, strV b] 57))
  have K1 := Lib.hid (fun w => nameB_any a w h1)
  have K2 := Lib.hid (fun w => valueB_any b w h2)
  cases hn : nameB a
  · have E : Hid (labB (a, b) = false) := by show labB _ = _; unfold labB; simp [hn]
    rw [hn] at K1
    clear hn
    go_enter Tryz.func165, Tryz.ntmps165
    go_wp2_with fail
    refine (K1.out _).mono ?_
    rintro e w1 ⟨rfl, hb⟩
    have HB1 := Lib.hid (HB.out.trans (hb.mono HB.out.size))
    clear hb
    go_wp2
    go_ret
    exact ⟨retB (by rw [E.out]), HB1.out⟩
  · have E : Hid (labB (a, b) = valueB b) := by show labB _ = _; unfold labB; simp [hn]
    rw [hn] at K1
    clear hn
    go_enter Tryz.func165, Tryz.ntmps165
    go_wp2_with fail
    refine (K1.out _).mono ?_
    rintro e w1 ⟨rfl, hb⟩
    have HX1 := Lib.hid (HX.out.below hb HX.out.lt)
    have HB1 := Lib.hid (HB.out.trans (hb.mono HB.out.size))
    clear hb
    obtain ⟨d0, d1, f0, f1⟩ := Blk.c2 HX1.out
    go_wp2_with fail
    refine (K2.out _).mono ?_
    rintro e w2 ⟨rfl, hb⟩
    have HB2 := Lib.hid (HB1.out.trans (hb.mono HB1.out.size))
    clear hb
    go_wp2
    go_ret
    exact ⟨retB (by rw [E.out]), HB2.out⟩

set_option maxHeartbeats 400000 in
theorem borB_any (x : List UInt8 × List UInt8) (w : World) (h1 : x.1.length ≤ 9223372036854775807) (h2 : x.2.length ≤ 9223372036854775807) :
    Calls Tryz.prog 171 #[labV x] w fun e w' => e = .returned (.bool (borB x)) ∧ Below w.heap.size w w' := by
  obtain ⟨a, b⟩ := x
  have HX := Lib.hid (Blk.new w #[strV a, strV b] 57)
  have HB := Lib.hid (below1 w (.cells #[strV a, strV b] 57))
  have K1 := Lib.hid (fun w => nameB_any a w h1)
  have K2 := Lib.hid (fun w => valueB_any b w h2)
  cases hn : nameB a
  · have E : Hid (borB (a, b) = false) := by show borB _ = _; unfold borB; simp [hn]
    rw [hn] at K1
    clear hn
    go_enter Tryz.func171, Tryz.ntmps171
    go_wp2_with fail
    refine (K1.out _).mono ?_
    rintro e w1 ⟨rfl, hb⟩
    have HB1 := Lib.hid (HB.out.trans (hb.mono HB.out.size))
    clear hb
    go_wp2
    go_ret
    exact ⟨retB (by rw [E.out]), HB1.out⟩
  · rw [hn] at K1
    by_cases hs : b = [42]
    · have E : Hid (borB (a, b) = true) := by show borB _ = _; unfold borB; simp [hn, hs]
      have hsb : (b == [42]) = true := by simpa using hs
      have Hs := Lib.hid hs
      clear hn hs
      go_enter Tryz.func171, Tryz.ntmps171
      go_wp2_with fail
      refine (K1.out _).mono ?_
      rintro e w1 ⟨rfl, hb⟩
      have HX1 := Lib.hid (HX.out.below hb HX.out.lt)
      have HB1 := Lib.hid (HB.out.trans (hb.mono HB.out.size))
      clear hb
      obtain ⟨d0, d1, f0, f1⟩ := Blk.c2 HX1.out
      go_wp2
      go_ret
      exact ⟨retB (by rw [E.out]), HB1.out⟩
    · have E : Hid (borB (a, b) = valueB b) := by show borB _ = _; unfold borB; simp [hn, hs]
      have hsb : (b == [42]) = false := by simpa using hs
      have Hs := Lib.hid hs
      clear hn hs
      go_enter Tryz.func171, Tryz.ntmps171
      go_wp2_with fail
      refine (K1.out _).mono ?_
      rintro e w1 ⟨rfl, hb⟩
      have HX1 := Lib.hid (HX.out.below hb HX.out.lt)
      have HB1 := Lib.hid (HB.out.trans (hb.mono HB.out.size))
      clear hb
      obtain ⟨d0, d1, f0, f1⟩ := Blk.c2 HX1.out
      go_wp2_with fail
      refine (K2.out _).mono ?_
      rintro e w2 ⟨rfl, hb⟩
      have HB2 := Lib.hid (HB1.out.trans (hb.mono HB1.out.size))
      clear hb
      go_wp2
      go_ret
      exact ⟨retB (by rw [E.out]), HB2.out⟩

set_option maxHeartbeats 1000000 in
theorem terB_any (x : Int × List UInt8 × List UInt8) (w : World) (h1 : x.2.1.length ≤ 9223372036854775807) (h2 : x.2.2.length ≤ 9223372036854775807) :
    Calls Tryz.prog 169 #[terV x] w fun e w' => e = .returned (.bool (terB x)) ∧ Below w.heap.size w w' := by
  obtain ⟨k, a, b⟩ := x
  have HX := Lib.hid (Blk.new w #[.int .i64 k, strV a, strV b] 64)
  have HB := Lib.hid (below1 w (.cells #[.int .i64 k, strV a, strV b] 64))
  have K1 := Lib.hid (fun w => nameB_any a w h1)
  have K2 := Lib.hid (fun w => valueB_any b w h2)
  simp only at h1 h2
  have hcs : k = 1 ∨ k = 2 ∨ k = 3 ∨ k = 4 ∨ (k ≠ 1 ∧ k ≠ 2 ∧ k ≠ 3 ∧ k ≠ 4) := by omega
  rcases hcs with hc | hc | hc | hc | hc
  · have hk1 : (k == 1) = true := by first | (simp; omega) | simp_all
    cases hn : nameB a
    · have E : Hid (terB (k, a, b) = false) := by show terB _ = _; unfold terB; simp [hn]
      rw [hn] at K1
      have Hc := Lib.hid hc
      clear hn hc
      go_enter Tryz.func169, Tryz.ntmps169
      go_wp2_with fail
      refine (K1.out _).mono ?_
      rintro e w1 ⟨rfl, hb⟩
      have HB1 := Lib.hid (HB.out.trans (hb.mono HB.out.size))
      clear hb
      go_wp2
      go_ret
      exact ⟨retB (by rw [E.out]), HB1.out⟩
    · have E : Hid (terB (k, a, b) = valueB b) := by show terB _ = _; unfold terB; rw [if_pos (by show k = 1 ∨ k = 2; omega)]; simp [hn]
      rw [hn] at K1
      have Hc := Lib.hid hc
      clear hn hc
      go_enter Tryz.func169, Tryz.ntmps169
      go_wp2_with fail
      refine (K1.out _).mono ?_
      rintro e w1 ⟨rfl, hb⟩
      have HX1 := Lib.hid (HX.out.below hb HX.out.lt)
      have HB1 := Lib.hid (HB.out.trans (hb.mono HB.out.size))
      clear hb
      obtain ⟨d0, d1, d2, f0, f1, f2⟩ := Blk.c3 HX1.out
      go_wp2_with fail
      refine (K2.out _).mono ?_
      rintro e w2 ⟨rfl, hb⟩
      have HB2 := Lib.hid (HB1.out.trans (hb.mono HB1.out.size))
      clear hb
      go_wp2
      go_ret
      exact ⟨retB (by rw [E.out]), HB2.out⟩
  · have hk1 : (k == 1) = false := by first | (simp; omega) | simp_all
    have hk2 : (k == 2) = true := by first | (simp; omega) | simp_all
    cases hn : nameB a
    · have E : Hid (terB (k, a, b) = false) := by show terB _ = _; unfold terB; simp [hn]
      rw [hn] at K1
      have Hc := Lib.hid hc
      clear hn hc
      go_enter Tryz.func169, Tryz.ntmps169
      go_wp2_with fail
      refine (K1.out _).mono ?_
      rintro e w1 ⟨rfl, hb⟩
      have HB1 := Lib.hid (HB.out.trans (hb.mono HB.out.size))
      clear hb
      go_wp2
      go_ret
      exact ⟨retB (by rw [E.out]), HB1.out⟩
    · have E : Hid (terB (k, a, b) = valueB b) := by show terB _ = _; unfold terB; rw [if_pos (by show k = 1 ∨ k = 2; omega)]; simp [hn]
      rw [hn] at K1
      have Hc := Lib.hid hc
      clear hn hc
      go_enter Tryz.func169, Tryz.ntmps169
      go_wp2_with fail
      refine (K1.out _).mono ?_
      rintro e w1 ⟨rfl, hb⟩
      have HX1 := Lib.hid (HX.out.below hb HX.out.lt)
      have HB1 := Lib.hid (HB.out.trans (hb.mono HB.out.size))
      clear hb
      obtain ⟨d0, d1, d2, f0, f1, f2⟩ := Blk.c3 HX1.out
      go_wp2_with fail
      refine (K2.out _).mono ?_
      rintro e w2 ⟨rfl, hb⟩
      have HB2 := Lib.hid (HB1.out.trans (hb.mono HB1.out.size))
      clear hb
      go_wp2
      go_ret
      exact ⟨retB (by rw [E.out]), HB2.out⟩
  · have hk1 : (k == 1) = false := by first | (simp; omega) | simp_all
    have hk2 : (k == 2) = false := by first | (simp; omega) | simp_all
    have hk3 : (k == 3) = true := by first | (simp; omega) | simp_all
    cases hn : nameB a
    · have E : Hid (terB (k, a, b) = false) := by show terB _ = _; unfold terB; simp [hn]
      rw [hn] at K1
      have Hc := Lib.hid hc
      clear hn hc
      go_enter Tryz.func169, Tryz.ntmps169
      go_wp2_with fail
      refine (K1.out _).mono ?_
      rintro e w1 ⟨rfl, hb⟩
      have HB1 := Lib.hid (HB.out.trans (hb.mono HB.out.size))
      clear hb
      go_wp2
      go_ret
      exact ⟨retB (by rw [E.out]), HB1.out⟩
    · have E : Hid (terB (k, a, b) = b.isEmpty) := by show terB _ = _; unfold terB; rw [if_neg (by show ¬ (k = 1 ∨ k = 2); omega), if_pos (by show k = 3 ∨ k = 4; omega)]; cases b <;> simp [hn]
      rw [hn] at K1
      have Hc := Lib.hid hc
      clear hn hc
      go_enter Tryz.func169, Tryz.ntmps169
      go_wp2_with fail
      refine (K1.out _).mono ?_
      rintro e w1 ⟨rfl, hb⟩
      have HX1 := Lib.hid (HX.out.below hb HX.out.lt)
      have HB1 := Lib.hid (HB.out.trans (hb.mono HB.out.size))
      clear hb
      obtain ⟨d0, d1, d2, f0, f1, f2⟩ := Blk.c3 HX1.out
      go_wp2
      go_ret
      exact ⟨retB (by rw [E.out]), HB1.out⟩
  · have hk1 : (k == 1) = false := by first | (simp; omega) | simp_all
    have hk2 : (k == 2) = false := by first | (simp; omega) | simp_all
    have hk3 : (k == 3) = false := by first | (simp; omega) | simp_all
    have hk4 : (k == 4) = true := by first | (simp; omega) | simp_all
    cases hn : nameB a
    · have E : Hid (terB (k, a, b) = false) := by show terB _ = _; unfold terB; simp [hn]
      rw [hn] at K1
      have Hc := Lib.hid hc
      clear hn hc
      go_enter Tryz.func169, Tryz.ntmps169
      go_wp2_with fail
      refine (K1.out _).mono ?_
      rintro e w1 ⟨rfl, hb⟩
      have HB1 := Lib.hid (HB.out.trans (hb.mono HB.out.size))
      clear hb
      go_wp2
      go_ret
      exact ⟨retB (by rw [E.out]), HB1.out⟩
    · have E : Hid (terB (k, a, b) = b.isEmpty) := by show terB _ = _; unfold terB; rw [if_neg (by show ¬ (k = 1 ∨ k = 2); omega), if_pos (by show k = 3 ∨ k = 4; omega)]; cases b <;> simp [hn]
      rw [hn] at K1
      have Hc := Lib.hid hc
      clear hn hc
      go_enter Tryz.func169, Tryz.ntmps169
      go_wp2_with fail
      refine (K1.out _).mono ?_
      rintro e w1 ⟨rfl, hb⟩
      have HX1 := Lib.hid (HX.out.below hb HX.out.lt)
      have HB1 := Lib.hid (HB.out.trans (hb.mono HB.out.size))
      clear hb
      obtain ⟨d0, d1, d2, f0, f1, f2⟩ := Blk.c3 HX1.out
      go_wp2
      go_ret
      exact ⟨retB (by rw [E.out]), HB1.out⟩
  · have hk1 : (k == 1) = false := by first | (simp; omega) | simp_all
    have hk2 : (k == 2) = false := by first | (simp; omega) | simp_all
    have hk3 : (k == 3) = false := by first | (simp; omega) | simp_all
    have hk4 : (k == 4) = false := by first | (simp; omega) | simp_all
    have E : Hid (terB (k, a, b) = false) := by show terB _ = _; unfold terB; rw [if_neg (by show ¬ (k = 1 ∨ k = 2); omega), if_neg (by show ¬ (k = 3 ∨ k = 4); omega)]
    have Hc := Lib.hid hc
    clear hc
    go_enter Tryz.func169, Tryz.ntmps169
    go_wp2
    go_ret
    exact ⟨retB (by rw [E.out]), HB.out⟩

/-- May x stand at k? -/
def okAt {α : Type} (mb : α → Bool) (ri : α → α → Bool) (l : List α) (k : Nat) (x : α) : Bool :=
  mb x && (decide (k = 0) || (match l[k - 1]? with | none => true | some y => ri y x))
theorem okAt_no {α : Type} {mb : α → Bool} {ri : α → α → Bool} {l : List α} {k : Nat} {x : α} (h : mb x = false) : okAt mb ri l k x = false := by unfold okAt; rw [h]; rfl
theorem okAt_zero {α : Type} {mb : α → Bool} {ri : α → α → Bool} {l : List α} {k : Nat} {x : α} (h : mb x = true) (h0 : k = 0) : okAt mb ri l k x = true := by unfold okAt; rw [h, h0]; rfl
theorem okAt_pos {α : Type} {mb : α → Bool} {ri : α → α → Bool} {l : List α} {k : Nat} {x y : α} (h : mb x = true) (h0 : ¬ k = 0) (hy : l[k - 1]? = some y) : okAt mb ri l k x = ri y x := by unfold okAt; rw [h, hy, decide_eq_false h0]; rfl
/-- May the first k stand there, each of them, and behind the one ahead? -/
def chkK {α : Type} (mb : α → Bool) (ri : α → α → Bool) (l : List α) : Nat → Bool
  | 0 => true
  | k + 1 => chkK mb ri l k && (match l[k]? with
    | none => true
    | some x => okAt mb ri l k x)
def chkA {α : Type} (mb : α → Bool) (ri : α → α → Bool) (l : List α) : Int := if 6 < l.length ∨ chkK mb ri l l.length = false then 2 else 0
theorem chkK_false {α : Type} {mb : α → Bool} {ri : α → α → Bool} {l : List α} {k : Nat} (h : chkK mb ri l k = false) : ∀ {n : Nat}, k ≤ n → chkK mb ri l n = false := by
  intro n hn
  induction n with
  | zero => obtain rfl : k = 0 := by omega
            exact h
  | succ n ih =>
    rcases Nat.lt_or_eq_of_le hn with g | rfl
    · rw [chkK, ih (by omega)]
      rfl
    · exact h

end Go.Proofs.YtfpbdfagcfdbbaaGreat.La

namespace Go.Proofs.YtfpbdfagcfdbbaaGreat.La
open Go.RowKit

set_option maxRecDepth 100000 in
set_option maxHeartbeats 4000000 in
theorem checkL_any (mb : List UInt8 × List UInt8 → Bool) (ri : List UInt8 × List UInt8 → List UInt8 × List UInt8 → Bool) (g r : FuncId) (A : Option Addr) (c : Nat) (l : List (List UInt8 × List UInt8)) (w : World) (hn : l.length ≤ 1000) (_hc : l.length ≤ c) (_hcm : c ≤ 9223372036854775807) (hs : SlAt w A (cellsL l)) (hbig : ∀ x ∈ l, x.1.length ≤ 9223372036854775807 ∧ x.2.length ≤ 9223372036854775807)
    (hg1 : ∀ (args : Array Value) (w : World), (callFunc g args).run Tryz.prog w = .ok (.enter g args) w) (hr1 : ∀ (args : Array Value) (w : World), (callFunc r args).run Tryz.prog w = .ok (.enter r args) w)
    (hcl : ∀ (x : List UInt8 × List UInt8) (w : World), x.1.length ≤ 9223372036854775807 ∧ x.2.length ≤ 9223372036854775807 → Calls Tryz.prog g #[labV x] w fun e w' => e = .returned (.bool (mb x)) ∧ Below w.heap.size w w')
    (hri : ∀ (a b : List UInt8 × List UInt8) (w : World), Calls Tryz.prog r #[labV a, labV b] w fun e w' => e = .returned (.bool (ri a b)) ∧ Below w.heap.size w w') :
    Calls Tryz.prog 164 #[.slice A l.length c, .func (Fn.func g) #[] #[], .func (Fn.func r) #[] #[]] w fun e w' => e = .returned (.int .i64 (chkA mb ri l)) ∧ Below w.heap.size w w' := by
  have HS := Lib.hid hs
  have Hcl := Lib.hid hcl
  have Hri := Lib.hid hri
  have Hbig := Lib.hid hbig
  clear hs hcl hri hbig
  by_cases h6 : 6 < l.length
  · have E : Hid (chkA mb ri l = 2) := by show chkA _ _ _ = _; unfold chkA; rw [if_pos (.inl h6)]
    have h6b : decide (6 < l.length) = true := by simpa using h6
    have h6i : (6 : Int) < (l.length : Int) := by omega
    go_enter Tryz.func164, Tryz.ntmps164
    go_wp2
    go_ret
    exact ⟨retI (by rw [E.out]), Below.refl _ _⟩
  · have h6b : decide (6 < l.length) = false := by simpa using h6
    have h6i : (l.length : Int) ≤ 6 := by omega
    have E : Hid (chkA mb ri l = if chkK mb ri l l.length = false then 2 else 0) := by show chkA _ _ _ = _; unfold chkA; by_cases hq : chkK mb ri l l.length = false; rw [if_pos (.inr hq), if_pos hq]; rw [if_neg (fun h => h.elim h6 hq), if_neg hq]
    have H6 := Lib.hid h6
    clear h6
    go_enter Tryz.func164, Tryz.ntmps164
    go_wp2
    go_loopw [14] (fun i wr => ∃ k : Nat, k ≤ l.length ∧ i = .int .i64 k ∧ chkK mb ri l k = true ∧ Below w.heap.size w wr) (fun i _ => l.length - (intOf i).toNat)
    case atStart => exact ⟨0, by omega, rfl, rfl, Below.refl _ _⟩
    case round =>
      obtain ⟨k, hk, rfl, hp, hbw⟩ := hrel
      have Hp := Lib.hid hp
      have Hbw := Lib.hid hbw
      clear hp hbw
      by_cases hlt : k < l.length
      · obtain ⟨x, hxk⟩ : ∃ x, l[k]? = some x := ⟨l[k], List.getElem?_eq_getElem hlt⟩
        obtain ⟨b0, o0, hA, hb0, hx⟩ := SlAt.lab (HS.out.below Hbw.out) hxk
        have Hbx := Lib.hid (Hbig.out x (List.mem_of_getElem? hxk))
        have hstep : chkK mb ri l (k + 1) = okAt mb ri l k x := by rw [chkK, Hp.out, hxk]; rfl
        have Hstep := Lib.hid hstep
        have hA' := hA
        subst hA
        have hx0 : wr.cell? ⟨b0, o0 + k * 2, none⟩ = some (strV x.1) := hx.1
        have hx1 : wr.cell? ⟨b0, o0 + k * 2 + 1, none⟩ = some (strV x.2) := hx.2
        have px0 : (wr.alloc (.cells #[strV x.1, strV x.2] 57)).cell? ⟨wr.heap.size, 0, none⟩ = some (strV x.1) := Blk.cell (Blk.new wr #[strV x.1, strV x.2] 57) 0
        have px1 : (wr.alloc (.cells #[strV x.1, strV x.2] 57)).cell? ⟨wr.heap.size, 1, none⟩ = some (strV x.2) := Blk.cell (Blk.new wr #[strV x.1, strV x.2] 57) 1
        have Hxl : Hid (wr.heap.size < (wr.alloc (.cells #[strV x.1, strV x.2] 57)).heap.size) := Lib.hid (Blk.lt (Blk.new wr _ _))
        have Hbw1 := Lib.hid (Hbw.out.alloc Hbw.out.size (.cells #[strV x.1, strV x.2] 57))
        have Hxk := Lib.hid hxk
        clear hx hxk hstep hA'
        cases hm : mb x
        · have E2 : Hid (chkA mb ri l = 2) := by
            show chkA _ _ _ = _
            rw [E.out, if_pos]
            refine chkK_false (k := k + 1) ?_ hlt
            rw [Hstep.out, okAt_no hm]
          have KC := Lib.hid (fun w => Hcl.out x w Hbx.out)
          rw [hm] at KC
          clear hm
          go_upto_region 6 with fail
          refine wp_region_held_drew (S := fun w' => w'.cell? ⟨wr.heap.size, 0, none⟩ = some (strV x.1) ∧ w'.cell? ⟨wr.heap.size, 1, none⟩ = some (strV x.2)) (by kernel_rfl) ⟨px0, px1⟩ (fun hHeld => ?_)
          refine wpAnyH_take (i := 0) (oi := ⟨some 19, _, _, _, _, _⟩) (v := .func (Fn.func g) #[] #[]) rfl (by kernel_rfl) (by kernel_rfl) (by kernel_rfl) (fun _ _ _ h => h) (Or.inl ⟨by rfl, (fun w' hS => by clear hS; go_simp)⟩) (by assumption) ?_
          try simp only [Act.put, List.setIfInBounds_toArray, List.set_cons_zero, List.set_cons_succ]
          refine wpAnyH_take (i := 1) (oi := ⟨some 20, _, _, _, _, _⟩) (v := .agg #[strV x.1, strV x.2]) rfl (by kernel_rfl) (by kernel_rfl) (by kernel_rfl) (fun _ _ _ h => h) (Or.inl ⟨by rfl, (fun w' hS => by obtain ⟨s0, s1⟩ := hS; go_simp)⟩) (by assumption) ?_
          try simp only [Act.put, List.setIfInBounds_toArray, List.set_cons_zero, List.set_cons_succ]
          refine wpAnyH_ready (rs := [2]) (by kernel_rfl) (by simp) ?_
          refine AllReadyH.cons (o := { dst := some 21, op := Op.call { callee := Callee.value (Operand.tmp 19), args := #[Operand.tmp 20], argTypes := #[57] }, type := 4, pos := "label.go:46", after := #[{ on := 0, ground := Ground.data }, { on := 1, ground := Ground.data }], guard := none }) rfl (fun K2 hK => ?_) AllReadyH.nil
          rw [if_pos (by rfl)]
          go_simp
          refine (KC.out _).mono ?_
          rintro e w3 ⟨rfl, hb3⟩
          have qx0 := (hb3.cell (p := ⟨wr.heap.size, 0, none⟩) Hxl.out).trans px0
          have qx1 := (hb3.cell (p := ⟨wr.heap.size, 1, none⟩) Hxl.out).trans px1
          have HB3 := Lib.hid hb3
          clear hb3
          refine hK.out _ _ ⟨qx0, qx1⟩ (fun hHeld2 => ?_)
          clear hK K2 hHeld
          try simp only [Act.put, List.setIfInBounds_toArray, List.set_cons_zero, List.set_cons_succ]
          refine wpAnyH_take (i := 3) (oi := ⟨some 22, _, _, _, _, _⟩) (v := .bool true) rfl (by kernel_rfl) (by kernel_rfl) (by kernel_rfl) (fun _ _ _ h => h) (Or.inl ⟨by rfl, (fun w' hS => by clear hS; go_simp)⟩) (by assumption) ?_
          try simp only [Act.put, List.setIfInBounds_toArray, List.set_cons_zero, List.set_cons_succ]
          refine wpAnyH_take (i := 4) (oi := ⟨some 23, _, _, _, _, _⟩) (v := .bool true) rfl (by kernel_rfl) (by kernel_rfl) (by kernel_rfl) (fun _ _ _ h => h) (Or.inl ⟨by rfl, (fun w' hS => by clear hS; go_simp)⟩) (by assumption) ?_
          try simp only [Act.put, List.setIfInBounds_toArray, List.set_cons_zero, List.set_cons_succ]
          refine wpAnyH_take (i := 5) (oi := ⟨some 24, _, _, _, _, _⟩) (v := undef) rfl (by kernel_rfl) (by kernel_rfl) (by kernel_rfl) (fun _ _ _ h => h) (Or.inr ⟨by rfl, rfl⟩) (by assumption) ?_
          try simp only [Act.put, List.setIfInBounds_toArray, List.set_cons_zero, List.set_cons_succ]
          refine wpAnyH_take (i := 6) (oi := ⟨some 25, _, _, _, _, _⟩) (v := undef) rfl (by kernel_rfl) (by kernel_rfl) (by kernel_rfl) (fun _ _ _ h => h) (Or.inr ⟨by rfl, rfl⟩) (by assumption) ?_
          try simp only [Act.put, List.setIfInBounds_toArray, List.set_cons_zero, List.set_cons_succ]
          refine wpAnyH_take (i := 7) (oi := ⟨some 26, _, _, _, _, _⟩) (v := undef) rfl (by kernel_rfl) (by kernel_rfl) (by kernel_rfl) (fun _ _ _ h => h) (Or.inr ⟨by rfl, rfl⟩) (by assumption) ?_
          try simp only [Act.put, List.setIfInBounds_toArray, List.set_cons_zero, List.set_cons_succ]
          refine wpAnyH_take (i := 8) (oi := ⟨some 27, _, _, _, _, _⟩) (v := undef) rfl (by kernel_rfl) (by kernel_rfl) (by kernel_rfl) (fun _ _ _ h => h) (Or.inr ⟨by rfl, rfl⟩) (by assumption) ?_
          try simp only [Act.put, List.setIfInBounds_toArray, List.set_cons_zero, List.set_cons_succ]
          refine wpAnyH_take (i := 9) (oi := ⟨some 28, _, _, _, _, _⟩) (v := undef) rfl (by kernel_rfl) (by kernel_rfl) (by kernel_rfl) (fun _ _ _ h => h) (Or.inr ⟨by rfl, rfl⟩) (by assumption) ?_
          try simp only [Act.put, List.setIfInBounds_toArray, List.set_cons_zero, List.set_cons_succ]
          refine wpAnyH_take (i := 10) (oi := ⟨some 29, _, _, _, _, _⟩) (v := undef) rfl (by kernel_rfl) (by kernel_rfl) (by kernel_rfl) (fun _ _ _ h => h) (Or.inr ⟨by rfl, rfl⟩) (by assumption) ?_
          try simp only [Act.put, List.setIfInBounds_toArray, List.set_cons_zero, List.set_cons_succ]
          refine wpAnyH_take (i := 11) (oi := ⟨some 30, _, _, _, _, _⟩) (v := undef) rfl (by kernel_rfl) (by kernel_rfl) (by kernel_rfl) (fun _ _ _ h => h) (Or.inr ⟨by rfl, rfl⟩) (by assumption) ?_
          try simp only [Act.put, List.setIfInBounds_toArray, List.set_cons_zero, List.set_cons_succ]
          refine wpAnyH_take (i := 12) (oi := ⟨some 31, _, _, _, _, _⟩) (v := undef) rfl (by kernel_rfl) (by kernel_rfl) (by kernel_rfl) (fun _ _ _ h => h) (Or.inr ⟨by rfl, rfl⟩) (by assumption) ?_
          try simp only [Act.put, List.setIfInBounds_toArray, List.set_cons_zero, List.set_cons_succ]
          refine wpAnyH_take (i := 13) (oi := ⟨some 32, _, _, _, _, _⟩) (v := undef) rfl (by kernel_rfl) (by kernel_rfl) (by kernel_rfl) (fun _ _ _ h => h) (Or.inr ⟨by rfl, rfl⟩) (by assumption) ?_
          try simp only [Act.put, List.setIfInBounds_toArray, List.set_cons_zero, List.set_cons_succ]
          refine wpAnyH_take (i := 14) (oi := ⟨some 33, _, _, _, _, _⟩) (v := undef) rfl (by kernel_rfl) (by kernel_rfl) (by kernel_rfl) (fun _ _ _ h => h) (Or.inr ⟨by rfl, rfl⟩) (by assumption) ?_
          try simp only [Act.put, List.setIfInBounds_toArray, List.set_cons_zero, List.set_cons_succ]
          refine wpAnyH_take (i := 15) (oi := ⟨some 34, _, _, _, _, _⟩) (v := undef) rfl (by kernel_rfl) (by kernel_rfl) (by kernel_rfl) (fun _ _ _ h => h) (Or.inr ⟨by rfl, rfl⟩) (by assumption) ?_
          try simp only [Act.put, List.setIfInBounds_toArray, List.set_cons_zero, List.set_cons_succ]
          refine wpAnyH_take (i := 16) (oi := ⟨some 35, _, _, _, _, _⟩) (v := undef) rfl (by kernel_rfl) (by kernel_rfl) (by kernel_rfl) (fun _ _ _ h => h) (Or.inr ⟨by rfl, rfl⟩) (by assumption) ?_
          try simp only [Act.put, List.setIfInBounds_toArray, List.set_cons_zero, List.set_cons_succ]
          refine wpAnyH_take (i := 17) (oi := ⟨some 36, _, _, _, _, _⟩) (v := undef) rfl (by kernel_rfl) (by kernel_rfl) (by kernel_rfl) (fun _ _ _ h => h) (Or.inr ⟨by rfl, rfl⟩) (by assumption) ?_
          try simp only [Act.put, List.setIfInBounds_toArray, List.set_cons_zero, List.set_cons_succ]
          refine wpAnyH_take (i := 18) (oi := ⟨some 37, _, _, _, _, _⟩) (v := .bool true) rfl (by kernel_rfl) (by kernel_rfl) (by kernel_rfl) (fun _ _ _ h => h) (Or.inl ⟨by rfl, (fun w' hS => by clear hS; go_simp)⟩) (by assumption) ?_
          try simp only [Act.put, List.setIfInBounds_toArray, List.set_cons_zero, List.set_cons_succ]
          refine wpAnyH_done (by kernel_rfl) ?_ _
          clear hHeld2
          have Hbw3 := Lib.hid ((Hbw1.out.drew).trans (Below.mono HB3.out Hbw1.out.size))
          go_wp2
          go_ret
          exact ⟨retI (by rw [E2.out]), Hbw3.out⟩
        · have KC := Lib.hid (fun w => Hcl.out x w Hbx.out)
          rw [hm] at KC
          by_cases h0 : k = 0
          · have hnext : chkK mb ri l (k + 1) = true := by rw [Hstep.out, okAt_zero hm h0]
            have Hnext := Lib.hid hnext
            have h0i : (k : Int) ≤ 0 := by omega
            have h0b : decide (0 < k) = false := by simp [h0]
            have H0 := Lib.hid h0
            clear hm hnext h0
            go_upto_region 6 with fail
            refine wp_region_held_drew (S := fun w' => w'.cell? ⟨wr.heap.size, 0, none⟩ = some (strV x.1) ∧ w'.cell? ⟨wr.heap.size, 1, none⟩ = some (strV x.2)) (by kernel_rfl) ⟨px0, px1⟩ (fun hHeld => ?_)
            refine wpAnyH_take (i := 0) (oi := ⟨some 19, _, _, _, _, _⟩) (v := .func (Fn.func g) #[] #[]) rfl (by kernel_rfl) (by kernel_rfl) (by kernel_rfl) (fun _ _ _ h => h) (Or.inl ⟨by rfl, (fun w' hS => by clear hS; go_simp)⟩) (by assumption) ?_
            try simp only [Act.put, List.setIfInBounds_toArray, List.set_cons_zero, List.set_cons_succ]
            refine wpAnyH_take (i := 1) (oi := ⟨some 20, _, _, _, _, _⟩) (v := .agg #[strV x.1, strV x.2]) rfl (by kernel_rfl) (by kernel_rfl) (by kernel_rfl) (fun _ _ _ h => h) (Or.inl ⟨by rfl, (fun w' hS => by obtain ⟨s0, s1⟩ := hS; go_simp)⟩) (by assumption) ?_
            try simp only [Act.put, List.setIfInBounds_toArray, List.set_cons_zero, List.set_cons_succ]
            refine wpAnyH_ready (rs := [2]) (by kernel_rfl) (by simp) ?_
            refine AllReadyH.cons (o := { dst := some 21, op := Op.call { callee := Callee.value (Operand.tmp 19), args := #[Operand.tmp 20], argTypes := #[57] }, type := 4, pos := "label.go:46", after := #[{ on := 0, ground := Ground.data }, { on := 1, ground := Ground.data }], guard := none }) rfl (fun K2 hK => ?_) AllReadyH.nil
            rw [if_pos (by rfl)]
            go_simp
            refine (KC.out _).mono ?_
            rintro e w3 ⟨rfl, hb3⟩
            have qx0 := (hb3.cell (p := ⟨wr.heap.size, 0, none⟩) Hxl.out).trans px0
            have qx1 := (hb3.cell (p := ⟨wr.heap.size, 1, none⟩) Hxl.out).trans px1
            have HB3 := Lib.hid hb3
            clear hb3
            refine hK.out _ _ ⟨qx0, qx1⟩ (fun hHeld2 => ?_)
            clear hK K2 hHeld
            try simp only [Act.put, List.setIfInBounds_toArray, List.set_cons_zero, List.set_cons_succ]
            refine wpAnyH_take (i := 3) (oi := ⟨some 22, _, _, _, _, _⟩) (v := .bool false) rfl (by kernel_rfl) (by kernel_rfl) (by kernel_rfl) (fun _ _ _ h => h) (Or.inl ⟨by rfl, (fun w' hS => by clear hS; go_simp)⟩) (by assumption) ?_
            try simp only [Act.put, List.setIfInBounds_toArray, List.set_cons_zero, List.set_cons_succ]
            refine wpAnyH_take (i := 4) (oi := ⟨some 23, _, _, _, _, _⟩) (v := .bool false) rfl (by kernel_rfl) (by kernel_rfl) (by kernel_rfl) (fun _ _ _ h => h) (Or.inl ⟨by rfl, (fun w' hS => by clear hS; go_simp)⟩) (by assumption) ?_
            try simp only [Act.put, List.setIfInBounds_toArray, List.set_cons_zero, List.set_cons_succ]
            refine wpAnyH_take (i := 5) (oi := ⟨some 24, _, _, _, _, _⟩) (v := .int .i64 (k : Int)) rfl (by kernel_rfl) (by kernel_rfl) (by kernel_rfl) (fun _ _ _ h => h) (Or.inl ⟨by rfl, (fun w' hS => by clear hS; go_simp)⟩) (by assumption) ?_
            try simp only [Act.put, List.setIfInBounds_toArray, List.set_cons_zero, List.set_cons_succ]
            refine wpAnyH_take (i := 6) (oi := ⟨some 25, _, _, _, _, _⟩) (v := .bool false) rfl (by kernel_rfl) (by kernel_rfl) (by kernel_rfl) (fun _ _ _ h => h) (Or.inl ⟨by rfl, (fun w' hS => by clear hS; go_simp)⟩) (by assumption) ?_
            try simp only [Act.put, List.setIfInBounds_toArray, List.set_cons_zero, List.set_cons_succ]
            refine wpAnyH_take (i := 7) (oi := ⟨some 26, _, _, _, _, _⟩) (v := .bool false) rfl (by kernel_rfl) (by kernel_rfl) (by kernel_rfl) (fun _ _ _ h => h) (Or.inl ⟨by rfl, (fun w' hS => by clear hS; go_simp)⟩) (by assumption) ?_
            try simp only [Act.put, List.setIfInBounds_toArray, List.set_cons_zero, List.set_cons_succ]
            refine wpAnyH_take (i := 8) (oi := ⟨some 27, _, _, _, _, _⟩) (v := undef) rfl (by kernel_rfl) (by kernel_rfl) (by kernel_rfl) (fun _ _ _ h => h) (Or.inr ⟨by rfl, rfl⟩) (by assumption) ?_
            try simp only [Act.put, List.setIfInBounds_toArray, List.set_cons_zero, List.set_cons_succ]
            refine wpAnyH_take (i := 9) (oi := ⟨some 28, _, _, _, _, _⟩) (v := undef) rfl (by kernel_rfl) (by kernel_rfl) (by kernel_rfl) (fun _ _ _ h => h) (Or.inr ⟨by rfl, rfl⟩) (by assumption) ?_
            try simp only [Act.put, List.setIfInBounds_toArray, List.set_cons_zero, List.set_cons_succ]
            refine wpAnyH_take (i := 10) (oi := ⟨some 29, _, _, _, _, _⟩) (v := undef) rfl (by kernel_rfl) (by kernel_rfl) (by kernel_rfl) (fun _ _ _ h => h) (Or.inr ⟨by rfl, rfl⟩) (by assumption) ?_
            try simp only [Act.put, List.setIfInBounds_toArray, List.set_cons_zero, List.set_cons_succ]
            refine wpAnyH_take (i := 11) (oi := ⟨some 30, _, _, _, _, _⟩) (v := undef) rfl (by kernel_rfl) (by kernel_rfl) (by kernel_rfl) (fun _ _ _ h => h) (Or.inr ⟨by rfl, rfl⟩) (by assumption) ?_
            try simp only [Act.put, List.setIfInBounds_toArray, List.set_cons_zero, List.set_cons_succ]
            refine wpAnyH_take (i := 12) (oi := ⟨some 31, _, _, _, _, _⟩) (v := undef) rfl (by kernel_rfl) (by kernel_rfl) (by kernel_rfl) (fun _ _ _ h => h) (Or.inr ⟨by rfl, rfl⟩) (by assumption) ?_
            try simp only [Act.put, List.setIfInBounds_toArray, List.set_cons_zero, List.set_cons_succ]
            refine wpAnyH_take (i := 13) (oi := ⟨some 32, _, _, _, _, _⟩) (v := undef) rfl (by kernel_rfl) (by kernel_rfl) (by kernel_rfl) (fun _ _ _ h => h) (Or.inr ⟨by rfl, rfl⟩) (by assumption) ?_
            try simp only [Act.put, List.setIfInBounds_toArray, List.set_cons_zero, List.set_cons_succ]
            refine wpAnyH_take (i := 14) (oi := ⟨some 33, _, _, _, _, _⟩) (v := undef) rfl (by kernel_rfl) (by kernel_rfl) (by kernel_rfl) (fun _ _ _ h => h) (Or.inr ⟨by rfl, rfl⟩) (by assumption) ?_
            try simp only [Act.put, List.setIfInBounds_toArray, List.set_cons_zero, List.set_cons_succ]
            refine wpAnyH_take (i := 15) (oi := ⟨some 34, _, _, _, _, _⟩) (v := undef) rfl (by kernel_rfl) (by kernel_rfl) (by kernel_rfl) (fun _ _ _ h => h) (Or.inr ⟨by rfl, rfl⟩) (by assumption) ?_
            try simp only [Act.put, List.setIfInBounds_toArray, List.set_cons_zero, List.set_cons_succ]
            refine wpAnyH_take (i := 16) (oi := ⟨some 35, _, _, _, _, _⟩) (v := undef) rfl (by kernel_rfl) (by kernel_rfl) (by kernel_rfl) (fun _ _ _ h => h) (Or.inr ⟨by rfl, rfl⟩) (by assumption) ?_
            try simp only [Act.put, List.setIfInBounds_toArray, List.set_cons_zero, List.set_cons_succ]
            refine wpAnyH_take (i := 17) (oi := ⟨some 36, _, _, _, _, _⟩) (v := .bool false) rfl (by kernel_rfl) (by kernel_rfl) (by kernel_rfl) (fun _ _ _ h => h) (Or.inl ⟨by rfl, (fun w' hS => by clear hS; go_simp)⟩) (by assumption) ?_
            try simp only [Act.put, List.setIfInBounds_toArray, List.set_cons_zero, List.set_cons_succ]
            refine wpAnyH_take (i := 18) (oi := ⟨some 37, _, _, _, _, _⟩) (v := .bool false) rfl (by kernel_rfl) (by kernel_rfl) (by kernel_rfl) (fun _ _ _ h => h) (Or.inl ⟨by rfl, (fun w' hS => by clear hS; go_simp)⟩) (by assumption) ?_
            try simp only [Act.put, List.setIfInBounds_toArray, List.set_cons_zero, List.set_cons_succ]
            refine wpAnyH_done (by kernel_rfl) ?_ _
            clear hHeld2
            have Hbw3 := Lib.hid ((Hbw1.out.drew).trans (Below.mono HB3.out Hbw1.out.size))
            go_wp2
            go_roundw
            case rel => exact ⟨k + 1, by omega, by go_num, Hnext.out, Hbw3.out⟩
            case measure => simp [intOf]; omega
          · obtain ⟨y, hyk⟩ : ∃ y, l[k - 1]? = some y := ⟨l[k - 1]'(by omega), List.getElem?_eq_getElem (by omega)⟩
            have hnx : chkK mb ri l (k + 1) = ri y x := by rw [Hstep.out, okAt_pos hm h0 hyk]
            obtain ⟨b9, o9, hA9, hb9, hy⟩ := SlAt.lab (HS.out.below Hbw.out) hyk
            simp only [Option.some.injEq, Addr.mk.injEq] at hA9
            obtain ⟨rfl, rfl, _⟩ := hA9
            have Hb0 : Hid (b0 < (wr.alloc (.cells #[strV x.1, strV x.2] 57)).heap.size) := Lib.hid (Nat.lt_of_lt_of_le hb9 (below1 wr _).size)
            have py0 : (wr.alloc (.cells #[strV x.1, strV x.2] 57)).cell? ⟨b0, o0 + (k - 1) * 2, none⟩ = some (strV y.1) := (Below.cell (below1 wr _) (p := ⟨b0, o0 + (k - 1) * 2, none⟩) hb9).trans hy.1
            have py1 : (wr.alloc (.cells #[strV x.1, strV x.2] 57)).cell? ⟨b0, o0 + (k - 1) * 2 + 1, none⟩ = some (strV y.2) := (Below.cell (below1 wr _) (p := ⟨b0, o0 + (k - 1) * 2 + 1, none⟩) hb9).trans hy.2
            have Hnx := Lib.hid hnx
            have h0b : decide (0 < k) = true := by simp; omega
            have n1 : (1 : Int) ≤ (k : Int) := by omega
            have n2 : (k : Int) ≤ 6 := by omega
            have n3 : ((k : Int) - 1).toNat = k - 1 := by omega
            have n5 : (0 : Int) ≤ (k : Int) - 1 := by omega
            have n6 : (k : Int) - 1 < (l.length : Int) := by omega
            have n7 : ((k : Int) - 1 < 0) = False := by simp; omega
            have n8 : decide ((k : Int) - 1 < (l.length : Int)) = true := by simp; omega
            have n4 : IntKind.i64.wrap ((k : Int) - 1) = (k : Int) - 1 := IntWalk.i64_in _ (by omega)
            have KR := Lib.hid (fun w => Hri.out y x w)
            have Hyk := Lib.hid hyk
            have H0 := Lib.hid h0
            clear hm hnx hy hyk h0
            cases hr : ri y x
            · rw [hr] at KR
              have E2 : Hid (chkA mb ri l = 2) := by
                show chkA _ _ _ = _
                rw [E.out, if_pos]
                refine chkK_false (k := k + 1) ?_ hlt
                rw [Hnx.out, hr]
              clear hr
              go_upto_region 6 with fail
              go_region_held3 (fun w' => w'.cell? ⟨b0, o0 + (k - 1) * 2, none⟩ = some (strV y.1) ∧ w'.cell? ⟨b0, o0 + (k - 1) * 2 + 1, none⟩ = some (strV y.2) ∧ w'.cell? ⟨wr.heap.size, 0, none⟩ = some (strV x.1) ∧ w'.cell? ⟨wr.heap.size, 1, none⟩ = some (strV x.2)) (first | exact ⟨py0, py1, px0, px1⟩ | exact ⟨qy0, qy1, qx0, qx1⟩ | exact ⟨ry0, ry1, rx0, rx1⟩)
                (first | ((with_reducible refine (KC.out _).mono ?_); rintro e w3 ⟨rfl, hb3⟩; have qx0 := (hb3.cell (p := ⟨wr.heap.size, 0, none⟩) Hxl.out).trans px0; have qx1 := (hb3.cell (p := ⟨wr.heap.size, 1, none⟩) Hxl.out).trans px1; have qy0 := (hb3.cell (p := ⟨b0, o0 + (k - 1) * 2, none⟩) Hb0.out).trans py0; have qy1 := (hb3.cell (p := ⟨b0, o0 + (k - 1) * 2 + 1, none⟩) Hb0.out).trans py1; have HB3 := Lib.hid hb3; clear hb3) | ((with_reducible refine (KR.out _).mono ?_); rintro e w4 ⟨rfl, hb4⟩; have rx0 := (hb4.cell (p := ⟨wr.heap.size, 0, none⟩) (Nat.lt_of_lt_of_le Hxl.out HB3.out.size)).trans qx0; have rx1 := (hb4.cell (p := ⟨wr.heap.size, 1, none⟩) (Nat.lt_of_lt_of_le Hxl.out HB3.out.size)).trans qx1; have ry0 := (hb4.cell (p := ⟨b0, o0 + (k - 1) * 2, none⟩) (Nat.lt_of_lt_of_le Hb0.out HB3.out.size)).trans qy0; have ry1 := (hb4.cell (p := ⟨b0, o0 + (k - 1) * 2 + 1, none⟩) (Nat.lt_of_lt_of_le Hb0.out HB3.out.size)).trans qy1; have HB4 := Lib.hid hb4; clear hb4))
              have Hbw3 := Lib.hid ((Hbw1.out.drew).trans (Below.mono HB3.out Hbw1.out.size))
              have Hbw4 := Lib.hid (Hbw3.out.trans (HB4.out.mono Hbw3.out.size))
              clear n1 n3 n4 n5 n6 n7 n8
              go_wp2
              go_ret
              exact ⟨retI (by rw [E2.out]), Hbw4.out⟩
            · rw [hr] at KR
              have Hnext : Hid (chkK mb ri l (k + 1) = true) := Lib.hid (Hnx.out.trans hr)
              clear hr
              go_upto_region 6 with fail
              go_region_held3 (fun w' => w'.cell? ⟨b0, o0 + (k - 1) * 2, none⟩ = some (strV y.1) ∧ w'.cell? ⟨b0, o0 + (k - 1) * 2 + 1, none⟩ = some (strV y.2) ∧ w'.cell? ⟨wr.heap.size, 0, none⟩ = some (strV x.1) ∧ w'.cell? ⟨wr.heap.size, 1, none⟩ = some (strV x.2)) (first | exact ⟨py0, py1, px0, px1⟩ | exact ⟨qy0, qy1, qx0, qx1⟩ | exact ⟨ry0, ry1, rx0, rx1⟩)
                (first | ((with_reducible refine (KC.out _).mono ?_); rintro e w3 ⟨rfl, hb3⟩; have qx0 := (hb3.cell (p := ⟨wr.heap.size, 0, none⟩) Hxl.out).trans px0; have qx1 := (hb3.cell (p := ⟨wr.heap.size, 1, none⟩) Hxl.out).trans px1; have qy0 := (hb3.cell (p := ⟨b0, o0 + (k - 1) * 2, none⟩) Hb0.out).trans py0; have qy1 := (hb3.cell (p := ⟨b0, o0 + (k - 1) * 2 + 1, none⟩) Hb0.out).trans py1; have HB3 := Lib.hid hb3; clear hb3) | ((with_reducible refine (KR.out _).mono ?_); rintro e w4 ⟨rfl, hb4⟩; have rx0 := (hb4.cell (p := ⟨wr.heap.size, 0, none⟩) (Nat.lt_of_lt_of_le Hxl.out HB3.out.size)).trans qx0; have rx1 := (hb4.cell (p := ⟨wr.heap.size, 1, none⟩) (Nat.lt_of_lt_of_le Hxl.out HB3.out.size)).trans qx1; have ry0 := (hb4.cell (p := ⟨b0, o0 + (k - 1) * 2, none⟩) (Nat.lt_of_lt_of_le Hb0.out HB3.out.size)).trans qy0; have ry1 := (hb4.cell (p := ⟨b0, o0 + (k - 1) * 2 + 1, none⟩) (Nat.lt_of_lt_of_le Hb0.out HB3.out.size)).trans qy1; have HB4 := Lib.hid hb4; clear hb4))
              have Hbw3 := Lib.hid ((Hbw1.out.drew).trans (Below.mono HB3.out Hbw1.out.size))
              have Hbw4 := Lib.hid (Hbw3.out.trans (HB4.out.mono Hbw3.out.size))
              clear n1 n3 n4 n5 n6 n7 n8
              go_wp2
              go_roundw
              case rel => exact ⟨k + 1, by omega, by go_num, Hnext.out, Hbw4.out⟩
              case measure => simp [intOf]; omega
      · obtain rfl : k = l.length := by omega
        go_wp2
        go_ret
        exact ⟨retI (by rw [E.out, Hp.out]; rfl), Hbw.out⟩

end Go.Proofs.YtfpbdfagcfdbbaaGreat.La

namespace Go.Proofs.YtfpbdfagcfdbbaaGreat.La
open Go.RowKit

set_option maxRecDepth 100000 in
set_option maxHeartbeats 4000000 in
theorem checkT_any (mb : Int × List UInt8 × List UInt8 → Bool) (ri : Int × List UInt8 × List UInt8 → Int × List UInt8 × List UInt8 → Bool) (g r : FuncId) (A : Option Addr) (c : Nat) (l : List (Int × List UInt8 × List UInt8)) (w : World) (hn : l.length ≤ 1000) (_hc : l.length ≤ c) (_hcm : c ≤ 9223372036854775807) (hs : SlAt w A (cellsT l)) (hbig : ∀ x ∈ l, x.2.1.length ≤ 9223372036854775807 ∧ x.2.2.length ≤ 9223372036854775807)
    (hg1 : ∀ (args : Array Value) (w : World), (callFunc g args).run Tryz.prog w = .ok (.enter g args) w) (hr1 : ∀ (args : Array Value) (w : World), (callFunc r args).run Tryz.prog w = .ok (.enter r args) w)
    (hcl : ∀ (x : Int × List UInt8 × List UInt8) (w : World), x.2.1.length ≤ 9223372036854775807 ∧ x.2.2.length ≤ 9223372036854775807 → Calls Tryz.prog g #[terV x] w fun e w' => e = .returned (.bool (mb x)) ∧ Below w.heap.size w w')
    (hri : ∀ (a b : Int × List UInt8 × List UInt8) (w : World), Calls Tryz.prog r #[terV a, terV b] w fun e w' => e = .returned (.bool (ri a b)) ∧ Below w.heap.size w w') :
    Calls Tryz.prog 168 #[.slice A l.length c, .func (Fn.func g) #[] #[], .func (Fn.func r) #[] #[]] w fun e w' => e = .returned (.int .i64 (chkA mb ri l)) ∧ Below w.heap.size w w' := by
  have HS := Lib.hid hs
  have Hcl := Lib.hid hcl
  have Hri := Lib.hid hri
  have Hbig := Lib.hid hbig
  clear hs hcl hri hbig
  by_cases h6 : 6 < l.length
  · have E : Hid (chkA mb ri l = 2) := by show chkA _ _ _ = _; unfold chkA; rw [if_pos (.inl h6)]
    have h6b : decide (6 < l.length) = true := by simpa using h6
    have h6i : (6 : Int) < (l.length : Int) := by omega
    go_enter Tryz.func168, Tryz.ntmps168
    go_wp2
    go_ret
    exact ⟨retI (by rw [E.out]), Below.refl _ _⟩
  · have h6b : decide (6 < l.length) = false := by simpa using h6
    have h6i : (l.length : Int) ≤ 6 := by omega
    have E : Hid (chkA mb ri l = if chkK mb ri l l.length = false then 2 else 0) := by show chkA _ _ _ = _; unfold chkA; by_cases hq : chkK mb ri l l.length = false; rw [if_pos (.inr hq), if_pos hq]; rw [if_neg (fun h => h.elim h6 hq), if_neg hq]
    have H6 := Lib.hid h6
    clear h6
    go_enter Tryz.func168, Tryz.ntmps168
    go_wp2
    go_loopw [14] (fun i wr => ∃ k : Nat, k ≤ l.length ∧ i = .int .i64 k ∧ chkK mb ri l k = true ∧ Below w.heap.size w wr) (fun i _ => l.length - (intOf i).toNat)
    case atStart => exact ⟨0, by omega, rfl, rfl, Below.refl _ _⟩
    case round =>
      obtain ⟨k, hk, rfl, hp, hbw⟩ := hrel
      have Hp := Lib.hid hp
      have Hbw := Lib.hid hbw
      clear hp hbw
      by_cases hlt : k < l.length
      · obtain ⟨x, hxk⟩ : ∃ x, l[k]? = some x := ⟨l[k], List.getElem?_eq_getElem hlt⟩
        obtain ⟨b0, o0, hA, hb0, hx⟩ := SlAt.ter (HS.out.below Hbw.out) hxk
        have Hbx := Lib.hid (Hbig.out x (List.mem_of_getElem? hxk))
        have hstep : chkK mb ri l (k + 1) = okAt mb ri l k x := by rw [chkK, Hp.out, hxk]; rfl
        have Hstep := Lib.hid hstep
        have hA' := hA
        subst hA
        have hx0 : wr.cell? ⟨b0, o0 + k * 3, none⟩ = some (.int .i64 x.1) := hx.1
        have hx1 : wr.cell? ⟨b0, o0 + k * 3 + 1, none⟩ = some (strV x.2.1) := hx.2.1
        have hx2 : wr.cell? ⟨b0, o0 + k * 3 + 2, none⟩ = some (strV x.2.2) := hx.2.2
        have px0 : (wr.alloc (.cells #[.int .i64 x.1, strV x.2.1, strV x.2.2] 64)).cell? ⟨wr.heap.size, 0, none⟩ = some (.int .i64 x.1) := Blk.cell (Blk.new wr #[.int .i64 x.1, strV x.2.1, strV x.2.2] 64) 0
        have px1 : (wr.alloc (.cells #[.int .i64 x.1, strV x.2.1, strV x.2.2] 64)).cell? ⟨wr.heap.size, 1, none⟩ = some (strV x.2.1) := Blk.cell (Blk.new wr #[.int .i64 x.1, strV x.2.1, strV x.2.2] 64) 1
        have px2 : (wr.alloc (.cells #[.int .i64 x.1, strV x.2.1, strV x.2.2] 64)).cell? ⟨wr.heap.size, 2, none⟩ = some (strV x.2.2) := Blk.cell (Blk.new wr #[.int .i64 x.1, strV x.2.1, strV x.2.2] 64) 2
        have Hxl : Hid (wr.heap.size < (wr.alloc (.cells #[.int .i64 x.1, strV x.2.1, strV x.2.2] 64)).heap.size) := Lib.hid (Blk.lt (Blk.new wr _ _))
        have Hbw1 := Lib.hid (Hbw.out.alloc Hbw.out.size (.cells #[.int .i64 x.1, strV x.2.1, strV x.2.2] 64))
        have Hxk := Lib.hid hxk
        clear hx hxk hstep hA'
        cases hm : mb x
        · have E2 : Hid (chkA mb ri l = 2) := by
            show chkA _ _ _ = _
            rw [E.out, if_pos]
            refine chkK_false (k := k + 1) ?_ hlt
            rw [Hstep.out, okAt_no hm]
          have KC := Lib.hid (fun w => Hcl.out x w Hbx.out)
          rw [hm] at KC
          clear hm
          go_upto_region 6 with fail
          refine wp_region_held_drew (S := fun w' => w'.cell? ⟨wr.heap.size, 0, none⟩ = some (.int .i64 x.1) ∧ w'.cell? ⟨wr.heap.size, 1, none⟩ = some (strV x.2.1) ∧ w'.cell? ⟨wr.heap.size, 2, none⟩ = some (strV x.2.2)) (by kernel_rfl) ⟨px0, px1, px2⟩ (fun hHeld => ?_)
          refine wpAnyH_take (i := 0) (oi := ⟨some 19, _, _, _, _, _⟩) (v := .func (Fn.func g) #[] #[]) rfl (by kernel_rfl) (by kernel_rfl) (by kernel_rfl) (fun _ _ _ h => h) (Or.inl ⟨by rfl, (fun w' hS => by clear hS; go_simp)⟩) (by assumption) ?_
          try simp only [Act.put, List.setIfInBounds_toArray, List.set_cons_zero, List.set_cons_succ]
          refine wpAnyH_take (i := 1) (oi := ⟨some 20, _, _, _, _, _⟩) (v := .agg #[.int .i64 x.1, strV x.2.1, strV x.2.2]) rfl (by kernel_rfl) (by kernel_rfl) (by kernel_rfl) (fun _ _ _ h => h) (Or.inl ⟨by rfl, (fun w' hS => by obtain ⟨s0, s1, s2⟩ := hS; go_simp)⟩) (by assumption) ?_
          try simp only [Act.put, List.setIfInBounds_toArray, List.set_cons_zero, List.set_cons_succ]
          refine wpAnyH_ready (rs := [2]) (by kernel_rfl) (by simp) ?_
          refine AllReadyH.cons (o := { dst := some 21, op := Op.call { callee := Callee.value (Operand.tmp 19), args := #[Operand.tmp 20], argTypes := #[64] }, type := 4, pos := "label.go:46", after := #[{ on := 0, ground := Ground.data }, { on := 1, ground := Ground.data }], guard := none }) rfl (fun K2 hK => ?_) AllReadyH.nil
          rw [if_pos (by rfl)]
          go_simp
          refine (KC.out _).mono ?_
          rintro e w3 ⟨rfl, hb3⟩
          have qx0 := (hb3.cell (p := ⟨wr.heap.size, 0, none⟩) Hxl.out).trans px0
          have qx1 := (hb3.cell (p := ⟨wr.heap.size, 1, none⟩) Hxl.out).trans px1
          have qx2 := (hb3.cell (p := ⟨wr.heap.size, 2, none⟩) Hxl.out).trans px2
          have HB3 := Lib.hid hb3
          clear hb3
          refine hK.out _ _ ⟨qx0, qx1, qx2⟩ (fun hHeld2 => ?_)
          clear hK K2 hHeld
          try simp only [Act.put, List.setIfInBounds_toArray, List.set_cons_zero, List.set_cons_succ]
          refine wpAnyH_take (i := 3) (oi := ⟨some 22, _, _, _, _, _⟩) (v := .bool true) rfl (by kernel_rfl) (by kernel_rfl) (by kernel_rfl) (fun _ _ _ h => h) (Or.inl ⟨by rfl, (fun w' hS => by clear hS; go_simp)⟩) (by assumption) ?_
          try simp only [Act.put, List.setIfInBounds_toArray, List.set_cons_zero, List.set_cons_succ]
          refine wpAnyH_take (i := 4) (oi := ⟨some 23, _, _, _, _, _⟩) (v := .bool true) rfl (by kernel_rfl) (by kernel_rfl) (by kernel_rfl) (fun _ _ _ h => h) (Or.inl ⟨by rfl, (fun w' hS => by clear hS; go_simp)⟩) (by assumption) ?_
          try simp only [Act.put, List.setIfInBounds_toArray, List.set_cons_zero, List.set_cons_succ]
          refine wpAnyH_take (i := 5) (oi := ⟨some 24, _, _, _, _, _⟩) (v := undef) rfl (by kernel_rfl) (by kernel_rfl) (by kernel_rfl) (fun _ _ _ h => h) (Or.inr ⟨by rfl, rfl⟩) (by assumption) ?_
          try simp only [Act.put, List.setIfInBounds_toArray, List.set_cons_zero, List.set_cons_succ]
          refine wpAnyH_take (i := 6) (oi := ⟨some 25, _, _, _, _, _⟩) (v := undef) rfl (by kernel_rfl) (by kernel_rfl) (by kernel_rfl) (fun _ _ _ h => h) (Or.inr ⟨by rfl, rfl⟩) (by assumption) ?_
          try simp only [Act.put, List.setIfInBounds_toArray, List.set_cons_zero, List.set_cons_succ]
          refine wpAnyH_take (i := 7) (oi := ⟨some 26, _, _, _, _, _⟩) (v := undef) rfl (by kernel_rfl) (by kernel_rfl) (by kernel_rfl) (fun _ _ _ h => h) (Or.inr ⟨by rfl, rfl⟩) (by assumption) ?_
          try simp only [Act.put, List.setIfInBounds_toArray, List.set_cons_zero, List.set_cons_succ]
          refine wpAnyH_take (i := 8) (oi := ⟨some 27, _, _, _, _, _⟩) (v := undef) rfl (by kernel_rfl) (by kernel_rfl) (by kernel_rfl) (fun _ _ _ h => h) (Or.inr ⟨by rfl, rfl⟩) (by assumption) ?_
          try simp only [Act.put, List.setIfInBounds_toArray, List.set_cons_zero, List.set_cons_succ]
          refine wpAnyH_take (i := 9) (oi := ⟨some 28, _, _, _, _, _⟩) (v := undef) rfl (by kernel_rfl) (by kernel_rfl) (by kernel_rfl) (fun _ _ _ h => h) (Or.inr ⟨by rfl, rfl⟩) (by assumption) ?_
          try simp only [Act.put, List.setIfInBounds_toArray, List.set_cons_zero, List.set_cons_succ]
          refine wpAnyH_take (i := 10) (oi := ⟨some 29, _, _, _, _, _⟩) (v := undef) rfl (by kernel_rfl) (by kernel_rfl) (by kernel_rfl) (fun _ _ _ h => h) (Or.inr ⟨by rfl, rfl⟩) (by assumption) ?_
          try simp only [Act.put, List.setIfInBounds_toArray, List.set_cons_zero, List.set_cons_succ]
          refine wpAnyH_take (i := 11) (oi := ⟨some 30, _, _, _, _, _⟩) (v := undef) rfl (by kernel_rfl) (by kernel_rfl) (by kernel_rfl) (fun _ _ _ h => h) (Or.inr ⟨by rfl, rfl⟩) (by assumption) ?_
          try simp only [Act.put, List.setIfInBounds_toArray, List.set_cons_zero, List.set_cons_succ]
          refine wpAnyH_take (i := 12) (oi := ⟨some 31, _, _, _, _, _⟩) (v := undef) rfl (by kernel_rfl) (by kernel_rfl) (by kernel_rfl) (fun _ _ _ h => h) (Or.inr ⟨by rfl, rfl⟩) (by assumption) ?_
          try simp only [Act.put, List.setIfInBounds_toArray, List.set_cons_zero, List.set_cons_succ]
          refine wpAnyH_take (i := 13) (oi := ⟨some 32, _, _, _, _, _⟩) (v := undef) rfl (by kernel_rfl) (by kernel_rfl) (by kernel_rfl) (fun _ _ _ h => h) (Or.inr ⟨by rfl, rfl⟩) (by assumption) ?_
          try simp only [Act.put, List.setIfInBounds_toArray, List.set_cons_zero, List.set_cons_succ]
          refine wpAnyH_take (i := 14) (oi := ⟨some 33, _, _, _, _, _⟩) (v := undef) rfl (by kernel_rfl) (by kernel_rfl) (by kernel_rfl) (fun _ _ _ h => h) (Or.inr ⟨by rfl, rfl⟩) (by assumption) ?_
          try simp only [Act.put, List.setIfInBounds_toArray, List.set_cons_zero, List.set_cons_succ]
          refine wpAnyH_take (i := 15) (oi := ⟨some 34, _, _, _, _, _⟩) (v := undef) rfl (by kernel_rfl) (by kernel_rfl) (by kernel_rfl) (fun _ _ _ h => h) (Or.inr ⟨by rfl, rfl⟩) (by assumption) ?_
          try simp only [Act.put, List.setIfInBounds_toArray, List.set_cons_zero, List.set_cons_succ]
          refine wpAnyH_take (i := 16) (oi := ⟨some 35, _, _, _, _, _⟩) (v := undef) rfl (by kernel_rfl) (by kernel_rfl) (by kernel_rfl) (fun _ _ _ h => h) (Or.inr ⟨by rfl, rfl⟩) (by assumption) ?_
          try simp only [Act.put, List.setIfInBounds_toArray, List.set_cons_zero, List.set_cons_succ]
          refine wpAnyH_take (i := 17) (oi := ⟨some 36, _, _, _, _, _⟩) (v := undef) rfl (by kernel_rfl) (by kernel_rfl) (by kernel_rfl) (fun _ _ _ h => h) (Or.inr ⟨by rfl, rfl⟩) (by assumption) ?_
          try simp only [Act.put, List.setIfInBounds_toArray, List.set_cons_zero, List.set_cons_succ]
          refine wpAnyH_take (i := 18) (oi := ⟨some 37, _, _, _, _, _⟩) (v := .bool true) rfl (by kernel_rfl) (by kernel_rfl) (by kernel_rfl) (fun _ _ _ h => h) (Or.inl ⟨by rfl, (fun w' hS => by clear hS; go_simp)⟩) (by assumption) ?_
          try simp only [Act.put, List.setIfInBounds_toArray, List.set_cons_zero, List.set_cons_succ]
          refine wpAnyH_done (by kernel_rfl) ?_ _
          clear hHeld2
          have Hbw3 := Lib.hid ((Hbw1.out.drew).trans (Below.mono HB3.out Hbw1.out.size))
          go_wp2
          go_ret
          exact ⟨retI (by rw [E2.out]), Hbw3.out⟩
        · have KC := Lib.hid (fun w => Hcl.out x w Hbx.out)
          rw [hm] at KC
          by_cases h0 : k = 0
          · have hnext : chkK mb ri l (k + 1) = true := by rw [Hstep.out, okAt_zero hm h0]
            have Hnext := Lib.hid hnext
            have h0i : (k : Int) ≤ 0 := by omega
            have h0b : decide (0 < k) = false := by simp [h0]
            have H0 := Lib.hid h0
            clear hm hnext h0
            go_upto_region 6 with fail
            refine wp_region_held_drew (S := fun w' => w'.cell? ⟨wr.heap.size, 0, none⟩ = some (.int .i64 x.1) ∧ w'.cell? ⟨wr.heap.size, 1, none⟩ = some (strV x.2.1) ∧ w'.cell? ⟨wr.heap.size, 2, none⟩ = some (strV x.2.2)) (by kernel_rfl) ⟨px0, px1, px2⟩ (fun hHeld => ?_)
            refine wpAnyH_take (i := 0) (oi := ⟨some 19, _, _, _, _, _⟩) (v := .func (Fn.func g) #[] #[]) rfl (by kernel_rfl) (by kernel_rfl) (by kernel_rfl) (fun _ _ _ h => h) (Or.inl ⟨by rfl, (fun w' hS => by clear hS; go_simp)⟩) (by assumption) ?_
            try simp only [Act.put, List.setIfInBounds_toArray, List.set_cons_zero, List.set_cons_succ]
            refine wpAnyH_take (i := 1) (oi := ⟨some 20, _, _, _, _, _⟩) (v := .agg #[.int .i64 x.1, strV x.2.1, strV x.2.2]) rfl (by kernel_rfl) (by kernel_rfl) (by kernel_rfl) (fun _ _ _ h => h) (Or.inl ⟨by rfl, (fun w' hS => by obtain ⟨s0, s1, s2⟩ := hS; go_simp)⟩) (by assumption) ?_
            try simp only [Act.put, List.setIfInBounds_toArray, List.set_cons_zero, List.set_cons_succ]
            refine wpAnyH_ready (rs := [2]) (by kernel_rfl) (by simp) ?_
            refine AllReadyH.cons (o := { dst := some 21, op := Op.call { callee := Callee.value (Operand.tmp 19), args := #[Operand.tmp 20], argTypes := #[64] }, type := 4, pos := "label.go:46", after := #[{ on := 0, ground := Ground.data }, { on := 1, ground := Ground.data }], guard := none }) rfl (fun K2 hK => ?_) AllReadyH.nil
            rw [if_pos (by rfl)]
            go_simp
            refine (KC.out _).mono ?_
            rintro e w3 ⟨rfl, hb3⟩
            have qx0 := (hb3.cell (p := ⟨wr.heap.size, 0, none⟩) Hxl.out).trans px0
            have qx1 := (hb3.cell (p := ⟨wr.heap.size, 1, none⟩) Hxl.out).trans px1
            have qx2 := (hb3.cell (p := ⟨wr.heap.size, 2, none⟩) Hxl.out).trans px2
            have HB3 := Lib.hid hb3
            clear hb3
            refine hK.out _ _ ⟨qx0, qx1, qx2⟩ (fun hHeld2 => ?_)
            clear hK K2 hHeld
            try simp only [Act.put, List.setIfInBounds_toArray, List.set_cons_zero, List.set_cons_succ]
            refine wpAnyH_take (i := 3) (oi := ⟨some 22, _, _, _, _, _⟩) (v := .bool false) rfl (by kernel_rfl) (by kernel_rfl) (by kernel_rfl) (fun _ _ _ h => h) (Or.inl ⟨by rfl, (fun w' hS => by clear hS; go_simp)⟩) (by assumption) ?_
            try simp only [Act.put, List.setIfInBounds_toArray, List.set_cons_zero, List.set_cons_succ]
            refine wpAnyH_take (i := 4) (oi := ⟨some 23, _, _, _, _, _⟩) (v := .bool false) rfl (by kernel_rfl) (by kernel_rfl) (by kernel_rfl) (fun _ _ _ h => h) (Or.inl ⟨by rfl, (fun w' hS => by clear hS; go_simp)⟩) (by assumption) ?_
            try simp only [Act.put, List.setIfInBounds_toArray, List.set_cons_zero, List.set_cons_succ]
            refine wpAnyH_take (i := 5) (oi := ⟨some 24, _, _, _, _, _⟩) (v := .int .i64 (k : Int)) rfl (by kernel_rfl) (by kernel_rfl) (by kernel_rfl) (fun _ _ _ h => h) (Or.inl ⟨by rfl, (fun w' hS => by clear hS; go_simp)⟩) (by assumption) ?_
            try simp only [Act.put, List.setIfInBounds_toArray, List.set_cons_zero, List.set_cons_succ]
            refine wpAnyH_take (i := 6) (oi := ⟨some 25, _, _, _, _, _⟩) (v := .bool false) rfl (by kernel_rfl) (by kernel_rfl) (by kernel_rfl) (fun _ _ _ h => h) (Or.inl ⟨by rfl, (fun w' hS => by clear hS; go_simp)⟩) (by assumption) ?_
            try simp only [Act.put, List.setIfInBounds_toArray, List.set_cons_zero, List.set_cons_succ]
            refine wpAnyH_take (i := 7) (oi := ⟨some 26, _, _, _, _, _⟩) (v := .bool false) rfl (by kernel_rfl) (by kernel_rfl) (by kernel_rfl) (fun _ _ _ h => h) (Or.inl ⟨by rfl, (fun w' hS => by clear hS; go_simp)⟩) (by assumption) ?_
            try simp only [Act.put, List.setIfInBounds_toArray, List.set_cons_zero, List.set_cons_succ]
            refine wpAnyH_take (i := 8) (oi := ⟨some 27, _, _, _, _, _⟩) (v := undef) rfl (by kernel_rfl) (by kernel_rfl) (by kernel_rfl) (fun _ _ _ h => h) (Or.inr ⟨by rfl, rfl⟩) (by assumption) ?_
            try simp only [Act.put, List.setIfInBounds_toArray, List.set_cons_zero, List.set_cons_succ]
            refine wpAnyH_take (i := 9) (oi := ⟨some 28, _, _, _, _, _⟩) (v := undef) rfl (by kernel_rfl) (by kernel_rfl) (by kernel_rfl) (fun _ _ _ h => h) (Or.inr ⟨by rfl, rfl⟩) (by assumption) ?_
            try simp only [Act.put, List.setIfInBounds_toArray, List.set_cons_zero, List.set_cons_succ]
            refine wpAnyH_take (i := 10) (oi := ⟨some 29, _, _, _, _, _⟩) (v := undef) rfl (by kernel_rfl) (by kernel_rfl) (by kernel_rfl) (fun _ _ _ h => h) (Or.inr ⟨by rfl, rfl⟩) (by assumption) ?_
            try simp only [Act.put, List.setIfInBounds_toArray, List.set_cons_zero, List.set_cons_succ]
            refine wpAnyH_take (i := 11) (oi := ⟨some 30, _, _, _, _, _⟩) (v := undef) rfl (by kernel_rfl) (by kernel_rfl) (by kernel_rfl) (fun _ _ _ h => h) (Or.inr ⟨by rfl, rfl⟩) (by assumption) ?_
            try simp only [Act.put, List.setIfInBounds_toArray, List.set_cons_zero, List.set_cons_succ]
            refine wpAnyH_take (i := 12) (oi := ⟨some 31, _, _, _, _, _⟩) (v := undef) rfl (by kernel_rfl) (by kernel_rfl) (by kernel_rfl) (fun _ _ _ h => h) (Or.inr ⟨by rfl, rfl⟩) (by assumption) ?_
            try simp only [Act.put, List.setIfInBounds_toArray, List.set_cons_zero, List.set_cons_succ]
            refine wpAnyH_take (i := 13) (oi := ⟨some 32, _, _, _, _, _⟩) (v := undef) rfl (by kernel_rfl) (by kernel_rfl) (by kernel_rfl) (fun _ _ _ h => h) (Or.inr ⟨by rfl, rfl⟩) (by assumption) ?_
            try simp only [Act.put, List.setIfInBounds_toArray, List.set_cons_zero, List.set_cons_succ]
            refine wpAnyH_take (i := 14) (oi := ⟨some 33, _, _, _, _, _⟩) (v := undef) rfl (by kernel_rfl) (by kernel_rfl) (by kernel_rfl) (fun _ _ _ h => h) (Or.inr ⟨by rfl, rfl⟩) (by assumption) ?_
            try simp only [Act.put, List.setIfInBounds_toArray, List.set_cons_zero, List.set_cons_succ]
            refine wpAnyH_take (i := 15) (oi := ⟨some 34, _, _, _, _, _⟩) (v := undef) rfl (by kernel_rfl) (by kernel_rfl) (by kernel_rfl) (fun _ _ _ h => h) (Or.inr ⟨by rfl, rfl⟩) (by assumption) ?_
            try simp only [Act.put, List.setIfInBounds_toArray, List.set_cons_zero, List.set_cons_succ]
            refine wpAnyH_take (i := 16) (oi := ⟨some 35, _, _, _, _, _⟩) (v := undef) rfl (by kernel_rfl) (by kernel_rfl) (by kernel_rfl) (fun _ _ _ h => h) (Or.inr ⟨by rfl, rfl⟩) (by assumption) ?_
            try simp only [Act.put, List.setIfInBounds_toArray, List.set_cons_zero, List.set_cons_succ]
            refine wpAnyH_take (i := 17) (oi := ⟨some 36, _, _, _, _, _⟩) (v := .bool false) rfl (by kernel_rfl) (by kernel_rfl) (by kernel_rfl) (fun _ _ _ h => h) (Or.inl ⟨by rfl, (fun w' hS => by clear hS; go_simp)⟩) (by assumption) ?_
            try simp only [Act.put, List.setIfInBounds_toArray, List.set_cons_zero, List.set_cons_succ]
            refine wpAnyH_take (i := 18) (oi := ⟨some 37, _, _, _, _, _⟩) (v := .bool false) rfl (by kernel_rfl) (by kernel_rfl) (by kernel_rfl) (fun _ _ _ h => h) (Or.inl ⟨by rfl, (fun w' hS => by clear hS; go_simp)⟩) (by assumption) ?_
            try simp only [Act.put, List.setIfInBounds_toArray, List.set_cons_zero, List.set_cons_succ]
            refine wpAnyH_done (by kernel_rfl) ?_ _
            clear hHeld2
            have Hbw3 := Lib.hid ((Hbw1.out.drew).trans (Below.mono HB3.out Hbw1.out.size))
            go_wp2
            go_roundw
            case rel => exact ⟨k + 1, by omega, by go_num, Hnext.out, Hbw3.out⟩
            case measure => simp [intOf]; omega
          · obtain ⟨y, hyk⟩ : ∃ y, l[k - 1]? = some y := ⟨l[k - 1]'(by omega), List.getElem?_eq_getElem (by omega)⟩
            have hnx : chkK mb ri l (k + 1) = ri y x := by rw [Hstep.out, okAt_pos hm h0 hyk]
            obtain ⟨b9, o9, hA9, hb9, hy⟩ := SlAt.ter (HS.out.below Hbw.out) hyk
            simp only [Option.some.injEq, Addr.mk.injEq] at hA9
            obtain ⟨rfl, rfl, _⟩ := hA9
            have Hb0 : Hid (b0 < (wr.alloc (.cells #[.int .i64 x.1, strV x.2.1, strV x.2.2] 64)).heap.size) := Lib.hid (Nat.lt_of_lt_of_le hb9 (below1 wr _).size)
            have py0 : (wr.alloc (.cells #[.int .i64 x.1, strV x.2.1, strV x.2.2] 64)).cell? ⟨b0, o0 + (k - 1) * 3, none⟩ = some (.int .i64 y.1) := (Below.cell (below1 wr _) (p := ⟨b0, o0 + (k - 1) * 3, none⟩) hb9).trans hy.1
            have py1 : (wr.alloc (.cells #[.int .i64 x.1, strV x.2.1, strV x.2.2] 64)).cell? ⟨b0, o0 + (k - 1) * 3 + 1, none⟩ = some (strV y.2.1) := (Below.cell (below1 wr _) (p := ⟨b0, o0 + (k - 1) * 3 + 1, none⟩) hb9).trans hy.2.1
            have py2 : (wr.alloc (.cells #[.int .i64 x.1, strV x.2.1, strV x.2.2] 64)).cell? ⟨b0, o0 + (k - 1) * 3 + 2, none⟩ = some (strV y.2.2) := (Below.cell (below1 wr _) (p := ⟨b0, o0 + (k - 1) * 3 + 2, none⟩) hb9).trans hy.2.2
            have Hnx := Lib.hid hnx
            have h0b : decide (0 < k) = true := by simp; omega
            have n1 : (1 : Int) ≤ (k : Int) := by omega
            have n2 : (k : Int) ≤ 6 := by omega
            have n3 : ((k : Int) - 1).toNat = k - 1 := by omega
            have n5 : (0 : Int) ≤ (k : Int) - 1 := by omega
            have n6 : (k : Int) - 1 < (l.length : Int) := by omega
            have n7 : ((k : Int) - 1 < 0) = False := by simp; omega
            have n8 : decide ((k : Int) - 1 < (l.length : Int)) = true := by simp; omega
            have n4 : IntKind.i64.wrap ((k : Int) - 1) = (k : Int) - 1 := IntWalk.i64_in _ (by omega)
            have KR := Lib.hid (fun w => Hri.out y x w)
            have Hyk := Lib.hid hyk
            have H0 := Lib.hid h0
            clear hm hnx hy hyk h0
            cases hr : ri y x
            · rw [hr] at KR
              have E2 : Hid (chkA mb ri l = 2) := by
                show chkA _ _ _ = _
                rw [E.out, if_pos]
                refine chkK_false (k := k + 1) ?_ hlt
                rw [Hnx.out, hr]
              clear hr
              go_upto_region 6 with fail
              go_region_held3 (fun w' => w'.cell? ⟨b0, o0 + (k - 1) * 3, none⟩ = some (.int .i64 y.1) ∧ w'.cell? ⟨b0, o0 + (k - 1) * 3 + 1, none⟩ = some (strV y.2.1) ∧ w'.cell? ⟨b0, o0 + (k - 1) * 3 + 2, none⟩ = some (strV y.2.2) ∧ w'.cell? ⟨wr.heap.size, 0, none⟩ = some (.int .i64 x.1) ∧ w'.cell? ⟨wr.heap.size, 1, none⟩ = some (strV x.2.1) ∧ w'.cell? ⟨wr.heap.size, 2, none⟩ = some (strV x.2.2)) (first | exact ⟨py0, py1, py2, px0, px1, px2⟩ | exact ⟨qy0, qy1, qy2, qx0, qx1, qx2⟩ | exact ⟨ry0, ry1, ry2, rx0, rx1, rx2⟩)
                (first | ((with_reducible refine (KC.out _).mono ?_); rintro e w3 ⟨rfl, hb3⟩; have qx0 := (hb3.cell (p := ⟨wr.heap.size, 0, none⟩) Hxl.out).trans px0; have qx1 := (hb3.cell (p := ⟨wr.heap.size, 1, none⟩) Hxl.out).trans px1; have qx2 := (hb3.cell (p := ⟨wr.heap.size, 2, none⟩) Hxl.out).trans px2; have qy0 := (hb3.cell (p := ⟨b0, o0 + (k - 1) * 3, none⟩) Hb0.out).trans py0; have qy1 := (hb3.cell (p := ⟨b0, o0 + (k - 1) * 3 + 1, none⟩) Hb0.out).trans py1; have qy2 := (hb3.cell (p := ⟨b0, o0 + (k - 1) * 3 + 2, none⟩) Hb0.out).trans py2; have HB3 := Lib.hid hb3; clear hb3) | ((with_reducible refine (KR.out _).mono ?_); rintro e w4 ⟨rfl, hb4⟩; have rx0 := (hb4.cell (p := ⟨wr.heap.size, 0, none⟩) (Nat.lt_of_lt_of_le Hxl.out HB3.out.size)).trans qx0; have rx1 := (hb4.cell (p := ⟨wr.heap.size, 1, none⟩) (Nat.lt_of_lt_of_le Hxl.out HB3.out.size)).trans qx1; have rx2 := (hb4.cell (p := ⟨wr.heap.size, 2, none⟩) (Nat.lt_of_lt_of_le Hxl.out HB3.out.size)).trans qx2; have ry0 := (hb4.cell (p := ⟨b0, o0 + (k - 1) * 3, none⟩) (Nat.lt_of_lt_of_le Hb0.out HB3.out.size)).trans qy0; have ry1 := (hb4.cell (p := ⟨b0, o0 + (k - 1) * 3 + 1, none⟩) (Nat.lt_of_lt_of_le Hb0.out HB3.out.size)).trans qy1; have ry2 := (hb4.cell (p := ⟨b0, o0 + (k - 1) * 3 + 2, none⟩) (Nat.lt_of_lt_of_le Hb0.out HB3.out.size)).trans qy2; have HB4 := Lib.hid hb4; clear hb4))
              have Hbw3 := Lib.hid ((Hbw1.out.drew).trans (Below.mono HB3.out Hbw1.out.size))
              have Hbw4 := Lib.hid (Hbw3.out.trans (HB4.out.mono Hbw3.out.size))
              clear n1 n3 n4 n5 n6 n7 n8
              go_wp2
              go_ret
              exact ⟨retI (by rw [E2.out]), Hbw4.out⟩
            · rw [hr] at KR
              have Hnext : Hid (chkK mb ri l (k + 1) = true) := Lib.hid (Hnx.out.trans hr)
              clear hr
              go_upto_region 6 with fail
              go_region_held3 (fun w' => w'.cell? ⟨b0, o0 + (k - 1) * 3, none⟩ = some (.int .i64 y.1) ∧ w'.cell? ⟨b0, o0 + (k - 1) * 3 + 1, none⟩ = some (strV y.2.1) ∧ w'.cell? ⟨b0, o0 + (k - 1) * 3 + 2, none⟩ = some (strV y.2.2) ∧ w'.cell? ⟨wr.heap.size, 0, none⟩ = some (.int .i64 x.1) ∧ w'.cell? ⟨wr.heap.size, 1, none⟩ = some (strV x.2.1) ∧ w'.cell? ⟨wr.heap.size, 2, none⟩ = some (strV x.2.2)) (first | exact ⟨py0, py1, py2, px0, px1, px2⟩ | exact ⟨qy0, qy1, qy2, qx0, qx1, qx2⟩ | exact ⟨ry0, ry1, ry2, rx0, rx1, rx2⟩)
                (first | ((with_reducible refine (KC.out _).mono ?_); rintro e w3 ⟨rfl, hb3⟩; have qx0 := (hb3.cell (p := ⟨wr.heap.size, 0, none⟩) Hxl.out).trans px0; have qx1 := (hb3.cell (p := ⟨wr.heap.size, 1, none⟩) Hxl.out).trans px1; have qx2 := (hb3.cell (p := ⟨wr.heap.size, 2, none⟩) Hxl.out).trans px2; have qy0 := (hb3.cell (p := ⟨b0, o0 + (k - 1) * 3, none⟩) Hb0.out).trans py0; have qy1 := (hb3.cell (p := ⟨b0, o0 + (k - 1) * 3 + 1, none⟩) Hb0.out).trans py1; have qy2 := (hb3.cell (p := ⟨b0, o0 + (k - 1) * 3 + 2, none⟩) Hb0.out).trans py2; have HB3 := Lib.hid hb3; clear hb3) | ((with_reducible refine (KR.out _).mono ?_); rintro e w4 ⟨rfl, hb4⟩; have rx0 := (hb4.cell (p := ⟨wr.heap.size, 0, none⟩) (Nat.lt_of_lt_of_le Hxl.out HB3.out.size)).trans qx0; have rx1 := (hb4.cell (p := ⟨wr.heap.size, 1, none⟩) (Nat.lt_of_lt_of_le Hxl.out HB3.out.size)).trans qx1; have rx2 := (hb4.cell (p := ⟨wr.heap.size, 2, none⟩) (Nat.lt_of_lt_of_le Hxl.out HB3.out.size)).trans qx2; have ry0 := (hb4.cell (p := ⟨b0, o0 + (k - 1) * 3, none⟩) (Nat.lt_of_lt_of_le Hb0.out HB3.out.size)).trans qy0; have ry1 := (hb4.cell (p := ⟨b0, o0 + (k - 1) * 3 + 1, none⟩) (Nat.lt_of_lt_of_le Hb0.out HB3.out.size)).trans qy1; have ry2 := (hb4.cell (p := ⟨b0, o0 + (k - 1) * 3 + 2, none⟩) (Nat.lt_of_lt_of_le Hb0.out HB3.out.size)).trans qy2; have HB4 := Lib.hid hb4; clear hb4))
              have Hbw3 := Lib.hid ((Hbw1.out.drew).trans (Below.mono HB3.out Hbw1.out.size))
              have Hbw4 := Lib.hid (Hbw3.out.trans (HB4.out.mono Hbw3.out.size))
              clear n1 n3 n4 n5 n6 n7 n8
              go_wp2
              go_roundw
              case rel => exact ⟨k + 1, by omega, by go_num, Hnext.out, Hbw4.out⟩
              case measure => simp [intOf]; omega
      · obtain rfl : k = l.length := by omega
        go_wp2
        go_ret
        exact ⟨retI (by rw [E.out, Hp.out]; rfl), Hbw.out⟩

end Go.Proofs.YtfpbdfagcfdbbaaGreat.La

namespace Go.Proofs.YtfpbdfagcfdbbaaGreat.La
open Go.RowKit

set_option maxHeartbeats 400000 in
theorem check_any (A : Option Addr) (c : Nat) (l : List (List UInt8 × List UInt8)) (w : World) (hn : l.length ≤ 1000) (hc : l.length ≤ c) (hcm : c ≤ 9223372036854775807) (hs : SlAt w A (cellsL l)) (hbig : ∀ x ∈ l, x.1.length ≤ 9223372036854775807 ∧ x.2.length ≤ 9223372036854775807) :
    Calls Tryz.prog 131 #[.slice A l.length c] w fun e w' => e = .returned (.int .i64 (chkA labB keyR l)) ∧ Below w.heap.size w w' := by
  have K := Lib.hid (checkL_any labB keyR 165 167 A c l w hn hc hcm hs hbig (fun _ _ => by kernel_rfl) (fun _ _ => by kernel_rfl) (fun x w h => labB_any x w h.1 h.2) keysRise_any)
  clear hs hbig
  go_enter Tryz.func131, Tryz.ntmps131
  go_wp2_with fail
  refine K.out.mono ?_
  rintro e w1 ⟨rfl, hb⟩
  have HB := Lib.hid hb
  clear hb
  go_wp2
  go_ret
  exact ⟨rfl, HB.out⟩
set_option maxHeartbeats 400000 in
theorem checkBears_any (A : Option Addr) (c : Nat) (l : List (List UInt8 × List UInt8)) (w : World) (hn : l.length ≤ 1000) (hc : l.length ≤ c) (hcm : c ≤ 9223372036854775807) (hs : SlAt w A (cellsL l)) (hbig : ∀ x ∈ l, x.1.length ≤ 9223372036854775807 ∧ x.2.length ≤ 9223372036854775807) :
    Calls Tryz.prog 133 #[.slice A l.length c] w fun e w' => e = .returned (.int .i64 (chkA borB pairR l)) ∧ Below w.heap.size w w' := by
  have K := Lib.hid (checkL_any borB pairR 171 172 A c l w hn hc hcm hs hbig (fun _ _ => by kernel_rfl) (fun _ _ => by kernel_rfl) (fun x w h => borB_any x w h.1 h.2) pairsRise_any)
  clear hs hbig
  go_enter Tryz.func133, Tryz.ntmps133
  go_wp2_with fail
  refine K.out.mono ?_
  rintro e w1 ⟨rfl, hb⟩
  have HB := Lib.hid hb
  clear hb
  go_wp2
  go_ret
  exact ⟨rfl, HB.out⟩
set_option maxHeartbeats 400000 in
theorem checkTerms_any (A : Option Addr) (c : Nat) (l : List (Int × List UInt8 × List UInt8)) (w : World) (hn : l.length ≤ 1000) (hc : l.length ≤ c) (hcm : c ≤ 9223372036854775807) (hs : SlAt w A (cellsT l)) (hbig : ∀ x ∈ l, x.2.1.length ≤ 9223372036854775807 ∧ x.2.2.length ≤ 9223372036854775807) :
    Calls Tryz.prog 132 #[.slice A l.length c] w fun e w' => e = .returned (.int .i64 (chkA terB anyR l)) ∧ Below w.heap.size w w' := by
  have K := Lib.hid (checkT_any terB anyR 169 170 A c l w hn hc hcm hs hbig (fun _ _ => by kernel_rfl) (fun _ _ => by kernel_rfl) (fun x w h => terB_any x w h.1 h.2) anyOrder_any)
  clear hs hbig
  go_enter Tryz.func132, Tryz.ntmps132
  go_wp2_with fail
  refine K.out.mono ?_
  rintro e w1 ⟨rfl, hb⟩
  have HB := Lib.hid hb
  clear hb
  go_wp2
  go_ret
  exact ⟨rfl, HB.out⟩

end Go.Proofs.YtfpbdfagcfdbbaaGreat.La

namespace Go.Proofs.YtfpbdfagcfdbbaaGreat.La
open Go.RowKit

set_option maxRecDepth 100000 in
set_option maxHeartbeats 400000 in
theorem checkL_long (mb : List UInt8 × List UInt8 → Bool) (ri : List UInt8 × List UInt8 → List UInt8 × List UInt8 → Bool) (g r : FuncId) (A : Option Addr) (c : Nat) (l : List (List UInt8 × List UInt8)) (w : World) (h6 : 6 < l.length) :
    Calls Tryz.prog 164 #[.slice A l.length c, .func (Fn.func g) #[] #[], .func (Fn.func r) #[] #[]] w fun e w' => e = .returned (.int .i64 (chkA mb ri l)) ∧ Below w.heap.size w w' := by
  have E : Hid (chkA mb ri l = 2) := by show chkA _ _ _ = _; unfold chkA; rw [if_pos (.inl h6)]
  have h6b : decide (6 < l.length) = true := by simpa using h6
  have h6i : (6 : Int) < (l.length : Int) := by omega
  go_enter Tryz.func164, Tryz.ntmps164
  go_wp2
  go_ret
  exact ⟨retI (by rw [E.out]), Below.refl _ _⟩
set_option maxRecDepth 100000 in
set_option maxHeartbeats 400000 in
theorem checkT_long (mb : Int × List UInt8 × List UInt8 → Bool) (ri : Int × List UInt8 × List UInt8 → Int × List UInt8 × List UInt8 → Bool) (g r : FuncId) (A : Option Addr) (c : Nat) (l : List (Int × List UInt8 × List UInt8)) (w : World) (h6 : 6 < l.length) :
    Calls Tryz.prog 168 #[.slice A l.length c, .func (Fn.func g) #[] #[], .func (Fn.func r) #[] #[]] w fun e w' => e = .returned (.int .i64 (chkA mb ri l)) ∧ Below w.heap.size w w' := by
  have E : Hid (chkA mb ri l = 2) := by show chkA _ _ _ = _; unfold chkA; rw [if_pos (.inl h6)]
  have h6b : decide (6 < l.length) = true := by simpa using h6
  have h6i : (6 : Int) < (l.length : Int) := by omega
  go_enter Tryz.func168, Tryz.ntmps168
  go_wp2
  go_ret
  exact ⟨retI (by rw [E.out]), Below.refl _ _⟩
set_option maxHeartbeats 400000 in
theorem check_anyW (A : Option Addr) (c : Nat) (l : List (List UInt8 × List UInt8)) (w : World) (hc : l.length ≤ c) (hcm : c ≤ 9223372036854775807) (hs : SlAt w A (cellsL l)) (hbig : ∀ x ∈ l, x.1.length ≤ 9223372036854775807 ∧ x.2.length ≤ 9223372036854775807) :
    Calls Tryz.prog 131 #[.slice A l.length c] w fun e w' => e = .returned (.int .i64 (chkA labB keyR l)) ∧ Below w.heap.size w w' := by
  by_cases hn : l.length ≤ 1000
  · exact check_any A c l w hn hc hcm hs hbig
  have K := Lib.hid (checkL_long labB keyR 165 167 A c l w (by omega))
  clear hs hbig
  go_enter Tryz.func131, Tryz.ntmps131
  go_wp2_with fail
  refine K.out.mono ?_
  rintro e w1 ⟨rfl, hb⟩
  have HB := Lib.hid hb
  clear hb
  go_wp2
  go_ret
  exact ⟨rfl, HB.out⟩
set_option maxHeartbeats 400000 in
theorem checkBears_anyW (A : Option Addr) (c : Nat) (l : List (List UInt8 × List UInt8)) (w : World) (hc : l.length ≤ c) (hcm : c ≤ 9223372036854775807) (hs : SlAt w A (cellsL l)) (hbig : ∀ x ∈ l, x.1.length ≤ 9223372036854775807 ∧ x.2.length ≤ 9223372036854775807) :
    Calls Tryz.prog 133 #[.slice A l.length c] w fun e w' => e = .returned (.int .i64 (chkA borB pairR l)) ∧ Below w.heap.size w w' := by
  by_cases hn : l.length ≤ 1000
  · exact checkBears_any A c l w hn hc hcm hs hbig
  have K := Lib.hid (checkL_long borB pairR 171 172 A c l w (by omega))
  clear hs hbig
  go_enter Tryz.func133, Tryz.ntmps133
  go_wp2_with fail
  refine K.out.mono ?_
  rintro e w1 ⟨rfl, hb⟩
  have HB := Lib.hid hb
  clear hb
  go_wp2
  go_ret
  exact ⟨rfl, HB.out⟩
set_option maxHeartbeats 400000 in
theorem checkTerms_anyW (A : Option Addr) (c : Nat) (l : List (Int × List UInt8 × List UInt8)) (w : World) (hc : l.length ≤ c) (hcm : c ≤ 9223372036854775807) (hs : SlAt w A (cellsT l)) (hbig : ∀ x ∈ l, x.2.1.length ≤ 9223372036854775807 ∧ x.2.2.length ≤ 9223372036854775807) :
    Calls Tryz.prog 132 #[.slice A l.length c] w fun e w' => e = .returned (.int .i64 (chkA terB anyR l)) ∧ Below w.heap.size w w' := by
  by_cases hn : l.length ≤ 1000
  · exact checkTerms_any A c l w hn hc hcm hs hbig
  have K := Lib.hid (checkT_long terB anyR 169 170 A c l w (by omega))
  clear hs hbig
  go_enter Tryz.func132, Tryz.ntmps132
  go_wp2_with fail
  refine K.out.mono ?_
  rintro e w1 ⟨rfl, hb⟩
  have HB := Lib.hid hb
  clear hb
  go_wp2
  go_ret
  exact ⟨rfl, HB.out⟩
end Go.Proofs.YtfpbdfagcfdbbaaGreat.La

namespace Go.Proofs.YtfpbdfagcfdbbaaGreat.Qu
open Go.RowKit

/-- The most that a quantity may be. -/
def top : Int := 1099511627776

/-- A slice at A holds these numbers. -/
def RowOf (w : World) (A : Option Addr) (l : List Int) : Prop :=
  ∀ k x, l[k]? = some x → ∃ b o, A = some ⟨b, o, none⟩ ∧ w.cell? ⟨b, o + k, none⟩ = some (.int .i64 x)

theorem RowOf.nil (w : World) (A : Option Addr) : RowOf w A [] := fun k x h => by simp at h

/-- What the look at the arguments answers. -/
def checkL (l : List Int) : Int := if ∃ x ∈ l, x < 0 then 2 else if ∃ x ∈ l, top < x then 10 else 0

theorem retI {k : IntKind} {a b : Int} (h : a = b) : Ending.returned (.int k a) = .returned (.int k b) := by rw [h]

theorem take_all_snoc {l : List Int} {k : Nat} {x : Int} {p : Int → Prop} (hk : l[k]? = some x) (h : ∀ y ∈ l.take k, p y) (hx : p x) : ∀ y ∈ l.take (k + 1), p y := by
  intro y hy
  rw [List.take_add_one, hk] at hy
  simp at hy
  rcases hy with hy | rfl
  · exact h y hy
  · exact hx

end Go.Proofs.YtfpbdfagcfdbbaaGreat.Qu
