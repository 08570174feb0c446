/- Words that the proofs of layer 3 share: what stays of memory; strings as lists of bytes; names of the library's. No conditions. What compares two pods that are to go: the contracts of cmp.Compare, of what by hands back. Condition: the three numbers' functions lie in memory. How many bytes at a text's beginning are a name's, or a value's: as a plain function. No conditions but a text that can lie in memory. What a label, and a term, reads, and what it answers: as plain functions. Condition: the reader lies in memory. What a term reads, and the functions that readList is handed. Condition: the reader lies in memory. The orders of labels, of what is borne, of terms, as plain functions; what a list owns. No conditions. What the printers' own functions answer; a slice that holds a list; a list's text. No conditions. What Check, CheckBears and CheckTerms answer, as plain functions. Condition: the lists lie in memory. What check answers of a list, whatever each of it, and each two, are asked. Conditions: what it is handed answers so, and leaves what was there as it was. What check answers of a list, whatever each of it, and each two, are asked. Conditions: what it is handed answers so, and leaves what was there as it was. What Check, CheckBears and CheckTerms answer. Condition: the lists lie in memory. What Check, CheckBears and CheckTerms answer, of lists of any length. Condition: the lists lie in memory. Words that the proofs of this seat share: what a row of numbers in memory is, what a block is, and what the checked sums come to in plain numbers. No conditions. Words that the proofs on rows share: a row is five numbers; where it stands in memory; what an index reads. No conditions. What Check answers, the program's and the document's, of every row. No conditions. What the document's Check, and Fits and Over, the program's and the document's, answer of every row. No conditions. What the document's Fits, and Over, the program's and the document's, answer of every two rows. No conditions. -/
import Derived.Test.YtmmokiaipfalmaaGreatShelfIter
import Derived.Test.YtmmokiaipfalmaaGreatChecked
import Derived.WalkKit
import Derived.Below
import Derived.Outline
import Derived.Lib.Hide
import Derived.Lib.OthersKept
import Derived.Deep.DeepFit
import Derived.BigQuiet
import Derived.Deep.QuietTactic
import Derived.Deep.Draws
import Derived.Laws.Rows
import Derived.Laws.OwnMore
import Derived.IntWalk
import Derived.WalkSpells
import Derived.WalkLawsBesides
import Derived.Laws.CopyOwn
import Derived.Test.YtmmokiaipfalmaaGreatShelfSort
import Derived.StillTailTactics
import Derived.Handy
import Derived.Deep.RegionHeld3
import Derived.Deep.DeepCutAuto
import Derived.Deep.RegionWith
import Derived.RegionTactic

namespace Go.Proofs.YtmmokiaipfalmaaGreat
open Go.RowKit

theorem grown_trans {a b c : World} {row : Option Nat} (h : a.grownBy b row) (k : b.grownBy c row) : a.grownBy c row :=
  ⟨k.os.trans h.os, k.tape.trans h.tape, k.output.trans h.output, Nat.le_trans h.size k.size, fun i hi hne => (k.block i (Nat.lt_of_lt_of_le hi h.size) hne).trans (h.block i hi hne)⟩
theorem grown_below {a w w' : World} {row : Option Nat} (h : a.grownBy w row) (hb : Below w.heap.size w w') : a.grownBy w' row :=
  ⟨hb.os.trans h.os, hb.tape.trans h.tape, hb.output.trans h.output, Nat.le_trans h.size hb.size, fun i hi hne => (hb.block i (Nat.lt_of_lt_of_le hi h.size)).trans (h.block i hi hne)⟩
theorem grown_of_below {w w' : World} (h : Below w.heap.size w w') (row : Option Nat) : w.grownBy w' row := grown_below (World.grownBy.refl w row) h
theorem grown_alloc {a w : World} {row : Option Nat} (h : a.grownBy w row) (o : Obj) : a.grownBy (w.alloc o) row := grown_trans h (World.grownBy_alloc w o row)
/-- One more store into the block that may turn. -/
theorem grown_set {a w : World} {g : Nat} (h : a.grownBy w (some g)) (i : Nat) (u : Value) : a.grownBy (w.setCell ⟨g, i, none⟩ u) (some g) :=
  ⟨h.os, h.tape, h.output, by simpa [World.setCell] using h.size, fun j hj hne => (Below.heap_setCell w ⟨g, i, none⟩ u j (fun e => hne (by rw [e]))).trans (h.block j hj hne)⟩
theorem belowN {B : Nat} {a w : World} (h : Below B a w) (n : Nat) : Below B a (w.drewN n) := ⟨h.os, h.tape, h.output, h.size, h.block⟩
theorem below1 (w : World) (o : Obj) : Below w.heap.size w (w.alloc o) := (Below.refl _ _).alloc (Nat.le_refl _) _

/-- A text's value. -/
abbrev strV (l : List UInt8) : Value := .string ⟨l.toArray⟩

/-- A block with these cells. -/
def Blk (w : World) (b : Nat) (cs : Array Value) (t : TypeId) : Prop := w.heap[b]? = some (.cells cs t (0, 0))
section
variable {w w' : World} {b : Nat} {cs : Array Value} {t : TypeId}
theorem Blk.lt (h : Blk w b cs t) : b < w.heap.size := (Array.getElem?_eq_some_iff.1 h).1
theorem Blk.cell (h : Blk w b cs t) (i : Nat) : w.cell? ⟨b, i, none⟩ = cs[i]? := by
  unfold Blk at h
  simp [World.cell?, h]
theorem Blk.free (h : Blk w b cs t) (i : Nat) : w.frozen? ⟨b, i, none⟩ = false := by
  unfold Blk at h
  simp [World.frozen?, h]
theorem Blk.kept {row : Option Nat} (h : Blk w b cs t) (hg : w.grownBy w' row) (hne : some b ≠ row) : Blk w' b cs t := (hg.block b h.lt hne).trans h
theorem Blk.below {B : Nat} (h : Blk w b cs t) (hb : Below B w w') (hB : b < B) : Blk w' b cs t := (hb.block b hB).trans h
theorem Blk.alloc (h : Blk w b cs t) (o : Obj) : Blk (w.alloc o) b cs t := (Below.heap_alloc w o b h.lt).trans h
theorem Blk.new (w : World) (cs : Array Value) (t : TypeId) : Blk (w.alloc (.cells cs t)) w.heap.size cs t := heap_alloc_new _ _
theorem Blk.drew (h : Blk w b cs t) : Blk w.drew b cs t := h
theorem Blk.drewN (h : Blk w b cs t) (n : Nat) : Blk (w.drewN n) b cs t := h
theorem Blk.other (h : Blk w b cs t) (a : Addr) (v : Value) (hne : b ≠ a.block) : Blk (w.setCell a v) b cs t := (Below.heap_setCell w a v b hne).trans h
theorem Blk.oth (h : Blk w b cs t) {g : Nat} (hne : b ≠ g) (i : Nat) (v : Value) : Blk (w.setCell ⟨g, i, none⟩ v) b cs t := Blk.other h _ v hne
theorem Blk.set (h : Blk w b cs t) (i : Nat) (v : Value) : Blk (w.setCell ⟨b, i, none⟩ v) b (cs.setIfInBounds i v) t := by
  unfold Blk at h ⊢
  rw [heap_setCell_same w b i _ _ _ h]
theorem Blk.put (h : Blk w b cs t) (ds : Array Value) : Blk (w.setRow b ds) b ds t := setRow_heap w b _ _ _ _ h
end

end Go.Proofs.YtmmokiaipfalmaaGreat

namespace Go.Proofs.YtmmokiaipfalmaaGreat
open Go.RowKit

theorem isNaN_no (x : Int) (w : World) : Calls Tryz.prog 213 #[.int .i64 x] w fun e w' => e = .returned (.bool false) ∧ w' = w := by
  go_enter Tryz.func213, Tryz.ntmps213
  go_wp2
  go_ret
  exact ⟨rfl, rfl⟩
theorem cmp_any (x y : Int) (w : World) : Calls Tryz.prog 153 #[.int .i64 x, .int .i64 y] w fun e w' => e = .returned (.int .i64 (Lib.compareInt x y)) ∧ w' = w := by
  have K := Lib.hid (fun x w => isNaN_no x w)
  have E : Hid (Lib.compareInt x y = if x < y then -1 else if y < x then 1 else 0) := Lib.hid rfl
  generalize Lib.compareInt x y = r at E ⊢
  by_cases h1 : x < y
  · obtain rfl : r = -1 := by rw [E.out, if_pos h1]
    have h1d : decide (x < y) = true := decide_eq_true h1
    clear E
    go_enter Tryz.func153, Tryz.ntmps153
    go_wp2_with (go_at_call 213; refine (K.out _ _).mono ?_; rintro e w' ⟨rfl, rfl⟩)
    go_ret
    exact ⟨rfl, rfl⟩
  · have h1d : decide (x < y) = false := decide_eq_false h1
    by_cases h2 : y < x
    · obtain rfl : r = 1 := by rw [E.out, if_neg h1, if_pos h2]
      have h2d : decide (y < x) = true := decide_eq_true h2
      clear E
      go_enter Tryz.func153, Tryz.ntmps153
      go_wp2_with (go_at_call 213; refine (K.out _ _).mono ?_; rintro e w' ⟨rfl, rfl⟩)
      go_ret
      exact ⟨rfl, rfl⟩
    · obtain rfl : r = 0 := by rw [E.out, if_neg h1, if_neg h2]
      have h2d : decide (y < x) = false := decide_eq_false h2
      clear E
      go_enter Tryz.func153, Tryz.ntmps153
      go_wp2_with (go_at_call 213; refine (K.out _ _).mono ?_; rintro e w' ⟨rfl, rfl⟩)
      go_ret
      exact ⟨rfl, rfl⟩

/-- One world is another with draws, and new blocks behind it. -/
def GrD (w w' : World) : Prop := ∃ q os, w' = Sort.grow (w.drewN q) os
theorem GrD.refl (w : World) : GrD w w := ⟨0, #[], by rw [Sort.grow_empty]; rfl⟩
theorem GrD.drew {w w' : World} (h : GrD w w') : GrD w w'.drew := by
  obtain ⟨q, os, rfl⟩ := h
  exact ⟨q + 1, os, rfl⟩
theorem GrD.alloc {w w' : World} (h : GrD w w') (o : Obj) : GrD w (w'.alloc o) := by
  obtain ⟨q, os, rfl⟩ := h
  exact ⟨q, os ++ #[o], by rw [Sort.alloc_eq_grow, Sort.grow_grow]⟩
theorem GrD.trans {w w' w'' : World} (h : GrD w w') (k : GrD w' w'') : GrD w w'' := by
  obtain ⟨q, os, rfl⟩ := h
  obtain ⟨q', os', rfl⟩ := k
  refine ⟨q + q', os ++ os', ?_⟩
  show Sort.grow (Sort.grow ((w.drewN q).drewN q') os) os' = _
  rw [Sort.grow_grow, World.drewN_drewN]
theorem GrD.size {w w' : World} (h : GrD w w') : w.heap.size ≤ w'.heap.size := by
  obtain ⟨q, os, rfl⟩ := h
  rw [Sort.size_grow]
  exact Nat.le_add_right _ _
theorem GrD.cell {w w' : World} (h : GrD w w') {a : Addr} {v : Value} (hb : a.block < w.heap.size) (hc : w.cell? a = some v) : w'.cell? a = some v := by
  obtain ⟨q, os, rfl⟩ := h
  rw [Sort.cell?_grow _ _ _ (by exact hb)]
  exact hc

end Go.Proofs.YtmmokiaipfalmaaGreat

namespace Go.Proofs.YtmmokiaipfalmaaGreat.La
open Go.RowKit

def letB (n : Nat) : Bool := decide (97 ≤ n ∧ n ≤ 122)
def digB (n : Nat) : Bool := decide (48 ≤ n ∧ n ≤ 57 ∨ n = 45)
def okName (k n : Nat) : Bool := letB n || (decide (0 < k) && digB n)
def okVal (_ n : Nat) : Bool := letB n || digB n
/-- What goes on from a text's beginning, 15 bytes at most. -/
def spanF (ok : Nat → Nat → Bool) : List UInt8 → Nat → Nat
  | [], a => a
  | b :: t, a => if a = 15 ∨ ok a b.toNat = false then a else spanF ok t (a + 1)

theorem letB_high {n : Nat} (h : 128 ≤ n) : letB n = false := by unfold letB; simp; omega
theorem digB_high {n : Nat} (h : 128 ≤ n) : digB n = false := by unfold digB; simp; omega
theorem okName_high (k n : Nat) (h : 128 ≤ n) : okName k n = false := by simp [okName, letB_high h, digB_high h]
theorem okVal_high (k n : Nat) (h : 128 ≤ n) : okVal k n = false := by simp [okVal, letB_high h, digB_high h]

theorem retB {a b : Bool} (h : a = b) : Ending.returned (.bool a) = .returned (.bool b) := by rw [h]
theorem retI {k : IntKind} {a b : Int} (h : a = b) : Ending.returned (.int k a) = .returned (.int k b) := by rw [h]

theorem letter_any (c : Nat) (w : World) :
    Calls Tryz.prog 318 #[.int .i32 (c : Int)] w fun e w' => e = .returned (.bool (letB c)) ∧ w = w' := by
  go_enter Tryz.func318, Tryz.ntmps318
  go_wp2
  all_goals
    go_ret
    refine ⟨retB ?_, rfl⟩
    unfold letB
    rw [Bool.eq_iff_iff]
    simp
    try omega

theorem digit_any (c : Nat) (w : World) :
    Calls Tryz.prog 319 #[.int .i32 (c : Int)] w fun e w' => e = .returned (.bool (digB c)) ∧ w = w' := by
  go_enter Tryz.func319, Tryz.ntmps319
  go_wp2
  all_goals
    go_ret
    refine ⟨retB ?_, rfl⟩
    unfold digB
    rw [Bool.eq_iff_iff]
    simp
    try omega

theorem name1_any (k c : Nat) (w : World) :
    Calls Tryz.prog 317 #[.int .i64 (k : Int), .int .i32 (c : Int)] w fun e w' => e = .returned (.bool (okName k c)) ∧ w = w' := by
  go_enter Tryz.func317, Tryz.ntmps317
  go_wp2_with (first | (go_at_call 318; refine (letter_any _ _).mono ?_; rintro e w' ⟨rfl, rfl⟩) | (go_at_call 319; refine (digit_any _ _).mono ?_; rintro e w' ⟨rfl, rfl⟩))
  all_goals
    go_ret
    refine ⟨retB ?_, rfl⟩
    unfold okName
    simp_all
    try omega

theorem value1_any (k c : Nat) (w : World) :
    Calls Tryz.prog 385 #[.int .i64 (k : Int), .int .i32 (c : Int)] w fun e w' => e = .returned (.bool (okVal k c)) ∧ w = w' := by
  go_enter Tryz.func385, Tryz.ntmps385
  go_wp2_with (first | (go_at_call 318; refine (letter_any _ _).mono ?_; rintro e w' ⟨rfl, rfl⟩) | (go_at_call 319; refine (digit_any _ _).mono ?_; rintro e w' ⟨rfl, rfl⟩))
  all_goals
    go_ret
    refine ⟨retB ?_, rfl⟩
    unfold okVal
    simp_all

set_option maxHeartbeats 1000000 in
theorem len_any (ok : Nat → Nat → Bool) (g : FuncId) (l : List UInt8) (w : World) (hl : l.length ≤ 9223372036854775807) (hhi : ∀ k c, 128 ≤ c → ok k c = false)
    (henter : ∀ (args : Array Value) (w : World), (callFunc g args).run Tryz.prog w = .ok (.enter g args) w)
    (hcl : ∀ (k c : Nat) (w : World), Calls Tryz.prog g #[.int .i64 (k : Int), .int .i32 (c : Int)] w fun e w' => e = .returned (.bool (ok k c)) ∧ w = w') :
    Calls Tryz.prog 316 #[strV l, .func (Fn.func g) #[] #[]] w fun e w' => e = .returned (.int .i64 (spanF ok l 0 : Int)) ∧ Below w.heap.size w w' := by
  have Hhi := Lib.hid hhi
  have Hcl := Lib.hid hcl
  clear hhi hcl
  go_enter Tryz.func316, Tryz.ntmps316
  go_wp2
  go_loopw [] (fun wr => ∃ (pos : Nat), wr.heap[w.heap.size]? = some (.stringIter ⟨l.toArray⟩ pos) ∧ Below w.heap.size w wr ∧ pos ≤ l.length ∧ spanF ok (l.drop pos) pos = spanF ok l 0) (fun wr => l.length - wr.iterPos w.heap.size)
  case atStart => exact ⟨0, by simpa using World.iter_heap w ⟨l.toArray⟩ 0, below1 _ _, by omega, rfl⟩
  case round =>
    obtain ⟨pos, hit, hbw, hpl, hsp⟩ := hrel
    have hsz : w.heap.size < wr.heap.size := (Array.getElem?_eq_some_iff.1 hit).1
    have Hsp := Lib.hid hsp
    have Hbw := Lib.hid hbw
    clear hsp hbw
    by_cases hp : pos < l.length
    · have hp' : pos < (⟨l.toArray⟩ : ByteArray).size := hp
      have hnx : ∀ ty, (Instr.next (.pointer (some ⟨w.heap.size, 0, none⟩)) true ty).run Tryz.prog wr = _ := fun ty => Lib.run_next_any_at wr w.heap.size ⟨l.toArray⟩ pos ty hit hp'
      have hd : l.drop pos = l[pos] :: l.drop (pos + 1) := List.drop_eq_getElem_cons hp
      have Hstep : Hid (spanF ok (l.drop pos) pos = if pos = 15 ∨ ok pos (l[pos]).toNat = false then pos else spanF ok (l.drop (pos + 1)) (pos + 1)) := by
        show spanF ok (l.drop pos) pos = _
        rw [hd, spanF]
      have Hok : Hid (ok pos (Utf8.decode ⟨l.toArray⟩ pos).1 = ok pos (l[pos]).toNat ∧ (ok pos (l[pos]).toNat = true → (Utf8.decode ⟨l.toArray⟩ pos).2 = 1)) := by
        show _ ∧ _
        have e : ((⟨l.toArray⟩ : ByteArray)[pos]'hp') = l[pos] := rfl
        by_cases ha : (l[pos]).toNat < 128
        · rw [decode_ascii ⟨l.toArray⟩ pos hp' (by rw [e]; exact ha), e]
          exact ⟨rfl, fun _ => rfl⟩
        · have := (decode_high ⟨l.toArray⟩ pos hp' (by rw [e]; omega)).1
          rw [Hhi.out pos _ this, Hhi.out pos _ (by omega)]
          exact ⟨rfl, fun h => by cases h⟩
      have hd1 := decode_le ⟨l.toArray⟩ pos
      clear hd
      generalize hq : Utf8.decode ⟨l.toArray⟩ pos = q at hnx hd1 Hok
      clear hq
      obtain ⟨c, wd⟩ := q
      simp only at hnx hd1 Hok
      have hit1 := Lib.iterAt_heap wr w.heap.size ⟨l.toArray⟩ pos (pos + wd) hit
      have hb1 := Lib.below_iterAt Hbw.out (k := w.heap.size) (Nat.le_refl _) ⟨l.toArray⟩ (pos + wd)
      have Hit1 := Lib.hid hit1
      have Hb1 := Lib.hid hb1
      have Hit := Lib.hid hit
      clear hit1 hb1 hit
      by_cases h15 : pos = 15
      · have hb : ((pos : Int) == 15) = true := by simp; omega
        have Hr : Hid (spanF ok l 0 = pos) := by
          show spanF ok l 0 = pos
          rw [← Hsp.out, Hstep.out, if_pos (.inl h15)]
        have H15 := Lib.hid h15
        clear h15
        go_wp2
        go_ret
        exact ⟨by rw [Hr.out]; rfl, Hb1.out⟩
      · have hb : ((pos : Int) == 15) = false := by simp; omega
        have H15 := Lib.hid h15
        clear h15
        cases ho : ok pos (l[pos]).toNat
        · have Hr : Hid (spanF ok l 0 = pos) := by
            show spanF ok l 0 = pos
            rw [← Hsp.out, Hstep.out, if_pos (.inr ho)]
          have Ho := Lib.hid ho
          clear ho
          go_wp2_with fail
          have kc := Hcl.out pos c (wr.iterAt w.heap.size ⟨l.toArray⟩ (pos + wd))
          rw [Hok.out.1, Ho.out] at kc
          refine kc.mono ?_
          rintro e w1 ⟨rfl, rfl⟩
          clear kc
          go_wp2
          go_ret
          exact ⟨by rw [Hr.out]; rfl, Hb1.out⟩
        · obtain rfl : wd = 1 := Hok.out.2 ho
          have Ho := Lib.hid ho
          clear ho
          go_wp2_with fail
          have kc := Hcl.out pos c (wr.iterAt w.heap.size ⟨l.toArray⟩ (pos + 1))
          rw [Hok.out.1, Ho.out] at kc
          refine kc.mono ?_
          rintro e w1 ⟨rfl, rfl⟩
          clear kc
          go_wp2
          go_roundw
          case rel => exact ⟨pos + 1, Hit1.out, Hb1.out, by omega, by rw [← Hsp.out, Hstep.out, if_neg (by rw [Ho.out]; simp; exact H15.out)]⟩
          case measure =>
            simp only [World.iterPos, Hit1.out, Hit.out]
            omega
    · have hnx : ∀ ty, (Instr.next (.pointer (some ⟨w.heap.size, 0, none⟩)) true ty).run Tryz.prog wr = _ := fun ty => Lib.run_next_end_at wr w.heap.size ⟨l.toArray⟩ pos ty hit hp
      have Hr : Hid (spanF ok l 0 = l.length) := by
        show spanF ok l 0 = l.length
        rw [← Hsp.out, List.drop_eq_nil_of_le (by omega), spanF]
        omega
      have Hit := Lib.hid hit
      clear hit
      go_wp2
      go_ret
      exact ⟨by rw [Hr.out]; rfl, Hbw.out⟩

set_option maxHeartbeats 400000 in
theorem nameLen_any (l : List UInt8) (w : World) (hl : l.length ≤ 9223372036854775807) :
    Calls Tryz.prog 246 #[strV l] w fun e w' => e = .returned (.int .i64 (spanF okName l 0 : Int)) ∧ Below w.heap.size w w' := by
  have K := Lib.hid (len_any okName 317 l w hl okName_high (fun _ _ => by kernel_rfl) name1_any)
  go_enter Tryz.func246, Tryz.ntmps246
  go_wp2_with fail
  refine K.out.mono ?_
  rintro e w1 ⟨rfl, hb⟩
  have HB := Lib.hid hb
  clear hb
  go_wp2
  go_ret
  exact ⟨rfl, HB.out⟩

set_option maxHeartbeats 400000 in
theorem valueLen_any (l : List UInt8) (w : World) (hl : l.length ≤ 9223372036854775807) :
    Calls Tryz.prog 372 #[strV l] w fun e w' => e = .returned (.int .i64 (spanF okVal l 0 : Int)) ∧ Below w.heap.size w w' := by
  have K := Lib.hid (len_any okVal 385 l w hl okVal_high (fun _ _ => by kernel_rfl) value1_any)
  go_enter Tryz.func372, Tryz.ntmps372
  go_wp2_with fail
  refine K.out.mono ?_
  rintro e w1 ⟨rfl, hb⟩
  have HB := Lib.hid hb
  clear hb
  go_wp2
  go_ret
  exact ⟨rfl, HB.out⟩

end Go.Proofs.YtmmokiaipfalmaaGreat.La

namespace Go.Proofs.YtmmokiaipfalmaaGreat.La
open Go.RowKit

/-- A row and a word are handed back. -/
theorem results_row2 {P : Program} {fn : Func} {p s : Tmp} {ty : TypeId} (h : fn.results = #[.cell p ty, .tmp s]) (tmps : Array Value) (w : World) (g : Nat) (t : TypeId) (cs : Array Value) (fr : Nat × Nat) (d : TypeDesc) (v : Value)
    (hp : tmps.getD p undef = .pointer (some ⟨g, 0, none⟩)) (hs : tmps.getD s undef = v) (hg : w.heap[g]? = some (.cells cs t fr))
    (hu : P.underlying ty = some d) (hd : (match d with | .struct _ | .array _ _ => true | _ => false) = true) (hi : (P.info? ty).map (·.size) = some cs.size) :
    (results fn tmps).run P w = .ok (.tuple #[.agg cs, v]) w := by
  have hp' : tmps[p]?.getD undef = .pointer (some ⟨g, 0, none⟩) := by simpa using hp
  have hs' : tmps[s]?.getD undef = v := by simpa using hs
  simp [results, h, hp', hs', asAddr, run_loadVar_row w g t ty cs fr d hg hu hd hi]
theorem bodyPost_row2 {P : Program} {fn : Func} {p s : Tmp} {ty : TypeId} {R : Ending → World → Prop} {a : Act} {w : World} (h : fn.results = #[.cell p ty, .tmp s]) (g : Nat) (t : TypeId) (cs : Array Value) (fr : Nat × Nat) (d : TypeDesc) (v : Value)
    (hd0 : a.defers = []) (hp : a.tmps.getD p undef = .pointer (some ⟨g, 0, none⟩)) (hs : a.tmps.getD s undef = v) (hg : w.heap[g]? = some (.cells cs t fr))
    (hu : P.underlying ty = some d) (hd : (match d with | .struct _ | .array _ _ => true | _ => false) = true) (hi : (P.info? ty).map (·.size) = some cs.size)
    (hR : R (.returned (.tuple #[.agg cs, v])) w) : bodyPost P fn R .ret a w :=
  bodyPost_ret (results_row2 h a.tmps w g t cs fr d v hp hs hg hu hd hi) hd0 hR

/-- A label's value. -/
abbrev labV (x : List UInt8 × List UInt8) : Value := .agg #[strV x.1, strV x.2]
/-- A term's value: its kind, its key, its value. -/
abbrev terV (x : Int × List UInt8 × List UInt8) : Value := .agg #[.int .i64 x.1, strV x.2.1, strV x.2.2]

end Go.Proofs.YtmmokiaipfalmaaGreat.La

namespace Go.Proofs.YtmmokiaipfalmaaGreat.La
open Go.RowKit

theorem Blk.c3 {w : World} {b : Nat} {x y z : Value} {t : TypeId} (h : Blk w b #[x, y, z] t) : w.cell? ⟨b, 0, none⟩ = some x ∧ w.cell? ⟨b, 1, none⟩ = some y ∧ w.cell? ⟨b, 2, none⟩ = some z ∧ w.frozen? ⟨b, 0, none⟩ = false ∧ w.frozen? ⟨b, 1, none⟩ = false ∧ w.frozen? ⟨b, 2, none⟩ = false :=
  ⟨Blk.cell h 0, Blk.cell h 1, Blk.cell h 2, Blk.free h 0, Blk.free h 1, Blk.free h 2⟩
theorem Blk.c2 {w : World} {b : Nat} {x y : Value} {t : TypeId} (h : Blk w b #[x, y] t) : w.cell? ⟨b, 0, none⟩ = some x ∧ w.cell? ⟨b, 1, none⟩ = some y ∧ w.frozen? ⟨b, 0, none⟩ = false ∧ w.frozen? ⟨b, 1, none⟩ = false :=
  ⟨Blk.cell h 0, Blk.cell h 1, Blk.free h 0, Blk.free h 1⟩
end Go.Proofs.YtmmokiaipfalmaaGreat.La

namespace Go.Proofs.YtmmokiaipfalmaaGreat.La
open Go.RowKit

def keyR (a b : List UInt8 × List UInt8) : Bool := Op.bytesLess a.1 b.1
def pairR (a b : List UInt8 × List UInt8) : Bool := Op.bytesLess a.1 b.1 || (decide (a.1 = b.1) && Op.bytesLess a.2 b.2)
def anyR (_ _ : Int × List UInt8 × List UInt8) : Bool := true

theorem keysRise_any (a b : List UInt8 × List UInt8) (w : World) :
    Calls Tryz.prog 339 #[labV a, labV b] w fun e w' => e = .returned (.bool (keyR a b)) ∧ Below w.heap.size w w' := by
  go_enter Tryz.func339, Tryz.ntmps339
  go_wp2
  go_ret
  exact ⟨rfl, ((Below.refl _ _).alloc (Nat.le_refl _) _).alloc (by simp) _⟩

theorem pairsRise_any (a b : List UInt8 × List UInt8) (w : World) :
    Calls Tryz.prog 344 #[labV a, labV b] w fun e w' => e = .returned (.bool (pairR a b)) ∧ Below w.heap.size w w' := by
  go_enter Tryz.func344, Tryz.ntmps344
  go_wp2
  all_goals
    go_ret
    refine ⟨retB ?_, ((Below.refl _ _).alloc (Nat.le_refl _) _).alloc (by simp) _⟩
    unfold pairR
    simp_all

theorem anyOrder_any (a b : Int × List UInt8 × List UInt8) (w : World) :
    Calls Tryz.prog 342 #[terV a, terV b] w fun e w' => e = .returned (.bool (anyR a b)) ∧ Below w.heap.size w w' := by
  go_enter Tryz.func342, Tryz.ntmps342
  go_wp2
  go_ret
  exact ⟨rfl, ((Below.refl _ _).alloc (Nat.le_refl _) _).alloc (by simp) _⟩

/-- The cells of a list of labels, of terms. -/
def cellsL (l : List (List UInt8 × List UInt8)) : List Value := l.flatMap fun x => [strV x.1, strV x.2]
def cellsT (l : List (Int × List UInt8 × List UInt8)) : List Value := l.flatMap fun x => [.int .i64 x.1, strV x.2.1, strV x.2.2]
theorem cellsL_at : ∀ (l : List (List UInt8 × List UInt8)) (k : Nat) (x : List UInt8 × List UInt8), l[k]? = some x → (cellsL l)[k * 2]? = some (strV x.1) ∧ (cellsL l)[k * 2 + 1]? = some (strV x.2)
  | [], k, x, h => by simp at h
  | y :: t, 0, x, h => by
    simp at h
    subst h
    exact ⟨rfl, rfl⟩
  | y :: t, k + 1, x, h => by
    have := cellsL_at t k x (by simpa using h)
    have e : cellsL (y :: t) = strV y.1 :: strV y.2 :: cellsL t := rfl
    rw [e, show (k + 1) * 2 = k * 2 + 1 + 1 by omega]
    simpa using this
theorem cellsT_at : ∀ (l : List (Int × List UInt8 × List UInt8)) (k : Nat) (x : Int × List UInt8 × List UInt8), l[k]? = some x → (cellsT l)[k * 3]? = some (.int .i64 x.1) ∧ (cellsT l)[k * 3 + 1]? = some (strV x.2.1) ∧ (cellsT l)[k * 3 + 2]? = some (strV x.2.2)
  | [], k, x, h => by simp at h
  | y :: t, 0, x, h => by
    simp at h
    subst h
    exact ⟨rfl, rfl, rfl⟩
  | y :: t, k + 1, x, h => by
    have := cellsT_at t k x (by simpa using h)
    have e : cellsT (y :: t) = .int .i64 y.1 :: strV y.2.1 :: strV y.2.2 :: cellsT t := rfl
    rw [e, show (k + 1) * 3 = k * 3 + 1 + 1 + 1 by omega]
    simpa using this

/-- A slice at A holds these cells. -/
def SlAt (w : World) (A : Option Addr) (xs : List Value) : Prop := ∀ j y, xs[j]? = some y → ∃ b o, A = some ⟨b, o, none⟩ ∧ w.cell? ⟨b, o + j, none⟩ = some y

/-- What a list that the call owns holds. -/
theorem own_cells {w : World} {base : Nat} {e : TypeId} {size : Nat} {v : Value} {n : Nat} {xs : List Value} (h : w.ownsRow base e size v n xs) (hn : 0 < n) :
    ∃ g cap, v = .slice (some ⟨g, 0, none⟩) n cap ∧ base ≤ g ∧ g < w.heap.size ∧ n ≤ cap ∧ cap ≤ maxLen ∧ ∀ j y, xs[j]? = some y → w.cell? ⟨g, j, none⟩ = some y := by
  rcases h.2 with ⟨rfl, h0⟩ | ⟨g, cap, cur, rfl, hb, hg, h1, h2, h3, h4⟩
  · omega
  · refine ⟨g, cap, rfl, hb, (Array.getElem?_eq_some_iff.1 hg).1, h1, h2, fun j y hj => ?_⟩
    rw [cell_of_row w g j _ _ _ hg]
    rw [← h4] at hj
    rw [List.getElem?_take] at hj
    split at hj
    · rwa [Array.getElem?_toList] at hj
    · cases hj
theorem own_slice {w : World} {base : Nat} {e : TypeId} {size : Nat} {v : Value} {n : Nat} {xs : List Value} (h : w.ownsRow base e size v n xs) : ∃ A c, v = .slice A n c ∧ n ≤ maxLen := by
  rcases h.2 with ⟨rfl, h0⟩ | ⟨g, cap, cur, rfl, hb, hg, h1, h2, h3, h4⟩
  · exact ⟨none, 0, by rw [h0], by rw [h0]; exact Nat.zero_le _⟩
  · exact ⟨_, _, rfl, Nat.le_trans h1 h2⟩
theorem own_below {w w' : World} {base : Nat} {e : TypeId} {size : Nat} {v : Value} {n : Nat} {xs : List Value} (h : w.ownsRow base e size v n xs) (hb : Below w.heap.size w w') : w'.ownsRow base e size v n xs := by
  obtain ⟨h1, h2⟩ := h
  refine ⟨h1, ?_⟩
  rcases h2 with h2 | ⟨g, cap, cur, hv, hg, hc, h3⟩
  · exact .inl h2
  · exact .inr ⟨g, cap, cur, hv, hg, by rw [hb.block g (Array.getElem?_eq_some_iff.1 hc).1, hc], h3⟩
end Go.Proofs.YtmmokiaipfalmaaGreat.La

namespace Go.Proofs.YtmmokiaipfalmaaGreat.La
open Go.RowKit

theorem SlAt.below {w w' : World} {A : Option Addr} {xs : List Value} (h : SlAt w A xs) (hb : Below w.heap.size w w') : SlAt w' A xs := by
  intro j y hj
  obtain ⟨b, o, hA, hc⟩ := h j y hj
  exact ⟨b, o, hA, (hb.cell (World.block_lt_of_cell? w _ hc)).trans hc⟩
theorem SlAt.nil (w : World) (A : Option Addr) : SlAt w A [] := fun j y h => by simp at h
theorem own_slat {w : World} {base : Nat} {e : TypeId} {size : Nat} {A : Option Addr} {n c : Nat} {xs : List Value} (h : w.ownsRow base e size (.slice A n c) n xs) : SlAt w A xs := by
  rcases Nat.eq_zero_or_pos n with hn | hn
  · have : xs = [] := List.length_eq_zero_iff.1 (by rw [h.1, hn, Nat.zero_mul])
    rw [this]
    exact SlAt.nil _ _
  · obtain ⟨g, cap, hv, _, _, _, _, hc⟩ := own_cells h hn
    cases hv
    exact fun j y hj => ⟨g, 0, rfl, by rw [Nat.zero_add]; exact hc j y hj⟩
theorem SlAt.lab {w : World} {A : Option Addr} {l : List (List UInt8 × List UInt8)} (h : SlAt w A (cellsL l)) {k : Nat} {x : List UInt8 × List UInt8} (hk : l[k]? = some x) :
    ∃ b o, A = some ⟨b, o, none⟩ ∧ b < w.heap.size ∧ w.cell? ⟨b, o + k * 2, none⟩ = some (strV x.1) ∧ w.cell? ⟨b, o + k * 2 + 1, none⟩ = some (strV x.2) := by
  obtain ⟨h0, h1⟩ := cellsL_at l k x hk
  obtain ⟨b, o, hA, hc⟩ := h _ _ h0
  obtain ⟨b', o', hA', hc'⟩ := h _ _ h1
  rw [hA] at hA'
  cases hA'
  exact ⟨b, o, hA, World.block_lt_of_cell? w _ hc, hc, by rw [Nat.add_assoc]; exact hc'⟩
theorem SlAt.ter {w : World} {A : Option Addr} {l : List (Int × List UInt8 × List UInt8)} (h : SlAt w A (cellsT l)) {k : Nat} {x : Int × List UInt8 × List UInt8} (hk : l[k]? = some x) :
    ∃ b o, A = some ⟨b, o, none⟩ ∧ b < w.heap.size ∧ w.cell? ⟨b, o + k * 3, none⟩ = some (.int .i64 x.1) ∧ w.cell? ⟨b, o + k * 3 + 1, none⟩ = some (strV x.2.1) ∧ w.cell? ⟨b, o + k * 3 + 2, none⟩ = some (strV x.2.2) := by
  obtain ⟨h0, h1, h2⟩ := cellsT_at l k x hk
  obtain ⟨b, o, hA, hc⟩ := h _ _ h0
  obtain ⟨b', o', hA', hc'⟩ := h _ _ h1
  rw [hA] at hA'
  cases hA'
  obtain ⟨b', o', hA', hc''⟩ := h _ _ h2
  rw [hA] at hA'
  cases hA'
  exact ⟨b, o, hA, World.block_lt_of_cell? w _ hc, hc, by rw [Nat.add_assoc]; exact hc', by rw [Nat.add_assoc]; exact hc''⟩

theorem strC (l : List UInt8) : Lib.strCells ⟨l.toArray⟩ = Lib.byteCells l := rfl
end Go.Proofs.YtmmokiaipfalmaaGreat.La

namespace Go.Proofs.YtmmokiaipfalmaaGreat.La
open Go.RowKit

def nameB (s : List UInt8) : Bool := decide (s ≠ []) && decide (spanF okName s 0 = s.length)
def valueB (s : List UInt8) : Bool := decide (s ≠ []) && decide (spanF okVal s 0 = s.length)

set_option maxHeartbeats 400000 in
theorem nameB_any (s : List UInt8) (w : World) (hl : s.length ≤ 9223372036854775807) :
    Calls Tryz.prog 177 #[strV s] w fun e w' => e = .returned (.bool (nameB s)) ∧ Below w.heap.size w w' := by
  have K := Lib.hid (nameLen_any s w hl)
  by_cases hs : s = []
  · have h1 : s.isEmpty = true := by simp [hs]
    have E : Hid (nameB s = false) := by show nameB s = false; unfold nameB; simp [hs]
    have Hs := Lib.hid hs
    clear hs
    go_enter Tryz.func177, Tryz.ntmps177
    go_wp2
    go_ret
    exact ⟨retB (by rw [E.out]), Below.refl _ _⟩
  · have h1 : s.isEmpty = false := by simpa using hs
    have h2 : (!s.isEmpty) = true := by simpa using hs
    have E : Hid (nameB s = decide (spanF okName s 0 = s.length)) := by show nameB s = _; unfold nameB; simp [hs]
    have Hs := Lib.hid hs
    clear hs
    go_enter Tryz.func177, Tryz.ntmps177
    go_wp2_with fail
    refine K.out.mono ?_
    rintro e w1 ⟨rfl, hb⟩
    have HB := Lib.hid hb
    clear hb
    go_wp2
    go_ret
    refine ⟨retB ?_, HB.out⟩
    rw [E.out, Bool.eq_iff_iff]
    simp
    try omega
set_option maxHeartbeats 400000 in
theorem valueB_any (s : List UInt8) (w : World) (hl : s.length ≤ 9223372036854775807) :
    Calls Tryz.prog 338 #[strV s] w fun e w' => e = .returned (.bool (valueB s)) ∧ Below w.heap.size w w' := by
  have K := Lib.hid (valueLen_any s w hl)
  by_cases hs : s = []
  · have h1 : s.isEmpty = true := by simp [hs]
    have E : Hid (valueB s = false) := by show valueB s = false; unfold valueB; simp [hs]
    have Hs := Lib.hid hs
    clear hs
    go_enter Tryz.func338, Tryz.ntmps338
    go_wp2
    go_ret
    exact ⟨retB (by rw [E.out]), Below.refl _ _⟩
  · have h1 : s.isEmpty = false := by simpa using hs
    have h2 : (!s.isEmpty) = true := by simpa using hs
    have E : Hid (valueB s = decide (spanF okVal s 0 = s.length)) := by show valueB s = _; unfold valueB; simp [hs]
    have Hs := Lib.hid hs
    clear hs
    go_enter Tryz.func338, Tryz.ntmps338
    go_wp2_with fail
    refine K.out.mono ?_
    rintro e w1 ⟨rfl, hb⟩
    have HB := Lib.hid hb
    clear hb
    go_wp2
    go_ret
    refine ⟨retB ?_, HB.out⟩
    rw [E.out, Bool.eq_iff_iff]
    simp
    try omega

def labB (x : List UInt8 × List UInt8) : Bool := nameB x.1 && valueB x.2
def borB (x : List UInt8 × List UInt8) : Bool := nameB x.1 && (decide (x.2 = [42]) || valueB x.2)
def terB (x : Int × List UInt8 × List UInt8) : Bool :=
  if x.1 = 1 ∨ x.1 = 2 then nameB x.2.1 && valueB x.2.2 else if x.1 = 3 ∨ x.1 = 4 then nameB x.2.1 && decide (x.2.2 = []) else false

set_option maxHeartbeats 400000 in
theorem labB_any (x : List UInt8 × List UInt8) (w : World) (h1 : x.1.length ≤ 9223372036854775807) (h2 : x.2.length ≤ 9223372036854775807) :
    Calls Tryz.prog 337 #[labV x] w fun e w' => e = .returned (.bool (labB x)) ∧ Below w.heap.size w w' := by
  obtain ⟨a, b⟩ := x
  have HX := Lib.hid (Blk.new w #[strV a, strV b] 100)
  have HB := Lib.hid (below1 w (.cells #[strV a, strV b] 100))
  have K1 := Lib.hid (fun w => nameB_any a w h1)
  have K2 := Lib.hid (fun w => valueB_any b w h2)
  cases hn : nameB a
  · have E : Hid (labB (a, b) = false) := by show labB _ = _; unfold labB; simp [hn]
    rw [hn] at K1
    clear hn
    go_enter Tryz.func337, Tryz.ntmps337
    go_wp2_with fail
    refine (K1.out _).mono ?_
    rintro e w1 ⟨rfl, hb⟩
    have HB1 := Lib.hid (HB.out.trans (hb.mono HB.out.size))
    clear hb
    go_wp2
    go_ret
    exact ⟨retB (by rw [E.out]), HB1.out⟩
  · have E : Hid (labB (a, b) = valueB b) := by show labB _ = _; unfold labB; simp [hn]
    rw [hn] at K1
    clear hn
    go_enter Tryz.func337, Tryz.ntmps337
    go_wp2_with fail
    refine (K1.out _).mono ?_
    rintro e w1 ⟨rfl, hb⟩
    have HX1 := Lib.hid (HX.out.below hb HX.out.lt)
    have HB1 := Lib.hid (HB.out.trans (hb.mono HB.out.size))
    clear hb
    obtain ⟨d0, d1, f0, f1⟩ := Blk.c2 HX1.out
    go_wp2_with fail
    refine (K2.out _).mono ?_
    rintro e w2 ⟨rfl, hb⟩
    have HB2 := Lib.hid (HB1.out.trans (hb.mono HB1.out.size))
    clear hb
    go_wp2
    go_ret
    exact ⟨retB (by rw [E.out]), HB2.out⟩

set_option maxHeartbeats 400000 in
theorem borB_any (x : List UInt8 × List UInt8) (w : World) (h1 : x.1.length ≤ 9223372036854775807) (h2 : x.2.length ≤ 9223372036854775807) :
    Calls Tryz.prog 343 #[labV x] w fun e w' => e = .returned (.bool (borB x)) ∧ Below w.heap.size w w' := by
  obtain ⟨a, b⟩ := x
  have HX := Lib.hid (Blk.new w #[strV a, strV b] 100)
  have HB := Lib.hid (below1 w (.cells #[strV a, strV b] 100))
  have K1 := Lib.hid (fun w => nameB_any a w h1)
  have K2 := Lib.hid (fun w => valueB_any b w h2)
  cases hn : nameB a
  · have E : Hid (borB (a, b) = false) := by show borB _ = _; unfold borB; simp [hn]
    rw [hn] at K1
    clear hn
    go_enter Tryz.func343, Tryz.ntmps343
    go_wp2_with fail
    refine (K1.out _).mono ?_
    rintro e w1 ⟨rfl, hb⟩
    have HB1 := Lib.hid (HB.out.trans (hb.mono HB.out.size))
    clear hb
    go_wp2
    go_ret
    exact ⟨retB (by rw [E.out]), HB1.out⟩
  · rw [hn] at K1
    by_cases hs : b = [42]
    · have E : Hid (borB (a, b) = true) := by show borB _ = _; unfold borB; simp [hn, hs]
      have hsb : (b == [42]) = true := by simpa using hs
      have Hs := Lib.hid hs
      clear hn hs
      go_enter Tryz.func343, Tryz.ntmps343
      go_wp2_with fail
      refine (K1.out _).mono ?_
      rintro e w1 ⟨rfl, hb⟩
      have HX1 := Lib.hid (HX.out.below hb HX.out.lt)
      have HB1 := Lib.hid (HB.out.trans (hb.mono HB.out.size))
      clear hb
      obtain ⟨d0, d1, f0, f1⟩ := Blk.c2 HX1.out
      go_wp2
      go_ret
      exact ⟨retB (by rw [E.out]), HB1.out⟩
    · have E : Hid (borB (a, b) = valueB b) := by show borB _ = _; unfold borB; simp [hn, hs]
      have hsb : (b == [42]) = false := by simpa using hs
      have Hs := Lib.hid hs
      clear hn hs
      go_enter Tryz.func343, Tryz.ntmps343
      go_wp2_with fail
      refine (K1.out _).mono ?_
      rintro e w1 ⟨rfl, hb⟩
      have HX1 := Lib.hid (HX.out.below hb HX.out.lt)
      have HB1 := Lib.hid (HB.out.trans (hb.mono HB.out.size))
      clear hb
      obtain ⟨d0, d1, f0, f1⟩ := Blk.c2 HX1.out
      go_wp2_with fail
      refine (K2.out _).mono ?_
      rintro e w2 ⟨rfl, hb⟩
      have HB2 := Lib.hid (HB1.out.trans (hb.mono HB1.out.size))
      clear hb
      go_wp2
      go_ret
      exact ⟨retB (by rw [E.out]), HB2.out⟩

set_option maxHeartbeats 1000000 in
theorem terB_any (x : Int × List UInt8 × List UInt8) (w : World) (h1 : x.2.1.length ≤ 9223372036854775807) (h2 : x.2.2.length ≤ 9223372036854775807) :
    Calls Tryz.prog 341 #[terV x] w fun e w' => e = .returned (.bool (terB x)) ∧ Below w.heap.size w w' := by
  obtain ⟨k, a, b⟩ := x
  have HX := Lib.hid (Blk.new w #[.int .i64 k, strV a, strV b] 98)
  have HB := Lib.hid (below1 w (.cells #[.int .i64 k, strV a, strV b] 98))
  have K1 := Lib.hid (fun w => nameB_any a w h1)
  have K2 := Lib.hid (fun w => valueB_any b w h2)
  simp only at h1 h2
  have hcs : k = 1 ∨ k = 2 ∨ k = 3 ∨ k = 4 ∨ (k ≠ 1 ∧ k ≠ 2 ∧ k ≠ 3 ∧ k ≠ 4) := by omega
  rcases hcs with hc | hc | hc | hc | hc
  · have hk1 : (k == 1) = true := by first | (simp; omega) | simp_all
    cases hn : nameB a
    · have E : Hid (terB (k, a, b) = false) := by show terB _ = _; unfold terB; simp [hn]
      rw [hn] at K1
      have Hc := Lib.hid hc
      clear hn hc
      go_enter Tryz.func341, Tryz.ntmps341
      go_wp2_with fail
      refine (K1.out _).mono ?_
      rintro e w1 ⟨rfl, hb⟩
      have HB1 := Lib.hid (HB.out.trans (hb.mono HB.out.size))
      clear hb
      go_wp2
      go_ret
      exact ⟨retB (by rw [E.out]), HB1.out⟩
    · have E : Hid (terB (k, a, b) = valueB b) := by show terB _ = _; unfold terB; rw [if_pos (by show k = 1 ∨ k = 2; omega)]; simp [hn]
      rw [hn] at K1
      have Hc := Lib.hid hc
      clear hn hc
      go_enter Tryz.func341, Tryz.ntmps341
      go_wp2_with fail
      refine (K1.out _).mono ?_
      rintro e w1 ⟨rfl, hb⟩
      have HX1 := Lib.hid (HX.out.below hb HX.out.lt)
      have HB1 := Lib.hid (HB.out.trans (hb.mono HB.out.size))
      clear hb
      obtain ⟨d0, d1, d2, f0, f1, f2⟩ := Blk.c3 HX1.out
      go_wp2_with fail
      refine (K2.out _).mono ?_
      rintro e w2 ⟨rfl, hb⟩
      have HB2 := Lib.hid (HB1.out.trans (hb.mono HB1.out.size))
      clear hb
      go_wp2
      go_ret
      exact ⟨retB (by rw [E.out]), HB2.out⟩
  · have hk1 : (k == 1) = false := by first | (simp; omega) | simp_all
    have hk2 : (k == 2) = true := by first | (simp; omega) | simp_all
    cases hn : nameB a
    · have E : Hid (terB (k, a, b) = false) := by show terB _ = _; unfold terB; simp [hn]
      rw [hn] at K1
      have Hc := Lib.hid hc
      clear hn hc
      go_enter Tryz.func341, Tryz.ntmps341
      go_wp2_with fail
      refine (K1.out _).mono ?_
      rintro e w1 ⟨rfl, hb⟩
      have HB1 := Lib.hid (HB.out.trans (hb.mono HB.out.size))
      clear hb
      go_wp2
      go_ret
      exact ⟨retB (by rw [E.out]), HB1.out⟩
    · have E : Hid (terB (k, a, b) = valueB b) := by show terB _ = _; unfold terB; rw [if_pos (by show k = 1 ∨ k = 2; omega)]; simp [hn]
      rw [hn] at K1
      have Hc := Lib.hid hc
      clear hn hc
      go_enter Tryz.func341, Tryz.ntmps341
      go_wp2_with fail
      refine (K1.out _).mono ?_
      rintro e w1 ⟨rfl, hb⟩
      have HX1 := Lib.hid (HX.out.below hb HX.out.lt)
      have HB1 := Lib.hid (HB.out.trans (hb.mono HB.out.size))
      clear hb
      obtain ⟨d0, d1, d2, f0, f1, f2⟩ := Blk.c3 HX1.out
      go_wp2_with fail
      refine (K2.out _).mono ?_
      rintro e w2 ⟨rfl, hb⟩
      have HB2 := Lib.hid (HB1.out.trans (hb.mono HB1.out.size))
      clear hb
      go_wp2
      go_ret
      exact ⟨retB (by rw [E.out]), HB2.out⟩
  · have hk1 : (k == 1) = false := by first | (simp; omega) | simp_all
    have hk2 : (k == 2) = false := by first | (simp; omega) | simp_all
    have hk3 : (k == 3) = true := by first | (simp; omega) | simp_all
    cases hn : nameB a
    · have E : Hid (terB (k, a, b) = false) := by show terB _ = _; unfold terB; simp [hn]
      rw [hn] at K1
      have Hc := Lib.hid hc
      clear hn hc
      go_enter Tryz.func341, Tryz.ntmps341
      go_wp2_with fail
      refine (K1.out _).mono ?_
      rintro e w1 ⟨rfl, hb⟩
      have HB1 := Lib.hid (HB.out.trans (hb.mono HB.out.size))
      clear hb
      go_wp2
      go_ret
      exact ⟨retB (by rw [E.out]), HB1.out⟩
    · have E : Hid (terB (k, a, b) = b.isEmpty) := by show terB _ = _; unfold terB; rw [if_neg (by show ¬ (k = 1 ∨ k = 2); omega), if_pos (by show k = 3 ∨ k = 4; omega)]; cases b <;> simp [hn]
      rw [hn] at K1
      have Hc := Lib.hid hc
      clear hn hc
      go_enter Tryz.func341, Tryz.ntmps341
      go_wp2_with fail
      refine (K1.out _).mono ?_
      rintro e w1 ⟨rfl, hb⟩
      have HX1 := Lib.hid (HX.out.below hb HX.out.lt)
      have HB1 := Lib.hid (HB.out.trans (hb.mono HB.out.size))
      clear hb
      obtain ⟨d0, d1, d2, f0, f1, f2⟩ := Blk.c3 HX1.out
      go_wp2
      go_ret
      exact ⟨retB (by rw [E.out]), HB1.out⟩
  · have hk1 : (k == 1) = false := by first | (simp; omega) | simp_all
    have hk2 : (k == 2) = false := by first | (simp; omega) | simp_all
    have hk3 : (k == 3) = false := by first | (simp; omega) | simp_all
    have hk4 : (k == 4) = true := by first | (simp; omega) | simp_all
    cases hn : nameB a
    · have E : Hid (terB (k, a, b) = false) := by show terB _ = _; unfold terB; simp [hn]
      rw [hn] at K1
      have Hc := Lib.hid hc
      clear hn hc
      go_enter Tryz.func341, Tryz.ntmps341
      go_wp2_with fail
      refine (K1.out _).mono ?_
      rintro e w1 ⟨rfl, hb⟩
      have HB1 := Lib.hid (HB.out.trans (hb.mono HB.out.size))
      clear hb
      go_wp2
      go_ret
      exact ⟨retB (by rw [E.out]), HB1.out⟩
    · have E : Hid (terB (k, a, b) = b.isEmpty) := by show terB _ = _; unfold terB; rw [if_neg (by show ¬ (k = 1 ∨ k = 2); omega), if_pos (by show k = 3 ∨ k = 4; omega)]; cases b <;> simp [hn]
      rw [hn] at K1
      have Hc := Lib.hid hc
      clear hn hc
      go_enter Tryz.func341, Tryz.ntmps341
      go_wp2_with fail
      refine (K1.out _).mono ?_
      rintro e w1 ⟨rfl, hb⟩
      have HX1 := Lib.hid (HX.out.below hb HX.out.lt)
      have HB1 := Lib.hid (HB.out.trans (hb.mono HB.out.size))
      clear hb
      obtain ⟨d0, d1, d2, f0, f1, f2⟩ := Blk.c3 HX1.out
      go_wp2
      go_ret
      exact ⟨retB (by rw [E.out]), HB1.out⟩
  · have hk1 : (k == 1) = false := by first | (simp; omega) | simp_all
    have hk2 : (k == 2) = false := by first | (simp; omega) | simp_all
    have hk3 : (k == 3) = false := by first | (simp; omega) | simp_all
    have hk4 : (k == 4) = false := by first | (simp; omega) | simp_all
    have E : Hid (terB (k, a, b) = false) := by show terB _ = _; unfold terB; rw [if_neg (by show ¬ (k = 1 ∨ k = 2); omega), if_neg (by show ¬ (k = 3 ∨ k = 4); omega)]
    have Hc := Lib.hid hc
    clear hc
    go_enter Tryz.func341, Tryz.ntmps341
    go_wp2
    go_ret
    exact ⟨retB (by rw [E.out]), HB.out⟩

/-- May x stand at k? -/
def okAt {α : Type} (mb : α → Bool) (ri : α → α → Bool) (l : List α) (k : Nat) (x : α) : Bool :=
  mb x && (decide (k = 0) || (match l[k - 1]? with | none => true | some y => ri y x))
theorem okAt_no {α : Type} {mb : α → Bool} {ri : α → α → Bool} {l : List α} {k : Nat} {x : α} (h : mb x = false) : okAt mb ri l k x = false := by unfold okAt; rw [h]; rfl
theorem okAt_zero {α : Type} {mb : α → Bool} {ri : α → α → Bool} {l : List α} {k : Nat} {x : α} (h : mb x = true) (h0 : k = 0) : okAt mb ri l k x = true := by unfold okAt; rw [h, h0]; rfl
theorem okAt_pos {α : Type} {mb : α → Bool} {ri : α → α → Bool} {l : List α} {k : Nat} {x y : α} (h : mb x = true) (h0 : ¬ k = 0) (hy : l[k - 1]? = some y) : okAt mb ri l k x = ri y x := by unfold okAt; rw [h, hy, decide_eq_false h0]; rfl
/-- May the first k stand there, each of them, and behind the one ahead? -/
def chkK {α : Type} (mb : α → Bool) (ri : α → α → Bool) (l : List α) : Nat → Bool
  | 0 => true
  | k + 1 => chkK mb ri l k && (match l[k]? with
    | none => true
    | some x => okAt mb ri l k x)
def chkA {α : Type} (mb : α → Bool) (ri : α → α → Bool) (l : List α) : Int := if 6 < l.length ∨ chkK mb ri l l.length = false then 2 else 0
theorem chkK_false {α : Type} {mb : α → Bool} {ri : α → α → Bool} {l : List α} {k : Nat} (h : chkK mb ri l k = false) : ∀ {n : Nat}, k ≤ n → chkK mb ri l n = false := by
  intro n hn
  induction n with
  | zero => obtain rfl : k = 0 := by omega
            exact h
  | succ n ih =>
    rcases Nat.lt_or_eq_of_le hn with g | rfl
    · rw [chkK, ih (by omega)]
      rfl
    · exact h

end Go.Proofs.YtmmokiaipfalmaaGreat.La

namespace Go.Proofs.YtmmokiaipfalmaaGreat.La
open Go.RowKit

set_option maxRecDepth 100000 in
set_option maxHeartbeats 4000000 in
theorem checkL_any (mb : List UInt8 × List UInt8 → Bool) (ri : List UInt8 × List UInt8 → List UInt8 × List UInt8 → Bool) (g r : FuncId) (A : Option Addr) (c : Nat) (l : List (List UInt8 × List UInt8)) (w : World) (hn : l.length ≤ 1000) (_hc : l.length ≤ c) (_hcm : c ≤ 9223372036854775807) (hs : SlAt w A (cellsL l)) (hbig : ∀ x ∈ l, x.1.length ≤ 9223372036854775807 ∧ x.2.length ≤ 9223372036854775807)
    (hg1 : ∀ (args : Array Value) (w : World), (callFunc g args).run Tryz.prog w = .ok (.enter g args) w) (hr1 : ∀ (args : Array Value) (w : World), (callFunc r args).run Tryz.prog w = .ok (.enter r args) w)
    (hcl : ∀ (x : List UInt8 × List UInt8) (w : World), x.1.length ≤ 9223372036854775807 ∧ x.2.length ≤ 9223372036854775807 → Calls Tryz.prog g #[labV x] w fun e w' => e = .returned (.bool (mb x)) ∧ Below w.heap.size w w')
    (hri : ∀ (a b : List UInt8 × List UInt8) (w : World), Calls Tryz.prog r #[labV a, labV b] w fun e w' => e = .returned (.bool (ri a b)) ∧ Below w.heap.size w w') :
    Calls Tryz.prog 336 #[.slice A l.length c, .func (Fn.func g) #[] #[], .func (Fn.func r) #[] #[]] w fun e w' => e = .returned (.int .i64 (chkA mb ri l)) ∧ Below w.heap.size w w' := by
  have HS := Lib.hid hs
  have Hcl := Lib.hid hcl
  have Hri := Lib.hid hri
  have Hbig := Lib.hid hbig
  clear hs hcl hri hbig
  by_cases h6 : 6 < l.length
  · have E : Hid (chkA mb ri l = 2) := by show chkA _ _ _ = _; unfold chkA; rw [if_pos (.inl h6)]
    have h6b : decide (6 < l.length) = true := by simpa using h6
    have h6i : (6 : Int) < (l.length : Int) := by omega
    go_enter Tryz.func336, Tryz.ntmps336
    go_wp2
    go_ret
    exact ⟨retI (by rw [E.out]), Below.refl _ _⟩
  · have h6b : decide (6 < l.length) = false := by simpa using h6
    have h6i : (l.length : Int) ≤ 6 := by omega
    have E : Hid (chkA mb ri l = if chkK mb ri l l.length = false then 2 else 0) := by show chkA _ _ _ = _; unfold chkA; by_cases hq : chkK mb ri l l.length = false; rw [if_pos (.inr hq), if_pos hq]; rw [if_neg (fun h => h.elim h6 hq), if_neg hq]
    have H6 := Lib.hid h6
    clear h6
    go_enter Tryz.func336, Tryz.ntmps336
    go_wp2
    go_loopw [14] (fun i wr => ∃ k : Nat, k ≤ l.length ∧ i = .int .i64 k ∧ chkK mb ri l k = true ∧ Below w.heap.size w wr) (fun i _ => l.length - (intOf i).toNat)
    case atStart => exact ⟨0, by omega, rfl, rfl, Below.refl _ _⟩
    case round =>
      obtain ⟨k, hk, rfl, hp, hbw⟩ := hrel
      have Hp := Lib.hid hp
      have Hbw := Lib.hid hbw
      clear hp hbw
      by_cases hlt : k < l.length
      · obtain ⟨x, hxk⟩ : ∃ x, l[k]? = some x := ⟨l[k], List.getElem?_eq_getElem hlt⟩
        obtain ⟨b0, o0, hA, hb0, hx⟩ := SlAt.lab (HS.out.below Hbw.out) hxk
        have Hbx := Lib.hid (Hbig.out x (List.mem_of_getElem? hxk))
        have hstep : chkK mb ri l (k + 1) = okAt mb ri l k x := by rw [chkK, Hp.out, hxk]; rfl
        have Hstep := Lib.hid hstep
        have hA' := hA
        subst hA
        have hx0 : wr.cell? ⟨b0, o0 + k * 2, none⟩ = some (strV x.1) := hx.1
        have hx1 : wr.cell? ⟨b0, o0 + k * 2 + 1, none⟩ = some (strV x.2) := hx.2
        have px0 : (wr.alloc (.cells #[strV x.1, strV x.2] 100)).cell? ⟨wr.heap.size, 0, none⟩ = some (strV x.1) := Blk.cell (Blk.new wr #[strV x.1, strV x.2] 100) 0
        have px1 : (wr.alloc (.cells #[strV x.1, strV x.2] 100)).cell? ⟨wr.heap.size, 1, none⟩ = some (strV x.2) := Blk.cell (Blk.new wr #[strV x.1, strV x.2] 100) 1
        have Hxl : Hid (wr.heap.size < (wr.alloc (.cells #[strV x.1, strV x.2] 100)).heap.size) := Lib.hid (Blk.lt (Blk.new wr _ _))
        have Hbw1 := Lib.hid (Hbw.out.alloc Hbw.out.size (.cells #[strV x.1, strV x.2] 100))
        have Hxk := Lib.hid hxk
        clear hx hxk hstep hA'
        cases hm : mb x
        · have E2 : Hid (chkA mb ri l = 2) := by
            show chkA _ _ _ = _
            rw [E.out, if_pos]
            refine chkK_false (k := k + 1) ?_ hlt
            rw [Hstep.out, okAt_no hm]
          have KC := Lib.hid (fun w => Hcl.out x w Hbx.out)
          rw [hm] at KC
          clear hm
          go_upto_region 6 with fail
          refine wp_region_held_drew (S := fun w' => w'.cell? ⟨wr.heap.size, 0, none⟩ = some (strV x.1) ∧ w'.cell? ⟨wr.heap.size, 1, none⟩ = some (strV x.2)) (by kernel_rfl) ⟨px0, px1⟩ (fun hHeld => ?_)
          refine wpAnyH_take (i := 0) (oi := ⟨some 19, _, _, _, _, _⟩) (v := .func (Fn.func g) #[] #[]) rfl (by kernel_rfl) (by kernel_rfl) (by kernel_rfl) (fun _ _ _ h => h) (Or.inl ⟨by rfl, (fun w' hS => by clear hS; go_simp)⟩) (by assumption) ?_
          try simp only [Act.put, List.setIfInBounds_toArray, List.set_cons_zero, List.set_cons_succ]
          refine wpAnyH_take (i := 1) (oi := ⟨some 20, _, _, _, _, _⟩) (v := .agg #[strV x.1, strV x.2]) rfl (by kernel_rfl) (by kernel_rfl) (by kernel_rfl) (fun _ _ _ h => h) (Or.inl ⟨by rfl, (fun w' hS => by obtain ⟨s0, s1⟩ := hS; go_simp)⟩) (by assumption) ?_
          try simp only [Act.put, List.setIfInBounds_toArray, List.set_cons_zero, List.set_cons_succ]
          refine wpAnyH_ready (rs := [2]) (by kernel_rfl) (by simp) ?_
          refine AllReadyH.cons (o := { dst := some 21, op := Op.call { callee := Callee.value (Operand.tmp 19), args := #[Operand.tmp 20], argTypes := #[100] }, type := 4, pos := "label.go:46", after := #[{ on := 0, ground := Ground.data }, { on := 1, ground := Ground.data }], guard := none }) rfl (fun K2 hK => ?_) AllReadyH.nil
          rw [if_pos (by rfl)]
          go_simp
          refine (KC.out _).mono ?_
          rintro e w3 ⟨rfl, hb3⟩
          have qx0 := (hb3.cell (p := ⟨wr.heap.size, 0, none⟩) Hxl.out).trans px0
          have qx1 := (hb3.cell (p := ⟨wr.heap.size, 1, none⟩) Hxl.out).trans px1
          have HB3 := Lib.hid hb3
          clear hb3
          refine hK.out _ _ ⟨qx0, qx1⟩ (fun hHeld2 => ?_)
          clear hK K2 hHeld
          try simp only [Act.put, List.setIfInBounds_toArray, List.set_cons_zero, List.set_cons_succ]
          refine wpAnyH_take (i := 3) (oi := ⟨some 22, _, _, _, _, _⟩) (v := .bool true) rfl (by kernel_rfl) (by kernel_rfl) (by kernel_rfl) (fun _ _ _ h => h) (Or.inl ⟨by rfl, (fun w' hS => by clear hS; go_simp)⟩) (by assumption) ?_
          try simp only [Act.put, List.setIfInBounds_toArray, List.set_cons_zero, List.set_cons_succ]
          refine wpAnyH_take (i := 4) (oi := ⟨some 23, _, _, _, _, _⟩) (v := .bool true) rfl (by kernel_rfl) (by kernel_rfl) (by kernel_rfl) (fun _ _ _ h => h) (Or.inl ⟨by rfl, (fun w' hS => by clear hS; go_simp)⟩) (by assumption) ?_
          try simp only [Act.put, List.setIfInBounds_toArray, List.set_cons_zero, List.set_cons_succ]
          refine wpAnyH_take (i := 5) (oi := ⟨some 24, _, _, _, _, _⟩) (v := undef) rfl (by kernel_rfl) (by kernel_rfl) (by kernel_rfl) (fun _ _ _ h => h) (Or.inr ⟨by rfl, rfl⟩) (by assumption) ?_
          try simp only [Act.put, List.setIfInBounds_toArray, List.set_cons_zero, List.set_cons_succ]
          refine wpAnyH_take (i := 6) (oi := ⟨some 25, _, _, _, _, _⟩) (v := undef) rfl (by kernel_rfl) (by kernel_rfl) (by kernel_rfl) (fun _ _ _ h => h) (Or.inr ⟨by rfl, rfl⟩) (by assumption) ?_
          try simp only [Act.put, List.setIfInBounds_toArray, List.set_cons_zero, List.set_cons_succ]
          refine wpAnyH_take (i := 7) (oi := ⟨some 26, _, _, _, _, _⟩) (v := undef) rfl (by kernel_rfl) (by kernel_rfl) (by kernel_rfl) (fun _ _ _ h => h) (Or.inr ⟨by rfl, rfl⟩) (by assumption) ?_
          try simp only [Act.put, List.setIfInBounds_toArray, List.set_cons_zero, List.set_cons_succ]
          refine wpAnyH_take (i := 8) (oi := ⟨some 27, _, _, _, _, _⟩) (v := undef) rfl (by kernel_rfl) (by kernel_rfl) (by kernel_rfl) (fun _ _ _ h => h) (Or.inr ⟨by rfl, rfl⟩) (by assumption) ?_
          try simp only [Act.put, List.setIfInBounds_toArray, List.set_cons_zero, List.set_cons_succ]
          refine wpAnyH_take (i := 9) (oi := ⟨some 28, _, _, _, _, _⟩) (v := undef) rfl (by kernel_rfl) (by kernel_rfl) (by kernel_rfl) (fun _ _ _ h => h) (Or.inr ⟨by rfl, rfl⟩) (by assumption) ?_
          try simp only [Act.put, List.setIfInBounds_toArray, List.set_cons_zero, List.set_cons_succ]
          refine wpAnyH_take (i := 10) (oi := ⟨some 29, _, _, _, _, _⟩) (v := undef) rfl (by kernel_rfl) (by kernel_rfl) (by kernel_rfl) (fun _ _ _ h => h) (Or.inr ⟨by rfl, rfl⟩) (by assumption) ?_
          try simp only [Act.put, List.setIfInBounds_toArray, List.set_cons_zero, List.set_cons_succ]
          refine wpAnyH_take (i := 11) (oi := ⟨some 30, _, _, _, _, _⟩) (v := undef) rfl (by kernel_rfl) (by kernel_rfl) (by kernel_rfl) (fun _ _ _ h => h) (Or.inr ⟨by rfl, rfl⟩) (by assumption) ?_
          try simp only [Act.put, List.setIfInBounds_toArray, List.set_cons_zero, List.set_cons_succ]
          refine wpAnyH_take (i := 12) (oi := ⟨some 31, _, _, _, _, _⟩) (v := undef) rfl (by kernel_rfl) (by kernel_rfl) (by kernel_rfl) (fun _ _ _ h => h) (Or.inr ⟨by rfl, rfl⟩) (by assumption) ?_
          try simp only [Act.put, List.setIfInBounds_toArray, List.set_cons_zero, List.set_cons_succ]
          refine wpAnyH_take (i := 13) (oi := ⟨some 32, _, _, _, _, _⟩) (v := undef) rfl (by kernel_rfl) (by kernel_rfl) (by kernel_rfl) (fun _ _ _ h => h) (Or.inr ⟨by rfl, rfl⟩) (by assumption) ?_
          try simp only [Act.put, List.setIfInBounds_toArray, List.set_cons_zero, List.set_cons_succ]
          refine wpAnyH_take (i := 14) (oi := ⟨some 33, _, _, _, _, _⟩) (v := undef) rfl (by kernel_rfl) (by kernel_rfl) (by kernel_rfl) (fun _ _ _ h => h) (Or.inr ⟨by rfl, rfl⟩) (by assumption) ?_
          try simp only [Act.put, List.setIfInBounds_toArray, List.set_cons_zero, List.set_cons_succ]
          refine wpAnyH_take (i := 15) (oi := ⟨some 34, _, _, _, _, _⟩) (v := undef) rfl (by kernel_rfl) (by kernel_rfl) (by kernel_rfl) (fun _ _ _ h => h) (Or.inr ⟨by rfl, rfl⟩) (by assumption) ?_
          try simp only [Act.put, List.setIfInBounds_toArray, List.set_cons_zero, List.set_cons_succ]
          refine wpAnyH_take (i := 16) (oi := ⟨some 35, _, _, _, _, _⟩) (v := undef) rfl (by kernel_rfl) (by kernel_rfl) (by kernel_rfl) (fun _ _ _ h => h) (Or.inr ⟨by rfl, rfl⟩) (by assumption) ?_
          try simp only [Act.put, List.setIfInBounds_toArray, List.set_cons_zero, List.set_cons_succ]
          refine wpAnyH_take (i := 17) (oi := ⟨some 36, _, _, _, _, _⟩) (v := undef) rfl (by kernel_rfl) (by kernel_rfl) (by kernel_rfl) (fun _ _ _ h => h) (Or.inr ⟨by rfl, rfl⟩) (by assumption) ?_
          try simp only [Act.put, List.setIfInBounds_toArray, List.set_cons_zero, List.set_cons_succ]
          refine wpAnyH_take (i := 18) (oi := ⟨some 37, _, _, _, _, _⟩) (v := .bool true) rfl (by kernel_rfl) (by kernel_rfl) (by kernel_rfl) (fun _ _ _ h => h) (Or.inl ⟨by rfl, (fun w' hS => by clear hS; go_simp)⟩) (by assumption) ?_
          try simp only [Act.put, List.setIfInBounds_toArray, List.set_cons_zero, List.set_cons_succ]
          refine wpAnyH_done (by kernel_rfl) ?_ _
          clear hHeld2
          have Hbw3 := Lib.hid ((Hbw1.out.drew).trans (Below.mono HB3.out Hbw1.out.size))
          go_wp2
          go_ret
          exact ⟨retI (by rw [E2.out]), Hbw3.out⟩
        · have KC := Lib.hid (fun w => Hcl.out x w Hbx.out)
          rw [hm] at KC
          by_cases h0 : k = 0
          · have hnext : chkK mb ri l (k + 1) = true := by rw [Hstep.out, okAt_zero hm h0]
            have Hnext := Lib.hid hnext
            have h0i : (k : Int) ≤ 0 := by omega
            have h0b : decide (0 < k) = false := by simp [h0]
            have H0 := Lib.hid h0
            clear hm hnext h0
            go_upto_region 6 with fail
            refine wp_region_held_drew (S := fun w' => w'.cell? ⟨wr.heap.size, 0, none⟩ = some (strV x.1) ∧ w'.cell? ⟨wr.heap.size, 1, none⟩ = some (strV x.2)) (by kernel_rfl) ⟨px0, px1⟩ (fun hHeld => ?_)
            refine wpAnyH_take (i := 0) (oi := ⟨some 19, _, _, _, _, _⟩) (v := .func (Fn.func g) #[] #[]) rfl (by kernel_rfl) (by kernel_rfl) (by kernel_rfl) (fun _ _ _ h => h) (Or.inl ⟨by rfl, (fun w' hS => by clear hS; go_simp)⟩) (by assumption) ?_
            try simp only [Act.put, List.setIfInBounds_toArray, List.set_cons_zero, List.set_cons_succ]
            refine wpAnyH_take (i := 1) (oi := ⟨some 20, _, _, _, _, _⟩) (v := .agg #[strV x.1, strV x.2]) rfl (by kernel_rfl) (by kernel_rfl) (by kernel_rfl) (fun _ _ _ h => h) (Or.inl ⟨by rfl, (fun w' hS => by obtain ⟨s0, s1⟩ := hS; go_simp)⟩) (by assumption) ?_
            try simp only [Act.put, List.setIfInBounds_toArray, List.set_cons_zero, List.set_cons_succ]
            refine wpAnyH_ready (rs := [2]) (by kernel_rfl) (by simp) ?_
            refine AllReadyH.cons (o := { dst := some 21, op := Op.call { callee := Callee.value (Operand.tmp 19), args := #[Operand.tmp 20], argTypes := #[100] }, type := 4, pos := "label.go:46", after := #[{ on := 0, ground := Ground.data }, { on := 1, ground := Ground.data }], guard := none }) rfl (fun K2 hK => ?_) AllReadyH.nil
            rw [if_pos (by rfl)]
            go_simp
            refine (KC.out _).mono ?_
            rintro e w3 ⟨rfl, hb3⟩
            have qx0 := (hb3.cell (p := ⟨wr.heap.size, 0, none⟩) Hxl.out).trans px0
            have qx1 := (hb3.cell (p := ⟨wr.heap.size, 1, none⟩) Hxl.out).trans px1
            have HB3 := Lib.hid hb3
            clear hb3
            refine hK.out _ _ ⟨qx0, qx1⟩ (fun hHeld2 => ?_)
            clear hK K2 hHeld
            try simp only [Act.put, List.setIfInBounds_toArray, List.set_cons_zero, List.set_cons_succ]
            refine wpAnyH_take (i := 3) (oi := ⟨some 22, _, _, _, _, _⟩) (v := .bool false) rfl (by kernel_rfl) (by kernel_rfl) (by kernel_rfl) (fun _ _ _ h => h) (Or.inl ⟨by rfl, (fun w' hS => by clear hS; go_simp)⟩) (by assumption) ?_
            try simp only [Act.put, List.setIfInBounds_toArray, List.set_cons_zero, List.set_cons_succ]
            refine wpAnyH_take (i := 4) (oi := ⟨some 23, _, _, _, _, _⟩) (v := .bool false) rfl (by kernel_rfl) (by kernel_rfl) (by kernel_rfl) (fun _ _ _ h => h) (Or.inl ⟨by rfl, (fun w' hS => by clear hS; go_simp)⟩) (by assumption) ?_
            try simp only [Act.put, List.setIfInBounds_toArray, List.set_cons_zero, List.set_cons_succ]
            refine wpAnyH_take (i := 5) (oi := ⟨some 24, _, _, _, _, _⟩) (v := .int .i64 (k : Int)) rfl (by kernel_rfl) (by kernel_rfl) (by kernel_rfl) (fun _ _ _ h => h) (Or.inl ⟨by rfl, (fun w' hS => by clear hS; go_simp)⟩) (by assumption) ?_
            try simp only [Act.put, List.setIfInBounds_toArray, List.set_cons_zero, List.set_cons_succ]
            refine wpAnyH_take (i := 6) (oi := ⟨some 25, _, _, _, _, _⟩) (v := .bool false) rfl (by kernel_rfl) (by kernel_rfl) (by kernel_rfl) (fun _ _ _ h => h) (Or.inl ⟨by rfl, (fun w' hS => by clear hS; go_simp)⟩) (by assumption) ?_
            try simp only [Act.put, List.setIfInBounds_toArray, List.set_cons_zero, List.set_cons_succ]
            refine wpAnyH_take (i := 7) (oi := ⟨some 26, _, _, _, _, _⟩) (v := .bool false) rfl (by kernel_rfl) (by kernel_rfl) (by kernel_rfl) (fun _ _ _ h => h) (Or.inl ⟨by rfl, (fun w' hS => by clear hS; go_simp)⟩) (by assumption) ?_
            try simp only [Act.put, List.setIfInBounds_toArray, List.set_cons_zero, List.set_cons_succ]
            refine wpAnyH_take (i := 8) (oi := ⟨some 27, _, _, _, _, _⟩) (v := undef) rfl (by kernel_rfl) (by kernel_rfl) (by kernel_rfl) (fun _ _ _ h => h) (Or.inr ⟨by rfl, rfl⟩) (by assumption) ?_
            try simp only [Act.put, List.setIfInBounds_toArray, List.set_cons_zero, List.set_cons_succ]
            refine wpAnyH_take (i := 9) (oi := ⟨some 28, _, _, _, _, _⟩) (v := undef) rfl (by kernel_rfl) (by kernel_rfl) (by kernel_rfl) (fun _ _ _ h => h) (Or.inr ⟨by rfl, rfl⟩) (by assumption) ?_
            try simp only [Act.put, List.setIfInBounds_toArray, List.set_cons_zero, List.set_cons_succ]
            refine wpAnyH_take (i := 10) (oi := ⟨some 29, _, _, _, _, _⟩) (v := undef) rfl (by kernel_rfl) (by kernel_rfl) (by kernel_rfl) (fun _ _ _ h => h) (Or.inr ⟨by rfl, rfl⟩) (by assumption) ?_
            try simp only [Act.put, List.setIfInBounds_toArray, List.set_cons_zero, List.set_cons_succ]
            refine wpAnyH_take (i := 11) (oi := ⟨some 30, _, _, _, _, _⟩) (v := undef) rfl (by kernel_rfl) (by kernel_rfl) (by kernel_rfl) (fun _ _ _ h => h) (Or.inr ⟨by rfl, rfl⟩) (by assumption) ?_
            try simp only [Act.put, List.setIfInBounds_toArray, List.set_cons_zero, List.set_cons_succ]
            refine wpAnyH_take (i := 12) (oi := ⟨some 31, _, _, _, _, _⟩) (v := undef) rfl (by kernel_rfl) (by kernel_rfl) (by kernel_rfl) (fun _ _ _ h => h) (Or.inr ⟨by rfl, rfl⟩) (by assumption) ?_
            try simp only [Act.put, List.setIfInBounds_toArray, List.set_cons_zero, List.set_cons_succ]
            refine wpAnyH_take (i := 13) (oi := ⟨some 32, _, _, _, _, _⟩) (v := undef) rfl (by kernel_rfl) (by kernel_rfl) (by kernel_rfl) (fun _ _ _ h => h) (Or.inr ⟨by rfl, rfl⟩) (by assumption) ?_
            try simp only [Act.put, List.setIfInBounds_toArray, List.set_cons_zero, List.set_cons_succ]
            refine wpAnyH_take (i := 14) (oi := ⟨some 33, _, _, _, _, _⟩) (v := undef) rfl (by kernel_rfl) (by kernel_rfl) (by kernel_rfl) (fun _ _ _ h => h) (Or.inr ⟨by rfl, rfl⟩) (by assumption) ?_
            try simp only [Act.put, List.setIfInBounds_toArray, List.set_cons_zero, List.set_cons_succ]
            refine wpAnyH_take (i := 15) (oi := ⟨some 34, _, _, _, _, _⟩) (v := undef) rfl (by kernel_rfl) (by kernel_rfl) (by kernel_rfl) (fun _ _ _ h => h) (Or.inr ⟨by rfl, rfl⟩) (by assumption) ?_
            try simp only [Act.put, List.setIfInBounds_toArray, List.set_cons_zero, List.set_cons_succ]
            refine wpAnyH_take (i := 16) (oi := ⟨some 35, _, _, _, _, _⟩) (v := undef) rfl (by kernel_rfl) (by kernel_rfl) (by kernel_rfl) (fun _ _ _ h => h) (Or.inr ⟨by rfl, rfl⟩) (by assumption) ?_
            try simp only [Act.put, List.setIfInBounds_toArray, List.set_cons_zero, List.set_cons_succ]
            refine wpAnyH_take (i := 17) (oi := ⟨some 36, _, _, _, _, _⟩) (v := .bool false) rfl (by kernel_rfl) (by kernel_rfl) (by kernel_rfl) (fun _ _ _ h => h) (Or.inl ⟨by rfl, (fun w' hS => by clear hS; go_simp)⟩) (by assumption) ?_
            try simp only [Act.put, List.setIfInBounds_toArray, List.set_cons_zero, List.set_cons_succ]
            refine wpAnyH_take (i := 18) (oi := ⟨some 37, _, _, _, _, _⟩) (v := .bool false) rfl (by kernel_rfl) (by kernel_rfl) (by kernel_rfl) (fun _ _ _ h => h) (Or.inl ⟨by rfl, (fun w' hS => by clear hS; go_simp)⟩) (by assumption) ?_
            try simp only [Act.put, List.setIfInBounds_toArray, List.set_cons_zero, List.set_cons_succ]
            refine wpAnyH_done (by kernel_rfl) ?_ _
            clear hHeld2
            have Hbw3 := Lib.hid ((Hbw1.out.drew).trans (Below.mono HB3.out Hbw1.out.size))
            go_wp2
            go_roundw
            case rel => exact ⟨k + 1, by omega, by go_num, Hnext.out, Hbw3.out⟩
            case measure => simp [intOf]; omega
          · obtain ⟨y, hyk⟩ : ∃ y, l[k - 1]? = some y := ⟨l[k - 1]'(by omega), List.getElem?_eq_getElem (by omega)⟩
            have hnx : chkK mb ri l (k + 1) = ri y x := by rw [Hstep.out, okAt_pos hm h0 hyk]
            obtain ⟨b9, o9, hA9, hb9, hy⟩ := SlAt.lab (HS.out.below Hbw.out) hyk
            simp only [Option.some.injEq, Addr.mk.injEq] at hA9
            obtain ⟨rfl, rfl, _⟩ := hA9
            have Hb0 : Hid (b0 < (wr.alloc (.cells #[strV x.1, strV x.2] 100)).heap.size) := Lib.hid (Nat.lt_of_lt_of_le hb9 (below1 wr _).size)
            have py0 : (wr.alloc (.cells #[strV x.1, strV x.2] 100)).cell? ⟨b0, o0 + (k - 1) * 2, none⟩ = some (strV y.1) := (Below.cell (below1 wr _) (p := ⟨b0, o0 + (k - 1) * 2, none⟩) hb9).trans hy.1
            have py1 : (wr.alloc (.cells #[strV x.1, strV x.2] 100)).cell? ⟨b0, o0 + (k - 1) * 2 + 1, none⟩ = some (strV y.2) := (Below.cell (below1 wr _) (p := ⟨b0, o0 + (k - 1) * 2 + 1, none⟩) hb9).trans hy.2
            have Hnx := Lib.hid hnx
            have h0b : decide (0 < k) = true := by simp; omega
            have n1 : (1 : Int) ≤ (k : Int) := by omega
            have n2 : (k : Int) ≤ 6 := by omega
            have n3 : ((k : Int) - 1).toNat = k - 1 := by omega
            have n5 : (0 : Int) ≤ (k : Int) - 1 := by omega
            have n6 : (k : Int) - 1 < (l.length : Int) := by omega
            have n7 : ((k : Int) - 1 < 0) = False := by simp; omega
            have n8 : decide ((k : Int) - 1 < (l.length : Int)) = true := by simp; omega
            have n4 : IntKind.i64.wrap ((k : Int) - 1) = (k : Int) - 1 := IntWalk.i64_in _ (by omega)
            have KR := Lib.hid (fun w => Hri.out y x w)
            have Hyk := Lib.hid hyk
            have H0 := Lib.hid h0
            clear hm hnx hy hyk h0
            cases hr : ri y x
            · rw [hr] at KR
              have E2 : Hid (chkA mb ri l = 2) := by
                show chkA _ _ _ = _
                rw [E.out, if_pos]
                refine chkK_false (k := k + 1) ?_ hlt
                rw [Hnx.out, hr]
              clear hr
              go_upto_region 6 with fail
              go_region_held3 (fun w' => w'.cell? ⟨b0, o0 + (k - 1) * 2, none⟩ = some (strV y.1) ∧ w'.cell? ⟨b0, o0 + (k - 1) * 2 + 1, none⟩ = some (strV y.2) ∧ w'.cell? ⟨wr.heap.size, 0, none⟩ = some (strV x.1) ∧ w'.cell? ⟨wr.heap.size, 1, none⟩ = some (strV x.2)) (first | exact ⟨py0, py1, px0, px1⟩ | exact ⟨qy0, qy1, qx0, qx1⟩ | exact ⟨ry0, ry1, rx0, rx1⟩)
                (first | ((with_reducible refine (KC.out _).mono ?_); rintro e w3 ⟨rfl, hb3⟩; have qx0 := (hb3.cell (p := ⟨wr.heap.size, 0, none⟩) Hxl.out).trans px0; have qx1 := (hb3.cell (p := ⟨wr.heap.size, 1, none⟩) Hxl.out).trans px1; have qy0 := (hb3.cell (p := ⟨b0, o0 + (k - 1) * 2, none⟩) Hb0.out).trans py0; have qy1 := (hb3.cell (p := ⟨b0, o0 + (k - 1) * 2 + 1, none⟩) Hb0.out).trans py1; have HB3 := Lib.hid hb3; clear hb3) | ((with_reducible refine (KR.out _).mono ?_); rintro e w4 ⟨rfl, hb4⟩; have rx0 := (hb4.cell (p := ⟨wr.heap.size, 0, none⟩) (Nat.lt_of_lt_of_le Hxl.out HB3.out.size)).trans qx0; have rx1 := (hb4.cell (p := ⟨wr.heap.size, 1, none⟩) (Nat.lt_of_lt_of_le Hxl.out HB3.out.size)).trans qx1; have ry0 := (hb4.cell (p := ⟨b0, o0 + (k - 1) * 2, none⟩) (Nat.lt_of_lt_of_le Hb0.out HB3.out.size)).trans qy0; have ry1 := (hb4.cell (p := ⟨b0, o0 + (k - 1) * 2 + 1, none⟩) (Nat.lt_of_lt_of_le Hb0.out HB3.out.size)).trans qy1; have HB4 := Lib.hid hb4; clear hb4))
              have Hbw3 := Lib.hid ((Hbw1.out.drew).trans (Below.mono HB3.out Hbw1.out.size))
              have Hbw4 := Lib.hid (Hbw3.out.trans (HB4.out.mono Hbw3.out.size))
              clear n1 n3 n4 n5 n6 n7 n8
              go_wp2
              go_ret
              exact ⟨retI (by rw [E2.out]), Hbw4.out⟩
            · rw [hr] at KR
              have Hnext : Hid (chkK mb ri l (k + 1) = true) := Lib.hid (Hnx.out.trans hr)
              clear hr
              go_upto_region 6 with fail
              go_region_held3 (fun w' => w'.cell? ⟨b0, o0 + (k - 1) * 2, none⟩ = some (strV y.1) ∧ w'.cell? ⟨b0, o0 + (k - 1) * 2 + 1, none⟩ = some (strV y.2) ∧ w'.cell? ⟨wr.heap.size, 0, none⟩ = some (strV x.1) ∧ w'.cell? ⟨wr.heap.size, 1, none⟩ = some (strV x.2)) (first | exact ⟨py0, py1, px0, px1⟩ | exact ⟨qy0, qy1, qx0, qx1⟩ | exact ⟨ry0, ry1, rx0, rx1⟩)
                (first | ((with_reducible refine (KC.out _).mono ?_); rintro e w3 ⟨rfl, hb3⟩; have qx0 := (hb3.cell (p := ⟨wr.heap.size, 0, none⟩) Hxl.out).trans px0; have qx1 := (hb3.cell (p := ⟨wr.heap.size, 1, none⟩) Hxl.out).trans px1; have qy0 := (hb3.cell (p := ⟨b0, o0 + (k - 1) * 2, none⟩) Hb0.out).trans py0; have qy1 := (hb3.cell (p := ⟨b0, o0 + (k - 1) * 2 + 1, none⟩) Hb0.out).trans py1; have HB3 := Lib.hid hb3; clear hb3) | ((with_reducible refine (KR.out _).mono ?_); rintro e w4 ⟨rfl, hb4⟩; have rx0 := (hb4.cell (p := ⟨wr.heap.size, 0, none⟩) (Nat.lt_of_lt_of_le Hxl.out HB3.out.size)).trans qx0; have rx1 := (hb4.cell (p := ⟨wr.heap.size, 1, none⟩) (Nat.lt_of_lt_of_le Hxl.out HB3.out.size)).trans qx1; have ry0 := (hb4.cell (p := ⟨b0, o0 + (k - 1) * 2, none⟩) (Nat.lt_of_lt_of_le Hb0.out HB3.out.size)).trans qy0; have ry1 := (hb4.cell (p := ⟨b0, o0 + (k - 1) * 2 + 1, none⟩) (Nat.lt_of_lt_of_le Hb0.out HB3.out.size)).trans qy1; have HB4 := Lib.hid hb4; clear hb4))
              have Hbw3 := Lib.hid ((Hbw1.out.drew).trans (Below.mono HB3.out Hbw1.out.size))
              have Hbw4 := Lib.hid (Hbw3.out.trans (HB4.out.mono Hbw3.out.size))
              clear n1 n3 n4 n5 n6 n7 n8
              go_wp2
              go_roundw
              case rel => exact ⟨k + 1, by omega, by go_num, Hnext.out, Hbw4.out⟩
              case measure => simp [intOf]; omega
      · obtain rfl : k = l.length := by omega
        go_wp2
        go_ret
        exact ⟨retI (by rw [E.out, Hp.out]; rfl), Hbw.out⟩

end Go.Proofs.YtmmokiaipfalmaaGreat.La

namespace Go.Proofs.YtmmokiaipfalmaaGreat.La
open Go.RowKit

set_option maxRecDepth 100000 in
set_option maxHeartbeats 4000000 in
theorem checkT_any (mb : Int × List UInt8 × List UInt8 → Bool) (ri : Int × List UInt8 × List UInt8 → Int × List UInt8 × List UInt8 → Bool) (g r : FuncId) (A : Option Addr) (c : Nat) (l : List (Int × List UInt8 × List UInt8)) (w : World) (hn : l.length ≤ 1000) (_hc : l.length ≤ c) (_hcm : c ≤ 9223372036854775807) (hs : SlAt w A (cellsT l)) (hbig : ∀ x ∈ l, x.2.1.length ≤ 9223372036854775807 ∧ x.2.2.length ≤ 9223372036854775807)
    (hg1 : ∀ (args : Array Value) (w : World), (callFunc g args).run Tryz.prog w = .ok (.enter g args) w) (hr1 : ∀ (args : Array Value) (w : World), (callFunc r args).run Tryz.prog w = .ok (.enter r args) w)
    (hcl : ∀ (x : Int × List UInt8 × List UInt8) (w : World), x.2.1.length ≤ 9223372036854775807 ∧ x.2.2.length ≤ 9223372036854775807 → Calls Tryz.prog g #[terV x] w fun e w' => e = .returned (.bool (mb x)) ∧ Below w.heap.size w w')
    (hri : ∀ (a b : Int × List UInt8 × List UInt8) (w : World), Calls Tryz.prog r #[terV a, terV b] w fun e w' => e = .returned (.bool (ri a b)) ∧ Below w.heap.size w w') :
    Calls Tryz.prog 340 #[.slice A l.length c, .func (Fn.func g) #[] #[], .func (Fn.func r) #[] #[]] w fun e w' => e = .returned (.int .i64 (chkA mb ri l)) ∧ Below w.heap.size w w' := by
  have HS := Lib.hid hs
  have Hcl := Lib.hid hcl
  have Hri := Lib.hid hri
  have Hbig := Lib.hid hbig
  clear hs hcl hri hbig
  by_cases h6 : 6 < l.length
  · have E : Hid (chkA mb ri l = 2) := by show chkA _ _ _ = _; unfold chkA; rw [if_pos (.inl h6)]
    have h6b : decide (6 < l.length) = true := by simpa using h6
    have h6i : (6 : Int) < (l.length : Int) := by omega
    go_enter Tryz.func340, Tryz.ntmps340
    go_wp2
    go_ret
    exact ⟨retI (by rw [E.out]), Below.refl _ _⟩
  · have h6b : decide (6 < l.length) = false := by simpa using h6
    have h6i : (l.length : Int) ≤ 6 := by omega
    have E : Hid (chkA mb ri l = if chkK mb ri l l.length = false then 2 else 0) := by show chkA _ _ _ = _; unfold chkA; by_cases hq : chkK mb ri l l.length = false; rw [if_pos (.inr hq), if_pos hq]; rw [if_neg (fun h => h.elim h6 hq), if_neg hq]
    have H6 := Lib.hid h6
    clear h6
    go_enter Tryz.func340, Tryz.ntmps340
    go_wp2
    go_loopw [14] (fun i wr => ∃ k : Nat, k ≤ l.length ∧ i = .int .i64 k ∧ chkK mb ri l k = true ∧ Below w.heap.size w wr) (fun i _ => l.length - (intOf i).toNat)
    case atStart => exact ⟨0, by omega, rfl, rfl, Below.refl _ _⟩
    case round =>
      obtain ⟨k, hk, rfl, hp, hbw⟩ := hrel
      have Hp := Lib.hid hp
      have Hbw := Lib.hid hbw
      clear hp hbw
      by_cases hlt : k < l.length
      · obtain ⟨x, hxk⟩ : ∃ x, l[k]? = some x := ⟨l[k], List.getElem?_eq_getElem hlt⟩
        obtain ⟨b0, o0, hA, hb0, hx⟩ := SlAt.ter (HS.out.below Hbw.out) hxk
        have Hbx := Lib.hid (Hbig.out x (List.mem_of_getElem? hxk))
        have hstep : chkK mb ri l (k + 1) = okAt mb ri l k x := by rw [chkK, Hp.out, hxk]; rfl
        have Hstep := Lib.hid hstep
        have hA' := hA
        subst hA
        have hx0 : wr.cell? ⟨b0, o0 + k * 3, none⟩ = some (.int .i64 x.1) := hx.1
        have hx1 : wr.cell? ⟨b0, o0 + k * 3 + 1, none⟩ = some (strV x.2.1) := hx.2.1
        have hx2 : wr.cell? ⟨b0, o0 + k * 3 + 2, none⟩ = some (strV x.2.2) := hx.2.2
        have px0 : (wr.alloc (.cells #[.int .i64 x.1, strV x.2.1, strV x.2.2] 98)).cell? ⟨wr.heap.size, 0, none⟩ = some (.int .i64 x.1) := Blk.cell (Blk.new wr #[.int .i64 x.1, strV x.2.1, strV x.2.2] 98) 0
        have px1 : (wr.alloc (.cells #[.int .i64 x.1, strV x.2.1, strV x.2.2] 98)).cell? ⟨wr.heap.size, 1, none⟩ = some (strV x.2.1) := Blk.cell (Blk.new wr #[.int .i64 x.1, strV x.2.1, strV x.2.2] 98) 1
        have px2 : (wr.alloc (.cells #[.int .i64 x.1, strV x.2.1, strV x.2.2] 98)).cell? ⟨wr.heap.size, 2, none⟩ = some (strV x.2.2) := Blk.cell (Blk.new wr #[.int .i64 x.1, strV x.2.1, strV x.2.2] 98) 2
        have Hxl : Hid (wr.heap.size < (wr.alloc (.cells #[.int .i64 x.1, strV x.2.1, strV x.2.2] 98)).heap.size) := Lib.hid (Blk.lt (Blk.new wr _ _))
        have Hbw1 := Lib.hid (Hbw.out.alloc Hbw.out.size (.cells #[.int .i64 x.1, strV x.2.1, strV x.2.2] 98))
        have Hxk := Lib.hid hxk
        clear hx hxk hstep hA'
        cases hm : mb x
        · have E2 : Hid (chkA mb ri l = 2) := by
            show chkA _ _ _ = _
            rw [E.out, if_pos]
            refine chkK_false (k := k + 1) ?_ hlt
            rw [Hstep.out, okAt_no hm]
          have KC := Lib.hid (fun w => Hcl.out x w Hbx.out)
          rw [hm] at KC
          clear hm
          go_upto_region 6 with fail
          refine wp_region_held_drew (S := fun w' => w'.cell? ⟨wr.heap.size, 0, none⟩ = some (.int .i64 x.1) ∧ w'.cell? ⟨wr.heap.size, 1, none⟩ = some (strV x.2.1) ∧ w'.cell? ⟨wr.heap.size, 2, none⟩ = some (strV x.2.2)) (by kernel_rfl) ⟨px0, px1, px2⟩ (fun hHeld => ?_)
          refine wpAnyH_take (i := 0) (oi := ⟨some 19, _, _, _, _, _⟩) (v := .func (Fn.func g) #[] #[]) rfl (by kernel_rfl) (by kernel_rfl) (by kernel_rfl) (fun _ _ _ h => h) (Or.inl ⟨by rfl, (fun w' hS => by clear hS; go_simp)⟩) (by assumption) ?_
          try simp only [Act.put, List.setIfInBounds_toArray, List.set_cons_zero, List.set_cons_succ]
          refine wpAnyH_take (i := 1) (oi := ⟨some 20, _, _, _, _, _⟩) (v := .agg #[.int .i64 x.1, strV x.2.1, strV x.2.2]) rfl (by kernel_rfl) (by kernel_rfl) (by kernel_rfl) (fun _ _ _ h => h) (Or.inl ⟨by rfl, (fun w' hS => by obtain ⟨s0, s1, s2⟩ := hS; go_simp)⟩) (by assumption) ?_
          try simp only [Act.put, List.setIfInBounds_toArray, List.set_cons_zero, List.set_cons_succ]
          refine wpAnyH_ready (rs := [2]) (by kernel_rfl) (by simp) ?_
          refine AllReadyH.cons (o := { dst := some 21, op := Op.call { callee := Callee.value (Operand.tmp 19), args := #[Operand.tmp 20], argTypes := #[98] }, type := 4, pos := "label.go:46", after := #[{ on := 0, ground := Ground.data }, { on := 1, ground := Ground.data }], guard := none }) rfl (fun K2 hK => ?_) AllReadyH.nil
          rw [if_pos (by rfl)]
          go_simp
          refine (KC.out _).mono ?_
          rintro e w3 ⟨rfl, hb3⟩
          have qx0 := (hb3.cell (p := ⟨wr.heap.size, 0, none⟩) Hxl.out).trans px0
          have qx1 := (hb3.cell (p := ⟨wr.heap.size, 1, none⟩) Hxl.out).trans px1
          have qx2 := (hb3.cell (p := ⟨wr.heap.size, 2, none⟩) Hxl.out).trans px2
          have HB3 := Lib.hid hb3
          clear hb3
          refine hK.out _ _ ⟨qx0, qx1, qx2⟩ (fun hHeld2 => ?_)
          clear hK K2 hHeld
          try simp only [Act.put, List.setIfInBounds_toArray, List.set_cons_zero, List.set_cons_succ]
          refine wpAnyH_take (i := 3) (oi := ⟨some 22, _, _, _, _, _⟩) (v := .bool true) rfl (by kernel_rfl) (by kernel_rfl) (by kernel_rfl) (fun _ _ _ h => h) (Or.inl ⟨by rfl, (fun w' hS => by clear hS; go_simp)⟩) (by assumption) ?_
          try simp only [Act.put, List.setIfInBounds_toArray, List.set_cons_zero, List.set_cons_succ]
          refine wpAnyH_take (i := 4) (oi := ⟨some 23, _, _, _, _, _⟩) (v := .bool true) rfl (by kernel_rfl) (by kernel_rfl) (by kernel_rfl) (fun _ _ _ h => h) (Or.inl ⟨by rfl, (fun w' hS => by clear hS; go_simp)⟩) (by assumption) ?_
          try simp only [Act.put, List.setIfInBounds_toArray, List.set_cons_zero, List.set_cons_succ]
          refine wpAnyH_take (i := 5) (oi := ⟨some 24, _, _, _, _, _⟩) (v := undef) rfl (by kernel_rfl) (by kernel_rfl) (by kernel_rfl) (fun _ _ _ h => h) (Or.inr ⟨by rfl, rfl⟩) (by assumption) ?_
          try simp only [Act.put, List.setIfInBounds_toArray, List.set_cons_zero, List.set_cons_succ]
          refine wpAnyH_take (i := 6) (oi := ⟨some 25, _, _, _, _, _⟩) (v := undef) rfl (by kernel_rfl) (by kernel_rfl) (by kernel_rfl) (fun _ _ _ h => h) (Or.inr ⟨by rfl, rfl⟩) (by assumption) ?_
          try simp only [Act.put, List.setIfInBounds_toArray, List.set_cons_zero, List.set_cons_succ]
          refine wpAnyH_take (i := 7) (oi := ⟨some 26, _, _, _, _, _⟩) (v := undef) rfl (by kernel_rfl) (by kernel_rfl) (by kernel_rfl) (fun _ _ _ h => h) (Or.inr ⟨by rfl, rfl⟩) (by assumption) ?_
          try simp only [Act.put, List.setIfInBounds_toArray, List.set_cons_zero, List.set_cons_succ]
          refine wpAnyH_take (i := 8) (oi := ⟨some 27, _, _, _, _, _⟩) (v := undef) rfl (by kernel_rfl) (by kernel_rfl) (by kernel_rfl) (fun _ _ _ h => h) (Or.inr ⟨by rfl, rfl⟩) (by assumption) ?_
          try simp only [Act.put, List.setIfInBounds_toArray, List.set_cons_zero, List.set_cons_succ]
          refine wpAnyH_take (i := 9) (oi := ⟨some 28, _, _, _, _, _⟩) (v := undef) rfl (by kernel_rfl) (by kernel_rfl) (by kernel_rfl) (fun _ _ _ h => h) (Or.inr ⟨by rfl, rfl⟩) (by assumption) ?_
          try simp only [Act.put, List.setIfInBounds_toArray, List.set_cons_zero, List.set_cons_succ]
          refine wpAnyH_take (i := 10) (oi := ⟨some 29, _, _, _, _, _⟩) (v := undef) rfl (by kernel_rfl) (by kernel_rfl) (by kernel_rfl) (fun _ _ _ h => h) (Or.inr ⟨by rfl, rfl⟩) (by assumption) ?_
          try simp only [Act.put, List.setIfInBounds_toArray, List.set_cons_zero, List.set_cons_succ]
          refine wpAnyH_take (i := 11) (oi := ⟨some 30, _, _, _, _, _⟩) (v := undef) rfl (by kernel_rfl) (by kernel_rfl) (by kernel_rfl) (fun _ _ _ h => h) (Or.inr ⟨by rfl, rfl⟩) (by assumption) ?_
          try simp only [Act.put, List.setIfInBounds_toArray, List.set_cons_zero, List.set_cons_succ]
          refine wpAnyH_take (i := 12) (oi := ⟨some 31, _, _, _, _, _⟩) (v := undef) rfl (by kernel_rfl) (by kernel_rfl) (by kernel_rfl) (fun _ _ _ h => h) (Or.inr ⟨by rfl, rfl⟩) (by assumption) ?_
          try simp only [Act.put, List.setIfInBounds_toArray, List.set_cons_zero, List.set_cons_succ]
          refine wpAnyH_take (i := 13) (oi := ⟨some 32, _, _, _, _, _⟩) (v := undef) rfl (by kernel_rfl) (by kernel_rfl) (by kernel_rfl) (fun _ _ _ h => h) (Or.inr ⟨by rfl, rfl⟩) (by assumption) ?_
          try simp only [Act.put, List.setIfInBounds_toArray, List.set_cons_zero, List.set_cons_succ]
          refine wpAnyH_take (i := 14) (oi := ⟨some 33, _, _, _, _, _⟩) (v := undef) rfl (by kernel_rfl) (by kernel_rfl) (by kernel_rfl) (fun _ _ _ h => h) (Or.inr ⟨by rfl, rfl⟩) (by assumption) ?_
          try simp only [Act.put, List.setIfInBounds_toArray, List.set_cons_zero, List.set_cons_succ]
          refine wpAnyH_take (i := 15) (oi := ⟨some 34, _, _, _, _, _⟩) (v := undef) rfl (by kernel_rfl) (by kernel_rfl) (by kernel_rfl) (fun _ _ _ h => h) (Or.inr ⟨by rfl, rfl⟩) (by assumption) ?_
          try simp only [Act.put, List.setIfInBounds_toArray, List.set_cons_zero, List.set_cons_succ]
          refine wpAnyH_take (i := 16) (oi := ⟨some 35, _, _, _, _, _⟩) (v := undef) rfl (by kernel_rfl) (by kernel_rfl) (by kernel_rfl) (fun _ _ _ h => h) (Or.inr ⟨by rfl, rfl⟩) (by assumption) ?_
          try simp only [Act.put, List.setIfInBounds_toArray, List.set_cons_zero, List.set_cons_succ]
          refine wpAnyH_take (i := 17) (oi := ⟨some 36, _, _, _, _, _⟩) (v := undef) rfl (by kernel_rfl) (by kernel_rfl) (by kernel_rfl) (fun _ _ _ h => h) (Or.inr ⟨by rfl, rfl⟩) (by assumption) ?_
          try simp only [Act.put, List.setIfInBounds_toArray, List.set_cons_zero, List.set_cons_succ]
          refine wpAnyH_take (i := 18) (oi := ⟨some 37, _, _, _, _, _⟩) (v := .bool true) rfl (by kernel_rfl) (by kernel_rfl) (by kernel_rfl) (fun _ _ _ h => h) (Or.inl ⟨by rfl, (fun w' hS => by clear hS; go_simp)⟩) (by assumption) ?_
          try simp only [Act.put, List.setIfInBounds_toArray, List.set_cons_zero, List.set_cons_succ]
          refine wpAnyH_done (by kernel_rfl) ?_ _
          clear hHeld2
          have Hbw3 := Lib.hid ((Hbw1.out.drew).trans (Below.mono HB3.out Hbw1.out.size))
          go_wp2
          go_ret
          exact ⟨retI (by rw [E2.out]), Hbw3.out⟩
        · have KC := Lib.hid (fun w => Hcl.out x w Hbx.out)
          rw [hm] at KC
          by_cases h0 : k = 0
          · have hnext : chkK mb ri l (k + 1) = true := by rw [Hstep.out, okAt_zero hm h0]
            have Hnext := Lib.hid hnext
            have h0i : (k : Int) ≤ 0 := by omega
            have h0b : decide (0 < k) = false := by simp [h0]
            have H0 := Lib.hid h0
            clear hm hnext h0
            go_upto_region 6 with fail
            refine wp_region_held_drew (S := fun w' => w'.cell? ⟨wr.heap.size, 0, none⟩ = some (.int .i64 x.1) ∧ w'.cell? ⟨wr.heap.size, 1, none⟩ = some (strV x.2.1) ∧ w'.cell? ⟨wr.heap.size, 2, none⟩ = some (strV x.2.2)) (by kernel_rfl) ⟨px0, px1, px2⟩ (fun hHeld => ?_)
            refine wpAnyH_take (i := 0) (oi := ⟨some 19, _, _, _, _, _⟩) (v := .func (Fn.func g) #[] #[]) rfl (by kernel_rfl) (by kernel_rfl) (by kernel_rfl) (fun _ _ _ h => h) (Or.inl ⟨by rfl, (fun w' hS => by clear hS; go_simp)⟩) (by assumption) ?_
            try simp only [Act.put, List.setIfInBounds_toArray, List.set_cons_zero, List.set_cons_succ]
            refine wpAnyH_take (i := 1) (oi := ⟨some 20, _, _, _, _, _⟩) (v := .agg #[.int .i64 x.1, strV x.2.1, strV x.2.2]) rfl (by kernel_rfl) (by kernel_rfl) (by kernel_rfl) (fun _ _ _ h => h) (Or.inl ⟨by rfl, (fun w' hS => by obtain ⟨s0, s1, s2⟩ := hS; go_simp)⟩) (by assumption) ?_
            try simp only [Act.put, List.setIfInBounds_toArray, List.set_cons_zero, List.set_cons_succ]
            refine wpAnyH_ready (rs := [2]) (by kernel_rfl) (by simp) ?_
            refine AllReadyH.cons (o := { dst := some 21, op := Op.call { callee := Callee.value (Operand.tmp 19), args := #[Operand.tmp 20], argTypes := #[98] }, type := 4, pos := "label.go:46", after := #[{ on := 0, ground := Ground.data }, { on := 1, ground := Ground.data }], guard := none }) rfl (fun K2 hK => ?_) AllReadyH.nil
            rw [if_pos (by rfl)]
            go_simp
            refine (KC.out _).mono ?_
            rintro e w3 ⟨rfl, hb3⟩
            have qx0 := (hb3.cell (p := ⟨wr.heap.size, 0, none⟩) Hxl.out).trans px0
            have qx1 := (hb3.cell (p := ⟨wr.heap.size, 1, none⟩) Hxl.out).trans px1
            have qx2 := (hb3.cell (p := ⟨wr.heap.size, 2, none⟩) Hxl.out).trans px2
            have HB3 := Lib.hid hb3
            clear hb3
            refine hK.out _ _ ⟨qx0, qx1, qx2⟩ (fun hHeld2 => ?_)
            clear hK K2 hHeld
            try simp only [Act.put, List.setIfInBounds_toArray, List.set_cons_zero, List.set_cons_succ]
            refine wpAnyH_take (i := 3) (oi := ⟨some 22, _, _, _, _, _⟩) (v := .bool false) rfl (by kernel_rfl) (by kernel_rfl) (by kernel_rfl) (fun _ _ _ h => h) (Or.inl ⟨by rfl, (fun w' hS => by clear hS; go_simp)⟩) (by assumption) ?_
            try simp only [Act.put, List.setIfInBounds_toArray, List.set_cons_zero, List.set_cons_succ]
            refine wpAnyH_take (i := 4) (oi := ⟨some 23, _, _, _, _, _⟩) (v := .bool false) rfl (by kernel_rfl) (by kernel_rfl) (by kernel_rfl) (fun _ _ _ h => h) (Or.inl ⟨by rfl, (fun w' hS => by clear hS; go_simp)⟩) (by assumption) ?_
            try simp only [Act.put, List.setIfInBounds_toArray, List.set_cons_zero, List.set_cons_succ]
            refine wpAnyH_take (i := 5) (oi := ⟨some 24, _, _, _, _, _⟩) (v := .int .i64 (k : Int)) rfl (by kernel_rfl) (by kernel_rfl) (by kernel_rfl) (fun _ _ _ h => h) (Or.inl ⟨by rfl, (fun w' hS => by clear hS; go_simp)⟩) (by assumption) ?_
            try simp only [Act.put, List.setIfInBounds_toArray, List.set_cons_zero, List.set_cons_succ]
            refine wpAnyH_take (i := 6) (oi := ⟨some 25, _, _, _, _, _⟩) (v := .bool false) rfl (by kernel_rfl) (by kernel_rfl) (by kernel_rfl) (fun _ _ _ h => h) (Or.inl ⟨by rfl, (fun w' hS => by clear hS; go_simp)⟩) (by assumption) ?_
            try simp only [Act.put, List.setIfInBounds_toArray, List.set_cons_zero, List.set_cons_succ]
            refine wpAnyH_take (i := 7) (oi := ⟨some 26, _, _, _, _, _⟩) (v := .bool false) rfl (by kernel_rfl) (by kernel_rfl) (by kernel_rfl) (fun _ _ _ h => h) (Or.inl ⟨by rfl, (fun w' hS => by clear hS; go_simp)⟩) (by assumption) ?_
            try simp only [Act.put, List.setIfInBounds_toArray, List.set_cons_zero, List.set_cons_succ]
            refine wpAnyH_take (i := 8) (oi := ⟨some 27, _, _, _, _, _⟩) (v := undef) rfl (by kernel_rfl) (by kernel_rfl) (by kernel_rfl) (fun _ _ _ h => h) (Or.inr ⟨by rfl, rfl⟩) (by assumption) ?_
            try simp only [Act.put, List.setIfInBounds_toArray, List.set_cons_zero, List.set_cons_succ]
            refine wpAnyH_take (i := 9) (oi := ⟨some 28, _, _, _, _, _⟩) (v := undef) rfl (by kernel_rfl) (by kernel_rfl) (by kernel_rfl) (fun _ _ _ h => h) (Or.inr ⟨by rfl, rfl⟩) (by assumption) ?_
            try simp only [Act.put, List.setIfInBounds_toArray, List.set_cons_zero, List.set_cons_succ]
            refine wpAnyH_take (i := 10) (oi := ⟨some 29, _, _, _, _, _⟩) (v := undef) rfl (by kernel_rfl) (by kernel_rfl) (by kernel_rfl) (fun _ _ _ h => h) (Or.inr ⟨by rfl, rfl⟩) (by assumption) ?_
            try simp only [Act.put, List.setIfInBounds_toArray, List.set_cons_zero, List.set_cons_succ]
            refine wpAnyH_take (i := 11) (oi := ⟨some 30, _, _, _, _, _⟩) (v := undef) rfl (by kernel_rfl) (by kernel_rfl) (by kernel_rfl) (fun _ _ _ h => h) (Or.inr ⟨by rfl, rfl⟩) (by assumption) ?_
            try simp only [Act.put, List.setIfInBounds_toArray, List.set_cons_zero, List.set_cons_succ]
            refine wpAnyH_take (i := 12) (oi := ⟨some 31, _, _, _, _, _⟩) (v := undef) rfl (by kernel_rfl) (by kernel_rfl) (by kernel_rfl) (fun _ _ _ h => h) (Or.inr ⟨by rfl, rfl⟩) (by assumption) ?_
            try simp only [Act.put, List.setIfInBounds_toArray, List.set_cons_zero, List.set_cons_succ]
            refine wpAnyH_take (i := 13) (oi := ⟨some 32, _, _, _, _, _⟩) (v := undef) rfl (by kernel_rfl) (by kernel_rfl) (by kernel_rfl) (fun _ _ _ h => h) (Or.inr ⟨by rfl, rfl⟩) (by assumption) ?_
            try simp only [Act.put, List.setIfInBounds_toArray, List.set_cons_zero, List.set_cons_succ]
            refine wpAnyH_take (i := 14) (oi := ⟨some 33, _, _, _, _, _⟩) (v := undef) rfl (by kernel_rfl) (by kernel_rfl) (by kernel_rfl) (fun _ _ _ h => h) (Or.inr ⟨by rfl, rfl⟩) (by assumption) ?_
            try simp only [Act.put, List.setIfInBounds_toArray, List.set_cons_zero, List.set_cons_succ]
            refine wpAnyH_take (i := 15) (oi := ⟨some 34, _, _, _, _, _⟩) (v := undef) rfl (by kernel_rfl) (by kernel_rfl) (by kernel_rfl) (fun _ _ _ h => h) (Or.inr ⟨by rfl, rfl⟩) (by assumption) ?_
            try simp only [Act.put, List.setIfInBounds_toArray, List.set_cons_zero, List.set_cons_succ]
            refine wpAnyH_take (i := 16) (oi := ⟨some 35, _, _, _, _, _⟩) (v := undef) rfl (by kernel_rfl) (by kernel_rfl) (by kernel_rfl) (fun _ _ _ h => h) (Or.inr ⟨by rfl, rfl⟩) (by assumption) ?_
            try simp only [Act.put, List.setIfInBounds_toArray, List.set_cons_zero, List.set_cons_succ]
            refine wpAnyH_take (i := 17) (oi := ⟨some 36, _, _, _, _, _⟩) (v := .bool false) rfl (by kernel_rfl) (by kernel_rfl) (by kernel_rfl) (fun _ _ _ h => h) (Or.inl ⟨by rfl, (fun w' hS => by clear hS; go_simp)⟩) (by assumption) ?_
            try simp only [Act.put, List.setIfInBounds_toArray, List.set_cons_zero, List.set_cons_succ]
            refine wpAnyH_take (i := 18) (oi := ⟨some 37, _, _, _, _, _⟩) (v := .bool false) rfl (by kernel_rfl) (by kernel_rfl) (by kernel_rfl) (fun _ _ _ h => h) (Or.inl ⟨by rfl, (fun w' hS => by clear hS; go_simp)⟩) (by assumption) ?_
            try simp only [Act.put, List.setIfInBounds_toArray, List.set_cons_zero, List.set_cons_succ]
            refine wpAnyH_done (by kernel_rfl) ?_ _
            clear hHeld2
            have Hbw3 := Lib.hid ((Hbw1.out.drew).trans (Below.mono HB3.out Hbw1.out.size))
            go_wp2
            go_roundw
            case rel => exact ⟨k + 1, by omega, by go_num, Hnext.out, Hbw3.out⟩
            case measure => simp [intOf]; omega
          · obtain ⟨y, hyk⟩ : ∃ y, l[k - 1]? = some y := ⟨l[k - 1]'(by omega), List.getElem?_eq_getElem (by omega)⟩
            have hnx : chkK mb ri l (k + 1) = ri y x := by rw [Hstep.out, okAt_pos hm h0 hyk]
            obtain ⟨b9, o9, hA9, hb9, hy⟩ := SlAt.ter (HS.out.below Hbw.out) hyk
            simp only [Option.some.injEq, Addr.mk.injEq] at hA9
            obtain ⟨rfl, rfl, _⟩ := hA9
            have Hb0 : Hid (b0 < (wr.alloc (.cells #[.int .i64 x.1, strV x.2.1, strV x.2.2] 98)).heap.size) := Lib.hid (Nat.lt_of_lt_of_le hb9 (below1 wr _).size)
            have py0 : (wr.alloc (.cells #[.int .i64 x.1, strV x.2.1, strV x.2.2] 98)).cell? ⟨b0, o0 + (k - 1) * 3, none⟩ = some (.int .i64 y.1) := (Below.cell (below1 wr _) (p := ⟨b0, o0 + (k - 1) * 3, none⟩) hb9).trans hy.1
            have py1 : (wr.alloc (.cells #[.int .i64 x.1, strV x.2.1, strV x.2.2] 98)).cell? ⟨b0, o0 + (k - 1) * 3 + 1, none⟩ = some (strV y.2.1) := (Below.cell (below1 wr _) (p := ⟨b0, o0 + (k - 1) * 3 + 1, none⟩) hb9).trans hy.2.1
            have py2 : (wr.alloc (.cells #[.int .i64 x.1, strV x.2.1, strV x.2.2] 98)).cell? ⟨b0, o0 + (k - 1) * 3 + 2, none⟩ = some (strV y.2.2) := (Below.cell (below1 wr _) (p := ⟨b0, o0 + (k - 1) * 3 + 2, none⟩) hb9).trans hy.2.2
            have Hnx := Lib.hid hnx
            have h0b : decide (0 < k) = true := by simp; omega
            have n1 : (1 : Int) ≤ (k : Int) := by omega
            have n2 : (k : Int) ≤ 6 := by omega
            have n3 : ((k : Int) - 1).toNat = k - 1 := by omega
            have n5 : (0 : Int) ≤ (k : Int) - 1 := by omega
            have n6 : (k : Int) - 1 < (l.length : Int) := by omega
            have n7 : ((k : Int) - 1 < 0) = False := by simp; omega
            have n8 : decide ((k : Int) - 1 < (l.length : Int)) = true := by simp; omega
            have n4 : IntKind.i64.wrap ((k : Int) - 1) = (k : Int) - 1 := IntWalk.i64_in _ (by omega)
            have KR := Lib.hid (fun w => Hri.out y x w)
            have Hyk := Lib.hid hyk
            have H0 := Lib.hid h0
            clear hm hnx hy hyk h0
            cases hr : ri y x
            · rw [hr] at KR
              have E2 : Hid (chkA mb ri l = 2) := by
                show chkA _ _ _ = _
                rw [E.out, if_pos]
                refine chkK_false (k := k + 1) ?_ hlt
                rw [Hnx.out, hr]
              clear hr
              go_upto_region 6 with fail
              go_region_held3 (fun w' => w'.cell? ⟨b0, o0 + (k - 1) * 3, none⟩ = some (.int .i64 y.1) ∧ w'.cell? ⟨b0, o0 + (k - 1) * 3 + 1, none⟩ = some (strV y.2.1) ∧ w'.cell? ⟨b0, o0 + (k - 1) * 3 + 2, none⟩ = some (strV y.2.2) ∧ w'.cell? ⟨wr.heap.size, 0, none⟩ = some (.int .i64 x.1) ∧ w'.cell? ⟨wr.heap.size, 1, none⟩ = some (strV x.2.1) ∧ w'.cell? ⟨wr.heap.size, 2, none⟩ = some (strV x.2.2)) (first | exact ⟨py0, py1, py2, px0, px1, px2⟩ | exact ⟨qy0, qy1, qy2, qx0, qx1, qx2⟩ | exact ⟨ry0, ry1, ry2, rx0, rx1, rx2⟩)
                (first | ((with_reducible refine (KC.out _).mono ?_); rintro e w3 ⟨rfl, hb3⟩; have qx0 := (hb3.cell (p := ⟨wr.heap.size, 0, none⟩) Hxl.out).trans px0; have qx1 := (hb3.cell (p := ⟨wr.heap.size, 1, none⟩) Hxl.out).trans px1; have qx2 := (hb3.cell (p := ⟨wr.heap.size, 2, none⟩) Hxl.out).trans px2; have qy0 := (hb3.cell (p := ⟨b0, o0 + (k - 1) * 3, none⟩) Hb0.out).trans py0; have qy1 := (hb3.cell (p := ⟨b0, o0 + (k - 1) * 3 + 1, none⟩) Hb0.out).trans py1; have qy2 := (hb3.cell (p := ⟨b0, o0 + (k - 1) * 3 + 2, none⟩) Hb0.out).trans py2; have HB3 := Lib.hid hb3; clear hb3) | ((with_reducible refine (KR.out _).mono ?_); rintro e w4 ⟨rfl, hb4⟩; have rx0 := (hb4.cell (p := ⟨wr.heap.size, 0, none⟩) (Nat.lt_of_lt_of_le Hxl.out HB3.out.size)).trans qx0; have rx1 := (hb4.cell (p := ⟨wr.heap.size, 1, none⟩) (Nat.lt_of_lt_of_le Hxl.out HB3.out.size)).trans qx1; have rx2 := (hb4.cell (p := ⟨wr.heap.size, 2, none⟩) (Nat.lt_of_lt_of_le Hxl.out HB3.out.size)).trans qx2; have ry0 := (hb4.cell (p := ⟨b0, o0 + (k - 1) * 3, none⟩) (Nat.lt_of_lt_of_le Hb0.out HB3.out.size)).trans qy0; have ry1 := (hb4.cell (p := ⟨b0, o0 + (k - 1) * 3 + 1, none⟩) (Nat.lt_of_lt_of_le Hb0.out HB3.out.size)).trans qy1; have ry2 := (hb4.cell (p := ⟨b0, o0 + (k - 1) * 3 + 2, none⟩) (Nat.lt_of_lt_of_le Hb0.out HB3.out.size)).trans qy2; have HB4 := Lib.hid hb4; clear hb4))
              have Hbw3 := Lib.hid ((Hbw1.out.drew).trans (Below.mono HB3.out Hbw1.out.size))
              have Hbw4 := Lib.hid (Hbw3.out.trans (HB4.out.mono Hbw3.out.size))
              clear n1 n3 n4 n5 n6 n7 n8
              go_wp2
              go_ret
              exact ⟨retI (by rw [E2.out]), Hbw4.out⟩
            · rw [hr] at KR
              have Hnext : Hid (chkK mb ri l (k + 1) = true) := Lib.hid (Hnx.out.trans hr)
              clear hr
              go_upto_region 6 with fail
              go_region_held3 (fun w' => w'.cell? ⟨b0, o0 + (k - 1) * 3, none⟩ = some (.int .i64 y.1) ∧ w'.cell? ⟨b0, o0 + (k - 1) * 3 + 1, none⟩ = some (strV y.2.1) ∧ w'.cell? ⟨b0, o0 + (k - 1) * 3 + 2, none⟩ = some (strV y.2.2) ∧ w'.cell? ⟨wr.heap.size, 0, none⟩ = some (.int .i64 x.1) ∧ w'.cell? ⟨wr.heap.size, 1, none⟩ = some (strV x.2.1) ∧ w'.cell? ⟨wr.heap.size, 2, none⟩ = some (strV x.2.2)) (first | exact ⟨py0, py1, py2, px0, px1, px2⟩ | exact ⟨qy0, qy1, qy2, qx0, qx1, qx2⟩ | exact ⟨ry0, ry1, ry2, rx0, rx1, rx2⟩)
                (first | ((with_reducible refine (KC.out _).mono ?_); rintro e w3 ⟨rfl, hb3⟩; have qx0 := (hb3.cell (p := ⟨wr.heap.size, 0, none⟩) Hxl.out).trans px0; have qx1 := (hb3.cell (p := ⟨wr.heap.size, 1, none⟩) Hxl.out).trans px1; have qx2 := (hb3.cell (p := ⟨wr.heap.size, 2, none⟩) Hxl.out).trans px2; have qy0 := (hb3.cell (p := ⟨b0, o0 + (k - 1) * 3, none⟩) Hb0.out).trans py0; have qy1 := (hb3.cell (p := ⟨b0, o0 + (k - 1) * 3 + 1, none⟩) Hb0.out).trans py1; have qy2 := (hb3.cell (p := ⟨b0, o0 + (k - 1) * 3 + 2, none⟩) Hb0.out).trans py2; have HB3 := Lib.hid hb3; clear hb3) | ((with_reducible refine (KR.out _).mono ?_); rintro e w4 ⟨rfl, hb4⟩; have rx0 := (hb4.cell (p := ⟨wr.heap.size, 0, none⟩) (Nat.lt_of_lt_of_le Hxl.out HB3.out.size)).trans qx0; have rx1 := (hb4.cell (p := ⟨wr.heap.size, 1, none⟩) (Nat.lt_of_lt_of_le Hxl.out HB3.out.size)).trans qx1; have rx2 := (hb4.cell (p := ⟨wr.heap.size, 2, none⟩) (Nat.lt_of_lt_of_le Hxl.out HB3.out.size)).trans qx2; have ry0 := (hb4.cell (p := ⟨b0, o0 + (k - 1) * 3, none⟩) (Nat.lt_of_lt_of_le Hb0.out HB3.out.size)).trans qy0; have ry1 := (hb4.cell (p := ⟨b0, o0 + (k - 1) * 3 + 1, none⟩) (Nat.lt_of_lt_of_le Hb0.out HB3.out.size)).trans qy1; have ry2 := (hb4.cell (p := ⟨b0, o0 + (k - 1) * 3 + 2, none⟩) (Nat.lt_of_lt_of_le Hb0.out HB3.out.size)).trans qy2; have HB4 := Lib.hid hb4; clear hb4))
              have Hbw3 := Lib.hid ((Hbw1.out.drew).trans (Below.mono HB3.out Hbw1.out.size))
              have Hbw4 := Lib.hid (Hbw3.out.trans (HB4.out.mono Hbw3.out.size))
              clear n1 n3 n4 n5 n6 n7 n8
              go_wp2
              go_roundw
              case rel => exact ⟨k + 1, by omega, by go_num, Hnext.out, Hbw4.out⟩
              case measure => simp [intOf]; omega
      · obtain rfl : k = l.length := by omega
        go_wp2
        go_ret
        exact ⟨retI (by rw [E.out, Hp.out]; rfl), Hbw.out⟩

end Go.Proofs.YtmmokiaipfalmaaGreat.La

namespace Go.Proofs.YtmmokiaipfalmaaGreat.La
open Go.RowKit

set_option maxHeartbeats 400000 in
theorem check_any (A : Option Addr) (c : Nat) (l : List (List UInt8 × List UInt8)) (w : World) (hn : l.length ≤ 1000) (hc : l.length ≤ c) (hcm : c ≤ 9223372036854775807) (hs : SlAt w A (cellsL l)) (hbig : ∀ x ∈ l, x.1.length ≤ 9223372036854775807 ∧ x.2.length ≤ 9223372036854775807) :
    Calls Tryz.prog 271 #[.slice A l.length c] w fun e w' => e = .returned (.int .i64 (chkA labB keyR l)) ∧ Below w.heap.size w w' := by
  have K := Lib.hid (checkL_any labB keyR 337 339 A c l w hn hc hcm hs hbig (fun _ _ => by kernel_rfl) (fun _ _ => by kernel_rfl) (fun x w h => labB_any x w h.1 h.2) keysRise_any)
  clear hs hbig
  go_enter Tryz.func271, Tryz.ntmps271
  go_wp2_with fail
  refine K.out.mono ?_
  rintro e w1 ⟨rfl, hb⟩
  have HB := Lib.hid hb
  clear hb
  go_wp2
  go_ret
  exact ⟨rfl, HB.out⟩
set_option maxHeartbeats 400000 in
theorem checkBears_any (A : Option Addr) (c : Nat) (l : List (List UInt8 × List UInt8)) (w : World) (hn : l.length ≤ 1000) (hc : l.length ≤ c) (hcm : c ≤ 9223372036854775807) (hs : SlAt w A (cellsL l)) (hbig : ∀ x ∈ l, x.1.length ≤ 9223372036854775807 ∧ x.2.length ≤ 9223372036854775807) :
    Calls Tryz.prog 273 #[.slice A l.length c] w fun e w' => e = .returned (.int .i64 (chkA borB pairR l)) ∧ Below w.heap.size w w' := by
  have K := Lib.hid (checkL_any borB pairR 343 344 A c l w hn hc hcm hs hbig (fun _ _ => by kernel_rfl) (fun _ _ => by kernel_rfl) (fun x w h => borB_any x w h.1 h.2) pairsRise_any)
  clear hs hbig
  go_enter Tryz.func273, Tryz.ntmps273
  go_wp2_with fail
  refine K.out.mono ?_
  rintro e w1 ⟨rfl, hb⟩
  have HB := Lib.hid hb
  clear hb
  go_wp2
  go_ret
  exact ⟨rfl, HB.out⟩
set_option maxHeartbeats 400000 in
theorem checkTerms_any (A : Option Addr) (c : Nat) (l : List (Int × List UInt8 × List UInt8)) (w : World) (hn : l.length ≤ 1000) (hc : l.length ≤ c) (hcm : c ≤ 9223372036854775807) (hs : SlAt w A (cellsT l)) (hbig : ∀ x ∈ l, x.2.1.length ≤ 9223372036854775807 ∧ x.2.2.length ≤ 9223372036854775807) :
    Calls Tryz.prog 272 #[.slice A l.length c] w fun e w' => e = .returned (.int .i64 (chkA terB anyR l)) ∧ Below w.heap.size w w' := by
  have K := Lib.hid (checkT_any terB anyR 341 342 A c l w hn hc hcm hs hbig (fun _ _ => by kernel_rfl) (fun _ _ => by kernel_rfl) (fun x w h => terB_any x w h.1 h.2) anyOrder_any)
  clear hs hbig
  go_enter Tryz.func272, Tryz.ntmps272
  go_wp2_with fail
  refine K.out.mono ?_
  rintro e w1 ⟨rfl, hb⟩
  have HB := Lib.hid hb
  clear hb
  go_wp2
  go_ret
  exact ⟨rfl, HB.out⟩

end Go.Proofs.YtmmokiaipfalmaaGreat.La

namespace Go.Proofs.YtmmokiaipfalmaaGreat.La
open Go.RowKit

set_option maxRecDepth 100000 in
set_option maxHeartbeats 400000 in
theorem checkL_long (mb : List UInt8 × List UInt8 → Bool) (ri : List UInt8 × List UInt8 → List UInt8 × List UInt8 → Bool) (g r : FuncId) (A : Option Addr) (c : Nat) (l : List (List UInt8 × List UInt8)) (w : World) (h6 : 6 < l.length) :
    Calls Tryz.prog 336 #[.slice A l.length c, .func (Fn.func g) #[] #[], .func (Fn.func r) #[] #[]] w fun e w' => e = .returned (.int .i64 (chkA mb ri l)) ∧ Below w.heap.size w w' := by
  have E : Hid (chkA mb ri l = 2) := by show chkA _ _ _ = _; unfold chkA; rw [if_pos (.inl h6)]
  have h6b : decide (6 < l.length) = true := by simpa using h6
  have h6i : (6 : Int) < (l.length : Int) := by omega
  go_enter Tryz.func336, Tryz.ntmps336
  go_wp2
  go_ret
  exact ⟨retI (by rw [E.out]), Below.refl _ _⟩
set_option maxRecDepth 100000 in
set_option maxHeartbeats 400000 in
theorem checkT_long (mb : Int × List UInt8 × List UInt8 → Bool) (ri : Int × List UInt8 × List UInt8 → Int × List UInt8 × List UInt8 → Bool) (g r : FuncId) (A : Option Addr) (c : Nat) (l : List (Int × List UInt8 × List UInt8)) (w : World) (h6 : 6 < l.length) :
    Calls Tryz.prog 340 #[.slice A l.length c, .func (Fn.func g) #[] #[], .func (Fn.func r) #[] #[]] w fun e w' => e = .returned (.int .i64 (chkA mb ri l)) ∧ Below w.heap.size w w' := by
  have E : Hid (chkA mb ri l = 2) := by show chkA _ _ _ = _; unfold chkA; rw [if_pos (.inl h6)]
  have h6b : decide (6 < l.length) = true := by simpa using h6
  have h6i : (6 : Int) < (l.length : Int) := by omega
  go_enter Tryz.func340, Tryz.ntmps340
  go_wp2
  go_ret
  exact ⟨retI (by rw [E.out]), Below.refl _ _⟩
set_option maxHeartbeats 400000 in
theorem check_anyW (A : Option Addr) (c : Nat) (l : List (List UInt8 × List UInt8)) (w : World) (hc : l.length ≤ c) (hcm : c ≤ 9223372036854775807) (hs : SlAt w A (cellsL l)) (hbig : ∀ x ∈ l, x.1.length ≤ 9223372036854775807 ∧ x.2.length ≤ 9223372036854775807) :
    Calls Tryz.prog 271 #[.slice A l.length c] w fun e w' => e = .returned (.int .i64 (chkA labB keyR l)) ∧ Below w.heap.size w w' := by
  by_cases hn : l.length ≤ 1000
  · exact check_any A c l w hn hc hcm hs hbig
  have K := Lib.hid (checkL_long labB keyR 337 339 A c l w (by omega))
  clear hs hbig
  go_enter Tryz.func271, Tryz.ntmps271
  go_wp2_with fail
  refine K.out.mono ?_
  rintro e w1 ⟨rfl, hb⟩
  have HB := Lib.hid hb
  clear hb
  go_wp2
  go_ret
  exact ⟨rfl, HB.out⟩
set_option maxHeartbeats 400000 in
theorem checkBears_anyW (A : Option Addr) (c : Nat) (l : List (List UInt8 × List UInt8)) (w : World) (hc : l.length ≤ c) (hcm : c ≤ 9223372036854775807) (hs : SlAt w A (cellsL l)) (hbig : ∀ x ∈ l, x.1.length ≤ 9223372036854775807 ∧ x.2.length ≤ 9223372036854775807) :
    Calls Tryz.prog 273 #[.slice A l.length c] w fun e w' => e = .returned (.int .i64 (chkA borB pairR l)) ∧ Below w.heap.size w w' := by
  by_cases hn : l.length ≤ 1000
  · exact checkBears_any A c l w hn hc hcm hs hbig
  have K := Lib.hid (checkL_long borB pairR 343 344 A c l w (by omega))
  clear hs hbig
  go_enter Tryz.func273, Tryz.ntmps273
  go_wp2_with fail
  refine K.out.mono ?_
  rintro e w1 ⟨rfl, hb⟩
  have HB := Lib.hid hb
  clear hb
  go_wp2
  go_ret
  exact ⟨rfl, HB.out⟩
set_option maxHeartbeats 400000 in
theorem checkTerms_anyW (A : Option Addr) (c : Nat) (l : List (Int × List UInt8 × List UInt8)) (w : World) (hc : l.length ≤ c) (hcm : c ≤ 9223372036854775807) (hs : SlAt w A (cellsT l)) (hbig : ∀ x ∈ l, x.2.1.length ≤ 9223372036854775807 ∧ x.2.2.length ≤ 9223372036854775807) :
    Calls Tryz.prog 272 #[.slice A l.length c] w fun e w' => e = .returned (.int .i64 (chkA terB anyR l)) ∧ Below w.heap.size w w' := by
  by_cases hn : l.length ≤ 1000
  · exact checkTerms_any A c l w hn hc hcm hs hbig
  have K := Lib.hid (checkT_long terB anyR 341 342 A c l w (by omega))
  clear hs hbig
  go_enter Tryz.func272, Tryz.ntmps272
  go_wp2_with fail
  refine K.out.mono ?_
  rintro e w1 ⟨rfl, hb⟩
  have HB := Lib.hid hb
  clear hb
  go_wp2
  go_ret
  exact ⟨rfl, HB.out⟩
end Go.Proofs.YtmmokiaipfalmaaGreat.La

namespace Go.Proofs.YtmmokiaipfalmaaGreat.Qu
open Go.RowKit

/-- The most that a quantity may be. -/
def top : Int := 1099511627776

/-- A slice at A holds these numbers. -/
def RowOf (w : World) (A : Option Addr) (l : List Int) : Prop :=
  ∀ k x, l[k]? = some x → ∃ b o, A = some ⟨b, o, none⟩ ∧ w.cell? ⟨b, o + k, none⟩ = some (.int .i64 x)

theorem RowOf.nil (w : World) (A : Option Addr) : RowOf w A [] := fun k x h => by simp at h

/-- What the look at the arguments answers. -/
def checkL (l : List Int) : Int := if ∃ x ∈ l, x < 0 then 2 else if ∃ x ∈ l, top < x then 10 else 0

theorem retI {k : IntKind} {a b : Int} (h : a = b) : Ending.returned (.int k a) = .returned (.int k b) := by rw [h]

theorem take_all_snoc {l : List Int} {k : Nat} {x : Int} {p : Int → Prop} (hk : l[k]? = some x) (h : ∀ y ∈ l.take k, p y) (hx : p x) : ∀ y ∈ l.take (k + 1), p y := by
  intro y hy
  rw [List.take_add_one, hk] at hy
  simp at hy
  rcases hy with hy | rfl
  · exact h y hy
  · exact hx

end Go.Proofs.YtmmokiaipfalmaaGreat.Qu

namespace Go.Proofs.YtmmokiaipfalmaaGreat.Qu
open Go.RowKit

/-- What an index reads of a row that is a value. -/
theorem idx_row0 (x0 x1 x2 x3 x4 : Int) (w : World) : (Instr.index 47 (.agg #[.int .i64 x0, .int .i64 x1, .int .i64 x2, .int .i64 x3, .int .i64 x4]) (.int .i64 0)).run Tryz.prog w = .ok (.int .i64 x0) w := by kernel_rfl
theorem idx_row1 (x0 x1 x2 x3 x4 : Int) (w : World) : (Instr.index 47 (.agg #[.int .i64 x0, .int .i64 x1, .int .i64 x2, .int .i64 x3, .int .i64 x4]) (.int .i64 1)).run Tryz.prog w = .ok (.int .i64 x1) w := by kernel_rfl
theorem idx_row2 (x0 x1 x2 x3 x4 : Int) (w : World) : (Instr.index 47 (.agg #[.int .i64 x0, .int .i64 x1, .int .i64 x2, .int .i64 x3, .int .i64 x4]) (.int .i64 2)).run Tryz.prog w = .ok (.int .i64 x2) w := by kernel_rfl
theorem idx_row3 (x0 x1 x2 x3 x4 : Int) (w : World) : (Instr.index 47 (.agg #[.int .i64 x0, .int .i64 x1, .int .i64 x2, .int .i64 x3, .int .i64 x4]) (.int .i64 3)).run Tryz.prog w = .ok (.int .i64 x3) w := by kernel_rfl
theorem idx_row4 (x0 x1 x2 x3 x4 : Int) (w : World) : (Instr.index 47 (.agg #[.int .i64 x0, .int .i64 x1, .int .i64 x2, .int .i64 x3, .int .i64 x4]) (.int .i64 4)).run Tryz.prog w = .ok (.int .i64 x4) w := by kernel_rfl
theorem idx_row (x : Nat → Int) (k : Nat) (h : k < 5) (w : World) : (Instr.index 47 (.agg #[.int .i64 (x 0), .int .i64 (x 1), .int .i64 (x 2), .int .i64 (x 3), .int .i64 (x 4)]) (.int .i64 (k : Int))).run Tryz.prog w = .ok (.int .i64 (x k)) w := by
  match k, h with
  | 0, _ => exact idx_row0 _ _ _ _ _ w
  | 1, _ => exact idx_row1 _ _ _ _ _ w
  | 2, _ => exact idx_row2 _ _ _ _ _ w
  | 3, _ => exact idx_row3 _ _ _ _ _ w
  | 4, _ => exact idx_row4 _ _ _ _ _ w

/-- What stands in a block that holds a row. -/
theorem cell_row (x : Nat → Int) (k : Nat) (h : k < 5) (w : World) (b t : Nat) (fr : Nat × Nat) (hb : w.heap[b]? = some (.cells #[.int .i64 (x 0), .int .i64 (x 1), .int .i64 (x 2), .int .i64 (x 3), .int .i64 (x 4)] t fr)) : w.cell? ⟨b, k, none⟩ = some (.int .i64 (x k)) := by
  rw [cell_of_row w b k _ t fr hb]
  match k, h with
  | 0, _ => rfl
  | 1, _ => rfl
  | 2, _ => rfl
  | 3, _ => rfl
  | 4, _ => rfl

/-- What the look at a row answers. -/
def chkV (x : Nat → Int) : Int := checkL [x 0, x 1, x 2, x 3, x 4]

theorem mem5 {x : Nat → Int} {y : Int} : y ∈ [x 0, x 1, x 2, x 3, x 4] ↔ ∃ k, k < 5 ∧ y = x k := by
  constructor
  · intro h
    simp only [List.mem_cons, List.not_mem_nil, or_false] at h
    rcases h with h | h | h | h | h
    · exact ⟨0, by omega, h⟩
    · exact ⟨1, by omega, h⟩
    · exact ⟨2, by omega, h⟩
    · exact ⟨3, by omega, h⟩
    · exact ⟨4, by omega, h⟩
  · rintro ⟨k, hk, rfl⟩
    have hk : k = 0 ∨ k = 1 ∨ k = 2 ∨ k = 3 ∨ k = 4 := by omega
    rcases hk with rfl | rfl | rfl | rfl | rfl <;> simp

theorem chkV_neg {x : Nat → Int} {k : Nat} (hk : k < 5) (h : x k < 0) : chkV x = 2 := by
  unfold chkV checkL
  rw [if_pos ⟨x k, mem5.2 ⟨k, hk, rfl⟩, h⟩]
theorem chkV_over {x : Nat → Int} (h0 : ∀ j, j < 5 → 0 ≤ x j) {k : Nat} (hk : k < 5) (h : top < x k) : chkV x = 10 := by
  unfold chkV checkL
  rw [if_neg, if_pos ⟨x k, mem5.2 ⟨k, hk, rfl⟩, h⟩]
  rintro ⟨y, hy, hlt⟩
  obtain ⟨j, hj, rfl⟩ := mem5.1 hy
  have := h0 j hj
  omega
theorem chkV_ok {x : Nat → Int} (h0 : ∀ j, j < 5 → 0 ≤ x j) (h1 : ∀ j, j < 5 → x j ≤ top) : chkV x = 0 := by
  unfold chkV checkL
  rw [if_neg, if_neg]
  · rintro ⟨y, hy, hlt⟩
    obtain ⟨j, hj, rfl⟩ := mem5.1 hy
    have := h1 j hj
    omega
  · rintro ⟨y, hy, hlt⟩
    obtain ⟨j, hj, rfl⟩ := mem5.1 hy
    have := h0 j hj
    omega
theorem all_snoc {p : Nat → Prop} {k : Nat} (h : ∀ j, j < k → p j) (hk : p k) : ∀ j, j < k + 1 → p j := fun j hj => by
  rcases Nat.lt_or_eq_of_le (Nat.le_of_lt_succ hj) with g | rfl
  · exact h j g
  · exact hk

theorem belowN {B : Nat} {a w : World} (h : Below B a w) (n : Nat) : Below B a (w.drewN n) := ⟨h.os, h.tape, h.output, h.size, h.block⟩

theorem below1 (w : World) (o : Obj) : Below w.heap.size w (w.alloc o) := (Below.refl _ _).alloc (Nat.le_refl _) _
theorem vec_size : (Tryz.prog.info? 47).map (·.size) = some 5 := by kernel_rfl

/-- A row lies in this block. -/
def RowAt (w : World) (b : Nat) (x : Nat → Int) : Prop := w.heap[b]? = some (.cells #[.int .i64 (x 0), .int .i64 (x 1), .int .i64 (x 2), .int .i64 (x 3), .int .i64 (x 4)] 47 (0, 0))
theorem RowAt.cell {w : World} {b : Nat} {x : Nat → Int} (h : RowAt w b x) {k : Nat} (hk : k < 5) : w.cell? ⟨b, k, none⟩ = some (.int .i64 (x k)) := cell_row x k hk w b _ _ h
theorem RowAt.free {w : World} {b : Nat} {x : Nat → Int} (h : RowAt w b x) (k : Nat) : w.frozen? ⟨b, k, none⟩ = false := by
  unfold RowAt at h
  simp [World.frozen?, h]
theorem RowAt.lt {w : World} {b : Nat} {x : Nat → Int} (h : RowAt w b x) : b < w.heap.size := by
  unfold RowAt at h
  rcases Nat.lt_or_ge b w.heap.size with g | g
  · exact g
  · rw [Array.getElem?_eq_none g] at h; cases h
theorem RowAt.below {w w' : World} {b B : Nat} {x : Nat → Int} (h : RowAt w b x) (hb : Below B w w') (hB : b < B) : RowAt w' b x := by
  unfold RowAt at h ⊢
  rw [hb.block b hB, h]
def upd (x : Nat → Int) (k : Nat) (v : Int) : Nat → Int := fun j => if j = k then v else x j
theorem RowAt.set {w : World} {b : Nat} {x : Nat → Int} (h : RowAt w b x) {k : Nat} (hk : k < 5) (v : Int) : RowAt (w.setCell ⟨b, k, none⟩ (.int .i64 v)) b (upd x k v) := by
  unfold RowAt at h ⊢
  rw [heap_setCell_same w b k _ _ _ h]
  have hk : k = 0 ∨ k = 1 ∨ k = 2 ∨ k = 3 ∨ k = 4 := by omega
  rcases hk with rfl | rfl | rfl | rfl | rfl <;> simp [upd]
theorem RowAt.other {w : World} {b : Nat} {x : Nat → Int} (h : RowAt w b x) (a : Addr) (v : Value) (hne : b ≠ a.block) : RowAt (w.setCell a v) b x := by
  unfold RowAt at h ⊢
  rw [heap_setCell_other w a b v hne, h]
theorem RowAt.alloc {w : World} {b : Nat} {x : Nat → Int} (h : RowAt w b x) (o : Obj) : RowAt (w.alloc o) b x := by
  have hlt := h.lt
  unfold RowAt at h ⊢
  rw [Below.heap_alloc w o b hlt, h]
theorem RowAt.new (w : World) (x : Nat → Int) : RowAt (w.alloc (.cells #[.int .i64 (x 0), .int .i64 (x 1), .int .i64 (x 2), .int .i64 (x 3), .int .i64 (x 4)] 47)) w.heap.size x := heap_alloc_new _ _

end Go.Proofs.YtmmokiaipfalmaaGreat.Qu

namespace Go.Proofs.YtmmokiaipfalmaaGreat.Qu
open Go.RowKit

set_option maxHeartbeats 400000 in
theorem vcheck_any (x : Nat → Int) (w : World) :
    Calls Tryz.prog 270 #[.agg #[.int .i64 (x 0), .int .i64 (x 1), .int .i64 (x 2), .int .i64 (x 3), .int .i64 (x 4)]] w fun e w' => e = .returned (.int .i64 (chkV x)) ∧ Below w.heap.size w w' := by
  go_enter Tryz.func270, Tryz.ntmps270
  go_wp2
  go_loop [8] (fun i => ∃ k : Nat, k ≤ 5 ∧ i = .int .i64 k ∧ ∀ j, j < k → 0 ≤ x j) (fun i => 5 - (intOf i).toNat)
  case atStart => exact ⟨0, by omega, rfl, by omega⟩
  case round =>
    obtain ⟨k, hk, rfl, hall⟩ := hrel
    have Hall := Lib.hid hall
    clear hall
    by_cases hlt : k < 5
    · have hi := fun w => idx_row x k hlt w
      by_cases hneg : x k < 0
      · go_wp2
        go_ret
        exact ⟨retI (chkV_neg hlt hneg).symm, (Below.refl _ _).alloc (Nat.le_refl _) _⟩
      · go_wp2
        go_round
        case rel => exact ⟨k + 1, by omega, by go_num, all_snoc Hall.out (by omega)⟩
        case measure => simp [intOf]; omega
    · have H0 : Hid (∀ j, j < 5 → 0 ≤ x j) := fun j hj => Hall.out j (by omega)
      go_wp2
      go_loop [15] (fun i => ∃ k : Nat, k ≤ 5 ∧ i = .int .i64 k ∧ ∀ j, j < k → x j ≤ top) (fun i => 5 - (intOf i).toNat)
      case atStart => exact ⟨0, by omega, rfl, by omega⟩
      case round =>
        obtain ⟨m, hm, rfl, hall⟩ := hrel
        have Hall2 := Lib.hid hall
        clear hall
        by_cases hlt : m < 5
        · have hi := fun w => idx_row x m hlt w
          by_cases hbig : 1099511627776 < x m
          · go_wp2
            go_ret
            exact ⟨retI (chkV_over H0.out hlt (by unfold top; omega)).symm, (Below.refl _ _).alloc (Nat.le_refl _) _⟩
          · go_wp2
            go_round
            case rel => exact ⟨m + 1, by omega, by go_num, all_snoc Hall2.out (by unfold top; omega)⟩
            case measure => simp [intOf]; omega
        · go_wp2
          go_ret
          exact ⟨retI (chkV_ok H0.out (fun j hj => Hall2.out j (by omega))).symm, (Below.refl _ _).alloc (Nat.le_refl _) _⟩

end Go.Proofs.YtmmokiaipfalmaaGreat.Qu

namespace Go.Proofs.YtmmokiaipfalmaaGreat.Qu
open Go.RowKit

theorem cell_new (x : Nat → Int) (k : Nat) (h : k < 5) (w : World) (t : Nat) : (w.alloc (.cells #[.int .i64 (x 0), .int .i64 (x 1), .int .i64 (x 2), .int .i64 (x 3), .int .i64 (x 4)] t)).cell? ⟨w.heap.size, k, none⟩ = some (.int .i64 (x k)) :=
  cell_row x k h _ _ _ _ (heap_alloc_new _ _)

theorem retB {a b : Bool} (h : a = b) : Ending.returned (.bool a) = .returned (.bool b) := by rw [h]

theorem cell_two' (x : Nat → Int) (k : Nat) (h : k < 5) (w : World) (t : Nat) (o : Obj) : ((w.alloc o).alloc (.cells #[.int .i64 (x 0), .int .i64 (x 1), .int .i64 (x 2), .int .i64 (x 3), .int .i64 (x 4)] t)).cell? ⟨w.heap.size + 1, k, none⟩ = some (.int .i64 (x k)) :=
  cell_row x k h _ _ _ _ (heap_alloc2_new _ _ _)
theorem below2 (w : World) (a b : Obj) : Below w.heap.size w ((w.alloc a).alloc b) := ((Below.refl _ _).alloc (Nat.le_refl _) _).alloc (by simp) _

end Go.Proofs.YtmmokiaipfalmaaGreat.Qu

namespace Go.Proofs.YtmmokiaipfalmaaGreat.Qu
open Go.RowKit

/-- What of x is above y, summed, as an int goes round. -/
def overV (x y : Nat → Int) : Nat → Int
  | 0 => 0
  | k + 1 => if y k < x k then wrap64 (overV x y k + (x k - y k)) else overV x y k

theorem wr_l (s d : Int) : wrap64 (s + wrap64 d) = wrap64 (s + d) := by unfold wrap64; omega
set_option maxHeartbeats 400000 in
theorem over_any (x y : Nat → Int) (w : World) :
    Calls Tryz.prog 354 #[.agg #[.int .i64 (x 0), .int .i64 (x 1), .int .i64 (x 2), .int .i64 (x 3), .int .i64 (x 4)], .agg #[.int .i64 (y 0), .int .i64 (y 1), .int .i64 (y 2), .int .i64 (y 3), .int .i64 (y 4)]] w fun e w' => e = .returned (.int .i64 (overV x y 5)) ∧ Below w.heap.size w w' := by
  go_enter Tryz.func354, Tryz.ntmps354
  go_wp2
  go_loop [5, 9] (fun s i => ∃ k : Nat, k ≤ 5 ∧ i = .int .i64 k ∧ s = .int .i64 (overV x y k)) (fun _ i => 5 - (intOf i).toNat)
  case atStart => exact ⟨0, by omega, rfl, rfl⟩
  case round =>
    obtain ⟨k, hk, rfl, rfl⟩ := hrel
    by_cases hlt : k < 5
    · have hi := fun w => idx_row x k hlt w
      have hc := cell_two' y k hlt w 47 (.cells #[.int .i64 (x 0), .int .i64 (x 1), .int .i64 (x 2), .int .i64 (x 3), .int .i64 (x 4)] 47)
      by_cases hneg : y k < x k
      · go_wp2
        go_round
        case rel => exact ⟨k + 1, by omega, by go_num, by rw [overV, if_pos hneg, wr_l]⟩
        case measure => simp [intOf]; omega
      · go_wp2
        go_round
        case rel => exact ⟨k + 1, by omega, by go_num, by rw [overV, if_neg (by omega)]⟩
        case measure => simp [intOf]; omega
    · obtain rfl : k = 5 := by omega
      go_wp2
      go_ret
      exact ⟨rfl, below2 _ _ _⟩

end Go.Proofs.YtmmokiaipfalmaaGreat.Qu
