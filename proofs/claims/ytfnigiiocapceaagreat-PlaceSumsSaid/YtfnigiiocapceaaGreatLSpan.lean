/- How many bytes at a text's beginning are a name's, or a value's: as a plain function. No conditions but a text that can lie in memory. -/
import Derived.Test.YtfnigiiocapceaaGreatLBase
namespace Go.Proofs.YtfnigiiocapceaaGreat.La
open Go.RowKit

def letB (n : Nat) : Bool := decide (97 ≤ n ∧ n ≤ 122)
def digB (n : Nat) : Bool := decide (48 ≤ n ∧ n ≤ 57 ∨ n = 45)
def okName (k n : Nat) : Bool := letB n || (decide (0 < k) && digB n)
def okVal (_ n : Nat) : Bool := letB n || digB n
/-- What goes on from a text's beginning, 15 bytes at most. -/
def spanF (ok : Nat → Nat → Bool) : List UInt8 → Nat → Nat
  | [], a => a
  | b :: t, a => if a = 15 ∨ ok a b.toNat = false then a else spanF ok t (a + 1)

theorem letB_high {n : Nat} (h : 128 ≤ n) : letB n = false := by unfold letB; simp; omega
theorem digB_high {n : Nat} (h : 128 ≤ n) : digB n = false := by unfold digB; simp; omega
theorem okName_high (k n : Nat) (h : 128 ≤ n) : okName k n = false := by simp [okName, letB_high h, digB_high h]
theorem okVal_high (k n : Nat) (h : 128 ≤ n) : okVal k n = false := by simp [okVal, letB_high h, digB_high h]

theorem retB {a b : Bool} (h : a = b) : Ending.returned (.bool a) = .returned (.bool b) := by rw [h]
theorem retI {k : IntKind} {a b : Int} (h : a = b) : Ending.returned (.int k a) = .returned (.int k b) := by rw [h]

theorem letter_any (c : Nat) (w : World) :
    Calls Tryz.prog 159 #[.int .i32 (c : Int)] w fun e w' => e = .returned (.bool (letB c)) ∧ w = w' := by
  go_enter Tryz.func159, Tryz.ntmps159
  go_wp2
  all_goals
    go_ret
    refine ⟨retB ?_, rfl⟩
    unfold letB
    rw [Bool.eq_iff_iff]
    simp
    try omega

theorem digit_any (c : Nat) (w : World) :
    Calls Tryz.prog 160 #[.int .i32 (c : Int)] w fun e w' => e = .returned (.bool (digB c)) ∧ w = w' := by
  go_enter Tryz.func160, Tryz.ntmps160
  go_wp2
  all_goals
    go_ret
    refine ⟨retB ?_, rfl⟩
    unfold digB
    rw [Bool.eq_iff_iff]
    simp
    try omega

theorem name1_any (k c : Nat) (w : World) :
    Calls Tryz.prog 158 #[.int .i64 (k : Int), .int .i32 (c : Int)] w fun e w' => e = .returned (.bool (okName k c)) ∧ w = w' := by
  go_enter Tryz.func158, Tryz.ntmps158
  go_wp2_with (first | (go_at_call 159; refine (letter_any _ _).mono ?_; rintro e w' ⟨rfl, rfl⟩) | (go_at_call 160; refine (digit_any _ _).mono ?_; rintro e w' ⟨rfl, rfl⟩))
  all_goals
    go_ret
    refine ⟨retB ?_, rfl⟩
    unfold okName
    simp_all
    try omega

theorem value1_any (k c : Nat) (w : World) :
    Calls Tryz.prog 165 #[.int .i64 (k : Int), .int .i32 (c : Int)] w fun e w' => e = .returned (.bool (okVal k c)) ∧ w = w' := by
  go_enter Tryz.func165, Tryz.ntmps165
  go_wp2_with (first | (go_at_call 159; refine (letter_any _ _).mono ?_; rintro e w' ⟨rfl, rfl⟩) | (go_at_call 160; refine (digit_any _ _).mono ?_; rintro e w' ⟨rfl, rfl⟩))
  all_goals
    go_ret
    refine ⟨retB ?_, rfl⟩
    unfold okVal
    simp_all

set_option maxHeartbeats 1000000 in
theorem len_any (ok : Nat → Nat → Bool) (g : FuncId) (l : List UInt8) (w : World) (hl : l.length ≤ 9223372036854775807) (hhi : ∀ k c, 128 ≤ c → ok k c = false)
    (henter : ∀ (args : Array Value) (w : World), (callFunc g args).run Tryz.prog w = .ok (.enter g args) w)
    (hcl : ∀ (k c : Nat) (w : World), Calls Tryz.prog g #[.int .i64 (k : Int), .int .i32 (c : Int)] w fun e w' => e = .returned (.bool (ok k c)) ∧ w = w') :
    Calls Tryz.prog 157 #[strV l, .func (Fn.func g) #[] #[]] w fun e w' => e = .returned (.int .i64 (spanF ok l 0 : Int)) ∧ Below w.heap.size w w' := by
  have Hhi := Lib.hid hhi
  have Hcl := Lib.hid hcl
  clear hhi hcl
  go_enter Tryz.func157, Tryz.ntmps157
  go_wp2
  go_loopw [] (fun wr => ∃ (pos : Nat), wr.heap[w.heap.size]? = some (.stringIter ⟨l.toArray⟩ pos) ∧ Below w.heap.size w wr ∧ pos ≤ l.length ∧ spanF ok (l.drop pos) pos = spanF ok l 0) (fun wr => l.length - wr.iterPos w.heap.size)
  case atStart => exact ⟨0, by simpa using World.iter_heap w ⟨l.toArray⟩ 0, below1 _ _, by omega, rfl⟩
  case round =>
    obtain ⟨pos, hit, hbw, hpl, hsp⟩ := hrel
    have hsz : w.heap.size < wr.heap.size := (Array.getElem?_eq_some_iff.1 hit).1
    have Hsp := Lib.hid hsp
    have Hbw := Lib.hid hbw
    clear hsp hbw
    by_cases hp : pos < l.length
    · have hp' : pos < (⟨l.toArray⟩ : ByteArray).size := hp
      have hnx : ∀ ty, (Instr.next (.pointer (some ⟨w.heap.size, 0, none⟩)) true ty).run Tryz.prog wr = _ := fun ty => Lib.run_next_any_at wr w.heap.size ⟨l.toArray⟩ pos ty hit hp'
      have hd : l.drop pos = l[pos] :: l.drop (pos + 1) := List.drop_eq_getElem_cons hp
      have Hstep : Hid (spanF ok (l.drop pos) pos = if pos = 15 ∨ ok pos (l[pos]).toNat = false then pos else spanF ok (l.drop (pos + 1)) (pos + 1)) := by
        show spanF ok (l.drop pos) pos = _
        rw [hd, spanF]
      have Hok : Hid (ok pos (Utf8.decode ⟨l.toArray⟩ pos).1 = ok pos (l[pos]).toNat ∧ (ok pos (l[pos]).toNat = true → (Utf8.decode ⟨l.toArray⟩ pos).2 = 1)) := by
        show _ ∧ _
        have e : ((⟨l.toArray⟩ : ByteArray)[pos]'hp') = l[pos] := rfl
        by_cases ha : (l[pos]).toNat < 128
        · rw [decode_ascii ⟨l.toArray⟩ pos hp' (by rw [e]; exact ha), e]
          exact ⟨rfl, fun _ => rfl⟩
        · have := (decode_high ⟨l.toArray⟩ pos hp' (by rw [e]; omega)).1
          rw [Hhi.out pos _ this, Hhi.out pos _ (by omega)]
          exact ⟨rfl, fun h => by cases h⟩
      have hd1 := decode_le ⟨l.toArray⟩ pos
      clear hd
      generalize hq : Utf8.decode ⟨l.toArray⟩ pos = q at hnx hd1 Hok
      clear hq
      obtain ⟨c, wd⟩ := q
      simp only at hnx hd1 Hok
      have hit1 := Lib.iterAt_heap wr w.heap.size ⟨l.toArray⟩ pos (pos + wd) hit
      have hb1 := Lib.below_iterAt Hbw.out (k := w.heap.size) (Nat.le_refl _) ⟨l.toArray⟩ (pos + wd)
      have Hit1 := Lib.hid hit1
      have Hb1 := Lib.hid hb1
      have Hit := Lib.hid hit
      clear hit1 hb1 hit
      by_cases h15 : pos = 15
      · have hb : ((pos : Int) == 15) = true := by simp; omega
        have Hr : Hid (spanF ok l 0 = pos) := by
          show spanF ok l 0 = pos
          rw [← Hsp.out, Hstep.out, if_pos (.inl h15)]
        have H15 := Lib.hid h15
        clear h15
        go_wp2
        go_ret
        exact ⟨by rw [Hr.out]; rfl, Hb1.out⟩
      · have hb : ((pos : Int) == 15) = false := by simp; omega
        have H15 := Lib.hid h15
        clear h15
        cases ho : ok pos (l[pos]).toNat
        · have Hr : Hid (spanF ok l 0 = pos) := by
            show spanF ok l 0 = pos
            rw [← Hsp.out, Hstep.out, if_pos (.inr ho)]
          have Ho := Lib.hid ho
          clear ho
          go_wp2_with fail
          have kc := Hcl.out pos c (wr.iterAt w.heap.size ⟨l.toArray⟩ (pos + wd))
          rw [Hok.out.1, Ho.out] at kc
          refine kc.mono ?_
          rintro e w1 ⟨rfl, rfl⟩
          clear kc
          go_wp2
          go_ret
          exact ⟨by rw [Hr.out]; rfl, Hb1.out⟩
        · obtain rfl : wd = 1 := Hok.out.2 ho
          have Ho := Lib.hid ho
          clear ho
          go_wp2_with fail
          have kc := Hcl.out pos c (wr.iterAt w.heap.size ⟨l.toArray⟩ (pos + 1))
          rw [Hok.out.1, Ho.out] at kc
          refine kc.mono ?_
          rintro e w1 ⟨rfl, rfl⟩
          clear kc
          go_wp2
          go_roundw
          case rel => exact ⟨pos + 1, Hit1.out, Hb1.out, by omega, by rw [← Hsp.out, Hstep.out, if_neg (by rw [Ho.out]; simp; exact H15.out)]⟩
          case measure =>
            simp only [World.iterPos, Hit1.out, Hit.out]
            omega
    · have hnx : ∀ ty, (Instr.next (.pointer (some ⟨w.heap.size, 0, none⟩)) true ty).run Tryz.prog wr = _ := fun ty => Lib.run_next_end_at wr w.heap.size ⟨l.toArray⟩ pos ty hit hp
      have Hr : Hid (spanF ok l 0 = l.length) := by
        show spanF ok l 0 = l.length
        rw [← Hsp.out, List.drop_eq_nil_of_le (by omega), spanF]
        omega
      have Hit := Lib.hid hit
      clear hit
      go_wp2
      go_ret
      exact ⟨by rw [Hr.out]; rfl, Hbw.out⟩

set_option maxHeartbeats 400000 in
theorem nameLen_any (l : List UInt8) (w : World) (hl : l.length ≤ 9223372036854775807) :
    Calls Tryz.prog 132 #[strV l] w fun e w' => e = .returned (.int .i64 (spanF okName l 0 : Int)) ∧ Below w.heap.size w w' := by
  have K := Lib.hid (len_any okName 158 l w hl okName_high (fun _ _ => by kernel_rfl) name1_any)
  go_enter Tryz.func132, Tryz.ntmps132
  go_wp2_with fail
  refine K.out.mono ?_
  rintro e w1 ⟨rfl, hb⟩
  have HB := Lib.hid hb
  clear hb
  go_wp2
  go_ret
  exact ⟨rfl, HB.out⟩

set_option maxHeartbeats 400000 in
theorem valueLen_any (l : List UInt8) (w : World) (hl : l.length ≤ 9223372036854775807) :
    Calls Tryz.prog 161 #[strV l] w fun e w' => e = .returned (.int .i64 (spanF okVal l 0 : Int)) ∧ Below w.heap.size w w' := by
  have K := Lib.hid (len_any okVal 165 l w hl okVal_high (fun _ _ => by kernel_rfl) value1_any)
  go_enter Tryz.func161, Tryz.ntmps161
  go_wp2_with fail
  refine K.out.mono ?_
  rintro e w1 ⟨rfl, hb⟩
  have HB := Lib.hid hb
  clear hb
  go_wp2
  go_ret
  exact ⟨rfl, HB.out⟩

end Go.Proofs.YtfnigiiocapceaaGreat.La
