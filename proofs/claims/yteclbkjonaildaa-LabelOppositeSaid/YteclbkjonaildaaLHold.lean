/- What Holds and Bears answer, as plain functions. Condition: the lists lie in memory. -/
import Derived.Test.YteclbkjonaildaaLPrintB
namespace Go.Proofs.Yteclbkjonaildaa
open Go.RowKit

/-- Does one of the first k meet p? -/
def anyK {α : Type} (p : α → Bool) (l : List α) : Bool := l.any p

set_option maxRecDepth 100000 in
set_option maxHeartbeats 1000000 in
theorem indexFunc_any (p : List UInt8 × List UInt8 → Bool) (g : FuncId) (q : Value) (A : Option Addr) (c : Nat) (l : List (List UInt8 × List UInt8)) (w : World) (hn : l.length ≤ 1000) (hc : l.length ≤ c) (hs : SlAt w A (cellsL l))
    (hg1 : ∀ (args : Array Value) (w : World), (callFunc g args).run Try.prog w = .ok (.enter g args) w)
    (hcl : ∀ (x : List UInt8 × List UInt8) (w' : World), Below w.heap.size w w' → Calls Try.prog g #[labV x, q] w' fun e w'' => e = .returned (.bool (p x)) ∧ Below w'.heap.size w' w'') :
    Calls Try.prog 75 #[.slice A l.length c, .func (Fn.func g) #[] #[q]] w fun e w' => (∃ i : Int, e = .returned (.int .i64 i) ∧ -1 ≤ i ∧ i ≤ 1000 ∧ (decide (0 ≤ i) = l.any p)) ∧ Below w.heap.size w w' := by
  have HS := Lib.hid hs
  have Hcl := Lib.hid hcl
  clear hs hcl
  go_enter Try.func75, Try.ntmps75
  go_wp2
  go_loopw [8] (fun i wr => ∃ k : Nat, k ≤ l.length ∧ i = .int .i64 k ∧ (l.take k).any p = false ∧ Below w.heap.size w wr) (fun i _ => l.length - (intOf i).toNat)
  case atStart => exact ⟨0, by omega, rfl, rfl, Below.refl _ _⟩
  case round =>
    obtain ⟨k, hk, rfl, hp, hbw⟩ := hrel
    have Hp := Lib.hid hp
    have Hbw := Lib.hid hbw
    clear hp hbw
    by_cases hlt : k < l.length
    · obtain ⟨x, hxk⟩ : ∃ x, l[k]? = some x := ⟨l[k], List.getElem?_eq_getElem hlt⟩
      obtain ⟨b0, o0, hA, hb0, hx⟩ := SlAt.lab (HS.out.below Hbw.out) hxk
      have ht : l.take (k + 1) = l.take k ++ [x] := by rw [List.take_add_one, hxk]; rfl
      subst hA
      have hx0 : wr.cell? ⟨b0, o0 + k * 2, none⟩ = some (strV x.1) := hx.1
      have hx1 : wr.cell? ⟨b0, o0 + k * 2 + 1, none⟩ = some (strV x.2) := hx.2
      have Hx := Lib.hid hx
      have Hk := Lib.hid hxk
      have Ht := Lib.hid ht
      clear hx hxk ht
      cases hpx : p x
      · have K := Lib.hid (Hcl.out x wr Hbw.out)
        rw [hpx] at K
        have Hpx := Lib.hid hpx
        clear hpx
        go_wp2_with fail
        refine K.out.mono ?_
        rintro e w2 ⟨rfl, hb2⟩
        have Hbw2 := Lib.hid (Hbw.out.trans (hb2.mono Hbw.out.size))
        clear hb2
        go_wp2
        go_roundw
        case rel => exact ⟨k + 1, by omega, by go_num, by rw [Ht.out, List.any_append, Hp.out]; simp [Hpx.out], Hbw2.out⟩
        case measure => simp [intOf]; omega
      · have K := Lib.hid (Hcl.out x wr Hbw.out)
        rw [hpx] at K
        have Hpx := Lib.hid hpx
        clear hpx
        go_wp2_with fail
        refine K.out.mono ?_
        rintro e w2 ⟨rfl, hb2⟩
        have Hbw2 := Lib.hid (Hbw.out.trans (hb2.mono Hbw.out.size))
        clear hb2
        go_wp2
        go_ret
        refine ⟨⟨(k : Int), rfl, by omega, by omega, ?_⟩, Hbw2.out⟩
        have : l.any p = true := List.any_eq_true.2 ⟨x, List.mem_of_getElem? Hk.out, Hpx.out⟩
        rw [this]
        simp
    · obtain rfl : k = l.length := by omega
      go_wp2
      go_ret
      refine ⟨⟨-1, rfl, by omega, by omega, ?_⟩, Hbw.out⟩
      have := Hp.out
      rw [List.take_length] at this
      rw [this]
      simp

set_option maxHeartbeats 400000 in
theorem containsFunc_any (p : List UInt8 × List UInt8 → Bool) (g : FuncId) (q : Value) (A : Option Addr) (c : Nat) (l : List (List UInt8 × List UInt8)) (w : World) (hn : l.length ≤ 1000) (hc : l.length ≤ c) (hs : SlAt w A (cellsL l))
    (hg1 : ∀ (args : Array Value) (w : World), (callFunc g args).run Try.prog w = .ok (.enter g args) w)
    (hcl : ∀ (x : List UInt8 × List UInt8) (w' : World), Below w.heap.size w w' → Calls Try.prog g #[labV x, q] w' fun e w'' => e = .returned (.bool (p x)) ∧ Below w'.heap.size w' w'') :
    Calls Try.prog 60 #[.slice A l.length c, .func (Fn.func g) #[] #[q]] w fun e w' => e = .returned (.bool (l.any p)) ∧ Below w.heap.size w w' := by
  have K := Lib.hid (indexFunc_any p g q A c l w hn hc hs hg1 hcl)
  clear hs hcl hg1
  go_enter Try.func60, Try.ntmps60
  go_wp2_with fail
  refine K.out.mono ?_
  rintro e w1 ⟨⟨i, rfl, hi0, hi1, hi⟩, hb⟩
  have HB := Lib.hid hb
  have Hi := Lib.hid hi
  clear hb hi
  go_wp2
  go_ret
  exact ⟨retB (by rw [← Hi.out]), HB.out⟩

def keyP (t : Int × List UInt8 × List UInt8) (x : List UInt8 × List UInt8) : Bool := decide (x.1 = t.2.1)
def bothP (t : Int × List UInt8 × List UInt8) (x : List UInt8 × List UInt8) : Bool := decide (x.1 = t.2.1) && decide (x.2 = t.2.2)
def holdL (t : Int × List UInt8 × List UInt8) (l : List (List UInt8 × List UInt8)) : Bool :=
  if t.1 = 1 then l.any (bothP t) else if t.1 = 2 then !l.any (bothP t) else if t.1 = 3 then l.any (keyP t) else !l.any (keyP t)

set_option maxHeartbeats 400000 in
theorem hold1_any (t : Int × List UInt8 × List UInt8) (x : List UInt8 × List UInt8) (b : Nat) (w : World) (h : Blk w b #[.int .i64 t.1, strV t.2.1, strV t.2.2] 43) :
    Calls Try.prog 73 #[labV x, .pointer (some ⟨b, 0, none⟩)] w fun e w' => e = .returned (.bool (keyP t x)) ∧ Below w.heap.size w w' := by
  obtain ⟨d0, d1, d2, f0, f1, f2⟩ := Blk.c3 h
  have hlt := h.lt
  clear h
  go_enter Try.func73, Try.ntmps73
  go_wp2
  go_ret
  refine ⟨retB ?_, below1 _ _⟩
  unfold keyP
  rw [Bool.eq_iff_iff]
  simp

set_option maxHeartbeats 400000 in
theorem hold2_any (t : Int × List UInt8 × List UInt8) (x : List UInt8 × List UInt8) (b : Nat) (w : World) (h : Blk w b #[.int .i64 t.1, strV t.2.1, strV t.2.2] 43) :
    Calls Try.prog 74 #[labV x, .pointer (some ⟨b, 0, none⟩)] w fun e w' => e = .returned (.bool (bothP t x)) ∧ Below w.heap.size w w' := by
  obtain ⟨d0, d1, d2, f0, f1, f2⟩ := Blk.c3 h
  have hlt := h.lt
  clear h
  go_enter Try.func74, Try.ntmps74
  go_wp2
  all_goals
    go_ret
    refine ⟨retB ?_, below1 _ _⟩
    unfold bothP
    rw [Bool.eq_iff_iff]
    simp_all

set_option maxHeartbeats 1000000 in
theorem holds1_any (t : Int × List UInt8 × List UInt8) (A : Option Addr) (c : Nat) (l : List (List UInt8 × List UInt8)) (w : World) (hn : l.length ≤ 1000) (hc : l.length ≤ c) (hs : SlAt w A (cellsL l)) :
    Calls Try.prog 58 #[terV t, .slice A l.length c] w fun e w' => e = .returned (.bool (holdL t l)) ∧ Below w.heap.size w w' := by
  have hS := hs.below (below1 w (.cells #[.int .i64 t.1, strV t.2.1, strV t.2.2] 43))
  have hT := Blk.new w #[.int .i64 t.1, strV t.2.1, strV t.2.2] 43
  have K1 := Lib.hid (containsFunc_any (keyP t) 73 (.pointer (some ⟨w.heap.size, 0, none⟩)) A c l _ hn hc hS (fun _ _ => by kernel_rfl) (fun x w' hb => hold1_any t x w.heap.size w' (hT.below hb hT.lt)))
  have K2 := Lib.hid (containsFunc_any (bothP t) 74 (.pointer (some ⟨w.heap.size, 0, none⟩)) A c l _ hn hc hS (fun _ _ => by kernel_rfl) (fun x w' hb => hold2_any t x w.heap.size w' (hT.below hb hT.lt)))
  have HB := Lib.hid (below1 w (.cells #[.int .i64 t.1, strV t.2.1, strV t.2.2] 43))
  clear hs hS hT
  obtain ⟨k, a, b⟩ := t
  simp only at K1 K2 HB
  by_cases h1 : k = 1
  · have hb1 : (k == 1) = true := by simpa using h1
    have E : Hid (holdL (k, a, b) l = l.any (bothP (k, a, b))) := by show holdL _ _ = _; unfold holdL; rw [if_pos h1]
    have H1 := Lib.hid h1
    clear h1
    go_enter Try.func58, Try.ntmps58
    go_wp2_with fail
    refine K2.out.mono ?_
    rintro e w1 ⟨rfl, hb⟩
    have HB2 := Lib.hid (HB.out.trans (hb.mono HB.out.size))
    clear hb
    go_wp2
    go_ret
    exact ⟨retB (by rw [E.out]), HB2.out⟩
  · have hb1 : (k == 1) = false := by simpa using h1
    have H1 := Lib.hid h1
    clear h1
    by_cases h2 : k = 2
    · have hb2 : (k == 2) = true := by simpa using h2
      have E : Hid (holdL (k, a, b) l = !l.any (bothP (k, a, b))) := by show holdL _ _ = _; unfold holdL; rw [if_neg H1.out, if_pos h2]
      have H2 := Lib.hid h2
      clear h2
      go_enter Try.func58, Try.ntmps58
      go_wp2_with fail
      refine K2.out.mono ?_
      rintro e w1 ⟨rfl, hb⟩
      have HB2 := Lib.hid (HB.out.trans (hb.mono HB.out.size))
      clear hb
      go_wp2
      go_ret
      exact ⟨retB (by rw [E.out]), HB2.out⟩
    · have hb2 : (k == 2) = false := by simpa using h2
      have H2 := Lib.hid h2
      clear h2
      by_cases h3 : k = 3
      · have hb3 : (k == 3) = true := by simpa using h3
        have E : Hid (holdL (k, a, b) l = l.any (keyP (k, a, b))) := by show holdL _ _ = _; unfold holdL; rw [if_neg H1.out, if_neg H2.out, if_pos h3]
        have H3 := Lib.hid h3
        clear h3
        go_enter Try.func58, Try.ntmps58
        go_wp2_with fail
        refine K1.out.mono ?_
        rintro e w1 ⟨rfl, hb⟩
        have HB2 := Lib.hid (HB.out.trans (hb.mono HB.out.size))
        clear hb
        go_wp2
        go_ret
        exact ⟨retB (by rw [E.out]), HB2.out⟩
      · have hb3 : (k == 3) = false := by simpa using h3
        have E : Hid (holdL (k, a, b) l = !l.any (keyP (k, a, b))) := by show holdL _ _ = _; unfold holdL; rw [if_neg H1.out, if_neg H2.out, if_neg h3]
        have H3 := Lib.hid h3
        clear h3
        go_enter Try.func58, Try.ntmps58
        go_wp2_with fail
        refine K1.out.mono ?_
        rintro e w1 ⟨rfl, hb⟩
        have HB2 := Lib.hid (HB.out.trans (hb.mono HB.out.size))
        clear hb
        go_wp2
        go_ret
        exact ⟨retB (by rw [E.out]), HB2.out⟩

def holdsL (ts : List (Int × List UInt8 × List UInt8)) (l : List (List UInt8 × List UInt8)) : Bool := ts.all (fun t => holdL t l)

set_option maxHeartbeats 1000000 in
theorem holds_any (A1 A2 : Option Addr) (c1 c2 : Nat) (ts : List (Int × List UInt8 × List UInt8)) (l : List (List UInt8 × List UInt8)) (w : World) (hn1 : ts.length ≤ 1000) (hc1 : ts.length ≤ c1) (hn : l.length ≤ 1000) (hc : l.length ≤ c2) (ht : SlAt w A1 (cellsT ts)) (hs : SlAt w A2 (cellsL l)) :
    Calls Try.prog 26 #[.slice A1 ts.length c1, .slice A2 l.length c2] w fun e w' => e = .returned (.bool (holdsL ts l)) ∧ Below w.heap.size w w' := by
  have HT := Lib.hid ht
  have HS := Lib.hid hs
  clear ht hs
  go_enter Try.func26, Try.ntmps26
  go_wp2
  go_loopw [9] (fun i wr => ∃ k : Nat, k ≤ ts.length ∧ i = .int .i64 k ∧ (ts.take k).all (fun t => holdL t l) = true ∧ Below w.heap.size w wr) (fun i _ => ts.length - (intOf i).toNat)
  case atStart => exact ⟨0, by omega, rfl, rfl, Below.refl _ _⟩
  case round =>
    obtain ⟨k, hk, rfl, hp, hbw⟩ := hrel
    have Hp := Lib.hid hp
    have Hbw := Lib.hid hbw
    clear hp hbw
    by_cases hlt : k < ts.length
    · obtain ⟨x, hxk⟩ : ∃ x, ts[k]? = some x := ⟨ts[k], List.getElem?_eq_getElem hlt⟩
      obtain ⟨b0, o0, hA, hb0, hx⟩ := SlAt.ter (HT.out.below Hbw.out) hxk
      have htk : ts.take (k + 1) = ts.take k ++ [x] := by rw [List.take_add_one, hxk]; rfl
      subst hA
      have hx0 : wr.cell? ⟨b0, o0 + k * 3, none⟩ = some (.int .i64 x.1) := hx.1
      have hx1 : wr.cell? ⟨b0, o0 + k * 3 + 1, none⟩ = some (strV x.2.1) := hx.2.1
      have hx2 : wr.cell? ⟨b0, o0 + k * 3 + 2, none⟩ = some (strV x.2.2) := hx.2.2
      have Hk := Lib.hid hxk
      have Ht := Lib.hid htk
      clear hx hxk htk
      have K := Lib.hid (holds1_any x A2 c2 l _ hn hc ((HS.out.below Hbw.out).below (below1 wr (.cells #[.int .i64 x.1, strV x.2.1, strV x.2.2] 43))))
      have Hbw1 := Lib.hid (Hbw.out.alloc Hbw.out.size (.cells #[.int .i64 x.1, strV x.2.1, strV x.2.2] 43))
      cases hpx : holdL x l
      · rw [hpx] at K
        have Hpx := Lib.hid hpx
        clear hpx
        go_wp2_with fail
        refine K.out.mono ?_
        rintro e w2 ⟨rfl, hb2⟩
        have Hbw2 := Lib.hid (Hbw1.out.trans (hb2.mono Hbw1.out.size))
        clear hb2
        go_wp2
        go_ret
        refine ⟨retB ?_, Hbw2.out⟩
        symm
        unfold holdsL
        rw [List.all_eq_false]
        exact ⟨x, List.mem_of_getElem? Hk.out, by rw [Hpx.out]; simp⟩
      · rw [hpx] at K
        have Hpx := Lib.hid hpx
        clear hpx
        go_wp2_with fail
        refine K.out.mono ?_
        rintro e w2 ⟨rfl, hb2⟩
        have Hbw2 := Lib.hid (Hbw1.out.trans (hb2.mono Hbw1.out.size))
        clear hb2
        go_wp2
        go_roundw
        case rel => exact ⟨k + 1, by omega, by go_num, by rw [Ht.out, List.all_append, Hp.out]; simp [Hpx.out], Hbw2.out⟩
        case measure => simp [intOf]; omega
    · obtain rfl : k = ts.length := by omega
      go_wp2
      go_ret
      refine ⟨retB ?_, Hbw.out⟩
      have := Hp.out
      rw [List.take_length] at this
      exact this.symm

def bearP (t x : List UInt8 × List UInt8) : Bool := decide (x.1 = t.1) && (decide (x.2 = t.2) || decide (x.2 = [42]))
def bearsL (bs ts : List (List UInt8 × List UInt8)) : Bool := ts.all (fun t => bs.any (bearP t))

set_option maxHeartbeats 400000 in
theorem bear1_any (t x : List UInt8 × List UInt8) (b : Nat) (w : World) (h : Blk w b #[strV t.1, strV t.2] 41) :
    Calls Try.prog 59 #[labV x, .pointer (some ⟨b, 0, none⟩)] w fun e w' => e = .returned (.bool (bearP t x)) ∧ Below w.heap.size w w' := by
  obtain ⟨d0, d1, f0, f1⟩ := Blk.c2 h
  have hlt := h.lt
  clear h
  go_enter Try.func59, Try.ntmps59
  go_wp2
  all_goals
    go_ret
    refine ⟨retB ?_, below1 _ _⟩
    unfold bearP
    rw [Bool.eq_iff_iff]
    simp_all

set_option maxHeartbeats 1000000 in
theorem bears_any (A1 A2 : Option Addr) (c1 c2 : Nat) (bs ts : List (List UInt8 × List UInt8)) (w : World) (hn1 : bs.length ≤ 1000) (hc1 : bs.length ≤ c1) (hn : ts.length ≤ 1000) (hc : ts.length ≤ c2) (hb : SlAt w A1 (cellsL bs)) (ht : SlAt w A2 (cellsL ts)) :
    Calls Try.prog 27 #[.slice A1 bs.length c1, .slice A2 ts.length c2] w fun e w' => e = .returned (.bool (bearsL bs ts)) ∧ Below w.heap.size w w' := by
  have HT := Lib.hid ht
  have HS := Lib.hid hb
  clear ht hb
  go_enter Try.func27, Try.ntmps27
  go_wp2
  go_loopw [10] (fun i wr => ∃ k : Nat, k ≤ ts.length ∧ i = .int .i64 k ∧ (ts.take k).all (fun t => bs.any (bearP t)) = true ∧ Below w.heap.size w wr) (fun i _ => ts.length - (intOf i).toNat)
  case atStart => exact ⟨0, by omega, rfl, rfl, Below.refl _ _⟩
  case round =>
    obtain ⟨k, hk, rfl, hp, hbw⟩ := hrel
    have Hp := Lib.hid hp
    have Hbw := Lib.hid hbw
    clear hp hbw
    by_cases hlt : k < ts.length
    · obtain ⟨x, hxk⟩ : ∃ x, ts[k]? = some x := ⟨ts[k], List.getElem?_eq_getElem hlt⟩
      obtain ⟨b0, o0, hA, hb0, hx⟩ := SlAt.lab (HT.out.below Hbw.out) hxk
      have htk : ts.take (k + 1) = ts.take k ++ [x] := by rw [List.take_add_one, hxk]; rfl
      subst hA
      have hx0 : wr.cell? ⟨b0, o0 + k * 2, none⟩ = some (strV x.1) := hx.1
      have hx1 : wr.cell? ⟨b0, o0 + k * 2 + 1, none⟩ = some (strV x.2) := hx.2
      have Hk := Lib.hid hxk
      have Ht := Lib.hid htk
      clear hx hxk htk
      have hT := Blk.new wr #[strV x.1, strV x.2] 41
      have K := Lib.hid (containsFunc_any (bearP x) 59 (.pointer (some ⟨wr.heap.size, 0, none⟩)) A1 c1 bs _ hn1 hc1 ((HS.out.below Hbw.out).below (below1 wr (.cells #[strV x.1, strV x.2] 41))) (fun _ _ => by kernel_rfl) (fun y w' hb => bear1_any x y wr.heap.size w' (hT.below hb hT.lt)))
      have Hbw1 := Lib.hid (Hbw.out.alloc Hbw.out.size (.cells #[strV x.1, strV x.2] 41))
      clear hT
      cases hpx : bs.any (bearP x)
      · rw [hpx] at K
        have Hpx := Lib.hid hpx
        clear hpx
        go_wp2_with fail
        refine K.out.mono ?_
        rintro e w2 ⟨rfl, hb2⟩
        have Hbw2 := Lib.hid (Hbw1.out.trans (hb2.mono Hbw1.out.size))
        clear hb2
        go_wp2
        go_ret
        refine ⟨retB ?_, Hbw2.out⟩
        symm
        unfold bearsL
        rw [List.all_eq_false]
        exact ⟨x, List.mem_of_getElem? Hk.out, by rw [Hpx.out]; simp⟩
      · rw [hpx] at K
        have Hpx := Lib.hid hpx
        clear hpx
        go_wp2_with fail
        refine K.out.mono ?_
        rintro e w2 ⟨rfl, hb2⟩
        have Hbw2 := Lib.hid (Hbw1.out.trans (hb2.mono Hbw1.out.size))
        clear hb2
        go_wp2
        go_roundw
        case rel => exact ⟨k + 1, by omega, by go_num, by rw [Ht.out, List.all_append, Hp.out]; simp [Hpx.out], Hbw2.out⟩
        case measure => simp [intOf]; omega
    · obtain rfl : k = ts.length := by omega
      go_wp2
      go_ret
      refine ⟨retB ?_, Hbw.out⟩
      have := Hp.out
      rw [List.take_length] at this
      exact this.symm

end Go.Proofs.Yteclbkjonaildaa
