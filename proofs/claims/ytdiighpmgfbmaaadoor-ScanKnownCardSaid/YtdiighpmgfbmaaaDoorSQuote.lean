/- What Quote answers, as a plain function. Condition: the tables of UTF-8 lie as they were laid. -/
import Derived.Test.YtdiighpmgfbmaaaDoorSMem
import Derived.Test.YtdiighpmgfbmaaaDoorShelfValid
import Derived.Lib.MapLaws
import Derived.Lib.ValidLaws
import Derived.Lib.TrimUEq
namespace Go.Proofs.YtdiighpmgfbmaaaDoor
open Go.RowKit

/-- The library's tables of UTF-8 lie as they were laid. -/
def Utab (w : World) : Prop := Lib.Utf8Tabs (Tryd.lays196_ren.g 3) (Tryd.lays196_ren.g 4) w

/-- What stands for a rune in a string. -/
def escF1 (c : Nat) : List UInt8 := if c = 10 then [92, 110] else if c = 34 then [92, 34] else if c = 92 then [92, 92] else Lib.encodeRune (c : Int)
/-- Rune by rune. -/
def quoF (l : List UInt8) : Nat → Nat → List UInt8 → Option (List UInt8)
  | 0, _, _ => none
  | f + 1, pos, acc =>
    if pos < l.length then
      if (Utf8.decode ⟨l.toArray⟩ pos).1 < 32 ∧ (Utf8.decode ⟨l.toArray⟩ pos).1 ≠ 10 then none
      else quoF l f (pos + (Utf8.decode ⟨l.toArray⟩ pos).2) (acc ++ escF1 (Utf8.decode ⟨l.toArray⟩ pos).1)
    else some (acc ++ [34])
def quoteF (l : List UInt8) : List UInt8 × Int :=
  if Lib.validD l = false then ([], 4) else match quoF l (l.length + 1) 0 [34] with
  | some t => (t, 0)
  | none => ([], 4)
theorem esc_len (c : Nat) : (escF1 c).length ≤ 4 := by
  have := enc_len (c : Int)
  unfold escF1
  repeat' split
  all_goals simp
  all_goals omega

theorem own_iterAt {w : World} {B k : Nat} {t : ByteArray} {p : Nat} (hk : w.heap[k]? = some (Obj.stringIter t p)) (p' : Nat) {e : TypeId} {size : Nat} {v : Value} {n : Nat} {xs : List Value} (h : w.ownsRow B e size v n xs) : (w.iterAt k t p').ownsRow B e size v n xs := by
  obtain ⟨h1, h2⟩ := h
  refine ⟨h1, ?_⟩
  rcases h2 with h2 | ⟨g, cap, cur, hv, hg, hc, h3⟩
  · exact .inl h2
  · refine .inr ⟨g, cap, cur, hv, hg, ?_, h3⟩
    rw [iterAt_far w k t p' g (fun e => by subst e; rw [hk] at hc; cases hc)]
    exact hc
theorem info_B : (Tryd.prog.info? 5).map (fun i => (i.zero, i.size, i.bytes)) = some (some (.int .u8 0), 1, 1) := by kernel_rfl
theorem byte_app (a b : List UInt8) : Lib.byteCells a ++ Lib.byteCells b = Lib.byteCells (a ++ b) := by simp [Lib.byteCells]

set_option maxRecDepth 100000 in
set_option maxHeartbeats 4000000 in
theorem quote_any (l : List UInt8) (w : World) (hl : l.length ≤ 100000) (hT : Utab w) :
    Calls Tryd.prog 25 #[strV l] w fun e w' => e = .returned (.tuple #[strV (quoteF l).1, .int .i64 (quoteF l).2]) ∧ Below w.heap.size w w' := by
  have KV := Lib.hid (Tryd.utf8_ValidString ⟨l.toArray⟩ w (by
    show l.toArray.size ≤ _
    simp
    omega) hT)
  clear hT
  rcases hR : quoteF l with ⟨r, e0⟩
  unfold quoteF at hR
  simp only
  cases hv : Lib.validD l
  · rw [if_pos hv] at hR
    simp only [Prod.mk.injEq] at hR
    obtain ⟨rfl, rfl⟩ := hR
    have HV := Lib.hid hv
    clear hv
    go_enter Tryd.func25, Tryd.ntmps25
    go_wp2_with fail
    refine KV.out.mono ?_
    rw [show Lib.validD (⟨l.toArray⟩ : ByteArray).data.toList = false from HV.out]
    rintro e w1 ⟨rfl, hb⟩
    have HB := Lib.hid hb
    clear hb KV
    go_wp2
    go_ret2
    exact ⟨rfl, HB.out⟩
  · rw [if_neg (by rw [hv]; simp)] at hR
    have HR := Lib.hid hR
    have HV := Lib.hid hv
    clear hv hR
    go_enter Tryd.func25, Tryd.ntmps25
    go_wp2_with fail
    refine KV.out.mono ?_
    rw [show Lib.validD (⟨l.toArray⟩ : ByteArray).data.toList = true from HV.out]
    rintro e w1 ⟨rfl, hb⟩
    have HB := Lib.hid hb
    clear hb KV
    go_wp2_with fail
    obtain ⟨i0, hi0, hz0, hz1, hz2⟩ := info_parts info_B
    obtain ⟨Q, hQ⟩ : ∃ Q, quoF l (l.length + 1) 0 [34] = Q := ⟨_, rfl⟩
    have HQ := Lib.hid hQ
    clear hQ
    go_loopw [4] (fun v wr => ∃ (pos : Nat) (acc : List UInt8) (f : Nat), wr.heap[w1.heap.size + 1]? = some (Obj.stringIter ⟨l.toArray⟩ pos) ∧ wr.ownsRow w1.heap.size 5 1 v acc.length (Lib.byteCells acc) ∧ Below w1.heap.size w1 wr ∧ acc.length ≤ 4 * pos + 1 ∧ pos ≤ l.length + 4 ∧ 1 ≤ f ∧ l.length < pos + f ∧ quoF l f pos acc = Q) (fun _ wr => l.length - wr.iterPos (w1.heap.size + 1))
    case atStart =>
      refine ⟨0, [34], l.length + 1, ?_, ?_, ?_, by simp, by omega, by omega, by omega, HQ.out⟩
      · have := World.iter_heap (w1.alloc (.cells #[.int .u8 34] 5)) ⟨l.toArray⟩ 0
        simpa using this
      · have hb : ((w1.alloc (.cells #[.int .u8 34] 5)).alloc (Obj.stringIter ⟨l.toArray⟩ 0)).heap[w1.heap.size]? = some (.cells #[.int .u8 34] 5 (0, 0)) := Blk.alloc (Blk.new w1 #[.int .u8 34] 5) _
        exact ⟨by simp [Lib.byteCells], .inr ⟨w1.heap.size, 1, #[.int .u8 34], rfl, Nat.le_refl _, hb, Nat.le_refl _, by unfold maxLen; omega, rfl, rfl⟩⟩
      · exact ((Below.refl _ _).alloc (Nat.le_refl _) _).alloc (by simp) _
    case round =>
      obtain ⟨pos, acc, f, hit, hown, hbw, hal, hpl, hf1, hf, hF⟩ := hrel
      have hsz : w1.heap.size + 1 < wr.heap.size := lt_iter hit
      obtain ⟨f, rfl⟩ : ∃ g, f = g + 1 := ⟨f - 1, by omega⟩
      rw [quoF] at hF
      obtain ⟨A3, c3, rfl, hc31, hc32⟩ := own_sliceS hown
      by_cases hp : pos < l.length
      · rw [if_pos hp] at hF
        have hp' : pos < (⟨l.toArray⟩ : ByteArray).size := hp
        have hnx : ∀ ty, (Instr.next (.pointer (some ⟨w1.heap.size + 1, 0, none⟩)) true ty).run Tryd.prog wr = _ := fun ty => Lib.run_next_any_at wr (w1.heap.size + 1) ⟨l.toArray⟩ pos ty hit hp'
        have hd1 := decode_le ⟨l.toArray⟩ pos
        have hd2 := Lib.decode_width_pos ⟨l.toArray⟩ pos hp'
        have hd3 := decode_le4 ⟨l.toArray⟩ pos
        generalize hq : Utf8.decode ⟨l.toArray⟩ pos = q at hnx hd1 hd2 hd3 hF
        obtain ⟨c, wd⟩ := q
        simp only at hnx hd1 hd2 hd3 hF
        have Hit1 := Lib.hid (Lib.iterAt_heap wr (w1.heap.size + 1) ⟨l.toArray⟩ pos (pos + wd) hit)
        have HB1 := Lib.hid (Lib.below_iterAt hbw (k := w1.heap.size + 1) (by omega) ⟨l.toArray⟩ (pos + wd))
        have Ho1 := Lib.hid (own_iterAt hit (pos + wd) hown)
        have Hit := Lib.hid hit
        have hWsz : (wr.iterAt (w1.heap.size + 1) ⟨l.toArray⟩ (pos + wd)).heap.size = wr.heap.size := by
          show (wr.heap.setIfInBounds _ _).size = _
          simp
        obtain ⟨W1, hW1⟩ : ∃ W1, wr.iterAt (w1.heap.size + 1) ⟨l.toArray⟩ (pos + wd) = W1 := ⟨_, rfl⟩
        rw [hW1] at hnx Hit1 HB1 Ho1 hWsz
        have HWsz := Lib.hid hWsz
        have HF := Lib.hid hF
        clear hq hit hown hbw hF hWsz hW1
        by_cases hbad : c < 32 ∧ c ≠ 10
        · have hF := HF.out
          rw [if_pos hbad] at hF
          have hR := HR.out
          rw [HQ.out, ← hF] at hR
          simp only [Prod.mk.injEq] at hR
          obtain ⟨rfl, rfl⟩ := hR
          have q10 : ((c : Int) == 10) = false := by simp; omega
          have hct : ctB c = true := by unfold ctB; simp; omega
          have HBad := Lib.hid hbad
          clear hbad hF
          go_wp2_with ((with_reducible refine (control_any _ _).mono ?_); rintro e w9 ⟨rfl, rfl⟩)
          go_ret2
          exact ⟨rfl, HB.out.trans (HB1.out.mono HB.out.size)⟩
        have hF := HF.out
        rw [if_neg hbad] at hF
        replace HF := Lib.hid hF
        clear hF
        by_cases h10 : c = 10
        · have HE : Hid (escF1 c = [92, 110]) := Lib.hid (by rw [h10]; rfl)
          have q10 : ((c : Int) == 10) = true := by simp; omega
          have H10 := Lib.hid h10
          clear h10 hbad
          go_wp2_with (first | (at_builtin; refine wpList_append_own _ rfl _ _ 33 rfl w1.heap.size 5 i0 (.int .u8 0) 1 1 Tryd.underlying33 hi0 hz0 hz1 hz2 rfl (by decide) _ _ _ rfl (Ho1.out.alloc _) ⟨W1.heap.size, 0, none⟩ 2 2 (Lib.byteCells [92, 110]) rfl rfl ?a1 ?b1 ?c1 ?d1 ?e1 ?_) | ((with_reducible refine (control_any _ _).mono ?_); rintro e w9 ⟨rfl, rfl⟩))
          case a1 =>
            intro j u hj
            match j, hj with
                  | 0, hj => simp [Lib.byteCells] at hj; subst hj; first | (simp [Addr.add, go_sem]; done) | exact Blk.cell (Blk.new _ _ _) 0
                  | 1, hj => simp [Lib.byteCells] at hj; subst hj; first | (simp [Addr.add, go_sem]; done) | exact Blk.cell (Blk.new _ _ _) 1
                  | j + 2, hj => simp [Lib.byteCells] at hj
          case b1 => intro u hu; simp [Lib.byteCells] at hu; rcases hu with rfl | rfl <;> rfl
          case c1 => unfold maxLen; omega
          case d1 => omega
          case e1 => have := HWsz.out; simp; omega
          intro v' w4 hown' hgrow' _
          have K4 := Lib.hid (((KeepI.refl w1.heap.size W1).alloc (by rw [HWsz.out]; omega) (.cells (Lib.byteCells [92, 110]).toArray 5)).grown (Ho1.out.alloc _) (by have := HWsz.out; simp; omega) hgrow')
          rw [byte_app] at hown'
          obtain ⟨A4, c4, rfl, _⟩ := own_sliceS hown'
          have Own4 := Lib.hid hown'
          clear hown' hgrow'
          go_wp2
          go_roundw
          case rel => exact ⟨pos + wd, acc ++ [92, 110], f, K4.out.2 _ _ _ Hit1.out, by simpa using Own4.out, HB1.out.trans K4.out.1, by simp; omega, by omega, by omega, by omega, by rw [← HF.out, HE.out]⟩
          case measure =>
            simp only [World.iterPos, K4.out.2 _ _ _ Hit1.out, Hit.out]
            omega
        have q10 : ((c : Int) == 10) = false := by simp; omega
        have hct : ctB c = false := by unfold ctB; simp; omega
        by_cases h34 : c = 34
        · have HE : Hid (escF1 c = [92, 34]) := Lib.hid (by rw [h34]; rfl)
          have q34 : ((c : Int) == 34) = true := by simp; omega
          have qw : IntKind.u8.wrap (c : Int) = 34 := by rw [h34]; rfl
          have H34 := Lib.hid h34
          have H10 := Lib.hid h10
          clear h34 h10 hbad
          go_wp2_with (first | (at_builtin; refine wpList_append_own _ rfl _ _ 33 rfl w1.heap.size 5 i0 (.int .u8 0) 1 1 Tryd.underlying33 hi0 hz0 hz1 hz2 rfl (by decide) _ _ _ rfl (Ho1.out.alloc _) ⟨W1.heap.size, 0, none⟩ 2 2 (Lib.byteCells [92, 34]) rfl rfl ?a2 ?b2 ?c2 ?d2 ?e2 ?_) | ((with_reducible refine (control_any _ _).mono ?_); rintro e w9 ⟨rfl, rfl⟩))
          case a2 =>
            intro j u hj
            match j, hj with
                  | 0, hj => simp [Lib.byteCells] at hj; subst hj; first | (simp [Addr.add, go_sem]; done) | exact Blk.cell (Blk.new _ _ _) 0
                  | 1, hj => simp [Lib.byteCells] at hj; subst hj; first | (simp [Addr.add, go_sem]; done) | exact Blk.cell (Blk.new _ _ _) 1
                  | j + 2, hj => simp [Lib.byteCells] at hj
          case b2 => intro u hu; simp [Lib.byteCells] at hu; rcases hu with rfl | rfl <;> rfl
          case c2 => unfold maxLen; omega
          case d2 => omega
          case e2 => have := HWsz.out; simp; omega
          intro v' w4 hown' hgrow' _
          have K4 := Lib.hid (((KeepI.refl w1.heap.size W1).alloc (by rw [HWsz.out]; omega) (.cells (Lib.byteCells [92, 34]).toArray 5)).grown (Ho1.out.alloc _) (by have := HWsz.out; simp; omega) hgrow')
          rw [byte_app] at hown'
          obtain ⟨A4, c4, rfl, _⟩ := own_sliceS hown'
          have Own4 := Lib.hid hown'
          clear hown' hgrow'
          go_wp2
          go_roundw
          case rel => exact ⟨pos + wd, acc ++ [92, 34], f, K4.out.2 _ _ _ Hit1.out, by simpa using Own4.out, HB1.out.trans K4.out.1, by simp; omega, by omega, by omega, by omega, by rw [← HF.out, HE.out]⟩
          case measure =>
            simp only [World.iterPos, K4.out.2 _ _ _ Hit1.out, Hit.out]
            omega
        have q34 : ((c : Int) == 34) = false := by simp; omega
        by_cases h92 : c = 92
        · have HE : Hid (escF1 c = [92, 92]) := Lib.hid (by rw [h92]; rfl)
          have q92 : ((c : Int) == 92) = true := by simp; omega
          have qw : IntKind.u8.wrap (c : Int) = 92 := by rw [h92]; rfl
          have H34 := Lib.hid h34
          have H10 := Lib.hid h10
          have H92 := Lib.hid h92
          clear h34 h10 h92 hbad
          go_wp2_with (first | (at_builtin; refine wpList_append_own _ rfl _ _ 33 rfl w1.heap.size 5 i0 (.int .u8 0) 1 1 Tryd.underlying33 hi0 hz0 hz1 hz2 rfl (by decide) _ _ _ rfl (Ho1.out.alloc _) ⟨W1.heap.size, 0, none⟩ 2 2 (Lib.byteCells [92, 92]) rfl rfl ?a3 ?b3 ?c3 ?d3 ?e3 ?_) | ((with_reducible refine (control_any _ _).mono ?_); rintro e w9 ⟨rfl, rfl⟩))
          case a3 =>
            intro j u hj
            match j, hj with
                  | 0, hj => simp [Lib.byteCells] at hj; subst hj; first | (simp [Addr.add, go_sem]; done) | exact Blk.cell (Blk.new _ _ _) 0
                  | 1, hj => simp [Lib.byteCells] at hj; subst hj; first | (simp [Addr.add, go_sem]; done) | exact Blk.cell (Blk.new _ _ _) 1
                  | j + 2, hj => simp [Lib.byteCells] at hj
          case b3 => intro u hu; simp [Lib.byteCells] at hu; rcases hu with rfl | rfl <;> rfl
          case c3 => unfold maxLen; omega
          case d3 => omega
          case e3 => have := HWsz.out; simp; omega
          intro v' w4 hown' hgrow' _
          have K4 := Lib.hid (((KeepI.refl w1.heap.size W1).alloc (by rw [HWsz.out]; omega) (.cells (Lib.byteCells [92, 92]).toArray 5)).grown (Ho1.out.alloc _) (by have := HWsz.out; simp; omega) hgrow')
          rw [byte_app] at hown'
          obtain ⟨A4, c4, rfl, _⟩ := own_sliceS hown'
          have Own4 := Lib.hid hown'
          clear hown' hgrow'
          go_wp2
          go_roundw
          case rel => exact ⟨pos + wd, acc ++ [92, 92], f, K4.out.2 _ _ _ Hit1.out, by simpa using Own4.out, HB1.out.trans K4.out.1, by simp; omega, by omega, by omega, by omega, by rw [← HF.out, HE.out]⟩
          case measure =>
            simp only [World.iterPos, K4.out.2 _ _ _ Hit1.out, Hit.out]
            omega
        have q92 : ((c : Int) == 92) = false := by simp; omega
        have HE : Hid (escF1 c = Lib.encodeRune (c : Int)) := Lib.hid (by unfold escF1; rw [if_neg h10, if_neg h34, if_neg h92])
        have he := enc_len (c : Int)
        have KA := Lib.hid (Tryd.utf8_AppendRune_plain w1.heap.size (.slice A3 acc.length c3) acc.length (Lib.byteCells acc) (c : Int) (by omega) (by omega) _ Ho1.out (by omega) (by rw [HWsz.out]; omega))
        have H34 := Lib.hid h34
        have H10 := Lib.hid h10
        have H92 := Lib.hid h92
        clear h34 h10 h92 hbad
        go_wp2_with ((with_reducible refine (control_any _ _).mono ?_); rintro e w9 ⟨rfl, rfl⟩)
        refine KA.out.mono ?_
        rintro e w4 ⟨v', rfl, hown', o, hgrow'⟩
        have K4 := Lib.hid (((KeepI.refl w1.heap.size W1).alloc (by rw [HWsz.out]; omega) o).grown (Ho1.out.alloc o) (by have := HWsz.out; simp; omega) hgrow')
        have e1 : acc.length + (Lib.runeCells (c : Int)).length = (acc ++ Lib.encodeRune (c : Int)).length := by
          rw [← Lib.byteCells_encodeRune, Lib.byteCells_length]
          simp
        rw [← Lib.byteCells_encodeRune, byte_app, Lib.byteCells_encodeRune, e1] at hown'
        obtain ⟨A4, c4, rfl, _⟩ := own_sliceS hown'
        have Own4 := Lib.hid hown'
        clear hown' hgrow' e1 KA
        go_wp2
        go_roundw
        case rel => exact ⟨pos + wd, acc ++ Lib.encodeRune (c : Int), f, K4.out.2 _ _ _ Hit1.out, by simpa using Own4.out, HB1.out.trans K4.out.1, by simp; omega, by omega, by omega, by omega, by rw [← HF.out, HE.out]⟩
        case measure =>
          simp only [World.iterPos, K4.out.2 _ _ _ Hit1.out, Hit.out]
          omega
      · rw [if_neg hp] at hF
        have hR := HR.out
        rw [HQ.out, ← hF] at hR
        simp only [Prod.mk.injEq] at hR
        obtain ⟨rfl, rfl⟩ := hR
        have hnx : ∀ ty, (Instr.next (.pointer (some ⟨w1.heap.size + 1, 0, none⟩)) true ty).run Tryd.prog wr = _ := fun ty => Lib.run_next_end_at wr (w1.heap.size + 1) ⟨l.toArray⟩ pos ty hit hp
        have Ho1 := Lib.hid hown
        have HB1 := Lib.hid hbw
        clear hit hown hbw hF
        go_wp2_with (at_builtin; refine wpList_append_own _ rfl _ _ 33 rfl w1.heap.size 5 i0 (.int .u8 0) 1 1 Tryd.underlying33 hi0 hz0 hz1 hz2 rfl (by decide) _ _ _ rfl (Ho1.out.alloc _) ⟨wr.heap.size, 0, none⟩ 1 1 (Lib.byteCells [34]) rfl rfl ?a5 ?b5 ?c5 ?d5 ?e5 ?_)
        case a5 =>
          intro j u hj
          match j, hj with
          | 0, hj => simp [Lib.byteCells] at hj; subst hj; first | (simp [Addr.add, go_sem]; done) | exact Blk.cell (Blk.new _ _ _) 0
          | j + 1, hj => simp [Lib.byteCells] at hj
        case b5 => intro u hu; simp [Lib.byteCells] at hu; subst hu; rfl
        case c5 => unfold maxLen; omega
        case d5 => omega
        case e5 => simp; omega
        intro v' w4 hown' hgrow' _
        rw [byte_app] at hown'
        have hB4 := (HB1.out.alloc (by omega) (.cells (Lib.byteCells [34]).toArray 5)).grown hgrow' (by simp; omega) (fun k hk => (Ho1.out.lt k hk).1)
        have e1 : acc.length + 1 = (acc ++ [34]).length := by simp
        have hcv : (convert 33 9 v').run Tryd.prog w4 = .ok (strV (acc ++ [34])) w4 := by
          have h := hown'
          rw [e1] at h
          exact run_text h
        obtain ⟨A4, c4, rfl, _⟩ := own_sliceS hown'
        have HB4 := Lib.hid hB4
        clear hown' hgrow' hB4 e1
        go_wp2
        go_ret2
        exact ⟨rfl, HB.out.trans (HB4.out.mono HB.out.size)⟩
end Go.Proofs.YtdiighpmgfbmaaaDoor
