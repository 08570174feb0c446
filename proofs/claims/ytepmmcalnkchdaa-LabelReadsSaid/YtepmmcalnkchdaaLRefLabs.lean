/- The document's readers of labels and terms: the program's answer. Condition: a short text. -/
import Derived.Test.YtepmmcalnkchdaaLSameP
import Derived.Test.YtepmmcalnkchdaaLParse
import Derived.Test.YtepmmcalnkchdaaLMathR
import Derived.Test.YtepmmcalnkchdaaLMathS
import Derived.Test.YtepmmcalnkchdaaLPrintB
import Derived.Deep.Onto
import Derived.Deep.AppendLies
import Derived.Deep.RegionHeld3
namespace Go.Proofs.Ytepmmcalnkchdaa
open Go.RowKit

theorem vfS_le (star : Bool) (l : List UInt8) (a : Nat) (h : a ≤ l.length) : (vfS star l a).2.2 ≤ l.length := by
  cases star
  · exact valF_le l a h
  · exact anyF_le l a h

theorem readS_len (star : Bool) (l : List UInt8) (r : List (List UInt8 × List UInt8)) (x0 : Nat) (h : readA (labF (vfS star)) (riS star) l = (r, x0, 0)) : r.length ≤ 6 := by
  cases star
  · exact (readA_ok (labF valF) labP labB keyR l (labF_ok valF valueB l (valF_ok l)) r x0 h).2.2
  · have h2 := labF_ok anyF anyB l (anyF_ok l)
    rw [borB_eq] at h2
    exact (readA_ok (labF anyF) labP borB pairR l h2 r x0 h).2.2

set_option maxRecDepth 100000 in
set_option maxHeartbeats 4000000 in
theorem refLabels_any (star : Bool) (l : List UInt8) (w : World) (hl : l.length ≤ 300) :
    Calls Try.prog 34 #[strV l, .bool star] w (ListedL w (readA (labF (vfS star)) (riS star) l)) := by
  have K := parts_any true star l w hl
  rw [partsA_lab] at K
  rcases hV : readA (labF (vfS star)) (riS star) l with ⟨r, x0, e0⟩
  have FA := Lib.hid (readA_facts _ _ l (labF_le (vfS star) l (vfS_le star l)) r x0 e0 hV)
  have HL : Hid (e0 = 0 → r.length ≤ 6) := Lib.hid (fun e => readS_len star l r x0 (e ▸ hV))
  rw [hV] at K
  simp only at K
  have KK := Lib.hid K
  clear hV K
  obtain ⟨i0, hi0, hz0, hz1, hz2⟩ := info_parts info_L
  go_enter Try.func34, Try.ntmps34
  go_wp2_with fail
  refine KK.out.mono ?_
  rintro e w1 ⟨v, rfl, ho, hb⟩
  obtain ⟨A, cp, rfl, hm⟩ := own_slice ho
  have ST := Lib.hid (own_slat ho)
  have B1 := Lib.hid hb
  rw [List.length_map] at hm ⊢
  clear ho hb KK
  simp only
  by_cases he : e0 = 0
  · have hx0 := FA.out.2.2.2 he
    have h6 := HL.out he
    subst he hx0
    go_wp2
    go_loopw [10, 11] (fun v i wr => ∃ k : Nat, k ≤ r.length ∧ i = .int .i64 k ∧ wr.ownsRow w1.heap.size 41 2 v k (cellsL (r.take k)) ∧ Below w1.heap.size w1 wr) (fun _ i _ => r.length - (intOf i).toNat)
    case atStart => exact ⟨0, by omega, rfl, World.ownsRow_nil _ _ _ _, Below.refl _ _⟩
    case round =>
      obtain ⟨k, hk, rfl, hown, hbw⟩ := hrel
      obtain ⟨A2, c2, rfl, _⟩ := own_slice hown
      have Hown := Lib.hid hown
      have Hbw := Lib.hid hbw
      clear hown hbw
      by_cases hlt : k < r.length
      · obtain ⟨x, hxk⟩ : ∃ x, r[k]? = some x := ⟨r[k], List.getElem?_eq_getElem hlt⟩
        have hxk' : (r.map asT)[k]? = some (asT x) := by rw [List.getElem?_map, hxk]; rfl
        obtain ⟨b0, o0, hA, hb0, hx⟩ := SlAt.ter ST.out hxk'
        subst hA
        have hx0 : wr.cell? ⟨b0, o0 + k * 3, none⟩ = some (.int .i64 1) := (Hbw.out.cell (p := ⟨b0, o0 + k * 3, none⟩) hb0).trans hx.1
        have hx1 : wr.cell? ⟨b0, o0 + k * 3 + 1, none⟩ = some (strV x.1) := (Hbw.out.cell (p := ⟨b0, o0 + k * 3 + 1, none⟩) hb0).trans hx.2.1
        have hx2 : wr.cell? ⟨b0, o0 + k * 3 + 2, none⟩ = some (strV x.2) := (Hbw.out.cell (p := ⟨b0, o0 + k * 3 + 2, none⟩) hb0).trans hx.2.2
        have hne : some b0 ≠ (Value.slice A2 k c2).ownBlock := fun e => by have := own_ge' Hown.out e.symm; omega
        have hbr : b0 < wr.heap.size + 1 := by have := Hbw.out.size; omega
        have hrs : w1.heap.size ≤ wr.heap.size + 1 := by have := Hbw.out.size; omega
        have hk63 : k + 1 ≤ maxLen := by unfold maxLen at hm ⊢; omega
        have hk47 : (k + 1) * 32 ≤ 140737488355328 := by omega
        have htk : r.take (k + 1) = r.take k ++ [x] := by rw [List.take_add_one, hxk]; rfl
        have Htk := Lib.hid htk
        have k0 : (0 : Int) ≤ (k : Int) := by omega
        have k1 : (k : Int) < (r.length : Int) := by omega
        clear hx hxk hxk' htk
        go_wp2_with fail
        go_region_held3 (fun w' => w'.cell? ⟨b0, o0 + k * 3 + 1, none⟩ = some (strV x.1) ∧ w'.cell? ⟨b0, o0 + k * 3 + 2, none⟩ = some (strV x.2))
          (first
            | exact ⟨hx1, hx2⟩
            | go_keep
            | (go_split_ands
               refine ⟨?_, ?_⟩
               · (rw [hgrow'.cell_far _ (by simp; omega) hne]; assumption)
               · (rw [hgrow'.cell_far _ (by simp; omega) hne]; assumption)))
          ((refine step_append_lies _ (by rfl) _ _ _ (by rfl) w1.heap.size 41 i0 (.agg #[.string ⟨#[]⟩, .string ⟨#[]⟩]) 2 32 Try.underlying22 hi0 hz0 hz1 hz2 rfl (by decide) (.slice A2 k c2) k (cellsL (r.take k)) (by rfl) ((Hown.out.alloc _).drew)
              ⟨wr.heap.size, 0, none⟩ 1 1 [strV x.1, strV x.2] (by rfl) (by rfl) (World.news_of_block (cs := #[strV x.1, strV x.2]) (t := 41) (fr := (0, 0)) (heap_alloc_new wr _)) (by simp [Value.oneCell'])
              (by omega) hk63 hk47 (by simp; omega) (wr.heap.size + 1) (by simp) ?_; intro gg cap w4 hown' hgrow' hat hlt4))
        have Own4 := Lib.hid hown'
        have B4 := Lib.hid (((belowN Hbw.out _).alloc Hbw.out.size (.cells #[strV x.1, strV x.2] 41)).grown hgrow' (by have := Hbw.out.size; simp at this ⊢; omega) (fun k hk => own_ge' (Hown.out) hk))
        clear hown' hgrow'
        go_wp2
        go_roundw
        case rel => exact ⟨k + 1, by omega, by go_num, by rw [Htk.out]; simpa [cellsL_snoc] using Own4.out, B4.out⟩
        case measure => simp [intOf]; omega
      · obtain rfl : k = r.length := by omega
        go_wp2
        go_ret3
        refine ⟨_, rfl, ?_, B1.out.trans (Hbw.out.mono B1.out.size)⟩
        have h := Hown.out
        rw [List.take_length] at h
        exact World.ownsRow.mono h B1.out.size
  · have hr := FA.out.2.2.1 he
    have heb : (e0 != 0) = true := by simpa using he
    have He := Lib.hid he
    subst hr
    clear he
    go_wp2
    go_ret3
    exact ⟨_, rfl, World.ownsRow_nil _ _ _ _, B1.out⟩

theorem refL_any (l : List UInt8) (w : World) (hl : l.length ≤ 300) : Calls Try.prog 9 #[strV l] w (ListedL w (readA (labF valF) keyR l)) := by
  have K := Lib.hid (refLabels_any false l w hl)
  have e1 : vfS false = valF := by simp [vfS]
  have e2 : riS false = keyR := by simp [riS]
  rw [e1, e2] at K
  rcases hV : readA (labF valF) keyR l with ⟨res, x0, e0⟩
  rw [hV] at K
  clear hV e1 e2
  go_enter Try.func9, Try.ntmps9
  go_wp2_with fail
  refine K.out.mono ?_
  rintro e w1 ⟨v, rfl, ho, hb⟩
  have Ho := Lib.hid ho
  have Hb := Lib.hid hb
  clear ho hb K
  go_wp2
  go_ret3
  exact ⟨_, rfl, Ho.out, Hb.out⟩

theorem refB_any (l : List UInt8) (w : World) (hl : l.length ≤ 300) : Calls Try.prog 11 #[strV l] w (ListedL w (readA (labF anyF) pairR l)) := by
  have K := Lib.hid (refLabels_any true l w hl)
  have e1 : vfS true = anyF := by simp [vfS]
  have e2 : riS true = pairR := by simp [riS]
  rw [e1, e2] at K
  rcases hV : readA (labF anyF) pairR l with ⟨res, x0, e0⟩
  rw [hV] at K
  clear hV e1 e2
  go_enter Try.func11, Try.ntmps11
  go_wp2_with fail
  refine K.out.mono ?_
  rintro e w1 ⟨v, rfl, ho, hb⟩
  have Ho := Lib.hid ho
  have Hb := Lib.hid hb
  clear ho hb K
  go_wp2
  go_ret3
  exact ⟨_, rfl, Ho.out, Hb.out⟩

theorem refT_any (l : List UInt8) (w : World) (hl : l.length ≤ 300) : Calls Try.prog 13 #[strV l] w (ListedT w (readA terF anyR l)) := by
  have K := Lib.hid (parts_any false false l w hl)
  rw [partsA_ter] at K
  rcases hV : readA terF anyR l with ⟨res, x0, e0⟩
  rw [hV] at K
  clear hV
  go_enter Try.func13, Try.ntmps13
  go_wp2_with fail
  refine K.out.mono ?_
  rintro e w1 ⟨v, rfl, ho, hb⟩
  have Ho := Lib.hid ho
  have Hb := Lib.hid hb
  clear ho hb K
  go_wp2
  go_ret3
  exact ⟨_, rfl, Ho.out, Hb.out⟩

end Go.Proofs.Ytepmmcalnkchdaa
