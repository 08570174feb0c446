/- What the document's Quote answers. Condition: the tables of UTF-8 lie as they were laid. -/
import Derived.Test.YtdiighpmgfbmaaaDoorSRefQ
import Derived.Lib.QuoteLoop
namespace Go.Proofs.YtdiighpmgfbmaaaDoor
open Go.RowKit

/-- What the document puts for a rune. -/
def escR (l : List UInt8) (pos n c : Nat) : List UInt8 := if c = 34 then [92, 34] else if c = 92 then [92, 92] else if c = 10 then [92, 110] else (l.drop pos).take n
/-- Rune by rune. -/
def rquF (l : List UInt8) : Nat → Nat → List UInt8 → List UInt8 × Int
  | 0, _, _ => ([], 4)
  | f + 1, pos, acc =>
    if pos < l.length then
      if ((Utf8.decode ⟨l.toArray⟩ pos).1 = 65533 ∧ (Utf8.decode ⟨l.toArray⟩ pos).2 ≤ 1) ∨ ((Utf8.decode ⟨l.toArray⟩ pos).1 < 32 ∧ (Utf8.decode ⟨l.toArray⟩ pos).1 ≠ 10) then ([], 4)
      else rquF l f (pos + (Utf8.decode ⟨l.toArray⟩ pos).2) (acc ++ escR l pos (Utf8.decode ⟨l.toArray⟩ pos).2 (Utf8.decode ⟨l.toArray⟩ pos).1)
    else (acc ++ [34], 0)

theorem strEqR {a b : ByteArray} (h : a = b) : Value.string a = .string b := by rw [h]
theorem join_baR (a b : List UInt8) : (⟨a.toArray⟩ : ByteArray) ++ (⟨b.toArray⟩ : ByteArray) = ⟨(a ++ b).toArray⟩ := by
  apply ByteArray.ext
  simp [ByteArray.data_append]
theorem cut_mid (l : List UInt8) (a b : Nat) : (⟨l.toArray⟩ : ByteArray).extract a b = ⟨((l.drop a).take (b - a)).toArray⟩ := by
  apply ByteArray.ext
  apply Array.toList_inj.1
  simp
theorem dec_in (l : List UInt8) (a : Nat) (ha : a < l.length) : a + (Utf8.decode ⟨l.toArray⟩ a).2 ≤ l.length := by
  have h := Lib.width_le ⟨(l.drop a).toArray⟩ (by
    show 0 < (l.drop a).toArray.size
    simp
    omega)
  rw [show Utf8.decode ⟨(l.drop a).toArray⟩ 0 = Utf8.decode ⟨l.toArray⟩ a from Lib.decodeL_drop ⟨l.toArray⟩ a] at h
  have h2 : (⟨(l.drop a).toArray⟩ : ByteArray).size = l.length - a := by
    show (l.drop a).toArray.size = _
    simp
  omega

set_option maxRecDepth 100000 in
set_option maxHeartbeats 4000000 in
theorem rquote_any (l : List UInt8) (w : World) (hl : l.length ≤ 1000) (hT : Utab w) :
    Calls Tryd.prog 26 #[strV l] w fun e w' => e = .returned (.tuple #[strV (rquF l (l.length + 1) 0 [34]).1, .int .i64 (rquF l (l.length + 1) 0 [34]).2]) ∧ Below w.heap.size w w' := by
  obtain ⟨Q, hQ⟩ : ∃ Q, rquF l (l.length + 1) 0 [34] = Q := ⟨_, rfl⟩
  rw [hQ]
  have HQ := Lib.hid hQ
  have HT := Lib.hid hT
  clear hQ hT
  go_enter Tryd.func26, Tryd.ntmps26
  go_wp2_with fail
  go_loopw [4] (fun v wr => ∃ (pos : Nat) (acc : List UInt8) (f ln cl : Nat), v = strV acc ∧ RfAt wr w.heap.size l pos ln cl ∧ Below w.heap.size w wr ∧ acc.length ≤ 4 * pos + 1 ∧ pos ≤ l.length ∧ ln ≤ pos + 1 ∧ cl ≤ pos + 1 ∧ 1 ≤ f ∧ l.length < pos + f ∧ rquF l f pos acc = Q) (fun _ wr => l.length - (intOf ((wr.cell? ⟨w.heap.size, 1, none⟩).getD (.int .i64 0))).toNat)
  case atStart => exact ⟨0, [34], l.length + 1, 1, 1, rfl, Blk.new w _ _, below1 w _, by simp, by omega, by omega, by omega, by omega, by omega, HQ.out⟩
  case round =>
    obtain ⟨pos, acc, f, ln, cl, rfl, hrf, hbw, hal, hpl, hln, hcl, hf1, hf, hF⟩ := hrel
    obtain ⟨f, rfl⟩ : ∃ g, f = g + 1 := ⟨f - 1, by omega⟩
    have hsz := Blk.lt hrf
    have c1 : wr.cell? ⟨w.heap.size, 1, none⟩ = some (.int .i64 (pos : Int)) := Blk.cell hrf 1
    have C1 := Lib.hid c1
    have HRf := Lib.hid hrf
    have HBw := Lib.hid hbw
    have KR := rune_any w.heap.size l pos ln cl wr (by omega) hrf (HT.out.below hbw)
    rw [rquF] at hF
    clear hrf hbw c1
    by_cases hp : pos < l.length
    · rw [if_pos hp] at hF
      have KO := Lib.hid (fun w' (h : RfAt w' w.heap.size l pos ln cl) (hT : Utab w') => on_any w.heap.size l pos ln cl w' (by omega) (by omega) (by omega) hp h hT)
      have hrune : runeF l pos = (((Utf8.decode ⟨l.toArray⟩ pos).1 : Int), !decide ((Utf8.decode ⟨l.toArray⟩ pos).1 = 65533) || decide (1 < (Utf8.decode ⟨l.toArray⟩ pos).2)) := by unfold runeF; rw [if_pos hp]
      rw [hrune] at KR
      have hp' : pos < (⟨l.toArray⟩ : ByteArray).size := hp
      have hd1 := decode_le ⟨l.toArray⟩ pos
      have hd2 := Lib.decode_width_pos ⟨l.toArray⟩ pos hp'
      have hd3 := decode_le4 ⟨l.toArray⟩ pos
      have hd4 := dec_in l pos hp
      generalize Utf8.decode ⟨l.toArray⟩ pos = q at KR KO hd1 hd2 hd3 hd4 hF
      obtain ⟨c, n⟩ := q
      simp only at KR KO hd1 hd2 hd3 hd4 hF
      have HP := Lib.hid hp
      clear hp hp' hrune
      have hc0 : ¬ ((c : Int) < 0) := by omega
      by_cases hA : c = 65533 ∧ n ≤ 1
      · rw [if_pos (Or.inl hA)] at hF
        subst hF
        have his : (!decide (c = 65533) || decide (1 < n)) = false := by simp; omega
        rw [his] at KR
        replace KR := Lib.hid KR
        clear hA his KO
        go_wp2_with fail
        refine KR.out.mono ?_
        rintro e w3 ⟨rfl, hb3⟩
        have HB3 := Lib.hid (HBw.out.trans (hb3.mono HBw.out.size))
        clear hb3 KR
        go_wp2
        go_ret2
        exact ⟨rfl, HB3.out⟩
      have his : (!decide (c = 65533) || decide (1 < n)) = true := by simp; omega
      rw [his] at KR
      replace KR := Lib.hid KR
      clear his
      by_cases hB : c < 32 ∧ c ≠ 10
      · rw [if_pos (Or.inr hB)] at hF
        subst hF
        have q32 : (c : Int) < 32 := by omega
        have q10 : ((c : Int) != 10) = true := by simp; omega
        clear hB hA KO
        go_wp2_with fail
        refine KR.out.mono ?_
        rintro e w3 ⟨rfl, hb3⟩
        have HB3 := Lib.hid (HBw.out.trans (hb3.mono HBw.out.size))
        clear hb3 KR
        go_wp2
        go_ret2
        exact ⟨rfl, HB3.out⟩
      rw [if_neg (by omega)] at hF
      have HF := Lib.hid hF
      clear hF hA
      obtain ⟨p2, hp2⟩ : ∃ p, pos + n = p := ⟨_, rfl⟩
      rw [hp2] at KO HF hd4
      have n1 : (0 : Int) ≤ (pos : Int) := by omega
      have n2 : (pos : Int) ≤ (p2 : Int) := by omega
      have n3 : (p2 : Int) ≤ (l.length : Int) := by omega
      have hp3 : pos < p2 := by omega
      have hp4 : p2 ≤ pos + 4 := by omega
      have HN := Lib.hid hp2
      clear hp2
      by_cases h34 : c = 34
      · -- 34
        have q34 : ((c : Int) == 34) = true := by simp; omega
        have q32 : ¬ (c : Int) < 32 := by omega
        have HE : Hid (escR l pos n c = [92, 34]) := Lib.hid (by unfold escR; rw [if_pos h34])
        clear h34 hB
        go_wp2_with fail
        refine KR.out.mono ?_
        rintro e w3 ⟨rfl, hb3⟩
        have HB3 := Lib.hid (HBw.out.trans (hb3.mono HBw.out.size))
        have HR3 := Lib.hid (Blk.below (show Blk wr _ _ _ from HRf.out) hb3 hsz)
        have hs3 := Blk.lt HR3.out
        have c3 : w3.cell? ⟨w.heap.size, 1, none⟩ = some (.int .i64 (pos : Int)) := Blk.cell HR3.out 1
        have KO3 := Lib.hid (KO.out w3 HR3.out (HT.out.below HB3.out))
        clear hb3 KR
        go_wp2_with fail
        refine KO3.out.mono ?_
        rintro e w4 ⟨rfl, hr4, hg4⟩
        have HB4 := Lib.hid (HB3.out.grown hg4 (Nat.le_of_lt hs3) (fun k hk => by cases hk; exact Nat.le_refl _))
        have hs4 := Blk.lt hr4
        have c4 : w4.cell? ⟨w.heap.size, 1, none⟩ = some (.int .i64 (p2 : Int)) := Blk.cell hr4 1
        have C4 := Lib.hid c4
        have HR4 := Lib.hid hr4
        clear hr4 hg4 c3 KO3
        go_wp2_with fail
        go_roundw
        case rel =>
          refine ⟨p2, acc ++ [92, 34], f, _, _, strEqR ?_, HR4.out, HB4.out, ?_, ?_, ?_, ?_, ?_, ?_, ?_⟩
          · first
              | exact join_baR _ _
              | (rw [cut_mid]; exact join_baR _ _)
          · simp; omega
          · omega
          · have := HP.out; have := HN.out; first | omega | (split <;> omega)
          · have := HP.out; have := HN.out; first | omega | (split <;> omega)
          · omega
          · omega
          · rw [← HF.out]
            exact congrArg _ (congrArg _ HE.out.symm)
        case measure =>
          simp only [C1.out, C4.out, Option.getD_some, intOf]
          omega
      by_cases h92 : c = 92
      · -- 92
        have q34 : ((c : Int) == 34) = false := by simp; omega
        have q92 : ((c : Int) == 92) = true := by simp; omega
        have q32 : ¬ (c : Int) < 32 := by omega
        have HE : Hid (escR l pos n c = [92, 92]) := Lib.hid (by unfold escR; rw [if_neg h34, if_pos h92])
        clear h34 h92 hB
        go_wp2_with fail
        refine KR.out.mono ?_
        rintro e w3 ⟨rfl, hb3⟩
        have HB3 := Lib.hid (HBw.out.trans (hb3.mono HBw.out.size))
        have HR3 := Lib.hid (Blk.below (show Blk wr _ _ _ from HRf.out) hb3 hsz)
        have hs3 := Blk.lt HR3.out
        have c3 : w3.cell? ⟨w.heap.size, 1, none⟩ = some (.int .i64 (pos : Int)) := Blk.cell HR3.out 1
        have KO3 := Lib.hid (KO.out w3 HR3.out (HT.out.below HB3.out))
        clear hb3 KR
        go_wp2_with fail
        refine KO3.out.mono ?_
        rintro e w4 ⟨rfl, hr4, hg4⟩
        have HB4 := Lib.hid (HB3.out.grown hg4 (Nat.le_of_lt hs3) (fun k hk => by cases hk; exact Nat.le_refl _))
        have hs4 := Blk.lt hr4
        have c4 : w4.cell? ⟨w.heap.size, 1, none⟩ = some (.int .i64 (p2 : Int)) := Blk.cell hr4 1
        have C4 := Lib.hid c4
        have HR4 := Lib.hid hr4
        clear hr4 hg4 c3 KO3
        go_wp2_with fail
        go_roundw
        case rel =>
          refine ⟨p2, acc ++ [92, 92], f, _, _, strEqR ?_, HR4.out, HB4.out, ?_, ?_, ?_, ?_, ?_, ?_, ?_⟩
          · first
              | exact join_baR _ _
              | (rw [cut_mid]; exact join_baR _ _)
          · simp; omega
          · omega
          · have := HP.out; have := HN.out; first | omega | (split <;> omega)
          · have := HP.out; have := HN.out; first | omega | (split <;> omega)
          · omega
          · omega
          · rw [← HF.out]
            exact congrArg _ (congrArg _ HE.out.symm)
        case measure =>
          simp only [C1.out, C4.out, Option.getD_some, intOf]
          omega
      by_cases h10 : c = 10
      · -- 10
        have q34 : ((c : Int) == 34) = false := by simp; omega
        have q92 : ((c : Int) == 92) = false := by simp; omega
        have q10 : ((c : Int) == 10) = true := by simp; omega
        have q10' : ((c : Int) != 10) = false := by simp; omega
        have q32 : (c : Int) < 32 := by omega
        have HE : Hid (escR l pos n c = [92, 110]) := Lib.hid (by unfold escR; rw [if_neg h34, if_neg h92, if_pos h10])
        clear h34 h92 h10 hB
        go_wp2_with fail
        refine KR.out.mono ?_
        rintro e w3 ⟨rfl, hb3⟩
        have HB3 := Lib.hid (HBw.out.trans (hb3.mono HBw.out.size))
        have HR3 := Lib.hid (Blk.below (show Blk wr _ _ _ from HRf.out) hb3 hsz)
        have hs3 := Blk.lt HR3.out
        have c3 : w3.cell? ⟨w.heap.size, 1, none⟩ = some (.int .i64 (pos : Int)) := Blk.cell HR3.out 1
        have KO3 := Lib.hid (KO.out w3 HR3.out (HT.out.below HB3.out))
        clear hb3 KR
        go_wp2_with fail
        refine KO3.out.mono ?_
        rintro e w4 ⟨rfl, hr4, hg4⟩
        have HB4 := Lib.hid (HB3.out.grown hg4 (Nat.le_of_lt hs3) (fun k hk => by cases hk; exact Nat.le_refl _))
        have hs4 := Blk.lt hr4
        have c4 : w4.cell? ⟨w.heap.size, 1, none⟩ = some (.int .i64 (p2 : Int)) := Blk.cell hr4 1
        have C4 := Lib.hid c4
        have HR4 := Lib.hid hr4
        clear hr4 hg4 c3 KO3
        go_wp2_with fail
        go_roundw
        case rel =>
          refine ⟨p2, acc ++ [92, 110], f, _, _, strEqR ?_, HR4.out, HB4.out, ?_, ?_, ?_, ?_, ?_, ?_, ?_⟩
          · first
              | exact join_baR _ _
              | (rw [cut_mid]; exact join_baR _ _)
          · simp; omega
          · omega
          · have := HP.out; have := HN.out; first | omega | (split <;> omega)
          · have := HP.out; have := HN.out; first | omega | (split <;> omega)
          · omega
          · omega
          · rw [← HF.out]
            exact congrArg _ (congrArg _ HE.out.symm)
        case measure =>
          simp only [C1.out, C4.out, Option.getD_some, intOf]
          omega
      · -- else
        have q34 : ((c : Int) == 34) = false := by simp; omega
        have q92 : ((c : Int) == 92) = false := by simp; omega
        have q10 : ((c : Int) == 10) = false := by simp; omega
        have q32 : ¬ (c : Int) < 32 := by omega
        have HE : Hid (escR l pos n c = (l.drop pos).take (p2 - pos)) := Lib.hid (by unfold escR; rw [if_neg h34, if_neg h92, if_neg h10, ← HN.out, Nat.add_sub_cancel_left])
        clear h34 h92 h10 hB
        go_wp2_with fail
        refine KR.out.mono ?_
        rintro e w3 ⟨rfl, hb3⟩
        have HB3 := Lib.hid (HBw.out.trans (hb3.mono HBw.out.size))
        have HR3 := Lib.hid (Blk.below (show Blk wr _ _ _ from HRf.out) hb3 hsz)
        have hs3 := Blk.lt HR3.out
        have c3 : w3.cell? ⟨w.heap.size, 1, none⟩ = some (.int .i64 (pos : Int)) := Blk.cell HR3.out 1
        have KO3 := Lib.hid (KO.out w3 HR3.out (HT.out.below HB3.out))
        clear hb3 KR
        go_wp2_with fail
        refine KO3.out.mono ?_
        rintro e w4 ⟨rfl, hr4, hg4⟩
        have HB4 := Lib.hid (HB3.out.grown hg4 (Nat.le_of_lt hs3) (fun k hk => by cases hk; exact Nat.le_refl _))
        have hs4 := Blk.lt hr4
        have c4 : w4.cell? ⟨w.heap.size, 1, none⟩ = some (.int .i64 (p2 : Int)) := Blk.cell hr4 1
        have C4 := Lib.hid c4
        have HR4 := Lib.hid hr4
        clear hr4 hg4 c3 KO3
        go_wp2_with fail
        go_roundw
        case rel =>
          refine ⟨p2, acc ++ (l.drop pos).take (p2 - pos), f, _, _, strEqR ?_, HR4.out, HB4.out, ?_, ?_, ?_, ?_, ?_, ?_, ?_⟩
          · first
              | exact join_baR _ _
              | (rw [cut_mid]; exact join_baR _ _)
          · simp; omega
          · omega
          · have := HP.out; have := HN.out; first | omega | (split <;> omega)
          · have := HP.out; have := HN.out; first | omega | (split <;> omega)
          · omega
          · omega
          · rw [← HF.out]
            exact congrArg _ (congrArg _ HE.out.symm)
        case measure =>
          simp only [C1.out, C4.out, Option.getD_some, intOf]
          omega
    · rw [if_neg hp] at hF
      subst hF
      have hrune : runeF l pos = (-1, true) := by unfold runeF; rw [if_neg hp]
      rw [hrune] at KR
      replace KR := Lib.hid KR
      clear hp hrune
      go_wp2_with fail
      refine KR.out.mono ?_
      rintro e w3 ⟨rfl, hb3⟩
      have HB3 := Lib.hid (HBw.out.trans (hb3.mono HBw.out.size))
      clear hb3 KR
      go_wp2
      go_ret2
      refine ⟨?_, HB3.out⟩
      simp [strV, join_baR]
end Go.Proofs.YtdiighpmgfbmaaaDoor
