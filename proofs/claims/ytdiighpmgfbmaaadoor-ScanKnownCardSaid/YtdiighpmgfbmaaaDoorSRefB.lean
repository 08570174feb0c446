/- The document's plain: a contract. Condition: the tables of UTF-8 lie as they were laid. -/
import Derived.Test.YtdiighpmgfbmaaaDoorSRefA
namespace Go.Proofs.YtdiighpmgfbmaaaDoor
open Go.RowKit

def kdI (m : Bool) : Int := if m = true then 1 else 2
theorem goes_any (m : Bool) (c : Int) (w : World) : Calls Tryd.prog 63 #[.int .i64 c, .int .i64 (kdI m)] w fun e w' => e = .returned (.bool (goI m c)) ∧ w = w' := by
  cases m
  · exact goes2_any c w
  · exact goes1_any c w

set_option maxRecDepth 100000 in
set_option maxHeartbeats 4000000 in
theorem plain_any (m : Bool) (b p0 : Nat) (l : List UInt8) (s : RS) (w : World) (hl : l.length ≤ 1000) (hm : s.mode = wmode m) (ht : s.text = []) (h0 : OnW l p0 s p0 s) (h : RfAt w b l p0 s.line s.col) (hT : ∀ w', w.grownBy w' (some b) → Utab w') :
    Calls Tryd.prog 50 #[.pointer (some ⟨b, 0, none⟩), .int .i64 (kdI m)] w fun e w' => ∃ p t, OnW l p0 s p t ∧ t.text = (l.drop p0).take (p - p0) ∧ RfAt w' b l p t.line t.col ∧ w.grownBy w' (some b) ∧ goI m (runeF l p).1 = false ∧ e = .returned (.tuple #[strV t.text, .bool (enI (runeF l p).1)]) := by
  have hbl := Blk.lt h
  have c1 : w.cell? ⟨b, 1, none⟩ = some (.int .i64 (p0 : Int)) := Blk.cell h 1
  have KR := Lib.hid (rune_any b l p0 s.line s.col w (by omega) h (hT w (World.grownBy.refl _ _)))
  have H := Lib.hid h
  have HT := Lib.hid hT
  have H0 := Lib.hid h0
  have HTx := Lib.hid ht
  have hp0 := h0.here
  generalize hkk : kdI m = kk
  have HKK := Lib.hid hkk
  clear h hT h0 ht hkk
  go_enter Tryd.func50, Tryd.ntmps50
  go_wp2_with fail
  refine KR.out.mono ?_
  rintro e w1 ⟨rfl, hb1⟩
  have HB1 := Lib.hid (grown_of_below hb1 (some b))
  have HR1 := Lib.hid (Blk.below (show Blk w _ _ _ from H.out) hb1 hbl)
  clear hb1 KR
  go_wp2_with fail
  go_loopw [7] (fun v wr => ∃ p t, v = .int .i64 (runeF l p).1 ∧ OnW l p0 s p t ∧ t.text = (l.drop p0).take (p - p0) ∧ RfAt wr b l p t.line t.col ∧ w.grownBy wr (some b)) (fun _ wr => l.length - (intOf ((wr.cell? ⟨b, 1, none⟩).getD (.int .i64 0))).toNat)
  case atStart => exact ⟨p0, s, rfl, H0.out, by rw [HTx.out, Nat.sub_self]; rfl, HR1.out, HB1.out⟩
  case round =>
    obtain ⟨p, t, rfl, hw, htx, hrf, hg⟩ := hrel
    have KG := Lib.hid (fun w => goes_any m (runeF l p).1 w)
    have hbr := Blk.lt hrf
    have HW := Lib.hid hw
    have HX := Lib.hid htx
    have HF := Lib.hid hrf
    have HG := Lib.hid hg
    have hph := hw.here
    have hpl := hw.line
    have hpc := hw.col
    have hp0p := hw.le
    clear hw htx hrf hg
    rw [HKK.out] at KG
    cases hgo : goI m (runeF l p).1
    · -- the end
      rw [hgo] at KG
      have HGo := Lib.hid hgo
      have a0 : wr.cell? ⟨b, 0, none⟩ = some (strV l) := Blk.cell HF.out 0
      have a1 : wr.cell? ⟨b, 1, none⟩ = some (.int .i64 (p : Int)) := Blk.cell HF.out 1
      have n0 : (0 : Int) ≤ (p0 : Int) := by omega
      have n1 : (p0 : Int) ≤ (p : Int) := by omega
      have n2 : (p : Int) ≤ (l.length : Int) := by omega
      clear hgo
      go_wp2_with (first | ((with_reducible refine (KG.out _).mono ?_); rintro e w9 ⟨rfl, rfl⟩) | ((with_reducible refine (ends_any _ _).mono ?_); rintro e w9 ⟨rfl, rfl⟩))
      go_region_held3 (fun w' => w'.cell? ⟨b, 0, none⟩ = some (strV l) ∧ w'.cell? ⟨b, 1, none⟩ = some (.int .i64 (p : Int)))
        (first | exact ⟨a0, a1⟩ | exact ⟨by assumption, by assumption⟩ | go_keep)
        (first | ((with_reducible refine (ends_any _ _).mono ?_); rintro e w3 ⟨rfl, rfl⟩))
      all_goals
        go_wp2_with fail
        go_ret2
        refine ⟨p, t, HW.out, HX.out, Blk.drew HF.out, grown_drew HG.out, HGo.out, ?_⟩
        rw [cut_mid, HX.out]
        rfl
    · -- on
      have hlow := go_low m _ hgo
      have hp : p < l.length := by
        rcases Nat.lt_or_ge p l.length with h | h
        · exact h
        · rw [rune_end l p (by omega)] at hlow
          omega
      obtain ⟨c, n, hd⟩ : ∃ c n, Utf8.decode ⟨l.toArray⟩ p = (c, n) := ⟨_, _, rfl⟩
      have hr1 : (runeF l p).1 = (c : Int) := by rw [rune_at l p hp, hd]
      rw [hgo] at KG
      rw [hr1] at KG hgo ⊢
      obtain ⟨st1, st2⟩ := plain_step m HW.out hm HX.out hp hd hgo
      have KO := on_any b l p t.line t.col wr (by omega) (by omega) (by omega) hp HF.out (HT.out _ HG.out)
      rw [hd] at KO
      simp only at KO
      have hpn := st1.here
      have hpw := Lib.decode_width_pos ⟨l.toArray⟩ p hp
      rw [hd] at hpw
      simp only at hpw
      generalize ht2 : advF (addF t (c : Int)) c = t2 at st1 st2
      have KO2 : Hid (Calls Tryd.prog 44 #[.pointer (some ⟨b, 0, none⟩)] wr fun e w' => e = .returned (.tuple #[]) ∧ RfAt w' b l (p + n) t2.line t2.col ∧ wr.grownBy w' (some b)) := Lib.hid (by rw [← ht2]; exact KO)
      have C1 : Hid (wr.cell? ⟨b, 1, none⟩ = some (.int .i64 (p : Int))) := Blk.cell HF.out 1
      obtain ⟨p2, hp2⟩ : ∃ q, p + n = q := ⟨_, rfl⟩
      rw [hp2] at KO2 st1 st2 hpn
      have S1 := Lib.hid st1
      have S2 := Lib.hid st2
      have hl2 := st1.line
      have hc2 := st1.col
      have HP2 : Hid (p < p2) := Lib.hid (by omega)
      clear hp2 KO st1 st2 hgo hd hr1 ht2
      go_wp2_with ((with_reducible refine (KG.out _).mono ?_); rintro e w9 ⟨rfl, rfl⟩)
      refine KO2.out.mono ?_
      rintro e w3 ⟨rfl, hr3, hg3⟩
      have G3 := Lib.hid (grown_trans HG.out hg3)
      have R3 := Lib.hid hr3
      have hb3 := Blk.lt hr3
      have KR3 := Lib.hid (rune_any b l p2 t2.line t2.col w3 (by omega) hr3 (HT.out _ G3.out))
      clear hr3 hg3 KO2
      go_wp2_with fail
      refine KR3.out.mono ?_
      rintro e w4 ⟨rfl, hb4⟩
      have G4 := Lib.hid (grown_below G3.out hb4)
      have R4 := Lib.hid (Blk.below (show Blk w3 _ _ _ from R3.out) hb4 hb3)
      clear hb4 KR3
      have C4 : Hid (w4.cell? ⟨b, 1, none⟩ = some (.int .i64 (p2 : Int))) := Blk.cell R4.out 1
      go_wp2_with fail
      go_roundw
      case rel => exact ⟨p2, t2, rfl, S1.out, S2.out, R4.out, G4.out⟩
      case measure =>
        have := HP2.out
        simp only [C1.out, C4.out, Option.getD_some, intOf]
        omega
end Go.Proofs.YtdiighpmgfbmaaaDoor
