/- The document's skip: a contract. Condition: the tables of UTF-8 lie as they were laid. -/
import Derived.Test.YtdiighpmgfbmaaaDoorSRefC
namespace Go.Proofs.YtdiighpmgfbmaaaDoor
open Go.RowKit

theorem step_btw (t : RS) (c : Nat) (h : t.mode = .btw) : stepF t c = betF t c := by
  unfold stepF
  rw [h]
theorem step_com (t : RS) (c : Nat) (h : t.mode = .com) : stepF t c = comF t c := by
  unfold stepF
  rw [h]
theorem step_blank (t : RS) (c : Nat) (h : t.mode = .btw) (hc : c = 32 ∨ c = 9 ∨ c = 10) : stepF t c = (t, 0) := by
  rw [step_btw t c h]
  unfold betF blB
  rw [if_pos (by
    rcases hc with rfl | rfl | rfl
    · exact .inr rfl
    · exact .inr rfl
    · exact .inl rfl)]
theorem com_in (l : List UInt8) (p n : Nat) (t : RS) (h : t.mode = .btw) (hp : p < l.length) (hd : Utf8.decode ⟨l.toArray⟩ p = (35, n)) : road l p t = road l p { t with mode := .com } := by
  refine road_swap l p _ _ ?_ rfl rfl
  unfold nextC
  rw [if_pos hp, hd]
  simp only
  rw [step_btw t 35 h, step_com _ 35 rfl]
  rfl
theorem com_out (l : List UInt8) (p : Nat) (t : RS) (h : t.mode = .com) (hc : (runeF l p).1 < 0 ∨ (runeF l p).1 = 10) : road l p t = road l p { t with mode := .btw } := by
  refine road_swap l p _ _ ?_ rfl rfl
  have hn : nextC l p = 10 := by
    unfold nextC
    by_cases hp : p < l.length
    · rw [if_pos hp]
      rw [rune_at l p hp] at hc
      simp only at hc
      omega
    · rw [if_neg hp]
  rw [hn, step_com t 10 h, step_btw _ 10 rfl]
  rfl
theorem com_step (t : RS) (c : Nat) (h : t.mode = .com) (hc : c ≠ 10) : stepF t c = (t, 0) := by
  rw [step_com t c h]
  unfold comF
  rw [if_neg hc]

theorem RfAt.c1 {w : World} {b : Nat} {l : List UInt8} {a ln cl : Nat} (h : RfAt w b l a ln cl) : w.cell? ⟨b, 1, none⟩ = some (.int .i64 (a : Int)) := Blk.cell h 1
/-- What skip leaves. -/
def SkR (l : List UInt8) (p0 : Nat) (s : RS) (w : World) (b : Nat) (e : Ending) (w' : World) : Prop :=
  ∃ p t, p0 ≤ p ∧ p ≤ l.length ∧ t.line ≤ p + 1 ∧ t.col ≤ p + 1 ∧ RfAt w' b l p t.line t.col ∧ w.grownBy w' (some b) ∧
    ((e = .returned (.bool true) ∧ t.mode = .btw ∧ t.words = s.words ∧ road l p0 s = road l p t ∧ (runeF l p).1 ≠ 35 ∧ (runeF l p).1 ≠ 32 ∧ (runeF l p).1 ≠ 9 ∧ (runeF l p).1 ≠ 10) ∨
     (e = .returned (.bool false) ∧ road l p0 s = ([], t.line, t.col, 4)))

set_option maxRecDepth 100000 in
set_option maxHeartbeats 8000000 in
theorem skip_any (b p0 : Nat) (l : List UInt8) (s : RS) (w : World) (hl : l.length ≤ 1000) (hm : s.mode = .btw) (h0 : OnW l p0 s p0 s) (h : RfAt w b l p0 s.line s.col) (hT : ∀ w', w.grownBy w' (some b) → Utab w') :
    Calls Tryd.prog 20 #[.pointer (some ⟨b, 0, none⟩)] w (SkR l p0 s w b) := by
  have H := Lib.hid h
  have HT := Lib.hid hT
  have H0 := Lib.hid h0
  clear h hT h0
  go_enter Tryd.func20, Tryd.ntmps20
  go_wp2_with fail
  go_loopw [] (fun wr => ∃ p t, OnW l p0 s p t ∧ RfAt wr b l p t.line t.col ∧ w.grownBy wr (some b)) (fun wr => l.length - (intOf ((wr.cell? ⟨b, 1, none⟩).getD (.int .i64 0))).toNat)
  case atStart => exact ⟨p0, s, H0.out, H.out, World.grownBy.refl _ _⟩
  case round =>
    obtain ⟨p, t, hw, hrf, hg⟩ := hrel
    have hbr := Blk.lt hrf
    have HMt : Hid (t.mode = .btw) := Lib.hid (hw.mode.trans hm)
    have HW := Lib.hid hw
    have HF := Lib.hid hrf
    have HG := Lib.hid hg
    have hph := hw.here
    have hpl := hw.line
    have hpc := hw.col
    have hp0p := hw.le
    have KR := rune_any b l p t.line t.col wr (by omega) hrf (HT.out _ hg)
    have C1 : Hid (wr.cell? ⟨b, 1, none⟩ = some (.int .i64 (p : Int))) := Blk.cell hrf 1
    clear hw hrf hg
    by_cases hp : p < l.length
    · obtain ⟨c, n, hd⟩ : ∃ c n, Utf8.decode ⟨l.toArray⟩ p = (c, n) := ⟨_, _, rfl⟩
      have hrr := rune_at l p hp
      rw [hd] at hrr
      simp only at hrr
      have KO := Lib.hid (fun w' (h : RfAt w' b l p t.line t.col) (hT : Utab w') => on_any b l p t.line t.col w' (by omega) (by omega) (by omega) hp h hT)
      have hpw := Lib.decode_width_pos ⟨l.toArray⟩ p hp
      have hpi := dec_in l p hp
      have hdl := decode_le ⟨l.toArray⟩ p
      rw [hd] at KO hpw hpi hdl
      simp only at KO hpw hpi hdl
      have HD := Lib.hid hd
      by_cases h35 : c = 35
      · subst h35
        have hr : runeF l p = (35, true) := by rw [hrr]; rfl
        have hrc : road l p0 s = road l p { t with mode := .com } := by rw [HW.out.road]; exact com_in l p n t HMt.out hp HD.out
        have HRo := Lib.hid hrc
        have HR1 := Lib.hid hr
        rw [hr] at KR
        clear hd hrr KO hr hrc
        replace KR := Lib.hid KR
        go_wp2_with fail
        refine KR.out.mono ?_
        rintro e w3 ⟨rfl, hb3⟩
        have G3 := Lib.hid (grown_below HG.out hb3)
        have R3 := Lib.hid (Blk.below (show Blk wr _ _ _ from HF.out) hb3 hbr)
        have hb3s := Blk.lt R3.out
        clear hb3 KR
        go_wp2_with fail
        go_loopw [3, 4] (fun vc vi wq => ∃ q u, vc = .int .i64 (runeF l q).1 ∧ vi = .bool (runeF l q).2 ∧ OnW l p { t with mode := .com } q u ∧ RfAt wq b l q u.line u.col ∧ w.grownBy wq (some b)) (fun _ _ wq => l.length - (intOf ((wq.cell? ⟨b, 1, none⟩).getD (.int .i64 0))).toNat)
        case atStart => exact ⟨p, { t with mode := .com }, by rw [HR1.out], by rw [HR1.out], ⟨Nat.le_refl _, hph, hpl, hpc, rfl, rfl, rfl, rfl, rfl, rfl⟩, R3.out, G3.out⟩
        case round =>
          obtain ⟨q, u, rfl, rfl, hu, hrq, hgq⟩ := hrel
          have hbq := Blk.lt hrq
          have hum : u.mode = .com := hu.mode
          have HU := Lib.hid hu
          have HM2 := Lib.hid hum
          have HF2 := Lib.hid hrq
          have HG2 := Lib.hid hgq
          have hqh := hu.here
          have hql := hu.line
          have hqc := hu.col
          have hpq := hu.le
          have C2 := Lib.hid (RfAt.c1 hrq)
          clear hu hrq hgq hum
          by_cases hq : q < l.length
          · obtain ⟨c2, n2, hd2⟩ : ∃ c n, Utf8.decode ⟨l.toArray⟩ q = (c, n) := ⟨_, _, rfl⟩
            have hrr2 := rune_at l q hq
            rw [hd2] at hrr2
            simp only at hrr2
            have hpw2 := Lib.decode_width_pos ⟨l.toArray⟩ q hq
            have hpi2 := dec_in l q hq
            have KO2 := Lib.hid (fun w' (h : RfAt w' b l q u.line u.col) (hT : Utab w') => on_any b l q u.line u.col w' (by omega) (by omega) (by omega) hq h hT)
            rw [hd2] at hpw2 hpi2 KO2
            simp only at hpw2 hpi2 KO2
            have HD2 := Lib.hid hd2
            have hc20 : (0 : Int) ≤ (c2 : Int) := by omega
            have hc21 : ¬ (c2 : Int) < 0 := by omega
            by_cases h210 : c2 = 10
            · subst h210
              have hr2 : runeF l q = (10, true) := by rw [hrr2]; rfl
              have hpq2 : p < q := by
                rcases Nat.lt_or_ge p q with h | h
                · exact h
                · exfalso
                  have e : p = q := by omega
                  have h3 := HR1.out
                  rw [e, hr2] at h3
                  cases h3
              have hro : road l p0 s = road l q { u with mode := .btw } := by rw [HRo.out, HU.out.road]; exact com_out l q u HM2.out (.inr (by rw [hr2]))
              have HRq := Lib.hid hro
              rw [hr2]
              clear hd2 hrr2 KO2 hr2 hro
              go_wp2_with fail
              go_roundw
              case rel => exact ⟨q, { u with mode := .btw }, ⟨by omega, hqh, hql, hqc, hm.symm, HU.out.kind.trans HW.out.kind, HU.out.wl.trans HW.out.wl, HU.out.wc.trans HW.out.wc, HU.out.words.trans HW.out.words, HRq.out⟩, HF2.out, HG2.out⟩
              case measure =>
                simp only [C1.out, C2.out, Option.getD_some, intOf]
                omega
            have q210 : ((c2 : Int) != 10) = true := by simp; omega
            cases his : (runeF l q).2
            · have hr2 : runeF l q = ((c2 : Int), false) := by rw [← his, hrr2]
              have HR : Hid (road l p0 s = ([], u.line, u.col, 4)) := Lib.hid (by rw [HRo.out, HU.out.road]; exact road_bad l q u hq his)
              rw [hr2]
              have H210 := Lib.hid h210
              clear hd2 hrr2 KO2 hr2 his h210
              go_wp2_with fail
              go_ret
              exact ⟨q, u, by omega, hqh, hql, hqc, HF2.out, HG2.out, .inr ⟨rfl, HR.out⟩⟩
            · have hr2 : runeF l q = ((c2 : Int), true) := by rw [← his, hrr2]
              have OW := HU.out.next hq HD2.out his (com_step u c2 HM2.out h210) HU.out.mode HU.out.kind HU.out.wl HU.out.wc HU.out.words
              obtain ⟨q2, hq2⟩ : ∃ z, q + n2 = z := ⟨_, rfl⟩
              obtain ⟨u2, hu2⟩ : ∃ z : RS, advF u c2 = z := ⟨_, rfl⟩
              rw [hq2, hu2] at OW
              rw [hq2] at KO2 hpi2
              have KO' : Hid (∀ w', RfAt w' b l q u.line u.col → Utab w' → Calls Tryd.prog 44 #[.pointer (some ⟨b, 0, none⟩)] w' fun e w'' => e = .returned (.tuple #[]) ∧ RfAt w'' b l q2 u2.line u2.col ∧ w'.grownBy w'' (some b)) := Lib.hid (fun w' h hT => by rw [← hu2]; exact KO2.out w' h hT)
              have KO3 := Lib.hid (KO'.out _ HF2.out (HT.out _ HG2.out))
              have HOW := Lib.hid OW
              have HP2 : Hid (q < q2) := Lib.hid (by omega)
              have hl2 := OW.line
              have hc2 := OW.col
              rw [hr2]
              have H210 := Lib.hid h210
              clear hd2 hrr2 KO2 KO' hr2 his h210 OW hu2 hq2
              go_wp2_with fail
              refine KO3.out.mono ?_
              rintro e w4 ⟨rfl, hr4, hg4⟩
              have G4 := Lib.hid (grown_trans HG2.out hg4)
              have R4 := Lib.hid hr4
              have hb4 := Blk.lt hr4
              have KR5 := Lib.hid (rune_any b l q2 u2.line u2.col w4 (by omega) hr4 (HT.out _ G4.out))
              clear hr4 hg4 KO3
              go_wp2_with fail
              refine KR5.out.mono ?_
              rintro e w5 ⟨rfl, hb5⟩
              have G5 := Lib.hid (grown_below G4.out hb5)
              have R5 := Lib.hid (Blk.below (show Blk w4 _ _ _ from R4.out) hb5 hb4)
              have C5 : Hid (w5.cell? ⟨b, 1, none⟩ = some (.int .i64 (q2 : Int))) := Blk.cell R5.out 1
              clear hb5 KR5
              go_wp2_with fail
              go_roundw
              case rel => exact ⟨q2, u2, rfl, rfl, HOW.out, R5.out, G5.out⟩
              case measure =>
                have := HP2.out
                simp only [C2.out, C5.out, Option.getD_some, intOf]
                omega
          · have hr2 : runeF l q = (-1, true) := rune_end l q hq
            have hpq2 : p < q := by
              rcases Nat.lt_or_ge p q with h | h
              · exact h
              · exfalso
                have e : p = q := by omega
                have h3 := HR1.out
                rw [e, hr2] at h3
                cases h3
            have hro : road l p0 s = road l q { u with mode := .btw } := by rw [HRo.out, HU.out.road]; exact com_out l q u HM2.out (.inl (by rw [hr2]; decide))
            have HRq := Lib.hid hro
            rw [hr2]
            clear hr2 hro
            go_wp2_with fail
            go_roundw
            case rel => exact ⟨q, { u with mode := .btw }, ⟨by omega, hqh, hql, hqc, hm.symm, HU.out.kind.trans HW.out.kind, HU.out.wl.trans HW.out.wl, HU.out.wc.trans HW.out.wc, HU.out.words.trans HW.out.words, HRq.out⟩, HF2.out, HG2.out⟩
            case measure =>
              simp only [C1.out, C2.out, Option.getD_some, intOf]
              omega
      have q35 : ((c : Int) == 35) = false := by simp; omega
      have hr1 : (runeF l p).1 = (c : Int) := by rw [hrr]
      by_cases hbl : c = 32 ∨ c = 9 ∨ c = 10
      · have his : (runeF l p).2 = true := by rw [rune_ok l p c n hp hd (by omega)]
        have OW := HW.out.next hp HD.out his (step_blank t c HMt.out hbl) HW.out.mode HW.out.kind HW.out.wl HW.out.wc HW.out.words
        obtain ⟨p2, hp2⟩ : ∃ z, p + n = z := ⟨_, rfl⟩
        obtain ⟨t2, ht2⟩ : ∃ z : RS, advF t c = z := ⟨_, rfl⟩
        rw [hp2, ht2] at OW
        rw [hp2] at KO hpi
        have KO' : Hid (∀ w', RfAt w' b l p t.line t.col → Utab w' → Calls Tryd.prog 44 #[.pointer (some ⟨b, 0, none⟩)] w' fun e w'' => e = .returned (.tuple #[]) ∧ RfAt w'' b l p2 t2.line t2.col ∧ w'.grownBy w'' (some b)) := Lib.hid (fun w' h hT => by rw [← ht2]; exact KO.out w' h hT)
        have HOW := Lib.hid OW
        have HP2 : Hid (p < p2) := Lib.hid (by omega)
        rw [hr1] at KR
        replace KR := Lib.hid KR
        have H35 := Lib.hid h35
        clear hd hrr KO hr1 his OW ht2 hp2 h35
        rcases hbl with rfl | rfl | rfl
        all_goals
          go_wp2_with fail
          refine KR.out.mono ?_
          rintro e w3 ⟨rfl, hb3⟩
          have G3 := Lib.hid (grown_below HG.out hb3)
          have R3 := Lib.hid (Blk.below (show Blk wr _ _ _ from HF.out) hb3 hbr)
          have hb3s := Blk.lt R3.out
          clear hb3 KR
          have KO3 := Lib.hid (KO'.out _ R3.out (HT.out _ G3.out))
          go_wp2_with fail
          refine KO3.out.mono ?_
          rintro e w4 ⟨rfl, hr4, hg4⟩
          have G4 := Lib.hid (grown_trans G3.out hg4)
          have R4 := Lib.hid hr4
          have C4 : Hid (w4.cell? ⟨b, 1, none⟩ = some (.int .i64 (p2 : Int))) := Blk.cell hr4 1
          clear hr4 hg4 KO3
          go_wp2_with fail
          go_roundw
          case rel => exact ⟨p2, t2, HOW.out, R4.out, G4.out⟩
          case measure =>
            have := HP2.out
            simp only [C1.out, C4.out, Option.getD_some, intOf]
            omega
      · have q1 : ((c : Int) != 32) = true := by simp; omega
        have q2 : ((c : Int) != 9) = true := by simp; omega
        have q3 : ((c : Int) != 10) = true := by simp; omega
        have HN : Hid ((runeF l p).1 ≠ 35 ∧ (runeF l p).1 ≠ 32 ∧ (runeF l p).1 ≠ 9 ∧ (runeF l p).1 ≠ 10) := Lib.hid (by rw [hr1]; omega)
        rw [hr1] at KR
        replace KR := Lib.hid KR
        have H35 := Lib.hid h35
        have HBl := Lib.hid hbl
        clear hd hrr KO hr1 h35 hbl
        go_wp2_with fail
        refine KR.out.mono ?_
        rintro e w3 ⟨rfl, hb3⟩
        have G3 := Lib.hid (grown_below HG.out hb3)
        have R3 := Lib.hid (Blk.below (show Blk wr _ _ _ from HF.out) hb3 hbr)
        have hb3s := Blk.lt R3.out
        clear hb3 KR
        go_wp2
        go_ret
        exact ⟨p, t, hp0p, hph, hpl, hpc, R3.out, G3.out, .inl ⟨rfl, HMt.out, HW.out.words, HW.out.road, HN.out⟩⟩
    · have hr : runeF l p = (-1, true) := rune_end l p hp
      have HN : Hid ((runeF l p).1 ≠ 35 ∧ (runeF l p).1 ≠ 32 ∧ (runeF l p).1 ≠ 9 ∧ (runeF l p).1 ≠ 10) := Lib.hid (by rw [hr]; decide)
      rw [hr] at KR
      clear hr
      replace KR := Lib.hid KR
      go_wp2_with fail
      refine KR.out.mono ?_
      rintro e w3 ⟨rfl, hb3⟩
      have G3 := Lib.hid (grown_below HG.out hb3)
      have R3 := Lib.hid (Blk.below (show Blk wr _ _ _ from HF.out) hb3 hbr)
      have hb3s := Blk.lt R3.out
      clear hb3 KR
      go_wp2
      go_ret
      exact ⟨p, t, hp0p, hph, hpl, hpc, R3.out, G3.out, .inl ⟨rfl, HMt.out, HW.out.words, HW.out.road, HN.out⟩⟩
end Go.Proofs.YtdiighpmgfbmaaaDoor
