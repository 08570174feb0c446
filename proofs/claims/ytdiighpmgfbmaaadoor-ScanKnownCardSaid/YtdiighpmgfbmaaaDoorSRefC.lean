/- The document's quoted: a contract. Condition: the tables of UTF-8 lie as they were laid. -/
import Derived.Test.YtdiighpmgfbmaaaDoorSRefB
namespace Go.Proofs.YtdiighpmgfbmaaaDoor
open Go.RowKit

theorem tel_out (l : List UInt8) (p : Nat) (t : RS) (e : Int) (hi : p ≤ l.length) (h : (runeF l p).1 < 0 ∨ (runeF l p).1 = 10) (hs : (stepF t 10).2 = e) (he : e ≠ 0) : road l p t = ([], t.line, t.col, e) := by
  by_cases hp : p < l.length
  · obtain ⟨c, n, hd⟩ : ∃ c n, Utf8.decode ⟨l.toArray⟩ p = (c, n) := ⟨_, _, rfl⟩
    have hr := rune_at l p hp
    rw [hd] at hr
    simp only at hr
    rw [hr] at h
    simp only at h
    have hc : c = 10 := by omega
    subst hc
    exact road_err l p 10 n t e hp hd (by rw [hr]; rfl) hs he
  · exact road_out l p t e hp hi hs he
theorem tel_bad (l : List UInt8) (p c n : Nat) (t : RS) (hp : p < l.length) (hd : Utf8.decode ⟨l.toArray⟩ p = (c, n)) (h : (runeF l p).2 = false ∨ (stepF t c).2 = 4) : road l p t = ([], t.line, t.col, 4) := by
  cases hb : (runeF l p).2
  · exact road_bad l p t hp hb
  · rcases h with h | h
    · rw [hb] at h
      cases h
    · exact road_err l p c n t 4 hp hd hb h (by decide)
theorem step_str (t : RS) (c : Nat) (h : t.mode = .str) : stepF t c = strF t c := by
  unfold stepF
  rw [h]
theorem step_esc (t : RS) (c : Nat) (h : t.mode = .esc) : stepF t c = escF t c := by
  unfold stepF
  rw [h]
theorem str_ten (t : RS) (h : t.mode = .str) : (stepF t 10).2 = 3 := by
  rw [step_str t 10 h]
  rfl
theorem esc_ten (t : RS) (h : t.mode = .esc) : (stepF t 10).2 = 3 := by
  rw [step_esc t 10 h]
  rfl
theorem str_low (t : RS) (c : Nat) (h : t.mode = .str) (h1 : c < 32) (h2 : c ≠ 10) : (stepF t c).2 = 4 := by
  rw [step_str t c h]
  unfold strF ctB
  rw [if_neg h2, if_pos (by simpa using h1)]
theorem str_quo (t : RS) (h : t.mode = .str) : stepF t 34 = (endF t, 0) := by
  rw [step_str t 34 h]
  rfl
theorem str_bsl (t : RS) (h : t.mode = .str) : stepF t 92 = ({ t with mode := .esc }, 0) := by
  rw [step_str t 92 h]
  rfl
theorem str_any (t : RS) (c : Nat) (h : t.mode = .str) (h1 : ¬ c < 32) (h2 : c ≠ 34) (h3 : c ≠ 92) : stepF t c = (addF t (c : Int), 0) := by
  rw [step_str t c h]
  unfold strF ctB
  rw [if_neg (by omega), if_neg (by simpa using h1), if_neg h2, if_neg h3]
theorem esc_no (t : RS) (c : Nat) (h : t.mode = .esc) (h1 : (escS (c : Int)).2 = false) (h2 : c ≠ 10) : (stepF t c).2 = 4 := by
  rw [step_esc t c h]
  have h34 : c ≠ 34 := by rintro rfl; cases h1
  have h92 : c ≠ 92 := by rintro rfl; cases h1
  have h110 : c ≠ 110 := by rintro rfl; cases h1
  unfold escF
  rw [if_neg h2, if_neg (by omega), if_neg h110]
theorem esc_yes (t : RS) (c : Nat) (h : t.mode = .esc) (h1 : (escS (c : Int)).2 = true) : c ≠ 65533 ∧ c ≠ 10 ∧ ∃ t1 : RS, stepF t c = (t1, 0) ∧ t1.mode = .str ∧ t1.text = t.text ++ (escS (c : Int)).1 ∧ (escS (c : Int)).1.length = 1 ∧ t1.kind = t.kind ∧ t1.wl = t.wl ∧ t1.wc = t.wc ∧ t1.words = t.words ∧ t1.line = t.line ∧ t1.col = t.col := by
  have hc : c = 34 ∨ c = 92 ∨ c = 110 := by
    unfold escS at h1
    split at h1
    · left; omega
    · split at h1
      · right; left; omega
      · split at h1
        · right; right; omega
        · cases h1
  rw [step_esc t c h]
  rcases hc with rfl | rfl | rfl
  · exact ⟨by decide, by decide, _, rfl, rfl, rfl, rfl, rfl, rfl, rfl, rfl, rfl, rfl⟩
  · exact ⟨by decide, by decide, _, rfl, rfl, rfl, rfl, rfl, rfl, rfl, rfl, rfl, rfl⟩
  · exact ⟨by decide, by decide, _, rfl, rfl, rfl, rfl, rfl, rfl, rfl, rfl, rfl, rfl⟩

theorem run_joinQ (P : Program) (w : World) (s t : List UInt8) (h : s.length + t.length ≤ 100000) : (Op.stringOp .add ⟨s.toArray⟩ ⟨t.toArray⟩).run P w = .ok (strV (s ++ t)) w := by
  have h2 : (⟨s.toArray⟩ : ByteArray).size + (⟨t.toArray⟩ : ByteArray).size ≤ 9223372036854775807 := by
    show s.toArray.size + t.toArray.size ≤ _
    simp
    omega
  have e : (⟨s.toArray⟩ : ByteArray) ++ (⟨t.toArray⟩ : ByteArray) = ⟨(s ++ t).toArray⟩ := by
    apply ByteArray.ext
    simp [ByteArray.data_append]
  rw [run_string_add_sum _ _ _ h2, e]

/-- What quoted leaves. -/
def QuR (l : List UInt8) (p0 : Nat) (s : RS) (w : World) (b : Nat) (e : Ending) (w' : World) : Prop :=
  ∃ p t, p0 ≤ p ∧ p ≤ l.length ∧ t.line ≤ p + 1 ∧ t.col ≤ p + 1 ∧ RfAt w' b l p t.line t.col ∧ w.grownBy w' (some b) ∧
    ((∃ x, x.length ≤ p - p0 ∧ e = .returned (.tuple #[strV x, .int .i64 0]) ∧ t.mode = .btw ∧ t.words = s.words ++ [(s.kind, x, s.wl, s.wc)] ∧ road l p0 s = road l p t) ∨
     (∃ er : Int, er ≠ 0 ∧ e = .returned (.tuple #[strV [], .int .i64 er]) ∧ road l p0 s = ([], t.line, t.col, er)))

set_option maxRecDepth 100000 in
set_option maxHeartbeats 8000000 in
theorem quoted_any (b p0 : Nat) (l : List UInt8) (s : RS) (w : World) (hl : l.length ≤ 1000) (hm : s.mode = .str) (ht : s.text = []) (h0 : OnW l p0 s p0 s) (h : RfAt w b l p0 s.line s.col) (hT : ∀ w', w.grownBy w' (some b) → Utab w') :
    Calls Tryd.prog 49 #[.pointer (some ⟨b, 0, none⟩)] w (QuR l p0 s w b) := by
  have H := Lib.hid h
  have HT := Lib.hid hT
  have H0 := Lib.hid h0
  have HTx := Lib.hid ht
  clear h hT h0 ht
  go_enter Tryd.func49, Tryd.ntmps49
  go_wp2_with fail
  go_loopw [4] (fun v wr => ∃ p t, v = strV t.text ∧ OnW l p0 s p t ∧ t.text.length ≤ p - p0 ∧ RfAt wr b l p t.line t.col ∧ w.grownBy wr (some b)) (fun _ wr => l.length - (intOf ((wr.cell? ⟨b, 1, none⟩).getD (.int .i64 0))).toNat)
  case atStart => exact ⟨p0, s, by rw [HTx.out], H0.out, by rw [HTx.out]; simp, H.out, World.grownBy.refl _ _⟩
  case round =>
    obtain ⟨p, t, rfl, hw, htx, hrf, hg⟩ := hrel
    have hbr := Blk.lt hrf
    have hmt : t.mode = .str := hw.mode.trans hm
    have HMt := Lib.hid hmt
    have HW := Lib.hid hw
    have HF := Lib.hid hrf
    have HG := Lib.hid hg
    have hph := hw.here
    have hpl := hw.line
    have hpc := hw.col
    have hp0p := hw.le
    have KR := rune_any b l p t.line t.col wr (by omega) hrf (HT.out _ hg)
    have C1 : Hid (wr.cell? ⟨b, 1, none⟩ = some (.int .i64 (p : Int))) := Blk.cell hrf 1
    clear hw hrf hg hmt
    by_cases hp : p < l.length
    · obtain ⟨c, n, hd⟩ : ∃ c n, Utf8.decode ⟨l.toArray⟩ p = (c, n) := ⟨_, _, rfl⟩
      have hrr := rune_at l p hp
      rw [hd] at hrr
      simp only at hrr
      have KO := Lib.hid (fun w' (h : RfAt w' b l p t.line t.col) (hT : Utab w') => on_any b l p t.line t.col w' (by omega) (by omega) (by omega) hp h hT)
      have hpw := Lib.decode_width_pos ⟨l.toArray⟩ p hp
      have hpi := dec_in l p hp
      have hdl := decode_le ⟨l.toArray⟩ p
      rw [hd] at KO hpw hpi hdl
      simp only at KO hpw hpi hdl
      have hc0 : ¬ ((c : Int) < 0) := by omega
      have HD := Lib.hid hd
      by_cases h10 : c = 10
      · subst h10
        have hr : runeF l p = (10, true) := by rw [hrr]; rfl
        have HR : Hid (road l p0 s = ([], t.line, t.col, 3)) := Lib.hid (by rw [HW.out.road]; exact tel_out l p t 3 hph (.inr (by rw [hr])) (str_ten t HMt.out) (by decide))
        rw [hr] at KR
        clear hd hrr KO hr
        replace KR := Lib.hid KR
        go_wp2_with fail
        refine KR.out.mono ?_
        rintro e w3 ⟨rfl, hb3⟩
        have G3 := Lib.hid (grown_below HG.out hb3)
        have R3 := Lib.hid (Blk.below (show Blk wr _ _ _ from HF.out) hb3 hbr)
        have hb3s := Blk.lt R3.out
        clear hb3 KR
        go_wp2
        go_ret2
        exact ⟨p, t, hp0p, hph, hpl, hpc, R3.out, G3.out, .inr ⟨3, by decide, rfl, HR.out⟩⟩
      have q10 : ((c : Int) == 10) = false := by simp; omega
      cases his : (runeF l p).2
      · have hr : runeF l p = ((c : Int), false) := by rw [← his, hrr]
        have HR : Hid (road l p0 s = ([], t.line, t.col, 4)) := Lib.hid (by rw [HW.out.road]; exact tel_bad l p c n t hp HD.out (.inl his))
        rw [hr] at KR
        have H10 := Lib.hid h10
        clear hd hrr KO hr his h10
        replace KR := Lib.hid KR
        go_wp2_with fail
        refine KR.out.mono ?_
        rintro e w3 ⟨rfl, hb3⟩
        have G3 := Lib.hid (grown_below HG.out hb3)
        have R3 := Lib.hid (Blk.below (show Blk wr _ _ _ from HF.out) hb3 hbr)
        have hb3s := Blk.lt R3.out
        clear hb3 KR
        go_wp2
        go_ret2
        exact ⟨p, t, hp0p, hph, hpl, hpc, R3.out, G3.out, .inr ⟨4, by decide, rfl, HR.out⟩⟩
      have hr : runeF l p = ((c : Int), true) := by rw [← his, hrr]
      rw [hr] at KR
      have HIs := Lib.hid his
      clear hd hrr hr his
      replace KR := Lib.hid KR
      by_cases h32 : c < 32
      · have q32 : (c : Int) < 32 := by omega
        have HR : Hid (road l p0 s = ([], t.line, t.col, 4)) := Lib.hid (by rw [HW.out.road]; exact tel_bad l p c n t hp HD.out (.inr (str_low t c HMt.out h32 h10)))
        have H10 := Lib.hid h10
        clear KO h10 h32
        go_wp2_with fail
        refine KR.out.mono ?_
        rintro e w3 ⟨rfl, hb3⟩
        have G3 := Lib.hid (grown_below HG.out hb3)
        have R3 := Lib.hid (Blk.below (show Blk wr _ _ _ from HF.out) hb3 hbr)
        have hb3s := Blk.lt R3.out
        clear hb3 KR
        go_wp2
        go_ret2
        exact ⟨p, t, hp0p, hph, hpl, hpc, R3.out, G3.out, .inr ⟨4, by decide, rfl, HR.out⟩⟩
      have q32 : ¬ (c : Int) < 32 := by omega
      by_cases h34 : c = 34
      · subst h34
        have st := road_step l p 34 n t _ hp HD.out HIs.out (str_quo t HMt.out)
        have HR : Hid (road l p0 s = road l (p + n) (advF (endF t) 34)) := Lib.hid (by rw [HW.out.road]; exact st)
        obtain ⟨p2, hp2⟩ : ∃ q, p + n = q := ⟨_, rfl⟩
        rw [hp2] at KO HR hpi
        clear st h10 h32
        go_wp2_with fail
        refine KR.out.mono ?_
        rintro e w3 ⟨rfl, hb3⟩
        have G3 := Lib.hid (grown_below HG.out hb3)
        have R3 := Lib.hid (Blk.below (show Blk wr _ _ _ from HF.out) hb3 hbr)
        have hb3s := Blk.lt R3.out
        clear hb3 KR
        have KO3 := Lib.hid (KO.out _ R3.out (HT.out _ G3.out))
        go_wp2_with fail
        refine KO3.out.mono ?_
        rintro e w4 ⟨rfl, hr4, hg4⟩
        have G4 := Lib.hid (grown_trans G3.out hg4)
        have R4 := Lib.hid (show RfAt w4 b l p2 (advF (endF t) 34).line (advF (endF t) 34).col from hr4)
        clear hr4 hg4 KO3
        go_wp2
        go_ret2
        exact ⟨p2, advF (endF t) 34, by omega, hpi, by show t.line ≤ _; omega, by show t.col + 1 ≤ _; omega, R4.out, G4.out, .inl ⟨t.text, by omega, rfl, rfl, by show t.words ++ [(t.kind, t.text, t.wl, t.wc)] = _; rw [HW.out.words, HW.out.kind, HW.out.wl, HW.out.wc], HR.out⟩⟩
      have q34 : ((c : Int) == 34) = false := by simp; omega
      by_cases h92 : c = 92
      · subst h92
        have st := road_step l p 92 n t _ hp HD.out HIs.out (str_bsl t HMt.out)
        have hroad : road l p0 s = road l (p + n) (advF { t with mode := .esc } 92) := by rw [HW.out.road]; exact st
        obtain ⟨p2, hp2⟩ : ∃ q, p + n = q := ⟨_, rfl⟩
        rw [hp2] at KO hroad hpi
        obtain ⟨t2, ht2⟩ : ∃ q : RS, advF { t with mode := .esc } 92 = q := ⟨_, rfl⟩
        rw [ht2] at hroad
        have t2m : t2.mode = .esc := by rw [← ht2]; rfl
        have t2x : t2.text = t.text := by rw [← ht2]; rfl
        have t2k : t2.kind = t.kind := by rw [← ht2]; rfl
        have t2l : t2.wl = t.wl := by rw [← ht2]; rfl
        have t2c : t2.wc = t.wc := by rw [← ht2]; rfl
        have t2w : t2.words = t.words := by rw [← ht2]; rfl
        have t2li : t2.line ≤ p2 + 1 := by rw [← ht2]; show t.line ≤ _; omega
        have t2co : t2.col ≤ p2 + 1 := by rw [← ht2]; show t.col + 1 ≤ _; omega
        have HRo := Lib.hid hroad
        have HM2 := Lib.hid t2m
        have HX2 := Lib.hid t2x
        have HK2 := Lib.hid (And.intro t2k (And.intro t2l (And.intro t2c t2w)))
        have KO' : Hid (∀ w', RfAt w' b l p t.line t.col → Utab w' → Calls Tryd.prog 44 #[.pointer (some ⟨b, 0, none⟩)] w' fun e w'' => e = .returned (.tuple #[]) ∧ RfAt w'' b l p2 t2.line t2.col ∧ w'.grownBy w'' (some b)) := Lib.hid (fun w' h hT => by rw [← ht2]; exact KO.out w' h hT)
        have KR' := Lib.hid (fun w' (h : RfAt w' b l p2 t2.line t2.col) (hT : Utab w') => rune_any b l p2 t2.line t2.col w' (by omega) h hT)
        have HP2 : Hid (p < p2) := Lib.hid (by omega)
        have hpp2 : p < p2 := by omega
        clear st h10 h32 hroad KO ht2 t2m t2x t2k t2l t2c t2w hp2
        by_cases hpp : p2 < l.length
        · obtain ⟨c2, n2, hd2⟩ : ∃ c n, Utf8.decode ⟨l.toArray⟩ p2 = (c, n) := ⟨_, _, rfl⟩
          have hrr2 := rune_at l p2 hpp
          rw [hd2] at hrr2
          simp only at hrr2
          have KO2 := Lib.hid (fun w' (h : RfAt w' b l p2 t2.line t2.col) (hT : Utab w') => on_any b l p2 t2.line t2.col w' (by omega) (by omega) (by omega) hpp h hT)
          have hpw2 := Lib.decode_width_pos ⟨l.toArray⟩ p2 hpp
          have hpi2 := dec_in l p2 hpp
          have hdl2 := decode_le ⟨l.toArray⟩ p2
          rw [hd2] at KO2 hpw2 hpi2 hdl2
          simp only at KO2 hpw2 hpi2 hdl2
          have hc20 : ¬ ((c2 : Int) < 0) := by omega
          have HD2 := Lib.hid hd2
          have hr2 : (runeF l p2).1 = (c2 : Int) := by rw [hrr2]
          by_cases h210 : c2 = 10
          · subst h210
            have HR : Hid (road l p0 s = ([], t2.line, t2.col, 3)) := Lib.hid (by rw [HRo.out]; exact tel_out l p2 t2 3 hpi (.inr hr2) (esc_ten t2 HM2.out) (by decide))
            rw [hr2] at KR'
            clear hd2 hrr2 KO2 hr2
            go_wp2_with fail
            refine KR.out.mono ?_
            rintro e w3 ⟨rfl, hb3⟩
            have G3 := Lib.hid (grown_below HG.out hb3)
            have R3 := Lib.hid (Blk.below (show Blk wr _ _ _ from HF.out) hb3 hbr)
            have hb3s := Blk.lt R3.out
            clear hb3 KR
            have KO3 := Lib.hid (KO'.out _ R3.out (HT.out _ G3.out))
            go_wp2_with fail
            refine KO3.out.mono ?_
            rintro e w4 ⟨rfl, hr4, hg4⟩
            have G4 := Lib.hid (grown_trans G3.out hg4)
            have R4 := Lib.hid hr4
            have hb4 := Blk.lt hr4
            clear hr4 hg4 KO3
            have KR5 := Lib.hid (KR'.out _ R4.out (HT.out _ G4.out))
            go_wp2_with fail
            refine KR5.out.mono ?_
            rintro e w5 ⟨rfl, hb5⟩
            have G5 := Lib.hid (grown_below G4.out hb5)
            have R5 := Lib.hid (Blk.below (show Blk w4 _ _ _ from R4.out) hb5 hb4)
            clear hb5 KR5
            go_wp2
            go_ret2
            exact ⟨p2, t2, by omega, hpi, t2li, t2co, R5.out, G5.out, .inr ⟨3, by decide, rfl, HR.out⟩⟩
          have q210 : ((c2 : Int) == 10) = false := by simp; omega
          rw [hr2] at KR'
          have KE := Lib.hid (fun w => rescape_any (c2 : Int) w)
          cases hes : (escS (c2 : Int)).2
          · have HR : Hid (road l p0 s = ([], t2.line, t2.col, 4)) := Lib.hid (by rw [HRo.out]; exact tel_bad l p2 c2 n2 t2 hpp HD2.out (.inr (esc_no t2 c2 HM2.out hes h210)))
            rw [hes] at KE
            have H210 := Lib.hid h210
            clear hd2 hrr2 KO2 hr2 hes h210
            go_wp2_with fail
            refine KR.out.mono ?_
            rintro e w3 ⟨rfl, hb3⟩
            have G3 := Lib.hid (grown_below HG.out hb3)
            have R3 := Lib.hid (Blk.below (show Blk wr _ _ _ from HF.out) hb3 hbr)
            have hb3s := Blk.lt R3.out
            clear hb3 KR
            have KO3 := Lib.hid (KO'.out _ R3.out (HT.out _ G3.out))
            go_wp2_with fail
            refine KO3.out.mono ?_
            rintro e w4 ⟨rfl, hr4, hg4⟩
            have G4 := Lib.hid (grown_trans G3.out hg4)
            have R4 := Lib.hid hr4
            have hb4 := Blk.lt hr4
            clear hr4 hg4 KO3
            have KR5 := Lib.hid (KR'.out _ R4.out (HT.out _ G4.out))
            go_wp2_with fail
            refine KR5.out.mono ?_
            rintro e w5 ⟨rfl, hb5⟩
            have G5 := Lib.hid (grown_below G4.out hb5)
            have R5 := Lib.hid (Blk.below (show Blk w4 _ _ _ from R4.out) hb5 hb4)
            clear hb5 KR5
            go_wp2_with ((with_reducible refine (KE.out _).mono ?_); rintro e w9 ⟨rfl, rfl⟩)
            go_ret2
            exact ⟨p2, t2, by omega, hpi, t2li, t2co, R5.out, G5.out, .inr ⟨4, by decide, rfl, HR.out⟩⟩
          · obtain ⟨z1, z2, t3, z3, z4, z5, z6, z7, z8, z9, z10, z11, z12⟩ := esc_yes t2 c2 HM2.out hes
            have st := road_step l p2 c2 n2 t2 t3 hpp HD2.out (by rw [rune_ok l p2 c2 n2 hpp HD2.out z1]) z3
            rw [hes] at KE
            generalize hex : (escS (c2 : Int)).1 = ex at KE z5 z6
            obtain ⟨p3, hp3⟩ : ∃ q, p2 + n2 = q := ⟨_, rfl⟩
            rw [hp3] at KO2 st hpi2
            obtain ⟨t4, ht4⟩ : ∃ q : RS, advF t3 c2 = q := ⟨_, rfl⟩
            rw [ht4] at st
            have e4l : t4.line = (if c2 = 10 then t2.line + 1 else t2.line) := by rw [← ht4, ← z11]; rfl
            have e4c : t4.col = (if c2 = 10 then 1 else t2.col + 1) := by rw [← ht4, ← z12]; rfl
            have OW : OnW l p0 s p3 t4 := by
              refine ⟨by omega, hpi2, ?_, ?_, ?_, ?_, ?_, ?_, ?_, ?_⟩
              · rw [e4l, if_neg z2]; omega
              · rw [e4c, if_neg z2]; omega
              · rw [← ht4]; show t3.mode = _; rw [z4, hm]
              · rw [← ht4]; show t3.kind = _; rw [z7, HK2.out.1, HW.out.kind]
              · rw [← ht4]; show t3.wl = _; rw [z8, HK2.out.2.1, HW.out.wl]
              · rw [← ht4]; show t3.wc = _; rw [z9, HK2.out.2.2.1, HW.out.wc]
              · rw [← ht4]; show t3.words = _; rw [z10, HK2.out.2.2.2, HW.out.words]
              · rw [HRo.out]; exact st
            have e4x : t4.text = t.text ++ ex := by rw [← ht4]; show t3.text = _; rw [z5, HX2.out]
            have KO2' : Hid (∀ w', RfAt w' b l p2 t2.line t2.col → Utab w' → Calls Tryd.prog 44 #[.pointer (some ⟨b, 0, none⟩)] w' fun e w'' => e = .returned (.tuple #[]) ∧ RfAt w'' b l p3 t4.line t4.col ∧ w'.grownBy w'' (some b)) := Lib.hid (fun w' h hT => by rw [e4l, e4c]; exact KO2.out w' h hT)
            have HOW := Lib.hid OW
            have HP3 : Hid (p2 < p3) := Lib.hid (by omega)
            have H4x := Lib.hid e4x
            have hx1 : t.text.length + ex.length ≤ 2000 := by omega
            have hx2 : t.text.length + 1 ≤ p3 - p0 := by omega
            have H6 := Lib.hid z6
            clear z1 z2 z3 z4 z5 z7 z8 z9 z10 z11 z12 st hex hes h210 hd2 hrr2 hr2 KO2 e4l e4c OW ht4 hp3 e4x
            go_wp2_with fail
            refine KR.out.mono ?_
            rintro e w3 ⟨rfl, hb3⟩
            have G3 := Lib.hid (grown_below HG.out hb3)
            have R3 := Lib.hid (Blk.below (show Blk wr _ _ _ from HF.out) hb3 hbr)
            have hb3s := Blk.lt R3.out
            clear hb3 KR
            have KO3 := Lib.hid (KO'.out _ R3.out (HT.out _ G3.out))
            go_wp2_with fail
            refine KO3.out.mono ?_
            rintro e w4 ⟨rfl, hr4, hg4⟩
            have G4 := Lib.hid (grown_trans G3.out hg4)
            have R4 := Lib.hid hr4
            have hb4 := Blk.lt hr4
            clear hr4 hg4 KO3
            have KR5 := Lib.hid (KR'.out _ R4.out (HT.out _ G4.out))
            go_wp2_with fail
            refine KR5.out.mono ?_
            rintro e w5 ⟨rfl, hb5⟩
            have G5 := Lib.hid (grown_below G4.out hb5)
            have R5 := Lib.hid (Blk.below (show Blk w4 _ _ _ from R4.out) hb5 hb4)
            clear hb5 KR5
            go_wp2_with ((with_reducible refine (KE.out _).mono ?_); rintro e w9 ⟨rfl, rfl⟩)
            have KO6 := Lib.hid (KO2'.out _ R5.out (HT.out _ G5.out))
            refine KO6.out.mono ?_
            rintro e w6 ⟨rfl, hr6, hg6⟩
            have G6 := Lib.hid (grown_trans G5.out hg6)
            have R6 := Lib.hid hr6
            have hb6 := Blk.lt hr6
            have C6 : Hid (w6.cell? ⟨b, 1, none⟩ = some (.int .i64 (p3 : Int))) := Blk.cell hr6 1
            clear hr6 hg6 KO6
            have hjoin := fun w => run_joinQ Tryd.prog w t.text ex (by omega)
            go_wp2_with fail
            go_roundw
            case rel => exact ⟨p3, t4, by rw [H4x.out], HOW.out, by rw [H4x.out, List.length_append, H6.out]; exact hx2, R6.out, G6.out⟩
            case measure =>
              have := HP2.out
              have := HP3.out
              simp only [C1.out, C6.out, Option.getD_some, intOf]
              omega
        · have hr2 : (runeF l p2).1 = -1 := by rw [rune_end l p2 hpp]
          have HR : Hid (road l p0 s = ([], t2.line, t2.col, 3)) := Lib.hid (by rw [HRo.out]; exact tel_out l p2 t2 3 hpi (.inl (by rw [hr2]; decide)) (esc_ten t2 HM2.out) (by decide))
          rw [hr2] at KR'
          clear hr2
          go_wp2_with fail
          refine KR.out.mono ?_
          rintro e w3 ⟨rfl, hb3⟩
          have G3 := Lib.hid (grown_below HG.out hb3)
          have R3 := Lib.hid (Blk.below (show Blk wr _ _ _ from HF.out) hb3 hbr)
          have hb3s := Blk.lt R3.out
          clear hb3 KR
          have KO3 := Lib.hid (KO'.out _ R3.out (HT.out _ G3.out))
          go_wp2_with fail
          refine KO3.out.mono ?_
          rintro e w4 ⟨rfl, hr4, hg4⟩
          have G4 := Lib.hid (grown_trans G3.out hg4)
          have R4 := Lib.hid hr4
          have hb4 := Blk.lt hr4
          clear hr4 hg4 KO3
          have KR5 := Lib.hid (KR'.out _ R4.out (HT.out _ G4.out))
          go_wp2_with fail
          refine KR5.out.mono ?_
          rintro e w5 ⟨rfl, hb5⟩
          have G5 := Lib.hid (grown_below G4.out hb5)
          have R5 := Lib.hid (Blk.below (show Blk w4 _ _ _ from R4.out) hb5 hb4)
          clear hb5 KR5
          go_wp2
          go_ret2
          exact ⟨p2, t2, by omega, hpi, t2li, t2co, R5.out, G5.out, .inr ⟨3, by decide, rfl, HR.out⟩⟩
      · -- any other
        have q92 : ((c : Int) == 92) = false := by simp; omega
        have OW := HW.out.next hp HD.out HIs.out (str_any t c HMt.out h32 h34 h92) (HMt.out.trans hm.symm) HW.out.kind HW.out.wl HW.out.wc HW.out.words
        have hv : ¬ (c = 65533 ∧ n = 1) := by
          rintro ⟨rfl, rfl⟩
          have := HIs.out
          rw [rune_at l p hp, HD.out] at this
          cases this
        have htk := enc_take l p c n hp HD.out hv
        have e2x : (advF (addF t (c : Int)) c).text = t.text ++ (l.drop p).take n := by
          show t.text ++ Lib.encodeRune (c : Int) = _
          rw [htk]
        obtain ⟨p2, hp2⟩ : ∃ q, p + n = q := ⟨_, rfl⟩
        obtain ⟨t2, ht2⟩ : ∃ q : RS, advF (addF t (c : Int)) c = q := ⟨_, rfl⟩
        have hn : n = p2 - p := by omega
        rw [hp2] at KO OW hpi
        rw [ht2] at OW e2x
        rw [hn] at e2x
        have KO' : Hid (∀ w', RfAt w' b l p t.line t.col → Utab w' → Calls Tryd.prog 44 #[.pointer (some ⟨b, 0, none⟩)] w' fun e w'' => e = .returned (.tuple #[]) ∧ RfAt w'' b l p2 t2.line t2.col ∧ w'.grownBy w'' (some b)) := Lib.hid (fun w' h hT => by rw [← ht2]; exact KO.out w' h hT)
        have HOW := Lib.hid OW
        have H2x := Lib.hid e2x
        have HP2 : Hid (p < p2) := Lib.hid (by omega)
        have hx0 : ((l.drop p).take (p2 - p)).length = p2 - p := by rw [List.length_take, List.length_drop]; omega
        have hx1 : t.text.length + ((l.drop p).take (p2 - p)).length ≤ 2000 := by omega
        have hx2 : t.text.length + (p2 - p) ≤ p2 - p0 := by omega
        have HX0 := Lib.hid hx0
        have n0 : (0 : Int) ≤ (p : Int) := by omega
        have n1 : (p : Int) ≤ (p2 : Int) := by omega
        have n2 : (p2 : Int) ≤ (l.length : Int) := by omega
        have H10 := Lib.hid h10
        have H34 := Lib.hid h34
        have H92 := Lib.hid h92
        have H32 := Lib.hid h32
        clear OW hv htk e2x KO ht2 hp2 hn hx0 h10 h34 h92 h32
        go_wp2_with fail
        refine KR.out.mono ?_
        rintro e w3 ⟨rfl, hb3⟩
        have G3 := Lib.hid (grown_below HG.out hb3)
        have R3 := Lib.hid (Blk.below (show Blk wr _ _ _ from HF.out) hb3 hbr)
        have hb3s := Blk.lt R3.out
        clear hb3 KR
        have KO3 := Lib.hid (KO'.out _ R3.out (HT.out _ G3.out))
        have a1 : w3.cell? ⟨b, 1, none⟩ = some (.int .i64 (p : Int)) := Blk.cell R3.out 1
        go_wp2_with fail
        refine KO3.out.mono ?_
        rintro e w4 ⟨rfl, hr4, hg4⟩
        have G4 := Lib.hid (grown_trans G3.out hg4)
        have R4 := Lib.hid hr4
        have a0 : w4.cell? ⟨b, 0, none⟩ = some (strV l) := Blk.cell hr4 0
        have a2 : w4.cell? ⟨b, 1, none⟩ = some (.int .i64 (p2 : Int)) := Blk.cell hr4 1
        have C4 := Lib.hid a2
        clear hr4 hg4 KO3 a1
        go_wp2_with fail
        go_quiet (fail)
        go_wp2_with fail
        go_roundw
        case rel =>
          refine ⟨p2, t2, ?_, HOW.out, by rw [H2x.out, List.length_append, HX0.out]; exact hx2, Blk.drewN R4.out _, grown_drewN G4.out _⟩
          rw [H2x.out]
          first
            | exact strEqR (by rw [cut_mid]; exact join_baR _ _)
            | exact strEqR (join_baR _ _)
            | rfl
        case measure =>
          have := HP2.out
          simp only [World.cell?_drewN, C1.out, C4.out, Option.getD_some, intOf]
          omega
    · have hr : runeF l p = (-1, true) := rune_end l p hp
      have HR : Hid (road l p0 s = ([], t.line, t.col, 3)) := Lib.hid (by rw [HW.out.road]; exact tel_out l p t 3 hph (.inl (by rw [hr]; decide)) (str_ten t HMt.out) (by decide))
      rw [hr] at KR
      clear hr
      replace KR := Lib.hid KR
      go_wp2_with fail
      refine KR.out.mono ?_
      rintro e w3 ⟨rfl, hb3⟩
      have G3 := Lib.hid (grown_below HG.out hb3)
      have R3 := Lib.hid (Blk.below (show Blk wr _ _ _ from HF.out) hb3 hbr)
      have hb3s := Blk.lt R3.out
      clear hb3 KR
      go_wp2
      go_ret2
      exact ⟨p, t, hp0p, hph, hpl, hpc, R3.out, G3.out, .inr ⟨3, by decide, rfl, HR.out⟩⟩
end Go.Proofs.YtdiighpmgfbmaaaDoor
