/- What can be read has just that text: the walk. No conditions. -/
import Derived.Test.YtepmmcalnkchdaaLMathS
import Derived.Test.YtepmmcalnkchdaaLWorks
import Derived.Test.YtepmmcalnkchdaaLChecks
import Derived.Deep.DeepCutAuto
namespace Go.Proofs.Ytepmmcalnkchdaa
open Go.RowKit

/-- A short text's value. -/
theorem short_cut (s : ByteArray) (m : Nat) (h : m ≤ 300) : ∃ l : List UInt8, l.length ≤ 300 ∧ s.extract 0 m = ⟨l.toArray⟩ := by
  obtain ⟨⟨l⟩⟩ := s
  refine ⟨(l.drop 0).take (m - 0), ?_, ?_⟩
  · rw [List.length_take]
    omega
  · rw [cut_eq]

/-- What the printer and the look at it answer of what was read. -/
theorem print_read (W0 : World) (A : Option Addr) (c n : Nat) (r : List (List UInt8 × List UInt8)) (t : List UInt8) (mb : List UInt8 × List UInt8 → Bool) (hn : r.length = n) (hc : n ≤ c) (hcm : c ≤ 9223372036854775807) (hs : SlAt W0 A (cellsL r)) (h6 : r.length ≤ 6) (hm : ∀ x ∈ r, x.1.length ≤ 15 ∧ x.2.length ≤ 15 ∧ (labP x).length ≤ 100) (hp : printA labP r = t) :
    ∀ W, Below W0.heap.size W0 W → Calls Try.prog 18 #[.slice A n c] W fun e w' => e = .returned (strV t) ∧ Below W.heap.size W w' := by
  intro W hb
  subst hn hp
  exact print_any A c r W (by omega) hc hcm (fun x hx => (hm x hx).2.2) (hs.below hb)

set_option maxRecDepth 100000 in
set_option maxHeartbeats 16000000 in
theorem again_any (s : ByteArray) (w : World) (hs : s.size ≤ 9223372036854775807) :
    Calls Try.prog 6 #[.string s] w fun e w' => e = .returned (.bool true) ∧ Below w.heap.size w w' := by
  go_enter Try.func6, Try.ntmps6
  go_upto_region 2 with fail
  obtain ⟨l, hl, e⟩ := short_cut s (min (s.size : Int) 300).toNat (by omega)
  rw [e]
  clear e
  rcases hL : readA (labF valF) keyR l with ⟨r0, x0, e0⟩
  rcases hB : readA (labF anyF) pairR l with ⟨r1, x1, e1⟩
  rcases hT : readA terF anyR l with ⟨r2, x2, e2⟩
  have FL := Lib.hid (readA_facts _ _ l (labF_le valF l (valF_le l)) r0 x0 e0 hL)
  have FB := Lib.hid (readA_facts _ _ l (labF_le anyF l (anyF_le l)) r1 x1 e1 hB)
  have FT := Lib.hid (readA_facts _ _ l (terF_le l) r2 x2 e2 hT)
  have OL : Hid (e0 = 0 → printA labP r0 = l ∧ chkA labB keyR r0 = 0 ∧ r0.length ≤ 6) := Lib.hid (fun h => by
    rw [h] at hL
    have := readA_ok (labF valF) labP labB keyR l (labF_ok valF valueB l (valF_ok l)) r0 x0 hL
    exact this)
  have OB : Hid (e1 = 0 → printA labP r1 = l ∧ chkA borB pairR r1 = 0 ∧ r1.length ≤ 6) := Lib.hid (fun h => by
    rw [h] at hB
    have h2 := labF_ok anyF anyB l (anyF_ok l)
    rw [borB_eq] at h2
    exact readA_ok (labF anyF) labP borB pairR l h2 r1 x1 hB)
  have OT : Hid (e2 = 0 → printA terP r2 = l ∧ chkA terB anyR r2 = 0 ∧ r2.length ≤ 6) := Lib.hid (fun h => by
    rw [h] at hT
    exact readA_ok terF terP terB anyR l (terF_ok l) r2 x2 hT)
  have KL : Hid (∀ w, Calls Try.prog 8 #[strV l] w (ListedL w (readA (labF valF) keyR l))) := Lib.hid (fun w => labels_any l w (by omega))
  have KB : Hid (∀ w, Calls Try.prog 10 #[strV l] w (ListedL w (readA (labF anyF) pairR l))) := Lib.hid (fun w => borne_any l w (by omega))
  have KT : Hid (∀ w, Calls Try.prog 12 #[strV l] w (ListedT w (readA terF anyR l))) := Lib.hid (fun w => terms_any l w (by omega))
  rw [hL] at KL
  rw [hB] at KB
  rw [hT] at KT
  clear hL hB hT
  go_wp2_with fail
  refine (KL.out _).mono ?_
  rintro e w1 ⟨v0, rfl, ho, hb⟩
  obtain ⟨A0, c0, rfl, _⟩ := own_slice ho
  have hc0 : r0.length ≤ c0 ∧ c0 ≤ maxLen := own_cap ho
  have S1 := Lib.hid (own_slat ho)
  have B1 := Lib.hid hb
  have C0 := Lib.hid hc0
  clear ho hb hc0
  go_wp2_with fail
  refine (KB.out _).mono ?_
  rintro e w2 ⟨v1, rfl, ho, hb⟩
  obtain ⟨A1, c1, rfl, _⟩ := own_slice ho
  have hc1 : r1.length ≤ c1 ∧ c1 ≤ maxLen := own_cap ho
  have S2 := Lib.hid (own_slat ho)
  have S1b := Lib.hid (SlAt.below S1.out hb)
  have B2 := Lib.hid (B1.out.trans (hb.mono B1.out.size))
  have C1 := Lib.hid hc1
  clear ho hb hc1
  go_wp2_with fail
  refine (KT.out _).mono ?_
  rintro e w3 ⟨v2, rfl, ho, hb⟩
  obtain ⟨A2, c2, rfl, _⟩ := own_slice ho
  have hc2 : r2.length ≤ c2 ∧ c2 ≤ maxLen := own_cap ho
  have S3c := Lib.hid (own_slat ho)
  have S3b := Lib.hid (SlAt.below S2.out hb)
  have S3a := Lib.hid (SlAt.below S1b.out hb)
  have B3 := Lib.hid (B2.out.trans (hb.mono B2.out.size))
  have C2 := Lib.hid hc2
  clear ho hb hc2 S1 S2 S1b B1 B2 KL KB KT
  have PL0 : Hid (e0 = 0 → (∀ W, Below w3.heap.size w3 W → Calls Try.prog 18 #[.slice A0 r0.length c0] W fun e w' => e = .returned (strV l) ∧ Below W.heap.size W w') ∧ (∀ W, Below w3.heap.size w3 W → Calls Try.prog 24 #[.slice A0 r0.length c0] W fun e w' => e = .returned (.int .i64 0) ∧ Below W.heap.size W w')) := Lib.hid (fun h => by
    obtain ⟨h1, h2, h3⟩ := OL.out h
    have hm := chkA_mem h2
    have cm : c0 ≤ 9223372036854775807 := Nat.le_trans C0.out.2 (by decide)
    refine ⟨fun W hb => ?_, fun W hb => ?_⟩
    · have k := print_any A0 c0 r0 W (by omega) C0.out.1 cm (fun x hx => (labB_short (hm.2 x hx)).2.2) (SlAt.below S3a.out hb)
      rw [h1] at k
      exact k
    · have k := check_any A0 c0 r0 W (by omega) C0.out.1 cm (SlAt.below S3a.out hb) (fun x hx => by have := labB_short (hm.2 x hx); omega)
      rw [h2] at k
      exact k)
  have PB0 : Hid (e1 = 0 → (∀ W, Below w3.heap.size w3 W → Calls Try.prog 18 #[.slice A1 r1.length c1] W fun e w' => e = .returned (strV l) ∧ Below W.heap.size W w') ∧ (∀ W, Below w3.heap.size w3 W → Calls Try.prog 17 #[.slice A1 r1.length c1] W fun e w' => e = .returned (.int .i64 0) ∧ Below W.heap.size W w')) := Lib.hid (fun h => by
    obtain ⟨h1, h2, h3⟩ := OB.out h
    have hm := chkA_mem h2
    have cm : c1 ≤ 9223372036854775807 := Nat.le_trans C1.out.2 (by decide)
    refine ⟨fun W hb => ?_, fun W hb => ?_⟩
    · have k := print_any A1 c1 r1 W (by omega) C1.out.1 cm (fun x hx => (borB_short (hm.2 x hx)).2.2) (SlAt.below S3b.out hb)
      rw [h1] at k
      exact k
    · have k := checkBears_any A1 c1 r1 W (by omega) C1.out.1 cm (SlAt.below S3b.out hb) (fun x hx => by have := borB_short (hm.2 x hx); omega)
      rw [h2] at k
      exact k)
  have PT0 : Hid (e2 = 0 → (∀ W, Below w3.heap.size w3 W → Calls Try.prog 21 #[.slice A2 r2.length c2] W fun e w' => e = .returned (strV l) ∧ Below W.heap.size W w') ∧ (∀ W, Below w3.heap.size w3 W → Calls Try.prog 20 #[.slice A2 r2.length c2] W fun e w' => e = .returned (.int .i64 0) ∧ Below W.heap.size W w')) := Lib.hid (fun h => by
    obtain ⟨h1, h2, h3⟩ := OT.out h
    have hm := chkA_mem h2
    have cm : c2 ≤ 9223372036854775807 := Nat.le_trans C2.out.2 (by decide)
    refine ⟨fun W hb => ?_, fun W hb => ?_⟩
    · have k := printTerms_any A2 c2 r2 W (by omega) C2.out.1 cm (fun x hx => (terB_short (hm.2 x hx)).2.2) (SlAt.below S3c.out hb)
      rw [h1] at k
      exact k
    · have k := checkTerms_any A2 c2 r2 W (by omega) C2.out.1 cm (SlAt.below S3c.out hb) (fun x hx => by have := terB_short (hm.2 x hx); omega)
      rw [h2] at k
      exact k)
  clear S3a S3b S3c OL OB OT C0 C1 C2
  go_upto_region 5 with fail
  go_cut [90] (fun s90 wx => s90 = .bool false ∧ Below w.heap.size w wx)
  case first =>
    have HX := Lib.hid (Below.refl w3.heap.size w3)
    by_cases he : e0 = 0
    · have heb : (e0 == 0) = true := by simpa using he
      have hex : ((x0 : Int) != 0) = false := by have := FL.out.2.2.2 he; simp [this]
      obtain ⟨PL, CL⟩ := PL0.out he
      replace PL := Lib.hid PL
      replace CL := Lib.hid CL
      have He0 := Lib.hid he
      clear he
      by_cases hf : e1 = 0
      · have hfb : (e1 == 0) = true := by simpa using hf
        have hfx : ((x1 : Int) != 0) = false := by have := FB.out.2.2.2 hf; simp [this]
        obtain ⟨PB, CB⟩ := PB0.out hf
        replace PB := Lib.hid PB
        replace CB := Lib.hid CB
        have Hf0 := Lib.hid hf
        clear hf
        by_cases hg : e2 = 0
        · have hgb : (e2 == 0) = true := by simpa using hg
          have hgx : ((x2 : Int) != 0) = false := by have := FT.out.2.2.2 hg; simp [this]
          obtain ⟨PT, CT⟩ := PT0.out hg
          replace PT := Lib.hid PT
          replace CT := Lib.hid CT
          have Hg0 := Lib.hid hg
          clear hg
          go_wp2_with fail
          refine (PL.out _ HX.out).mono ?_
          rintro e w4 ⟨rfl, hb⟩
          replace HX := Lib.hid (HX.out.trans (hb.mono HX.out.size))
          clear hb
          go_wp2_with fail
          refine (CL.out _ HX.out).mono ?_
          rintro e w5 ⟨rfl, hb⟩
          replace HX := Lib.hid (HX.out.trans (hb.mono HX.out.size))
          clear hb
          go_wp2_with fail
          refine (PB.out _ HX.out).mono ?_
          rintro e w6 ⟨rfl, hb⟩
          replace HX := Lib.hid (HX.out.trans (hb.mono HX.out.size))
          clear hb
          go_wp2_with fail
          refine (CB.out _ HX.out).mono ?_
          rintro e w7 ⟨rfl, hb⟩
          replace HX := Lib.hid (HX.out.trans (hb.mono HX.out.size))
          clear hb
          go_wp2_with fail
          refine (PT.out _ HX.out).mono ?_
          rintro e w8 ⟨rfl, hb⟩
          replace HX := Lib.hid (HX.out.trans (hb.mono HX.out.size))
          clear hb
          go_wp2_with fail
          refine (CT.out _ HX.out).mono ?_
          rintro e w9 ⟨rfl, hb⟩
          replace HX := Lib.hid (HX.out.trans (hb.mono HX.out.size))
          clear hb
          go_wp2_with fail
          go_meet
          exact ⟨rfl, B3.out.trans (HX.out.mono B3.out.size)⟩
        · have hgb : (e2 == 0) = false := by simpa using hg
          have Hg0 := Lib.hid hg
          clear hg
          go_wp2_with fail
          refine (PL.out _ HX.out).mono ?_
          rintro e w4 ⟨rfl, hb⟩
          replace HX := Lib.hid (HX.out.trans (hb.mono HX.out.size))
          clear hb
          go_wp2_with fail
          refine (CL.out _ HX.out).mono ?_
          rintro e w5 ⟨rfl, hb⟩
          replace HX := Lib.hid (HX.out.trans (hb.mono HX.out.size))
          clear hb
          go_wp2_with fail
          refine (PB.out _ HX.out).mono ?_
          rintro e w6 ⟨rfl, hb⟩
          replace HX := Lib.hid (HX.out.trans (hb.mono HX.out.size))
          clear hb
          go_wp2_with fail
          refine (CB.out _ HX.out).mono ?_
          rintro e w7 ⟨rfl, hb⟩
          replace HX := Lib.hid (HX.out.trans (hb.mono HX.out.size))
          clear hb
          go_wp2_with fail
          go_meet
          exact ⟨rfl, B3.out.trans (HX.out.mono B3.out.size)⟩
      · have hfb : (e1 == 0) = false := by simpa using hf
        have Hf0 := Lib.hid hf
        clear hf
        by_cases hg : e2 = 0
        · have hgb : (e2 == 0) = true := by simpa using hg
          have hgx : ((x2 : Int) != 0) = false := by have := FT.out.2.2.2 hg; simp [this]
          obtain ⟨PT, CT⟩ := PT0.out hg
          replace PT := Lib.hid PT
          replace CT := Lib.hid CT
          have Hg0 := Lib.hid hg
          clear hg
          go_wp2_with fail
          refine (PL.out _ HX.out).mono ?_
          rintro e w4 ⟨rfl, hb⟩
          replace HX := Lib.hid (HX.out.trans (hb.mono HX.out.size))
          clear hb
          go_wp2_with fail
          refine (CL.out _ HX.out).mono ?_
          rintro e w5 ⟨rfl, hb⟩
          replace HX := Lib.hid (HX.out.trans (hb.mono HX.out.size))
          clear hb
          go_wp2_with fail
          refine (PT.out _ HX.out).mono ?_
          rintro e w6 ⟨rfl, hb⟩
          replace HX := Lib.hid (HX.out.trans (hb.mono HX.out.size))
          clear hb
          go_wp2_with fail
          refine (CT.out _ HX.out).mono ?_
          rintro e w7 ⟨rfl, hb⟩
          replace HX := Lib.hid (HX.out.trans (hb.mono HX.out.size))
          clear hb
          go_wp2_with fail
          go_meet
          exact ⟨rfl, B3.out.trans (HX.out.mono B3.out.size)⟩
        · have hgb : (e2 == 0) = false := by simpa using hg
          have Hg0 := Lib.hid hg
          clear hg
          go_wp2_with fail
          refine (PL.out _ HX.out).mono ?_
          rintro e w4 ⟨rfl, hb⟩
          replace HX := Lib.hid (HX.out.trans (hb.mono HX.out.size))
          clear hb
          go_wp2_with fail
          refine (CL.out _ HX.out).mono ?_
          rintro e w5 ⟨rfl, hb⟩
          replace HX := Lib.hid (HX.out.trans (hb.mono HX.out.size))
          clear hb
          go_wp2_with fail
          go_meet
          exact ⟨rfl, B3.out.trans (HX.out.mono B3.out.size)⟩
    · have heb : (e0 == 0) = false := by simpa using he
      have He0 := Lib.hid he
      clear he
      by_cases hf : e1 = 0
      · have hfb : (e1 == 0) = true := by simpa using hf
        have hfx : ((x1 : Int) != 0) = false := by have := FB.out.2.2.2 hf; simp [this]
        obtain ⟨PB, CB⟩ := PB0.out hf
        replace PB := Lib.hid PB
        replace CB := Lib.hid CB
        have Hf0 := Lib.hid hf
        clear hf
        by_cases hg : e2 = 0
        · have hgb : (e2 == 0) = true := by simpa using hg
          have hgx : ((x2 : Int) != 0) = false := by have := FT.out.2.2.2 hg; simp [this]
          obtain ⟨PT, CT⟩ := PT0.out hg
          replace PT := Lib.hid PT
          replace CT := Lib.hid CT
          have Hg0 := Lib.hid hg
          clear hg
          go_wp2_with fail
          refine (PB.out _ HX.out).mono ?_
          rintro e w4 ⟨rfl, hb⟩
          replace HX := Lib.hid (HX.out.trans (hb.mono HX.out.size))
          clear hb
          go_wp2_with fail
          refine (CB.out _ HX.out).mono ?_
          rintro e w5 ⟨rfl, hb⟩
          replace HX := Lib.hid (HX.out.trans (hb.mono HX.out.size))
          clear hb
          go_wp2_with fail
          refine (PT.out _ HX.out).mono ?_
          rintro e w6 ⟨rfl, hb⟩
          replace HX := Lib.hid (HX.out.trans (hb.mono HX.out.size))
          clear hb
          go_wp2_with fail
          refine (CT.out _ HX.out).mono ?_
          rintro e w7 ⟨rfl, hb⟩
          replace HX := Lib.hid (HX.out.trans (hb.mono HX.out.size))
          clear hb
          go_wp2_with fail
          go_meet
          exact ⟨rfl, B3.out.trans (HX.out.mono B3.out.size)⟩
        · have hgb : (e2 == 0) = false := by simpa using hg
          have Hg0 := Lib.hid hg
          clear hg
          go_wp2_with fail
          refine (PB.out _ HX.out).mono ?_
          rintro e w4 ⟨rfl, hb⟩
          replace HX := Lib.hid (HX.out.trans (hb.mono HX.out.size))
          clear hb
          go_wp2_with fail
          refine (CB.out _ HX.out).mono ?_
          rintro e w5 ⟨rfl, hb⟩
          replace HX := Lib.hid (HX.out.trans (hb.mono HX.out.size))
          clear hb
          go_wp2_with fail
          go_meet
          exact ⟨rfl, B3.out.trans (HX.out.mono B3.out.size)⟩
      · have hfb : (e1 == 0) = false := by simpa using hf
        have Hf0 := Lib.hid hf
        clear hf
        by_cases hg : e2 = 0
        · have hgb : (e2 == 0) = true := by simpa using hg
          have hgx : ((x2 : Int) != 0) = false := by have := FT.out.2.2.2 hg; simp [this]
          obtain ⟨PT, CT⟩ := PT0.out hg
          replace PT := Lib.hid PT
          replace CT := Lib.hid CT
          have Hg0 := Lib.hid hg
          clear hg
          go_wp2_with fail
          refine (PT.out _ HX.out).mono ?_
          rintro e w4 ⟨rfl, hb⟩
          replace HX := Lib.hid (HX.out.trans (hb.mono HX.out.size))
          clear hb
          go_wp2_with fail
          refine (CT.out _ HX.out).mono ?_
          rintro e w5 ⟨rfl, hb⟩
          replace HX := Lib.hid (HX.out.trans (hb.mono HX.out.size))
          clear hb
          go_wp2_with fail
          go_meet
          exact ⟨rfl, B3.out.trans (HX.out.mono B3.out.size)⟩
        · have hgb : (e2 == 0) = false := by simpa using hg
          have Hg0 := Lib.hid hg
          clear hg
          go_wp2_with fail
          go_meet
          exact ⟨rfl, B3.out.trans (HX.out.mono B3.out.size)⟩
  case rest =>
    obtain ⟨rfl, hbc⟩ := hcut
    have BC := Lib.hid hbc
    clear hbc
    have y0 : (0 : Int) ≤ (x0 : Int) := by omega
    have y1 : (0 : Int) ≤ (x1 : Int) := by omega
    have y2 : (0 : Int) ≤ (x2 : Int) := by omega
    have z0 : (x0 : Int) ≤ (l.length : Int) := by have := FL.out.1; omega
    have z1 : (x1 : Int) ≤ (l.length : Int) := by have := FB.out.1; omega
    have z2 : (x2 : Int) ≤ (l.length : Int) := by have := FT.out.1; omega
    by_cases he : e0 = 0
    · have heb : (e0 == 0) = true := by simpa using he
      have he3 : (e0 != 3) = true := by simp [he]
      have He := Lib.hid he
      clear he
      by_cases hg : e2 = 3
      · have hgb : (e2 != 3) = false := by simp [hg]
        have hgx : ((x2 : Int) == (l.length : Int)) = true := by have := FT.out.2.1 hg; simp [this]
        have Hg := Lib.hid hg
        clear hg
        go_wp2_with fail
        refine (works_any _).mono ?_
        rintro e w9 ⟨rfl, hb⟩
        have HB9 := Lib.hid (BC.out.trans (hb.mono BC.out.size))
        clear hb
        go_wp2
        go_ret
        exact ⟨rfl, HB9.out⟩
      · have hgb : (e2 != 3) = true := by simpa using hg
        have Hg := Lib.hid hg
        clear hg
        go_wp2_with fail
        refine (works_any _).mono ?_
        rintro e w9 ⟨rfl, hb⟩
        have HB9 := Lib.hid (BC.out.trans (hb.mono BC.out.size))
        clear hb
        go_wp2
        go_ret
        exact ⟨rfl, HB9.out⟩
    · have heb : (e0 == 0) = false := by simpa using he
      have hnl : ((r0.length : Int) == 0) = true := by have := FL.out.2.2.1 he; simp [this]
      have He := Lib.hid he
      clear he
      by_cases he3 : e0 = 3
      · have he3b : (e0 != 3) = false := by simp [he3]
        have hex : ((x0 : Int) == (l.length : Int)) = true := by have := FL.out.2.1 he3; simp [this]
        have He3 := Lib.hid he3
        clear he3
        by_cases hg : e2 = 3
        · have hgb : (e2 != 3) = false := by simp [hg]
          have hgx : ((x2 : Int) == (l.length : Int)) = true := by have := FT.out.2.1 hg; simp [this]
          have Hg := Lib.hid hg
          clear hg
          go_wp2_with fail
          refine (works_any _).mono ?_
          rintro e w9 ⟨rfl, hb⟩
          have HB9 := Lib.hid (BC.out.trans (hb.mono BC.out.size))
          clear hb
          go_wp2
          go_ret
          exact ⟨rfl, HB9.out⟩
        · have hgb : (e2 != 3) = true := by simpa using hg
          have Hg := Lib.hid hg
          clear hg
          go_wp2_with fail
          refine (works_any _).mono ?_
          rintro e w9 ⟨rfl, hb⟩
          have HB9 := Lib.hid (BC.out.trans (hb.mono BC.out.size))
          clear hb
          go_wp2
          go_ret
          exact ⟨rfl, HB9.out⟩
      · have he3b : (e0 != 3) = true := by simpa using he3
        have He3 := Lib.hid he3
        clear he3
        by_cases hg : e2 = 3
        · have hgb : (e2 != 3) = false := by simp [hg]
          have hgx : ((x2 : Int) == (l.length : Int)) = true := by have := FT.out.2.1 hg; simp [this]
          have Hg := Lib.hid hg
          clear hg
          go_wp2_with fail
          refine (works_any _).mono ?_
          rintro e w9 ⟨rfl, hb⟩
          have HB9 := Lib.hid (BC.out.trans (hb.mono BC.out.size))
          clear hb
          go_wp2
          go_ret
          exact ⟨rfl, HB9.out⟩
        · have hgb : (e2 != 3) = true := by simpa using hg
          have Hg := Lib.hid hg
          clear hg
          go_wp2_with fail
          refine (works_any _).mono ?_
          rintro e w9 ⟨rfl, hb⟩
          have HB9 := Lib.hid (BC.out.trans (hb.mono BC.out.size))
          clear hb
          go_wp2
          go_ret
          exact ⟨rfl, HB9.out⟩

end Go.Proofs.Ytepmmcalnkchdaa
