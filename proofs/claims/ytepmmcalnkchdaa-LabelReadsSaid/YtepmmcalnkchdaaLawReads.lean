/- What is read is what the document reads: the walk. No conditions. -/
import Derived.Test.YtepmmcalnkchdaaLRefLabs
import Derived.Test.YtepmmcalnkchdaaLSameL
import Derived.Test.YtepmmcalnkchdaaLWorks
import Derived.Test.YtepmmcalnkchdaaLMathS
import Derived.Deep.DeepCutAuto
namespace Go.Proofs.Ytepmmcalnkchdaa
open Go.RowKit

/-- A short text's value. -/
theorem short_text (s : ByteArray) (m : Nat) (h : m ≤ 300) : ∃ l : List UInt8, l.length ≤ 300 ∧ s.extract 0 m = ⟨l.toArray⟩ := by
  obtain ⟨⟨l⟩⟩ := s
  refine ⟨(l.drop 0).take (m - 0), ?_, ?_⟩
  · rw [List.length_take]
    omega
  · rw [cut_eq]

theorem lens_any {α : Type} {r : List α} {e : Int} (h0 : e = 0 → r.length ≤ 6) (h1 : e ≠ 0 → r = []) : r.length ≤ 6 := by
  by_cases h : e = 0
  · exact h0 h
  · rw [h1 h]
    exact Nat.zero_le _

set_option maxRecDepth 100000 in
set_option maxHeartbeats 16000000 in
theorem reads_any (s : ByteArray) (w : World) (hs : s.size ≤ 9223372036854775807) :
    Calls Try.prog 3 #[.string s] w fun e w' => e = .returned (.bool true) ∧ Below w.heap.size w w' := by
  go_enter Try.func3, Try.ntmps3
  go_upto_region 2 with fail
  obtain ⟨l, hl, e⟩ := short_text s (min (s.size : Int) 300).toNat (by omega)
  rw [e]
  clear e
  rcases hL : readA (labF valF) keyR l with ⟨r0, x0, e0⟩
  rcases hB : readA (labF anyF) pairR l with ⟨r1, x1, e1⟩
  rcases hT : readA terF anyR l with ⟨r2, x2, e2⟩
  have FL := readA_facts _ _ l (labF_le valF l (valF_le l)) r0 x0 e0 hL
  have FB := readA_facts _ _ l (labF_le anyF l (anyF_le l)) r1 x1 e1 hB
  have FT := readA_facts _ _ l (terF_le l) r2 x2 e2 hT
  have L0 : Hid (r0.length ≤ 6) := Lib.hid (lens_any (fun h => by
    rw [h] at hL
    exact (readA_ok (labF valF) labP labB keyR l (labF_ok valF valueB l (valF_ok l)) r0 x0 hL).2.2) FL.2.2.1)
  have L1 : Hid (r1.length ≤ 6) := Lib.hid (lens_any (fun h => by
    rw [h] at hB
    have h2 := labF_ok anyF anyB l (anyF_ok l)
    rw [borB_eq] at h2
    exact (readA_ok (labF anyF) labP borB pairR l h2 r1 x1 hB).2.2) FB.2.2.1)
  have L2 : Hid (r2.length ≤ 6) := Lib.hid (lens_any (fun h => by
    rw [h] at hT
    exact (readA_ok terF terP terB anyR l (terF_ok l) r2 x2 hT).2.2) FT.2.2.1)
  have KL : Hid (∀ w, Calls Try.prog 8 #[strV l] w (ListedL w (readA (labF valF) keyR l))) := Lib.hid (fun w => labels_any l w (by omega))
  have KB : Hid (∀ w, Calls Try.prog 10 #[strV l] w (ListedL w (readA (labF anyF) pairR l))) := Lib.hid (fun w => borne_any l w (by omega))
  have KT : Hid (∀ w, Calls Try.prog 12 #[strV l] w (ListedT w (readA terF anyR l))) := Lib.hid (fun w => terms_any l w (by omega))
  have DL : Hid (∀ w, Calls Try.prog 9 #[strV l] w (ListedL w (readA (labF valF) keyR l))) := Lib.hid (fun w => refL_any l w hl)
  have DB : Hid (∀ w, Calls Try.prog 11 #[strV l] w (ListedL w (readA (labF anyF) pairR l))) := Lib.hid (fun w => refB_any l w hl)
  have DT : Hid (∀ w, Calls Try.prog 13 #[strV l] w (ListedT w (readA terF anyR l))) := Lib.hid (fun w => refT_any l w hl)
  rw [hL] at KL DL
  rw [hB] at KB DB
  rw [hT] at KT DT
  clear hL hB hT FL FB FT
  go_wp2_with fail
  refine (KL.out _).mono ?_
  rintro e w1 ⟨v, rfl, ho, hb⟩
  obtain ⟨A1, c1, rfl, _⟩ := own_slice ho
  have hc : r0.length ≤ c1 ∧ c1 ≤ maxLen := own_cap ho
  have C1 := Lib.hid hc
  have S1 := Lib.hid (own_slat ho)
  have B1 := Lib.hid hb
  clear ho hb hc
  go_wp2_with fail
  refine (DL.out _).mono ?_
  rintro e w2 ⟨v, rfl, ho, hb⟩
  obtain ⟨A2, c2, rfl, _⟩ := own_slice ho
  have hc : r0.length ≤ c2 ∧ c2 ≤ maxLen := own_cap ho
  have C2 := Lib.hid hc
  replace S1 := Lib.hid (SlAt.below S1.out hb)
  have S2 := Lib.hid (own_slat ho)
  have B2 := Lib.hid (B1.out.trans (hb.mono B1.out.size))
  clear ho hb hc
  go_wp2_with fail
  refine (KB.out _).mono ?_
  rintro e w3 ⟨v, rfl, ho, hb⟩
  obtain ⟨A3, c3, rfl, _⟩ := own_slice ho
  have hc : r1.length ≤ c3 ∧ c3 ≤ maxLen := own_cap ho
  have C3 := Lib.hid hc
  replace S1 := Lib.hid (SlAt.below S1.out hb)
  replace S2 := Lib.hid (SlAt.below S2.out hb)
  have S3 := Lib.hid (own_slat ho)
  have B3 := Lib.hid (B2.out.trans (hb.mono B2.out.size))
  clear ho hb hc
  go_wp2_with fail
  refine (DB.out _).mono ?_
  rintro e w4 ⟨v, rfl, ho, hb⟩
  obtain ⟨A4, c4, rfl, _⟩ := own_slice ho
  have hc : r1.length ≤ c4 ∧ c4 ≤ maxLen := own_cap ho
  have C4 := Lib.hid hc
  replace S1 := Lib.hid (SlAt.below S1.out hb)
  replace S2 := Lib.hid (SlAt.below S2.out hb)
  replace S3 := Lib.hid (SlAt.below S3.out hb)
  have S4 := Lib.hid (own_slat ho)
  have B4 := Lib.hid (B3.out.trans (hb.mono B3.out.size))
  clear ho hb hc
  go_wp2_with fail
  refine (KT.out _).mono ?_
  rintro e w5 ⟨v, rfl, ho, hb⟩
  obtain ⟨A5, c5, rfl, _⟩ := own_slice ho
  have hc : r2.length ≤ c5 ∧ c5 ≤ maxLen := own_cap ho
  have C5 := Lib.hid hc
  replace S1 := Lib.hid (SlAt.below S1.out hb)
  replace S2 := Lib.hid (SlAt.below S2.out hb)
  replace S3 := Lib.hid (SlAt.below S3.out hb)
  replace S4 := Lib.hid (SlAt.below S4.out hb)
  have S5 := Lib.hid (own_slat ho)
  have B5 := Lib.hid (B4.out.trans (hb.mono B4.out.size))
  clear ho hb hc
  go_wp2_with fail
  refine (DT.out _).mono ?_
  rintro e w6 ⟨v, rfl, ho, hb⟩
  obtain ⟨A6, c6, rfl, _⟩ := own_slice ho
  have hc : r2.length ≤ c6 ∧ c6 ≤ maxLen := own_cap ho
  have C6 := Lib.hid hc
  replace S1 := Lib.hid (SlAt.below S1.out hb)
  replace S2 := Lib.hid (SlAt.below S2.out hb)
  replace S3 := Lib.hid (SlAt.below S3.out hb)
  replace S4 := Lib.hid (SlAt.below S4.out hb)
  replace S5 := Lib.hid (SlAt.below S5.out hb)
  have S6 := Lib.hid (own_slat ho)
  have B6 := Lib.hid (B5.out.trans (hb.mono B5.out.size))
  clear ho hb hc
  go_wp2_with fail
  refine (sameL_any A1 A2 c1 c2 r0 _ L0.out C1.out.1 (Nat.le_trans C1.out.2 (by decide)) C2.out.1 (Nat.le_trans C2.out.2 (by decide)) S1.out S2.out).mono ?_
  rintro e w7 ⟨rfl, hb⟩
  have B7 := Lib.hid (B6.out.trans (hb.mono B6.out.size))
  replace S3 := Lib.hid (SlAt.below S3.out hb)
  replace S4 := Lib.hid (SlAt.below S4.out hb)
  replace S5 := Lib.hid (SlAt.below S5.out hb)
  replace S6 := Lib.hid (SlAt.below S6.out hb)
  clear hb
  go_wp2_with fail
  refine (sameL_any A3 A4 c3 c4 r1 _ L1.out C3.out.1 (Nat.le_trans C3.out.2 (by decide)) C4.out.1 (Nat.le_trans C4.out.2 (by decide)) S3.out S4.out).mono ?_
  rintro e w8 ⟨rfl, hb⟩
  have B8 := Lib.hid (B7.out.trans (hb.mono B7.out.size))
  replace S5 := Lib.hid (SlAt.below S5.out hb)
  replace S6 := Lib.hid (SlAt.below S6.out hb)
  clear hb
  go_wp2_with fail
  refine (sameT_any A5 A6 c5 c6 r2 _ L2.out C5.out.1 (Nat.le_trans C5.out.2 (by decide)) C6.out.1 (Nat.le_trans C6.out.2 (by decide)) S5.out S6.out).mono ?_
  rintro e w9 ⟨rfl, hb⟩
  have B9 := Lib.hid (B8.out.trans (hb.mono B8.out.size))
  clear hb
  go_wp2_with fail
  refine (works_any _).mono ?_
  rintro e w10 ⟨rfl, hb⟩
  have B10 := Lib.hid (B9.out.trans (hb.mono B9.out.size))
  clear hb
  go_wp2
  go_ret
  exact ⟨rfl, B10.out⟩

end Go.Proofs.Ytepmmcalnkchdaa
