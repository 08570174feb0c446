/- The printers answer as the document's, of all that may be: the walk. Conditions: the lists lie in memory. -/
import Derived.Test.YtepmmcalnkchdaaLMathS
import Derived.Test.YtepmmcalnkchdaaLWorks
import Derived.Test.YtepmmcalnkchdaaLChecks
import Derived.Test.YtepmmcalnkchdaaLRefPrintL
import Derived.Test.YtepmmcalnkchdaaLRefPrintT
import Derived.Deep.DeepCutAuto
namespace Go.Proofs.Ytepmmcalnkchdaa
open Go.RowKit

theorem chk_two {α : Type} (mb : α → Bool) (ri : α → α → Bool) (l : List α) : chkA mb ri l = 0 ∨ chkA mb ri l = 2 := by
  unfold chkA
  split
  · exact .inr rfl
  · exact .inl rfl
theorem terB_kind {x : Int × List UInt8 × List UInt8} (h : terB x = true) : x.1 = 1 ∨ x.1 = 2 ∨ x.1 = 3 ∨ x.1 = 4 := by
  unfold terB at h
  split at h
  · omega
  · split at h
    · omega
    · cases h

set_option maxRecDepth 100000 in
set_option maxHeartbeats 8000000 in
theorem prints_short (A1 A2 : Option Addr) (c1 c2 : Nat) (l : List (List UInt8 × List UInt8)) (t : List (Int × List UInt8 × List UInt8)) (n1 n2 : Nat) (w : World)
    (m1 : l.length = min n1 12) (m2 : t.length = min n2 12) (hc1 : n1 ≤ c1) (hc2 : n2 ≤ c2) (hcm1 : c1 ≤ maxLen) (hcm2 : c2 ≤ maxLen) (hs1 : SlAt w A1 (cellsL l)) (hs2 : SlAt w A2 (cellsT t))
    (hb1 : ∀ x ∈ l, x.1.length ≤ maxLen ∧ x.2.length ≤ maxLen) (hb2 : ∀ x ∈ t, x.2.1.length ≤ maxLen ∧ x.2.2.length ≤ maxLen) :
    Calls Try.prog 4 #[.slice A1 n1 c1, .slice A2 n2 c2] w fun e w' => e = .returned (.bool true) ∧ Below w.heap.size w w' := by
  have big : maxLen ≤ 9223372036854775807 := by decide
  have cm1 : c1 ≤ 9223372036854775807 := Nat.le_trans hcm1 big
  have cm2 : c2 ≤ 9223372036854775807 := Nat.le_trans hcm2 big
  have hl : n1 ≤ 9223372036854775807 := by omega
  have ht : n2 ≤ 9223372036854775807 := by omega
  have d1 : l.length ≤ c1 := by omega
  have d2 : t.length ≤ c2 := by omega
  have d3 : l.length ≤ 12 := by omega
  have d4 : t.length ≤ 12 := by omega
  have KC1 : Hid (∀ W, Below w.heap.size w W → Calls Try.prog 17 #[.slice A1 l.length c1] W fun e w' => e = .returned (.int .i64 (chkA borB pairR l)) ∧ Below W.heap.size W w') := Lib.hid (fun W hb => checkBears_any A1 c1 l W (by omega) d1 cm1 (hs1.below hb) (fun x hx => by have := hb1 x hx; omega))
  have KC2 : Hid (∀ W, Below w.heap.size w W → Calls Try.prog 20 #[.slice A2 t.length c2] W fun e w' => e = .returned (.int .i64 (chkA terB anyR t)) ∧ Below W.heap.size W w') := Lib.hid (fun W hb => checkTerms_any A2 c2 t W (by omega) d2 cm2 (hs2.below hb) (fun x hx => by have := hb2 x hx; omega))
  have KP1 : Hid (chkA borB pairR l = 0 → ∀ W, Below w.heap.size w W → Calls Try.prog 18 #[.slice A1 l.length c1] W fun e w' => e = .returned (strV (printA labP l)) ∧ Below W.heap.size W w') := Lib.hid (fun h W hb => print_any A1 c1 l W d3 d1 cm1 (fun x hx => (borB_short ((chkA_mem h).2 x hx)).2.2) (hs1.below hb))
  have KR1 : Hid (chkA borB pairR l = 0 → ∀ W, Below w.heap.size w W → Calls Try.prog 19 #[.slice A1 l.length c1] W fun e w' => e = .returned (strV (printA labP l)) ∧ Below W.heap.size W w') := Lib.hid (fun h W hb => refPrint_any A1 c1 l W d3 d1 cm1 (fun x hx => (borB_short ((chkA_mem h).2 x hx)).2.2) (hs1.below hb))
  have KP2 : Hid (chkA terB anyR t = 0 → ∀ W, Below w.heap.size w W → Calls Try.prog 21 #[.slice A2 t.length c2] W fun e w' => e = .returned (strV (printA terP t)) ∧ Below W.heap.size W w') := Lib.hid (fun h W hb => printTerms_any A2 c2 t W d4 d2 cm2 (fun x hx => (terB_short ((chkA_mem h).2 x hx)).2.2) (hs2.below hb))
  have KR2 : Hid (chkA terB anyR t = 0 → ∀ W, Below w.heap.size w W → Calls Try.prog 22 #[.slice A2 t.length c2] W fun e w' => e = .returned (strV (printA terP t)) ∧ Below W.heap.size W w') := Lib.hid (fun h W hb => refTerms_any A2 c2 t W d4 d2 cm2 (fun x hx => terB_short ((chkA_mem h).2 x hx)) (fun x hx => terB_kind ((chkA_mem h).2 x hx)) (hs2.below hb))
  have hm1 : min (n1 : Int) 12 = (l.length : Int) := by omega
  have hm2 : min (n2 : Int) 12 = (t.length : Int) := by omega
  have e1 : (0 : Int) ≤ (l.length : Int) := by omega
  have e2 : (l.length : Int) ≤ (c1 : Int) := by omega
  have e3 : (0 : Int) ≤ (t.length : Int) := by omega
  have e4 : (t.length : Int) ≤ (c2 : Int) := by omega
  have M1 := Lib.hid m1
  have M2 := Lib.hid m2
  clear hs1 hs2 hb1 hb2 m1 m2 big
  go_enter Try.func4, Try.ntmps4
  go_wp2
  go_quiet (fail)
  clear hm1 hm2
  rcases chk_two borB pairR l with h1 | h1
  · have P1 := Lib.hid (KP1.out h1)
    have R1 := Lib.hid (KR1.out h1)
    have C1 := Lib.hid KC1.out
    rw [h1] at C1
    clear h1 KC1 KP1 KR1
    generalize printA labP l = T1 at P1 R1
    rcases chk_two terB anyR t with h2 | h2
    · have P2 := Lib.hid (KP2.out h2)
      have R2 := Lib.hid (KR2.out h2)
      have C2 := Lib.hid KC2.out
      rw [h2] at C2
      clear h2 KC2 KP2 KR2
      generalize printA terP t = T2 at P2 R2
      go_wp2_with fail
      refine (C1.out _ (belowN (Below.refl w.heap.size w) _)).mono ?_
      rintro e w1 ⟨rfl, hb⟩
      have HX := Lib.hid ((belowN (Below.refl w.heap.size w) _).trans (Below.mono hb (Nat.le_refl _)))
      clear hb
      go_wp2_with fail
      refine (P1.out _ HX.out).mono ?_
      rintro e w2 ⟨rfl, hb⟩
      replace HX := Lib.hid (HX.out.trans (hb.mono HX.out.size))
      clear hb
      go_wp2_with fail
      refine (R1.out _ HX.out).mono ?_
      rintro e w3 ⟨rfl, hb⟩
      replace HX := Lib.hid (HX.out.trans (hb.mono HX.out.size))
      clear hb
      go_wp2_with fail
      refine (C2.out _ HX.out).mono ?_
      rintro e w4 ⟨rfl, hb⟩
      replace HX := Lib.hid (HX.out.trans (hb.mono HX.out.size))
      clear hb
      go_wp2_with fail
      refine (P2.out _ HX.out).mono ?_
      rintro e w5 ⟨rfl, hb⟩
      replace HX := Lib.hid (HX.out.trans (hb.mono HX.out.size))
      clear hb
      go_wp2_with fail
      refine (R2.out _ HX.out).mono ?_
      rintro e w6 ⟨rfl, hb⟩
      replace HX := Lib.hid (HX.out.trans (hb.mono HX.out.size))
      clear hb
      go_wp2_with fail
      refine (works_any _).mono ?_
      rintro e w7 ⟨rfl, hb⟩
      replace HX := Lib.hid (HX.out.trans (hb.mono HX.out.size))
      clear hb
      go_wp2
      go_ret
      exact ⟨rfl, HX.out⟩
    · have C2 := Lib.hid KC2.out
      rw [h2] at C2
      clear h2 KC2 KP2 KR2
      go_wp2_with fail
      refine (C1.out _ (belowN (Below.refl w.heap.size w) _)).mono ?_
      rintro e w1 ⟨rfl, hb⟩
      have HX := Lib.hid ((belowN (Below.refl w.heap.size w) _).trans (Below.mono hb (Nat.le_refl _)))
      clear hb
      go_wp2_with fail
      refine (P1.out _ HX.out).mono ?_
      rintro e w2 ⟨rfl, hb⟩
      replace HX := Lib.hid (HX.out.trans (hb.mono HX.out.size))
      clear hb
      go_wp2_with fail
      refine (R1.out _ HX.out).mono ?_
      rintro e w3 ⟨rfl, hb⟩
      replace HX := Lib.hid (HX.out.trans (hb.mono HX.out.size))
      clear hb
      go_wp2_with fail
      refine (C2.out _ HX.out).mono ?_
      rintro e w4 ⟨rfl, hb⟩
      replace HX := Lib.hid (HX.out.trans (hb.mono HX.out.size))
      clear hb
      go_wp2_with fail
      refine (works_any _).mono ?_
      rintro e w5 ⟨rfl, hb⟩
      replace HX := Lib.hid (HX.out.trans (hb.mono HX.out.size))
      clear hb
      go_wp2
      go_ret
      exact ⟨rfl, HX.out⟩
  · have C1 := Lib.hid KC1.out
    rw [h1] at C1
    clear h1 KC1 KP1 KR1
    rcases chk_two terB anyR t with h2 | h2
    · have P2 := Lib.hid (KP2.out h2)
      have R2 := Lib.hid (KR2.out h2)
      have C2 := Lib.hid KC2.out
      rw [h2] at C2
      clear h2 KC2 KP2 KR2
      generalize printA terP t = T2 at P2 R2
      go_wp2_with fail
      refine (C1.out _ (belowN (Below.refl w.heap.size w) _)).mono ?_
      rintro e w1 ⟨rfl, hb⟩
      have HX := Lib.hid ((belowN (Below.refl w.heap.size w) _).trans (Below.mono hb (Nat.le_refl _)))
      clear hb
      go_wp2_with fail
      refine (C2.out _ HX.out).mono ?_
      rintro e w2 ⟨rfl, hb⟩
      replace HX := Lib.hid (HX.out.trans (hb.mono HX.out.size))
      clear hb
      go_wp2_with fail
      refine (P2.out _ HX.out).mono ?_
      rintro e w3 ⟨rfl, hb⟩
      replace HX := Lib.hid (HX.out.trans (hb.mono HX.out.size))
      clear hb
      go_wp2_with fail
      refine (R2.out _ HX.out).mono ?_
      rintro e w4 ⟨rfl, hb⟩
      replace HX := Lib.hid (HX.out.trans (hb.mono HX.out.size))
      clear hb
      go_wp2_with fail
      refine (works_any _).mono ?_
      rintro e w5 ⟨rfl, hb⟩
      replace HX := Lib.hid (HX.out.trans (hb.mono HX.out.size))
      clear hb
      go_wp2
      go_ret
      exact ⟨rfl, HX.out⟩
    · have C2 := Lib.hid KC2.out
      rw [h2] at C2
      clear h2 KC2 KP2 KR2
      go_wp2_with fail
      refine (C1.out _ (belowN (Below.refl w.heap.size w) _)).mono ?_
      rintro e w1 ⟨rfl, hb⟩
      have HX := Lib.hid ((belowN (Below.refl w.heap.size w) _).trans (Below.mono hb (Nat.le_refl _)))
      clear hb
      go_wp2_with fail
      refine (C2.out _ HX.out).mono ?_
      rintro e w2 ⟨rfl, hb⟩
      replace HX := Lib.hid (HX.out.trans (hb.mono HX.out.size))
      clear hb
      go_wp2_with fail
      refine (works_any _).mono ?_
      rintro e w3 ⟨rfl, hb⟩
      replace HX := Lib.hid (HX.out.trans (hb.mono HX.out.size))
      clear hb
      go_wp2
      go_ret
      exact ⟨rfl, HX.out⟩

end Go.Proofs.Ytepmmcalnkchdaa
