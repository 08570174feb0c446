/- What may be is read of its text as it was: the walk. No conditions. -/
import Derived.Test.YteclbkjonaildaaLToldM
import Derived.Test.YteclbkjonaildaaLWorks
import Derived.Test.YteclbkjonaildaaLChecks
import Derived.Test.YteclbkjonaildaaLEq
import Derived.Deep.DeepCutAuto
namespace Go.Proofs.Yteclbkjonaildaa
open Go.RowKit

theorem info_T' : (Try.prog.info? 43).map (fun i => (i.zero, i.size, i.bytes)) = some (some (.agg #[.int .i64 0, .string ⟨#[]⟩, .string ⟨#[]⟩]), 3, 40) := by kernel_rfl
set_option maxRecDepth 100000 in
set_option maxHeartbeats 16000000 in
theorem back_any (A : Option Addr) (c : Nat) (l : List (Int × Int × Int)) (w : World) (hc : l.length ≤ c) (hcm : c ≤ maxLen) (hs : SlAt w A (cellsP l)) :
    Calls Try.prog 5 #[.slice A l.length c] w fun e w' => e = .returned (.bool true) ∧ Below w.heap.size w w' := by
  have HS := Lib.hid hs
  have HC := Lib.hid (⟨hc, hcm⟩ : l.length ≤ c ∧ c ≤ maxLen)
  unfold maxLen at hcm
  have hml := labelsF_len l
  have hmT : (termsF l).length ≤ 6 := by unfold termsF; simp; omega
  have CA := chkA_mem (labelsF_ok l)
  have CB := chkA_mem (labelsF_bor l)
  have CT := chkA_mem (termsF_ok l)
  have shL : ∀ x ∈ labelsF l, x.1.length ≤ 15 ∧ x.2.length ≤ 15 ∧ (labP x).length ≤ 100 := fun x hx => labB_short (CA.2 x hx)
  have shT : ∀ x ∈ termsF l, x.2.1.length ≤ 15 ∧ x.2.2.length ≤ 15 ∧ (terP x).length ≤ 100 := fun x hx => terB_short (CT.2 x hx)
  have pl : (printA labP (labelsF l)).length ≤ 140737488355328 := by
    have := printK_len labP (labelsF l) 100 (fun x hx => (shL x hx).2.2) (labelsF l).length
    unfold printA
    omega
  have pt : (printA terP (termsF l)).length ≤ 140737488355328 := by
    have := printK_len terP (termsF l) 100 (fun x hx => (shT x hx).2.2) (termsF l).length
    unfold printA
    omega
  have KL := Lib.hid (fun w (hs : SlAt w A (cellsP l)) => labelsN_any A c l w hc HC.out.2 hs)
  have r1 := readLab_print (labelsF l) (labelsF_ok l)
  have r2 := readBor_print (labelsF l) (labelsF_bor l)
  have r3 := readTer_print (termsF l) (termsF_ok l)
  have K1 : Hid (∀ w, Calls Try.prog 8 #[strV (printA labP (labelsF l))] w (ListedL w (labelsF l, 0, 0))) := Lib.hid (fun w => by rw [← r1]; exact labels_any _ w pl)
  have K2 : Hid (∀ w, Calls Try.prog 10 #[strV (printA labP (labelsF l))] w (ListedL w (labelsF l, 0, 0))) := Lib.hid (fun w => by rw [← r2]; exact borne_any _ w pl)
  have K3 : Hid (∀ w, Calls Try.prog 12 #[strV (printA terP (termsF l))] w (ListedT w (termsF l, 0, 0))) := Lib.hid (fun w => by rw [← r3]; exact terms_any _ w pt)
  have P1 : Hid (∀ (B : Option Addr) (d : Nat) w, (labelsF l).length ≤ d → d ≤ 9223372036854775807 → SlAt w B (cellsL (labelsF l)) → Calls Try.prog 18 #[.slice B (labelsF l).length d] w fun e w' => e = .returned (strV (printA labP (labelsF l))) ∧ Below w.heap.size w w') :=
    Lib.hid (fun B d w h1 h2 h3 => print_any B d (labelsF l) w (by omega) h1 h2 (fun x hx => (shL x hx).2.2) h3)
  have P2 : Hid (∀ (B : Option Addr) (d : Nat) w, (termsF l).length ≤ d → d ≤ 9223372036854775807 → SlAt w B (cellsT (termsF l)) → Calls Try.prog 21 #[.slice B (termsF l).length d] w fun e w' => e = .returned (strV (printA terP (termsF l))) ∧ Below w.heap.size w w') :=
    Lib.hid (fun B d w h1 h2 h3 => printTerms_any B d (termsF l) w (by omega) h1 h2 (fun x hx => (shT x hx).2.2) h3)
  have C1 : Hid (∀ (B : Option Addr) (d : Nat) w, (labelsF l).length ≤ d → d ≤ 9223372036854775807 → SlAt w B (cellsL (labelsF l)) → Calls Try.prog 24 #[.slice B (labelsF l).length d] w fun e w' => e = .returned (.int .i64 0) ∧ Below w.heap.size w w') :=
    Lib.hid (fun B d w h1 h2 h3 => by
      have k := check_any B d (labelsF l) w (by omega) h1 h2 h3 (fun x hx => by have := shL x hx; omega)
      rw [labelsF_ok] at k
      exact k)
  have C2 : Hid (∀ (B : Option Addr) (d : Nat) w, (termsF l).length ≤ d → d ≤ 9223372036854775807 → SlAt w B (cellsT (termsF l)) → Calls Try.prog 20 #[.slice B (termsF l).length d] w fun e w' => e = .returned (.int .i64 0) ∧ Below w.heap.size w w') :=
    Lib.hid (fun B d w h1 h2 h3 => by
      have k := checkTerms_any B d (termsF l) w (by omega) h1 h2 h3 (fun x hx => by have := shT x hx; omega)
      rw [termsF_ok] at k
      exact k)
  clear hs r1 r2 r3 shL shT CA CB CT pl pt
  obtain ⟨a, ha⟩ : ∃ a, labelsF l = a := ⟨_, rfl⟩
  obtain ⟨t, ht⟩ : ∃ t, termsF l = t := ⟨_, rfl⟩
  rw [ha] at hml KL K1 K2 P1 C1
  rw [ht] at hmT K3 P2 C2
  have HA := Lib.hid ha
  have HT := Lib.hid ht
  clear ha ht
  go_enter Try.func5, Try.ntmps5
  go_wp2_with fail
  refine (works_any _).mono ?_
  rintro e w1 ⟨rfl, hb⟩
  have B1 := Lib.hid hb
  have S1 := Lib.hid (HS.out.below hb)
  clear hb
  go_wp2_with fail
  refine (KL.out _ S1.out).mono ?_
  rintro e w2 ⟨v, rfl, ho, hb⟩
  obtain ⟨A1, c1, rfl, _⟩ := own_slice ho
  have D1 := Lib.hid (show a.length ≤ c1 ∧ c1 ≤ maxLen from own_cap ho)
  have dm1 : c1 ≤ 9223372036854775807 := by have := D1.out.2; unfold maxLen at this; omega
  have L1 := Lib.hid (own_slat ho)
  have B2 := Lib.hid (B1.out.trans (hb.mono B1.out.size))
  replace S1 := Lib.hid (S1.out.below hb)
  clear ho hb
  go_wp2_with fail
  refine (P1.out A1 c1 _ D1.out.1 dm1 L1.out).mono ?_
  rintro e w3 ⟨rfl, hb⟩
  have B3 := Lib.hid (B2.out.trans (hb.mono B2.out.size))
  replace S1 := Lib.hid (S1.out.below hb)
  replace L1 := Lib.hid (L1.out.below hb)
  clear hb
  go_wp2_with fail
  refine (K1.out _).mono ?_
  rintro e w4 ⟨v, rfl, ho, hb⟩
  obtain ⟨A2, c2, rfl, _⟩ := own_slice ho
  have D2 := Lib.hid (show a.length ≤ c2 ∧ c2 ≤ maxLen from own_cap ho)
  have dm2 : c2 ≤ 9223372036854775807 := by have := D2.out.2; unfold maxLen at this; omega
  have L2 := Lib.hid (own_slat ho)
  have B4 := Lib.hid (B3.out.trans (hb.mono B3.out.size))
  replace S1 := Lib.hid (S1.out.below hb)
  replace L1 := Lib.hid (L1.out.below hb)
  clear ho hb
  go_wp2_with fail
  refine (P1.out A1 c1 _ D1.out.1 dm1 L1.out).mono ?_
  rintro e w5 ⟨rfl, hb⟩
  have B5 := Lib.hid (B4.out.trans (hb.mono B4.out.size))
  replace S1 := Lib.hid (S1.out.below hb)
  replace L1 := Lib.hid (L1.out.below hb)
  replace L2 := Lib.hid (L2.out.below hb)
  clear hb
  go_wp2_with fail
  refine (K2.out _).mono ?_
  rintro e w6 ⟨v, rfl, ho, hb⟩
  obtain ⟨A3, c3, rfl, _⟩ := own_slice ho
  have D3 := Lib.hid (show a.length ≤ c3 ∧ c3 ≤ maxLen from own_cap ho)
  have dm3 : c3 ≤ 9223372036854775807 := by have := D3.out.2; unfold maxLen at this; omega
  have L3 := Lib.hid (own_slat ho)
  have B6 := Lib.hid (B5.out.trans (hb.mono B5.out.size))
  replace S1 := Lib.hid (S1.out.below hb)
  replace L1 := Lib.hid (L1.out.below hb)
  replace L2 := Lib.hid (L2.out.below hb)
  clear ho hb
  go_wp2_with fail
  refine (C1.out A1 c1 _ D1.out.1 dm1 L1.out).mono ?_
  rintro e w7 ⟨rfl, hb⟩
  have B7 := Lib.hid (B6.out.trans (hb.mono B6.out.size))
  replace S1 := Lib.hid (S1.out.below hb)
  replace L1 := Lib.hid (L1.out.below hb)
  replace L2 := Lib.hid (L2.out.below hb)
  replace L3 := Lib.hid (L3.out.below hb)
  clear hb
  go_wp2_with fail
  go_loopw [10] (fun i wr => ∃ k : Nat, k ≤ a.length ∧ i = .int .i64 k ∧ Below w7.heap.size w7 wr) (fun i _ => a.length - (intOf i).toNat)
  case atStart => exact ⟨0, by omega, rfl, Below.refl _ _⟩
  case round =>
    obtain ⟨k, hk, rfl, hbw⟩ := hrel
    have Hbw := Lib.hid hbw
    clear hbw
    by_cases hlt : k < a.length
    · obtain ⟨x, hxk⟩ : ∃ x, a[k]? = some x := ⟨a[k], List.getElem?_eq_getElem hlt⟩
      obtain ⟨b0, o0, hA, hb0, hx⟩ := SlAt.lab (L1.out.below Hbw.out) hxk
      obtain ⟨b1, o1, hB, hb1, hy⟩ := SlAt.lab (L2.out.below Hbw.out) hxk
      obtain ⟨b2, o2, hC, hb2, hz⟩ := SlAt.lab (L3.out.below Hbw.out) hxk
      subst hA hB hC
      have hx0 : wr.cell? ⟨b0, o0 + k * 2, none⟩ = some (strV x.1) := hx.1
      have hy0 : wr.cell? ⟨b1, o1 + k * 2, none⟩ = some (strV x.1) := hy.1
      have hz0 : wr.cell? ⟨b2, o2 + k * 2, none⟩ = some (strV x.1) := hz.1
      have hx1 : wr.cell? ⟨b0, o0 + k * 2 + 1, none⟩ = some (strV x.2) := hx.2
      have hy1 : wr.cell? ⟨b1, o1 + k * 2 + 1, none⟩ = some (strV x.2) := hy.2
      have hz1 : wr.cell? ⟨b2, o2 + k * 2 + 1, none⟩ = some (strV x.2) := hz.2
      have hq := fun w => eq_lab x w
      have hgd := lab_guard
      have k0 : (0 : Int) ≤ (k : Int) := by omega
      have k1 : (k : Int) < (a.length : Int) := by omega
      clear hx hy hz hxk
      go_wp2
      go_quiet (fail)
      go_wp2
      go_roundw
      case rel => exact ⟨k + 1, by omega, by go_num, belowN Hbw.out _⟩
      case measure => simp [intOf]; omega
    · obtain rfl : k = a.length := by omega
      obtain ⟨w8, rfl⟩ : ∃ w8, w8 = wr := ⟨_, rfl⟩
      replace S1 := Lib.hid (S1.out.below Hbw.out)
      have B8 := Lib.hid (B7.out.trans (Hbw.out.mono B7.out.size))
      clear L1 L2 L3 Hbw hlt hk
      obtain ⟨i0, hi0, hz0, hz1, hz2⟩ := info_parts info_T'
      go_wp2_with fail
      go_loopw [11, 12] (fun v i wr => ∃ k : Nat, k ≤ l.length ∧ k ≤ 6 ∧ i = .int .i64 k ∧ wr.ownsRow w8.heap.size 43 3 v k (cellsT ((l.take k).map termF)) ∧ Below w8.heap.size w8 wr) (fun _ i _ => 6 - (intOf i).toNat)
      case atStart => exact ⟨0, by omega, by omega, rfl, World.ownsRow_nil _ _ _ _, Below.refl _ _⟩
      case round =>
        obtain ⟨k, hk, hk6, rfl, hown, hbw⟩ := hrel
        obtain ⟨A4, c4, rfl, _⟩ := own_slice hown
        have Hown := Lib.hid hown
        have Hbw := Lib.hid hbw
        clear hown hbw
        by_cases hlt : k < l.length
        · have k0 : (0 : Int) ≤ (k : Int) := by omega
          have k1 : (k : Int) < (l.length : Int) := by omega
          by_cases h6 : k < 6
          · obtain ⟨x, hxk⟩ : ∃ x, l[k]? = some x := ⟨l[k], List.getElem?_eq_getElem hlt⟩
            obtain ⟨b0, o0, hA, hb0, hx⟩ := SlAt.pai (S1.out.below Hbw.out) hxk
            subst hA
            have hx0 : wr.cell? ⟨b0, o0 + k * 3, none⟩ = some (.int .i64 x.1) := hx.1
            have hx1 : wr.cell? ⟨b0, o0 + k * 3 + 1, none⟩ = some (.int .i64 x.2.1) := hx.2.1
            have hx2 : wr.cell? ⟨b0, o0 + k * 3 + 2, none⟩ = some (.int .i64 x.2.2) := hx.2.2
            have Htk : Hid ((l.take (k + 1)).map termF = (l.take k).map termF ++ [termF x]) := Lib.hid (by rw [List.take_add_one, hxk]; simp)
            have KT := Lib.hid (fun w => termN_any x w)
            have hi6 : (k : Int) < 6 := by omega
            have hk63 : k + 1 ≤ maxLen := by unfold maxLen; omega
            have hk47 : (k + 1) * 40 ≤ 140737488355328 := by omega
            clear hx hxk
            go_wp2_with fail
            refine (KT.out _).mono ?_
            rintro e w9 ⟨rfl, hb⟩
            have How3 := Lib.hid (own_below Hown.out hb)
            have Hbe3 := Lib.hid (Hbw.out.trans (hb.mono Hbw.out.size))
            clear hb
            go_wp2_with (at_builtin; refine wpList_append_own _ rfl _ _ 26 rfl w8.heap.size 43 i0 (.agg #[.int .i64 0, .string ⟨#[]⟩, .string ⟨#[]⟩]) 3 40 Try.underlying26 hi0 hz0 hz1 hz2 rfl (by decide) _ _ _ rfl ((How3.out).alloc _) ⟨w9.heap.size, 0, none⟩ 1 1 [.int .i64 (termF x).1, strV (termF x).2.1, strV (termF x).2.2] rfl rfl ?a2 ?b2 ?c2 ?d2 ?e2 ?_)
            case a2 =>
              intro j u hj
              match j, hj with
              | 0, hj => simp at hj; subst hj; first | (simp [Addr.add, go_sem]; done) | exact Blk.cell (Blk.new _ _ _) 0
              | 1, hj => simp at hj; subst hj; first | (simp [Addr.add, go_sem]; done) | exact Blk.cell (Blk.new _ _ _) 1
              | 2, hj => simp at hj; subst hj; first | (simp [Addr.add, go_sem]; done) | exact Blk.cell (Blk.new _ _ _) 2
            case b2 => intro u hu; simp at hu; rcases hu with rfl | rfl | rfl <;> rfl
            case c2 => unfold maxLen; omega
            case d2 => omega
            case e2 => have := Hbe3.out.size; simp at this ⊢; omega
            intro v' w4 hown' hgrow' _
            obtain ⟨A5, c5, rfl, _⟩ := own_slice hown'
            have Own4 := Lib.hid hown'
            have B4 := Lib.hid (((Hbe3.out).alloc Hbe3.out.size (.cells #[.int .i64 (termF x).1, strV (termF x).2.1, strV (termF x).2.2] 43)).grown hgrow' (by have := Hbe3.out.size; simp at this ⊢; omega) (fun k hk => own_ge' (How3.out) hk))
            clear hown' hgrow'
            go_wp2
            go_roundw
            case rel => exact ⟨k + 1, by omega, by omega, by go_num, by rw [Htk.out]; simpa [cellsT_snoc] using Own4.out, B4.out⟩
            case measure => simp [intOf]; omega
          · have hkt : k = t.length ∧ (l.take k).map termF = t := by
              have e := HT.out
              unfold termsF at e
              obtain rfl : k = 6 := by omega
              refine ⟨?_, e⟩
              rw [← e, List.length_map, List.length_take]
              omega
            obtain ⟨rfl, hEt⟩ := hkt
            have Own5 : Hid (wr.ownsRow w8.heap.size 43 3 (.slice A4 t.length c4) t.length (cellsT t)) := Lib.hid (by rw [← hEt]; rw [hEt]; have := Hown.out; rw [hEt] at this; exact this)
            have D4 := Lib.hid (show t.length ≤ c4 ∧ c4 ≤ maxLen from own_cap Own5.out)
            have dm4 : c4 ≤ 9223372036854775807 := by have := D4.out.2; unfold maxLen at this; omega
            have L4 := Lib.hid (own_slat Own5.out)
            have nh6 : ¬ (t.length : Int) < 6 := by omega
            have H6 := Lib.hid h6
            clear h6
            clear hEt
            go_wp2_with fail
            refine (P2.out A4 c4 _ D4.out.1 dm4 L4.out).mono ?_
            rintro e w10 ⟨rfl, hb⟩
            have B10 := Lib.hid ((B8.out.trans (Hbw.out.mono B8.out.size)).trans (hb.mono (B8.out.trans (Hbw.out.mono B8.out.size)).size))
            replace L4 := Lib.hid (L4.out.below hb)
            clear hb
            go_wp2_with fail
            refine (K3.out _).mono ?_
            rintro e w11 ⟨v, rfl, ho, hb⟩
            obtain ⟨A6, c6, rfl, _⟩ := own_slice ho
            have D6 := Lib.hid (show t.length ≤ c6 ∧ c6 ≤ maxLen from own_cap ho)
            have dm6 : c6 ≤ 9223372036854775807 := by have := D6.out.2; unfold maxLen at this; omega
            have L6 := Lib.hid (own_slat ho)
            have B11 := Lib.hid (B10.out.trans (hb.mono B10.out.size))
            replace L4 := Lib.hid (L4.out.below hb)
            clear ho hb
            go_wp2_with fail
            refine (C2.out A4 c4 _ D4.out.1 dm4 L4.out).mono ?_
            rintro e w12 ⟨rfl, hb⟩
            have B12 := Lib.hid (B11.out.trans (hb.mono B11.out.size))
            replace L4 := Lib.hid (L4.out.below hb)
            replace L6 := Lib.hid (L6.out.below hb)
            clear hb
            go_wp2_with fail
            go_loopw [16] (fun i wr => ∃ k : Nat, k ≤ t.length ∧ i = .int .i64 k ∧ Below w12.heap.size w12 wr) (fun i _ => t.length - (intOf i).toNat)
            case atStart => exact ⟨0, by omega, rfl, Below.refl _ _⟩
            case round =>
              obtain ⟨k, hk, rfl, hbw⟩ := hrel
              have Hbw := Lib.hid hbw
              clear hbw
              by_cases hlt : k < t.length
              · obtain ⟨x, hxk⟩ : ∃ x, t[k]? = some x := ⟨t[k], List.getElem?_eq_getElem hlt⟩
                obtain ⟨b0, o0, hA, hb0, hx⟩ := SlAt.ter (L4.out.below Hbw.out) hxk
                obtain ⟨b1, o1, hB, hb1, hy⟩ := SlAt.ter (L6.out.below Hbw.out) hxk
                subst hA hB
                have hx0 : wr.cell? ⟨b0, o0 + k * 3, none⟩ = some (.int .i64 x.1) := hx.1
                have hy0 : wr.cell? ⟨b1, o1 + k * 3, none⟩ = some (.int .i64 x.1) := hy.1
                have hx1 : wr.cell? ⟨b0, o0 + k * 3 + 1, none⟩ = some (strV x.2.1) := hx.2.1
                have hy1 : wr.cell? ⟨b1, o1 + k * 3 + 1, none⟩ = some (strV x.2.1) := hy.2.1
                have hx2 : wr.cell? ⟨b0, o0 + k * 3 + 2, none⟩ = some (strV x.2.2) := hx.2.2
                have hy2 : wr.cell? ⟨b1, o1 + k * 3 + 2, none⟩ = some (strV x.2.2) := hy.2.2
                have hq := fun w => eq_ter x w
                have hgd := ter_guard
                have k0 : (0 : Int) ≤ (k : Int) := by omega
                have k1 : (k : Int) < (t.length : Int) := by omega
                clear hx hy hxk
                go_wp2
                go_quiet (fail)
                go_wp2
                go_roundw
                case rel => exact ⟨k + 1, by omega, by go_num, belowN Hbw.out _⟩
                case measure => simp [intOf]; omega
              · obtain rfl : k = t.length := by omega
                go_wp2
                go_ret
                exact ⟨rfl, B12.out.trans (Hbw.out.mono B12.out.size)⟩
        · have hkt : k = t.length ∧ (l.take k).map termF = t := by
            have e := HT.out
            unfold termsF at e
            obtain rfl : k = l.length := by omega
            rw [List.take_of_length_le hk6] at e
            rw [List.take_length]
            exact ⟨by rw [← e, List.length_map], e⟩
          obtain ⟨rfl, hEt⟩ := hkt
          have Own5 : Hid (wr.ownsRow w8.heap.size 43 3 (.slice A4 t.length c4) t.length (cellsT t)) := Lib.hid (by rw [← hEt]; rw [hEt]; have := Hown.out; rw [hEt] at this; exact this)
          have D4 := Lib.hid (show t.length ≤ c4 ∧ c4 ≤ maxLen from own_cap Own5.out)
          have dm4 : c4 ≤ 9223372036854775807 := by have := D4.out.2; unfold maxLen at this; omega
          have L4 := Lib.hid (own_slat Own5.out)
          have nlt : decide (t.length < l.length) = false := by simp; omega
          have Hlt := Lib.hid hlt
          clear hlt
          clear hEt
          go_wp2_with fail
          refine (P2.out A4 c4 _ D4.out.1 dm4 L4.out).mono ?_
          rintro e w10 ⟨rfl, hb⟩
          have B10 := Lib.hid ((B8.out.trans (Hbw.out.mono B8.out.size)).trans (hb.mono (B8.out.trans (Hbw.out.mono B8.out.size)).size))
          replace L4 := Lib.hid (L4.out.below hb)
          clear hb
          go_wp2_with fail
          refine (K3.out _).mono ?_
          rintro e w11 ⟨v, rfl, ho, hb⟩
          obtain ⟨A6, c6, rfl, _⟩ := own_slice ho
          have D6 := Lib.hid (show t.length ≤ c6 ∧ c6 ≤ maxLen from own_cap ho)
          have dm6 : c6 ≤ 9223372036854775807 := by have := D6.out.2; unfold maxLen at this; omega
          have L6 := Lib.hid (own_slat ho)
          have B11 := Lib.hid (B10.out.trans (hb.mono B10.out.size))
          replace L4 := Lib.hid (L4.out.below hb)
          clear ho hb
          go_wp2_with fail
          refine (C2.out A4 c4 _ D4.out.1 dm4 L4.out).mono ?_
          rintro e w12 ⟨rfl, hb⟩
          have B12 := Lib.hid (B11.out.trans (hb.mono B11.out.size))
          replace L4 := Lib.hid (L4.out.below hb)
          replace L6 := Lib.hid (L6.out.below hb)
          clear hb
          go_wp2_with fail
          go_loopw [16] (fun i wr => ∃ k : Nat, k ≤ t.length ∧ i = .int .i64 k ∧ Below w12.heap.size w12 wr) (fun i _ => t.length - (intOf i).toNat)
          case atStart => exact ⟨0, by omega, rfl, Below.refl _ _⟩
          case round =>
            obtain ⟨k, hk, rfl, hbw⟩ := hrel
            have Hbw := Lib.hid hbw
            clear hbw
            by_cases hlt : k < t.length
            · obtain ⟨x, hxk⟩ : ∃ x, t[k]? = some x := ⟨t[k], List.getElem?_eq_getElem hlt⟩
              obtain ⟨b0, o0, hA, hb0, hx⟩ := SlAt.ter (L4.out.below Hbw.out) hxk
              obtain ⟨b1, o1, hB, hb1, hy⟩ := SlAt.ter (L6.out.below Hbw.out) hxk
              subst hA hB
              have hx0 : wr.cell? ⟨b0, o0 + k * 3, none⟩ = some (.int .i64 x.1) := hx.1
              have hy0 : wr.cell? ⟨b1, o1 + k * 3, none⟩ = some (.int .i64 x.1) := hy.1
              have hx1 : wr.cell? ⟨b0, o0 + k * 3 + 1, none⟩ = some (strV x.2.1) := hx.2.1
              have hy1 : wr.cell? ⟨b1, o1 + k * 3 + 1, none⟩ = some (strV x.2.1) := hy.2.1
              have hx2 : wr.cell? ⟨b0, o0 + k * 3 + 2, none⟩ = some (strV x.2.2) := hx.2.2
              have hy2 : wr.cell? ⟨b1, o1 + k * 3 + 2, none⟩ = some (strV x.2.2) := hy.2.2
              have hq := fun w => eq_ter x w
              have hgd := ter_guard
              have k0 : (0 : Int) ≤ (k : Int) := by omega
              have k1 : (k : Int) < (t.length : Int) := by omega
              clear hx hy hxk
              go_wp2
              go_quiet (fail)
              go_wp2
              go_roundw
              case rel => exact ⟨k + 1, by omega, by go_num, belowN Hbw.out _⟩
              case measure => simp [intOf]; omega
            · obtain rfl : k = t.length := by omega
              go_wp2
              go_ret
              exact ⟨rfl, B12.out.trans (Hbw.out.mono B12.out.size)⟩
end Go.Proofs.Yteclbkjonaildaa
