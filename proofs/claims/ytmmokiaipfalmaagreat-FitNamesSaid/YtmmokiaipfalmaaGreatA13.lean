/- Sorting a row of pods by sizes, with a method's value: pdqsort, SortFunc, sorted. Condition: the row lies in memory, its numbers are below 24. The order of pods: the contract of Order. Condition: the cluster and the numbers lie in memory. Pods are packed: the contract of Pack. Condition: the cluster and the numbers lie in memory. What the plain functions tell of the chapter's cluster of layer 14. No conditions. The chapter's examples of layer 14 hold. No conditions. A cluster of which the first 12 nodes, 30 pods, 12 owners are looked at. Condition: it lies in memory. A placement that may be, made out of numbers: the contract of fitted. Condition: the cluster and the numbers lie in memory. Numbers fitted to a cluster, as numbers in memory. Condition: the arguments lie in memory. -/
import Derived.Test.YtmmokiaipfalmaaGreatA12
import Derived.Sort.Walk13
import Derived.Sort.AssemblyPlain
import Derived.Test.YtmmokiaipfalmaaGreatShelfIter
import Derived.WalkMore

namespace Go.Proofs.YtmmokiaipfalmaaGreat
open Go.RowKit Go.Maps

set_option maxRecDepth 1000000 in
set_option maxHeartbeats 64000000 in
theorem pdqP (F : Nat → Int) (RV : Value) (hC : CmpOk RV F) (b n cap : Nat) (hn : n ≤ 24) (w : World) : ∀ (N a z lim : Nat) (d : Array Nat) (W : World), z - a < N → Srt w b n d W → a ≤ z → z ≤ n → lim ≤ 100 → Go.Sort.Below (ltP F) a z d →
    Calls Tryz.prog 212 #[.slice (some ⟨b, 0, none⟩) n cap, .int .i64 (a : Int), .int .i64 (z : Int), .int .i64 (lim : Int), .func (.func 84) #[RV] #[]] W fun e w' => e = .returned (.tuple #[]) ∧ Srt w b n (Go.Sort.pdq (ltP F) d a z lim true true) w' := by
  have mixed : (Tryz.prog).follows Departure.mixedOrders = true := by kernel_rfl
  have HC := Lib.hid hC
  clear hC
  intro N
  induction N with
  | zero => intro _ _ _ _ _ h; exact absurd h (Nat.not_lt_zero _)
  | succ N ih =>
  intro a z lim d W hN hS haz hz hlim hB0
  have IH := Lib.hid ih
  have S0 := Lib.hid hS
  have HB0 := Lib.hid hB0
  clear ih hS hB0
  go_enter Tryz.func212, Tryz.ntmps212
  go_wp2_with fail
  go_loopw [1, 2, 3, 10, 11] (fun s1 s2 s3 s8 s9 wr => ∃ (a' z' lim' : Nat) (wb wp : Bool) (dk : Array Nat), s1 = .int .i64 (a' : Int) ∧ s2 = .int .i64 (z' : Int) ∧ s3 = .int .i64 (lim' : Int) ∧ s8 = .bool wb ∧ s9 = .bool wp ∧ a' ≤ z' ∧ z' ≤ n ∧ z' - a' ≤ z - a ∧ lim' ≤ 100 ∧ Hid (Go.Sort.Below (ltP F) a' z' dk) ∧ Srt w b n dk wr ∧ Hid (Go.Sort.pdq (ltP F) dk a' z' lim' wb wp = Go.Sort.pdq (ltP F) d a z lim true true)) (fun s1 s2 _ _ _ _ => (intOf s2).toNat - (intOf s1).toNat)
  case atStart => exact ⟨a, z, lim, true, true, d, rfl, rfl, rfl, rfl, rfl, haz, hz, Nat.le_refl _, hlim, HB0, S0.out, Lib.hid rfl⟩
  case round =>
    clear S0 HB0
    obtain ⟨a', z', lim', wb, wp, dk, rfl, rfl, rfl, rfl, rfl, haz', hz', hle, hlim', HB, hs1, A⟩ := hrel
    have S1 := Lib.hid hs1
    have hds : dk.size = n := hs1.z
    clear hs1
    by_cases h12 : z' - a' ≤ 12
    · have t1 : (z' : Int) - (a' : Int) ≤ 12 := by omega
      have t2 : decide ((z' : Int) - (a' : Int) ≤ 12) = true := decide_eq_true t1
      have KC := Lib.hid (insP F RV HC.out b n cap hn w a' z' dk wr S1.out haz' hz')
      have HG := Lib.hid (Go.Sort.pdq_small (lt := ltP F) (d := dk) (a := a') (b := z') (limit := lim') (wb := wb) (wp := wp) h12)
      go_wp2_with (go_at_call 283; refine (KC.out).mono ?_; rintro e w1 ⟨rfl, hs⟩)
      (try simp only [Exit.inBlock, Exit.then])
      refine bodyPost_ret (results_none rfl _ _ _) rfl ?_
      refine ⟨rfl, ?_⟩
      rw [← A.out, HG.out]
      exact hs
    have t1 : ¬ (z' : Int) - (a' : Int) ≤ 12 := by omega
    have t2 : decide ((z' : Int) - (a' : Int) ≤ 12) = false := decide_eq_false t1
    by_cases hl0 : lim' = 0
    · subst hl0
      have KC := Lib.hid (heapP F RV HC.out b n cap hn w a' z' dk wr S1.out haz' hz')
      have HG := Lib.hid (Go.Sort.pdq_heap (lt := ltP F) (d := dk) (a := a') (b := z') (limit := 0) (wb := wb) (wp := wp) h12 rfl)
      go_wp2_with (go_at_call 284; refine (KC.out).mono ?_; rintro e w1 ⟨rfl, hs⟩)
      (try simp only [Exit.inBlock, Exit.then])
      refine bodyPost_ret (results_none rfl _ _ _) rfl ?_
      refine ⟨rfl, ?_⟩
      rw [← A.out, HG.out]
      exact hs
    have hl1 : ¬ (lim' : Int) = 0 := by omega
    have hl2 : ((lim' : Int) == 0) = false := by rw [beq_eq_false_iff_ne]; omega
    have hl3 : decide (lim' = 0) = false := decide_eq_false hl0
    obtain ⟨s1, B1, hc1, s2, B2, hpv, s3, B3⟩ := Go.Sort.rd_facts (lt := ltP F) (d := dk) (limit := lim') (wb := wb) (wp := wp) (ltP_swo F) Go.Sort.partialInsertionSort_holds Go.Sort.reverseRange_holds (show a' < z' by omega) (show z' ≤ dk.size by omega) HB.out
    have E1 : Hid (wb = false → (Go.Sort.rd (ltP F) dk a' z' lim' wb wp).d1 = Go.Sort.breakPatterns dk a' z' ∧ (Go.Sort.rd (ltP F) dk a' z' lim' wb wp).lim = lim' - 1) := Lib.hid (fun h => by subst h; exact Go.Sort.rd_false)
    have E2 : Hid (wb = true → (Go.Sort.rd (ltP F) dk a' z' lim' wb wp).d1 = dk ∧ (Go.Sort.rd (ltP F) dk a' z' lim' wb wp).lim = lim') := Lib.hid (fun h => by subst h; exact Go.Sort.rd_true)
    have Ec : Hid ((Go.Sort.rd (ltP F) dk a' z' lim' wb wp).c = Go.Sort.choosePivot (ltP F) (Go.Sort.rd (ltP F) dk a' z' lim' wb wp).d1 a' z') := Lib.hid Go.Sort.rd_c
    have Ed := Lib.hid (Go.Sort.rd_dec (lt := ltP F) (d := dk) (a := a') (b := z') (limit := lim') (wb := wb) (wp := wp))
    have En := Lib.hid (Go.Sort.rd_not (lt := ltP F) (d := dk) (a := a') (b := z') (limit := lim') (wb := wb) (wp := wp))
    have Ey := Lib.hid (Go.Sort.rd_pi_yes (lt := ltP F) (d := dk) (a := a') (b := z') (limit := lim') (wb := wb) (wp := wp))
    have Eo := Lib.hid (Go.Sort.rd_pi_no (lt := ltP F) (d := dk) (a := a') (b := z') (limit := lim') (wb := wb) (wp := wp))
    have P1 := Lib.hid (Go.Sort.pdq_done (lt := ltP F) (d := dk) (a := a') (b := z') (limit := lim') (wb := wb) (wp := wp) h12 hl0)
    have P2 := Lib.hid (Go.Sort.pdq_eq (lt := ltP F) (d := dk) (a := a') (b := z') (limit := lim') (wb := wb) (wp := wp) h12 hl0)
    have P3 := Lib.hid (Go.Sort.pdq_left (lt := ltP F) (d := dk) (a := a') (b := z') (limit := lim') (wb := wb) (wp := wp) h12 hl0)
    have P4 := Lib.hid (Go.Sort.pdq_right (lt := ltP F) (d := dk) (a := a') (b := z') (limit := lim') (wb := wb) (wp := wp) h12 hl0)
    have hlm := Go.Sort.rd_lim_le (lt := ltP F) (d := dk) (a := a') (b := z') (limit := lim') (wb := wb) (wp := wp)
    have HB1 := Lib.hid B1
    have HB2 := Lib.hid B2
    have HB3 := Lib.hid B3
    clear B1 B2 B3
    generalize Go.Sort.rd (ltP F) dk a' z' lim' wb wp = R at s1 hc1 s2 hpv s3 E1 E2 Ec Ed En Ey Eo P1 P2 P3 P4 hlm HB1 HB2 HB3
    have hpv1 := hpv.1
    have hpv2 := hpv.2
    have hc11 := hc1.1
    have hc12 := hc1.2
    clear hpv hc1 HB
    go_upto_if 39 with fail
    go_cut [3] (fun u3 wc => u3 = .int .i64 (R.lim : Int) ∧ Srt w b n R.d1 wc)
    case first =>
      cases wb with
      | false =>
        obtain ⟨e1, e2⟩ := E1.out rfl
        have KC := Lib.hid (breakP b n cap hn w RV a' z' dk wr S1.out haz' hz')
        rw [← e1] at KC
        have e3 : (lim' : Int) - 1 = (R.lim : Int) := by omega
        clear e1 e2
        go_wp2_with (go_at_call 285; refine (KC.out).mono ?_; rintro e w1 ⟨rfl, hs⟩)
        go_meet
        case rel => exact ⟨by go_num, hs⟩
      | true =>
        obtain ⟨e1, e2⟩ := E2.out rfl
        have e3 : (R.lim : Int) = (lim' : Int) := by omega
        have S2 : Hid (Srt w b n R.d1 wr) := Lib.hid (by rw [e1]; exact S1.out)
        clear e1 e2
        go_wp2_with fail
        go_meet
        case rel => exact ⟨by rw [e3], S2.out⟩
    case' rest => obtain ⟨rfl, hs2⟩ := hcut
    have S2 := Lib.hid hs2
    clear hs2 S1 E1 E2
    have KP := Lib.hid (pivotP F RV HC.out b n cap hn w a' z' R.d1 wc S2.out (by omega) hz' (by omega))
    rw [← Ec.out] at KP
    clear S2 Ec
    go_upto_if 56 with (go_at_call 286; refine (KP.out).mono ?_; rintro e w2 ⟨rfl, hs⟩)
    have S2 := Lib.hid hs
    clear hs KP
    go_cut [13, 14] (fun u11 u12 wc => u11 = .int .i64 (R.pivot : Int) ∧ u12 = .int .i64 (Go.Sort.hintCode R.hint) ∧ Srt w b n R.d2 wc)
    case first =>
      by_cases hh : R.c.2 = Go.Sort.Hint.decreasing
      · obtain ⟨e2, epv, eht⟩ := Ed.out hh
        have KR := Lib.hid (revP F RV HC.out b n cap hn w a' z' R.d1 w2 S2.out haz' hz')
        rw [← e2] at KR
        have hcode : Go.Sort.hintCode R.c.2 = 2 := by rw [hh]; rfl
        have hcode2 : Go.Sort.hintCode R.hint = 1 := by rw [eht]; rfl
        have e3 : (z' : Int) - 1 - ((R.c.1 : Int) - (a' : Int)) = (R.pivot : Int) := by omega
        clear e2 epv eht hh
        go_wp2_with (go_at_call 287; refine (KR.out).mono ?_; rintro e w3 ⟨rfl, hs⟩)
        go_meet
        case rel => exact ⟨by go_num, by rw [hcode2], hs⟩
      · obtain ⟨e2, epv, eht⟩ := En.out hh
        have hcode : ¬ Go.Sort.hintCode R.c.2 = 2 := fun h => hh (hintCode_two h)
        have hcode3 : (Go.Sort.hintCode R.c.2 == 2) = false := by rw [beq_eq_false_iff_ne]; exact hcode
        have S3 : Hid (Srt w b n R.d2 w2) := Lib.hid (by rw [e2]; exact S2.out)
        clear e2 hh
        go_wp2_with fail
        go_meet
        case rel => exact ⟨by rw [epv], by rw [eht], S3.out⟩
    case' rest => obtain ⟨rfl, rfl, hs3⟩ := hcut
    have S3 := Lib.hid hs3
    clear hs3 S2 Ed En
    go_upto_region 15 with fail
    go_cut [14, 75] (fun u12 u68 wx => u12 = .int .i64 (Go.Sort.hintCode R.hint) ∧ u68 = .bool (wb && wp && decide (R.hint = Go.Sort.Hint.increasing)) ∧ wc = wx)
    case first =>
      clear P1 P2 P3 P4 Ey Eo A
      cases wb <;> cases wp <;> cases hh3 : R.hint <;>
        (have hcode3 := congrArg Go.Sort.hintCode hh3
         simp only [Go.Sort.hintCode] at hcode3
         go_wp2_with fail
         go_meet
         exact ⟨by simp [hh3, Go.Sort.hintCode], by simp [hh3, Go.Sort.hintCode], rfl⟩)
    case' rest => obtain ⟨rfl, rfl, rfl⟩ := hcut
    go_upto_if 75 with fail
    go_cut [] (fun wx => R.pi.2 = false ∧ Srt w b n R.pi.1 wx)
    case first =>
      cases h68 : (wb && wp && decide (R.hint = Go.Sort.Hint.increasing)) with
      | false =>
        have epi := Eo.out h68
        have S4 : Hid (R.pi.2 = false ∧ Srt w b n R.pi.1 wc) := Lib.hid (by rw [epi]; exact ⟨rfl, S3.out⟩)
        clear epi
        go_wp2_with fail
        go_meet
        case rel => exact S4.out
      | true =>
        have epi := Ey.out h68
        have KI := Lib.hid (partialP F RV HC.out b n cap hn w a' z' R.d2 wc S3.out (by omega) hz')
        rw [← epi] at KI
        have HD := Lib.hid P1.out
        clear epi
        cases hp2 : R.pi.2 with
        | false =>
          rw [hp2] at KI
          go_wp2_with (go_at_call 288; refine (KI.out).mono ?_; rintro e w4 ⟨rfl, hs⟩)
          go_meet
          case rel => exact ⟨hp2, hs⟩
        | true =>
          rw [hp2] at KI
          go_wp2_with (go_at_call 288; refine (KI.out).mono ?_; rintro e w4 ⟨rfl, hs⟩)
          (try simp only [Exit.inBlock, Exit.then])
          refine bodyPost_ret (results_none rfl _ _ _) rfl ?_
          refine ⟨rfl, ?_⟩
          rw [← A.out, HD.out hp2]
          exact hs
    case' rest => obtain ⟨hp2, hs4⟩ := hcut
    have S5 := Lib.hid hs4
    have HP2 := Lib.hid hp2
    clear hs4 hp2 S3 Ey Eo P1
    generalize R.pi.1 = D at s3 HB3 S5 P2 P3 P4
    have hDs : D.size = n := S5.out.z
    by_cases ha0 : a' = 0
    · have n1 : ¬ (0 : Int) < (a' : Int) := by omega
      have n2 : decide ((0 : Int) < (a' : Int)) = false := decide_eq_false n1
      have n3 : decide (0 < a') = false := decide_eq_false (by omega)
      have H87 : Hid ((decide (a' > 0) && !ltP F D[a' - 1]! D[R.pivot]!) = false) := Lib.hid (by rw [decide_eq_false (by omega), Bool.false_and])
      clear ha0
      go_wp2_with fail
      go_big_region_o
      have S6 : Hid (Srt w b n D wc.drew) := Lib.hid S5.out.drew
      clear S5
      generalize wc.drew = w6 at S6 ⊢
      obtain ⟨mid, ap, d4, hx⟩ : ∃ mid ap d4, Go.Sort.partition (ltP F) D a' z' R.pivot = (mid, ap, d4) := ⟨(Go.Sort.partition (ltP F) D a' z' R.pivot).1, (Go.Sort.partition (ltP F) D a' z' R.pivot).2.1, (Go.Sort.partition (ltP F) D a' z' R.pivot).2.2, rfl⟩
      obtain ⟨r1, r2, r3, r4, r5, r6, r7⟩ := Go.Sort.round_part (ltP_swo F) (Go.Sort.partition_holds (ltP F)) hpv1 hpv2 (show z' ≤ D.size by omega) HB3.out hx
      have KT := Lib.hid (partP F RV HC.out b n cap hn w a' z' R.pivot D w6 S6.out hpv1 hpv2 hz')
      have G3 := Lib.hid (fun h4 => P3.out HP2.out H87.out (by rw [hx]; exact ⟨r1, r2⟩) h4)
      have G4 := Lib.hid (fun h4 => P4.out HP2.out H87.out (by rw [hx]; exact ⟨r1, r2⟩) h4)
      rw [hx] at KT G3 G4
      dsimp only at KT G3 G4
      have HR4 := Lib.hid r4
      have HR5 := Lib.hid r5
      have HR6 := Lib.hid r6
      have HR7 := Lib.hid r7
      have hd4 : d4.size = n := r3.trans hDs
      clear r3 r4 r5 r6 r7 hx P3 P4 P2
      go_upto_if 125 with (go_at_call 290; refine (KT.out).mono ?_; rintro e w7 ⟨rfl, hs⟩)
      have S7 := Lib.hid hs
      clear hs KT S6
      by_cases h4 : mid - a' < z' - mid
      · have h4z : (mid : Int) - (a' : Int) < (z' : Int) - (mid : Int) := by omega
        have h4d : decide ((mid : Int) - (a' : Int) < (z' : Int) - (mid : Int)) = true := decide_eq_true h4z
        have KI := Lib.hid (IH.out a' mid R.lim d4 w7 (by omega) S7.out r1 (by omega) (by omega) HR4.out)
        obtain ⟨pL, sL⟩ := Go.Sort.pdq_sorts (ltP F) (ltP_swo F) d4 a' mid R.lim true true r1 (by omega) HR4.out
        have HBn := Lib.hid (HR6.out _ pL sL).1
        have HE := Lib.hid (G3.out h4)
        have e8 := eighth (x := z') (y := a') (p := mid) (q := a') r1 haz'
        clear pL sL G3 G4 HR4 HR5 HR6 HR7
        go_wp2_with (go_at_call 212; refine (KI.out).mono ?_; rintro e w8 ⟨rfl, hs⟩)
        go_roundw
        case rel =>
          refine ⟨mid + 1, z', R.lim, decide (mid - a' ≥ (z' - a') / 8), ap, _, by go_num, rfl, rfl, ?_, rfl, by omega, hz', by omega, by omega, HBn, hs, Lib.hid (by rw [← A.out, HE.out])⟩
          first | exact congrArg Value.bool e8 | rw [e8] | simp [e8]
        case measure => simp [intOf] <;> omega
      · have h4z : ¬ (mid : Int) - (a' : Int) < (z' : Int) - (mid : Int) := by omega
        have h4d : decide ((mid : Int) - (a' : Int) < (z' : Int) - (mid : Int)) = false := decide_eq_false h4z
        have KI := Lib.hid (IH.out (mid + 1) z' R.lim d4 w7 (by omega) S7.out (by omega) hz' (by omega) HR5.out)
        rw [show ((mid + 1 : Nat) : Int) = (mid : Int) + 1 from by omega] at KI
        obtain ⟨pL, sL⟩ := Go.Sort.pdq_sorts (ltP F) (ltP_swo F) d4 (mid + 1) z' R.lim true true (by omega) (by omega) HR5.out
        have HBn := Lib.hid (HR7.out _ pL sL).1
        have HE := Lib.hid (G4.out h4)
        have e8 := eighth (x := z') (y := a') (p := z') (q := mid) (by omega) haz'
        clear pL sL G3 G4 HR4 HR5 HR6 HR7
        go_wp2_with (go_at_call 212; refine (KI.out).mono ?_; rintro e w8 ⟨rfl, hs⟩)
        go_roundw
        case rel =>
          refine ⟨a', mid, R.lim, decide (z' - mid ≥ (z' - a') / 8), ap, _, rfl, rfl, rfl, ?_, rfl, r1, by omega, by omega, by omega, HBn, hs, Lib.hid (by rw [← A.out, HE.out])⟩
          first | exact congrArg Value.bool e8 | rw [e8] | simp [e8]
        case measure => simp [intOf] <;> omega
    obtain ⟨q, hq⟩ : ∃ q, a' = q + 1 := ⟨a' - 1, by omega⟩
    have hw1 : IntKind.i64.wrap ((a' : Int) - 1) = (q : Int) := by rw [IntWalk.i64_in _ (by omega)]; omega
    have n1 : (0 : Int) < (a' : Int) := by omega
    have n2 : decide ((0 : Int) < (a' : Int)) = true := decide_eq_true n1
    have n3 : decide (0 < a') = true := decide_eq_true (by omega)
    have hq1 : a' - 1 = q := by omega
    have q0 : q < n := by omega
    have v0 : R.pivot < n := by omega
    obtain ⟨pv, hpve⟩ : ∃ pv, pv = R.pivot := ⟨_, rfl⟩
    have H87 : Hid ((decide (a' > 0) && !ltP F D[a' - 1]! D[R.pivot]!) = !ltP F D[q]! D[R.pivot]!) := Lib.hid (by rw [decide_eq_true (by omega), Bool.true_and, hq1])
    have HQ1 := Lib.hid hq1
    clear hq hq1 hpve pv
    cases hlv : ltP F D[q]! D[R.pivot]! with
    | true =>
      have H88 : Hid ((decide (a' > 0) && !ltP F D[a' - 1]! D[R.pivot]!) = false) := Lib.hid (by rw [H87.out, hlv]; rfl)
      have pi1 : (0 : Int) ≤ (q : Int) := by omega
      have bi1 : (q : Int) < (n : Int) := by omega
      obtain ⟨jN1, hjN1⟩ : ∃ q, q = R.pivot := ⟨_, rfl⟩
      have ej1 : ((R.pivot : Int)).toNat = jN1 := by omega
      have pj1 : (0 : Int) ≤ (R.pivot : Int) := by omega
      have bj1 : (R.pivot : Int) < (n : Int) := by omega
      have rj1 : IntKind.i64.wrap ((R.pivot : Int)) = (R.pivot : Int) := IntWalk.i64_in _ (by omega)
      obtain ⟨x1, hx1⟩ : ∃ x, x = D[q]! := ⟨_, rfl⟩
      obtain ⟨y1, hy1⟩ : ∃ x, x = D[R.pivot]! := ⟨_, rfl⟩
      have la1 := S5.out.cl (q) (by omega)
      have lb1 := S5.out.cl (R.pivot) (by omega)
      rw [← hx1] at la1
      rw [← hy1] at lb1
      rw [← hjN1] at lb1
      have hc1 := Lib.hid (fun q os => HC.out x1 y1 (by rw [hx1]; exact S5.out.l _) (by rw [hy1]; exact S5.out.l _) (Go.Sort.grow (wc.drewN q) os))
      have hd1 : decide (cmpS F x1 y1 < 0) = true := by rw [hx1, hy1]; exact hlv
      have hv1 : cmpS F x1 y1 < 0 := of_decide_eq_true hd1
      clear hx1 hy1 hjN1
      go_wp2_with fail
      go_quiet_grown (first | (go_at_call 84; refine Go.Calls.grown_of (hc1.out _ _)))
      have S6 : Hid (Srt w b n D (Go.Sort.grow (wc.drewN nq) osq)) := Lib.hid (S5.out.grown nq osq)
      clear la1 lb1 hc1 S5
      generalize Go.Sort.grow (wc.drewN nq) osq = w6 at S6 ⊢
      clear nq osq pi1 bi1 ej1 pj1 bj1 rj1 hd1 hv1
      clear hlv n1 n2 n3 H87
      obtain ⟨mid, ap, d4, hx⟩ : ∃ mid ap d4, Go.Sort.partition (ltP F) D a' z' R.pivot = (mid, ap, d4) := ⟨(Go.Sort.partition (ltP F) D a' z' R.pivot).1, (Go.Sort.partition (ltP F) D a' z' R.pivot).2.1, (Go.Sort.partition (ltP F) D a' z' R.pivot).2.2, rfl⟩
      obtain ⟨r1, r2, r3, r4, r5, r6, r7⟩ := Go.Sort.round_part (ltP_swo F) (Go.Sort.partition_holds (ltP F)) hpv1 hpv2 (show z' ≤ D.size by omega) HB3.out hx
      have KT := Lib.hid (partP F RV HC.out b n cap hn w a' z' R.pivot D w6 S6.out hpv1 hpv2 hz')
      have G3 := Lib.hid (fun h4 => P3.out HP2.out H88.out (by rw [hx]; exact ⟨r1, r2⟩) h4)
      have G4 := Lib.hid (fun h4 => P4.out HP2.out H88.out (by rw [hx]; exact ⟨r1, r2⟩) h4)
      rw [hx] at KT G3 G4
      dsimp only at KT G3 G4
      have HR4 := Lib.hid r4
      have HR5 := Lib.hid r5
      have HR6 := Lib.hid r6
      have HR7 := Lib.hid r7
      have hd4 : d4.size = n := r3.trans hDs
      clear r3 r4 r5 r6 r7 hx P3 P4 P2
      go_upto_if 125 with (go_at_call 290; refine (KT.out).mono ?_; rintro e w7 ⟨rfl, hs⟩)
      have S7 := Lib.hid hs
      clear hs KT S6
      by_cases h4 : mid - a' < z' - mid
      · have h4z : (mid : Int) - (a' : Int) < (z' : Int) - (mid : Int) := by omega
        have h4d : decide ((mid : Int) - (a' : Int) < (z' : Int) - (mid : Int)) = true := decide_eq_true h4z
        have KI := Lib.hid (IH.out a' mid R.lim d4 w7 (by omega) S7.out r1 (by omega) (by omega) HR4.out)
        obtain ⟨pL, sL⟩ := Go.Sort.pdq_sorts (ltP F) (ltP_swo F) d4 a' mid R.lim true true r1 (by omega) HR4.out
        have HBn := Lib.hid (HR6.out _ pL sL).1
        have HE := Lib.hid (G3.out h4)
        have e8 := eighth (x := z') (y := a') (p := mid) (q := a') r1 haz'
        clear pL sL G3 G4 HR4 HR5 HR6 HR7
        go_wp2_with (go_at_call 212; refine (KI.out).mono ?_; rintro e w8 ⟨rfl, hs⟩)
        go_roundw
        case rel =>
          refine ⟨mid + 1, z', R.lim, decide (mid - a' ≥ (z' - a') / 8), ap, _, by go_num, rfl, rfl, ?_, rfl, by omega, hz', by omega, by omega, HBn, hs, Lib.hid (by rw [← A.out, HE.out])⟩
          first | exact congrArg Value.bool e8 | rw [e8] | simp [e8]
        case measure => simp [intOf] <;> omega
      · have h4z : ¬ (mid : Int) - (a' : Int) < (z' : Int) - (mid : Int) := by omega
        have h4d : decide ((mid : Int) - (a' : Int) < (z' : Int) - (mid : Int)) = false := decide_eq_false h4z
        have KI := Lib.hid (IH.out (mid + 1) z' R.lim d4 w7 (by omega) S7.out (by omega) hz' (by omega) HR5.out)
        rw [show ((mid + 1 : Nat) : Int) = (mid : Int) + 1 from by omega] at KI
        obtain ⟨pL, sL⟩ := Go.Sort.pdq_sorts (ltP F) (ltP_swo F) d4 (mid + 1) z' R.lim true true (by omega) (by omega) HR5.out
        have HBn := Lib.hid (HR7.out _ pL sL).1
        have HE := Lib.hid (G4.out h4)
        have e8 := eighth (x := z') (y := a') (p := z') (q := mid) (by omega) haz'
        clear pL sL G3 G4 HR4 HR5 HR6 HR7
        go_wp2_with (go_at_call 212; refine (KI.out).mono ?_; rintro e w8 ⟨rfl, hs⟩)
        go_roundw
        case rel =>
          refine ⟨a', mid, R.lim, decide (z' - mid ≥ (z' - a') / 8), ap, _, rfl, rfl, rfl, ?_, rfl, r1, by omega, by omega, by omega, HBn, hs, Lib.hid (by rw [← A.out, HE.out])⟩
          first | exact congrArg Value.bool e8 | rw [e8] | simp [e8]
        case measure => simp [intOf] <;> omega
    | false =>
      have H88 : Hid ((decide (a' > 0) && !ltP F D[a' - 1]! D[R.pivot]!) = true) := Lib.hid (by rw [H87.out, hlv]; rfl)
      have HN : Hid (ltP F D[a' - 1]! D[R.pivot]! = false) := Lib.hid (by rw [HQ1.out]; exact hlv)
      have pi2 : (0 : Int) ≤ (q : Int) := by omega
      have bi2 : (q : Int) < (n : Int) := by omega
      obtain ⟨jN2, hjN2⟩ : ∃ q, q = R.pivot := ⟨_, rfl⟩
      have ej2 : ((R.pivot : Int)).toNat = jN2 := by omega
      have pj2 : (0 : Int) ≤ (R.pivot : Int) := by omega
      have bj2 : (R.pivot : Int) < (n : Int) := by omega
      have rj2 : IntKind.i64.wrap ((R.pivot : Int)) = (R.pivot : Int) := IntWalk.i64_in _ (by omega)
      obtain ⟨x2, hx2⟩ : ∃ x, x = D[q]! := ⟨_, rfl⟩
      obtain ⟨y2, hy2⟩ : ∃ x, x = D[R.pivot]! := ⟨_, rfl⟩
      have la2 := S5.out.cl (q) (by omega)
      have lb2 := S5.out.cl (R.pivot) (by omega)
      rw [← hx2] at la2
      rw [← hy2] at lb2
      rw [← hjN2] at lb2
      have hc2 := Lib.hid (fun q os => HC.out x2 y2 (by rw [hx2]; exact S5.out.l _) (by rw [hy2]; exact S5.out.l _) (Go.Sort.grow (wc.drewN q) os))
      have hd2 : decide (cmpS F x2 y2 < 0) = false := by rw [hx2, hy2]; exact hlv
      have hv2 : ¬ cmpS F x2 y2 < 0 := of_decide_eq_false hd2
      clear hx2 hy2 hjN2
      go_wp2_with fail
      go_quiet_grown (first | (go_at_call 84; refine Go.Calls.grown_of (hc2.out _ _)))
      have S6 : Hid (Srt w b n D (Go.Sort.grow (wc.drewN nq) osq)) := Lib.hid (S5.out.grown nq osq)
      clear la2 lb2 hc2 S5
      generalize Go.Sort.grow (wc.drewN nq) osq = w6 at S6 ⊢
      clear nq osq pi2 bi2 ej2 pj2 bj2 rj2 hd2 hv2
      clear hlv n1 n2 n3 H87
      obtain ⟨mid, d4, hx⟩ : ∃ mid d4, Go.Sort.partitionEqual (ltP F) D a' z' R.pivot = (mid, d4) := ⟨(Go.Sort.partitionEqual (ltP F) D a' z' R.pivot).1, (Go.Sort.partitionEqual (ltP F) D a' z' R.pivot).2, rfl⟩
      obtain ⟨r1, r2, r3, r4, _⟩ := Go.Sort.round_eq (ltP_swo F) (Go.Sort.partitionEqual_holds (ltP F)) (by omega) hpv1 hpv2 (show z' ≤ D.size by omega) HB3.out HN.out hx
      have KT := Lib.hid (peqP F RV HC.out b n cap hn w a' z' R.pivot D w6 S6.out hpv1 hpv2 hz')
      have HE := Lib.hid (P2.out HP2.out H88.out (by rw [hx]; exact ⟨r1, r2⟩))
      rw [hx] at KT HE
      dsimp only at KT HE
      have HR4 := Lib.hid r4
      clear r3 r4 hx P2 P3 P4 H88 HN
      go_wp2_with (go_at_call 289; refine (KT.out).mono ?_; rintro e w7 ⟨rfl, hs⟩)
      go_roundw
      case rel => exact ⟨mid, z', R.lim, wb, wp, d4, rfl, rfl, rfl, rfl, rfl, r2, hz', by omega, by omega, HR4, hs, Lib.hid (by rw [← A.out, HE.out])⟩
      case measure => simp [intOf] <;> omega
/-- The row is sorted: by falling size, then by rising pods. -/
def SortedP (F : Nat → Int) (w : World) (b n : Nat) (d : Array Nat) (w' : World) : Prop := ∃ d', Srt w b n d' w' ∧ Go.Sort.PermIn 0 n d d' ∧ Go.Sort.SortedIn (ltP F) 0 n d'
set_option maxRecDepth 1000000 in
set_option maxHeartbeats 8000000 in
theorem sortFuncP (F : Nat → Int) (RV : Value) (hC : CmpOk RV F) (b n cap : Nat) (hn : n ≤ 24) (w : World) (d : Array Nat) (hS : Srt w b n d w) :
    Calls Tryz.prog 151 #[.slice (some ⟨b, 0, none⟩) n cap, .func (.func 84) #[RV] #[]] w fun e w' => e = .returned (.tuple #[]) ∧ SortedP F w b n d w' := by
  obtain ⟨p1, p2⟩ := Go.Sort.pdq_sorts (ltP F) (ltP_swo F) d 0 n (Lib.bitLen n) true true (Nat.zero_le _) (by rw [hS.z]; exact Nat.le_refl _) (Or.inl rfl)
  have hl : Lib.bitLen n ≤ 100 := Nat.le_trans (Lib.bitLen_le n 62 (by omega) (by omega)) (by omega)
  have K := Lib.hid (pdqP F RV hC b n cap hn w (n + 1) 0 n (Lib.bitLen n) d w (by omega) hS (Nat.zero_le _) (Nat.le_refl _) hl (Or.inl rfl))
  have KL := Lib.hid (fun W' => Tryz.bits_Len (n : Int) W' (by omega) (by omega))
  have HP := Lib.hid (And.intro p1 p2)
  have n0 : (0 : Int) ≤ (n : Int) := by omega
  have hu : IntKind.u64.wrap (n : Int) = (n : Int) := by rw [IntKind.wrap_u64]; omega
  clear p1 p2 hS hC hl
  go_enter Tryz.func151, Tryz.ntmps151
  go_wp2_with fail
  refine (KL.out _).mono ?_
  rintro e w1 ⟨rfl, rfl⟩
  rw [Int.toNat_natCast]
  go_wp2_with fail
  refine (K.out).mono ?_
  rintro e w1 ⟨rfl, hs⟩
  have HS := Lib.hid hs
  clear hs
  go_wp2
  go_end0
  exact ⟨rfl, _, HS.out, HP.out.1, HP.out.2⟩
set_option maxRecDepth 1000000 in
set_option maxHeartbeats 8000000 in
theorem sortedP (F : Nat → Int) (RV : Value) (hC : CmpOk RV F) (b n cap : Nat) (hn : n ≤ 24) (w : World) (d : Array Nat) (hS : Srt w b n d w) :
    Calls Tryz.prog 74 #[.slice (some ⟨b, 0, none⟩) n cap, .func (.func 84) #[RV] #[]] w fun e w' => e = .returned (.slice (some ⟨b, 0, none⟩) n cap) ∧ SortedP F w b n d w' := by
  have K := Lib.hid (sortFuncP F RV hC b n cap hn w d hS)
  clear hC hS
  go_enter Tryz.func74, Tryz.ntmps74
  go_wp2_with fail
  refine (K.out).mono ?_
  rintro e w1 ⟨rfl, hs⟩
  have HS := Lib.hid hs
  clear hs
  go_wp2
  go_ret
  exact ⟨rfl, HS.out⟩
end Go.Proofs.YtmmokiaipfalmaaGreat

namespace Go.Proofs.YtmmokiaipfalmaaGreat
open Go.RowKit Go.Maps

set_option maxRecDepth 100000 in
set_option maxHeartbeats 4000000 in
/-- The comparing function, in the words that the sort wants. -/
theorem sizes_ok (F : Nat → Int) : CmpOk (.agg (rowF 24 F)) F := by
  intro i j hi hj w
  have Q0 := Lib.hid (Blk.new w (rowF 24 F) 117)
  have AT : Hid (∀ k : Nat, k < 24 → (w.alloc (.cells (rowF 24 F) 117)).cell? ⟨w.heap.size, k, none⟩ = some (.int .i64 (F k))) := Lib.hid (fun k hk => by rw [Blk.cell Q0.out k, rowF_get hk])
  have KC := Lib.hid (fun x y w => cmp_any x y w)
  have E : Hid (cmpS F i j = if Lib.compareInt (F j) (F i) = 0 then Lib.compareInt (i : Int) (j : Int) else Lib.compareInt (F j) (F i)) := Lib.hid rfl
  have HG : Hid (∃ q os', (w.alloc (.cells (rowF 24 F) 117)).drew = Go.Sort.grow (w.drewN q) os') := Lib.hid ⟨1, #[.cells (rowF 24 F) 117], by rw [Go.Sort.alloc_eq_grow]; rfl⟩
  generalize cmpS F i j = R at E ⊢
  have i0 : (0 : Int) ≤ (i : Int) := by omega
  have j0 : (0 : Int) ≤ (j : Int) := by omega
  have i1 : (i : Int) < 24 := by omega
  have j1 : (j : Int) < 24 := by omega
  go_enter Tryz.func84, Tryz.ntmps84
  go_upto_region 1 with fail
  try change Code.wp _ _ _ _ (w.alloc (.cells (rowF 24 F) 117))
  generalize (w.alloc (.cells (rowF 24 F) 117)) = W0 at Q0 AT HG ⊢
  have T0 : W0.drew.cell? ⟨w.heap.size, i, none⟩ = some (.int .i64 (F i)) ∧ W0.drew.cell? ⟨w.heap.size, j, none⟩ = some (.int .i64 (F j)) := ⟨AT.out i hi, AT.out j hj⟩
  generalize hx : F i = u at T0 E
  generalize hy : F j = v at T0 E
  have KE : Hid (∀ w, Calls Tryz.prog 152 #[.int .i64 (Lib.compareInt v u), .int .i64 (Lib.compareInt (i : Int) (j : Int))] w fun e w' => e = .returned (.int .i64 R) ∧ w' = w) := Lib.hid (fun w => by rw [E.out]; exact either_any _ _ w)
  clear E
  go_region_held3 (fun w' => w'.cell? ⟨w.heap.size, i, none⟩ = some (.int .i64 u) ∧ w'.cell? ⟨w.heap.size, j, none⟩ = some (.int .i64 v))
    (with_reducible exact T0)
    (first
      | (go_at_call 153; with_reducible refine (KC.out _ _ _).mono ?_; rintro e w3 ⟨rfl, rfl⟩)
      | (go_at_call 152; with_reducible refine (KE.out _).mono ?_; rintro e w3 ⟨rfl, rfl⟩))
  all_goals
    (try go_wp2_with fail)
    go_ret
    exact ⟨rfl, HG.out⟩
/-- A row that is sorted, as a list. -/
theorem sortedP_list {ns : List NodeD} {ps : List PodD} {pods : List Int} {w w' : World} {b n : Nat} {d : Array Nat} (hd : d.toList = amongL pods ps.length) (hz : d.size = n) (h : SortedP (sizeU ns ps) w b n d w') :
    ∃ d', Srt w b n d' w' ∧ d'.toList = orderU ns ps pods := by
  obtain ⟨d', h1, h2, h3⟩ := h
  refine ⟨d', h1, order_is ?_ ?_⟩
  · have hs : d'.size = n := h1.z
    have hp : d'.toList.Pairwise (fun a c => ltP (sizeU ns ps) c a = false) := by
      rw [List.pairwise_iff_getElem]
      intro i j hi hj hij
      have h4 := h3 i j (by omega) hij (by rw [Array.length_toList] at hj; omega)
      rw [Array.length_toList] at hi hj
      rw [Array.getElem_toList, Array.getElem_toList]
      rw [getElem!_pos d' i hi, getElem!_pos d' j hj] at h4
      exact h4
    have hnd : d'.toList.Nodup := by
      have hq : d'.toList.Perm d.toList := by
        have h5 := h2.2.2
        rw [show d'.extract 0 n = d' by rw [← hs]; simp, show d.extract 0 n = d by rw [← hz]; simp] at h5
        exact h5
      rw [hq.nodup_iff, hd]
      exact (amongL_rise pods ps.length).imp (fun h => by omega)
    refine (hp.and hnd).imp (fun {a c} h => ?_)
    obtain ⟨h6, h7⟩ := h
    unfold ltP at h6
    rw [decide_eq_false_iff_not, cmpS_lt] at h6
    rw [cmpS_lt]
    omega
  · have h5 := h2.2.2
    have hs : d'.size = n := h1.z
    rw [show d'.extract 0 n = d' by rw [← hs]; simp, show d.extract 0 n = d by rw [← hz]; simp, hd] at h5
    exact h5
set_option maxRecDepth 100000 in
set_option maxHeartbeats 4000000 in
theorem insN (RV : Value) (w : World) : Calls Tryz.prog 283 #[.slice none 0 0, .int .i64 0, .int .i64 0, .func (.func 84) #[RV] #[]] w fun e w' => e = .returned (.tuple #[]) ∧ w' = w := by
  go_enter Tryz.func283, Tryz.ntmps283
  go_wp2_with fail
  go_loopw [8] (fun i wr => i = .int .i64 1 ∧ wr = w) (fun _ _ => 0)
  case atStart => exact ⟨rfl, rfl⟩
  case round =>
  obtain ⟨rfl, rfl⟩ := hrel
  go_wp2_with fail
  go_end0
  exact ⟨rfl, rfl⟩
set_option maxRecDepth 100000 in
set_option maxHeartbeats 4000000 in
theorem pdqN (RV : Value) (lim : Int) (w : World) : Calls Tryz.prog 212 #[.slice none 0 0, .int .i64 0, .int .i64 0, .int .i64 lim, .func (.func 84) #[RV] #[]] w fun e w' => e = .returned (.tuple #[]) ∧ w' = w := by
  have K := Lib.hid (insN RV w)
  go_enter Tryz.func212, Tryz.ntmps212
  go_wp2_with fail
  go_loopw [1, 2] (fun x y wr => x = .int .i64 0 ∧ y = .int .i64 0 ∧ wr = w) (fun _ _ _ => 0)
  case atStart => exact ⟨rfl, rfl, rfl⟩
  case round =>
  obtain ⟨rfl, rfl, rfl⟩ := hrel
  go_wp2_with fail
  refine (K.out).mono ?_
  rintro e w1 ⟨rfl, rfl⟩
  go_wp2
  (try simp only [Exit.inBlock, Exit.then])
  refine bodyPost_ret (results_none rfl _ _ _) rfl ?_
  exact ⟨rfl, rfl⟩
set_option maxRecDepth 100000 in
set_option maxHeartbeats 4000000 in
theorem sortFuncN (RV : Value) (w : World) : Calls Tryz.prog 151 #[.slice none 0 0, .func (.func 84) #[RV] #[]] w fun e w' => e = .returned (.tuple #[]) ∧ w' = w := by
  have K := Lib.hid (fun lim => pdqN RV lim w)
  have KL := Lib.hid (fun W' => Tryz.bits_Len 0 W' (by omega) (by omega))
  go_enter Tryz.func151, Tryz.ntmps151
  go_wp2_with fail
  refine (KL.out _).mono ?_
  rintro e w1 ⟨rfl, rfl⟩
  go_wp2_with fail
  refine (K.out _).mono ?_
  rintro e w1 ⟨rfl, rfl⟩
  go_wp2
  go_end0
  exact ⟨rfl, rfl⟩
set_option maxRecDepth 100000 in
set_option maxHeartbeats 4000000 in
theorem sortedN (RV : Value) (w : World) : Calls Tryz.prog 74 #[.slice none 0 0, .func (.func 84) #[RV] #[]] w fun e w' => e = .returned (.slice none 0 0) ∧ w' = w := by
  have K := Lib.hid (sortFuncN RV w)
  go_enter Tryz.func74, Tryz.ntmps74
  go_wp2_with fail
  refine (K.out).mono ?_
  rintro e w1 ⟨rfl, rfl⟩
  go_wp2
  go_ret
  exact ⟨rfl, rfl⟩
theorem sort_own (F : Nat → Int) (L R : List Nat) (hL : ∀ k ∈ L, k < 24) (hn : L.length ≤ 24) (hlen : R.length = L.length)
    (hR : ∀ {w w' : World} {b n : Nat} {d : Array Nat}, d.toList = L → d.size = n → SortedP F w b n d w' → ∃ d', Srt w b n d' w' ∧ d'.toList = R)
    (base : Nat) (v : Value) (w : World) (ho : w.ownsRow base 3 1 v L.length (intsC (L.map (fun i : Nat => (i : Int))))) :
    Calls Tryz.prog 74 #[v, .func (.func 84) #[.agg (rowF 24 F)] #[]] w fun e w' => e = .returned v ∧ ∃ X cx, v = .slice X R.length cx ∧ IntsAt w' X cx (R.map (fun i : Nat => (i : Int))) ∧ (∀ a, X = some a → base ≤ a.block) ∧ Below base w w' := by
  have hlm : (L.map (fun i : Nat => (i : Int))).length = L.length := by rw [List.length_map]
  obtain ⟨X, cx, hv0, hI⟩ : ∃ X cx, v = .slice X L.length cx ∧ IntsAt w X cx (L.map (fun i : Nat => (i : Int))) := by
    obtain ⟨X, cx, rfl, _⟩ := La.own_slice ho
    refine ⟨X, cx, rfl, IntsAt.own (by rw [hlm]; exact ho)⟩
  rcases ho.2 with ⟨hv, hz⟩ | ⟨g, cap, cur, hv, hbase, hheap, _⟩
  · subst hv
    have hL0 : L = [] := List.length_eq_zero_iff.1 hz
    have hR0 : R = [] := List.length_eq_zero_iff.1 (by omega)
    subst hL0 hR0
    refine (sortedN _ w).mono ?_
    rintro e w' ⟨rfl, rfl⟩
    refine ⟨rfl, none, 0, rfl, ⟨fun j y hj => (by simp [intsC] at hj), Nat.le_refl _, by omega⟩, (fun a h => by cases h), Below.refl _ _⟩
  · rw [hv] at hv0
    injection hv0 with e1 e2 e3
    subst hv
    subst e1
    subst e3
    have hgl : g < w.heap.size := (Array.getElem?_eq_some_iff.1 hheap).1
    have hS : Srt w g L.length L.toArray w := by
      refine ⟨⟨hgl, fun i hi => ?_⟩, Below.refl _ _, by simp, fun i => ?_⟩
      · have hg : L[i]? = some L[i] := List.getElem?_eq_getElem hi
        have hj : (intsC (L.map (fun i : Nat => (i : Int))))[i]? = some (.int .i64 ((L[i] : Nat) : Int)) := by
          unfold intsC
          rw [List.getElem?_map, List.getElem?_map, hg]
          rfl
        obtain ⟨b, off, hA, hc⟩ := La.own_slat ho i _ hj
        cases hA
        refine ⟨?_, by unfold World.frozen?; simp [hheap]⟩
        rw [Nat.zero_add] at hc
        rw [hc]
        simp [hi]
      · by_cases hi : i < L.length
        · have e : L.toArray[i]! = L[i] := by simp [hi]
          rw [e]
          exact hL _ (List.getElem_mem hi)
        · have e : L.toArray[i]! = 0 := by
            simp only [getElem!_def, List.getElem?_toArray]
            rw [List.getElem?_eq_none (by omega)]
            rfl
          rw [e]
          omega
    refine (sortedP F _ (sizes_ok F) g L.length cap hn w L.toArray hS).mono ?_
    rintro e w' ⟨rfl, hs⟩
    obtain ⟨d', h1, h2⟩ := hR (by simp) (by simp) hs
    refine ⟨rfl, some ⟨g, 0, none⟩, cap, by rw [hlen], ⟨fun j y hj => ?_, by rw [List.length_map, hlen]; have := hI.le; rw [List.length_map] at this; exact this, hI.most⟩, (fun a h => by cases h; exact hbase), h1.w.mono hbase⟩
    unfold intsC at hj
    rw [List.getElem?_map, List.getElem?_map] at hj
    have hjl : j < R.length := by
      by_cases hjl : j < R.length
      · exact hjl
      · rw [List.getElem?_eq_none (by omega)] at hj
        cases hj
    rw [List.getElem?_eq_getElem hjl, Option.map_some, Option.map_some] at hj
    cases hj
    refine ⟨g, 0, rfl, ?_⟩
    rw [Nat.zero_add, (h1.r.c j (by omega)).1]
    have e : d'[j]! = R[j] := by
      have hdl : j < d'.size := by rw [h1.z]; omega
      rw [getElem!_pos d' j hdl, ← Array.getElem_toList]
      exact List.getElem_of_eq h2 _
    rw [e]
set_option maxRecDepth 100000 in
set_option maxHeartbeats 8000000 in
theorem order_any (A B C D : Option Addr) (ca cb cc cd : Nat) (ns : List NodeD) (ps : List PodD) (os : List OwnD) (pods : List Int) (hck : checkS ns ps os = 0) (w : World) (h : SnapIn w A B C ca cb cc ns ps os) (hD : IntsAt w D cd pods) :
    Calls Tryz.prog 29 #[snapV A B C ca cb cc ns ps os, .slice D pods.length cd] w fun e w' => ∃ X cx, e = .returned (.slice X (orderU ns ps pods).length cx) ∧ IntsAt w' X cx ((orderU ns ps pods).map (fun i : Nat => (i : Int))) ∧ (∀ a, X = some a → w.heap.size ≤ a.block) ∧ Below w.heap.size w w' := by
  have B0 : Hid (Below w.heap.size w (w.alloc (.cells (snapC A B C ca cb cc ns ps os) 26))) := Lib.hid (below1 w _)
  have S0 : Hid (Blk (w.alloc (.cells (snapC A B C ca cb cc ns ps os) 26)) w.heap.size (snapC A B C ca cb cc ns ps os) 26) := Lib.hid (Blk.new w _ _)
  have hp24 : ps.length ≤ 24 := (checkS_few (by rw [hck]; decide)).2.1
  have KC := Lib.hid (fun W' (hb : Below w.heap.size w W') => check_in A B C ca cb cc ns ps os W' (h.low hb))
  rw [hck] at KC
  have KA := Lib.hid (fun W' (hb : Below w.heap.size w W') => among_any D cd pods ps.length hp24 W' (hD.below hb))
  have KZ := Lib.hid (fun W' (hb : Below w.heap.size w W') => sizesOf_any A B C ca cb cc ns ps os hck W' (h.low hb))
  have KS := Lib.hid (fun base v W' ho => sort_own (sizeU ns ps) (amongL pods ps.length) (orderU ns ps pods) (fun k hk => (amongL_lt hk).1) (amongL_len _ _) (orderU_perm ns ps pods).length_eq (fun h1 h2 h3 => sortedP_list h1 h2 h3) base v W' ho)
  clear h hD hck
  generalize orderU ns ps pods = R at KS ⊢
  generalize rowF 24 (sizeU ns ps) = RV at KZ KS
  generalize amongL pods ps.length = L at KA KS
  go_enter Tryz.func29, Tryz.ntmps29
  go_upto_region 1 with fail
  try change Code.wp _ _ _ _ (w.alloc (.cells (snapC A B C ca cb cc ns ps os) 26))
  generalize (w.alloc (.cells (snapC A B C ca cb cc ns ps os) 26)) = W0 at B0 S0 ⊢
  have HC : Hid (∀ W', Below W0.heap.size W0 W' → (W'.cell? ⟨w.heap.size, 0, none⟩ = some (.slice A ns.length ca) ∧ W'.cell? ⟨w.heap.size, 1, none⟩ = some (.slice B ps.length cb) ∧ W'.cell? ⟨w.heap.size, 2, none⟩ = some (.slice C os.length cc))) := Lib.hid (fun W' hb => by
    have h1 := S0.out.below hb S0.out.lt
    exact ⟨Blk.cell h1 0, Blk.cell h1 1, Blk.cell h1 2⟩)
  have HT := Lib.hid (fun W' (hb : Below W0.heap.size W0 W') => B0.out.trans (hb.mono B0.out.size))
  have KC1 := Lib.hid (KC.out _ B0.out)
  have HWS : Hid (w.heap.size ≤ W0.heap.size) := Lib.hid B0.out.size
  clear S0 B0 KC
  obtain ⟨z0, z1, z2⟩ := HC.out _ (Below.refl _ _)
  go_wp2_with fail
  refine (KC1.out).mono ?_
  rintro e W1 ⟨rfl, hb⟩
  have HB1 := Lib.hid hb
  clear hb KC1 z0 z1 z2
  go_upto_region 3 with fail
  have D1 : Hid (Below W0.heap.size W0 W1.drew) := Lib.hid HB1.out.drew
  have z0 := HC.out _ D1.out
  have zz := HC.out _ HB1.out
  go_region_held3 (fun w' => w'.cell? ⟨w.heap.size, 0, none⟩ = some (.slice A ns.length ca) ∧ w'.cell? ⟨w.heap.size, 1, none⟩ = some (.slice B ps.length cb) ∧ w'.cell? ⟨w.heap.size, 2, none⟩ = some (.slice C os.length cc))
    (first | (with_reducible exact z0) | (with_reducible exact zz) | (with_reducible exact z3) | (with_reducible exact z4) | (with_reducible exact z5))
    (first
      | (go_at_call 82
         (with_reducible refine (KA.out _ (HT.out _ D1.out)).mono ?_)
         rintro e WA ⟨vv, rfl, ho, hb⟩
         have DA := Lib.hid (D1.out.trans (hb.mono D1.out.size))
         have HO := Lib.hid ho
         have HAB : Hid (W0.heap.size ≤ W1.drew.heap.size) := Lib.hid D1.out.size
         have z3 := HC.out _ DA.out
         clear ho hb)
      | (go_at_call 83
         (with_reducible refine (KZ.out _ (HT.out _ DA.out)).mono ?_)
         rintro e WZ ⟨rfl, hb⟩
         have DZ := Lib.hid (DA.out.trans (hb.mono DA.out.size))
         have HO2 := Lib.hid (La.own_below HO.out hb)
         have z4 := HC.out _ DZ.out
         clear hb)
      | (go_at_call 74
         (with_reducible refine (KS.out _ _ _ HO2.out).mono ?_)
         rintro e WS ⟨rfl, hr⟩
         obtain ⟨X, cx, hv, hI, hne, hb⟩ := hr
         have HNE := Lib.hid hne
         have HV := Lib.hid hv
         have HI := Lib.hid hI
         have DS := Lib.hid (DZ.out.trans (hb.mono HAB.out))
         have z5 := HC.out _ DS.out
         clear hv hI hne hb))
  all_goals
    (try go_wp2_with fail)
    go_ret
    exact ⟨X, cx, congrArg Ending.returned HV.out, HI.out, fun a h => Nat.le_trans (Nat.le_trans HWS.out HAB.out) (HNE.out a h), HT.out _ DS.out⟩
end Go.Proofs.YtmmokiaipfalmaaGreat

namespace Go.Proofs.YtmmokiaipfalmaaGreat
open Go.RowKit Go.Maps

/-- A pod is packed: where pods are then, and who waits. -/
def packS (ns : List NodeD) (ps : List PodD) (os : List OwnD) (x : List Int × List Int) (k : Nat) : List Int × List Int :=
  if x.1[k]? = some (-1) then (match rankU ns ps os x.1 (k : Int) with
    | [] => (x.1, x.2 ++ [(k : Int)])
    | y :: _ => (x.1.set k y, x.2)) else x
def packF (ns : List NodeD) (ps : List PodD) (os : List OwnD) (p : List Int) (L : List Nat) : List Int × List Int := L.foldl (packS ns ps os) (p, [])
theorem packS_len {ns : List NodeD} {ps : List PodD} {os : List OwnD} (x : List Int × List Int) (k : Nat) : (packS ns ps os x k).1.length = x.1.length ∧ (packS ns ps os x k).2.length ≤ x.2.length + 1 := by
  unfold packS
  split
  · split
    · simp
    · simp
  · simp
theorem packF_len {ns : List NodeD} {ps : List PodD} {os : List OwnD} (L : List Nat) : ∀ x : List Int × List Int, (L.foldl (packS ns ps os) x).1.length = x.1.length ∧ (L.foldl (packS ns ps os) x).2.length ≤ x.2.length + L.length := by
  induction L with
  | nil => intro x; simp
  | cons k t ih =>
    intro x
    rw [List.foldl_cons]
    obtain ⟨h1, h2⟩ := ih (packS ns ps os x k)
    obtain ⟨h3, h4⟩ := packS_len (ns := ns) (ps := ps) (os := os) x k
    rw [List.length_cons]
    exact ⟨h1.trans h3, by omega⟩
theorem packF_snoc {ns : List NodeD} {ps : List PodD} {os : List OwnD} {p : List Int} {L : List Nat} {m k : Nat} (h : L[m]? = some k) : packF ns ps os p (L.take (m + 1)) = packS ns ps os (packF ns ps os p (L.take m)) k := by
  unfold packF
  rw [List.take_add_one, h, Option.toList_some, List.foldl_append]
  rfl
theorem packF_two (ns : List NodeD) (ps : List PodD) (os : List OwnD) (p : List Int) (L : List Nat) : (packF ns ps os p L).1.length = p.length ∧ (packF ns ps os p L).2.length ≤ L.length := by
  have h := packF_len (ns := ns) (ps := ps) (os := os) L (p, [])
  unfold packF
  refine ⟨h.1, ?_⟩
  have h2 := h.2
  rw [show ((p, ([] : List Int)) : List Int × List Int).2.length = 0 from rfl, Nat.zero_add] at h2
  exact h2
theorem bang_list {j : Nat} (l2 : List Int) (h : j < l2.length) : l2.toArray[j]! = l2[j] := by
  rw [getElem!_pos l2.toArray j (by simpa using h)]
  simp
theorem own_far {w : World} {base : Nat} {e : TypeId} {sz n : Nat} {v : Value} {xs : List Value} (ho : w.ownsRow base e sz v n xs) {g : Nat} (hg : g < base) (i : Nat) (u : Value) : (w.setCell ⟨g, i, none⟩ u).ownsRow base e sz v n xs := by
  obtain ⟨hl, h1 | ⟨g', cap, cur, hv, hb, hgb, r⟩⟩ := ho
  · exact ⟨hl, .inl h1⟩
  · exact ⟨hl, .inr ⟨g', cap, cur, hv, hb, (Below.heap_setCell w ⟨g, i, none⟩ u g' (by show g' ≠ g; omega)).trans hgb, r⟩⟩
theorem grown_two {a w w' : World} {r1 r2 : Option Nat} (h : a.grownBy w r1) (h2 : w.grownBy w' r2) (hr : ∀ j, r2 = some j → a.heap.size ≤ j) : a.grownBy w' r1 :=
  ⟨h2.os.trans h.os, h2.tape.trans h.tape, h2.output.trans h.output, Nat.le_trans h.size h2.size, fun i hi hne => (h2.block i (Nat.lt_of_lt_of_le hi h.size) (fun e => by have := hr i e.symm; omega)).trans (h.block i hi hne)⟩
theorem ints_grown {w w' : World} {A : Option Addr} {c : Nat} {l : List Int} {r : Option Nat} (h : IntsAt w A c l) (hg : w.grownBy w' r) (hne : ∀ a, A = some a → some a.block ≠ r) : IntsAt w' A c l := by
  refine ⟨fun j y hj => ?_, h.le, h.most⟩
  obtain ⟨b, o, hA, hc⟩ := h.cells j y hj
  refine ⟨b, o, hA, ?_⟩
  have hb := World.block_lt_of_cell? w _ hc
  dsimp only at hb
  have h2 := hg.block b hb (hne _ hA)
  rw [← hc]
  unfold World.cell?
  dsimp only
  rw [h2]
theorem own_blockI {w : World} {base : Nat} {e : TypeId} {X : Option Addr} {n cx : Nat} {xs : List Value} (ho : w.ownsRow base e 1 (.slice X n cx) n xs) (hn : 0 < n) : ∃ g, X = some ⟨g, 0, none⟩ ∧ base ≤ g ∧ g < w.heap.size ∧ (Value.slice X n cx).ownBlock = some g := by
  rcases ho.2 with ⟨_, h⟩ | ⟨g, cap, cur, hv, hb, hg, _⟩
  · omega
  · cases hv
    exact ⟨g, rfl, hb, (Array.getElem?_eq_some_iff.1 hg).1, rfl⟩
theorem own_low {w w' : World} {base B : Nat} {e : TypeId} {sz n : Nat} {v : Value} {xs : List Value} (ho : w.ownsRow base e sz v n xs) (hb : Below B w w') (hv : ∀ j, v.ownBlock = some j → j < B) : w'.ownsRow base e sz v n xs := by
  obtain ⟨hl, h1 | ⟨g', cap, cur, hv', hbs, hgb, r⟩⟩ := ho
  · exact ⟨hl, .inl h1⟩
  · exact ⟨hl, .inr ⟨g', cap, cur, hv', hbs, (hb.block g' (hv g' (by rw [hv']; rfl))).trans hgb, r⟩⟩
theorem below_putI {w : World} {g n base : Nat} {os : Array Obj} (d : Array Int) (hg : base ≤ g) (hs : base ≤ w.heap.size) : Below base w (Go.Sort.grow (Go.Sort.putRow (Value.int .i64) (Go.Sort.ahead w n) g 0 d) os) := by
  refine ⟨rfl, rfl, rfl, by rw [Go.Sort.size_grow, Go.Sort.size_putRow]; exact Nat.le_add_right _ _, fun k hk => ?_⟩
  rw [Go.Sort.heap_grow_old _ _ (by rw [Go.Sort.size_putRow]; exact Nat.lt_of_lt_of_le hk hs)]
  have : g ≠ k := by omega
  simp [Go.Sort.putRow, Go.Sort.mapBlock, Go.Sort.ahead, Array.getElem?_modify, this]
/-- What Pack tells where it packs. -/
def PackNo (w : World) (q W : List Int) (n : Nat) (e : Ending) (w' : World) : Prop := ∃ X cx Y cy, e = .returned (.tuple #[.slice X n cx, .slice Y W.length cy, .int .i64 0]) ∧ w'.ownsRow w.heap.size 3 1 (.slice X n cx) n (intsC q) ∧ IntsAt w' Y cy W ∧ Below w.heap.size w w'
set_option maxRecDepth 100000 in
set_option maxHeartbeats 16000000 in
theorem pack_any (A B C P D : Option Addr) (ca cb cc cp cd : Nat) (ns : List NodeD) (ps : List PodD) (os : List OwnD) (p pods : List Int) (hE : placeE ns ps os p = 0) (w : World) (h : SnapIn w A B C ca cb cc ns ps os) (hpp : ∀ a, P = some a → ∃ b o, a = ⟨b, o, none⟩) (hp : IntsAt w P cp p) (hD : IntsAt w D cd pods) :
    Calls Tryz.prog 27 #[snapV A B C ca cb cc ns ps os, .slice P p.length cp, .slice D pods.length cd] w fun e w' => PackNo w (packF ns ps os p (orderU ns ps pods)).1 ((packF ns ps os p (orderU ns ps pods)).2.mergeSort (fun x y => decide (x ≤ y))) p.length e w' := by
  obtain ⟨i0, hi0, hz0, hz1, hz2⟩ := info_parts Qu.int_info
  have hck := placeE_chk hE
  have hpl := placeE_len hE
  have hfew := placeE_few hE
  have hp24 : p.length ≤ 24 := by have := hfew.2.1; omega
  have hAt := h.at hfew
  have B0 : Hid (Below w.heap.size w (w.alloc (.cells (snapC A B C ca cb cc ns ps os) 26))) := Lib.hid (below1 w _)
  have S0 : Hid (Blk (w.alloc (.cells (snapC A B C ca cb cc ns ps os) 26)) w.heap.size (snapC A B C ca cb cc ns ps os) 26) := Lib.hid (Blk.new w _ _)
  have KE := Lib.hid (fun W' (hb : Below w.heap.size w W') => pcheck_in A B C P ca cb cc cp ns ps os p W' (h.low hb) (hp.below hb))
  rw [hE] at KE
  have KC := Lib.hid (fun W' (hb : Below w.heap.size w W') => cloneI_any P cp p W' (by omega) hpp (hp.below hb))
  have KO := Lib.hid (fun W' (hb : Below w.heap.size w W') => order_any A B C D ca cb cc cd ns ps os pods hck W' (h.low hb) (hD.below hb))
  have KB := Lib.hid (fun X cx q (k : Nat) W' (hb : Below w.heap.size w W') (hq : IntsAt W' X cx q) => best_any A B C X ca cb cc cx ns ps os q (k : Int) W' (hAt.below hb) hq)
  have KSo := Lib.hid (fun b o c zs W' h1 h2 h3 => AnyM.slices_Sort_int Tryz.sort81 b o c zs W' h1 h2 h3)
  have KSn := Lib.hid (fun q c W' => AnyM.slices_Sort_int_none Tryz.sort81 q c W')
  have HLT : Hid (∀ k ∈ orderU ns ps pods, k < p.length) := Lib.hid (fun k hk => by have := (orderU_lt hk).2.1; omega)
  have HLL : Hid ((orderU ns ps pods).length ≤ 24) := Lib.hid (by rw [(orderU_perm ns ps pods).length_eq]; exact amongL_len _ _)
  have HSN : Hid (∀ (L : List Nat) (m k : Nat), L[m]? = some k → packF ns ps os p (L.take (m + 1)) = packS ns ps os (packF ns ps os p (L.take m)) k) := Lib.hid (fun L m k h => packF_snoc h)
  have HLN := Lib.hid (fun L : List Nat => packF_two ns ps os p L)
  clear h hp hD hE hck hAt hfew hpl
  generalize orderU ns ps pods = L at KO HLT HLL ⊢
  go_enter Tryz.func27, Tryz.ntmps27
  go_upto_region 1 with fail
  try change Code.wp _ _ _ _ (w.alloc (.cells (snapC A B C ca cb cc ns ps os) 26))
  generalize (w.alloc (.cells (snapC A B C ca cb cc ns ps os) 26)) = W0 at B0 S0 ⊢
  have HC : Hid (∀ W', Below W0.heap.size W0 W' → (W'.cell? ⟨w.heap.size, 0, none⟩ = some (.slice A ns.length ca) ∧ W'.cell? ⟨w.heap.size, 1, none⟩ = some (.slice B ps.length cb) ∧ W'.cell? ⟨w.heap.size, 2, none⟩ = some (.slice C os.length cc))) := Lib.hid (fun W' hb => by
    have h1 := S0.out.below hb S0.out.lt
    exact ⟨Blk.cell h1 0, Blk.cell h1 1, Blk.cell h1 2⟩)
  have HT := Lib.hid (fun W' (hb : Below W0.heap.size W0 W') => B0.out.trans (hb.mono B0.out.size))
  have HWS : Hid (w.heap.size ≤ W0.heap.size) := Lib.hid B0.out.size
  have KE1 := Lib.hid (KE.out _ B0.out)
  clear S0 B0 KE
  go_step3
  obtain ⟨z0, z1, z2⟩ := HC.out _ (Below.refl _ _)
  go_wp2_with fail
  refine (KE1.out).mono ?_
  rintro e W1 ⟨rfl, hb⟩
  have HB1 := Lib.hid hb
  have KC1 := Lib.hid (KC.out _ (HT.out _ hb))
  clear hb KE1 z0 z1 z2 KC
  go_wp2_with fail
  refine (KC1.out).mono ?_
  rintro e W2 ⟨vq, rfl, ho, hb⟩
  obtain ⟨X, cx, rfl, _⟩ := La.own_slice ho
  have HQ2 := Lib.hid ho
  have HB2 := Lib.hid (HB1.out.trans (hb.mono HB1.out.size))
  have HW1 : Hid (W0.heap.size ≤ W1.heap.size) := Lib.hid HB1.out.size
  have KO1 := Lib.hid (KO.out _ (HT.out _ (HB1.out.trans (hb.mono HB1.out.size))))
  clear ho hb KC1 KO HB1
  obtain ⟨z0, z1, z2⟩ := HC.out _ HB2.out
  go_wp2_with fail
  go_step3
  go_wp2_with fail
  refine (KO1.out).mono ?_
  rintro e W3 ⟨Y, cy, rfl, hI, hne, hb⟩
  have HI := Lib.hid hI
  have HB3 := Lib.hid (HB2.out.trans (hb.mono HB2.out.size))
  have HQ3 := Lib.hid (La.own_below HQ2.out hb)
  have HNE : Hid (∀ a, Y = some a → some a.block ≠ (Value.slice X p.length cx).ownBlock) := Lib.hid (fun a ha e => by
    have h1 := hne a ha
    have h2 := (HQ2.out.lt a.block e.symm).2
    omega)
  have HOB : Hid (∀ j, (Value.slice X p.length cx).ownBlock = some j → W1.heap.size ≤ j ∧ j < W3.heap.size) := Lib.hid (fun j hj => HQ3.out.lt j hj)
  clear hI hne hb KO1 z0 z1 z2 HQ2 HB2
  have HTW : Hid (∀ W', W3.grownBy W' (Value.slice X p.length cx).ownBlock → Below W0.heap.size W0 W') := Lib.hid (fun W' hg => HB3.out.grown hg HB3.out.size (fun j hj => Nat.le_trans HW1.out (HOB.out j hj).1))
  go_wp2_with fail
  go_loopw [7, 26] (fun v i wr => ∃ (m : Nat) (Y2 : Option Addr) (cy2 : Nat), m ≤ L.length ∧ i = .int .i64 (m : Int) ∧ v = .slice Y2 (packF ns ps os p (L.take m)).2.length cy2 ∧ wr.ownsRow W1.heap.size 3 1 (.slice X p.length cx) p.length (intsC (packF ns ps os p (L.take m)).1) ∧ wr.ownsRow W3.heap.size 3 1 (.slice Y2 (packF ns ps os p (L.take m)).2.length cy2) (packF ns ps os p (L.take m)).2.length (intsC (packF ns ps os p (L.take m)).2) ∧ W3.grownBy wr (Value.slice X p.length cx).ownBlock) (fun _ i _ => L.length - (intOf i).toNat)
  case atStart => exact ⟨0, none, 0, by omega, by rfl, rfl, HQ3.out, World.ownsRow_nil _ _ _ _, World.grownBy.refl _ _⟩
  case round =>
    clear HQ3 HB3
    obtain ⟨m, Y2, cy2, hm, rfl, rfl, hq, hwt, hg⟩ := hrel
    have HQ := Lib.hid hq
    have HW := Lib.hid hwt
    have HG := Lib.hid hg
    clear hq hwt hg
    by_cases hlt : m < L.length
    case neg =>
      obtain rfl : m = L.length := by omega
      have HB := Lib.hid (HT.out _ (HTW.out _ HG.out))
      rw [List.take_length] at HQ HW ⊢
      obtain ⟨q, hq⟩ : ∃ q, packF ns ps os p L = q := ⟨_, rfl⟩
      have HQE := Lib.hid hq
      rw [hq] at HQ HW ⊢
      have hln := HLN.out L
      rw [hq] at hln
      clear hq
      have hl2 : q.2.length ≤ 24 := by have := HLL.out; omega
      rcases HW.out.2 with ⟨hv, hz⟩ | ⟨g, cap, cur, hv, hbase, hheap, _⟩
      · injection hv with e1 e2 e3
        subst e1 e3
        have hW0 : q.2 = [] := List.length_eq_zero_iff.1 hz
        have KS := Lib.hid (KSn.out none 0 wr)
        have HR : Hid (q.2.mergeSort (fun x y => decide (x ≤ y)) = []) := Lib.hid (by rw [hW0]; simp)
        rw [hz]
        clear HW HI HNE hz e2 KB
        go_wp2_with fail
        refine (KS.out).mono ?_
        rintro e w9 ⟨rfl, rfl⟩
        go_wp2
        go_ret3
        rw [HQE.out, HR.out]
        exact ⟨X, cx, none, 0, rfl, own_base HQ.out (Nat.le_trans HWS.out HW1.out), ⟨fun j y hj => (by simp [intsC] at hj), Nat.le_refl _, by omega⟩, HB.out⟩
      · cases hv
        have hgl : g < wr.heap.size := (Array.getElem?_eq_some_iff.1 hheap).1
        have hH : Go.Sort.Holds (Value.int .i64) wr g 0 q.2.toArray := fun j hj => by
          have hj' : j < q.2.length := by simpa using hj
          have hgt : q.2[j]? = some q.2[j] := List.getElem?_eq_getElem hj'
          have hjj : (intsC q.2)[j]? = some (.int .i64 q.2[j]) := by
            unfold intsC
            rw [List.getElem?_map, hgt]
            rfl
          obtain ⟨b, off, hA, hc⟩ := La.own_slat HW.out j _ hjj
          cases hA
          refine ⟨?_, by unfold World.frozen?; simp [hheap]⟩
          rw [hc]
          simp [hj']
        have KS := Lib.hid (KSo.out g 0 cy2 q.2 wr hH hgl (by omega))
        have HIW := Lib.hid (IntsAt.own HW.out)
        have HGT : Hid (g < wr.heap.size ∧ W3.heap.size ≤ g) := Lib.hid ⟨hgl, hbase⟩
        have HHD := Lib.hid hH
        clear hH HI HNE KB hheap
        go_wp2_with fail
        refine (KS.out).mono ?_
        rintro e w9 ⟨rfl, nn, oss, rfl⟩
        have HLm : Hid ((q.2.mergeSort (fun x y => decide (x ≤ y))).length = q.2.length) := Lib.hid (List.length_mergeSort _)
        have HBp : Hid (Below W3.heap.size wr (Go.Sort.grow (Go.Sort.putRow (Value.int .i64) (Go.Sort.ahead wr nn) g 0 (q.2.mergeSort (fun x y => decide (x ≤ y))).toArray) oss)) := Lib.hid (below_putI _ HGT.out.2 HG.out.size)
        have HH9 := Lib.hid (Go.Sort.holds_grow (Value.int .i64) _ oss g 0 _ (by rw [Go.Sort.size_putRow]; exact HGT.out.1) (Go.Sort.holds_putRow (Value.int .i64) (Go.Sort.ahead wr nn) g 0 q.2.toArray (q.2.mergeSort (fun x y => decide (x ≤ y))).toArray HHD.out (by simp [HLm.out])))
        generalize Go.Sort.grow (Go.Sort.putRow (Value.int .i64) (Go.Sort.ahead wr nn) g 0 (q.2.mergeSort (fun x y => decide (x ≤ y))).toArray) oss = w9 at HBp HH9 ⊢
        have HQ9 := Lib.hid (own_low HQ.out HBp.out (fun j hj => (HOB.out j hj).2))
        have HB9 : Hid (Below w.heap.size w w9) := Lib.hid (HB.out.trans (HBp.out.mono (by have h1 := HWS.out; have h2 := HW1.out; have h3 := HTW.out W3 (World.grownBy.refl _ _); have := h3.size; omega)))
        clear KS HHD HBp HB HQ HW
        go_wp2
        go_ret3
        rw [HQE.out]
        refine ⟨X, cx, some ⟨g, 0, none⟩, cy2, congrArg (fun n => Ending.returned (Value.tuple #[.slice X p.length cx, .slice (some ⟨g, 0, none⟩) n cy2, .int .i64 0])) HLm.out.symm, own_base HQ9.out (Nat.le_trans HWS.out HW1.out), ⟨fun j y hj => ⟨g, 0, rfl, ?_⟩, by rw [HLm.out]; exact HIW.out.le, HIW.out.most⟩, HB9.out⟩
        have hjl : j < (q.2.mergeSort (fun x y => decide (x ≤ y))).length := by
          by_cases hjl : j < (q.2.mergeSort (fun x y => decide (x ≤ y))).length
          · exact hjl
          · unfold intsC at hj
            rw [List.getElem?_map, List.getElem?_eq_none (by omega)] at hj
            cases hj
        have h9 := (HH9.out j (by simpa using hjl)).1
        unfold intsC at hj
        rw [List.getElem?_map, List.getElem?_eq_getElem hjl] at hj
        cases hj
        rw [h9]
        rw [bang_list _ hjl]
    obtain ⟨k, hk⟩ : ∃ k, L[m]? = some k := ⟨L[m], List.getElem?_eq_getElem hlt⟩
    have hkp := HLT.out k (List.mem_of_getElem? hk)
    have HS := Lib.hid (HSN.out L m k hk)
    have hlq := HLN.out (L.take m)
    rw [List.length_take] at hlq
    generalize packF ns ps os p (L.take m) = x at HQ HW HS hlq ⊢
    obtain ⟨q, W⟩ := x
    dsimp only at HQ HW hlq ⊢
    obtain ⟨g, hX, hgB, hgl, hgo⟩ := own_blockI HQ.out (by omega)
    subst hX
    obtain ⟨z, hz⟩ : ∃ z, q[k]? = some z := ⟨q[k]'(by omega), List.getElem?_eq_getElem _⟩
    have HK : Hid ((L.map (fun i : Nat => (i : Int)))[m]? = some (k : Int)) := Lib.hid (by rw [List.getElem?_map, hk]; rfl)
    have HIr := Lib.hid (ints_grown HI.out HG.out HNE.out)
    obtain ⟨yb, yo, hYa, _, c0⟩ := atI HIr.out.cells HK.out
    subst hYa
    have m0 : (0 : Int) ≤ (m : Int) := by omega
    have m1 : (m : Int) < (L.length : Int) := by omega
    have hL24 : L.length ≤ 24 := HLL.out
    have k0 : (0 : Int) ≤ (k : Int) := by omega
    have k1 : (k : Int) < (p.length : Int) := by omega
    have HWl : Hid (W.length ≤ 24) := Lib.hid (by have := HLL.out; have := hlq.2; omega)
    have HGF : Hid (g < W3.heap.size ∧ W1.heap.size ≤ g) := Lib.hid ⟨(HOB.out g hgo).2, hgB⟩
    have HGO := Lib.hid hgo
    have HQL : Hid (q.length = p.length) := Lib.hid hlq.1
    have HZ := Lib.hid hz
    clear hlq hk hgo hgB hgl HIr hz
    go_wp2_with fail
    clear c0
    go_loopg [7, 12] 1 (fun gn s7 _ wq => s7 = .slice Y2 W.length cy2 ∧ ∃ q', wq.ownsRow W1.heap.size 3 1 (.slice (some ⟨g, 0, none⟩) p.length cx) p.length (intsC q') ∧ wq.ownsRow W3.heap.size 3 1 (.slice Y2 W.length cy2) W.length (intsC W) ∧ W3.grownBy wq (Value.slice (some ⟨g, 0, none⟩) p.length cx).ownBlock ∧ ((q' = q ∧ gn = 1) ∨ (∃ y t, q' = q.set k y ∧ 0 ≤ y ∧ z = -1 ∧ rankU ns ps os q (k : Int) = y :: t)))
    case atStart => exact ⟨rfl, q, HQ.out, HW.out, HG.out, Or.inl ⟨rfl, rfl⟩⟩
    case round =>
      clear HQ HW HG
      obtain ⟨rfl, q', hq, hwt, hg, hst⟩ := hrel
      have HQ := Lib.hid hq
      have HW := Lib.hid hwt
      have HG := Lib.hid hg
      clear hq hwt hg
      have HB := Lib.hid (HTW.out _ HG.out)
      obtain ⟨z0, z1, z2⟩ := HC.out _ HB.out
      rcases hst with ⟨rfl, hgn⟩ | ⟨y, t, rfl, hy, hzm, hrk⟩
      · obtain ⟨b2, o2, hA2, _, c1⟩ := atI (La.own_slat HQ.out) HZ.out
        cases hA2
        rw [Nat.zero_add] at c1
        by_cases hz1 : z = -1
        case neg =>
          have hzb : (z == -1) = false := by rw [beq_eq_false_iff_ne]; exact hz1
          have hzd : decide (z = -1) = false := decide_eq_false hz1
          have HE : Hid (packF ns ps os p (L.take (m + 1)) = (q', W)) := Lib.hid (by
            rw [HS.out]
            unfold packS
            rw [if_neg]
            rw [HZ.out]
            intro e
            cases e
            exact hz1 rfl)
          clear HS KB hgn
          go_wp2_with fail
          go_roundw
          case rel => exact ⟨m + 1, Y2, cy2, by omega, by go_num, by rw [HE.out], by rw [HE.out]; exact HQ.out, by rw [HE.out]; exact HW.out, HG.out⟩
          case measure => simp [intOf] <;> omega
        subst hz1
        have KB1 := Lib.hid (KB.out (some ⟨g, 0, none⟩) cx q' k wr (HT.out _ HB.out) (by
          have h1 := IntsAt.own (l := q') (by rw [HQL.out]; exact HQ.out)
          exact h1))
        rw [HQL.out] at KB1
        go_wp2_with fail
        refine (KB1.out).mono ?_
        rintro e w5 ⟨R, rfl, hR, hb⟩
        have hR2 := rank_is hR
        subst hR2
        have HQ5 := Lib.hid (La.own_below HQ.out hb)
        have HW5 := Lib.hid (La.own_below HW.out hb)
        have HG5 := Lib.hid (grown_below HG.out hb)
        clear hb hR KB1 HQ HW HG HB z0 z1 z2 c1
        cases hr : rankU ns ps os q' (k : Int) with
        | nil =>
          have HE : Hid (packF ns ps os p (L.take (m + 1)) = (q', W ++ [(k : Int)])) := Lib.hid (by
            rw [HS.out]
            unfold packS
            rw [if_pos HZ.out]
            dsimp only
            rw [hr])
          clear HS KB hr hgn
          have hwl := HWl.out
          go_wp2_with (at_builtin; refine wpList_append_own _ rfl _ _ 27 rfl W3.heap.size 3 i0 (.int .i64 0) 1 8 Tryz.underlying27 hi0 hz0 hz1 hz2 rfl (by decide) _ _ _ rfl (show World.ownsRow _ _ _ _ _ _ _ from HW5.out.alloc _) ⟨w5.heap.size, 0, none⟩ 1 1 [.int .i64 (k : Int)] rfl rfl ?c1 ?c2 ?c3 ?c4 ?c5 ?_)
          case c1 =>
            intro t u hj
            match t, hj with
            | 0, hj => simp at hj; subst hj; simp [Addr.add]
          case c2 => first | rfl | (intro u hu; simp at hu; subst hu; rfl)
          case c3 => unfold maxLen; omega
          case c4 => omega
          case c5 => have := HG5.out.size; simp; omega
          intro v4 w4 hown4 hgrow4 _
          obtain ⟨Y4, c4, rfl, _⟩ := La.own_slice hown4
          have P4 := Lib.hid hown4
          have HA4 := Lib.hid (grown_two (grown_alloc HG5.out (.cells #[.int .i64 (k : Int)] 3)) hgrow4 (fun j hj => own_gem HW5.out hj))
          have HQ4 : Hid (w4.ownsRow W1.heap.size 3 1 (.slice (some ⟨g, 0, none⟩) p.length cx) p.length (intsC q')) := Lib.hid (by
            refine (show World.ownsRow _ _ _ _ _ _ _ from HQ5.out.alloc _).kept hgrow4 (.inr ?_)
            rw [HGO.out]
            intro e
            have := own_gem HW5.out e.symm
            have := HGF.out.1
            omega)
          clear hown4 hgrow4 HQ5 HW5 HG5
          go_wp2_with fail
          go_roundw
          case rel =>
            have hl4 : (W ++ [(k : Int)]).length = W.length + 1 := by simp
            refine ⟨m + 1, Y4, c4, by omega, by go_num, by rw [HE.out]; dsimp only; rw [hl4], by rw [HE.out]; exact HQ4.out, ?_, HA4.out⟩
            rw [HE.out]
            dsimp only
            rw [hl4]
            have := P4.out
            simpa [intsC] using this
          case measure => simp [intOf] <;> omega
        | cons y t =>
          have hy0 : 0 ≤ y := by
            obtain ⟨⟨m', _, e⟩, _⟩ := rank_fit (ns := ns) (ps := ps) (os := os) (p := q') (pd := (k : Int)) (x := y) (by rw [hr]; exact List.mem_cons_self)
            omega
          have HRK := Lib.hid hr
          have hfr := own_free HQ5.out k
          obtain ⟨b2, o2, hA2, _, c1⟩ := atI (La.own_slat HQ5.out) HZ.out
          cases hA2
          rw [Nat.zero_add] at c1
          have HQ6 : Hid ((w5.setCell ⟨g, k, none⟩ (.int .i64 y)).ownsRow W1.heap.size 3 1 (.slice (some ⟨g, 0, none⟩) p.length cx) p.length (intsC (q'.set k y))) := Lib.hid (by
            have h1 := own_put HQ5.out k (.int .i64 y)
            rw [ints_set] at h1
            exact h1)
          have HW6 : Hid ((w5.setCell ⟨g, k, none⟩ (.int .i64 y)).ownsRow W3.heap.size 3 1 (.slice Y2 W.length cy2) W.length (intsC W)) := Lib.hid (own_far HW5.out HGF.out.1 _ _)
          have HG6 : Hid (W3.grownBy (w5.setCell ⟨g, k, none⟩ (.int .i64 y)) (Value.slice (some ⟨g, 0, none⟩) p.length cx).ownBlock) := Lib.hid (by
            have h1 := HG5.out
            rw [HGO.out] at h1 ⊢
            exact grown_set h1 k _)
          clear hr HQ5 HW5 HG5
          go_wp2_with fail
          go_roundg 0
          case measure => omega
          case rel => exact ⟨rfl, q'.set k y, HQ6.out, HW6.out, HG6.out, Or.inr ⟨y, t, rfl, hy0, by first | trivial | rfl, HRK.out⟩⟩
      · subst hzm
        have HE : Hid (packF ns ps os p (L.take (m + 1)) = (q.set k y, W)) := Lib.hid (by
          rw [HS.out]
          unfold packS
          rw [if_pos HZ.out]
          dsimp only
          rw [hrk])
        have hyk : (q.set k y)[k]? = some y := by
          rw [List.getElem?_set_self (by have := HQL.out; omega)]
        obtain ⟨b2, o2, hA2, _, c1⟩ := atI (La.own_slat HQ.out) hyk
        cases hA2
        rw [Nat.zero_add] at c1
        have hzb : (y == -1) = false := by rw [beq_eq_false_iff_ne]; omega
        have hzd : decide (y = -1) = false := decide_eq_false (by omega)
        clear HS KB hrk hyk
        go_wp2_with fail
        go_roundw
        case rel => exact ⟨m + 1, Y2, cy2, by omega, by go_num, by rw [HE.out], by rw [HE.out]; exact HQ.out, by rw [HE.out]; exact HW.out, HG.out⟩
        case measure => simp [intOf] <;> omega
end Go.Proofs.YtmmokiaipfalmaaGreat

namespace Go.Proofs.YtmmokiaipfalmaaGreat
open Go.RowKit

theorem fe_ck : checkS feN feP [] = 0 := by kernel_rfl
theorem fe_l0 : leftF feN feP [] [0, 1, -1, -1] 0 = 500 := by kernel_rfl
theorem fe_l1 : leftF feN feP [] [0, 1, -1, -1] 1 = 500 := by kernel_rfl
theorem fe_r3 : rankU feN feP [] [0, 1, -1, -1] 3 = [1, 0] := by kernel_rfl
theorem fe_r2 : rankU feN feP [] [0, 1, -1, -1] 2 = [0] := by kernel_rfl
theorem fe_b3 : rankU feN feP [] [0, 0, 1, -1] 3 = [0, 1] := by kernel_rfl
theorem fe_o : orderU feN feP [3, 2, 1, 0, 1] = [0, 2, 1, 3] := by kernel_rfl
theorem fe_o2 : orderU feN feP [0, 1, 2, 3] = [0, 2, 1, 3] := by kernel_rfl
theorem fe_p0 : placeE feN feP [] [-1, -1, -1, -1] = 0 := by kernel_rfl
theorem fe_pk : packF feN feP [] [-1, -1, -1, -1] [0, 2, 1, 3] = ([1, 0, 0, 0], []) := by kernel_rfl
end Go.Proofs.YtmmokiaipfalmaaGreat

namespace Go.Proofs.YtmmokiaipfalmaaGreat
open Go.RowKit

theorem ints_newF (W : World) (l : List Int) (hl : l.length ≤ 1000) : IntsAt (W.alloc (.cells (intsC l).toArray 3)) (some ⟨W.heap.size, 0, none⟩) l.length l := by
  refine ⟨fun j y hj => ⟨W.heap.size, 0, rfl, ?_⟩, Nat.le_refl _, by omega⟩
  rw [Nat.zero_add, Blk.cell (Blk.new W _ _) j, ← hj, ← List.getElem?_toArray]
theorem eqSameF (A B : Option Addr) (ca cb : Nat) (l : List Int) (w : World) (hl : l.length ≤ 9223372036854775807) (ha : IntsAt w A ca l) (hb : IntsAt w B cb l) :
    Calls Tryz.prog 28 #[.slice A l.length ca, .slice B l.length cb] w fun e w' => e = .returned (.bool true) ∧ Below w.heap.size w w' := by
  have q := eqInts_anyL A B ca cb l l w hl ha hb
  rwa [decide_eq_true (rfl : l = l)] at q
/-- The cluster and its box lie in memory. -/
structure FeW (w W : World) (N : Nat) (B : Option Addr) (cb Sb : Nat) : Prop where
  s : SnapIn W (some ⟨N + 1, 0, none⟩) B none 2 cb 0 feN feP []
  b : Blk W Sb #[.slice (some ⟨N + 1, 0, none⟩) 2 2, .slice B 4 cb, .slice none 0 0] 26
  w : Below w.heap.size w W
theorem FeW.below {w W W' : World} {N cb Sb : Nat} {B : Option Addr} (h : FeW w W N B cb Sb) (hb : Below W.heap.size W W') : FeW w W' N B cb Sb := ⟨h.s.low hb, h.b.below hb h.b.lt, h.w.trans (hb.mono h.w.size)⟩
theorem FeW.c0 {w W : World} {N cb Sb : Nat} {B : Option Addr} (h : FeW w W N B cb Sb) : W.cell? ⟨Sb, 0, none⟩ = some (.slice (some ⟨N + 1, 0, none⟩) 2 2) ∧ W.cell? ⟨Sb, 1, none⟩ = some (.slice B 4 cb) ∧ W.cell? ⟨Sb, 2, none⟩ = some (.slice none 0 0) := ⟨Blk.cell h.b 0, Blk.cell h.b 1, Blk.cell h.b 2⟩
theorem fe_few : Few feN feP [] := ⟨by decide, by decide, by decide⟩
set_option maxRecDepth 100000 in
set_option maxHeartbeats 16000000 in
theorem works14_any (w : World) :
    Calls Tryz.prog 19 #[] w fun e w' => e = .returned (.bool true) ∧ Below w.heap.size w w' := by
  have KC := Lib.hid (chapter14_any w)
  obtain ⟨N, hN⟩ : ∃ N, w.heap.size = N := ⟨_, rfl⟩
  rw [hN] at KC
  have HN := Lib.hid hN
  clear hN
  go_enter Tryz.func19, Tryz.ntmps19
  go_wp2_with fail
  refine (KC.out).mono ?_
  rintro e w1 ⟨B, cb, rfl, hf, hb⟩
  have hb : Below w.heap.size w w1 := by rw [HN.out]; exact hb
  have H0 : Hid (FeW w (w1.alloc (.cells #[.slice (some ⟨N + 1, 0, none⟩) 2 2, .slice B 4 cb, .slice none 0 0] 26)) N B cb w1.heap.size) := Lib.hid ⟨hf.snap.low (below1 _ _), Blk.new w1 _ _, hb.trans ((below1 w1 _).mono hb.size)⟩
  clear hf hb KC
  go_upto_region 2 with fail
  try change Code.wp _ _ _ _ (w1.alloc (.cells #[.slice (some ⟨N + 1, 0, none⟩) 2 2, .slice B 4 cb, .slice none 0 0] 26))
  generalize (w1.alloc (.cells #[.slice (some ⟨N + 1, 0, none⟩) 2 2, .slice B 4 cb, .slice none 0 0] 26)) = V at H0 ⊢
  obtain ⟨Sb, hSb⟩ : ∃ Sb, w1.heap.size = Sb := ⟨_, rfl⟩
  rw [hSb] at H0 ⊢
  clear hSb
  have IP0 := Lib.hid (ints_newF V [0, 1, -1, -1] (by simp))
  have H1 := Lib.hid (H0.out.below (below1 V (.cells (intsC [0, 1, -1, -1]).toArray 3)))
  go_upto_region 3 with fail
  try change Code.wp _ _ _ _ (V.alloc (.cells (intsC [0, 1, -1, -1]).toArray 3))
  generalize (V.alloc (.cells (intsC [0, 1, -1, -1]).toArray 3)) = V0 at H1 IP0 ⊢
  obtain ⟨Pb, hPb⟩ : ∃ Pb, V.heap.size = Pb := ⟨_, rfl⟩
  rw [hPb] at IP0 ⊢
  clear hPb H0
  have H0 := H1
  clear H1
  have R0x := Lib.hid (ints_newF V0 [0, 0, 1, -1] (by simp))
  have Hx0 := Lib.hid (H0.out.below (below1 V0 (.cells (intsC [0, 0, 1, -1]).toArray 3)))
  have IPx0 := Lib.hid (IP0.out.below (below1 V0 (.cells (intsC [0, 0, 1, -1]).toArray 3)))
  obtain ⟨b0, b1, b2⟩ := Hx0.out.c0
  have K := Lib.hid (best_any _ _ _ _ 2 cb 0 4 feN feP [] [0, 0, 1, -1] 3 _ (Hx0.out.s.at fe_few) R0x.out)
  clear b0 b1 b2
  obtain ⟨b0, b1, b2⟩ := H0.out.c0
  go_wp2_with fail
  refine (K.out).mono ?_
  rintro e V1 ⟨R, rfl, hR, hb⟩
  have H1 := Lib.hid (Hx0.out.below hb)
  have IP1 := Lib.hid (IPx0.out.below hb)
  have hR2 := (rank_is hR).trans fe_b3
  subst hR2
  clear hR
  clear hb K b0 b1 b2
  have R0x := Lib.hid (ints_newF V1 [-1, -1, -1, -1] (by simp))
  have Hx0 := Lib.hid (H1.out.below (below1 V1 (.cells (intsC [-1, -1, -1, -1]).toArray 3)))
  have IPx0 := Lib.hid (IP1.out.below (below1 V1 (.cells (intsC [-1, -1, -1, -1]).toArray 3)))
  have R1x := Lib.hid (ints_newF (V1.alloc (.cells (intsC [-1, -1, -1, -1]).toArray 3)) [0, 1, 2, 3] (by simp))
  have Hx1 := Lib.hid (Hx0.out.below (below1 (V1.alloc (.cells (intsC [-1, -1, -1, -1]).toArray 3)) (.cells (intsC [0, 1, 2, 3]).toArray 3)))
  have IPx1 := Lib.hid (IPx0.out.below (below1 (V1.alloc (.cells (intsC [-1, -1, -1, -1]).toArray 3)) (.cells (intsC [0, 1, 2, 3]).toArray 3)))
  rw [World.size_alloc] at R1x
  have R0x := Lib.hid (R0x.out.below (below1 (V1.alloc (.cells (intsC [-1, -1, -1, -1]).toArray 3)) (.cells (intsC [0, 1, 2, 3]).toArray 3)))
  obtain ⟨b0, b1, b2⟩ := Hx1.out.c0
  have K := Lib.hid (pack_any _ _ _ _ _ 2 cb 0 4 4 feN feP [] [-1, -1, -1, -1] [0, 1, 2, 3] fe_p0 _ Hx1.out.s (fun a h => by cases h; exact ⟨_, _, rfl⟩) R0x.out R1x.out)
  rw [fe_o2, fe_pk] at K
  clear b0 b1 b2
  obtain ⟨b0, b1, b2⟩ := H1.out.c0
  go_wp2_with fail
  refine (K.out).mono ?_
  rintro e V2 ⟨Xq, cq, Yq, cyq, rfl, ho, hI, hb⟩
  have H2 := Lib.hid (Hx1.out.below hb)
  have IP2 := Lib.hid (IPx1.out.below hb)
  have IQ2 := Lib.hid (IntsAt.own ho)
  clear ho hI
  clear hb K b0 b1 b2
  obtain ⟨b0, b1, b2⟩ := H2.out.c0
  have K := Lib.hid (Left_any _ _ _ _ 2 cb 0 4 feN feP [] [0, 1, -1, -1] 0 _ H2.out.s IP2.out)
  rw [fe_l0] at K
  go_wp2_with fail
  refine (K.out).mono ?_
  rintro e V3 ⟨rfl, hb⟩
  have H3 := Lib.hid (H2.out.below hb)
  have IP3 := Lib.hid (IP2.out.below hb)
  have IQ3 := Lib.hid (IQ2.out.below hb)
  clear hb K b0 b1 b2
  obtain ⟨b0, b1, b2⟩ := H3.out.c0
  have K := Lib.hid (Left_any _ _ _ _ 2 cb 0 4 feN feP [] [0, 1, -1, -1] 1 _ H3.out.s IP3.out)
  rw [fe_l1] at K
  go_wp2_with fail
  refine (K.out).mono ?_
  rintro e V4 ⟨rfl, hb⟩
  have H4 := Lib.hid (H3.out.below hb)
  have IP4 := Lib.hid (IP3.out.below hb)
  have IQ4 := Lib.hid (IQ3.out.below hb)
  clear hb K b0 b1 b2
  obtain ⟨b0, b1, b2⟩ := H4.out.c0
  have K := Lib.hid (rank_any _ _ _ _ 2 cb 0 4 feN feP [] [0, 1, -1, -1] 3 _ (H4.out.s.at fe_few) IP4.out)
  go_wp2_with fail
  refine (K.out).mono ?_
  rintro e V5 ⟨Xr, cr, R, rfl, hI, hR, hb⟩
  have H5 := Lib.hid (H4.out.below hb)
  have IP5 := Lib.hid (IP4.out.below hb)
  have IQ5 := Lib.hid (IQ4.out.below hb)
  have hR2 := (rank_is hR).trans fe_r3
  subst hR2
  have IR5 := Lib.hid hI
  clear hR hI
  clear hb K b0 b1 b2
  have R0x := Lib.hid (ints_newF V5 [1, 0] (by simp))
  have Hx0 := Lib.hid (H5.out.below (below1 V5 (.cells (intsC [1, 0]).toArray 3)))
  have IPx0 := Lib.hid (IP5.out.below (below1 V5 (.cells (intsC [1, 0]).toArray 3)))
  have IQx0 := Lib.hid (IQ5.out.below (below1 V5 (.cells (intsC [1, 0]).toArray 3)))
  have IRx0 := Lib.hid (IR5.out.below (below1 V5 (.cells (intsC [1, 0]).toArray 3)))
  obtain ⟨b0, b1, b2⟩ := Hx0.out.c0
  have K := Lib.hid (eqSameF Xr _ cr 2 [1, 0] _ (by simp) IRx0.out R0x.out)
  clear b0 b1 b2
  obtain ⟨b0, b1, b2⟩ := H5.out.c0
  go_wp2_with fail
  refine (K.out).mono ?_
  rintro e V6 ⟨rfl, hb⟩
  have H6 := Lib.hid (Hx0.out.below hb)
  have IP6 := Lib.hid (IPx0.out.below hb)
  have IQ6 := Lib.hid (IQx0.out.below hb)
  have IR6 := Lib.hid (IRx0.out.below hb)
  clear hb K b0 b1 b2
  obtain ⟨b0, b1, b2⟩ := H6.out.c0
  have K := Lib.hid (rank_any _ _ _ _ 2 cb 0 4 feN feP [] [0, 1, -1, -1] 2 _ (H6.out.s.at fe_few) IP6.out)
  go_wp2_with fail
  refine (K.out).mono ?_
  rintro e V7 ⟨Xr, cr, R, rfl, hI, hR, hb⟩
  have H7 := Lib.hid (H6.out.below hb)
  have IP7 := Lib.hid (IP6.out.below hb)
  have IQ7 := Lib.hid (IQ6.out.below hb)
  have hR2 := (rank_is hR).trans fe_r2
  subst hR2
  have IR7 := Lib.hid hI
  clear hR hI
  clear hb K b0 b1 b2
  have R0x := Lib.hid (ints_newF V7 [0] (by simp))
  have Hx0 := Lib.hid (H7.out.below (below1 V7 (.cells (intsC [0]).toArray 3)))
  have IPx0 := Lib.hid (IP7.out.below (below1 V7 (.cells (intsC [0]).toArray 3)))
  have IQx0 := Lib.hid (IQ7.out.below (below1 V7 (.cells (intsC [0]).toArray 3)))
  have IRx0 := Lib.hid (IR7.out.below (below1 V7 (.cells (intsC [0]).toArray 3)))
  obtain ⟨b0, b1, b2⟩ := Hx0.out.c0
  have K := Lib.hid (eqSameF Xr _ cr 1 [0] _ (by simp) IRx0.out R0x.out)
  clear b0 b1 b2
  obtain ⟨b0, b1, b2⟩ := H7.out.c0
  go_wp2_with fail
  refine (K.out).mono ?_
  rintro e V8 ⟨rfl, hb⟩
  have H8 := Lib.hid (Hx0.out.below hb)
  have IP8 := Lib.hid (IPx0.out.below hb)
  have IQ8 := Lib.hid (IQx0.out.below hb)
  have IR8 := Lib.hid (IRx0.out.below hb)
  clear hb K b0 b1 b2
  have R0x := Lib.hid (ints_newF V8 [3, 2, 1, 0, 1] (by simp))
  have Hx0 := Lib.hid (H8.out.below (below1 V8 (.cells (intsC [3, 2, 1, 0, 1]).toArray 3)))
  have IPx0 := Lib.hid (IP8.out.below (below1 V8 (.cells (intsC [3, 2, 1, 0, 1]).toArray 3)))
  have IQx0 := Lib.hid (IQ8.out.below (below1 V8 (.cells (intsC [3, 2, 1, 0, 1]).toArray 3)))
  obtain ⟨b0, b1, b2⟩ := Hx0.out.c0
  have K := Lib.hid (order_any _ _ _ _ 2 cb 0 5 feN feP [] [3, 2, 1, 0, 1] fe_ck _ Hx0.out.s R0x.out)
  rw [fe_o] at K
  clear b0 b1 b2
  obtain ⟨b0, b1, b2⟩ := H8.out.c0
  go_wp2_with fail
  refine (K.out).mono ?_
  rintro e V9 ⟨Xo, co, rfl, hI, _, hb⟩
  have H9 := Lib.hid (Hx0.out.below hb)
  have IP9 := Lib.hid (IPx0.out.below hb)
  have IQ9 := Lib.hid (IQx0.out.below hb)
  have IO9 := Lib.hid hI
  clear hI
  clear hb K b0 b1 b2
  have R0x := Lib.hid (ints_newF V9 [0, 2, 1, 3] (by simp))
  have Hx0 := Lib.hid (H9.out.below (below1 V9 (.cells (intsC [0, 2, 1, 3]).toArray 3)))
  have IPx0 := Lib.hid (IP9.out.below (below1 V9 (.cells (intsC [0, 2, 1, 3]).toArray 3)))
  have IQx0 := Lib.hid (IQ9.out.below (below1 V9 (.cells (intsC [0, 2, 1, 3]).toArray 3)))
  have IOx0 := Lib.hid (IO9.out.below (below1 V9 (.cells (intsC [0, 2, 1, 3]).toArray 3)))
  obtain ⟨b0, b1, b2⟩ := Hx0.out.c0
  have K := Lib.hid (eqSameF Xo _ co 4 [0, 2, 1, 3] _ (by simp) IOx0.out R0x.out)
  clear b0 b1 b2
  obtain ⟨b0, b1, b2⟩ := H9.out.c0
  go_wp2_with fail
  refine (K.out).mono ?_
  rintro e V10 ⟨rfl, hb⟩
  have H10 := Lib.hid (Hx0.out.below hb)
  have IP10 := Lib.hid (IPx0.out.below hb)
  have IQ10 := Lib.hid (IQx0.out.below hb)
  have IO10 := Lib.hid (IOx0.out.below hb)
  clear hb K b0 b1 b2
  have R0x := Lib.hid (ints_newF V10 [1, 0, 0, 0] (by simp))
  have Hx0 := Lib.hid (H10.out.below (below1 V10 (.cells (intsC [1, 0, 0, 0]).toArray 3)))
  have IPx0 := Lib.hid (IP10.out.below (below1 V10 (.cells (intsC [1, 0, 0, 0]).toArray 3)))
  have IQx0 := Lib.hid (IQ10.out.below (below1 V10 (.cells (intsC [1, 0, 0, 0]).toArray 3)))
  obtain ⟨b0, b1, b2⟩ := Hx0.out.c0
  have K := Lib.hid (eqSameF Xq _ cq 4 [1, 0, 0, 0] _ (by simp) IQx0.out R0x.out)
  clear b0 b1 b2
  obtain ⟨b0, b1, b2⟩ := H10.out.c0
  go_wp2_with fail
  refine (K.out).mono ?_
  rintro e V11 ⟨rfl, hb⟩
  have H11 := Lib.hid (Hx0.out.below hb)
  have IP11 := Lib.hid (IPx0.out.below hb)
  have IQ11 := Lib.hid (IQx0.out.below hb)
  clear hb K b0 b1 b2
  go_wp2
  go_ret
  exact ⟨rfl, H11.out.w⟩
end Go.Proofs.YtmmokiaipfalmaaGreat

namespace Go.Proofs.YtmmokiaipfalmaaGreat
open Go.RowKit

set_option maxRecDepth 100000 in
set_option maxHeartbeats 4000000 in
theorem cut14_any (A B C : Option Addr) (ca cb cc : Nat) (ns : List NodeD) (ps : List PodD) (os : List OwnD) (w : World) (h : SnapIn w A B C ca cb cc ns ps os) :
    Calls Tryz.prog 16 #[snapV A B C ca cb cc ns ps os] w fun e w' => e = .returned (snapV A B C ca cb cc (ns.take 12) (ps.take 30) (os.take 12)) ∧ Below w.heap.size w w' := by
  have h0 := Nat.le_trans h.can.1 h.can.2
  have h1 := Nat.le_trans h.cap.1 h.cap.2
  have h2 := Nat.le_trans h.cao.1 h.cao.2
  have hc0 : min (ns.length : Int) 12 ≤ (ca : Int) := by have := h.can.1; omega
  have hc1 : min (ps.length : Int) 30 ≤ (cb : Int) := by have := h.cap.1; omega
  have hc2 : min (os.length : Int) 12 ≤ (cc : Int) := by have := h.cao.1; omega
  have hp0 : (0 : Int) ≤ min (ns.length : Int) 12 := by omega
  have hp1 : (0 : Int) ≤ min (ps.length : Int) 30 := by omega
  have hp2 : (0 : Int) ≤ min (os.length : Int) 12 := by omega
  have hl0 : Hid ((min (ns.length : Int) 12).toNat = (ns.take 12).length) := Lib.hid (by simp; omega)
  have hl1 : Hid ((min (ps.length : Int) 30).toNat = (ps.take 30).length) := Lib.hid (by simp; omega)
  have hl2 : Hid ((min (os.length : Int) 12).toNat = (os.take 12).length) := Lib.hid (by simp; omega)
  clear h
  go_enter Tryz.func16, Tryz.ntmps16
  go_wp2_with fail
  have S9 : Hid (Blk ((w.alloc (.cells (snapC A B C ca cb cc ns ps os) 26)).alloc (.cells #[.slice none 0 0, .slice none 0 0, .slice none 0 0] 26)) w.heap.size (snapC A B C ca cb cc ns ps os) 26) := Lib.hid (Blk.alloc (Blk.new w _ _) _)
  have R9 : Hid (Blk ((w.alloc (.cells (snapC A B C ca cb cc ns ps os) 26)).alloc (.cells #[.slice none 0 0, .slice none 0 0, .slice none 0 0] 26)) (w.heap.size + 1) #[.slice none 0 0, .slice none 0 0, .slice none 0 0] 26) := Lib.hid (blk2 w _ _ _)
  have B9 : Hid (Below w.heap.size w ((w.alloc (.cells (snapC A B C ca cb cc ns ps os) 26)).alloc (.cells #[.slice none 0 0, .slice none 0 0, .slice none 0 0] 26))) := Lib.hid (Qu.below2 w _ _)
  generalize ((w.alloc (.cells (snapC A B C ca cb cc ns ps os) 26)).alloc (.cells #[.slice none 0 0, .slice none 0 0, .slice none 0 0] 26)) = W at S9 R9 B9 ⊢
  obtain ⟨Rb, hRb⟩ : ∃ Rb, w.heap.size + 1 = Rb := ⟨_, rfl⟩
  rw [hRb] at R9 ⊢
  have HRb := Lib.hid hRb
  clear hRb
  have S0 : W.cell? ⟨w.heap.size, 0, none⟩ = some (.slice A ns.length ca) ∧ W.cell? ⟨w.heap.size, 1, none⟩ = some (.slice B ps.length cb) ∧ W.cell? ⟨w.heap.size, 2, none⟩ = some (.slice C os.length cc) := ⟨Blk.cell S9.out 0, Blk.cell S9.out 1, Blk.cell S9.out 2⟩
  have S1 : W.drew.cell? ⟨w.heap.size, 0, none⟩ = some (.slice A ns.length ca) ∧ W.drew.cell? ⟨w.heap.size, 1, none⟩ = some (.slice B ps.length cb) ∧ W.drew.cell? ⟨w.heap.size, 2, none⟩ = some (.slice C os.length cc) := S0
  have r0 : W.cell? ⟨Rb, 0, none⟩ = some (.slice none 0 0) := Blk.cell R9.out 0
  have r1 : W.cell? ⟨Rb, 1, none⟩ = some (.slice none 0 0) := Blk.cell R9.out 1
  have r2 : W.cell? ⟨Rb, 2, none⟩ = some (.slice none 0 0) := Blk.cell R9.out 2
  have f0 := Blk.free R9.out 0
  have f1 := Blk.free R9.out 1
  have f2 := Blk.free R9.out 2
  have hne : w.heap.size ≠ Rb := by have := HRb.out; omega
  have HS3 : Hid (Blk (((W.setCell ⟨Rb, 0, none⟩ (Value.slice A (min (ns.length : Int) 12).toNat ca)).setCell ⟨Rb, 1, none⟩ (Value.slice B (min (ps.length : Int) 30).toNat cb)).setCell ⟨Rb, 2, none⟩ (Value.slice C (min (os.length : Int) 12).toNat cc)) w.heap.size (snapC A B C ca cb cc ns ps os) 26) := Lib.hid (((S9.out.oth hne 0 _).oth hne 1 _).oth hne 2 _)
  have HR3 : Hid (Blk (((W.setCell ⟨Rb, 0, none⟩ (Value.slice A (min (ns.length : Int) 12).toNat ca)).setCell ⟨Rb, 1, none⟩ (Value.slice B (min (ps.length : Int) 30).toNat cb)).setCell ⟨Rb, 2, none⟩ (Value.slice C (min (os.length : Int) 12).toNat cc)) Rb #[Value.slice A (min (ns.length : Int) 12).toNat ca, Value.slice B (min (ps.length : Int) 30).toNat cb, Value.slice C (min (os.length : Int) 12).toNat cc] 26) := Lib.hid (((R9.out.set 0 _).set 1 _).set 2 _)
  have HB3 : Hid (Below w.heap.size w (((W.setCell ⟨Rb, 0, none⟩ (Value.slice A (min (ns.length : Int) 12).toNat ca)).setCell ⟨Rb, 1, none⟩ (Value.slice B (min (ps.length : Int) 30).toNat cb)).setCell ⟨Rb, 2, none⟩ (Value.slice C (min (os.length : Int) 12).toNat cc))) := Lib.hid (by
    have := HRb.out
    exact ((B9.out.setCell (p := ⟨Rb, 0, none⟩) (by show w.heap.size ≤ Rb; omega) _).setCell (p := ⟨Rb, 1, none⟩) (by show w.heap.size ≤ Rb; omega) _).setCell (p := ⟨Rb, 2, none⟩) (by show w.heap.size ≤ Rb; omega) _)
  have S3 : (((W.setCell ⟨Rb, 0, none⟩ (Value.slice A (min (ns.length : Int) 12).toNat ca)).setCell ⟨Rb, 1, none⟩ (Value.slice B (min (ps.length : Int) 30).toNat cb)).setCell ⟨Rb, 2, none⟩ (Value.slice C (min (os.length : Int) 12).toNat cc)).drew.cell? ⟨w.heap.size, 0, none⟩ = some (.slice A ns.length ca) ∧ (((W.setCell ⟨Rb, 0, none⟩ (Value.slice A (min (ns.length : Int) 12).toNat ca)).setCell ⟨Rb, 1, none⟩ (Value.slice B (min (ps.length : Int) 30).toNat cb)).setCell ⟨Rb, 2, none⟩ (Value.slice C (min (os.length : Int) 12).toNat cc)).drew.cell? ⟨w.heap.size, 1, none⟩ = some (.slice B ps.length cb) ∧ (((W.setCell ⟨Rb, 0, none⟩ (Value.slice A (min (ns.length : Int) 12).toNat ca)).setCell ⟨Rb, 1, none⟩ (Value.slice B (min (ps.length : Int) 30).toNat cb)).setCell ⟨Rb, 2, none⟩ (Value.slice C (min (os.length : Int) 12).toNat cc)).drew.cell? ⟨w.heap.size, 2, none⟩ = some (.slice C os.length cc) := ⟨Blk.cell HS3.out 0, Blk.cell HS3.out 1, Blk.cell HS3.out 2⟩
  go_region_held3 (fun w' => w'.cell? ⟨w.heap.size, 0, none⟩ = some (.slice A ns.length ca) ∧ w'.cell? ⟨w.heap.size, 1, none⟩ = some (.slice B ps.length cb) ∧ w'.cell? ⟨w.heap.size, 2, none⟩ = some (.slice C os.length cc))
    (first | (with_reducible exact S1) | (with_reducible exact S0) | (with_reducible exact S3) | go_keep)
    (skip)
  all_goals
    go_wp2_with fail
    rw [hl0.out, hl1.out, hl2.out] at HR3 HB3 ⊢
    refine bodyPost_row1 Tryz.results16 Rb _ _ _ _ (by rfl) (by rfl) (show Blk _ Rb _ _ from HR3.out) Tryz.underlying26 rfl snap_sizeK ?_
    exact ⟨rfl, HB3.out.drew⟩
end Go.Proofs.YtmmokiaipfalmaaGreat

namespace Go.Proofs.YtmmokiaipfalmaaGreat
open Go.RowKit

set_option maxRecDepth 100000 in
set_option maxHeartbeats 4000000 in
theorem fitted14_any (A B C P : Option Addr) (ca cb cc cp : Nat) (ns : List NodeD) (ps : List PodD) (os : List OwnD) (l : List Int) (w : World) (h : SnapAt w A B C ca cb cc ns ps os) (hp : IntsAt w P cp l) :
    Calls Tryz.prog 17 #[snapV A B C ca cb cc ns ps os, .slice P l.length cp] w fun e w' => ∃ v, e = .returned v ∧ w'.ownsRow w.heap.size 3 1 v ps.length (intsC (fitU ns l ps.length)) ∧ Below w.heap.size w w' := by
  have H := Lib.hid h
  have HP := Lib.hid hp
  have hlp := h.lp
  have hln := h.ln
  have hll : l.length ≤ 9223372036854775807 := Nat.le_trans hp.le hp.most
  have B0 : Hid (Below w.heap.size w (w.alloc (.cells (snapC A B C ca cb cc ns ps os) 26))) := Lib.hid (below1 w _)
  have S0 : Hid (Blk (w.alloc (.cells (snapC A B C ca cb cc ns ps os) 26)) w.heap.size (snapC A B C ca cb cc ns ps os) 26) := Lib.hid (Blk.new w _ _)
  obtain ⟨i0, hi0, hz0, hz1, hz2⟩ := info_parts Qu.int_info
  clear h hp
  go_enter Tryz.func17, Tryz.ntmps17
  go_wp2_with fail
  go_loopw [6, 5] (fun i v wr => ∃ k : Nat, k ≤ ps.length ∧ i = .int .i64 k ∧ wr.ownsRow w.heap.size 3 1 v k (intsC (fitU ns l k)) ∧ Below w.heap.size w wr ∧ Blk wr w.heap.size (snapC A B C ca cb cc ns ps os) 26) (fun i _ _ => ps.length - (intOf i).toNat)
  case atStart => exact ⟨0, by omega, rfl, World.ownsRow_nil _ _ _ _, B0.out, S0.out⟩
  case round =>
    clear B0 S0
    obtain ⟨k, hk, rfl, ho, hb, hs⟩ := hrel
    have HO := Lib.hid ho
    have HB := Lib.hid hb
    have HS := Lib.hid hs
    clear ho hb hs
    have s0 : wr.cell? ⟨w.heap.size, 0, none⟩ = some (.slice A ns.length ca) := Blk.cell HS.out 0
    have s1 : wr.cell? ⟨w.heap.size, 1, none⟩ = some (.slice B ps.length cb) := Blk.cell HS.out 1
    by_cases hlt : k < ps.length
    · have E : Hid (fitU ns l (k + 1) = fitU ns l k ++ [fit1 ns l k]) := Lib.hid rfl
      have E1 : Hid (fit1 ns l k = if tpB ns (fitN ns l k) then fitN ns l k else -1) := Lib.hid rfl
      have EN := Lib.hid (fitN_in ns l k)
      have k0 : (0 : Int) ≤ (k : Int) := by omega
      have k1 : (k : Int) < (ps.length : Int) := by omega
      have hkm : Hid (k + 1 ≤ maxLen) := Lib.hid (by unfold maxLen; omega)
      have hkc : Hid ((k + 1) * 8 ≤ 140737488355328) := Lib.hid (by omega)
      go_upto_if 18 with fail
      go_cut [7] (fun v wc => v = .int .i64 (fitN ns l k) ∧ (wc = wr ∨ wc = wr.drew))
      case first =>
        by_cases hkl : k < l.length
        · obtain ⟨x, hx⟩ : ∃ x, l[k]? = some x := ⟨l[k], List.getElem?_eq_getElem hkl⟩
          have FX : Hid (fitN ns l k = x % ((ns.length : Int) + 1) - 1) := Lib.hid (by unfold fitN; rw [hx])
          obtain ⟨b, o, hA, hbl, c0⟩ := atI (HP.out.below (HB.out.mono (Nat.le_refl _))).cells hx
          subst hA
          have k2 : (k : Int) < (l.length : Int) := by omega
          have hw1 : Hid (IntKind.i64.wrap ((ns.length : Int) + 1) = (ns.length : Int) + 1) := Lib.hid (IntWalk.i64_in _ (by omega))
          have BR := Lib.hid (fun W => Qu.bring_any x ((ns.length : Int) + 1) W (by omega) (by omega))
          have S0 : wr.drew.cell? ⟨w.heap.size, 0, none⟩ = some (.slice (A) ns.length ca) := s0
          have C0 : wr.drew.cell? ⟨b, o + k, none⟩ = some (.int .i64 x) := c0
          have em0 := Int.emod_nonneg x (show (ns.length : Int) + 1 ≠ 0 by omega)
          have em1 := Int.emod_lt_of_pos x (show (0 : Int) < (ns.length : Int) + 1 by omega)
          have hw2 : Hid (IntKind.i64.wrap (x % ((ns.length : Int) + 1) - 1) = x % ((ns.length : Int) + 1) - 1) := Lib.hid (IntWalk.i64_in _ (by omega))
          go_upto_region 7 with fail
          go_region_held3 (fun w' => w'.cell? ⟨w.heap.size, 0, none⟩ = some (.slice A ns.length ca) ∧ w'.cell? ⟨b, o + k, none⟩ = some (.int .i64 x))
            (first | (with_reducible exact ⟨S0, C0⟩) | (with_reducible exact ⟨s0, c0⟩) | go_keep)
            ((go_at_call 70; (rw [hw1.out]); (with_reducible refine (BR.out _).mono ?_); rintro e w3 ⟨rfl, rfl⟩))
          all_goals
            go_wp2_with fail
            go_meet
            exact ⟨by rw [FX.out, hw2.out], .inr rfl⟩
        · have FX : Hid (fitN ns l k = -1) := Lib.hid (by unfold fitN; rw [List.getElem?_eq_none (by omega)])
          go_wp2_with fail
          go_meet
          exact ⟨by rw [FX.out], .inl rfl⟩
      case rest =>
        obtain ⟨rfl, hwc⟩ := hcut
        have HO1 : Hid (wc.ownsRow w.heap.size 3 1 u5 k (intsC (fitU ns l k))) := by
          rcases hwc with rfl | rfl
          · exact HO
          · exact Lib.hid (show World.ownsRow wr.drew _ _ _ _ _ _ from HO.out)
        have HB1 : Hid (Below w.heap.size w wc) := by
          rcases hwc with rfl | rfl
          · exact HB
          · exact Lib.hid HB.out.drew
        have HS1 : Hid (Blk wc w.heap.size (snapC A B C ca cb cc ns ps os) 26) := by
          rcases hwc with rfl | rfl
          · exact HS
          · exact Lib.hid (show Blk wr.drew _ _ _ from HS.out)
        have z0 : wc.cell? ⟨w.heap.size, 0, none⟩ = some (.slice A ns.length ca) := Blk.cell HS1.out 0
        clear HO HB HS s0 s1 hwc
        obtain ⟨N, hN⟩ : ∃ N, fitN ns l k = N := ⟨_, rfl⟩
        rw [hN] at E1 EN
        rw [hN]
        clear hN
        by_cases hn : 0 ≤ N ∧ N < (ns.length : Int)
        · obtain ⟨hn0, hn1⟩ := hn
          obtain ⟨n, rfl⟩ : ∃ n : Nat, N = (n : Int) := ⟨N.toNat, by omega⟩
          have hnl : n < ns.length := by omega
          obtain ⟨x, hx⟩ : ∃ x, ns[n]? = some x := ⟨ns[n], List.getElem?_eq_getElem hnl⟩
          obtain ⟨b, o, hA, hbl, c0, c1, c2, c3, c4, c5, c6, c7, c8, c9⟩ := atN (H.out.below HB1.out).n.cells hx
          subst hA
          have T : Hid (tpB ns (n : Int) = !x.lost) := Lib.hid (by unfold tpB; rw [Int.toNat_natCast, hx]; simp)
          clear hx c0 c1 c2 c3 c4 c5 c6 c7 c8
          obtain ⟨r, hr⟩ : ∃ r, x.lost = r := ⟨_, rfl⟩
          rw [hr] at c9 T
          clear hr
          cases r with
          | false =>
            have F : Hid (fit1 ns l k = (n : Int)) := Lib.hid (by rw [E1.out, T.out]; rfl)
            go_wp2_with (at_builtin; refine wpList_append_own _ rfl _ _ 27 rfl w.heap.size 3 i0 (.int .i64 0) 1 8 Tryz.underlying27 hi0 hz0 hz1 hz2 rfl (by decide) _ _ _ rfl (show World.ownsRow _ _ _ _ _ _ _ from HO1.out.alloc _) ⟨wc.heap.size, 0, none⟩ 1 1 [.int .i64 (n : Int)] rfl rfl ?c1 ?c2 ?c3 ?c4 ?c5 ?_)
            case c1 =>
              intro j u hj
              match j, hj with
              | 0, hj => simp at hj; subst hj; simp [Addr.add]
            case c2 => first | rfl | (intro u hu; simp at hu; subst hu; rfl)
            case c3 => have := hkm.out; omega
            case c4 => have := hkc.out; omega
            case c5 => have := HB1.out.size; simp; omega
            intro v' w2 hown' hgrow' _
            have hwz : w.heap.size < wc.heap.size := Blk.lt HS1.out
            have HO2 := Lib.hid hown'
            have HW2 := Lib.hid ((HB1.out.alloc HB1.out.size (.cells #[.int .i64 (n : Int)] 3)).grown hgrow' (by have := HB1.out.size; simp; omega) (fun j hj => own_gem HO1.out hj))
            have HS2 : Hid (Blk w2 w.heap.size (snapC (some ⟨b, o, none⟩) B C ca cb cc ns ps os) 26) := Lib.hid (Blk.kept (Blk.alloc HS1.out (.cells #[.int .i64 (n : Int)] 3)) hgrow' (fun e => by
              have he := e.symm
              rcases HO1.out.2 with ⟨hv, _⟩ | ⟨g, cap, cur, hv, hbg, hg, _⟩
              · rw [hv] at he; cases he
              · rw [hv] at he
                simp only [Value.ownBlock, Option.some.injEq] at he
                subst he
                have h1 := HS1.out
                unfold Blk at h1
                rw [hg] at h1
                cases h1))
            clear hown' hgrow'
            go_wp2
            go_roundw
            case rel =>
              refine ⟨k + 1, by omega, by go_num, ?_, HW2.out, HS2.out⟩
              rw [E.out, F.out]
              simpa [intsC] using HO2.out
            case measure => simp [intOf]; omega
          | true =>
            have F : Hid (fit1 ns l k = -1) := Lib.hid (by rw [E1.out, T.out]; rfl)
            go_wp2_with (at_builtin; refine wpList_append_own _ rfl _ _ 27 rfl w.heap.size 3 i0 (.int .i64 0) 1 8 Tryz.underlying27 hi0 hz0 hz1 hz2 rfl (by decide) _ _ _ rfl (show World.ownsRow _ _ _ _ _ _ _ from HO1.out.alloc _) ⟨wc.heap.size, 0, none⟩ 1 1 [.int .i64 (-1)] rfl rfl ?c1 ?c2 ?c3 ?c4 ?c5 ?_)
            case c1 =>
              intro j u hj
              match j, hj with
              | 0, hj => simp at hj; subst hj; simp [Addr.add]
            case c2 => first | rfl | (intro u hu; simp at hu; subst hu; rfl)
            case c3 => have := hkm.out; omega
            case c4 => have := hkc.out; omega
            case c5 => have := HB1.out.size; simp; omega
            intro v' w2 hown' hgrow' _
            have hwz : w.heap.size < wc.heap.size := Blk.lt HS1.out
            have HO2 := Lib.hid hown'
            have HW2 := Lib.hid ((HB1.out.alloc HB1.out.size (.cells #[.int .i64 (-1)] 3)).grown hgrow' (by have := HB1.out.size; simp; omega) (fun j hj => own_gem HO1.out hj))
            have HS2 : Hid (Blk w2 w.heap.size (snapC (some ⟨b, o, none⟩) B C ca cb cc ns ps os) 26) := Lib.hid (Blk.kept (Blk.alloc HS1.out (.cells #[.int .i64 (-1)] 3)) hgrow' (fun e => by
              have he := e.symm
              rcases HO1.out.2 with ⟨hv, _⟩ | ⟨g, cap, cur, hv, hbg, hg, _⟩
              · rw [hv] at he; cases he
              · rw [hv] at he
                simp only [Value.ownBlock, Option.some.injEq] at he
                subst he
                have h1 := HS1.out
                unfold Blk at h1
                rw [hg] at h1
                cases h1))
            clear hown' hgrow'
            go_wp2
            go_roundw
            case rel =>
              refine ⟨k + 1, by omega, by go_num, ?_, HW2.out, HS2.out⟩
              rw [E.out, F.out]
              simpa [intsC] using HO2.out
            case measure => simp [intOf]; omega
        · obtain rfl : N = -1 := by have := EN.out; omega
          have F : Hid (fit1 ns l k = -1) := Lib.hid (by rw [E1.out, ite_self])
          clear hn
          go_wp2_with (at_builtin; refine wpList_append_own _ rfl _ _ 27 rfl w.heap.size 3 i0 (.int .i64 0) 1 8 Tryz.underlying27 hi0 hz0 hz1 hz2 rfl (by decide) _ _ _ rfl (show World.ownsRow _ _ _ _ _ _ _ from HO1.out.alloc _) ⟨wc.heap.size, 0, none⟩ 1 1 [.int .i64 (-1)] rfl rfl ?c1 ?c2 ?c3 ?c4 ?c5 ?_)
          try case c1 =>
            intro j u hj
            match j, hj with
            | 0, hj => simp at hj; subst hj; simp [Addr.add]
          case c2 => first | rfl | (intro u hu; simp at hu; subst hu; rfl)
          case c3 => have := hkm.out; omega
          case c4 => have := hkc.out; omega
          case c5 => have := HB1.out.size; simp; omega
          intro v' w2 hown' hgrow' _
          have hwz : w.heap.size < wc.heap.size := Blk.lt HS1.out
          have HO2 := Lib.hid hown'
          have HW2 := Lib.hid ((HB1.out.alloc HB1.out.size (.cells #[.int .i64 (-1)] 3)).grown hgrow' (by have := HB1.out.size; simp; omega) (fun j hj => own_gem HO1.out hj))
          have HS2 : Hid (Blk w2 w.heap.size (snapC A B C ca cb cc ns ps os) 26) := Lib.hid (Blk.kept (Blk.alloc HS1.out (.cells #[.int .i64 (-1)] 3)) hgrow' (fun e => by
            have he := e.symm
            rcases HO1.out.2 with ⟨hv, _⟩ | ⟨g, cap, cur, hv, hbg, hg, _⟩
            · rw [hv] at he; cases he
            · rw [hv] at he
              simp only [Value.ownBlock, Option.some.injEq] at he
              subst he
              have h1 := HS1.out
              unfold Blk at h1
              rw [hg] at h1
              cases h1))
          clear hown' hgrow'
          go_wp2
          go_roundw
          case rel =>
            refine ⟨k + 1, by omega, by go_num, ?_, HW2.out, HS2.out⟩
            rw [E.out, F.out]
            simpa [intsC] using HO2.out
          case measure => simp [intOf]; omega
    · obtain rfl : k = ps.length := by omega
      go_wp2
      go_ret
      exact ⟨_, rfl, HO.out, HB.out⟩
end Go.Proofs.YtmmokiaipfalmaaGreat

namespace Go.Proofs.YtmmokiaipfalmaaGreat
open Go.RowKit

theorem fitted14_ints (A B C P : Option Addr) (ca cb cc cp : Nat) (ns : List NodeD) (ps : List PodD) (os : List OwnD) (l : List Int) (w : World) (h : SnapAt w A B C ca cb cc ns ps os) (hp : IntsAt w P cp l) :
    Calls Tryz.prog 17 #[snapV A B C ca cb cc ns ps os, .slice P l.length cp] w fun e w' => ∃ Q c, e = .returned (.slice Q (fitU ns l ps.length).length c) ∧ IntsAt w' Q c (fitU ns l ps.length) ∧ Below w.heap.size w w' := by
  refine (fitted14_any A B C P ca cb cc cp ns ps os l w h hp).mono ?_
  rintro e w' ⟨v, rfl, ho, hb⟩
  obtain ⟨g, c, rfl, _⟩ := La.own_slice ho
  have e := fitU_len ns l ps.length
  refine ⟨g, c, by rw [e], IntsAt.own (base := w.heap.size) (by rw [e]; exact ho), hb⟩
end Go.Proofs.YtmmokiaipfalmaaGreat
