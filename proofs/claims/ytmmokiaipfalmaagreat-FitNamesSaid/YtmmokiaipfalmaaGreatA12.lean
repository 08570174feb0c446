/- Sorting a row of pods by sizes, with a method's value: the partition. Condition: the row lies in memory, its numbers are below 24. Sorting a row of pods by sizes, with a method's value: the partition of equals. Condition: the row lies in memory, its numbers are below 24. -/
import Derived.Test.YtmmokiaipfalmaaGreatA11
import Derived.Sort.WalkC4
import Derived.Sort.WalkC

namespace Go.Proofs.YtmmokiaipfalmaaGreat
open Go.RowKit Go.Maps

set_option maxRecDepth 1000000 in
set_option maxHeartbeats 64000000 in
theorem partP (F : Nat → Int) (RV : Value) (hC : CmpOk RV F) (b n cap : Nat) (hn : n ≤ 24) (w : World) (a z pv : Nat) (d : Array Nat) (W : World) (hS : Srt w b n d W) (hap : a ≤ pv) (hpz : pv < z) (hz : z ≤ n) :
    Calls Tryz.prog 290 #[.slice (some ⟨b, 0, none⟩) n cap, .int .i64 (a : Int), .int .i64 (z : Int), .int .i64 (pv : Int), .func (.func 84) #[RV] #[]] W fun e w' => e = .returned (.tuple #[.int .i64 ((Go.Sort.partition (ltP F) d a z pv).1 : Int), .bool (Go.Sort.partition (ltP F) d a z pv).2.1]) ∧ Srt w b n (Go.Sort.partition (ltP F) d a z pv).2.2 w' := by
  have mixed : (Tryz.prog).follows Departure.mixedOrders = true := by kernel_rfl
  have HC := Lib.hid hC
  have S0 := Lib.hid hS
  have hds0 := hS.z
  clear hC hS
  go_enter Tryz.func290, Tryz.ntmps290
  go_wp2_with fail
  have pi21 : (0 : Int) ≤ (a : Int) := by omega
  have bi21 : (a : Int) < (n : Int) := by omega
  have pj21 : (0 : Int) ≤ (pv : Int) := by omega
  have bj21 : (pv : Int) < (n : Int) := by omega
  obtain ⟨x21, hx21⟩ : ∃ x, x = d[a]! := ⟨_, rfl⟩
  obtain ⟨y21, hy21⟩ : ∃ x, x = d[pv]! := ⟨_, rfl⟩
  have S1 : Hid (Srt w b n (Go.Sort.swp d (a) (pv)) ((W.setCell ⟨b, a, none⟩ (.int .i64 (y21 : Int))).setCell ⟨b, pv, none⟩ (.int .i64 (x21 : Int))).drew) := Lib.hid (by rw [hx21, hy21]; exact S0.out.swap (i := a) (j := pv) (by omega) (by omega))
  obtain ⟨ca21, fa21⟩ := S0.out.r.c (a) (by omega)
  obtain ⟨cb21, fb21⟩ := S0.out.r.c (pv) (by omega)
  obtain ⟨u21, cc21⟩ := S0.out.c2 (a) (pv) (by omega) (by omega) (.int .i64 (y21 : Int))
  rw [← hx21] at ca21
  rw [← hy21] at cb21
  clear S0 hx21 hy21
  go_wp2_with fail
  go_big_region_o
  clear ca21 cb21 cc21 fa21 fb21
  generalize ((W.setCell ⟨b, a, none⟩ (.int .i64 (y21 : Int))).setCell ⟨b, pv, none⟩ (.int .i64 (x21 : Int))).drew = w1 at S1 ⊢
  clear pi21 bi21 pj21 bj21
  obtain ⟨d1, hd1⟩ : ∃ d1, Go.Sort.swp d a pv = d1 := ⟨_, rfl⟩
  rw [hd1] at S1
  have HD1 := Lib.hid hd1
  clear hd1
  obtain ⟨i1, hi1⟩ : ∃ i1, i1 = a + 1 := ⟨_, rfl⟩
  obtain ⟨j1, hj1⟩ : ∃ j1, j1 = z - 1 := ⟨_, rfl⟩
  have ezi : (a : Int) + 1 = (i1 : Int) := by omega
  have ezj : (z : Int) - 1 = (j1 : Int) := by omega
  have hai1 : a < i1 := by omega
  have hij1 : i1 ≤ j1 + 1 := by omega
  have hjz1 : j1 < z := by omega
  have han : a < n := by omega
  have Hi1 := Lib.hid hi1
  have Hj1 := Lib.hid hj1
  clear hi1 hj1
  go_wp2_with fail
  go_loopw [12] (fun vi wq => ∃ (p1 : Nat), vi = .int .i64 (p1 : Int) ∧ i1 ≤ p1 ∧ p1 ≤ j1 + 1 ∧ Srt w b n d1 wq ∧ Hid (Go.Sort.scanUp (fun x => ltP F x d1[a]!) d1 j1 p1 = Go.Sort.scanUp (fun x => ltP F x d1[a]!) d1 j1 i1)) (fun vi _ => j1 + 1 - (intOf vi).toNat)
  case atStart => exact ⟨i1, by go_num, Nat.le_refl _, hij1, S1.out, Lib.hid rfl⟩
  case round =>
    clear S1
    obtain ⟨p1, rfl, hip1, hpj1, hs, hsc1⟩ := hrel
    have SU := Lib.hid hs
    clear hs
    by_cases hle1 : p1 ≤ j1
    case neg =>
      have HU1 : Hid (p1 = Go.Sort.scanUp (fun x => ltP F x d1[a]!) d1 j1 i1) := Lib.hid (by rw [← hsc1.out, Go.Proofs.scanUp_end (fun x => ltP F x d1[a]!) d1 j1 p1 (Or.inl hle1)])
      have gu : decide ((p1 : Int) ≤ (j1 : Int)) = false := decide_eq_false (by omega)
      have gu2 : ¬ (p1 : Int) ≤ (j1 : Int) := by omega
      go_wp2_with fail
      go_big_region_o
      have SV : Hid (Srt w b n d1 wr.drew) := Lib.hid SU.out.drew
      clear SU
      generalize wr.drew = wv at SV ⊢
      clear gu gu2
      go_wp2_with fail
      go_loopw [13] (fun vj wq => ∃ (q1 : Nat), vj = .int .i64 (q1 : Int) ∧ q1 ≤ j1 ∧ p1 ≤ q1 + 1 ∧ Srt w b n d1 wq ∧ Hid (Go.Sort.scanDown (fun x => !ltP F x d1[a]!) d1 p1 q1 = Go.Sort.scanDown (fun x => !ltP F x d1[a]!) d1 p1 j1)) (fun vj _ => (intOf vj).toNat)
      case atStart => exact ⟨j1, by go_num, Nat.le_refl _, by omega, SV.out, Lib.hid rfl⟩
      case round =>
        clear SV
        obtain ⟨q1, rfl, hqj1, hpq1, hs, hsd1⟩ := hrel
        have SD := Lib.hid hs
        clear hs
        have qn1 : q1 < n := by omega
        by_cases hle21 : p1 ≤ q1
        case neg =>
          have HJ1 : Hid (q1 = Go.Sort.scanDown (fun x => !ltP F x d1[a]!) d1 p1 j1) := Lib.hid (by rw [← hsd1.out, Go.Proofs.scanDown_end (fun x => !ltP F x d1[a]!) d1 p1 q1 (Or.inl hle21)])
          have gd : decide ((p1 : Int) ≤ (q1 : Int)) = false := decide_eq_false (by omega)
          have gd2 : ¬ (p1 : Int) ≤ (q1 : Int) := by omega
          have gt : decide ((q1 : Int) < (p1 : Int)) = true := decide_eq_true (by omega)
          have gn : decide (q1 < p1) = true := decide_eq_true (by omega)
          have gm : (q1 : Int) < (p1 : Int) := by omega
          go_wp2_with fail
          go_big_region_o
          have SE : Hid (Srt w b n d1 wr.drew) := Lib.hid SD.out.drew
          clear SD
          generalize wr.drew = we at SE ⊢
          go_wp2_with fail
          have pi22 : (0 : Int) ≤ (q1 : Int) := by omega
          have bi22 : (q1 : Int) < (n : Int) := by omega
          have pj22 : (0 : Int) ≤ (a : Int) := by omega
          have bj22 : (a : Int) < (n : Int) := by omega
          obtain ⟨x22, hx22⟩ : ∃ x, x = d1[q1]! := ⟨_, rfl⟩
          obtain ⟨y22, hy22⟩ : ∃ x, x = d1[a]! := ⟨_, rfl⟩
          have SF : Hid (Srt w b n (Go.Sort.swp d1 (q1) (a)) ((we.setCell ⟨b, q1, none⟩ (.int .i64 (y22 : Int))).setCell ⟨b, a, none⟩ (.int .i64 (x22 : Int))).drew) := Lib.hid (by rw [hx22, hy22]; exact SE.out.swap (i := q1) (j := a) (by omega) (by omega))
          obtain ⟨ca22, fa22⟩ := SE.out.r.c (q1) (by omega)
          obtain ⟨cb22, fb22⟩ := SE.out.r.c (a) (by omega)
          obtain ⟨u22, cc22⟩ := SE.out.c2 (q1) (a) (by omega) (by omega) (.int .i64 (y22 : Int))
          rw [← hx22] at ca22
          rw [← hy22] at cb22
          clear SE hx22 hy22
          go_wp2_with fail
          go_big_region_o
          clear ca22 cb22 cc22 fa22 fb22
          generalize ((we.setCell ⟨b, q1, none⟩ (.int .i64 (y22 : Int))).setCell ⟨b, a, none⟩ (.int .i64 (x22 : Int))).drew = wf at SF ⊢
          clear pi22 bi22 pj22 bj22
          go_wp2
          go_ret2
          have e := Go.Proofs.part_first_break (ltP F) d a z pv Hi1.out Hj1.out HD1.out.symm HU1.out HJ1.out (by omega)
          rw [e]
          exact ⟨rfl, SF.out⟩
        exfalso
        omega
    have gu : decide ((p1 : Int) ≤ (j1 : Int)) = true := decide_eq_true (by omega)
    have gu2 : (p1 : Int) ≤ (j1 : Int) := by omega
    have pn1 : p1 < n := by omega
    cases hlv : ltP F d1[p1]! d1[a]! with
    | true =>
      have HG : Hid (Go.Sort.scanUp (fun x => ltP F x d1[a]!) d1 j1 (p1 + 1) = Go.Sort.scanUp (fun x => ltP F x d1[a]!) d1 j1 i1) := Lib.hid (by rw [← hsc1.out, Go.Proofs.scanUp_go (fun x => ltP F x d1[a]!) d1 j1 p1 hle1 hlv])
      have pi23 : (0 : Int) ≤ (p1 : Int) := by omega
      have bi23 : (p1 : Int) < (n : Int) := by omega
      have pj23 : (0 : Int) ≤ (a : Int) := by omega
      have bj23 : (a : Int) < (n : Int) := by omega
      obtain ⟨x23, hx23⟩ : ∃ x, x = d1[p1]! := ⟨_, rfl⟩
      obtain ⟨y23, hy23⟩ : ∃ x, x = d1[a]! := ⟨_, rfl⟩
      have la23 := SU.out.cl (p1) (by omega)
      have lb23 := SU.out.cl (a) (by omega)
      rw [← hx23] at la23
      rw [← hy23] at lb23
      have hc23 := Lib.hid (fun q os => HC.out x23 y23 (by rw [hx23]; exact SU.out.l _) (by rw [hy23]; exact SU.out.l _) (Go.Sort.grow (wr.drewN q) os))
      have hd23 : decide (cmpS F x23 y23 < 0) = true := by rw [hx23, hy23]; exact hlv
      have hv23 : cmpS F x23 y23 < 0 := of_decide_eq_true hd23
      clear hx23 hy23
      go_wp2_with fail
      go_quiet_grown (first | (go_at_call 84; refine Go.Calls.grown_of (hc23.out _ _)))
      have SV : Hid (Srt w b n d1 (Go.Sort.grow (wr.drewN nq) osq)) := Lib.hid (SU.out.grown nq osq)
      clear la23 lb23 hc23 SU
      generalize Go.Sort.grow (wr.drewN nq) osq = wv at SV ⊢
      clear nq osq pi23 bi23 pj23 bj23 hd23 hv23
      go_wp2_with fail
      go_roundw
      case rel => exact ⟨p1 + 1, by go_num, by omega, by omega, SV.out, HG⟩
      case measure => simp [intOf]; omega
    | false =>
      have HU1 : Hid (p1 = Go.Sort.scanUp (fun x => ltP F x d1[a]!) d1 j1 i1) := Lib.hid (by rw [← hsc1.out, Go.Proofs.scanUp_end (fun x => ltP F x d1[a]!) d1 j1 p1 (Or.inr hlv)])
      have pi24 : (0 : Int) ≤ (p1 : Int) := by omega
      have bi24 : (p1 : Int) < (n : Int) := by omega
      have pj24 : (0 : Int) ≤ (a : Int) := by omega
      have bj24 : (a : Int) < (n : Int) := by omega
      obtain ⟨x24, hx24⟩ : ∃ x, x = d1[p1]! := ⟨_, rfl⟩
      obtain ⟨y24, hy24⟩ : ∃ x, x = d1[a]! := ⟨_, rfl⟩
      have la24 := SU.out.cl (p1) (by omega)
      have lb24 := SU.out.cl (a) (by omega)
      rw [← hx24] at la24
      rw [← hy24] at lb24
      have hc24 := Lib.hid (fun q os => HC.out x24 y24 (by rw [hx24]; exact SU.out.l _) (by rw [hy24]; exact SU.out.l _) (Go.Sort.grow (wr.drewN q) os))
      have hd24 : decide (cmpS F x24 y24 < 0) = false := by rw [hx24, hy24]; exact hlv
      have hv24 : ¬ cmpS F x24 y24 < 0 := of_decide_eq_false hd24
      clear hx24 hy24
      go_wp2_with fail
      go_quiet_grown (first | (go_at_call 84; refine Go.Calls.grown_of (hc24.out _ _)))
      have SV : Hid (Srt w b n d1 (Go.Sort.grow (wr.drewN nq) osq)) := Lib.hid (SU.out.grown nq osq)
      clear la24 lb24 hc24 SU
      generalize Go.Sort.grow (wr.drewN nq) osq = wv at SV ⊢
      clear nq osq pi24 bi24 pj24 bj24 hd24 hv24
      clear gu gu2 hlv
      go_wp2_with fail
      go_loopw [13] (fun vj wq => ∃ (q1 : Nat), vj = .int .i64 (q1 : Int) ∧ q1 ≤ j1 ∧ p1 ≤ q1 + 1 ∧ Srt w b n d1 wq ∧ Hid (Go.Sort.scanDown (fun x => !ltP F x d1[a]!) d1 p1 q1 = Go.Sort.scanDown (fun x => !ltP F x d1[a]!) d1 p1 j1)) (fun vj _ => (intOf vj).toNat)
      case atStart => exact ⟨j1, by go_num, Nat.le_refl _, by omega, SV.out, Lib.hid rfl⟩
      case round =>
        clear SV
        obtain ⟨q1, rfl, hqj1, hpq1, hs, hsd1⟩ := hrel
        have SD := Lib.hid hs
        clear hs
        have qn1 : q1 < n := by omega
        by_cases hle21 : p1 ≤ q1
        case neg =>
          have HJ1 : Hid (q1 = Go.Sort.scanDown (fun x => !ltP F x d1[a]!) d1 p1 j1) := Lib.hid (by rw [← hsd1.out, Go.Proofs.scanDown_end (fun x => !ltP F x d1[a]!) d1 p1 q1 (Or.inl hle21)])
          have gd : decide ((p1 : Int) ≤ (q1 : Int)) = false := decide_eq_false (by omega)
          have gd2 : ¬ (p1 : Int) ≤ (q1 : Int) := by omega
          have gt : decide ((q1 : Int) < (p1 : Int)) = true := decide_eq_true (by omega)
          have gn : decide (q1 < p1) = true := decide_eq_true (by omega)
          have gm : (q1 : Int) < (p1 : Int) := by omega
          go_wp2_with fail
          go_big_region_o
          have SE : Hid (Srt w b n d1 wr.drew) := Lib.hid SD.out.drew
          clear SD
          generalize wr.drew = we at SE ⊢
          go_wp2_with fail
          have pi25 : (0 : Int) ≤ (q1 : Int) := by omega
          have bi25 : (q1 : Int) < (n : Int) := by omega
          have pj25 : (0 : Int) ≤ (a : Int) := by omega
          have bj25 : (a : Int) < (n : Int) := by omega
          obtain ⟨x25, hx25⟩ : ∃ x, x = d1[q1]! := ⟨_, rfl⟩
          obtain ⟨y25, hy25⟩ : ∃ x, x = d1[a]! := ⟨_, rfl⟩
          have SF : Hid (Srt w b n (Go.Sort.swp d1 (q1) (a)) ((we.setCell ⟨b, q1, none⟩ (.int .i64 (y25 : Int))).setCell ⟨b, a, none⟩ (.int .i64 (x25 : Int))).drew) := Lib.hid (by rw [hx25, hy25]; exact SE.out.swap (i := q1) (j := a) (by omega) (by omega))
          obtain ⟨ca25, fa25⟩ := SE.out.r.c (q1) (by omega)
          obtain ⟨cb25, fb25⟩ := SE.out.r.c (a) (by omega)
          obtain ⟨u25, cc25⟩ := SE.out.c2 (q1) (a) (by omega) (by omega) (.int .i64 (y25 : Int))
          rw [← hx25] at ca25
          rw [← hy25] at cb25
          clear SE hx25 hy25
          go_wp2_with fail
          go_big_region_o
          clear ca25 cb25 cc25 fa25 fb25
          generalize ((we.setCell ⟨b, q1, none⟩ (.int .i64 (y25 : Int))).setCell ⟨b, a, none⟩ (.int .i64 (x25 : Int))).drew = wf at SF ⊢
          clear pi25 bi25 pj25 bj25
          go_wp2
          go_ret2
          have e := Go.Proofs.part_first_break (ltP F) d a z pv Hi1.out Hj1.out HD1.out.symm HU1.out HJ1.out (by omega)
          rw [e]
          exact ⟨rfl, SF.out⟩
        have gd : decide ((p1 : Int) ≤ (q1 : Int)) = true := decide_eq_true (by omega)
        have gd2 : (p1 : Int) ≤ (q1 : Int) := by omega
        cases hlv2 : ltP F d1[q1]! d1[a]! with
        | false =>
          have HG : Hid (Go.Sort.scanDown (fun x => !ltP F x d1[a]!) d1 p1 (q1 - 1) = Go.Sort.scanDown (fun x => !ltP F x d1[a]!) d1 p1 j1) := Lib.hid (by rw [← hsd1.out, Go.Proofs.scanDown_go (fun x => !ltP F x d1[a]!) d1 p1 q1 hle21 (by omega) (by simp [hlv2])])
          have pi26 : (0 : Int) ≤ (q1 : Int) := by omega
          have bi26 : (q1 : Int) < (n : Int) := by omega
          have pj26 : (0 : Int) ≤ (a : Int) := by omega
          have bj26 : (a : Int) < (n : Int) := by omega
          obtain ⟨x26, hx26⟩ : ∃ x, x = d1[q1]! := ⟨_, rfl⟩
          obtain ⟨y26, hy26⟩ : ∃ x, x = d1[a]! := ⟨_, rfl⟩
          have la26 := SD.out.cl (q1) (by omega)
          have lb26 := SD.out.cl (a) (by omega)
          rw [← hx26] at la26
          rw [← hy26] at lb26
          have hc26 := Lib.hid (fun q os => HC.out x26 y26 (by rw [hx26]; exact SD.out.l _) (by rw [hy26]; exact SD.out.l _) (Go.Sort.grow (wr.drewN q) os))
          have hd26 : decide (cmpS F x26 y26 < 0) = false := by rw [hx26, hy26]; exact hlv2
          have hv26 : ¬ cmpS F x26 y26 < 0 := of_decide_eq_false hd26
          clear hx26 hy26
          go_wp2_with fail
          go_quiet_grown (first | (go_at_call 84; refine Go.Calls.grown_of (hc26.out _ _)))
          have SE : Hid (Srt w b n d1 (Go.Sort.grow (wr.drewN nq) osq)) := Lib.hid (SD.out.grown nq osq)
          clear la26 lb26 hc26 SD
          generalize Go.Sort.grow (wr.drewN nq) osq = we at SE ⊢
          clear nq osq pi26 bi26 pj26 bj26 hd26 hv26
          go_wp2_with fail
          go_roundw
          case rel => exact ⟨q1 - 1, by go_num, by omega, by omega, SE.out, HG⟩
          case measure => simp [intOf]; omega
        | true =>
          have HJ1 : Hid (q1 = Go.Sort.scanDown (fun x => !ltP F x d1[a]!) d1 p1 j1) := Lib.hid (by rw [← hsd1.out, Go.Proofs.scanDown_end (fun x => !ltP F x d1[a]!) d1 p1 q1 (Or.inr (by simp [hlv2]))])
          have hlt1 := Go.Proofs.part_scans_lt (ltP F) a i1 j1 d1 (by omega) HU1.out HJ1.out hle21
          have gt : decide ((q1 : Int) < (p1 : Int)) = false := decide_eq_false (by omega)
          have gn : decide (q1 < p1) = false := decide_eq_false (by omega)
          have gm : ¬ (q1 : Int) < (p1 : Int) := by omega
          have pi27 : (0 : Int) ≤ (q1 : Int) := by omega
          have bi27 : (q1 : Int) < (n : Int) := by omega
          have pj27 : (0 : Int) ≤ (a : Int) := by omega
          have bj27 : (a : Int) < (n : Int) := by omega
          obtain ⟨x27, hx27⟩ : ∃ x, x = d1[q1]! := ⟨_, rfl⟩
          obtain ⟨y27, hy27⟩ : ∃ x, x = d1[a]! := ⟨_, rfl⟩
          have la27 := SD.out.cl (q1) (by omega)
          have lb27 := SD.out.cl (a) (by omega)
          rw [← hx27] at la27
          rw [← hy27] at lb27
          have hc27 := Lib.hid (fun q os => HC.out x27 y27 (by rw [hx27]; exact SD.out.l _) (by rw [hy27]; exact SD.out.l _) (Go.Sort.grow (wr.drewN q) os))
          have hd27 : decide (cmpS F x27 y27 < 0) = true := by rw [hx27, hy27]; exact hlv2
          have hv27 : cmpS F x27 y27 < 0 := of_decide_eq_true hd27
          clear hx27 hy27
          go_wp2_with fail
          go_quiet_grown (first | (go_at_call 84; refine Go.Calls.grown_of (hc27.out _ _)))
          have SE : Hid (Srt w b n d1 (Go.Sort.grow (wr.drewN nq) osq)) := Lib.hid (SD.out.grown nq osq)
          clear la27 lb27 hc27 SD
          generalize Go.Sort.grow (wr.drewN nq) osq = we at SE ⊢
          clear nq osq pi27 bi27 pj27 bj27 hd27 hv27
          clear hlv2
          go_wp2_with fail
          have pi28 : (0 : Int) ≤ (p1 : Int) := by omega
          have bi28 : (p1 : Int) < (n : Int) := by omega
          have pj28 : (0 : Int) ≤ (q1 : Int) := by omega
          have bj28 : (q1 : Int) < (n : Int) := by omega
          obtain ⟨x28, hx28⟩ : ∃ x, x = d1[p1]! := ⟨_, rfl⟩
          obtain ⟨y28, hy28⟩ : ∃ x, x = d1[q1]! := ⟨_, rfl⟩
          have SF : Hid (Srt w b n (Go.Sort.swp d1 (p1) (q1)) ((we.setCell ⟨b, p1, none⟩ (.int .i64 (y28 : Int))).setCell ⟨b, q1, none⟩ (.int .i64 (x28 : Int))).drew) := Lib.hid (by rw [hx28, hy28]; exact SE.out.swap (i := p1) (j := q1) (by omega) (by omega))
          obtain ⟨ca28, fa28⟩ := SE.out.r.c (p1) (by omega)
          obtain ⟨cb28, fb28⟩ := SE.out.r.c (q1) (by omega)
          obtain ⟨u28, cc28⟩ := SE.out.c2 (p1) (q1) (by omega) (by omega) (.int .i64 (y28 : Int))
          rw [← hx28] at ca28
          rw [← hy28] at cb28
          clear SE hx28 hy28
          go_wp2_with fail
          go_big_region_o
          clear ca28 cb28 cc28 fa28 fb28
          generalize ((we.setCell ⟨b, p1, none⟩ (.int .i64 (y28 : Int))).setCell ⟨b, q1, none⟩ (.int .i64 (x28 : Int))).drew = wf at SF ⊢
          clear pi28 bi28 pj28 bj28
          clear gd gd2 gt gn gm
          go_wp2_with fail
          obtain ⟨I0, hI0⟩ : ∃ I0 : Nat, I0 = p1 + 1 := ⟨_, rfl⟩
          obtain ⟨J0, hJ0⟩ : ∃ J0 : Nat, J0 = q1 - 1 := ⟨_, rfl⟩
          obtain ⟨D0, hD0⟩ : ∃ D0 : Array Nat, D0 = Go.Sort.swp d1 p1 q1 := ⟨_, rfl⟩
          have PF : Hid (Go.Sort.partition (ltP F) d a z pv = ((Go.Sort.partLoop (ltP F) a I0 J0 D0).1, false, Go.Sort.swp (Go.Sort.partLoop (ltP F) a I0 J0 D0).2 (Go.Sort.partLoop (ltP F) a I0 J0 D0).1 a)) := Lib.hid (by
            rw [hI0, hJ0, hD0]
            exact Go.Proofs.part_first_go (ltP F) d a z pv Hi1.out Hj1.out HD1.out.symm HU1.out HJ1.out (by omega))
          have G0 : Hid (∃ (i2 j2 : Nat) (d2 : Array Nat), Value.int .i64 ((p1 : Int) + 1) = .int .i64 (i2 : Int) ∧ Value.int .i64 ((q1 : Int) - 1) = .int .i64 (j2 : Int) ∧ a < i2 ∧ i2 ≤ j2 + 1 ∧ j2 < z ∧ Srt w b n d2 wf ∧ Hid (Go.Sort.partLoop (ltP F) a i2 j2 d2 = Go.Sort.partLoop (ltP F) a I0 J0 D0)) := Lib.hid ⟨p1 + 1, q1 - 1, Go.Sort.swp d1 p1 q1, by go_num, by go_num, by omega, by omega, by omega, SF.out, Lib.hid (by rw [hI0, hJ0, hD0])⟩
          clear hI0 hJ0 hD0 HU1 HJ1 hsc1 hsd1 SF HD1 Hi1 Hj1
          go_loopw [12, 13] (fun vi vj wr => ∃ (i2 j2 : Nat) (d2 : Array Nat), vi = .int .i64 (i2 : Int) ∧ vj = .int .i64 (j2 : Int) ∧ a < i2 ∧ i2 ≤ j2 + 1 ∧ j2 < z ∧ Srt w b n d2 wr ∧ Hid (Go.Sort.partLoop (ltP F) a i2 j2 d2 = Go.Sort.partLoop (ltP F) a I0 J0 D0)) (fun vi vj _ => (intOf vj).toNat + 1 - (intOf vi).toNat)
          case atStart => exact G0.out
          case round =>
            clear G0
            obtain ⟨i2, j2, d2, rfl, rfl, hai2, hij2, hjz2, hs, AE⟩ := hrel
            have T1 := Lib.hid hs
            clear hs
            go_wp2_with fail
            go_loopw [12] (fun vi wq => ∃ (p2 : Nat), vi = .int .i64 (p2 : Int) ∧ i2 ≤ p2 ∧ p2 ≤ j2 + 1 ∧ Srt w b n d2 wq ∧ Hid (Go.Sort.scanUp (fun x => ltP F x d2[a]!) d2 j2 p2 = Go.Sort.scanUp (fun x => ltP F x d2[a]!) d2 j2 i2)) (fun vi _ => j2 + 1 - (intOf vi).toNat)
            case atStart => exact ⟨i2, by go_num, Nat.le_refl _, hij2, T1.out, Lib.hid rfl⟩
            case round =>
              clear T1
              obtain ⟨p2, rfl, hip2, hpj2, hs, hsc2⟩ := hrel
              have SU := Lib.hid hs
              clear hs
              by_cases hle2 : p2 ≤ j2
              case neg =>
                have HU2 : Hid (p2 = Go.Sort.scanUp (fun x => ltP F x d2[a]!) d2 j2 i2) := Lib.hid (by rw [← hsc2.out, Go.Proofs.scanUp_end (fun x => ltP F x d2[a]!) d2 j2 p2 (Or.inl hle2)])
                have gu : decide ((p2 : Int) ≤ (j2 : Int)) = false := decide_eq_false (by omega)
                have gu2 : ¬ (p2 : Int) ≤ (j2 : Int) := by omega
                go_wp2_with fail
                go_big_region_o
                have SV : Hid (Srt w b n d2 wr.drew) := Lib.hid SU.out.drew
                clear SU
                generalize wr.drew = wv at SV ⊢
                clear gu gu2
                go_wp2_with fail
                go_loopw [13] (fun vj wq => ∃ (q2 : Nat), vj = .int .i64 (q2 : Int) ∧ q2 ≤ j2 ∧ p2 ≤ q2 + 1 ∧ Srt w b n d2 wq ∧ Hid (Go.Sort.scanDown (fun x => !ltP F x d2[a]!) d2 p2 q2 = Go.Sort.scanDown (fun x => !ltP F x d2[a]!) d2 p2 j2)) (fun vj _ => (intOf vj).toNat)
                case atStart => exact ⟨j2, by go_num, Nat.le_refl _, by omega, SV.out, Lib.hid rfl⟩
                case round =>
                  clear SV
                  obtain ⟨q2, rfl, hqj2, hpq2, hs, hsd2⟩ := hrel
                  have SD := Lib.hid hs
                  clear hs
                  have qn2 : q2 < n := by omega
                  by_cases hle22 : p2 ≤ q2
                  case neg =>
                    have HJ2 : Hid (q2 = Go.Sort.scanDown (fun x => !ltP F x d2[a]!) d2 p2 j2) := Lib.hid (by rw [← hsd2.out, Go.Proofs.scanDown_end (fun x => !ltP F x d2[a]!) d2 p2 q2 (Or.inl hle22)])
                    have gd : decide ((p2 : Int) ≤ (q2 : Int)) = false := decide_eq_false (by omega)
                    have gd2 : ¬ (p2 : Int) ≤ (q2 : Int) := by omega
                    have gt : decide ((q2 : Int) < (p2 : Int)) = true := decide_eq_true (by omega)
                    have gn : decide (q2 < p2) = true := decide_eq_true (by omega)
                    have gm : (q2 : Int) < (p2 : Int) := by omega
                    go_wp2_with fail
                    go_big_region_o
                    have SE : Hid (Srt w b n d2 wr.drew) := Lib.hid SD.out.drew
                    clear SD
                    generalize wr.drew = we at SE ⊢
                    go_wp2_with fail
                    have pi29 : (0 : Int) ≤ (q2 : Int) := by omega
                    have bi29 : (q2 : Int) < (n : Int) := by omega
                    have pj29 : (0 : Int) ≤ (a : Int) := by omega
                    have bj29 : (a : Int) < (n : Int) := by omega
                    obtain ⟨x29, hx29⟩ : ∃ x, x = d2[q2]! := ⟨_, rfl⟩
                    obtain ⟨y29, hy29⟩ : ∃ x, x = d2[a]! := ⟨_, rfl⟩
                    have SF : Hid (Srt w b n (Go.Sort.swp d2 (q2) (a)) ((we.setCell ⟨b, q2, none⟩ (.int .i64 (y29 : Int))).setCell ⟨b, a, none⟩ (.int .i64 (x29 : Int))).drew) := Lib.hid (by rw [hx29, hy29]; exact SE.out.swap (i := q2) (j := a) (by omega) (by omega))
                    obtain ⟨ca29, fa29⟩ := SE.out.r.c (q2) (by omega)
                    obtain ⟨cb29, fb29⟩ := SE.out.r.c (a) (by omega)
                    obtain ⟨u29, cc29⟩ := SE.out.c2 (q2) (a) (by omega) (by omega) (.int .i64 (y29 : Int))
                    rw [← hx29] at ca29
                    rw [← hy29] at cb29
                    clear SE hx29 hy29
                    go_wp2_with fail
                    go_big_region_o
                    clear ca29 cb29 cc29 fa29 fb29
                    generalize ((we.setCell ⟨b, q2, none⟩ (.int .i64 (y29 : Int))).setCell ⟨b, a, none⟩ (.int .i64 (x29 : Int))).drew = wf at SF ⊢
                    clear pi29 bi29 pj29 bj29
                    go_wp2
                    go_ret2
                    have e := Go.Proofs.part_break (ltP F) a i2 j2 d2 HU2.out HJ2.out (by omega)
                    rw [PF.out, ← AE.out, e]
                    exact ⟨rfl, SF.out⟩
                  exfalso
                  omega
              have gu : decide ((p2 : Int) ≤ (j2 : Int)) = true := decide_eq_true (by omega)
              have gu2 : (p2 : Int) ≤ (j2 : Int) := by omega
              have pn2 : p2 < n := by omega
              cases hlv : ltP F d2[p2]! d2[a]! with
              | true =>
                have HG : Hid (Go.Sort.scanUp (fun x => ltP F x d2[a]!) d2 j2 (p2 + 1) = Go.Sort.scanUp (fun x => ltP F x d2[a]!) d2 j2 i2) := Lib.hid (by rw [← hsc2.out, Go.Proofs.scanUp_go (fun x => ltP F x d2[a]!) d2 j2 p2 hle2 hlv])
                have pi30 : (0 : Int) ≤ (p2 : Int) := by omega
                have bi30 : (p2 : Int) < (n : Int) := by omega
                have pj30 : (0 : Int) ≤ (a : Int) := by omega
                have bj30 : (a : Int) < (n : Int) := by omega
                obtain ⟨x30, hx30⟩ : ∃ x, x = d2[p2]! := ⟨_, rfl⟩
                obtain ⟨y30, hy30⟩ : ∃ x, x = d2[a]! := ⟨_, rfl⟩
                have la30 := SU.out.cl (p2) (by omega)
                have lb30 := SU.out.cl (a) (by omega)
                rw [← hx30] at la30
                rw [← hy30] at lb30
                have hc30 := Lib.hid (fun q os => HC.out x30 y30 (by rw [hx30]; exact SU.out.l _) (by rw [hy30]; exact SU.out.l _) (Go.Sort.grow (wr.drewN q) os))
                have hd30 : decide (cmpS F x30 y30 < 0) = true := by rw [hx30, hy30]; exact hlv
                have hv30 : cmpS F x30 y30 < 0 := of_decide_eq_true hd30
                clear hx30 hy30
                go_wp2_with fail
                go_quiet_grown (first | (go_at_call 84; refine Go.Calls.grown_of (hc30.out _ _)))
                have SV : Hid (Srt w b n d2 (Go.Sort.grow (wr.drewN nq) osq)) := Lib.hid (SU.out.grown nq osq)
                clear la30 lb30 hc30 SU
                generalize Go.Sort.grow (wr.drewN nq) osq = wv at SV ⊢
                clear nq osq pi30 bi30 pj30 bj30 hd30 hv30
                go_wp2_with fail
                go_roundw
                case rel => exact ⟨p2 + 1, by go_num, by omega, by omega, SV.out, HG⟩
                case measure => simp [intOf]; omega
              | false =>
                have HU2 : Hid (p2 = Go.Sort.scanUp (fun x => ltP F x d2[a]!) d2 j2 i2) := Lib.hid (by rw [← hsc2.out, Go.Proofs.scanUp_end (fun x => ltP F x d2[a]!) d2 j2 p2 (Or.inr hlv)])
                have pi31 : (0 : Int) ≤ (p2 : Int) := by omega
                have bi31 : (p2 : Int) < (n : Int) := by omega
                have pj31 : (0 : Int) ≤ (a : Int) := by omega
                have bj31 : (a : Int) < (n : Int) := by omega
                obtain ⟨x31, hx31⟩ : ∃ x, x = d2[p2]! := ⟨_, rfl⟩
                obtain ⟨y31, hy31⟩ : ∃ x, x = d2[a]! := ⟨_, rfl⟩
                have la31 := SU.out.cl (p2) (by omega)
                have lb31 := SU.out.cl (a) (by omega)
                rw [← hx31] at la31
                rw [← hy31] at lb31
                have hc31 := Lib.hid (fun q os => HC.out x31 y31 (by rw [hx31]; exact SU.out.l _) (by rw [hy31]; exact SU.out.l _) (Go.Sort.grow (wr.drewN q) os))
                have hd31 : decide (cmpS F x31 y31 < 0) = false := by rw [hx31, hy31]; exact hlv
                have hv31 : ¬ cmpS F x31 y31 < 0 := of_decide_eq_false hd31
                clear hx31 hy31
                go_wp2_with fail
                go_quiet_grown (first | (go_at_call 84; refine Go.Calls.grown_of (hc31.out _ _)))
                have SV : Hid (Srt w b n d2 (Go.Sort.grow (wr.drewN nq) osq)) := Lib.hid (SU.out.grown nq osq)
                clear la31 lb31 hc31 SU
                generalize Go.Sort.grow (wr.drewN nq) osq = wv at SV ⊢
                clear nq osq pi31 bi31 pj31 bj31 hd31 hv31
                clear gu gu2 hlv
                go_wp2_with fail
                go_loopw [13] (fun vj wq => ∃ (q2 : Nat), vj = .int .i64 (q2 : Int) ∧ q2 ≤ j2 ∧ p2 ≤ q2 + 1 ∧ Srt w b n d2 wq ∧ Hid (Go.Sort.scanDown (fun x => !ltP F x d2[a]!) d2 p2 q2 = Go.Sort.scanDown (fun x => !ltP F x d2[a]!) d2 p2 j2)) (fun vj _ => (intOf vj).toNat)
                case atStart => exact ⟨j2, by go_num, Nat.le_refl _, by omega, SV.out, Lib.hid rfl⟩
                case round =>
                  clear SV
                  obtain ⟨q2, rfl, hqj2, hpq2, hs, hsd2⟩ := hrel
                  have SD := Lib.hid hs
                  clear hs
                  have qn2 : q2 < n := by omega
                  by_cases hle22 : p2 ≤ q2
                  case neg =>
                    have HJ2 : Hid (q2 = Go.Sort.scanDown (fun x => !ltP F x d2[a]!) d2 p2 j2) := Lib.hid (by rw [← hsd2.out, Go.Proofs.scanDown_end (fun x => !ltP F x d2[a]!) d2 p2 q2 (Or.inl hle22)])
                    have gd : decide ((p2 : Int) ≤ (q2 : Int)) = false := decide_eq_false (by omega)
                    have gd2 : ¬ (p2 : Int) ≤ (q2 : Int) := by omega
                    have gt : decide ((q2 : Int) < (p2 : Int)) = true := decide_eq_true (by omega)
                    have gn : decide (q2 < p2) = true := decide_eq_true (by omega)
                    have gm : (q2 : Int) < (p2 : Int) := by omega
                    go_wp2_with fail
                    go_big_region_o
                    have SE : Hid (Srt w b n d2 wr.drew) := Lib.hid SD.out.drew
                    clear SD
                    generalize wr.drew = we at SE ⊢
                    go_wp2_with fail
                    have pi32 : (0 : Int) ≤ (q2 : Int) := by omega
                    have bi32 : (q2 : Int) < (n : Int) := by omega
                    have pj32 : (0 : Int) ≤ (a : Int) := by omega
                    have bj32 : (a : Int) < (n : Int) := by omega
                    obtain ⟨x32, hx32⟩ : ∃ x, x = d2[q2]! := ⟨_, rfl⟩
                    obtain ⟨y32, hy32⟩ : ∃ x, x = d2[a]! := ⟨_, rfl⟩
                    have SF : Hid (Srt w b n (Go.Sort.swp d2 (q2) (a)) ((we.setCell ⟨b, q2, none⟩ (.int .i64 (y32 : Int))).setCell ⟨b, a, none⟩ (.int .i64 (x32 : Int))).drew) := Lib.hid (by rw [hx32, hy32]; exact SE.out.swap (i := q2) (j := a) (by omega) (by omega))
                    obtain ⟨ca32, fa32⟩ := SE.out.r.c (q2) (by omega)
                    obtain ⟨cb32, fb32⟩ := SE.out.r.c (a) (by omega)
                    obtain ⟨u32, cc32⟩ := SE.out.c2 (q2) (a) (by omega) (by omega) (.int .i64 (y32 : Int))
                    rw [← hx32] at ca32
                    rw [← hy32] at cb32
                    clear SE hx32 hy32
                    go_wp2_with fail
                    go_big_region_o
                    clear ca32 cb32 cc32 fa32 fb32
                    generalize ((we.setCell ⟨b, q2, none⟩ (.int .i64 (y32 : Int))).setCell ⟨b, a, none⟩ (.int .i64 (x32 : Int))).drew = wf at SF ⊢
                    clear pi32 bi32 pj32 bj32
                    go_wp2
                    go_ret2
                    have e := Go.Proofs.part_break (ltP F) a i2 j2 d2 HU2.out HJ2.out (by omega)
                    rw [PF.out, ← AE.out, e]
                    exact ⟨rfl, SF.out⟩
                  have gd : decide ((p2 : Int) ≤ (q2 : Int)) = true := decide_eq_true (by omega)
                  have gd2 : (p2 : Int) ≤ (q2 : Int) := by omega
                  cases hlv2 : ltP F d2[q2]! d2[a]! with
                  | false =>
                    have HG : Hid (Go.Sort.scanDown (fun x => !ltP F x d2[a]!) d2 p2 (q2 - 1) = Go.Sort.scanDown (fun x => !ltP F x d2[a]!) d2 p2 j2) := Lib.hid (by rw [← hsd2.out, Go.Proofs.scanDown_go (fun x => !ltP F x d2[a]!) d2 p2 q2 hle22 (by omega) (by simp [hlv2])])
                    have pi33 : (0 : Int) ≤ (q2 : Int) := by omega
                    have bi33 : (q2 : Int) < (n : Int) := by omega
                    have pj33 : (0 : Int) ≤ (a : Int) := by omega
                    have bj33 : (a : Int) < (n : Int) := by omega
                    obtain ⟨x33, hx33⟩ : ∃ x, x = d2[q2]! := ⟨_, rfl⟩
                    obtain ⟨y33, hy33⟩ : ∃ x, x = d2[a]! := ⟨_, rfl⟩
                    have la33 := SD.out.cl (q2) (by omega)
                    have lb33 := SD.out.cl (a) (by omega)
                    rw [← hx33] at la33
                    rw [← hy33] at lb33
                    have hc33 := Lib.hid (fun q os => HC.out x33 y33 (by rw [hx33]; exact SD.out.l _) (by rw [hy33]; exact SD.out.l _) (Go.Sort.grow (wr.drewN q) os))
                    have hd33 : decide (cmpS F x33 y33 < 0) = false := by rw [hx33, hy33]; exact hlv2
                    have hv33 : ¬ cmpS F x33 y33 < 0 := of_decide_eq_false hd33
                    clear hx33 hy33
                    go_wp2_with fail
                    go_quiet_grown (first | (go_at_call 84; refine Go.Calls.grown_of (hc33.out _ _)))
                    have SE : Hid (Srt w b n d2 (Go.Sort.grow (wr.drewN nq) osq)) := Lib.hid (SD.out.grown nq osq)
                    clear la33 lb33 hc33 SD
                    generalize Go.Sort.grow (wr.drewN nq) osq = we at SE ⊢
                    clear nq osq pi33 bi33 pj33 bj33 hd33 hv33
                    go_wp2_with fail
                    go_roundw
                    case rel => exact ⟨q2 - 1, by go_num, by omega, by omega, SE.out, HG⟩
                    case measure => simp [intOf]; omega
                  | true =>
                    have HJ2 : Hid (q2 = Go.Sort.scanDown (fun x => !ltP F x d2[a]!) d2 p2 j2) := Lib.hid (by rw [← hsd2.out, Go.Proofs.scanDown_end (fun x => !ltP F x d2[a]!) d2 p2 q2 (Or.inr (by simp [hlv2]))])
                    have hlt2 := Go.Proofs.part_scans_lt (ltP F) a i2 j2 d2 (by omega) HU2.out HJ2.out hle22
                    have gt : decide ((q2 : Int) < (p2 : Int)) = false := decide_eq_false (by omega)
                    have gn : decide (q2 < p2) = false := decide_eq_false (by omega)
                    have gm : ¬ (q2 : Int) < (p2 : Int) := by omega
                    have pi34 : (0 : Int) ≤ (q2 : Int) := by omega
                    have bi34 : (q2 : Int) < (n : Int) := by omega
                    have pj34 : (0 : Int) ≤ (a : Int) := by omega
                    have bj34 : (a : Int) < (n : Int) := by omega
                    obtain ⟨x34, hx34⟩ : ∃ x, x = d2[q2]! := ⟨_, rfl⟩
                    obtain ⟨y34, hy34⟩ : ∃ x, x = d2[a]! := ⟨_, rfl⟩
                    have la34 := SD.out.cl (q2) (by omega)
                    have lb34 := SD.out.cl (a) (by omega)
                    rw [← hx34] at la34
                    rw [← hy34] at lb34
                    have hc34 := Lib.hid (fun q os => HC.out x34 y34 (by rw [hx34]; exact SD.out.l _) (by rw [hy34]; exact SD.out.l _) (Go.Sort.grow (wr.drewN q) os))
                    have hd34 : decide (cmpS F x34 y34 < 0) = true := by rw [hx34, hy34]; exact hlv2
                    have hv34 : cmpS F x34 y34 < 0 := of_decide_eq_true hd34
                    clear hx34 hy34
                    go_wp2_with fail
                    go_quiet_grown (first | (go_at_call 84; refine Go.Calls.grown_of (hc34.out _ _)))
                    have SE : Hid (Srt w b n d2 (Go.Sort.grow (wr.drewN nq) osq)) := Lib.hid (SD.out.grown nq osq)
                    clear la34 lb34 hc34 SD
                    generalize Go.Sort.grow (wr.drewN nq) osq = we at SE ⊢
                    clear nq osq pi34 bi34 pj34 bj34 hd34 hv34
                    clear hlv2
                    go_wp2_with fail
                    have pi35 : (0 : Int) ≤ (p2 : Int) := by omega
                    have bi35 : (p2 : Int) < (n : Int) := by omega
                    have pj35 : (0 : Int) ≤ (q2 : Int) := by omega
                    have bj35 : (q2 : Int) < (n : Int) := by omega
                    obtain ⟨x35, hx35⟩ : ∃ x, x = d2[p2]! := ⟨_, rfl⟩
                    obtain ⟨y35, hy35⟩ : ∃ x, x = d2[q2]! := ⟨_, rfl⟩
                    have SF : Hid (Srt w b n (Go.Sort.swp d2 (p2) (q2)) ((we.setCell ⟨b, p2, none⟩ (.int .i64 (y35 : Int))).setCell ⟨b, q2, none⟩ (.int .i64 (x35 : Int))).drew) := Lib.hid (by rw [hx35, hy35]; exact SE.out.swap (i := p2) (j := q2) (by omega) (by omega))
                    obtain ⟨ca35, fa35⟩ := SE.out.r.c (p2) (by omega)
                    obtain ⟨cb35, fb35⟩ := SE.out.r.c (q2) (by omega)
                    obtain ⟨u35, cc35⟩ := SE.out.c2 (p2) (q2) (by omega) (by omega) (.int .i64 (y35 : Int))
                    rw [← hx35] at ca35
                    rw [← hy35] at cb35
                    clear SE hx35 hy35
                    go_wp2_with fail
                    go_big_region_o
                    clear ca35 cb35 cc35 fa35 fb35
                    generalize ((we.setCell ⟨b, p2, none⟩ (.int .i64 (y35 : Int))).setCell ⟨b, q2, none⟩ (.int .i64 (x35 : Int))).drew = wf at SF ⊢
                    clear pi35 bi35 pj35 bj35
                    clear gd gd2 gt gn gm
                    go_wp2_with fail
                    have HG2 : Hid (Go.Sort.partLoop (ltP F) a (p2 + 1) (q2 - 1) (Go.Sort.swp d2 p2 q2) = Go.Sort.partLoop (ltP F) a I0 J0 D0) := Lib.hid (by rw [← AE.out, Go.Proofs.part_go (ltP F) a i2 j2 d2 HU2.out HJ2.out (by omega)])
                    go_roundw
                    case rel => exact ⟨p2 + 1, q2 - 1, Go.Sort.swp d2 p2 q2, by go_num, by go_num, by omega, by omega, by omega, SF.out, HG2⟩
                    case measure => simp [intOf]; omega
end Go.Proofs.YtmmokiaipfalmaaGreat

namespace Go.Proofs.YtmmokiaipfalmaaGreat
open Go.RowKit Go.Maps

set_option maxRecDepth 1000000 in
set_option maxHeartbeats 64000000 in
theorem peqP (F : Nat → Int) (RV : Value) (hC : CmpOk RV F) (b n cap : Nat) (hn : n ≤ 24) (w : World) (a z pv : Nat) (d : Array Nat) (W : World) (hS : Srt w b n d W) (hap : a ≤ pv) (hpz : pv < z) (hz : z ≤ n) :
    Calls Tryz.prog 289 #[.slice (some ⟨b, 0, none⟩) n cap, .int .i64 (a : Int), .int .i64 (z : Int), .int .i64 (pv : Int), .func (.func 84) #[RV] #[]] W fun e w' => e = .returned (.int .i64 ((Go.Sort.partitionEqual (ltP F) d a z pv).1 : Int)) ∧ Srt w b n (Go.Sort.partitionEqual (ltP F) d a z pv).2 w' := by
  have mixed : (Tryz.prog).follows Departure.mixedOrders = true := by kernel_rfl
  have HC := Lib.hid hC
  have S0 := Lib.hid hS
  have hds0 := hS.z
  clear hC hS
  go_enter Tryz.func289, Tryz.ntmps289
  go_wp2_with fail
  have pi36 : (0 : Int) ≤ (a : Int) := by omega
  have bi36 : (a : Int) < (n : Int) := by omega
  have pj36 : (0 : Int) ≤ (pv : Int) := by omega
  have bj36 : (pv : Int) < (n : Int) := by omega
  obtain ⟨x36, hx36⟩ : ∃ x, x = d[a]! := ⟨_, rfl⟩
  obtain ⟨y36, hy36⟩ : ∃ x, x = d[pv]! := ⟨_, rfl⟩
  have S1 : Hid (Srt w b n (Go.Sort.swp d (a) (pv)) ((W.setCell ⟨b, a, none⟩ (.int .i64 (y36 : Int))).setCell ⟨b, pv, none⟩ (.int .i64 (x36 : Int))).drew) := Lib.hid (by rw [hx36, hy36]; exact S0.out.swap (i := a) (j := pv) (by omega) (by omega))
  obtain ⟨ca36, fa36⟩ := S0.out.r.c (a) (by omega)
  obtain ⟨cb36, fb36⟩ := S0.out.r.c (pv) (by omega)
  obtain ⟨u36, cc36⟩ := S0.out.c2 (a) (pv) (by omega) (by omega) (.int .i64 (y36 : Int))
  rw [← hx36] at ca36
  rw [← hy36] at cb36
  clear S0 hx36 hy36
  go_wp2_with fail
  go_big_region_o
  clear ca36 cb36 cc36 fa36 fb36
  generalize ((W.setCell ⟨b, a, none⟩ (.int .i64 (y36 : Int))).setCell ⟨b, pv, none⟩ (.int .i64 (x36 : Int))).drew = w1 at S1 ⊢
  clear pi36 bi36 pj36 bj36
  have han : a < n := by omega
  have EQ : Hid (Go.Sort.partitionEqual (ltP F) d a z pv = Go.Sort.partEqLoop (ltP F) a (a + 1) (z - 1) (Go.Sort.swp d a pv)) := Lib.hid rfl
  have G0 : Hid (∃ (i j : Nat) (dk : Array Nat), Value.int .i64 ((a : Int) + 1) = .int .i64 (i : Int) ∧ Value.int .i64 ((z : Int) - 1) = .int .i64 (j : Int) ∧ a < i ∧ i ≤ j + 1 ∧ j < z ∧ Srt w b n dk w1 ∧ Hid (Go.Sort.partEqLoop (ltP F) a i j dk = Go.Sort.partEqLoop (ltP F) a (a + 1) (z - 1) (Go.Sort.swp d a pv))) := Lib.hid ⟨a + 1, z - 1, Go.Sort.swp d a pv, by go_num, by go_num, by omega, by omega, by omega, S1.out, Lib.hid rfl⟩
  clear S1
  go_wp2_with fail
  go_loopw [11, 12] (fun vi vj wr => ∃ (i j : Nat) (dk : Array Nat), vi = .int .i64 (i : Int) ∧ vj = .int .i64 (j : Int) ∧ a < i ∧ i ≤ j + 1 ∧ j < z ∧ Srt w b n dk wr ∧ Hid (Go.Sort.partEqLoop (ltP F) a i j dk = Go.Sort.partEqLoop (ltP F) a (a + 1) (z - 1) (Go.Sort.swp d a pv))) (fun vi vj _ => (intOf vj).toNat + 1 - (intOf vi).toNat)
  case atStart => exact G0.out
  case round =>
    clear G0
    obtain ⟨i, j, dk, rfl, rfl, hai, hij, hjz, hs, AE⟩ := hrel
    have T1 := Lib.hid hs
    clear hs
    go_wp2_with fail
    go_loopw [11] (fun vi wq => ∃ (p : Nat), vi = .int .i64 (p : Int) ∧ i ≤ p ∧ p ≤ j + 1 ∧ Srt w b n dk wq ∧ Hid (Go.Sort.scanUp (fun x => !ltP F dk[a]! x) dk j p = Go.Sort.scanUp (fun x => !ltP F dk[a]! x) dk j i)) (fun vi _ => j + 1 - (intOf vi).toNat)
    case atStart => exact ⟨i, by go_num, Nat.le_refl _, hij, T1.out, Lib.hid rfl⟩
    case round =>
      clear T1
      obtain ⟨p, rfl, hip, hpj, hs, hsc⟩ := hrel
      have SU := Lib.hid hs
      clear hs
      by_cases hle : p ≤ j
      case neg =>
        have HU : Hid (p = Go.Sort.scanUp (fun x => !ltP F dk[a]! x) dk j i) := Lib.hid (by rw [← hsc.out, Go.Proofs.scanUp_end (fun x => !ltP F dk[a]! x) dk j p (Or.inl hle)])
        have gu : decide ((p : Int) ≤ (j : Int)) = false := decide_eq_false (by omega)
        have gu2 : ¬ (p : Int) ≤ (j : Int) := by omega
        go_wp2_with fail
        go_big_region_o
        have SV : Hid (Srt w b n dk wr.drew) := Lib.hid SU.out.drew
        clear SU
        generalize wr.drew = wv at SV ⊢
        clear gu gu2
        go_wp2_with fail
        go_loopw [12] (fun vj wq => ∃ (q : Nat), vj = .int .i64 (q : Int) ∧ q ≤ j ∧ p ≤ q + 1 ∧ Srt w b n dk wq ∧ Hid (Go.Sort.scanDown (fun x => ltP F dk[a]! x) dk p q = Go.Sort.scanDown (fun x => ltP F dk[a]! x) dk p j)) (fun vj _ => (intOf vj).toNat)
        case atStart => exact ⟨j, by go_num, Nat.le_refl _, by omega, SV.out, Lib.hid rfl⟩
        case round =>
          clear SV
          obtain ⟨q, rfl, hqj, hpq, hs, hsd⟩ := hrel
          have SD := Lib.hid hs
          clear hs
          have qn : q < n := by omega
          by_cases hle2 : p ≤ q
          case neg =>
            have HJ : Hid (q = Go.Sort.scanDown (fun x => ltP F dk[a]! x) dk p j) := Lib.hid (by rw [← hsd.out, Go.Proofs.scanDown_end (fun x => ltP F dk[a]! x) dk p q (Or.inl hle2)])
            have gd : decide ((p : Int) ≤ (q : Int)) = false := decide_eq_false (by omega)
            have gd2 : ¬ (p : Int) ≤ (q : Int) := by omega
            have gt : decide ((q : Int) < (p : Int)) = true := decide_eq_true (by omega)
            have gn : decide (q < p) = true := decide_eq_true (by omega)
            have gm : (q : Int) < (p : Int) := by omega
            go_wp2_with fail
            go_big_region_o
            have SE : Hid (Srt w b n dk wr.drew) := Lib.hid SD.out.drew
            clear SD
            generalize wr.drew = we at SE ⊢
            go_wp2
            go_ret
            have e := Go.Proofs.partEq_break (ltP F) a i j dk HU.out HJ.out (by omega)
            rw [EQ.out, ← AE.out, e]
            exact ⟨rfl, SE.out⟩
          exfalso
          omega
      have gu : decide ((p : Int) ≤ (j : Int)) = true := decide_eq_true (by omega)
      have gu2 : (p : Int) ≤ (j : Int) := by omega
      have pn : p < n := by omega
      cases hlv : ltP F dk[a]! dk[p]! with
      | false =>
        have HG : Hid (Go.Sort.scanUp (fun x => !ltP F dk[a]! x) dk j (p + 1) = Go.Sort.scanUp (fun x => !ltP F dk[a]! x) dk j i) := Lib.hid (by rw [← hsc.out, Go.Proofs.scanUp_go (fun x => !ltP F dk[a]! x) dk j p hle (by simp [hlv])])
        have pi37 : (0 : Int) ≤ (a : Int) := by omega
        have bi37 : (a : Int) < (n : Int) := by omega
        have pj37 : (0 : Int) ≤ (p : Int) := by omega
        have bj37 : (p : Int) < (n : Int) := by omega
        obtain ⟨x37, hx37⟩ : ∃ x, x = dk[a]! := ⟨_, rfl⟩
        obtain ⟨y37, hy37⟩ : ∃ x, x = dk[p]! := ⟨_, rfl⟩
        have la37 := SU.out.cl (a) (by omega)
        have lb37 := SU.out.cl (p) (by omega)
        rw [← hx37] at la37
        rw [← hy37] at lb37
        have hc37 := Lib.hid (fun q os => HC.out x37 y37 (by rw [hx37]; exact SU.out.l _) (by rw [hy37]; exact SU.out.l _) (Go.Sort.grow (wr.drewN q) os))
        have hd37 : decide (cmpS F x37 y37 < 0) = false := by rw [hx37, hy37]; exact hlv
        have hv37 : ¬ cmpS F x37 y37 < 0 := of_decide_eq_false hd37
        clear hx37 hy37
        go_wp2_with fail
        go_quiet_grown (first | (go_at_call 84; refine Go.Calls.grown_of (hc37.out _ _)))
        have SV : Hid (Srt w b n dk (Go.Sort.grow (wr.drewN nq) osq)) := Lib.hid (SU.out.grown nq osq)
        clear la37 lb37 hc37 SU
        generalize Go.Sort.grow (wr.drewN nq) osq = wv at SV ⊢
        clear nq osq pi37 bi37 pj37 bj37 hd37 hv37
        go_wp2_with fail
        go_roundw
        case rel => exact ⟨p + 1, by go_num, by omega, by omega, SV.out, HG⟩
        case measure => simp [intOf]; omega
      | true =>
        have HU : Hid (p = Go.Sort.scanUp (fun x => !ltP F dk[a]! x) dk j i) := Lib.hid (by rw [← hsc.out, Go.Proofs.scanUp_end (fun x => !ltP F dk[a]! x) dk j p (Or.inr (by simp [hlv]))])
        have pi38 : (0 : Int) ≤ (a : Int) := by omega
        have bi38 : (a : Int) < (n : Int) := by omega
        have pj38 : (0 : Int) ≤ (p : Int) := by omega
        have bj38 : (p : Int) < (n : Int) := by omega
        obtain ⟨x38, hx38⟩ : ∃ x, x = dk[a]! := ⟨_, rfl⟩
        obtain ⟨y38, hy38⟩ : ∃ x, x = dk[p]! := ⟨_, rfl⟩
        have la38 := SU.out.cl (a) (by omega)
        have lb38 := SU.out.cl (p) (by omega)
        rw [← hx38] at la38
        rw [← hy38] at lb38
        have hc38 := Lib.hid (fun q os => HC.out x38 y38 (by rw [hx38]; exact SU.out.l _) (by rw [hy38]; exact SU.out.l _) (Go.Sort.grow (wr.drewN q) os))
        have hd38 : decide (cmpS F x38 y38 < 0) = true := by rw [hx38, hy38]; exact hlv
        have hv38 : cmpS F x38 y38 < 0 := of_decide_eq_true hd38
        clear hx38 hy38
        go_wp2_with fail
        go_quiet_grown (first | (go_at_call 84; refine Go.Calls.grown_of (hc38.out _ _)))
        have SV : Hid (Srt w b n dk (Go.Sort.grow (wr.drewN nq) osq)) := Lib.hid (SU.out.grown nq osq)
        clear la38 lb38 hc38 SU
        generalize Go.Sort.grow (wr.drewN nq) osq = wv at SV ⊢
        clear nq osq pi38 bi38 pj38 bj38 hd38 hv38
        clear gu gu2 hlv
        go_wp2_with fail
        go_loopw [12] (fun vj wq => ∃ (q : Nat), vj = .int .i64 (q : Int) ∧ q ≤ j ∧ p ≤ q + 1 ∧ Srt w b n dk wq ∧ Hid (Go.Sort.scanDown (fun x => ltP F dk[a]! x) dk p q = Go.Sort.scanDown (fun x => ltP F dk[a]! x) dk p j)) (fun vj _ => (intOf vj).toNat)
        case atStart => exact ⟨j, by go_num, Nat.le_refl _, by omega, SV.out, Lib.hid rfl⟩
        case round =>
          clear SV
          obtain ⟨q, rfl, hqj, hpq, hs, hsd⟩ := hrel
          have SD := Lib.hid hs
          clear hs
          have qn : q < n := by omega
          by_cases hle2 : p ≤ q
          case neg =>
            have HJ : Hid (q = Go.Sort.scanDown (fun x => ltP F dk[a]! x) dk p j) := Lib.hid (by rw [← hsd.out, Go.Proofs.scanDown_end (fun x => ltP F dk[a]! x) dk p q (Or.inl hle2)])
            have gd : decide ((p : Int) ≤ (q : Int)) = false := decide_eq_false (by omega)
            have gd2 : ¬ (p : Int) ≤ (q : Int) := by omega
            have gt : decide ((q : Int) < (p : Int)) = true := decide_eq_true (by omega)
            have gn : decide (q < p) = true := decide_eq_true (by omega)
            have gm : (q : Int) < (p : Int) := by omega
            go_wp2_with fail
            go_big_region_o
            have SE : Hid (Srt w b n dk wr.drew) := Lib.hid SD.out.drew
            clear SD
            generalize wr.drew = we at SE ⊢
            go_wp2
            go_ret
            have e := Go.Proofs.partEq_break (ltP F) a i j dk HU.out HJ.out (by omega)
            rw [EQ.out, ← AE.out, e]
            exact ⟨rfl, SE.out⟩
          have gd : decide ((p : Int) ≤ (q : Int)) = true := decide_eq_true (by omega)
          have gd2 : (p : Int) ≤ (q : Int) := by omega
          cases hlv2 : ltP F dk[a]! dk[q]! with
          | true =>
            have HG : Hid (Go.Sort.scanDown (fun x => ltP F dk[a]! x) dk p (q - 1) = Go.Sort.scanDown (fun x => ltP F dk[a]! x) dk p j) := Lib.hid (by rw [← hsd.out, Go.Proofs.scanDown_go (fun x => ltP F dk[a]! x) dk p q hle2 (by omega) hlv2])
            have pi39 : (0 : Int) ≤ (a : Int) := by omega
            have bi39 : (a : Int) < (n : Int) := by omega
            have pj39 : (0 : Int) ≤ (q : Int) := by omega
            have bj39 : (q : Int) < (n : Int) := by omega
            obtain ⟨x39, hx39⟩ : ∃ x, x = dk[a]! := ⟨_, rfl⟩
            obtain ⟨y39, hy39⟩ : ∃ x, x = dk[q]! := ⟨_, rfl⟩
            have la39 := SD.out.cl (a) (by omega)
            have lb39 := SD.out.cl (q) (by omega)
            rw [← hx39] at la39
            rw [← hy39] at lb39
            have hc39 := Lib.hid (fun q os => HC.out x39 y39 (by rw [hx39]; exact SD.out.l _) (by rw [hy39]; exact SD.out.l _) (Go.Sort.grow (wr.drewN q) os))
            have hd39 : decide (cmpS F x39 y39 < 0) = true := by rw [hx39, hy39]; exact hlv2
            have hv39 : cmpS F x39 y39 < 0 := of_decide_eq_true hd39
            clear hx39 hy39
            go_wp2_with fail
            go_quiet_grown (first | (go_at_call 84; refine Go.Calls.grown_of (hc39.out _ _)))
            have SE : Hid (Srt w b n dk (Go.Sort.grow (wr.drewN nq) osq)) := Lib.hid (SD.out.grown nq osq)
            clear la39 lb39 hc39 SD
            generalize Go.Sort.grow (wr.drewN nq) osq = we at SE ⊢
            clear nq osq pi39 bi39 pj39 bj39 hd39 hv39
            go_wp2_with fail
            go_roundw
            case rel => exact ⟨q - 1, by go_num, by omega, by omega, SE.out, HG⟩
            case measure => simp [intOf]; omega
          | false =>
            have HJ : Hid (q = Go.Sort.scanDown (fun x => ltP F dk[a]! x) dk p j) := Lib.hid (by rw [← hsd.out, Go.Proofs.scanDown_end (fun x => ltP F dk[a]! x) dk p q (Or.inr hlv2)])
            have hlt := Go.Proofs.scans_lt (ltP F) a i j dk (by omega) HU.out HJ.out hle2
            have gt : decide ((q : Int) < (p : Int)) = false := decide_eq_false (by omega)
            have gn : decide (q < p) = false := decide_eq_false (by omega)
            have gm : ¬ (q : Int) < (p : Int) := by omega
            have HG2 : Hid (Go.Sort.partEqLoop (ltP F) a (p + 1) (q - 1) (Go.Sort.swp dk p q) = Go.Sort.partEqLoop (ltP F) a (a + 1) (z - 1) (Go.Sort.swp d a pv)) := Lib.hid (by rw [← AE.out, Go.Proofs.partEq_go (ltP F) a i j dk HU.out HJ.out (by omega)])
            have pi40 : (0 : Int) ≤ (a : Int) := by omega
            have bi40 : (a : Int) < (n : Int) := by omega
            have pj40 : (0 : Int) ≤ (q : Int) := by omega
            have bj40 : (q : Int) < (n : Int) := by omega
            obtain ⟨x40, hx40⟩ : ∃ x, x = dk[a]! := ⟨_, rfl⟩
            obtain ⟨y40, hy40⟩ : ∃ x, x = dk[q]! := ⟨_, rfl⟩
            have la40 := SD.out.cl (a) (by omega)
            have lb40 := SD.out.cl (q) (by omega)
            rw [← hx40] at la40
            rw [← hy40] at lb40
            have hc40 := Lib.hid (fun q os => HC.out x40 y40 (by rw [hx40]; exact SD.out.l _) (by rw [hy40]; exact SD.out.l _) (Go.Sort.grow (wr.drewN q) os))
            have hd40 : decide (cmpS F x40 y40 < 0) = false := by rw [hx40, hy40]; exact hlv2
            have hv40 : ¬ cmpS F x40 y40 < 0 := of_decide_eq_false hd40
            clear hx40 hy40
            go_wp2_with fail
            go_quiet_grown (first | (go_at_call 84; refine Go.Calls.grown_of (hc40.out _ _)))
            have SE : Hid (Srt w b n dk (Go.Sort.grow (wr.drewN nq) osq)) := Lib.hid (SD.out.grown nq osq)
            clear la40 lb40 hc40 SD
            generalize Go.Sort.grow (wr.drewN nq) osq = we at SE ⊢
            clear nq osq pi40 bi40 pj40 bj40 hd40 hv40
            clear hlv2
            go_wp2_with fail
            have pi41 : (0 : Int) ≤ (p : Int) := by omega
            have bi41 : (p : Int) < (n : Int) := by omega
            have pj41 : (0 : Int) ≤ (q : Int) := by omega
            have bj41 : (q : Int) < (n : Int) := by omega
            obtain ⟨x41, hx41⟩ : ∃ x, x = dk[p]! := ⟨_, rfl⟩
            obtain ⟨y41, hy41⟩ : ∃ x, x = dk[q]! := ⟨_, rfl⟩
            have SF : Hid (Srt w b n (Go.Sort.swp dk (p) (q)) ((we.setCell ⟨b, p, none⟩ (.int .i64 (y41 : Int))).setCell ⟨b, q, none⟩ (.int .i64 (x41 : Int))).drew) := Lib.hid (by rw [hx41, hy41]; exact SE.out.swap (i := p) (j := q) (by omega) (by omega))
            obtain ⟨ca41, fa41⟩ := SE.out.r.c (p) (by omega)
            obtain ⟨cb41, fb41⟩ := SE.out.r.c (q) (by omega)
            obtain ⟨u41, cc41⟩ := SE.out.c2 (p) (q) (by omega) (by omega) (.int .i64 (y41 : Int))
            rw [← hx41] at ca41
            rw [← hy41] at cb41
            clear SE hx41 hy41
            go_wp2_with fail
            go_big_region_o
            clear ca41 cb41 cc41 fa41 fb41
            generalize ((we.setCell ⟨b, p, none⟩ (.int .i64 (y41 : Int))).setCell ⟨b, q, none⟩ (.int .i64 (x41 : Int))).drew = wf at SF ⊢
            clear pi41 bi41 pj41 bj41
            go_wp2_with fail
            go_roundw
            case rel => exact ⟨p + 1, q - 1, Go.Sort.swp dk p q, by go_num, by go_num, by omega, by omega, by omega, SF.out, HG2⟩
            case measure => simp [intOf]; omega
end Go.Proofs.YtmmokiaipfalmaaGreat
