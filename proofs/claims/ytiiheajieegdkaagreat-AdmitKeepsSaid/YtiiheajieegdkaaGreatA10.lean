/- A placement that may be, made out of numbers: the contract of fitted. Condition: the cluster and the numbers lie in memory. A step that fits a placement, made out of numbers: the contract of layer 10's next. Conditions: the cluster and the numbers lie in memory; there are a pod and a node. Clauses are broken by little: their sum is nothing just if none is broken. In numbers only. Steps that fit a placement, done one behind the other: by none of them a clause is broken by more than at first. Numbers alone. Conditions: the placement may be; there are a pod and a node. A cluster of which the first 12 nodes, 30 pods, 12 owners are looked at. Condition: it lies in memory. Numbers fitted to a cluster, as numbers in memory. Condition: the arguments lie in memory. By how much a clause is broken in a list: find. A contract. Condition: the list lies in memory. Whatever steps are done that may be done: no clause is broken by more than at first, and from a safe placement each one is safe: the law's walk. Condition: the arguments lie in memory. -/
import Derived.Test.YtiiheajieegdkaaGreatA09

namespace Go.Proofs.YtiiheajieegdkaaGreat
open Go.RowKit

set_option maxRecDepth 100000 in
set_option maxHeartbeats 4000000 in
theorem fitted10_any (A B C P : Option Addr) (ca cb cc cp : Nat) (ns : List NodeD) (ps : List PodD) (os : List OwnD) (l : List Int) (w : World) (h : SnapAt w A B C ca cb cc ns ps os) (hp : IntsAt w P cp l) :
    Calls Tryz.prog 22 #[snapV A B C ca cb cc ns ps os, .slice P l.length cp] w fun e w' => ∃ v, e = .returned v ∧ w'.ownsRow w.heap.size 3 1 v ps.length (intsC (fitU ns l ps.length)) ∧ Below w.heap.size w w' := by
  have H := Lib.hid h
  have HP := Lib.hid hp
  have hlp := h.lp
  have hln := h.ln
  have hll : l.length ≤ 9223372036854775807 := Nat.le_trans hp.le hp.most
  have B0 : Hid (Below w.heap.size w (w.alloc (.cells (snapC A B C ca cb cc ns ps os) 26))) := Lib.hid (below1 w _)
  have S0 : Hid (Blk (w.alloc (.cells (snapC A B C ca cb cc ns ps os) 26)) w.heap.size (snapC A B C ca cb cc ns ps os) 26) := Lib.hid (Blk.new w _ _)
  obtain ⟨i0, hi0, hz0, hz1, hz2⟩ := info_parts Qu.int_info
  clear h hp
  go_enter Tryz.func22, Tryz.ntmps22
  go_wp2_with fail
  go_loopw [6, 5] (fun i v wr => ∃ k : Nat, k ≤ ps.length ∧ i = .int .i64 k ∧ wr.ownsRow w.heap.size 3 1 v k (intsC (fitU ns l k)) ∧ Below w.heap.size w wr ∧ Blk wr w.heap.size (snapC A B C ca cb cc ns ps os) 26) (fun i _ _ => ps.length - (intOf i).toNat)
  case atStart => exact ⟨0, by omega, rfl, World.ownsRow_nil _ _ _ _, B0.out, S0.out⟩
  case round =>
    clear B0 S0
    obtain ⟨k, hk, rfl, ho, hb, hs⟩ := hrel
    have HO := Lib.hid ho
    have HB := Lib.hid hb
    have HS := Lib.hid hs
    clear ho hb hs
    have s0 : wr.cell? ⟨w.heap.size, 0, none⟩ = some (.slice A ns.length ca) := Blk.cell HS.out 0
    have s1 : wr.cell? ⟨w.heap.size, 1, none⟩ = some (.slice B ps.length cb) := Blk.cell HS.out 1
    by_cases hlt : k < ps.length
    · have E : Hid (fitU ns l (k + 1) = fitU ns l k ++ [fit1 ns l k]) := Lib.hid rfl
      have E1 : Hid (fit1 ns l k = if tpB ns (fitN ns l k) then fitN ns l k else -1) := Lib.hid rfl
      have EN := Lib.hid (fitN_in ns l k)
      have k0 : (0 : Int) ≤ (k : Int) := by omega
      have k1 : (k : Int) < (ps.length : Int) := by omega
      have hkm : Hid (k + 1 ≤ maxLen) := Lib.hid (by unfold maxLen; omega)
      have hkc : Hid ((k + 1) * 8 ≤ 140737488355328) := Lib.hid (by omega)
      go_upto_if 18 with fail
      go_cut [7] (fun v wc => v = .int .i64 (fitN ns l k) ∧ (wc = wr ∨ wc = wr.drew))
      case first =>
        by_cases hkl : k < l.length
        · obtain ⟨x, hx⟩ : ∃ x, l[k]? = some x := ⟨l[k], List.getElem?_eq_getElem hkl⟩
          have FX : Hid (fitN ns l k = x % ((ns.length : Int) + 1) - 1) := Lib.hid (by unfold fitN; rw [hx])
          obtain ⟨b, o, hA, hbl, c0⟩ := atI (HP.out.below (HB.out.mono (Nat.le_refl _))).cells hx
          subst hA
          have k2 : (k : Int) < (l.length : Int) := by omega
          have hw1 : Hid (IntKind.i64.wrap ((ns.length : Int) + 1) = (ns.length : Int) + 1) := Lib.hid (IntWalk.i64_in _ (by omega))
          have BR := Lib.hid (fun W => Qu.bring_any x ((ns.length : Int) + 1) W (by omega) (by omega))
          have S0 : wr.drew.cell? ⟨w.heap.size, 0, none⟩ = some (.slice (A) ns.length ca) := s0
          have C0 : wr.drew.cell? ⟨b, o + k, none⟩ = some (.int .i64 x) := c0
          have em0 := Int.emod_nonneg x (show (ns.length : Int) + 1 ≠ 0 by omega)
          have em1 := Int.emod_lt_of_pos x (show (0 : Int) < (ns.length : Int) + 1 by omega)
          have hw2 : Hid (IntKind.i64.wrap (x % ((ns.length : Int) + 1) - 1) = x % ((ns.length : Int) + 1) - 1) := Lib.hid (IntWalk.i64_in _ (by omega))
          go_upto_region 7 with fail
          go_region_held3 (fun w' => w'.cell? ⟨w.heap.size, 0, none⟩ = some (.slice A ns.length ca) ∧ w'.cell? ⟨b, o + k, none⟩ = some (.int .i64 x))
            (first | (with_reducible exact ⟨S0, C0⟩) | (with_reducible exact ⟨s0, c0⟩) | go_keep)
            ((go_at_call 53; (rw [hw1.out]); (with_reducible refine (BR.out _).mono ?_); rintro e w3 ⟨rfl, rfl⟩))
          all_goals
            go_wp2_with fail
            go_meet
            exact ⟨by rw [FX.out, hw2.out], .inr rfl⟩
        · have FX : Hid (fitN ns l k = -1) := Lib.hid (by unfold fitN; rw [List.getElem?_eq_none (by omega)])
          go_wp2_with fail
          go_meet
          exact ⟨by rw [FX.out], .inl rfl⟩
      case rest =>
        obtain ⟨rfl, hwc⟩ := hcut
        have HO1 : Hid (wc.ownsRow w.heap.size 3 1 u5 k (intsC (fitU ns l k))) := by
          rcases hwc with rfl | rfl
          · exact HO
          · exact Lib.hid (show World.ownsRow wr.drew _ _ _ _ _ _ from HO.out)
        have HB1 : Hid (Below w.heap.size w wc) := by
          rcases hwc with rfl | rfl
          · exact HB
          · exact Lib.hid HB.out.drew
        have HS1 : Hid (Blk wc w.heap.size (snapC A B C ca cb cc ns ps os) 26) := by
          rcases hwc with rfl | rfl
          · exact HS
          · exact Lib.hid (show Blk wr.drew _ _ _ from HS.out)
        have z0 : wc.cell? ⟨w.heap.size, 0, none⟩ = some (.slice A ns.length ca) := Blk.cell HS1.out 0
        clear HO HB HS s0 s1 hwc
        obtain ⟨N, hN⟩ : ∃ N, fitN ns l k = N := ⟨_, rfl⟩
        rw [hN] at E1 EN
        rw [hN]
        clear hN
        by_cases hn : 0 ≤ N ∧ N < (ns.length : Int)
        · obtain ⟨hn0, hn1⟩ := hn
          obtain ⟨n, rfl⟩ : ∃ n : Nat, N = (n : Int) := ⟨N.toNat, by omega⟩
          have hnl : n < ns.length := by omega
          obtain ⟨x, hx⟩ : ∃ x, ns[n]? = some x := ⟨ns[n], List.getElem?_eq_getElem hnl⟩
          obtain ⟨b, o, hA, hbl, c0, c1, c2, c3, c4, c5, c6, c7, c8, c9⟩ := atN (H.out.below HB1.out).n.cells hx
          subst hA
          have T : Hid (tpB ns (n : Int) = !x.lost) := Lib.hid (by unfold tpB; rw [Int.toNat_natCast, hx]; simp)
          clear hx c0 c1 c2 c3 c4 c5 c6 c7 c8
          obtain ⟨r, hr⟩ : ∃ r, x.lost = r := ⟨_, rfl⟩
          rw [hr] at c9 T
          clear hr
          cases r with
          | false =>
            have F : Hid (fit1 ns l k = (n : Int)) := Lib.hid (by rw [E1.out, T.out]; rfl)
            go_wp2_with (at_builtin; refine wpList_append_own _ rfl _ _ 44 rfl w.heap.size 3 i0 (.int .i64 0) 1 8 Tryz.underlying44 hi0 hz0 hz1 hz2 rfl (by decide) _ _ _ rfl (show World.ownsRow _ _ _ _ _ _ _ from HO1.out.alloc _) ⟨wc.heap.size, 0, none⟩ 1 1 [.int .i64 (n : Int)] rfl rfl ?c1 ?c2 ?c3 ?c4 ?c5 ?_)
            case c1 =>
              intro j u hj
              match j, hj with
              | 0, hj => simp at hj; subst hj; simp [Addr.add]
            case c2 => first | rfl | (intro u hu; simp at hu; subst hu; rfl)
            case c3 => have := hkm.out; omega
            case c4 => have := hkc.out; omega
            case c5 => have := HB1.out.size; simp; omega
            intro v' w2 hown' hgrow' _
            have hwz : w.heap.size < wc.heap.size := Blk.lt HS1.out
            have HO2 := Lib.hid hown'
            have HW2 := Lib.hid ((HB1.out.alloc HB1.out.size (.cells #[.int .i64 (n : Int)] 3)).grown hgrow' (by have := HB1.out.size; simp; omega) (fun j hj => own_gem HO1.out hj))
            have HS2 : Hid (Blk w2 w.heap.size (snapC (some ⟨b, o, none⟩) B C ca cb cc ns ps os) 26) := Lib.hid (Blk.kept (Blk.alloc HS1.out (.cells #[.int .i64 (n : Int)] 3)) hgrow' (fun e => by
              have he := e.symm
              rcases HO1.out.2 with ⟨hv, _⟩ | ⟨g, cap, cur, hv, hbg, hg, _⟩
              · rw [hv] at he; cases he
              · rw [hv] at he
                simp only [Value.ownBlock, Option.some.injEq] at he
                subst he
                have h1 := HS1.out
                unfold Blk at h1
                rw [hg] at h1
                cases h1))
            clear hown' hgrow'
            go_wp2
            go_roundw
            case rel =>
              refine ⟨k + 1, by omega, by go_num, ?_, HW2.out, HS2.out⟩
              rw [E.out, F.out]
              simpa [intsC] using HO2.out
            case measure => simp [intOf]; omega
          | true =>
            have F : Hid (fit1 ns l k = -1) := Lib.hid (by rw [E1.out, T.out]; rfl)
            go_wp2_with (at_builtin; refine wpList_append_own _ rfl _ _ 44 rfl w.heap.size 3 i0 (.int .i64 0) 1 8 Tryz.underlying44 hi0 hz0 hz1 hz2 rfl (by decide) _ _ _ rfl (show World.ownsRow _ _ _ _ _ _ _ from HO1.out.alloc _) ⟨wc.heap.size, 0, none⟩ 1 1 [.int .i64 (-1)] rfl rfl ?c1 ?c2 ?c3 ?c4 ?c5 ?_)
            case c1 =>
              intro j u hj
              match j, hj with
              | 0, hj => simp at hj; subst hj; simp [Addr.add]
            case c2 => first | rfl | (intro u hu; simp at hu; subst hu; rfl)
            case c3 => have := hkm.out; omega
            case c4 => have := hkc.out; omega
            case c5 => have := HB1.out.size; simp; omega
            intro v' w2 hown' hgrow' _
            have hwz : w.heap.size < wc.heap.size := Blk.lt HS1.out
            have HO2 := Lib.hid hown'
            have HW2 := Lib.hid ((HB1.out.alloc HB1.out.size (.cells #[.int .i64 (-1)] 3)).grown hgrow' (by have := HB1.out.size; simp; omega) (fun j hj => own_gem HO1.out hj))
            have HS2 : Hid (Blk w2 w.heap.size (snapC (some ⟨b, o, none⟩) B C ca cb cc ns ps os) 26) := Lib.hid (Blk.kept (Blk.alloc HS1.out (.cells #[.int .i64 (-1)] 3)) hgrow' (fun e => by
              have he := e.symm
              rcases HO1.out.2 with ⟨hv, _⟩ | ⟨g, cap, cur, hv, hbg, hg, _⟩
              · rw [hv] at he; cases he
              · rw [hv] at he
                simp only [Value.ownBlock, Option.some.injEq] at he
                subst he
                have h1 := HS1.out
                unfold Blk at h1
                rw [hg] at h1
                cases h1))
            clear hown' hgrow'
            go_wp2
            go_roundw
            case rel =>
              refine ⟨k + 1, by omega, by go_num, ?_, HW2.out, HS2.out⟩
              rw [E.out, F.out]
              simpa [intsC] using HO2.out
            case measure => simp [intOf]; omega
        · obtain rfl : N = -1 := by have := EN.out; omega
          have F : Hid (fit1 ns l k = -1) := Lib.hid (by rw [E1.out, ite_self])
          clear hn
          go_wp2_with (at_builtin; refine wpList_append_own _ rfl _ _ 44 rfl w.heap.size 3 i0 (.int .i64 0) 1 8 Tryz.underlying44 hi0 hz0 hz1 hz2 rfl (by decide) _ _ _ rfl (show World.ownsRow _ _ _ _ _ _ _ from HO1.out.alloc _) ⟨wc.heap.size, 0, none⟩ 1 1 [.int .i64 (-1)] rfl rfl ?c1 ?c2 ?c3 ?c4 ?c5 ?_)
          try case c1 =>
            intro j u hj
            match j, hj with
            | 0, hj => simp at hj; subst hj; simp [Addr.add]
          case c2 => first | rfl | (intro u hu; simp at hu; subst hu; rfl)
          case c3 => have := hkm.out; omega
          case c4 => have := hkc.out; omega
          case c5 => have := HB1.out.size; simp; omega
          intro v' w2 hown' hgrow' _
          have hwz : w.heap.size < wc.heap.size := Blk.lt HS1.out
          have HO2 := Lib.hid hown'
          have HW2 := Lib.hid ((HB1.out.alloc HB1.out.size (.cells #[.int .i64 (-1)] 3)).grown hgrow' (by have := HB1.out.size; simp; omega) (fun j hj => own_gem HO1.out hj))
          have HS2 : Hid (Blk w2 w.heap.size (snapC A B C ca cb cc ns ps os) 26) := Lib.hid (Blk.kept (Blk.alloc HS1.out (.cells #[.int .i64 (-1)] 3)) hgrow' (fun e => by
            have he := e.symm
            rcases HO1.out.2 with ⟨hv, _⟩ | ⟨g, cap, cur, hv, hbg, hg, _⟩
            · rw [hv] at he; cases he
            · rw [hv] at he
              simp only [Value.ownBlock, Option.some.injEq] at he
              subst he
              have h1 := HS1.out
              unfold Blk at h1
              rw [hg] at h1
              cases h1))
          clear hown' hgrow'
          go_wp2
          go_roundw
          case rel =>
            refine ⟨k + 1, by omega, by go_num, ?_, HW2.out, HS2.out⟩
            rw [E.out, F.out]
            simpa [intsC] using HO2.out
          case measure => simp [intOf]; omega
    · obtain rfl : k = ps.length := by omega
      go_wp2
      go_ret
      exact ⟨_, rfl, HO.out, HB.out⟩
end Go.Proofs.YtiiheajieegdkaaGreat

namespace Go.Proofs.YtiiheajieegdkaaGreat
open Go.RowKit Go.Maps

/-- The step: the pod that the number names is taken off where it lies, else it is bound. -/
def nextS (ns : List NodeD) (p : List Int) (b c : Int) : Int × Int × Int :=
  if 0 ≤ (p[(b % (p.length : Int)).toNat]?).getD (-1) then (1, b % (p.length : Int), 0) else (2, b % (p.length : Int), c % (ns.length : Int))

set_option maxRecDepth 100000 in
set_option maxHeartbeats 4000000 in
theorem next10_any (A B C P : Option Addr) (ca cb cc cp : Nat) (ns : List NodeD) (ps : List PodD) (os : List OwnD) (p : List Int) (a b c : Int) (w : World) (h : SnapAt w A B C ca cb cc ns ps os) (hp : IntsAt w P cp p) (hp0 : 0 < p.length) (hpl : p.length ≤ 1000) (hn0 : 0 < ns.length) :
    Calls Tryz.prog 25 #[snapV A B C ca cb cc ns ps os, .slice P p.length cp, stepV a b c] w fun e w' => e = .returned (stepV (nextS ns p b c).1 (nextS ns p b c).2.1 (nextS ns p b c).2.2) ∧ Below w.heap.size w w' := by
  have hln := h.ln
  have e0 := Int.emod_nonneg b (show (p.length : Int) ≠ 0 by omega)
  have e1 := Int.emod_lt_of_pos b (show (0 : Int) < (p.length : Int) by omega)
  obtain ⟨k, hk⟩ : ∃ k : Nat, b % (p.length : Int) = (k : Int) := ⟨(b % (p.length : Int)).toNat, by omega⟩
  have hkl : k < p.length := by omega
  obtain ⟨v, hv⟩ : ∃ v, p[k]? = some v := ⟨p[k], List.getElem?_eq_getElem hkl⟩
  have HR : nextS ns p b c = if 0 ≤ v then (1, (k : Int), 0) else (2, (k : Int), c % (ns.length : Int)) := by
    unfold nextS
    rw [hk, Int.toNat_natCast, hv]
    rfl
  have HR := Lib.hid HR
  generalize nextS ns p b c = R at HR ⊢
  have B0 : Hid (Below w.heap.size w (((w.alloc (.cells (snapC A B C ca cb cc ns ps os) 26)).alloc (.cells #[.int .i64 a, .int .i64 b, .int .i64 c] 63)).alloc (.cells #[.int .i64 0, .int .i64 0, .int .i64 0] 63))) := Lib.hid ((Qu.below2 w _ _).alloc (by simp; omega) _)
  have S0 : Hid (Blk (((w.alloc (.cells (snapC A B C ca cb cc ns ps os) 26)).alloc (.cells #[.int .i64 a, .int .i64 b, .int .i64 c] 63)).alloc (.cells #[.int .i64 0, .int .i64 0, .int .i64 0] 63)) w.heap.size (snapC A B C ca cb cc ns ps os) 26) := Lib.hid (Blk.alloc (Blk.alloc (Blk.new w _ _) _) _)
  have X0 : Hid (Blk (((w.alloc (.cells (snapC A B C ca cb cc ns ps os) 26)).alloc (.cells #[.int .i64 a, .int .i64 b, .int .i64 c] 63)).alloc (.cells #[.int .i64 0, .int .i64 0, .int .i64 0] 63)) (w.heap.size + 1) #[.int .i64 a, .int .i64 b, .int .i64 c] 63) := Lib.hid (Blk.alloc (blk2 w _ _ _) _)
  have R0 : Hid (Blk (((w.alloc (.cells (snapC A B C ca cb cc ns ps os) 26)).alloc (.cells #[.int .i64 a, .int .i64 b, .int .i64 c] 63)).alloc (.cells #[.int .i64 0, .int .i64 0, .int .i64 0] 63)) (w.heap.size + 1 + 1) #[.int .i64 0, .int .i64 0, .int .i64 0] 63) := Lib.hid (by
    have := Blk.new ((w.alloc (.cells (snapC A B C ca cb cc ns ps os) 26)).alloc (.cells #[.int .i64 a, .int .i64 b, .int .i64 c] 63)) #[.int .i64 0, .int .i64 0, .int .i64 0] 63
    rw [World.size_alloc, World.size_alloc] at this
    exact this)
  have KB1 := Lib.hid (fun W => Qu.bring_any b (p.length : Int) W (by omega) (by omega))
  have KB2 := Lib.hid (fun W => Qu.bring_any c (ns.length : Int) W (by omega) (by omega))
  generalize c % (ns.length : Int) = n at KB2 HR
  have k0 : (0 : Int) ≤ (k : Int) := by omega
  have k1 : (k : Int) < (p.length : Int) := by omega
  obtain ⟨pb, po, hPa, hpb, c0⟩ := atI (hp.below B0.out).cells hv
  subst hPa
  clear h hp e0 e1
  go_enter Tryz.func25, Tryz.ntmps25
  go_upto_region 1 with fail
  try change Code.wp _ _ _ _ (((w.alloc (.cells (snapC A B C ca cb cc ns ps os) 26)).alloc (.cells #[.int .i64 a, .int .i64 b, .int .i64 c] 63)).alloc (.cells #[.int .i64 0, .int .i64 0, .int .i64 0] 63))
  generalize (((w.alloc (.cells (snapC A B C ca cb cc ns ps os) 26)).alloc (.cells #[.int .i64 a, .int .i64 b, .int .i64 c] 63)).alloc (.cells #[.int .i64 0, .int .i64 0, .int .i64 0] 63)) = W at B0 S0 X0 R0 c0 hpb ⊢
  have z0 : W.cell? ⟨w.heap.size, 0, none⟩ = some (.slice A ns.length ca) := Blk.cell S0.out 0
  have x1 : W.cell? ⟨w.heap.size + 1, 1, none⟩ = some (.int .i64 b) := Blk.cell X0.out 1
  have x2 : W.cell? ⟨w.heap.size + 1, 2, none⟩ = some (.int .i64 c) := Blk.cell X0.out 2
  go_wp2_with fail
  refine (KB1.out _).mono ?_
  rintro e w3 ⟨rfl, rfl⟩
  rw [hk]
  by_cases hv0 : 0 ≤ v
  · have hv1 : decide (0 ≤ v) = true := decide_eq_true hv0
    obtain rfl : R = (1, (k : Int), 0) := by rw [HR.out, if_pos hv0]
    clear HR
    go_wp2_with fail
    refine (off_any10 _ _).mono ?_
    rintro e w4 ⟨rfl, hb⟩
    have R4 := Lib.hid (R0.out.below hb R0.out.lt)
    have B4 := Lib.hid (B0.out.trans (hb.mono B0.out.size))
    have R5 := Lib.hid (((R4.out.set 0 (.int .i64 1)).set 1 (.int .i64 k)).set 2 (.int .i64 0))
    have B5 := Lib.hid (((B4.out.setCell (p := ⟨w.heap.size + 1 + 1, 0, none⟩) (show w.heap.size ≤ w.heap.size + 1 + 1 by omega) (.int .i64 1)).setCell (p := ⟨w.heap.size + 1 + 1, 1, none⟩) (show w.heap.size ≤ w.heap.size + 1 + 1 by omega) (.int .i64 k)).setCell (p := ⟨w.heap.size + 1 + 1, 2, none⟩) (show w.heap.size ≤ w.heap.size + 1 + 1 by omega) (.int .i64 0))
    have q0 : w4.cell? ⟨w.heap.size + 1 + 1, 0, none⟩ = some (.int .i64 0) := Blk.cell R4.out 0
    have q1 : w4.cell? ⟨w.heap.size + 1 + 1, 1, none⟩ = some (.int .i64 0) := Blk.cell R4.out 1
    have q2 : w4.cell? ⟨w.heap.size + 1 + 1, 2, none⟩ = some (.int .i64 0) := Blk.cell R4.out 2
    have f0 := Blk.free R4.out 0
    have f1 := Blk.free R4.out 1
    have f2 := Blk.free R4.out 2
    clear hb R0 S0 X0 z0 x1 x2 c0
    go_wp2_with fail
    refine bodyPost_row1 Tryz.results25 (w.heap.size + 1 + 1) _ _ _ _ (by rfl) (by rfl) (show Blk _ (w.heap.size + 1 + 1) _ _ from R5.out) Tryz.underlying63 rfl (by kernel_rfl) ?_
    exact ⟨rfl, B5.out⟩
  · have hv1 : decide (0 ≤ v) = false := decide_eq_false hv0
    obtain rfl : R = (2, (k : Int), n) := by rw [HR.out, if_neg hv0]
    clear HR
    go_wp2_with fail
    refine (KB2.out _).mono ?_
    rintro e w3 ⟨rfl, rfl⟩
    go_wp2_with fail
    refine (on_any10 _ _ _).mono ?_
    rintro e w4 ⟨rfl, hb⟩
    have R4 := Lib.hid (R0.out.below hb R0.out.lt)
    have B4 := Lib.hid (B0.out.trans (hb.mono B0.out.size))
    have R5 := Lib.hid (((R4.out.set 0 (.int .i64 2)).set 1 (.int .i64 k)).set 2 (.int .i64 n))
    have B5 := Lib.hid (((B4.out.setCell (p := ⟨w.heap.size + 1 + 1, 0, none⟩) (show w.heap.size ≤ w.heap.size + 1 + 1 by omega) (.int .i64 2)).setCell (p := ⟨w.heap.size + 1 + 1, 1, none⟩) (show w.heap.size ≤ w.heap.size + 1 + 1 by omega) (.int .i64 k)).setCell (p := ⟨w.heap.size + 1 + 1, 2, none⟩) (show w.heap.size ≤ w.heap.size + 1 + 1 by omega) (.int .i64 n))
    have q0 : w4.cell? ⟨w.heap.size + 1 + 1, 0, none⟩ = some (.int .i64 0) := Blk.cell R4.out 0
    have q1 : w4.cell? ⟨w.heap.size + 1 + 1, 1, none⟩ = some (.int .i64 0) := Blk.cell R4.out 1
    have q2 : w4.cell? ⟨w.heap.size + 1 + 1, 2, none⟩ = some (.int .i64 0) := Blk.cell R4.out 2
    have f0 := Blk.free R4.out 0
    have f1 := Blk.free R4.out 1
    have f2 := Blk.free R4.out 2
    clear hb R0 S0 X0 z0 x1 x2 c0
    go_wp2_with fail
    refine bodyPost_row1 Tryz.results25 (w.heap.size + 1 + 1) _ _ _ _ (by rfl) (by rfl) (show Blk _ (w.heap.size + 1 + 1) _ _ from R5.out) Tryz.underlying63 rfl (by kernel_rfl) ?_
    exact ⟨rfl, B5.out⟩
end Go.Proofs.YtiiheajieegdkaaGreat

namespace Go.Proofs.YtiiheajieegdkaaGreat
open Go.RowKit Go.Maps

theorem was_zero {L : List ClT} (h : L.filter brokC = []) (h0 : ∀ c ∈ L, 0 ≤ c.2.2.2) (c : ClT) : was9 L c = 0 := by
  unfold was9 findC
  cases hq : L.find? (isC c.1 c.2.1 c.2.2.1) with
  | none => rfl
  | some d =>
    have hd := List.mem_of_find?_eq_some hq
    have h1 := h0 d hd
    have h2 : ¬ brokC d = true := fun hb => by
      have : d ∈ L.filter brokC := List.mem_filter.2 ⟨hd, hb⟩
      rw [h] at this
      cases this
    have h3 : ¬ 0 < d.2.2.2 := fun hb => h2 (decide_eq_true hb)
    show d.2.2.2 = 0
    omega
/-- Nothing is worse than in a safe one: it is safe. -/
theorem keeps9 {ns : List NodeD} {ps : List PodD} {os : List OwnD} {p q : List Int} (hE : placeE ns ps os q = 0) (ha : safeB ns ps os p = true) (hw : worseU ns ps os p q = []) : safeB ns ps os q = true := by
  unfold safeB at ha ⊢
  rw [Bool.and_eq_true] at ha
  have hp : (all8 ns ps os p).filter brokC = [] := List.isEmpty_iff.1 ha.2
  rw [decide_eq_true hE, Bool.true_and, List.isEmpty_iff, List.filter_eq_nil_iff]
  intro c hc hb
  have hb := of_decide_eq_true hb
  unfold worseU at hw
  rw [List.filter_eq_nil_iff] at hw
  refine hw c hc (decide_eq_true ?_)
  rw [was_zero hp (fun d hd => (all8_good ns ps os p d hd).1)]
  exact hb
end Go.Proofs.YtiiheajieegdkaaGreat

namespace Go.Proofs.YtiiheajieegdkaaGreat
open Go.RowKit Go.Maps

theorem was_trans {L0 L1 : List ClT} (h0 : ∀ c ∈ L0, 0 ≤ c.2.2.2) (h1 : ∀ c ∈ L1, c.2.2.2 ≤ was9 L0 c) (c : ClT) : was9 L1 c ≤ was9 L0 c := by
  unfold was9 findC
  cases hq : L1.find? (isC c.1 c.2.1 c.2.2.1) with
  | none =>
    cases hr : L0.find? (isC c.1 c.2.1 c.2.2.1) with
    | none => exact Int.le_refl _
    | some d => exact h0 d (List.mem_of_find?_eq_some hr)
  | some d =>
    have hd := h1 d (List.mem_of_find?_eq_some hq)
    have hi : isC c.1 c.2.1 c.2.2.1 d = true := List.find?_some hq
    have hi := of_decide_eq_true hi
    unfold was9 findC at hd
    rw [hi.1, hi.2.1, hi.2.2] at hd
    exact hd
theorem worse_none {L0 L1 : List ClT} (h : L1.filter (worC L0) = []) : ∀ c ∈ L1, c.2.2.2 ≤ was9 L0 c := by
  intro c hc
  rw [List.filter_eq_nil_iff] at h
  have h1 := h c hc
  unfold worC at h1
  have h2 : ¬ was9 L0 c < c.2.2.2 := fun h3 => h1 (decide_eq_true h3)
  omega
/-- No clause of q is broken by more than in L0. -/
def Keeps (L0 L : List ClT) : Prop := ∀ c ∈ L, c.2.2.2 ≤ was9 L0 c
theorem Keeps.self {ns : List NodeD} {ps : List PodD} {os : List OwnD} {p : List Int} : Keeps (all8 ns ps os p) (all8 ns ps os p) := by
  intro c hc
  unfold was9
  rw [find_rise (all8_rise ns ps os p) hc]
  exact Int.le_refl _
theorem Keeps.on {L0 L1 L2 : List ClT} (h0 : ∀ c ∈ L0, 0 ≤ c.2.2.2) (h1 : Keeps L0 L1) (h2 : Keeps L1 L2) : Keeps L0 L2 := fun c hc => Int.le_trans (h2 c hc) (was_trans h0 h1 c)
/-- What is told of a step x that may not be done; what it makes if it may. -/
def KeepNo (ns : List NodeD) (x : Int × Int × Int) (q : List Int) (c : ClT) (f : Int) : Prop := q = [] ∧ (f = 100 ∨ (f = 110 ∧ lostB ns x.2.2.toNat = true)) ∧ (c.1 = 0 ∨ 0 < c.2.2.2)
def KeepYes (ns : List NodeD) (ps : List PodD) (os : List OwnD) (p : List Int) (x : Int × Int × Int) (q : List Int) (c : ClT) : Prop := placeE ns ps os q = 0 ∧ Keeps (all8 ns ps os p) (all8 ns ps os q) ∧ (safeB ns ps os p = true → safeB ns ps os q = true) ∧ (x.1 = 1 ∨ cordB ns x.2.2.toNat = false)
theorem place_none {ns : List NodeD} {ps : List PodD} {os : List OwnD} {p : List Int} (hE : placeE ns ps os p = 0) {i : Nat} {v : Int} (hv : p[i]? = some v) (h0 : v < 0) : v = -1 := by
  have h := (placeE_zero hE).2.2 v (List.mem_of_getElem? hv)
  unfold okB tpB at h
  simp at h
  omega
theorem keep_step {ns : List NodeD} {ps : List PodD} {os : List OwnD} {p : List Int} (b c : Int) (hE : placeE ns ps os p = 0) (hp0 : 0 < p.length) (hn0 : 0 < ns.length) :
    ∃ (i n : Nat) (kd : Int), i < p.length ∧ n < ns.length ∧ (kd = 1 ∨ kd = 2) ∧ nextS ns p b c = (kd, (i : Int), (n : Int)) ∧
      ((stepF ns ps os p (kd, (i : Int), (n : Int))).2.2 ≠ 0 ∧ KeepNo ns (kd, (i : Int), (n : Int)) (stepF ns ps os p (kd, (i : Int), (n : Int))).1 (stepF ns ps os p (kd, (i : Int), (n : Int))).2.1 (stepF ns ps os p (kd, (i : Int), (n : Int))).2.2 ∨
       (stepF ns ps os p (kd, (i : Int), (n : Int))).2.2 = 0 ∧ KeepYes ns ps os p (kd, (i : Int), (n : Int)) (stepF ns ps os p (kd, (i : Int), (n : Int))).1 (stepF ns ps os p (kd, (i : Int), (n : Int))).2.1) := by
  have e0 := Int.emod_nonneg b (show (p.length : Int) ≠ 0 by omega)
  have e1 := Int.emod_lt_of_pos b (show (0 : Int) < (p.length : Int) by omega)
  have f0 := Int.emod_nonneg c (show (ns.length : Int) ≠ 0 by omega)
  have f1 := Int.emod_lt_of_pos c (show (0 : Int) < (ns.length : Int) by omega)
  obtain ⟨i, hi⟩ : ∃ i : Nat, b % (p.length : Int) = (i : Int) := ⟨(b % (p.length : Int)).toNat, by omega⟩
  obtain ⟨n, hn⟩ : ∃ n : Nat, c % (ns.length : Int) = (n : Int) := ⟨(c % (ns.length : Int)).toNat, by omega⟩
  have hil : i < p.length := by omega
  have hnl : n < ns.length := by omega
  have hg : ∀ q : List Int, ∀ c ∈ all8 ns ps os q, 0 ≤ c.2.2.2 := fun q c hc => (all8_good ns ps os q c hc).1
  unfold nextS
  rw [hi, hn]
  split
  · rename_i h0
    refine ⟨i, 0, 1, hil, hn0, .inl rfl, rfl, ?_⟩
    have ha : applyF ns ps os p 1 (i : Int) ((0 : Nat) : Int) = (p.set i (-1), 0) := by
      unfold applyF
      rw [if_pos hE, if_pos rfl]
      unfold evictF
      rw [if_pos ⟨by omega, by omega⟩, if_pos (show ((0 : Nat) : Int) = 0 from rfl), Int.toNat_natCast]
      rw [if_neg]
      intro h
      rw [Int.toNat_natCast, h] at h0
      simp at h0
    have hq := (apply_ok (ns := ns) (ps := ps) (os := os) (p := p) (kd := 1) (pd := (i : Int)) (nd := ((0 : Nat) : Int)) (by rw [ha])).2.1
    rw [ha] at hq
    unfold stepF tryF
    dsimp only
    rw [ha]
    rw [if_neg (by simp), if_neg (by rintro ⟨h, _⟩; simp at h)]
    cases hw : worseU ns ps os p (p.set i (-1)) with
    | nil =>
      right
      exact ⟨rfl, hq, worse_none hw, fun hs => keeps9 hq hs hw, .inl rfl⟩
    | cons d t =>
      have hm : d ∈ worseU ns ps os p (p.set i (-1)) := by rw [hw]; exact List.mem_cons_self
      left
      exact ⟨by simp [Ag.e], rfl, .inl rfl, .inr (worse_by (hg _) (List.mem_filter.1 hm).2)⟩
  · refine ⟨i, n, 2, hil, hnl, .inr rfl, rfl, ?_⟩
    have ha : applyF ns ps os p 2 (i : Int) (n : Int) = bindF ns p (i : Int) (n : Int) := by
      unfold applyF
      rw [if_pos hE, if_neg (by decide), if_pos rfl]
    have hok := apply_ok (ns := ns) (ps := ps) (os := os) (p := p) (kd := 2) (pd := (i : Int)) (nd := (n : Int))
    rename_i h0
    unfold stepF tryF
    dsimp only
    rw [ha] at hok ⊢
    have hpi : p[i]? = some (-1) := by
      rw [Int.toNat_natCast] at h0
      obtain ⟨v, hv⟩ : ∃ v, p[i]? = some v := ⟨p[i], List.getElem?_eq_getElem hil⟩
      rw [hv] at h0 ⊢
      have h1 := place_none hE hv (by simpa using h0)
      rw [h1]
    have hb : bindF ns p (i : Int) (n : Int) = if lostB ns n then ([], 110) else (p.set i (n : Int), 0) := by
      unfold bindF
      rw [if_pos ⟨by omega, by omega⟩, if_pos ⟨by omega, by omega⟩, Int.toNat_natCast, if_pos hpi, Int.toNat_natCast]
    rw [hb] at hok ⊢
    by_cases hl : lostB ns n = true
    · rw [if_pos hl, if_pos (by decide)]
      left
      refine ⟨?_, rfl, .inr ⟨rfl, hl⟩, .inl rfl⟩
      show (110 : Int) ≠ 0
      decide
    · rw [if_neg hl] at hok ⊢
      have hq := (hok rfl).2.1
      rw [if_neg (by simp)]
      split
      · left
        refine ⟨?_, rfl, .inl rfl, .inl rfl⟩
        show (100 : Int) ≠ 0
        decide
      · rename_i hc
        have hcd : cordB ns ((n : Int)).toNat = false := by
          cases h : cordB ns ((n : Int)).toNat with
          | false => rfl
          | true => exact absurd ⟨rfl, h⟩ hc
        cases hw : worseU ns ps os p (p.set i (n : Int)) with
        | nil =>
          right
          exact ⟨rfl, hq, worse_none hw, fun hs => keeps9 hq hs hw, .inr hcd⟩
        | cons d t =>
          have hm : d ∈ worseU ns ps os p (p.set i (n : Int)) := by rw [hw]; exact List.mem_cons_self
          left
          exact ⟨by simp [Ag.e], rfl, .inl rfl, .inr (worse_by (hg _) (List.mem_filter.1 hm).2)⟩
end Go.Proofs.YtiiheajieegdkaaGreat

namespace Go.Proofs.YtiiheajieegdkaaGreat
open Go.RowKit

set_option maxRecDepth 100000 in
set_option maxHeartbeats 4000000 in
theorem cut10_any (A B C : Option Addr) (ca cb cc : Nat) (ns : List NodeD) (ps : List PodD) (os : List OwnD) (w : World) (h : SnapIn w A B C ca cb cc ns ps os) :
    Calls Tryz.prog 21 #[snapV A B C ca cb cc ns ps os] w fun e w' => e = .returned (snapV A B C ca cb cc (ns.take 12) (ps.take 30) (os.take 12)) ∧ Below w.heap.size w w' := by
  have h0 := Nat.le_trans h.can.1 h.can.2
  have h1 := Nat.le_trans h.cap.1 h.cap.2
  have h2 := Nat.le_trans h.cao.1 h.cao.2
  have hc0 : min (ns.length : Int) 12 ≤ (ca : Int) := by have := h.can.1; omega
  have hc1 : min (ps.length : Int) 30 ≤ (cb : Int) := by have := h.cap.1; omega
  have hc2 : min (os.length : Int) 12 ≤ (cc : Int) := by have := h.cao.1; omega
  have hp0 : (0 : Int) ≤ min (ns.length : Int) 12 := by omega
  have hp1 : (0 : Int) ≤ min (ps.length : Int) 30 := by omega
  have hp2 : (0 : Int) ≤ min (os.length : Int) 12 := by omega
  have hl0 : Hid ((min (ns.length : Int) 12).toNat = (ns.take 12).length) := Lib.hid (by simp; omega)
  have hl1 : Hid ((min (ps.length : Int) 30).toNat = (ps.take 30).length) := Lib.hid (by simp; omega)
  have hl2 : Hid ((min (os.length : Int) 12).toNat = (os.take 12).length) := Lib.hid (by simp; omega)
  clear h
  go_enter Tryz.func21, Tryz.ntmps21
  go_wp2_with fail
  have S9 : Hid (Blk ((w.alloc (.cells (snapC A B C ca cb cc ns ps os) 26)).alloc (.cells #[.slice none 0 0, .slice none 0 0, .slice none 0 0] 26)) w.heap.size (snapC A B C ca cb cc ns ps os) 26) := Lib.hid (Blk.alloc (Blk.new w _ _) _)
  have R9 : Hid (Blk ((w.alloc (.cells (snapC A B C ca cb cc ns ps os) 26)).alloc (.cells #[.slice none 0 0, .slice none 0 0, .slice none 0 0] 26)) (w.heap.size + 1) #[.slice none 0 0, .slice none 0 0, .slice none 0 0] 26) := Lib.hid (blk2 w _ _ _)
  have B9 : Hid (Below w.heap.size w ((w.alloc (.cells (snapC A B C ca cb cc ns ps os) 26)).alloc (.cells #[.slice none 0 0, .slice none 0 0, .slice none 0 0] 26))) := Lib.hid (Qu.below2 w _ _)
  generalize ((w.alloc (.cells (snapC A B C ca cb cc ns ps os) 26)).alloc (.cells #[.slice none 0 0, .slice none 0 0, .slice none 0 0] 26)) = W at S9 R9 B9 ⊢
  obtain ⟨Rb, hRb⟩ : ∃ Rb, w.heap.size + 1 = Rb := ⟨_, rfl⟩
  rw [hRb] at R9 ⊢
  have HRb := Lib.hid hRb
  clear hRb
  have S0 : W.cell? ⟨w.heap.size, 0, none⟩ = some (.slice A ns.length ca) ∧ W.cell? ⟨w.heap.size, 1, none⟩ = some (.slice B ps.length cb) ∧ W.cell? ⟨w.heap.size, 2, none⟩ = some (.slice C os.length cc) := ⟨Blk.cell S9.out 0, Blk.cell S9.out 1, Blk.cell S9.out 2⟩
  have S1 : W.drew.cell? ⟨w.heap.size, 0, none⟩ = some (.slice A ns.length ca) ∧ W.drew.cell? ⟨w.heap.size, 1, none⟩ = some (.slice B ps.length cb) ∧ W.drew.cell? ⟨w.heap.size, 2, none⟩ = some (.slice C os.length cc) := S0
  have r0 : W.cell? ⟨Rb, 0, none⟩ = some (.slice none 0 0) := Blk.cell R9.out 0
  have r1 : W.cell? ⟨Rb, 1, none⟩ = some (.slice none 0 0) := Blk.cell R9.out 1
  have r2 : W.cell? ⟨Rb, 2, none⟩ = some (.slice none 0 0) := Blk.cell R9.out 2
  have f0 := Blk.free R9.out 0
  have f1 := Blk.free R9.out 1
  have f2 := Blk.free R9.out 2
  have hne : w.heap.size ≠ Rb := by have := HRb.out; omega
  have HS3 : Hid (Blk (((W.setCell ⟨Rb, 0, none⟩ (Value.slice A (min (ns.length : Int) 12).toNat ca)).setCell ⟨Rb, 1, none⟩ (Value.slice B (min (ps.length : Int) 30).toNat cb)).setCell ⟨Rb, 2, none⟩ (Value.slice C (min (os.length : Int) 12).toNat cc)) w.heap.size (snapC A B C ca cb cc ns ps os) 26) := Lib.hid (((S9.out.oth hne 0 _).oth hne 1 _).oth hne 2 _)
  have HR3 : Hid (Blk (((W.setCell ⟨Rb, 0, none⟩ (Value.slice A (min (ns.length : Int) 12).toNat ca)).setCell ⟨Rb, 1, none⟩ (Value.slice B (min (ps.length : Int) 30).toNat cb)).setCell ⟨Rb, 2, none⟩ (Value.slice C (min (os.length : Int) 12).toNat cc)) Rb #[Value.slice A (min (ns.length : Int) 12).toNat ca, Value.slice B (min (ps.length : Int) 30).toNat cb, Value.slice C (min (os.length : Int) 12).toNat cc] 26) := Lib.hid (((R9.out.set 0 _).set 1 _).set 2 _)
  have HB3 : Hid (Below w.heap.size w (((W.setCell ⟨Rb, 0, none⟩ (Value.slice A (min (ns.length : Int) 12).toNat ca)).setCell ⟨Rb, 1, none⟩ (Value.slice B (min (ps.length : Int) 30).toNat cb)).setCell ⟨Rb, 2, none⟩ (Value.slice C (min (os.length : Int) 12).toNat cc))) := Lib.hid (by
    have := HRb.out
    exact ((B9.out.setCell (p := ⟨Rb, 0, none⟩) (by show w.heap.size ≤ Rb; omega) _).setCell (p := ⟨Rb, 1, none⟩) (by show w.heap.size ≤ Rb; omega) _).setCell (p := ⟨Rb, 2, none⟩) (by show w.heap.size ≤ Rb; omega) _)
  have S3 : (((W.setCell ⟨Rb, 0, none⟩ (Value.slice A (min (ns.length : Int) 12).toNat ca)).setCell ⟨Rb, 1, none⟩ (Value.slice B (min (ps.length : Int) 30).toNat cb)).setCell ⟨Rb, 2, none⟩ (Value.slice C (min (os.length : Int) 12).toNat cc)).drew.cell? ⟨w.heap.size, 0, none⟩ = some (.slice A ns.length ca) ∧ (((W.setCell ⟨Rb, 0, none⟩ (Value.slice A (min (ns.length : Int) 12).toNat ca)).setCell ⟨Rb, 1, none⟩ (Value.slice B (min (ps.length : Int) 30).toNat cb)).setCell ⟨Rb, 2, none⟩ (Value.slice C (min (os.length : Int) 12).toNat cc)).drew.cell? ⟨w.heap.size, 1, none⟩ = some (.slice B ps.length cb) ∧ (((W.setCell ⟨Rb, 0, none⟩ (Value.slice A (min (ns.length : Int) 12).toNat ca)).setCell ⟨Rb, 1, none⟩ (Value.slice B (min (ps.length : Int) 30).toNat cb)).setCell ⟨Rb, 2, none⟩ (Value.slice C (min (os.length : Int) 12).toNat cc)).drew.cell? ⟨w.heap.size, 2, none⟩ = some (.slice C os.length cc) := ⟨Blk.cell HS3.out 0, Blk.cell HS3.out 1, Blk.cell HS3.out 2⟩
  go_region_held3 (fun w' => w'.cell? ⟨w.heap.size, 0, none⟩ = some (.slice A ns.length ca) ∧ w'.cell? ⟨w.heap.size, 1, none⟩ = some (.slice B ps.length cb) ∧ w'.cell? ⟨w.heap.size, 2, none⟩ = some (.slice C os.length cc))
    (first | (with_reducible exact S1) | (with_reducible exact S0) | (with_reducible exact S3) | go_keep)
    (skip)
  all_goals
    go_wp2_with fail
    rw [hl0.out, hl1.out, hl2.out] at HR3 HB3 ⊢
    refine bodyPost_row1 Tryz.results21 Rb _ _ _ _ (by rfl) (by rfl) (show Blk _ Rb _ _ from HR3.out) Tryz.underlying26 rfl snap_sizeK ?_
    exact ⟨rfl, HB3.out.drew⟩
end Go.Proofs.YtiiheajieegdkaaGreat

namespace Go.Proofs.YtiiheajieegdkaaGreat
open Go.RowKit

theorem fitted10_ints (A B C P : Option Addr) (ca cb cc cp : Nat) (ns : List NodeD) (ps : List PodD) (os : List OwnD) (l : List Int) (w : World) (h : SnapAt w A B C ca cb cc ns ps os) (hp : IntsAt w P cp l) :
    Calls Tryz.prog 22 #[snapV A B C ca cb cc ns ps os, .slice P l.length cp] w fun e w' => ∃ Q c, e = .returned (.slice Q (fitU ns l ps.length).length c) ∧ IntsAt w' Q c (fitU ns l ps.length) ∧ Below w.heap.size w w' := by
  refine (fitted10_any A B C P ca cb cc cp ns ps os l w h hp).mono ?_
  rintro e w' ⟨v, rfl, ho, hb⟩
  obtain ⟨g, c, rfl, _⟩ := La.own_slice ho
  have e := fitU_len ns l ps.length
  refine ⟨g, c, by rw [e], IntsAt.own (base := w.heap.size) (by rw [e]; exact ho), hb⟩
end Go.Proofs.YtiiheajieegdkaaGreat

namespace Go.Proofs.YtiiheajieegdkaaGreat
open Go.RowKit

set_option maxRecDepth 100000 in
set_option maxHeartbeats 8000000 in
theorem find10_any (A : Option Addr) (ca : Nat) (l : List ClT) (c : ClT) (w : World) (hl : l.length ≤ 1000) (ha : La.SlAt w A (cells4 l)) :
    Calls Tryz.prog 27 #[.slice A l.length ca, clV c] w fun e w' => e = .returned (.int .i64 ((findC l c.1 c.2.1 c.2.2.1).getD 0)) ∧ Below w.heap.size w w' := by
  have B0 : Hid (Below w.heap.size w (w.alloc (.cells #[.int .i64 c.1, .int .i64 c.2.1, .int .i64 c.2.2.1, .int .i64 c.2.2.2] 47))) := Lib.hid (below1 w _)
  have Q0 : Hid (Blk (w.alloc (.cells #[.int .i64 c.1, .int .i64 c.2.1, .int .i64 c.2.2.1, .int .i64 c.2.2.2] 47)) w.heap.size #[.int .i64 c.1, .int .i64 c.2.1, .int .i64 c.2.2.1, .int .i64 c.2.2.2] 47) := Lib.hid (Blk.new w _ _)
  have O1 := Lib.hid (La.SlAt.below ha B0.out)
  have EA : Hid (∀ (k : Nat) (y : ClT), l[k]? = some y → isC c.1 c.2.1 c.2.2.1 y = true → (∀ (j : Nat) (z : ClT), j < k → l[j]? = some z → isC c.1 c.2.1 c.2.2.1 z = false) → findC l c.1 c.2.1 c.2.2.1 = some y.2.2.2) := Lib.hid (fun k y h1 h2 h3 => findC_at h1 h2 h3)
  have EN : Hid ((∀ (j : Nat) (z : ClT), l[j]? = some z → isC c.1 c.2.1 c.2.2.1 z = false) → findC l c.1 c.2.1 c.2.2.1 = none) := Lib.hid (fun h => findC_no h)
  generalize findC l c.1 c.2.1 c.2.2.1 = R at EA EN ⊢
  clear ha
  go_enter Tryz.func27, Tryz.ntmps27
  go_upto_region 1 with fail
  try change Code.wp _ _ _ _ (w.alloc (.cells #[.int .i64 c.1, .int .i64 c.2.1, .int .i64 c.2.2.1, .int .i64 c.2.2.2] 47))
  generalize (w.alloc (.cells #[.int .i64 c.1, .int .i64 c.2.1, .int .i64 c.2.2.1, .int .i64 c.2.2.2] 47)) = W at B0 Q0 O1 ⊢
  go_wp2_with fail
  go_loopw [5] (fun i wr => ∃ k : Nat, k ≤ l.length ∧ i = .int .i64 k ∧ (∀ (j : Nat) (z : ClT), j < k → l[j]? = some z → isC c.1 c.2.1 c.2.2.1 z = false) ∧ Below W.heap.size W wr) (fun i _ => l.length - (intOf i).toNat)
  case atStart => exact ⟨0, by omega, rfl, fun j z h => by omega, Below.refl _ _⟩
  case round =>
    obtain ⟨k, hk, rfl, hn, hb⟩ := hrel
    have HN := Lib.hid hn
    have HB := Lib.hid hb
    clear hn hb
    by_cases hlt : k < l.length
    case neg =>
      obtain rfl : k = l.length := by omega
      have HE := Lib.hid (EN.out (fun j z hz => HN.out j z (List.getElem?_eq_some_iff.1 hz).1 hz))
      go_wp2
      go_ret
      rw [HE.out]
      exact ⟨rfl, B0.out.trans (HB.out.mono B0.out.size)⟩
    obtain ⟨y, hy⟩ : ∃ y, l[k]? = some y := ⟨l[k], List.getElem?_eq_getElem hlt⟩
    obtain ⟨g, o, hG, hbl, c0, c1, c2, c3⟩ := atC (La.SlAt.below O1.out HB.out) hy
    subst hG
    have q0 : wr.cell? ⟨w.heap.size, 0, none⟩ = some (.int .i64 c.1) := Blk.cell (Q0.out.below HB.out Q0.out.lt) 0
    have q1 : wr.cell? ⟨w.heap.size, 1, none⟩ = some (.int .i64 c.2.1) := Blk.cell (Q0.out.below HB.out Q0.out.lt) 1
    have q2 : wr.cell? ⟨w.heap.size, 2, none⟩ = some (.int .i64 c.2.2.1) := Blk.cell (Q0.out.below HB.out Q0.out.lt) 2
    have k0 : (0 : Int) ≤ (k : Int) := by omega
    have k1 : (k : Int) < (l.length : Int) := by omega
    have HY := Lib.hid hy
    have go : Hid (isC c.1 c.2.1 c.2.2.1 y = false → ∀ (j : Nat) (z : ClT), j < k + 1 → l[j]? = some z → isC c.1 c.2.1 c.2.2.1 z = false) := Lib.hid (fun h1 j z hj hz => by
      by_cases hjk : j = k
      · subst hjk
        rw [HY.out] at hz
        cases hz
        exact h1
      · exact HN.out j z (by omega) hz)
    clear hy
    go_upto_region 4 with fail
    by_cases h1 : y.1 = c.1
    case neg =>
      have h1b : (y.1 == c.1) = false := by simpa using h1
      have HF := Lib.hid (go.out (decide_eq_false (fun h => h1 h.1)))
      clear h1 go
      go_quiet (fail)
      go_wp2_with fail
      go_roundw
      case rel => exact ⟨k + 1, by omega, by go_num, HF.out, below_drewN HB.out _⟩
      case measure => simp [intOf]; omega
    have h1b : (y.1 == c.1) = true := by simpa using h1
    by_cases h2 : y.2.1 = c.2.1
    case neg =>
      have h2b : (y.2.1 == c.2.1) = false := by simpa using h2
      have HF := Lib.hid (go.out (decide_eq_false (fun h => h2 h.2.1)))
      clear h1 h2 go
      go_quiet (fail)
      go_wp2_with fail
      go_roundw
      case rel => exact ⟨k + 1, by omega, by go_num, HF.out, below_drewN HB.out _⟩
      case measure => simp [intOf]; omega
    have h2b : (y.2.1 == c.2.1) = true := by simpa using h2
    by_cases h3 : y.2.2.1 = c.2.2.1
    case neg =>
      have h3b : (y.2.2.1 == c.2.2.1) = false := by simpa using h3
      have HF := Lib.hid (go.out (decide_eq_false (fun h => h3 h.2.2)))
      clear h1 h2 h3 go
      go_quiet (fail)
      go_wp2_with fail
      go_roundw
      case rel => exact ⟨k + 1, by omega, by go_num, HF.out, below_drewN HB.out _⟩
      case measure => simp [intOf]; omega
    have h3b : (y.2.2.1 == c.2.2.1) = true := by simpa using h3
    have HF := Lib.hid (EA.out k y HY.out (decide_eq_true ⟨h1, h2, h3⟩) HN.out)
    clear h1 h2 h3 go
    go_quiet (fail)
    go_wp2
    go_ret
    rw [HF.out]
    exact ⟨rfl, B0.out.trans ((below_drewN HB.out _).mono B0.out.size)⟩
end Go.Proofs.YtiiheajieegdkaaGreat

namespace Go.Proofs.YtiiheajieegdkaaGreat
open Go.RowKit Go.Maps

/-- Three cells of a step are written. -/
abbrev set3 (W : World) (b : Nat) (x y z : Int) : World := ((W.setCell ⟨b, 0, none⟩ (.int .i64 x)).setCell ⟨b, 1, none⟩ (.int .i64 y)).setCell ⟨b, 2, none⟩ (.int .i64 z)
abbrev stC (x y z : Int) : Array Value := #[.int .i64 x, .int .i64 y, .int .i64 z]
theorem blk3s {W : World} {b : Nat} {t : TypeId} {a c d : Int} (h : Blk W b (stC a c d) t) (x y z : Int) : Blk (set3 W b x y z) b (stC x y z) t := ((h.set 0 _).set 1 _).set 2 _
theorem below3s {w W : World} {B b : Nat} (h : Below B w W) (hb : B ≤ b) (x y z : Int) : Below B w (set3 W b x y z) := ((h.setCell (p := ⟨b, 0, none⟩) hb _).setCell (p := ⟨b, 1, none⟩) hb _).setCell (p := ⟨b, 2, none⟩) hb _
theorem cells_of3 {W : World} {b : Nat} {x y z : Int} {t : TypeId} (h : Blk W b (stC x y z) t) : (W.cell? ⟨b, 0, none⟩ = some (.int .i64 x) ∧ W.cell? ⟨b, 1, none⟩ = some (.int .i64 y) ∧ W.cell? ⟨b, 2, none⟩ = some (.int .i64 z)) ∧ W.frozen? ⟨b, 0, none⟩ = false ∧ W.frozen? ⟨b, 1, none⟩ = false ∧ W.frozen? ⟨b, 2, none⟩ = false :=
  ⟨⟨Blk.cell h 0, Blk.cell h 1, Blk.cell h 2⟩, Blk.free h 0, Blk.free h 1, Blk.free h 2⟩

set_option maxRecDepth 100000 in
set_option maxHeartbeats 16000000 in
theorem admitKeeps_law (A B C : Option Addr) (ca cb cc : Nat) (ns : List NodeD) (ps : List PodD) (os : List OwnD) (P L : Option Addr) (cp cl : Nat) (l : List Int) (sts : List S3T) (w : World) (h : SnapIn w A B C ca cb cc ns ps os) (hp : IntsAt w P cp l) (hL : La.SlAt w L (cells3 sts)) (hsm : sts.length ≤ 9223372036854775807) :
    Calls Tryz.prog 4 #[snapV A B C ca cb cc ns ps os, .slice P l.length cp, .slice L sts.length cl] w fun e w' => e = .returned (.bool true) ∧ Below w.heap.size w w' := by
  have HP := Lib.hid hp
  have HLs := Lib.hid hL
  clear hp hL
  have B0 : Hid (Below w.heap.size w (w.alloc (.cells (snapC A B C ca cb cc ns ps os) 26))) := Lib.hid (below1 w _)
  have S0 : Hid (Blk (w.alloc (.cells (snapC A B C ca cb cc ns ps os) 26)) w.heap.size (snapC A B C ca cb cc ns ps os) 26) := Lib.hid (Blk.new w _ _)
  have H := Lib.hid (h.take)
  have KW := Lib.hid works10_any
  have HIN := Lib.hid h
  have hn12 : (ns.take 12).length ≤ 12 := List.length_take_le _ _
  have hp30 : (ps.take 30).length ≤ 30 := List.length_take_le _ _
  have ho12 : (os.take 12).length ≤ 12 := List.length_take_le _ _
  have KC := Lib.hid (fun W' (hb : Below w.heap.size w W') => cut10_any A B C ca cb cc ns ps os W' (HIN.out.below8 hb))
  generalize ns.take 12 = n1 at H KC hn12
  generalize ps.take 30 = p1 at H KC hp30
  generalize os.take 12 = o1 at H KC ho12
  clear h HIN
  go_enter Tryz.func4, Tryz.ntmps4
  go_wp2_with fail
  refine (KW.out _).mono ?_
  rintro e w0 ⟨rfl, hbk⟩
  have S0 := Lib.hid (S0.out.below hbk S0.out.lt)
  have B0 := Lib.hid (B0.out.trans (hbk.mono B0.out.size))
  clear hbk KW
  have z0 : w0.cell? ⟨w.heap.size, 0, none⟩ = some (.slice A ns.length ca) := Blk.cell S0.out 0
  have z1 : w0.cell? ⟨w.heap.size, 1, none⟩ = some (.slice B ps.length cb) := Blk.cell S0.out 1
  have z2 : w0.cell? ⟨w.heap.size, 2, none⟩ = some (.slice C os.length cc) := Blk.cell S0.out 2
  go_wp2_with fail
  refine (KC.out _ B0.out).mono ?_
  rintro e w2 ⟨rfl, hb2⟩
  have S2 : Hid (Blk w2 w.heap.size (snapC A B C ca cb cc ns ps os) 26) := Lib.hid (S0.out.below hb2 S0.out.lt)
  have B2 : Hid (Below w.heap.size w w2) := Lib.hid (B0.out.trans (hb2.mono B0.out.size))
  clear hb2 S0 B0 KC z0 z1 z2
  have r0 : w2.cell? ⟨w.heap.size, 0, none⟩ = some (.slice A ns.length ca) := Blk.cell S2.out 0
  have r1 : w2.cell? ⟨w.heap.size, 1, none⟩ = some (.slice B ps.length cb) := Blk.cell S2.out 1
  have r2 : w2.cell? ⟨w.heap.size, 2, none⟩ = some (.slice C os.length cc) := Blk.cell S2.out 2
  have f0 := Blk.free S2.out 0
  have f1 := Blk.free S2.out 1
  have f2 := Blk.free S2.out 2
  have S3 : Hid (Blk (((w2.setCell ⟨w.heap.size, 0, none⟩ (.slice A n1.length ca)).setCell ⟨w.heap.size, 1, none⟩ (.slice B p1.length cb)).setCell ⟨w.heap.size, 2, none⟩ (.slice C o1.length cc)) w.heap.size (snapC A B C ca cb cc n1 p1 o1) 26) := Lib.hid (((S2.out.set 0 _).set 1 _).set 2 _)
  have B3 : Hid (Below w.heap.size w (((w2.setCell ⟨w.heap.size, 0, none⟩ (.slice A n1.length ca)).setCell ⟨w.heap.size, 1, none⟩ (.slice B p1.length cb)).setCell ⟨w.heap.size, 2, none⟩ (.slice C o1.length cc))) := Lib.hid (((B2.out.setCell (p := ⟨w.heap.size, 0, none⟩) (Nat.le_refl _) _).setCell (p := ⟨w.heap.size, 1, none⟩) (Nat.le_refl _) _).setCell (p := ⟨w.heap.size, 2, none⟩) (Nat.le_refl _) _)
  go_upto_region 4 with fail
  clear r0 r1 r2 f0 f1 f2
  generalize (((w2.setCell ⟨w.heap.size, 0, none⟩ (.slice A n1.length ca)).setCell ⟨w.heap.size, 1, none⟩ (.slice B p1.length cb)).setCell ⟨w.heap.size, 2, none⟩ (.slice C o1.length cc)) = W at S3 B3 ⊢
  clear S2 B2
  have HW := Lib.hid (fun W' (hb : Below W.heap.size W W') => (show W'.cell? ⟨w.heap.size, 0, none⟩ = some (.slice A n1.length ca) ∧ W'.cell? ⟨w.heap.size, 1, none⟩ = some (.slice B p1.length cb) ∧ W'.cell? ⟨w.heap.size, 2, none⟩ = some (.slice C o1.length cc) from ⟨Blk.cell (S3.out.below hb S3.out.lt) 0, Blk.cell (S3.out.below hb S3.out.lt) 1, Blk.cell (S3.out.below hb S3.out.lt) 2⟩))
  have HG : Hid (w.heap.size < W.heap.size) := Lib.hid S3.out.lt
  have HT := Lib.hid (fun W' (hb : Below W.heap.size W W') => B3.out.trans (hb.mono B3.out.size))
  have HS := Lib.hid (fun W' (hb : Below W.heap.size W W') => H.out.below (HT.out W' hb))
  have hln := H.out.ln
  have hlp := H.out.lp
  have hlo := H.out.lo
  have K1 := Lib.hid (fitted10_ints A B C P ca cb cc cp n1 p1 o1 l W (HS.out W (Below.refl _ _)) (HP.out.below (HT.out W (Below.refl _ _))))
  have EP := Lib.hid (fitU_len n1 l p1.length)
  generalize fitU n1 l p1.length = p at K1 EP
  have HLW := Lib.hid (La.SlAt.below HLs.out B3.out)
  clear H HP B3 S3 HLs
  obtain ⟨z0, z1, z2⟩ := HW.out _ (Below.refl _ W)
  go_wp2_with fail
  refine (K1.out).mono ?_
  rintro e V ⟨X, cx, rfl, ix, hb0⟩
  have HB0 := Lib.hid hb0
  have HX := Lib.hid (fun W' (hb' : Below V.heap.size V W') => ix.below hb')
  have HLV := Lib.hid (fun W' (hb' : Below V.heap.size V W') => La.SlAt.below HLW.out (HB0.out.trans (hb'.mono HB0.out.size)))
  have HZ := Lib.hid (fun W' (hb : Below V.heap.size V W') => HW.out W' (HB0.out.trans (hb.mono HB0.out.size)))
  have HTV := Lib.hid (fun W' (hb : Below V.heap.size V W') => HT.out W' (HB0.out.trans (hb.mono HB0.out.size)))
  have HSV := Lib.hid (fun W' (hb : Below V.heap.size V W') => HS.out W' (HB0.out.trans (hb.mono HB0.out.size)))
  clear ix hb0 K1 HB0 HW HT HS z0 z1 z2 HG HLW
  have k1 := Lib.hid (fun W' (hb : Below V.heap.size V W') => allP_any A B C X ca cb cc cx n1 p1 o1 p W' (HSV.out W' hb) (HX.out W' hb))
  have k2 := Lib.hid (fun W' (hb : Below V.heap.size V W') => pcheck_any A B C X ca cb cc cx n1 p1 o1 p W' (HSV.out W' hb) (HX.out W' hb))
  have k3 := Lib.hid (fun W' (hb : Below V.heap.size V W') => safe_at A B C X ca cb cc cx n1 p1 o1 p W' (HSV.out W' hb) (HX.out W' hb))
  have hfew : ∀ p', (all8 n1 p1 o1 p').length ≤ 1000 := fun p' => all8_few hn12 hp30 ho12
  have hF0 := hfew p
  have HFW := Lib.hid hfew
  have HG0 : Hid (∀ c ∈ all8 n1 p1 o1 p, 0 ≤ c.2.2.2) := Lib.hid (fun c hc => (all8_good n1 p1 o1 p c hc).1)
  have HK0 : Hid (Keeps (all8 n1 p1 o1 p) (all8 n1 p1 o1 p)) := Lib.hid Keeps.self
  have HS0 : Hid (safeB n1 p1 o1 p = true → safeB n1 p1 o1 p = true) := Lib.hid id
  have HE0 : Hid (placeE n1 p1 o1 p = placeE n1 p1 o1 p) := Lib.hid rfl
  obtain ⟨L0, hL0⟩ : ∃ L0, all8 n1 p1 o1 p = L0 := ⟨_, rfl⟩
  rw [hL0] at k1 hF0 HG0
  have HK0 : Hid (Keeps L0 (all8 n1 p1 o1 p)) := Lib.hid (hL0 ▸ HK0.out)
  clear hL0
  obtain ⟨b0, hb0⟩ : ∃ b0, safeB n1 p1 o1 p = b0 := ⟨_, rfl⟩
  rw [hb0] at k3
  have HS0 : Hid (b0 = true → safeB n1 p1 o1 p = true) := Lib.hid (fun h => hb0.trans h)
  clear hb0
  obtain ⟨E, hE0⟩ : ∃ E, placeE n1 p1 o1 p = E := ⟨_, rfl⟩
  rw [hE0] at k1 k2 k3
  have HE0 := Lib.hid hE0
  clear hE0 hfew hn12 hp30 ho12
  have HB := Lib.hid (Below.refl V.heap.size V)
  obtain ⟨z0, z1, z2⟩ := HZ.out _ HB.out
  go_wp2_with fail
  refine (k1.out _ HB.out).mono ?_
  rintro e V1 ⟨va, rfl, hoa, hb⟩
  obtain ⟨Ga, ca2, rfl, _⟩ := La.own_slice hoa
  have TA := Lib.hid (La.own_slat hoa)
  have HB := Lib.hid (HB.out.trans (hb.mono HB.out.size))
  clear hoa hb k1 z0 z1 z2
  obtain ⟨z0, z1, z2⟩ := HZ.out _ HB.out
  have hEE : (E == E) = true := by simp
  have hEd : decide (E = E) = true := by simp
  by_cases hE : E = 0
  case neg =>
    have hne : (E != 0) = true := by simpa using hE
    clear HK0 HS0 HE0 HG0 hE
    go_wp2_with fail
    refine (k2.out _ HB.out).mono ?_
    rintro e V5 ⟨rfl, hb⟩
    have D := Lib.hid (HTV.out _ (HB.out.trans (hb.mono HB.out.size)))
    clear hb
    go_wp2
    go_ret
    exact ⟨rfl, D.out⟩
  subst hE
  by_cases hp0 : 0 < p.length
  case neg =>
    have hp9 : p = [] := List.eq_nil_of_length_eq_zero (by omega)
    subst hp9
    clear HK0 HS0 HE0 HG0
    go_wp2_with fail
    refine (k2.out _ HB.out).mono ?_
    rintro e V5 ⟨rfl, hb⟩
    have D := Lib.hid (HTV.out _ (HB.out.trans (hb.mono HB.out.size)))
    clear hb
    go_wp2
    go_ret
    exact ⟨rfl, D.out⟩
  have hp1 : ¬ p.length = 0 := by omega
  have hp2 : ((p.length : Int) == 0) = false := by simpa using hp1
  have hp4 : decide (p.length = 0) = false := decide_eq_false hp1
  by_cases hn0 : 0 < n1.length
  case neg =>
    have hn9 : n1 = [] := List.eq_nil_of_length_eq_zero (by omega)
    subst hn9
    clear HK0 HS0 HE0 HG0
    go_wp2_with fail
    refine (k2.out _ HB.out).mono ?_
    rintro e V5 ⟨rfl, hb⟩
    have D := Lib.hid (HTV.out _ (HB.out.trans (hb.mono HB.out.size)))
    clear hb
    go_wp2
    go_ret
    exact ⟨rfl, D.out⟩
  have hn1 : ¬ n1.length = 0 := by omega
  have hn2 : ((n1.length : Int) == 0) = false := by simpa using hn1
  have hn4 : decide (n1.length = 0) = false := decide_eq_false hn1
  clear k2
  have HPL := Lib.hid (And.intro hp0 EP.out)
  have HNL := Lib.hid hn0
  go_wp2_with fail
  refine (k3.out _ HB.out).mono ?_
  rintro e V2 ⟨rfl, hb⟩
  have HB2 := Lib.hid (HB.out.trans (hb.mono HB.out.size))
  have TA2 := Lib.hid (La.SlAt.below TA.out hb)
  clear hb k3 z0 z1 z2 HB TA
  go_upto_region 9 with fail
  clear hp1 hp2 hp4 hn1 hn2 hn4 hp0 hn0 hEE hEd
  go_wp2_with fail
  go_loopw [12, 7] (fun i v wr => ∃ (k : Nat) (q : List Int) (X' : Option Addr) (cx' : Nat), k ≤ 30 ∧ i = .int .i64 k ∧ v = .slice X' q.length cx' ∧ IntsAt wr X' cx' q ∧ Below V2.heap.size V2 wr ∧ placeE n1 p1 o1 q = 0 ∧ Keeps L0 (all8 n1 p1 o1 q) ∧ (b0 = true → safeB n1 p1 o1 q = true)) (fun i _ _ => 30 - (intOf i).toNat)
  case atStart => exact ⟨0, p, X, cx, by omega, rfl, rfl, HX.out _ HB2.out, Below.refl _ _, HE0.out, HK0.out, HS0.out⟩
  case round =>
    clear HE0 HK0 HS0 HX EP
    obtain ⟨k, q, X', cx', hk, rfl, rfl, hx, hbw, hEq, hKq, hSq⟩ := hrel
    have HXr := Lib.hid hx
    have HBw := Lib.hid hbw
    have HBr := Lib.hid (HB2.out.trans (hbw.mono HB2.out.size))
    have hql : q.length = p1.length := placeE_len hEq
    have HEq := Lib.hid hEq
    have HKq := Lib.hid hKq
    have HSq := Lib.hid hSq
    clear hx hbw hEq hKq hSq
    by_cases hlt : k < sts.length
    case neg =>
      have hlt1 : ¬ (k : Int) < (sts.length : Int) := by omega
      have hlt2 : decide ((k : Int) < (sts.length : Int)) = false := decide_eq_false hlt1
      have D := Lib.hid (HTV.out _ HBr.out)
      clear hql
      go_wp2
      go_ret
      exact ⟨rfl, D.out⟩
    by_cases h30 : k < 30
    case neg =>
      obtain rfl : k = 30 := by omega
      have D := Lib.hid (HTV.out _ HBr.out)
      clear hql
      go_wp2
      go_ret
      exact ⟨rfl, D.out⟩
    have k0 : (0 : Int) ≤ (k : Int) := by omega
    have k1 : (k : Int) < (sts.length : Int) := by omega
    have k3 : (k : Int) < 30 := by omega
    obtain ⟨st, hst⟩ : ∃ st, sts[k]? = some st := ⟨sts[k], List.getElem?_eq_getElem hlt⟩
    obtain ⟨i, n, kd, hil, hnl, hkd, hnx, hstep⟩ := keep_step (p := q) (ns := n1) (ps := p1) (os := o1) st.2.1 st.2.2 HEq.out (by have := HPL.out; omega) HNL.out
    have hq0 : 0 < q.length := by omega
    have hq9 : q.length ≤ 1000 := by have := (HSV.out _ HBr.out).lp; omega
    have KN := Lib.hid (fun W' (hb : Below wr.heap.size wr W') => next10_any A B C X' ca cb cc cx' n1 p1 o1 q st.1 st.2.1 st.2.2 W' (HSV.out W' (HBr.out.trans (hb.mono HBr.out.size))) (HXr.out.below hb) hq0 hq9 HNL.out)
    rw [hnx] at KN
    dsimp only at KN
    have KS := Lib.hid (fun W' (hb : Below wr.heap.size wr W') => step_any A B C X' ca cb cc cx' n1 p1 o1 q kd (i : Int) (n : Int) W' (HSV.out W' (HBr.out.trans (hb.mono HBr.out.size))) (HXr.out.below hb))
    have HST := Lib.hid hstep
    obtain ⟨T, hT⟩ : ∃ T, stepF n1 p1 o1 q (kd, (i : Int), (n : Int)) = T := ⟨_, rfl⟩
    rw [hT] at KS
    have HST : Hid (T.2.2 ≠ 0 ∧ KeepNo n1 (kd, (i : Int), (n : Int)) T.1 T.2.1 T.2.2 ∨ T.2.2 = 0 ∧ KeepYes n1 p1 o1 q (kd, (i : Int), (n : Int)) T.1 T.2.1) := Lib.hid (hT ▸ HST.out)
    obtain ⟨nq, ⟨c0, c1, c2, c3⟩, f⟩ := T
    dsimp only at KS HST
    clear hT hstep hnx
    obtain ⟨sb, so, hLa, hsb, d0, d1, d2⟩ := atSt (HLV.out _ HBr.out) hst
    subst hLa
    have HCb := Lib.hid (fun W' (hb : Below wr.heap.size wr W') => And.intro (HZ.out W' (HBr.out.trans (hb.mono HBr.out.size))) (And.intro ((hb.cell (p := ⟨sb, so + k * 3, none⟩) hsb).trans d0) (And.intro ((hb.cell (p := ⟨sb, so + k * 3 + 1, none⟩) hsb).trans d1) ((hb.cell (p := ⟨sb, so + k * 3 + 2, none⟩) hsb).trans d2))))
    have HSL := Lib.hid hsb
    clear d0 d1 d2 hst hsb hq0 hq9 hql
    go_upto_region 12 with fail
    have HB : Hid (Below wr.heap.size wr wr.drew) := Lib.hid ((Below.refl _ wr).drew)
    have HZ9 : Hid (Below wr.heap.size wr (wr.alloc (.cells (stC 0 0 0) 63)).drew) := Lib.hid ((below1 wr _).drew)
    have QZ : Hid (Blk (wr.alloc (.cells (stC 0 0 0) 63)).drew wr.heap.size (stC 0 0 0) 63) := Lib.hid (Blk.drew (Blk.new wr _ _))
    have S0 := HCb.out _ HB.out
    have S1 := HCb.out _ HZ9.out
    go_cut [13] (fun v wc => ∃ g, v = .pointer (some ⟨g, 0, none⟩) ∧ Blk wc g (stC kd (i : Int) (n : Int)) 63 ∧ Below wr.heap.size wr wc)
    case first =>
      go_region_held3 (fun w' => (w'.cell? ⟨w.heap.size, 0, none⟩ = some (.slice A n1.length ca) ∧ w'.cell? ⟨w.heap.size, 1, none⟩ = some (.slice B p1.length cb) ∧ w'.cell? ⟨w.heap.size, 2, none⟩ = some (.slice C o1.length cc)) ∧ w'.cell? ⟨sb, so + k * 3, none⟩ = some (.int .i64 st.1) ∧ w'.cell? ⟨sb, so + k * 3 + 1, none⟩ = some (.int .i64 st.2.1) ∧ w'.cell? ⟨sb, so + k * 3 + 2, none⟩ = some (.int .i64 st.2.2))
        (first | exact S0 | exact S1 | exact S2 | exact S3 | exact S4 | exact S5 | exact S6)
        (first
          | (go_at_call 25
             with_reducible refine (KN.out wr.drew HB.out).mono ?_
             rintro e wA ⟨rfl, hbA⟩
             have HA := Lib.hid (HB.out.trans (hbA.mono HB.out.size))
             have HF := Lib.hid (HA.out.alloc HA.out.size (.cells (stC kd (i : Int) (n : Int)) 63))
             have HFz := Lib.hid (HA.out.alloc HA.out.size (.cells (stC 0 0 0) 63))
             have QF := Lib.hid (Blk.new wA (stC kd (i : Int) (n : Int)) 63)
             have S2 := HCb.out _ HA.out
             have S3 := HCb.out _ HF.out
             have S4 := HCb.out _ HFz.out
             clear hbA)
          | (go_at_call 25
             refine (KN.out _ HZ9.out).mono ?_
             rintro e wA ⟨rfl, hbA⟩
             have HA := Lib.hid (HZ9.out.trans (hbA.mono HZ9.out.size))
             have QA := Lib.hid (QZ.out.below hbA QZ.out.lt)
             have HF := Lib.hid (below3s HA.out (Nat.le_refl _) kd (i : Int) (n : Int))
             have QF := Lib.hid (blk3s QA.out kd (i : Int) (n : Int))
             obtain ⟨⟨q0, q1, q2⟩, g0, g1, g2⟩ := cells_of3 QA.out
             have S2 := HCb.out _ HA.out
             have S3 := HCb.out _ HF.out
             clear hbA))
      all_goals
        (try go_wp2_with fail)
        go_meet
        exact ⟨_, rfl, QF.out, HF.out⟩
    case' rest => obtain ⟨g, rfl, hQ, hb5⟩ := hcut
    have HQ := Lib.hid (fun W' (hb : Below wc.heap.size wc W') => (cells_of3 (Blk.below hQ hb hQ.lt)).1)
    have HB5 := Lib.hid hb5
    clear hQ hb5 HB HZ9 QZ S0 S1 KN
    have HC5 := Lib.hid (fun W' (hb : Below wc.heap.size wc W') => (HCb.out W' (HB5.out.trans (hb.mono HB5.out.size))).1)
    have KS1 := Lib.hid (KS.out _ HB5.out)
    obtain ⟨z0, z1, z2⟩ := HC5.out _ (Below.refl _ _)
    obtain ⟨x0, x1, x2⟩ := HQ.out _ (Below.refl _ _)
    clear KS HCb
    go_wp2_with fail
    refine (KS1.out).mono ?_
    rintro e V3 ⟨vn, rfl, hon, hb⟩
    obtain ⟨Gn, cn, rfl, _⟩ := La.own_slice hon
    have IN := Lib.hid ((IntsAt.own hon).below (below1 V3 (.cells (clC (c0, c1, c2, c3)) 47)))
    have CN := Lib.hid (Blk.new V3 (clC (c0, c1, c2, c3)) 47)
    have HB6 : Hid (Below wc.heap.size wc (V3.alloc (.cells (clC (c0, c1, c2, c3)) 47))) := Lib.hid (hb.alloc hb.size _)
    clear hon hb KS1 z0 z1 z2 x0 x1 x2
    go_upto_region 14 with fail
    try change Code.wp _ _ _ _ (V3.alloc (.cells (clC (c0, c1, c2, c3)) 47))
    generalize (V3.alloc (.cells (clC (c0, c1, c2, c3)) 47)) = V4 at IN CN HB6 ⊢
    generalize V3.heap.size = g2 at CN ⊢
    have hn9 : (n : Int) < (n1.length : Int) := by omega
    have hn8 : (0 : Int) ≤ (n : Int) := by omega
    obtain ⟨nd, hnd⟩ : ∃ nd, n1[n]? = some nd := ⟨n1[n], List.getElem?_eq_getElem hnl⟩
    have HB7 := Lib.hid (HB5.out.trans (HB6.out.mono HB5.out.size))
    have HBV := Lib.hid (HBr.out.trans (HB7.out.mono HBr.out.size))
    have HB8 := Lib.hid (HBw.out.trans (HB7.out.mono HBw.out.size))
    rcases HST.out with ⟨hf, hno⟩ | ⟨rfl, hyes⟩
    · obtain ⟨rfl, hff, hcc⟩ := hno
      clear HST
      dsimp only at hff hcc
      obtain ⟨z0, z1, z2⟩ := HC5.out _ HB6.out
      obtain ⟨x0, x1, x2⟩ := HQ.out _ HB6.out
      obtain ⟨⟨y0, y1, y2, y3⟩, _⟩ := cells_of4 CN.out
      obtain ⟨nb, no, hNa, _, _, _, _, _, _, _, _, _, _, l9⟩ := atN (HSV.out _ HBV.out).n.cells hnd
      subst hNa
      have HEND := Lib.hid (And.intro HXr.out HB7.out)
      have hcn : (c0 != 0) = false ∨ ((c0 != 0) = true ∧ decide (c3 < 1) = false ∧ ¬ c3 < 1) := by
        rcases hcc with h | h
        · left
          simpa using h
        · by_cases e0 : c0 = 0
          · left
            simpa using e0
          · right
            exact ⟨by simpa using e0, decide_eq_false (by omega), by omega⟩
      rcases hff with rfl | ⟨rfl, hlo⟩
      · rcases hcn with hc | ⟨hc, hc1, hc2⟩
        all_goals
          clear hcc hf
          go_wp2_with fail
          go_roundw
          case rel => exact ⟨k + 1, q, _, cx', by omega, by go_num, rfl, HEND.out.1.below HEND.out.2, HB8.out, HEq.out, HKq.out, HSq.out⟩
          case measure => simp [intOf]; omega
      · have hlo : nd.lost = true := by
          unfold lostB at hlo
          rw [Int.toNat_natCast, hnd] at hlo
          exact hlo
        rw [hlo] at l9
        rcases hcn with hc | ⟨hc, hc1, hc2⟩
        all_goals
          clear hcc hf hlo
          go_wp2_with fail
          go_roundw
          case rel => exact ⟨k + 1, q, _, cx', by omega, by go_num, rfl, HEND.out.1.below HEND.out.2, HB8.out, HEq.out, HKq.out, HSq.out⟩
          case measure => simp [intOf]; omega
    · obtain ⟨hE2, hK2, hS2, hcd⟩ := hyes
      clear HST
      dsimp only at hcd
      have hcd : kd = 1 ∨ nd.cordon = false := by
        rcases hcd with h | h
        · exact .inl h
        · right
          unfold cordB at h
          rw [Int.toNat_natCast, hnd] at h
          exact h
      have m1 := Lib.hid (fun W' (hb : Below V4.heap.size V4 W') => allP_any A B C Gn ca cb cc cn n1 p1 o1 nq W' (HSV.out W' (HBV.out.trans (hb.mono HBV.out.size))) (IN.out.below hb))
      have m2 := Lib.hid (fun W' (hb : Below V4.heap.size V4 W') => safe_at A B C Gn ca cb cc cn n1 p1 o1 nq W' (HSV.out W' (HBV.out.trans (hb.mono HBV.out.size))) (IN.out.below hb))
      rw [hE2] at m1 m2
      have HK3 : Hid (Keeps L0 (all8 n1 p1 o1 nq)) := Lib.hid (HKq.out.on HG0.out hK2)
      have HS3 : Hid (b0 = true → safeB n1 p1 o1 nq = true) := Lib.hid (fun h => hS2 (HSq.out h))
      have HE3 := Lib.hid hE2
      have hF3 := HFW.out nq
      obtain ⟨M, hM⟩ : ∃ M, all8 n1 p1 o1 nq = M := ⟨_, rfl⟩
      rw [hM] at m1 hF3
      have HKM : Hid (Keeps L0 M) := Lib.hid (hM ▸ HK3.out)
      obtain ⟨b1, hb1⟩ : ∃ b1, safeB n1 p1 o1 nq = b1 := ⟨_, rfl⟩
      rw [hb1] at m2
      have hbb : (b0 = false ∨ b1 = true) := by
        cases b0 with
        | false => exact .inl rfl
        | true => exact .inr (hb1.symm.trans (HS3.out rfl))
      clear hE2 hK2 hS2 hM hb1 HKq HSq HEq
      have HB := Lib.hid (Below.refl V4.heap.size V4)
      have HC4 := Lib.hid (fun W' (hb : Below V4.heap.size V4 W') => And.intro (HC5.out W' (HB6.out.trans (hb.mono HB6.out.size))) (HQ.out W' (HB6.out.trans (hb.mono HB6.out.size))))
      obtain ⟨⟨z0, z1, z2⟩, x0, x1, x2⟩ := HC4.out _ HB.out
      clear HC5 HQ
      go_wp2_with fail
      refine (m1.out _ HB.out).mono ?_
      rintro e V5 ⟨vm, rfl, hom, hb⟩
      obtain ⟨Gm, cm, rfl, _⟩ := La.own_slice hom
      have TM := Lib.hid (La.own_slat hom)
      have HB := Lib.hid (HB.out.trans (hb.mono HB.out.size))
      clear hom hb m1 z0 z1 z2 x0 x1 x2
      obtain ⟨⟨z0, z1, z2⟩, x0, x1, x2⟩ := HC4.out _ HB.out
      go_wp2_with fail
      refine (m2.out _ HB.out).mono ?_
      rintro e V6 ⟨rfl, hb⟩
      have TM := Lib.hid (La.SlAt.below TM.out hb)
      have HB := Lib.hid (HB.out.trans (hb.mono HB.out.size))
      clear hb m2 z0 z1 z2 x0 x1 x2
      obtain ⟨⟨z0, z1, z2⟩, x0, x1, x2⟩ := HC4.out _ HB.out
      obtain ⟨nb, no, hNa, _, _, _, _, _, _, _, _, _, l8, _⟩ := atN (HSV.out _ (HBV.out.trans (HB.out.mono HBV.out.size))).n.cells hnd
      subst hNa
      go_upto_region 19 with fail
      go_cut [159] (fun v wc => v = .bool false ∧ wc = V6)
      case first =>
        rcases hcd with rfl | hcd
        · rcases hbb with rfl | rfl
          · go_wp2_with fail
            go_meet
            exact ⟨rfl, rfl⟩
          · cases b0 <;>
            · go_wp2_with fail
              go_meet
              exact ⟨rfl, rfl⟩
        · rw [hcd] at l8
          have hkk : kd = 1 ∨ kd = 2 := hkd
          rcases hkk with rfl | rfl
          all_goals
            rcases hbb with rfl | rfl
            · go_wp2_with fail
              go_meet
              exact ⟨rfl, rfl⟩
            · cases b0 <;>
              · go_wp2_with fail
                go_meet
                exact ⟨rfl, rfl⟩
      case' rest => obtain ⟨rfl, rfl⟩ := hcut
      clear l8 z0 z1 z2 x0 x1 x2 hcd hbb
      have TA6 := Lib.hid (fun W' (hb : Below wc.heap.size wc W') => La.SlAt.below TA2.out (HB8.out.trans ((HB.out.trans (hb.mono HB.out.size)).mono HB8.out.size)))
      have TM6 := Lib.hid (fun W' (hb : Below wc.heap.size wc W') => La.SlAt.below TM.out hb)
      go_wp2_with fail
      go_loopw [21] (fun v wq => ∃ j : Nat, j ≤ M.length ∧ v = .int .i64 j ∧ Below wc.heap.size wc wq) (fun v _ => M.length - (intOf v).toNat)
      case atStart => exact ⟨0, by omega, rfl, Below.refl _ _⟩
      case round =>
        obtain ⟨j, hj, rfl, hbq⟩ := hrel
        have HBq := Lib.hid hbq
        clear hbq
        by_cases hjl : j < M.length
        case neg =>
          obtain rfl : j = M.length := by omega
          have HBo := Lib.hid (HB.out.trans (HBq.out.mono HB.out.size))
          have HEND := Lib.hid (IN.out.below HBo.out)
          have HBp := Lib.hid (HB8.out.trans (HBo.out.mono HB8.out.size))
          go_wp2_with fail
          go_roundw
          case rel => exact ⟨k + 1, nq, Gn, cn, by omega, by go_num, rfl, HEND.out, HBp.out, HE3.out, HK3.out, HS3.out⟩
          case measure => simp [intOf]; omega
        have j0 : (0 : Int) ≤ (j : Int) := by omega
        have j1 : (j : Int) < (M.length : Int) := by omega
        obtain ⟨y, hy⟩ : ∃ y, M[j]? = some y := ⟨M[j], List.getElem?_eq_getElem hjl⟩
        obtain ⟨gy, oy, hG, hbg, e0, e1, e2, e3⟩ := atC (TM6.out _ HBq.out) hy
        subst hG
        have hle9 : y.2.2.2 ≤ (findC L0 y.1 y.2.1 y.2.2.1).getD 0 := HKM.out y (List.mem_of_getElem? hy)
        have KF := Lib.hid (fun W' (hb : Below wr.heap.size wr W') => find10_any Ga ca2 L0 y W' hF0 (TA6.out W' (HBq.out.trans (hb.mono HBq.out.size))))
        generalize (findC L0 y.1 y.2.1 y.2.2.1).getD 0 = fd at hle9 KF
        have hgt9 : ¬ fd < y.2.2.2 := by omega
        have hgd9 : decide (fd < y.2.2.2) = false := decide_eq_false hgt9
        have XX := Lib.hid (fun W' (hb : Below wr.heap.size wr W') => (show W'.cell? ⟨gy, oy + j * 4, none⟩ = some (.int .i64 y.1) ∧ W'.cell? ⟨gy, oy + j * 4 + 1, none⟩ = some (.int .i64 y.2.1) ∧ W'.cell? ⟨gy, oy + j * 4 + 2, none⟩ = some (.int .i64 y.2.2.1) ∧ W'.cell? ⟨gy, oy + j * 4 + 3, none⟩ = some (.int .i64 y.2.2.2) from ⟨(hb.cell (p := ⟨gy, oy + j * 4, none⟩) hbg).trans e0, (hb.cell (p := ⟨gy, oy + j * 4 + 1, none⟩) hbg).trans e1, (hb.cell (p := ⟨gy, oy + j * 4 + 2, none⟩) hbg).trans e2, (hb.cell (p := ⟨gy, oy + j * 4 + 3, none⟩) hbg).trans e3⟩))
        have HD : Hid (Below wr.heap.size wr wr.drew) := Lib.hid ((Below.refl _ wr).drew)
        clear e0 e1 e2 e3 hy
        obtain ⟨x0, x1, x2, x3⟩ := XX.out _ HD.out
        go_upto_region 24 with fail
        go_cut [177] (fun v wc => v = .bool false ∧ Below wr.heap.size wr wc)
        case first =>
          go_region_held3 (fun w' => w'.cell? ⟨gy, oy + j * 4, none⟩ = some (.int .i64 y.1) ∧ w'.cell? ⟨gy, oy + j * 4 + 1, none⟩ = some (.int .i64 y.2.1) ∧ w'.cell? ⟨gy, oy + j * 4 + 2, none⟩ = some (.int .i64 y.2.2.1) ∧ w'.cell? ⟨gy, oy + j * 4 + 3, none⟩ = some (.int .i64 y.2.2.2))
            (first | exact ⟨x0, x1, x2, x3⟩ | exact ⟨by assumption, by assumption, by assumption, by assumption⟩)
            (first
              | (go_at_call 27
                 refine (KF.out _ HD.out).mono ?_
                 rintro e wA ⟨rfl, hbA⟩
                 have HDA := Lib.hid (HD.out.trans (hbA.mono HD.out.size))
                 obtain ⟨y0, y1, y2, y3⟩ := XX.out _ HDA.out
                 clear hbA))
          all_goals
            (try go_wp2_with fail)
            go_meet
            exact ⟨by first | rfl | trivial, HDA.out⟩
        case' rest => obtain ⟨rfl, hbc⟩ := hcut
        have HQ9 := Lib.hid (HBq.out.trans (hbc.mono HBq.out.size))
        clear hbc KF XX HD x0 x1 x2 x3
        go_wp2_with fail
        go_roundw
        case rel => exact ⟨j + 1, by omega, by go_num, HQ9.out⟩
        case measure => simp [intOf]; omega
end Go.Proofs.YtiiheajieegdkaaGreat
