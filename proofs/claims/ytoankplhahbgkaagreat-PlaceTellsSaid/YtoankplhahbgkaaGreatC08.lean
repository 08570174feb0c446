/- A placement that may be, made out of numbers: the contract of fitted. Condition: the cluster and the numbers lie in memory. Steps there and back, and the moves between two placements, taken one after another: numbers only. Conditions: the placements may be. What the document's Moves, SameMoves and Apply answer. Contracts. Condition: the arguments lie in memory. There and back, and along the moves: true. Condition: the arguments lie in memory. Apply and Moves answer as the document says: the law's walk. Condition: the arguments lie in memory. Numbers and steps as arguments, opened; how much they take. No conditions but the form's own. What the nodes' pods ask for, added up, is what the pods that run ask for; what is counted on the nodes is what runs: numbers only. Conditions: each pod is on one of the nodes or waits. What is counted in the domains is no more than what is counted: numbers and keys only. Conditions: the pods are on nodes that there are. Two rows added, as a machine adds: the contract of total. No conditions. What Counts, Spread and Placed tell of one owner: numbers only. Condition: the placement may be. -/
import Derived.Test.YtoankplhahbgkaaGreatC07
import Derived.SizedLaws

namespace Go.Proofs.YtoankplhahbgkaaGreat
open Go.RowKit

/-- The node that a number names. -/
def fitN (ns : List NodeD) (l : List Int) (k : Nat) : Int := match l[k]? with
  | some x => x % ((ns.length : Int) + 1) - 1
  | none => -1
/-- .. if pods may be there; else none. -/
def fit1 (ns : List NodeD) (l : List Int) (k : Nat) : Int := if tpB ns (fitN ns l k) then fitN ns l k else -1
def fitU (ns : List NodeD) (l : List Int) : Nat → List Int
  | 0 => []
  | k + 1 => fitU ns l k ++ [fit1 ns l k]
theorem fitU_len (ns : List NodeD) (l : List Int) : ∀ k, (fitU ns l k).length = k
  | 0 => rfl
  | k + 1 => by rw [fitU, List.length_append, fitU_len ns l k]; rfl
theorem fitN_in (ns : List NodeD) (l : List Int) (k : Nat) : fitN ns l k = -1 ∨ (0 ≤ fitN ns l k ∧ fitN ns l k < (ns.length : Int)) := by
  unfold fitN
  cases l[k]? with
  | none => exact .inl rfl
  | some x =>
    dsimp only
    have h1 := Int.emod_nonneg x (show (ns.length : Int) + 1 ≠ 0 by omega)
    have h2 := Int.emod_lt_of_pos x (show (0 : Int) < (ns.length : Int) + 1 by omega)
    omega
theorem fitU_ok (ns : List NodeD) (l : List Int) : ∀ k, ∀ x ∈ fitU ns l k, okB ns x = true
  | 0, x, h => by cases h
  | k + 1, x, h => by
    rw [fitU, List.mem_append] at h
    rcases h with h | h
    · exact fitU_ok ns l k x h
    · simp only [List.mem_singleton] at h
      subst h
      unfold fit1 okB
      split
      · rename_i ht
        rw [ht, Bool.or_true]
      · rfl

set_option maxRecDepth 100000 in
set_option maxHeartbeats 4000000 in
theorem fitted_any (A B C P : Option Addr) (ca cb cc cp : Nat) (ns : List NodeD) (ps : List PodD) (os : List OwnD) (l : List Int) (w : World) (h : SnapAt w A B C ca cb cc ns ps os) (hp : IntsAt w P cp l) :
    Calls Tryz.prog 40 #[snapV A B C ca cb cc ns ps os, .slice P l.length cp] w fun e w' => ∃ v, e = .returned v ∧ w'.ownsRow w.heap.size 3 1 v ps.length (intsC (fitU ns l ps.length)) ∧ Below w.heap.size w w' := by
  have H := Lib.hid h
  have HP := Lib.hid hp
  have hlp := h.lp
  have hln := h.ln
  have hll : l.length ≤ 9223372036854775807 := Nat.le_trans hp.le hp.most
  have B0 : Hid (Below w.heap.size w (w.alloc (.cells (snapC A B C ca cb cc ns ps os) 26))) := Lib.hid (below1 w _)
  have S0 : Hid (Blk (w.alloc (.cells (snapC A B C ca cb cc ns ps os) 26)) w.heap.size (snapC A B C ca cb cc ns ps os) 26) := Lib.hid (Blk.new w _ _)
  obtain ⟨i0, hi0, hz0, hz1, hz2⟩ := info_parts Qu.int_info
  clear h hp
  go_enter Tryz.func40, Tryz.ntmps40
  go_wp2_with fail
  go_loopw [6, 5] (fun i v wr => ∃ k : Nat, k ≤ ps.length ∧ i = .int .i64 k ∧ wr.ownsRow w.heap.size 3 1 v k (intsC (fitU ns l k)) ∧ Below w.heap.size w wr ∧ Blk wr w.heap.size (snapC A B C ca cb cc ns ps os) 26) (fun i _ _ => ps.length - (intOf i).toNat)
  case atStart => exact ⟨0, by omega, rfl, World.ownsRow_nil _ _ _ _, B0.out, S0.out⟩
  case round =>
    clear B0 S0
    obtain ⟨k, hk, rfl, ho, hb, hs⟩ := hrel
    have HO := Lib.hid ho
    have HB := Lib.hid hb
    have HS := Lib.hid hs
    clear ho hb hs
    have s0 : wr.cell? ⟨w.heap.size, 0, none⟩ = some (.slice A ns.length ca) := Blk.cell HS.out 0
    have s1 : wr.cell? ⟨w.heap.size, 1, none⟩ = some (.slice B ps.length cb) := Blk.cell HS.out 1
    by_cases hlt : k < ps.length
    · have E : Hid (fitU ns l (k + 1) = fitU ns l k ++ [fit1 ns l k]) := Lib.hid rfl
      have E1 : Hid (fit1 ns l k = if tpB ns (fitN ns l k) then fitN ns l k else -1) := Lib.hid rfl
      have EN := Lib.hid (fitN_in ns l k)
      have k0 : (0 : Int) ≤ (k : Int) := by omega
      have k1 : (k : Int) < (ps.length : Int) := by omega
      have hkm : Hid (k + 1 ≤ maxLen) := Lib.hid (by unfold maxLen; omega)
      have hkc : Hid ((k + 1) * 8 ≤ 140737488355328) := Lib.hid (by omega)
      go_upto_if 18 with fail
      go_cut [7] (fun v wc => v = .int .i64 (fitN ns l k) ∧ (wc = wr ∨ wc = wr.drew))
      case first =>
        by_cases hkl : k < l.length
        · obtain ⟨x, hx⟩ : ∃ x, l[k]? = some x := ⟨l[k], List.getElem?_eq_getElem hkl⟩
          have FX : Hid (fitN ns l k = x % ((ns.length : Int) + 1) - 1) := Lib.hid (by unfold fitN; rw [hx])
          obtain ⟨b, o, hA, hbl, c0⟩ := atI (HP.out.below (HB.out.mono (Nat.le_refl _))).cells hx
          subst hA
          have k2 : (k : Int) < (l.length : Int) := by omega
          have hw1 : Hid (IntKind.i64.wrap ((ns.length : Int) + 1) = (ns.length : Int) + 1) := Lib.hid (IntWalk.i64_in _ (by omega))
          have BR := Lib.hid (fun W => Qu.bring_any x ((ns.length : Int) + 1) W (by omega) (by omega))
          have S0 : wr.drew.cell? ⟨w.heap.size, 0, none⟩ = some (.slice (A) ns.length ca) := s0
          have C0 : wr.drew.cell? ⟨b, o + k, none⟩ = some (.int .i64 x) := c0
          have em0 := Int.emod_nonneg x (show (ns.length : Int) + 1 ≠ 0 by omega)
          have em1 := Int.emod_lt_of_pos x (show (0 : Int) < (ns.length : Int) + 1 by omega)
          have hw2 : Hid (IntKind.i64.wrap (x % ((ns.length : Int) + 1) - 1) = x % ((ns.length : Int) + 1) - 1) := Lib.hid (IntWalk.i64_in _ (by omega))
          go_upto_region 7 with fail
          go_region_held3 (fun w' => w'.cell? ⟨w.heap.size, 0, none⟩ = some (.slice A ns.length ca) ∧ w'.cell? ⟨b, o + k, none⟩ = some (.int .i64 x))
            (first | (with_reducible exact ⟨S0, C0⟩) | (with_reducible exact ⟨s0, c0⟩) | go_keep)
            ((go_at_call 88; (rw [hw1.out]); (with_reducible refine (BR.out _).mono ?_); rintro e w3 ⟨rfl, rfl⟩))
          all_goals
            go_wp2_with fail
            go_meet
            exact ⟨by rw [FX.out, hw2.out], .inr rfl⟩
        · have FX : Hid (fitN ns l k = -1) := Lib.hid (by unfold fitN; rw [List.getElem?_eq_none (by omega)])
          go_wp2_with fail
          go_meet
          exact ⟨by rw [FX.out], .inl rfl⟩
      case rest =>
        obtain ⟨rfl, hwc⟩ := hcut
        have HO1 : Hid (wc.ownsRow w.heap.size 3 1 u5 k (intsC (fitU ns l k))) := by
          rcases hwc with rfl | rfl
          · exact HO
          · exact Lib.hid (show World.ownsRow wr.drew _ _ _ _ _ _ from HO.out)
        have HB1 : Hid (Below w.heap.size w wc) := by
          rcases hwc with rfl | rfl
          · exact HB
          · exact Lib.hid HB.out.drew
        have HS1 : Hid (Blk wc w.heap.size (snapC A B C ca cb cc ns ps os) 26) := by
          rcases hwc with rfl | rfl
          · exact HS
          · exact Lib.hid (show Blk wr.drew _ _ _ from HS.out)
        have z0 : wc.cell? ⟨w.heap.size, 0, none⟩ = some (.slice A ns.length ca) := Blk.cell HS1.out 0
        clear HO HB HS s0 s1 hwc
        obtain ⟨N, hN⟩ : ∃ N, fitN ns l k = N := ⟨_, rfl⟩
        rw [hN] at E1 EN
        rw [hN]
        clear hN
        by_cases hn : 0 ≤ N ∧ N < (ns.length : Int)
        · obtain ⟨hn0, hn1⟩ := hn
          obtain ⟨n, rfl⟩ : ∃ n : Nat, N = (n : Int) := ⟨N.toNat, by omega⟩
          have hnl : n < ns.length := by omega
          obtain ⟨x, hx⟩ : ∃ x, ns[n]? = some x := ⟨ns[n], List.getElem?_eq_getElem hnl⟩
          obtain ⟨b, o, hA, hbl, c0, c1, c2, c3, c4, c5, c6, c7, c8, c9⟩ := atN (H.out.below HB1.out).n.cells hx
          subst hA
          have T : Hid (tpB ns (n : Int) = !x.lost) := Lib.hid (by unfold tpB; rw [Int.toNat_natCast, hx]; simp)
          clear hx c0 c1 c2 c3 c4 c5 c6 c7 c8
          obtain ⟨r, hr⟩ : ∃ r, x.lost = r := ⟨_, rfl⟩
          rw [hr] at c9 T
          clear hr
          cases r with
          | false =>
            have F : Hid (fit1 ns l k = (n : Int)) := Lib.hid (by rw [E1.out, T.out]; rfl)
            go_wp2_with (at_builtin; refine wpList_append_own _ rfl _ _ 27 rfl w.heap.size 3 i0 (.int .i64 0) 1 8 Tryz.underlying27 hi0 hz0 hz1 hz2 rfl (by decide) _ _ _ rfl (show World.ownsRow _ _ _ _ _ _ _ from HO1.out.alloc _) ⟨wc.heap.size, 0, none⟩ 1 1 [.int .i64 (n : Int)] rfl rfl ?c1 ?c2 ?c3 ?c4 ?c5 ?_)
            case c1 =>
              intro j u hj
              match j, hj with
              | 0, hj => simp at hj; subst hj; simp [Addr.add]
            case c2 => first | rfl | (intro u hu; simp at hu; subst hu; rfl)
            case c3 => have := hkm.out; omega
            case c4 => have := hkc.out; omega
            case c5 => have := HB1.out.size; simp; omega
            intro v' w2 hown' hgrow' _
            have hwz : w.heap.size < wc.heap.size := Blk.lt HS1.out
            have HO2 := Lib.hid hown'
            have HW2 := Lib.hid ((HB1.out.alloc HB1.out.size (.cells #[.int .i64 (n : Int)] 3)).grown hgrow' (by have := HB1.out.size; simp; omega) (fun j hj => own_gem HO1.out hj))
            have HS2 : Hid (Blk w2 w.heap.size (snapC (some ⟨b, o, none⟩) B C ca cb cc ns ps os) 26) := Lib.hid (Blk.kept (Blk.alloc HS1.out (.cells #[.int .i64 (n : Int)] 3)) hgrow' (fun e => by
              have he := e.symm
              rcases HO1.out.2 with ⟨hv, _⟩ | ⟨g, cap, cur, hv, hbg, hg, _⟩
              · rw [hv] at he; cases he
              · rw [hv] at he
                simp only [Value.ownBlock, Option.some.injEq] at he
                subst he
                have h1 := HS1.out
                unfold Blk at h1
                rw [hg] at h1
                cases h1))
            clear hown' hgrow'
            go_wp2
            go_roundw
            case rel =>
              refine ⟨k + 1, by omega, by go_num, ?_, HW2.out, HS2.out⟩
              rw [E.out, F.out]
              simpa [intsC] using HO2.out
            case measure => simp [intOf]; omega
          | true =>
            have F : Hid (fit1 ns l k = -1) := Lib.hid (by rw [E1.out, T.out]; rfl)
            go_wp2_with (at_builtin; refine wpList_append_own _ rfl _ _ 27 rfl w.heap.size 3 i0 (.int .i64 0) 1 8 Tryz.underlying27 hi0 hz0 hz1 hz2 rfl (by decide) _ _ _ rfl (show World.ownsRow _ _ _ _ _ _ _ from HO1.out.alloc _) ⟨wc.heap.size, 0, none⟩ 1 1 [.int .i64 (-1)] rfl rfl ?c1 ?c2 ?c3 ?c4 ?c5 ?_)
            case c1 =>
              intro j u hj
              match j, hj with
              | 0, hj => simp at hj; subst hj; simp [Addr.add]
            case c2 => first | rfl | (intro u hu; simp at hu; subst hu; rfl)
            case c3 => have := hkm.out; omega
            case c4 => have := hkc.out; omega
            case c5 => have := HB1.out.size; simp; omega
            intro v' w2 hown' hgrow' _
            have hwz : w.heap.size < wc.heap.size := Blk.lt HS1.out
            have HO2 := Lib.hid hown'
            have HW2 := Lib.hid ((HB1.out.alloc HB1.out.size (.cells #[.int .i64 (-1)] 3)).grown hgrow' (by have := HB1.out.size; simp; omega) (fun j hj => own_gem HO1.out hj))
            have HS2 : Hid (Blk w2 w.heap.size (snapC (some ⟨b, o, none⟩) B C ca cb cc ns ps os) 26) := Lib.hid (Blk.kept (Blk.alloc HS1.out (.cells #[.int .i64 (-1)] 3)) hgrow' (fun e => by
              have he := e.symm
              rcases HO1.out.2 with ⟨hv, _⟩ | ⟨g, cap, cur, hv, hbg, hg, _⟩
              · rw [hv] at he; cases he
              · rw [hv] at he
                simp only [Value.ownBlock, Option.some.injEq] at he
                subst he
                have h1 := HS1.out
                unfold Blk at h1
                rw [hg] at h1
                cases h1))
            clear hown' hgrow'
            go_wp2
            go_roundw
            case rel =>
              refine ⟨k + 1, by omega, by go_num, ?_, HW2.out, HS2.out⟩
              rw [E.out, F.out]
              simpa [intsC] using HO2.out
            case measure => simp [intOf]; omega
        · obtain rfl : N = -1 := by have := EN.out; omega
          have F : Hid (fit1 ns l k = -1) := Lib.hid (by rw [E1.out, ite_self])
          clear hn
          go_wp2_with (at_builtin; refine wpList_append_own _ rfl _ _ 27 rfl w.heap.size 3 i0 (.int .i64 0) 1 8 Tryz.underlying27 hi0 hz0 hz1 hz2 rfl (by decide) _ _ _ rfl (show World.ownsRow _ _ _ _ _ _ _ from HO1.out.alloc _) ⟨wc.heap.size, 0, none⟩ 1 1 [.int .i64 (-1)] rfl rfl ?c1 ?c2 ?c3 ?c4 ?c5 ?_)
          try case c1 =>
            intro j u hj
            match j, hj with
            | 0, hj => simp at hj; subst hj; simp [Addr.add]
          case c2 => first | rfl | (intro u hu; simp at hu; subst hu; rfl)
          case c3 => have := hkm.out; omega
          case c4 => have := hkc.out; omega
          case c5 => have := HB1.out.size; simp; omega
          intro v' w2 hown' hgrow' _
          have hwz : w.heap.size < wc.heap.size := Blk.lt HS1.out
          have HO2 := Lib.hid hown'
          have HW2 := Lib.hid ((HB1.out.alloc HB1.out.size (.cells #[.int .i64 (-1)] 3)).grown hgrow' (by have := HB1.out.size; simp; omega) (fun j hj => own_gem HO1.out hj))
          have HS2 : Hid (Blk w2 w.heap.size (snapC A B C ca cb cc ns ps os) 26) := Lib.hid (Blk.kept (Blk.alloc HS1.out (.cells #[.int .i64 (-1)] 3)) hgrow' (fun e => by
            have he := e.symm
            rcases HO1.out.2 with ⟨hv, _⟩ | ⟨g, cap, cur, hv, hbg, hg, _⟩
            · rw [hv] at he; cases he
            · rw [hv] at he
              simp only [Value.ownBlock, Option.some.injEq] at he
              subst he
              have h1 := HS1.out
              unfold Blk at h1
              rw [hg] at h1
              cases h1))
          clear hown' hgrow'
          go_wp2
          go_roundw
          case rel =>
            refine ⟨k + 1, by omega, by go_num, ?_, HW2.out, HS2.out⟩
            rw [E.out, F.out]
            simpa [intsC] using HO2.out
          case measure => simp [intOf]; omega
    · obtain rfl : k = ps.length := by omega
      go_wp2
      go_ret
      exact ⟨_, rfl, HO.out, HB.out⟩
end Go.Proofs.YtoankplhahbgkaaGreat

namespace Go.Proofs.YtoankplhahbgkaaGreat
open Go.RowKit

theorem placeE_zero {ns : List NodeD} {ps : List PodD} {os : List OwnD} {p : List Int} (h : placeE ns ps os p = 0) : checkS ns ps os = 0 ∧ p.length = ps.length ∧ ∀ x ∈ p, okB ns x = true := by
  unfold placeE at h
  by_cases h0 : checkS ns ps os = 0
  · rw [if_pos h0] at h
    by_cases h1 : p.length = ps.length
    · rw [if_pos h1] at h
      by_cases h2 : p.all (okB ns) = true
      · exact ⟨h0, h1, List.all_eq_true.1 h2⟩
      · rw [if_neg h2] at h
        cases h
    · rw [if_neg h1] at h
      cases h
  · rw [if_neg h0] at h
    exact absurd h h0
theorem placeE_of {ns : List NodeD} {ps : List PodD} {os : List OwnD} {p : List Int} (h0 : checkS ns ps os = 0) (h1 : p.length = ps.length) (h2 : ∀ x ∈ p, okB ns x = true) : placeE ns ps os p = 0 := by
  unfold placeE
  rw [if_pos h0, if_pos h1, if_pos (List.all_eq_true.2 h2)]
theorem ok_none (ns : List NodeD) : okB ns (-1) = true := rfl
theorem placeE_set {ns : List NodeD} {ps : List PodD} {os : List OwnD} {p : List Int} (h : placeE ns ps os p = 0) (k : Nat) {x : Int} (hx : okB ns x = true) : placeE ns ps os (p.set k x) = 0 := by
  obtain ⟨h0, h1, h2⟩ := placeE_zero h
  refine placeE_of h0 (by rw [List.length_set, h1]) ?_
  intro y hy
  rcases List.mem_or_eq_of_mem_set hy with hy | rfl
  · exact h2 y hy
  · exact hx
theorem ok_tp {ns : List NodeD} {x : Int} (h : okB ns x = true) (hx : 0 ≤ x) : tpB ns x = true := by
  unfold okB at h
  rw [decide_eq_false (by omega), Bool.false_or] at h
  exact h
theorem ok_neg {ns : List NodeD} {x : Int} (h : okB ns x = true) (hx : ¬ 0 ≤ x) : x = -1 := by
  unfold okB tpB at h
  rw [decide_eq_false hx, Bool.false_and, Bool.or_false] at h
  exact of_decide_eq_true h
theorem tp_lost {ns : List NodeD} {x : Int} (h : tpB ns x = true) : lostB ns x.toNat = false := by
  unfold tpB at h
  unfold lostB
  cases hq : ns[x.toNat]? with
  | none => rfl
  | some y =>
    rw [hq] at h
    simp only [Bool.and_eq_true, Bool.not_eq_true'] at h
    exact h.2

/-- A pod that runs is evicted. -/
theorem evict_is {ns : List NodeD} {ps : List PodD} {os : List OwnD} {p : List Int} (h : placeE ns ps os p = 0) {k : Nat} {x : Int} (hk : p[k]? = some x) (hx : 0 ≤ x) : applyF ns ps os p 1 k 0 = (p.set k (-1), 0) := by
  have hl := (List.getElem?_eq_some_iff.1 hk).1
  unfold applyF evictF
  rw [if_pos h, if_pos rfl, if_pos (by omega), if_pos rfl, Int.toNat_natCast, hk, if_neg]
  intro e
  simp only [Option.some.injEq] at e
  omega
/-- A pod that waits is bound. -/
theorem bind_is {ns : List NodeD} {ps : List PodD} {os : List OwnD} {p : List Int} (h : placeE ns ps os p = 0) {k : Nat} (hk : p[k]? = some (-1)) {x : Int} (hx : tpB ns x = true) : applyF ns ps os p 2 k x = (p.set k x, 0) := by
  have hl := (List.getElem?_eq_some_iff.1 hk).1
  obtain ⟨n, rfl, hn⟩ := tpB_lt hx
  unfold applyF bindF
  rw [if_pos h, if_neg (by decide), if_pos rfl, if_pos (by omega), if_pos (by omega), Int.toNat_natCast, hk, if_pos rfl, tp_lost hx]
  rfl
/-- .. and back. -/
theorem back_is {p : List Int} {k : Nat} {x : Int} (hk : p[k]? = some x) : (p.set k (-1)).set k x = p := by
  rw [List.set_set]
  obtain ⟨hl, rfl⟩ := List.getElem?_eq_some_iff.1 hk
  exact List.set_getElem_self hl

/-- Between two placements: the first k of the second, the rest of the first. -/
def mixL (p q : List Int) (k : Nat) : List Int := q.take k ++ p.drop k
theorem mix_none (p q : List Int) : mixL p q 0 = p := by simp [mixL]
theorem mix_len {p q : List Int} (h : p.length = q.length) (k : Nat) : (mixL p q k).length = p.length := by
  simp [mixL]
  omega
theorem mix_all {p q : List Int} (h : p.length = q.length) : mixL p q p.length = q := by
  unfold mixL
  rw [List.drop_length, List.append_nil, h, List.take_length]
theorem mix_at {p q : List Int} (h : p.length = q.length) {k : Nat} (hk : k < p.length) : (mixL p q k)[k]? = some p[k] := by
  unfold mixL
  rw [List.getElem?_append_right (by rw [List.length_take]; omega), List.length_take, List.getElem?_drop]
  rw [show k + (k - min k q.length) = k by omega]
  exact List.getElem?_eq_getElem hk
theorem mix_step {p q : List Int} (h : p.length = q.length) {k : Nat} (hk : k < p.length) : (mixL p q k).set k (q[k]'(h ▸ hk)) = mixL p q (k + 1) := by
  have hq : k < q.length := h ▸ hk
  unfold mixL
  have e : (q.take k).length = k := by rw [List.length_take]; omega
  rw [List.set_append_right _ _ (by rw [e]; exact Nat.le_refl _), e, Nat.sub_self, List.drop_eq_getElem_cons hk, List.set_cons_zero, List.take_succ_eq_append_getElem hq, List.append_assoc]
  rfl
theorem mix_ok {ns : List NodeD} {ps : List PodD} {os : List OwnD} {p q : List Int} (hp : placeE ns ps os p = 0) (hq : placeE ns ps os q = 0) (k : Nat) : placeE ns ps os (mixL p q k) = 0 := by
  obtain ⟨h0, h1, h2⟩ := placeE_zero hp
  obtain ⟨_, g1, g2⟩ := placeE_zero hq
  refine placeE_of h0 (by rw [mix_len (h1.trans g1.symm), h1]) ?_
  intro x hx
  unfold mixL at hx
  rw [List.mem_append] at hx
  rcases hx with hx | hx
  · exact g2 x (List.mem_of_mem_take hx)
  · exact h2 x (List.mem_of_mem_drop hx)

/-- The next move from k on: where it stands, and that nothing between is unlike. -/
theorem move_next {p q : List Int} (h : p.length = q.length) : ∀ (d k : Nat), k + d = p.length → ∀ m, (movesU p q p.length)[(movesU p q k).length]? = some m → ∃ i, k ≤ i ∧ ∃ hi : i < p.length, m = ((i : Int), q[i]'(h ▸ hi)) ∧ p[i] ≠ q[i]'(h ▸ hi) ∧ mixL p q i = mixL p q k ∧ (movesU p q (i + 1)).length = (movesU p q k).length + 1 := by
  intro d
  induction d with
  | zero =>
    intro k hk m hm
    have : k = p.length := by omega
    subst this
    rw [List.getElem?_eq_none (Nat.le_refl _)] at hm
    cases hm
  | succ d ih =>
    intro k hk m hm
    have hkp : k < p.length := by omega
    have hkq : k < q.length := h ▸ hkp
    have gp : p.getD k 0 = p[k] := by rw [List.getD_eq_getElem?_getD, List.getElem?_eq_getElem hkp]; rfl
    have gq : q.getD k 0 = q[k] := by rw [List.getD_eq_getElem?_getD, List.getElem?_eq_getElem hkq]; rfl
    by_cases he : p[k] = q[k]
    · have e1 : movesU p q (k + 1) = movesU p q k := by
        rw [movesU, if_pos (by rw [gp, gq, he]), List.append_nil]
      have e2 : mixL p q (k + 1) = mixL p q k := by
        rw [← mix_step h hkp]
        have := mix_at h hkp
        rw [he] at this
        obtain ⟨hl, e⟩ := List.getElem?_eq_some_iff.1 this
        rw [← e]
        exact List.set_getElem_self hl
      obtain ⟨i, h1, hi, h2, h3, h4, h5⟩ := ih (k + 1) (by omega) m (by rw [e1]; exact hm)
      exact ⟨i, by omega, hi, h2, h3, by rw [h4, e2], by rw [h5, e1]⟩
    · have e1 : movesU p q (k + 1) = movesU p q k ++ [((k : Int), q[k])] := by
        rw [movesU, if_neg (by rw [gp, gq]; exact he), gq]
      have e3 : ∀ d', k + 1 + d' ≤ p.length → ∃ r, movesU p q (k + 1 + d') = movesU p q (k + 1) ++ r := by
        intro d'
        induction d' with
        | zero => intro _; exact ⟨[], by simp⟩
        | succ d' ih' =>
          intro hd
          obtain ⟨r, hr⟩ := ih' (by omega)
          exact ⟨r ++ _, by rw [show k + 1 + (d' + 1) = (k + 1 + d') + 1 by omega, movesU, hr, List.append_assoc]⟩
      obtain ⟨r, hr⟩ := e3 d (by omega)
      rw [show k + 1 + d = p.length by omega] at hr
      rw [hr, e1, List.append_assoc, List.getElem?_append_right (Nat.le_refl _), Nat.sub_self] at hm
      simp only [List.singleton_append, List.getElem?_cons_zero, Option.some.injEq] at hm
      exact ⟨k, Nat.le_refl _, hkp, hm.symm, he, rfl, by rw [e1, List.length_append]; rfl⟩
/-- Behind the last move there is nothing unlike any more. -/
theorem move_last {p q : List Int} (h : p.length = q.length) : ∀ (d k : Nat), k + d = p.length → (movesU p q k).length = (movesU p q p.length).length → mixL p q k = q := by
  intro d
  induction d with
  | zero =>
    intro k hk _
    have : k = p.length := by omega
    subst this
    exact mix_all h
  | succ d ih =>
    intro k hk hm
    have hkp : k < p.length := by omega
    have hkq : k < q.length := h ▸ hkp
    have gp : p.getD k 0 = p[k] := by rw [List.getD_eq_getElem?_getD, List.getElem?_eq_getElem hkp]; rfl
    have gq : q.getD k 0 = q[k] := by rw [List.getD_eq_getElem?_getD, List.getElem?_eq_getElem hkq]; rfl
    have mono : ∀ d' j, (movesU p q j).length ≤ (movesU p q (j + d')).length := by
      intro d'
      induction d' with
      | zero => intro j; exact Nat.le_refl _
      | succ d' ih' =>
        intro j
        have := ih' j
        rw [show j + (d' + 1) = (j + d') + 1 by omega, movesU, List.length_append]
        omega
    by_cases he : p[k] = q[k]
    · have e1 : movesU p q (k + 1) = movesU p q k := by
        rw [movesU, if_pos (by rw [gp, gq, he]), List.append_nil]
      have e2 : mixL p q (k + 1) = mixL p q k := by
        rw [← mix_step h hkp]
        have := mix_at h hkp
        rw [he] at this
        obtain ⟨hl, e⟩ := List.getElem?_eq_some_iff.1 this
        rw [← e]
        exact List.set_getElem_self hl
      rw [← e2]
      exact ih (k + 1) (by omega) (by rw [e1]; exact hm)
    · exfalso
      have e1 : movesU p q (k + 1) = movesU p q k ++ [((k : Int), q[k])] := by
        rw [movesU, if_neg (by rw [gp, gq]; exact he), gq]
      have := mono d (k + 1)
      rw [show k + 1 + d = p.length by omega, e1, List.length_append, ← hm] at this
      simp only [List.length_cons, List.length_nil] at this
      omega
/-- The next move from k on, all that a round asks of it. -/
theorem move_to {p q : List Int} (h : p.length = q.length) (k : Nat) (hk : k ≤ p.length) (m : Int × Int) (hm : (movesF p q)[(movesU p q k).length]? = some m) : ∃ (i : Nat) (a b : Int), i < p.length ∧ p[i]? = some a ∧ q[i]? = some b ∧ m = ((i : Int), b) ∧ a ≠ b ∧ (movesU p q (i + 1)).length = (movesU p q k).length + 1 ∧ (mixL p q k)[i]? = some a ∧ (mixL p q k).set i b = mixL p q (i + 1) := by
  have e : movesF p q = movesU p q p.length := by
    unfold movesF
    rw [← h, Nat.min_self]
  rw [e] at hm
  obtain ⟨i, _, hi, h2, h3, h4, h5⟩ := move_next h (p.length - k) k (by omega) m hm
  have hq : i < q.length := h ▸ hi
  exact ⟨i, p[i], q[i], hi, List.getElem?_eq_getElem hi, List.getElem?_eq_getElem hq, h2, h3, h5, by rw [← h4]; exact mix_at h hi, by rw [← h4]; exact mix_step h hi⟩
theorem move_end {p q : List Int} (h : p.length = q.length) (k : Nat) (hk : k ≤ p.length) (hm : (movesU p q k).length = (movesF p q).length) : mixL p q k = q := by
  have e : movesF p q = movesU p q p.length := by
    unfold movesF
    rw [← h, Nat.min_self]
  rw [e] at hm
  exact move_last h (p.length - k) k (by omega) hm
theorem cells2_at : ∀ (l : List (Int × Int)) (j : Nat) (m : Int × Int), l[j]? = some m → (cells2 l)[j * 2]? = some (.int .i64 m.1) ∧ (cells2 l)[j * 2 + 1]? = some (.int .i64 m.2)
  | [], j, m, h => by simp at h
  | x :: t, 0, m, h => by
    simp only [List.getElem?_cons_zero, Option.some.injEq] at h
    subst h
    exact ⟨rfl, rfl⟩
  | x :: t, j + 1, m, h => by
    obtain ⟨h1, h2⟩ := cells2_at t j m (by simpa using h)
    have e : cells2 (x :: t) = .int .i64 x.1 :: .int .i64 x.2 :: cells2 t := rfl
    rw [e, show (j + 1) * 2 = j * 2 + 1 + 1 by omega]
    exact ⟨h1, h2⟩
theorem atM {w : World} {A : Option Addr} {l : List (Int × Int)} (h : La.SlAt w A (cells2 l)) {k : Nat} {x : Int × Int} (hk : l[k]? = some x) :
    ∃ b o, A = some ⟨b, o, none⟩ ∧ b < w.heap.size ∧ w.cell? ⟨b, o + k * 2, none⟩ = some (.int .i64 x.1) ∧ w.cell? ⟨b, o + k * 2 + 1, none⟩ = some (.int .i64 x.2) := by
  obtain ⟨h1, h2⟩ := cells2_at l k x hk
  obtain ⟨b, o, hA, h0⟩ := h (k * 2) _ h1
  obtain ⟨b', o', hA', h3⟩ := h (k * 2 + 1) _ h2
  rw [hA] at hA'
  cases hA'
  exact ⟨b, o, hA, World.block_lt_of_cell? w _ h0, h0, h3⟩
end Go.Proofs.YtoankplhahbgkaaGreat

namespace Go.Proofs.YtoankplhahbgkaaGreat
open Go.RowKit

set_option maxRecDepth 100000 in
set_option maxHeartbeats 2000000 in
theorem moves7_any (A B : Option Addr) (ca cb : Nat) (p q : List Int) (w : World) (hl : min p.length q.length ≤ 1000) (ha : IntsAt w A ca p) (hb : IntsAt w B cb q) :
    Calls Tryz.prog 39 #[.slice A p.length ca, .slice B q.length cb] w fun e w' => ∃ v, e = .returned v ∧ w'.ownsRow w.heap.size 106 2 v (movesF p q).length (cells2 (movesF p q)) ∧ Below w.heap.size w w' := by
  have HA := Lib.hid ha
  have HB := Lib.hid hb
  obtain ⟨M, hM⟩ : ∃ M : Nat, M = min p.length q.length := ⟨_, rfl⟩
  have hMl : M ≤ 1000 := by omega
  have hMp : M ≤ p.length := by omega
  have hMq : M ≤ q.length := by omega
  have HE : Hid (movesF p q = movesU p q M) := Lib.hid (by rw [hM]; rfl)
  obtain ⟨i0, hi0, hz0, hz1, hz2⟩ := info_parts mov_info
  have hMo : M = p.length ∨ (M = q.length ∧ M < p.length) := by omega
  clear ha hb hM
  go_enter Tryz.func39, Tryz.ntmps39
  go_wp2_with fail
  go_loopw [6, 5] (fun i v wr => ∃ k : Nat, k ≤ M ∧ i = .int .i64 k ∧ wr.ownsRow w.heap.size 106 2 v (movesU p q k).length (cells2 (movesU p q k)) ∧ Below w.heap.size w wr) (fun i _ _ => M - (intOf i).toNat)
  case atStart => exact ⟨0, by omega, rfl, World.ownsRow_nil _ _ _ _, Below.refl _ _⟩
  case round =>
    obtain ⟨k, hk, rfl, hown, hbw⟩ := hrel
    have HO := Lib.hid hown
    have HW := Lib.hid hbw
    clear hown hbw
    by_cases hlt : k < M
    · obtain ⟨x, hx⟩ : ∃ x, p[k]? = some x := ⟨p[k]'(by omega), List.getElem?_eq_getElem (by omega)⟩
      obtain ⟨y, hy⟩ : ∃ y, q[k]? = some y := ⟨q[k]'(by omega), List.getElem?_eq_getElem (by omega)⟩
      obtain ⟨b1, o1, hA1, hbl1, c1⟩ := atI (HA.out.below HW.out).cells hx
      obtain ⟨b2, o2, hA2, hbl2, c2⟩ := atI (HB.out.below HW.out).cells hy
      subst hA1 hA2
      have hstep : movesU p q (k + 1) = movesU p q k ++ (if x = y then [] else [((k : Int), y)]) := by
        rw [movesU, List.getD_eq_getElem?_getD, List.getD_eq_getElem?_getD, hx, hy]
        rfl
      have HX := Lib.hid hstep
      have hml := movesU_len p q k
      have k0 : (0 : Int) ≤ (k : Int) := by omega
      have k1 : (k : Int) < (p.length : Int) := by omega
      have k2 : (k : Int) < (q.length : Int) := by omega
      have k3 : (k : Int) < (M : Int) := by omega
      clear hx hy hstep
      by_cases hxy : x = y
      · subst hxy
        have hxb : (x != x) = false := by simp
        go_wp2_with fail
        go_region
        go_wp2
        go_roundw
        case rel =>
          refine ⟨k + 1, by omega, by go_num, ?_, by first | exact HW.out | exact HW.out.drew | exact La.belowN HW.out _⟩
          rw [HX.out]
          simp only [if_true, List.append_nil]
          exact HO.out
        case measure => simp [intOf]; omega
      · have hxb : (x != y) = true := by simpa using hxy
        go_wp2_with fail
        go_region
        go_wp2_with (at_builtin; refine wpList_append_own _ rfl _ _ 52 rfl w.heap.size 106 i0 (.agg #[.int .i64 0, .int .i64 0]) 2 16 Tryz.underlying52 hi0 hz0 hz1 hz2 rfl (by decide) _ _ _ rfl (show World.ownsRow _ _ _ _ _ _ _ from HO.out.alloc _) ⟨wr.heap.size, 0, none⟩ 1 1 [.int .i64 (k : Int), .int .i64 y] rfl rfl ?c1 ?c2 ?c3 ?c4 ?c5 ?_)
        case c1 =>
          intro j u hj
          match j, hj with
          | 0, hj => simp at hj; subst hj; simp [Addr.add]
          | 1, hj => simp at hj; subst hj; simp [Addr.add]
        case c2 => first | rfl | (intro u hu; simp at hu; rcases hu with rfl | rfl <;> rfl)
        case c3 => unfold maxLen; omega
        case c4 => omega
        case c5 => have := HW.out.size; simp; omega
        intro v' w2 hown' hgrow' _
        have HO2 := Lib.hid hown'
        have HW2 := Lib.hid ((HW.out.drew.alloc HW.out.size (.cells #[.int .i64 (k : Int), .int .i64 y] 106)).grown hgrow' (by have := HW.out.size; simp; omega) (fun j hj => own_gem HO.out hj))
        clear hown' hgrow'
        go_wp2
        go_roundw
        case rel =>
          refine ⟨k + 1, by omega, by go_num, ?_, HW2.out⟩
          rw [HX.out, if_neg hxy, List.length_append, cells2_snoc]
          exact HO2.out
        case measure => simp [intOf]; omega
    · obtain rfl : k = M := by omega
      rcases hMo with hMo | ⟨hMo, hM1⟩
      · have e1 : ¬ (k : Int) < (p.length : Int) := by omega
        have e2 : decide (k < p.length) = false := decide_eq_false (by omega)
        go_wp2
        go_ret
        rw [HE.out]
        exact ⟨_, rfl, HO.out, HW.out⟩
      · have e1 : (k : Int) < (p.length : Int) := by omega
        have e2 : decide (k < p.length) = true := decide_eq_true (by omega)
        have e3 : ¬ (k : Int) < (q.length : Int) := by omega
        have e4 : decide (k < q.length) = false := decide_eq_false (by omega)
        go_wp2
        go_ret
        rw [HE.out]
        exact ⟨_, rfl, HO.out, HW.out⟩

set_option maxRecDepth 100000 in
set_option maxHeartbeats 2000000 in
theorem sameMoves_any (A B : Option Addr) (ca cb n : Nat) (l : List (Int × Int)) (w : World) (hn : l.length = n) (hl : n ≤ 1000) (ha : La.SlAt w A (cells2 l)) (hb : La.SlAt w B (cells2 l)) :
    Calls Tryz.prog 37 #[.slice A n ca, .slice B n cb] w fun e w' => e = .returned (.bool true) ∧ Below w.heap.size w w' := by
  subst hn
  have HA := Lib.hid ha
  have HB := Lib.hid hb
  clear ha hb
  have hmg := mov_guard
  go_enter Tryz.func37, Tryz.ntmps37
  go_wp2_with fail
  go_loopw [5] (fun i wr => ∃ k : Nat, k ≤ l.length ∧ i = .int .i64 k ∧ Below w.heap.size w wr) (fun i _ => l.length - (intOf i).toNat)
  case atStart => exact ⟨0, by omega, rfl, Below.refl _ _⟩
  case round =>
    obtain ⟨k, hk, rfl, hbw⟩ := hrel
    have HW := Lib.hid hbw
    clear hbw
    by_cases hlt : k < l.length
    · obtain ⟨x, hx⟩ : ∃ x, l[k]? = some x := ⟨l[k], List.getElem?_eq_getElem hlt⟩
      obtain ⟨b1, o1, hA1, c0, c1⟩ := atM (HA.out.below HW.out) hx
      obtain ⟨b2, o2, hA2, d0, d1⟩ := atM (HB.out.below HW.out) hx
      subst hA1 hA2
      have k0 : (0 : Int) ≤ (k : Int) := by omega
      have k1 : (k : Int) < (l.length : Int) := by omega
      have hmq := fun w => eq_mov x.1 x.2 w
      clear hx
      go_wp2_with fail
      go_region
      go_wp2
      go_roundw
      case rel => exact ⟨k + 1, by omega, by go_num, by first | exact HW.out | exact HW.out.drew | exact belowN HW.out _⟩
      case measure => simp [intOf]; omega
    · obtain rfl : k = l.length := by omega
      go_wp2
      go_ret
      exact ⟨rfl, HW.out⟩

theorem own_empty (w : World) (base : Nat) (e : TypeId) (hb : base ≤ w.heap.size) : (w.alloc (.cells #[] e)).ownsRow base e 1 (.slice (some ⟨w.heap.size, 0, none⟩) 0 0) 0 [] :=
  ⟨rfl, .inr ⟨w.heap.size, 0, #[], rfl, hb, Blk.new w _ _, Nat.le_refl _, by unfold maxLen; omega, rfl, rfl⟩⟩

set_option maxRecDepth 100000 in
set_option maxHeartbeats 8000000 in
theorem apply7_any (A B C P : Option Addr) (ca cb cc cp : Nat) (ns : List NodeD) (ps : List PodD) (os : List OwnD) (p : List Int) (kd pd nd : Int) (w : World) (h : SnapAt w A B C ca cb cc ns ps os) (hp : IntsAt w P cp p) :
    Calls Tryz.prog 36 #[snapV A B C ca cb cc ns ps os, .slice P p.length cp, stepV kd pd nd] w fun e w' => RowNo w (applyF ns ps os p kd pd nd) e w' := by
  have H := Lib.hid h
  have HP := Lib.hid hp
  have hlp := h.lp
  have hln := h.ln
  have B0 : Hid (Below w.heap.size w ((w.alloc (.cells (snapC A B C ca cb cc ns ps os) 26)).alloc (.cells #[.int .i64 kd, .int .i64 pd, .int .i64 nd] 50))) := Lib.hid (Qu.below2 w _ _)
  have S0 : Hid (Blk ((w.alloc (.cells (snapC A B C ca cb cc ns ps os) 26)).alloc (.cells #[.int .i64 kd, .int .i64 pd, .int .i64 nd] 50)) w.heap.size (snapC A B C ca cb cc ns ps os) 26) := Lib.hid (Blk.alloc (Blk.new w _ _) _)
  have X0 : Hid (Blk ((w.alloc (.cells (snapC A B C ca cb cc ns ps os) 26)).alloc (.cells #[.int .i64 kd, .int .i64 pd, .int .i64 nd] 50)) (w.heap.size + 1) #[.int .i64 kd, .int .i64 pd, .int .i64 nd] 50) := Lib.hid (blk2 w _ _ _)
  have E : Hid (applyF ns ps os p kd pd nd = if placeE ns ps os p = 0 then (if kd = 1 then evictF p pd nd else if kd = 2 then bindF ns p pd nd else ([], 2)) else ([], placeE ns ps os p)) := Lib.hid rfl
  have KC := Lib.hid (fun w' (hb : Below w.heap.size w w') => check7_any A B C P ca cb cc cp ns ps os p w' (h.below hb) (hp.below hb))
  have EL := Lib.hid (fun (hz : placeE ns ps os p = 0) => (placeE_zero hz).2.1)
  obtain ⟨i0, hi0, hz0, hz1, hz2⟩ := info_parts Qu.int_info
  generalize applyF ns ps os p kd pd nd = R at E ⊢
  generalize placeE ns ps os p = v0 at KC E EL
  clear h hp
  go_enter Tryz.func36, Tryz.ntmps36
  go_upto_region 1 with fail
  change Code.wp _ _ _ _ ((w.alloc (.cells (snapC A B C ca cb cc ns ps os) 26)).alloc (.cells #[.int .i64 kd, .int .i64 pd, .int .i64 nd] 50))
  generalize ((w.alloc (.cells (snapC A B C ca cb cc ns ps os) 26)).alloc (.cells #[.int .i64 kd, .int .i64 pd, .int .i64 nd] 50)) = W at B0 S0 X0 ⊢
  have s0 : W.cell? ⟨w.heap.size, 0, none⟩ = some (.slice A ns.length ca) := Blk.cell S0.out 0
  have s1 : W.cell? ⟨w.heap.size, 1, none⟩ = some (.slice B ps.length cb) := Blk.cell S0.out 1
  have s2 : W.cell? ⟨w.heap.size, 2, none⟩ = some (.slice C os.length cc) := Blk.cell S0.out 2
  go_wp2_with fail
  refine (KC.out _ B0.out).mono ?_
  rintro e w1 ⟨rfl, hb⟩
  have B1 := Lib.hid (B0.out.trans (hb.mono B0.out.size))
  have S1 := Lib.hid (S0.out.below hb S0.out.lt)
  have X1 := Lib.hid (X0.out.below hb X0.out.lt)
  clear hb KC S0 X0 B0 s0 s1 s2
  by_cases hv : v0 = 0
  case neg =>
    have HE : Hid (R = ([], v0)) := Lib.hid (by rw [E.out, if_neg hv])
    have hvb : (v0 == 0) = false := by simpa using hv
    have hvc : (v0 != 0) = true := by simpa using hv
    go_wp2
    go_ret2
    exact nil_post HE.out B1.out
  subst hv
  have hpl := Lib.hid (EL.out rfl)
  have hp1 : p.length ≤ 1000 := by have := hpl.out; omega
  have E2 : Hid (R = (if kd = 1 then evictF p pd nd else if kd = 2 then bindF ns p pd nd else ([], 2))) := Lib.hid (by rw [E.out, if_pos rfl])
  clear E EL
  have x0 : w1.cell? ⟨w.heap.size + 1, 0, none⟩ = some (.int .i64 kd) := Blk.cell X1.out 0
  have x1 : w1.cell? ⟨w.heap.size + 1, 1, none⟩ = some (.int .i64 pd) := Blk.cell X1.out 1
  have x2 : w1.cell? ⟨w.heap.size + 1, 2, none⟩ = some (.int .i64 nd) := Blk.cell X1.out 2
  have s0 : w1.cell? ⟨w.heap.size, 0, none⟩ = some (.slice A ns.length ca) := Blk.cell S1.out 0
  by_cases hk : kd = 1 ∨ kd = 2
  case neg =>
    have HE : Hid (R = ([], 2)) := Lib.hid (by rw [E2.out, if_neg (fun e => hk (.inl e)), if_neg (fun e => hk (.inr e))])
    have k1 : (kd != 1) = true := by simpa using (fun e => hk (.inl e) : ¬ kd = 1)
    have k2 : (kd != 2) = true := by simpa using (fun e => hk (.inr e) : ¬ kd = 2)
    have k3 : ¬ kd = 1 := fun e => hk (.inl e)
    have k4 : ¬ kd = 2 := fun e => hk (.inr e)
    go_wp2
    go_ret2
    exact nil_post HE.out B1.out
  have key9 : Hid (¬ (0 ≤ pd ∧ pd < (p.length : Int)) → R = ([], 9)) := Lib.hid (fun hn => by
    rw [E2.out]
    rcases hk with rfl | rfl
    · rw [if_pos rfl, evictF, if_neg hn]
    · rw [if_neg (by omega), if_pos rfl, bindF, if_neg hn])
  by_cases h0 : pd < 0
  · have HE := Lib.hid (key9.out (by omega))
    have h0b : decide (pd < 0) = true := decide_eq_true h0
    rcases hk with rfl | rfl
    all_goals
      go_wp2
      go_ret2
      exact nil_post HE.out B1.out
  have h0b : decide (pd < 0) = false := decide_eq_false h0
  obtain ⟨d, rfl⟩ : ∃ d : Nat, pd = (d : Int) := ⟨pd.toNat, by omega⟩
  by_cases h1 : p.length ≤ d
  · have HE := Lib.hid (key9.out (by omega))
    have h1b : decide (p.length ≤ d) = true := decide_eq_true h1
    rcases hk with rfl | rfl
    all_goals
      go_wp2
      go_ret2
      exact nil_post HE.out B1.out
  have h1b : decide (p.length ≤ d) = false := decide_eq_false h1
  have h1c : d < p.length := by omega
  by_cases h2 : nd < 0
  · have HE : Hid (R = ([], 9)) := Lib.hid (by
      rw [E2.out]
      rcases hk with rfl | rfl
      · rw [if_pos rfl, evictF, if_pos (by omega), if_neg (by omega)]
      · rw [if_neg (by omega), if_pos rfl, bindF, if_pos (by omega), if_neg (by omega)])
    have h2b : decide (nd < 0) = true := decide_eq_true h2
    rcases hk with rfl | rfl
    all_goals
      go_wp2
      go_ret2
      exact nil_post HE.out B1.out
  have h2b : decide (nd < 0) = false := decide_eq_false h2
  obtain ⟨n, rfl⟩ : ∃ n : Nat, nd = (n : Int) := ⟨nd.toNat, by omega⟩
  obtain ⟨x, hx⟩ : ∃ x, p[d]? = some x := ⟨p[d], List.getElem?_eq_getElem h1c⟩
  obtain ⟨b, o, hA, hbl, c0⟩ := atI (HP.out.below B1.out).cells hx
  subst hA
  have d0 : (0 : Int) ≤ (d : Int) := by omega
  have d1 : (d : Int) < (p.length : Int) := by omega
  clear key9
  rcases hk with rfl | rfl
  · -- evict
    by_cases h3 : n = 0
    case neg =>
      have HE : Hid (R = ([], 9)) := Lib.hid (by rw [E2.out, if_pos rfl, evictF, if_pos (by omega), if_neg (by omega)])
      have h3b : ((n : Int) != 0) = true := by simpa using h3
      go_wp2
      go_ret2
      exact nil_post HE.out B1.out
    subst h3
    have HE0 : Hid (R = if x = -1 then ([], 110) else (p.set d (-1), 0)) := Lib.hid (by
      rw [E2.out, if_pos rfl, evictF, if_pos (by omega), if_pos (by omega), Int.toNat_natCast, hx]
      by_cases e : x = -1
      · rw [if_pos (by rw [e]), if_pos e]
      · rw [if_neg (by simpa using e), if_neg e])
    have HX := Lib.hid hx
    clear E2 hx
    by_cases hxn : x = -1
    · have HE : Hid (R = ([], 110)) := Lib.hid (by rw [HE0.out, if_pos hxn])
      subst hxn
      go_wp2_with fail
      go_quiet (fail)
      go_wp2
      go_ret2
      exact nil_post HE.out (belowN B1.out _)
    have HE : Hid (R = (p.set d (-1), 0)) := Lib.hid (by rw [HE0.out, if_neg hxn])
    have hxb : (x == -1) = false := by simpa using hxn
    go_wp2_with fail
    go_quiet (fail)
    have OE := Lib.hid (own_empty (w1.drewN nq) w.heap.size 3 B1.out.size)
    have BE := Lib.hid ((belowN (Below.refl w1.heap.size w1) nq).alloc (Nat.le_refl _) (.cells #[] 3))
    have XE := Lib.hid (X1.out.below BE.out X1.out.lt)
    have CE := Lib.hid ((HP.out.below B1.out).below BE.out).cells
    have Hlt := Lib.hid X1.out.lt
    go_wp2_with (at_builtin; refine wpList_append_own _ rfl _ _ 27 rfl w.heap.size 3 i0 (.int .i64 0) 1 8 Tryz.underlying27 hi0 hz0 hz1 hz2 rfl (by decide) _ _ _ rfl (show World.ownsRow ((w1.drewN nq).alloc (.cells #[] 3)) _ _ _ _ _ _ from OE.out) ⟨b, o, none⟩ p.length cp (intsC p) rfl ?c0 ?c1 ?c2 ?c3 ?c4 ?c5 ?_)
    case c0 => simp [intsC]
    case c1 =>
      intro j u hj
      obtain ⟨b', o', hA, hc⟩ := CE.out j u hj
      cases hA
      rw [WideShapes.add_plain]
      exact hc
    case c2 =>
      intro u hu
      obtain ⟨x, _, rfl⟩ := List.mem_map.1 hu
      rfl
    case c3 => unfold maxLen; omega
    case c4 => omega
    case c5 => exact Nat.le_trans B1.out.size BE.out.size
    intro v' w2 hown' hgrow' _
    obtain ⟨g, cap, rfl, hgb⟩ : ∃ g cap, v' = .slice (some ⟨g, 0, none⟩) p.length cap ∧ w.heap.size ≤ g := by
      rcases hown'.2 with ⟨_, h⟩ | ⟨g, cap, cur, hv, hb, _⟩
      · omega
      · exact ⟨g, cap, hv, hb⟩
    have B2 := Lib.hid ((B1.out.trans (BE.out.mono B1.out.size)).grown hgrow' (Nat.le_trans B1.out.size BE.out.size) (fun j hj => own_gem OE.out hj))
    have X2 : Hid (Blk w2 (w.heap.size + 1) _ 50) := Lib.hid (Blk.kept XE.out hgrow' (fun e => by
      have := Hlt.out
      have e2 : w.heap.size + 1 = (w1.drewN nq).heap.size := Option.some.inj e
      have e3 : (w1.drewN nq).heap.size = w1.heap.size := rfl
      omega))
    have hne : g ≠ w.heap.size + 1 := by
      intro e
      rcases hown'.2 with ⟨h, _⟩ | ⟨g', cap', cur, hv, _, hg, _⟩
      · cases h
      · cases hv
        have h1 := X2.out
        unfold Blk at h1
        rw [← e, hg] at h1
        cases h1
    have hfr := own_free hown' d
    obtain ⟨b2, o2, hA2, hbl2, hcur⟩ := atI (La.own_slat hown') HX.out
    cases hA2
    rw [Nat.zero_add] at hcur
    have O3 := Lib.hid (own_put hown' d (.int .i64 (-1)))
    have B3 := Lib.hid (B2.out.setCell (p := ⟨g, d, none⟩) hgb (.int .i64 (-1)))
    have X3 := Lib.hid (X2.out.oth (Ne.symm hne) d (.int .i64 (-1)))
    clear hown' hgrow' OE BE XE CE x0 x1 x2 c0
    have x0 : w2.cell? ⟨w.heap.size + 1, 0, none⟩ = some (.int .i64 1) := Blk.cell X2.out 0
    have x1 : w2.cell? ⟨w.heap.size + 1, 1, none⟩ = some (.int .i64 (d : Int)) := Blk.cell X2.out 1
    go_upto_region 12 with fail
    generalize (w2.setCell ⟨g, d, none⟩ (.int .i64 (-1))) = W3 at O3 B3 X3 ⊢
    clear x0 x1 hfr hcur X2 B2
    have x0 : W3.cell? ⟨w.heap.size + 1, 0, none⟩ = some (.int .i64 1) := Blk.cell X3.out 0
    go_wp2
    go_ret2
    rw [HE.out]
    refine ⟨_, rfl, ?_, B3.out⟩
    have q := O3.out
    rw [ints_set] at q
    dsimp only
    rw [List.length_set]
    exact q
  · -- bind
    by_cases h3 : ns.length ≤ n
    · have HE : Hid (R = ([], 9)) := Lib.hid (by rw [E2.out, if_neg (by omega), if_pos rfl, bindF, if_pos (by omega), if_neg (by omega)])
      have h3b : decide (ns.length ≤ n) = true := decide_eq_true h3
      go_wp2
      go_ret2
      exact nil_post HE.out B1.out
    have h3b : decide (ns.length ≤ n) = false := decide_eq_false h3
    obtain ⟨y, hy⟩ : ∃ y, ns[n]? = some y := ⟨ns[n]'(by omega), List.getElem?_eq_getElem (by omega)⟩
    obtain ⟨bn, on, hAn, hbln, e0, e1, e2, e3, e4, e5, e6, e7, e8, e9⟩ := atN (H.out.below B1.out).n.cells hy
    subst hAn
    have HE0 : Hid (R = if x = -1 then (if y.lost then ([], 110) else (p.set d (n : Int), 0)) else ([], 110)) := Lib.hid (by
      rw [E2.out, if_neg (by omega), if_pos rfl, bindF, if_pos (by omega), if_pos (by omega), Int.toNat_natCast, Int.toNat_natCast, hx]
      have el : lostB ns n = y.lost := by unfold lostB; rw [hy]
      rw [el]
      by_cases e : x = -1
      · rw [if_pos (by rw [e]), if_pos e]
      · rw [if_neg (by simpa using e), if_neg e])
    have HX := Lib.hid hx
    have n0 : (0 : Int) ≤ (n : Int) := by omega
    have n1 : (n : Int) < (ns.length : Int) := by omega
    clear E2 hx hy e0 e1 e2 e3 e4 e5 e6 e7 e8
    by_cases hxn : x = -1
    case neg =>
      have HE : Hid (R = ([], 110)) := Lib.hid (by rw [HE0.out, if_neg hxn])
      have hxb : (x == -1) = false := by simpa using hxn
      go_wp2_with fail
      go_quiet (fail)
      go_wp2
      go_ret2
      exact nil_post HE.out (belowN B1.out _)
    subst hxn
    cases hyl : y.lost
    case true =>
      have HE : Hid (R = ([], 110)) := Lib.hid (by rw [HE0.out, if_pos rfl, if_pos hyl])
      rw [hyl] at e9
      go_wp2_with fail
      go_quiet (fail)
      go_wp2
      go_ret2
      exact nil_post HE.out (belowN B1.out _)
    have HE : Hid (R = (p.set d (n : Int), 0)) := Lib.hid (by rw [HE0.out, if_pos rfl, if_neg (by rw [hyl]; decide)])
    rw [hyl] at e9
    go_wp2_with fail
    go_quiet (fail)
    have OE := Lib.hid (own_empty (w1.drewN nq) w.heap.size 3 B1.out.size)
    have BE := Lib.hid ((belowN (Below.refl w1.heap.size w1) nq).alloc (Nat.le_refl _) (.cells #[] 3))
    have XE := Lib.hid (X1.out.below BE.out X1.out.lt)
    have CE := Lib.hid ((HP.out.below B1.out).below BE.out).cells
    have Hlt := Lib.hid X1.out.lt
    go_wp2_with (at_builtin; refine wpList_append_own _ rfl _ _ 27 rfl w.heap.size 3 i0 (.int .i64 0) 1 8 Tryz.underlying27 hi0 hz0 hz1 hz2 rfl (by decide) _ _ _ rfl (show World.ownsRow ((w1.drewN nq).alloc (.cells #[] 3)) _ _ _ _ _ _ from OE.out) ⟨b, o, none⟩ p.length cp (intsC p) rfl ?c0 ?c1 ?c2 ?c3 ?c4 ?c5 ?_)
    case c0 => simp [intsC]
    case c1 =>
      intro j u hj
      obtain ⟨b', o', hA, hc⟩ := CE.out j u hj
      cases hA
      rw [WideShapes.add_plain]
      exact hc
    case c2 =>
      intro u hu
      obtain ⟨x, _, rfl⟩ := List.mem_map.1 hu
      rfl
    case c3 => unfold maxLen; omega
    case c4 => omega
    case c5 => exact Nat.le_trans B1.out.size BE.out.size
    intro v' w2 hown' hgrow' _
    obtain ⟨g, cap, rfl, hgb⟩ : ∃ g cap, v' = .slice (some ⟨g, 0, none⟩) p.length cap ∧ w.heap.size ≤ g := by
      rcases hown'.2 with ⟨_, h⟩ | ⟨g, cap, cur, hv, hb, _⟩
      · omega
      · exact ⟨g, cap, hv, hb⟩
    have B2 := Lib.hid ((B1.out.trans (BE.out.mono B1.out.size)).grown hgrow' (Nat.le_trans B1.out.size BE.out.size) (fun j hj => own_gem OE.out hj))
    have X2 : Hid (Blk w2 (w.heap.size + 1) _ 50) := Lib.hid (Blk.kept XE.out hgrow' (fun e => by
      have := Hlt.out
      have e2 : w.heap.size + 1 = (w1.drewN nq).heap.size := Option.some.inj e
      have e3 : (w1.drewN nq).heap.size = w1.heap.size := rfl
      omega))
    have hne : g ≠ w.heap.size + 1 := by
      intro e
      rcases hown'.2 with ⟨h, _⟩ | ⟨g', cap', cur, hv, _, hg, _⟩
      · cases h
      · cases hv
        have h1 := X2.out
        unfold Blk at h1
        rw [← e, hg] at h1
        cases h1
    have hfr := own_free hown' d
    obtain ⟨b2, o2, hA2, hbl2, hcur⟩ := atI (La.own_slat hown') HX.out
    cases hA2
    rw [Nat.zero_add] at hcur
    have O3 := Lib.hid (own_put hown' d (.int .i64 (-1)))
    have B3 := Lib.hid (B2.out.setCell (p := ⟨g, d, none⟩) hgb (.int .i64 (-1)))
    have X3 := Lib.hid (X2.out.oth (Ne.symm hne) d (.int .i64 (-1)))
    clear hown' hgrow' OE BE XE CE x0 x1 x2 c0
    have x0 : w2.cell? ⟨w.heap.size + 1, 0, none⟩ = some (.int .i64 2) := Blk.cell X2.out 0
    have x1 : w2.cell? ⟨w.heap.size + 1, 1, none⟩ = some (.int .i64 (d : Int)) := Blk.cell X2.out 1
    go_upto_region 12 with fail
    generalize (w2.setCell ⟨g, d, none⟩ (.int .i64 (-1))) = W3 at O3 B3 X3 ⊢
    clear x0 x1 hfr hcur X2 B2
    have x0 : W3.cell? ⟨w.heap.size + 1, 0, none⟩ = some (.int .i64 2) := Blk.cell X3.out 0
    have x1 : W3.cell? ⟨w.heap.size + 1, 1, none⟩ = some (.int .i64 (d : Int)) := Blk.cell X3.out 1
    have x2 : W3.cell? ⟨w.heap.size + 1, 2, none⟩ = some (.int .i64 (n : Int)) := Blk.cell X3.out 2
    have hfr := own_free O3.out d
    obtain ⟨b3, o3, hA3, hbl3, hcur⟩ := atI (l := p.set d (-1)) (k := d) (x := -1) (La.own_slat (by have q := O3.out; rwa [ints_set] at q)) (by rw [List.getElem?_set_self (by omega)])
    cases hA3
    rw [Nat.zero_add] at hcur
    have O4 := Lib.hid (own_put O3.out d (.int .i64 (n : Int)))
    have B4 := Lib.hid (B3.out.setCell (p := ⟨g, d, none⟩) hgb (.int .i64 (n : Int)))
    go_wp2
    go_ret2
    rw [HE.out]
    refine ⟨_, rfl, ?_, B4.out⟩
    have q := O4.out
    rw [List.set_set, ints_set] at q
    dsimp only
    rw [List.length_set]
    exact q
end Go.Proofs.YtoankplhahbgkaaGreat

namespace Go.Proofs.YtoankplhahbgkaaGreat
open Go.RowKit

theorem SnapIn.below {w w' : World} {A B C : Option Addr} {ca cb cc : Nat} {ns : List NodeD} {ps : List PodD} {os : List OwnD} (h : SnapIn w A B C ca cb cc ns ps os) (hb : Below w.heap.size w w') : SnapIn w' A B C ca cb cc ns ps os :=
  ⟨⟨h.n.cells.below hb, fun x hx => (h.n.fit x hx).below hb⟩, ⟨h.p.cells.below hb, fun x hx => (h.p.fit x hx).below hb⟩, h.o.below hb, h.fo, h.can, h.cap, h.cao⟩
/-- A row of numbers that a call answered, lying in memory. -/
abbrev Ints (w : World) (l : List Int) (e : Ending) (w' : World) : Prop := ∃ A c, e = .returned (.slice A l.length c) ∧ IntsAt w' A c l ∧ Below w.heap.size w w'
theorem fitted_ints (A B C P : Option Addr) (ca cb cc cp : Nat) (ns : List NodeD) (ps : List PodD) (os : List OwnD) (l : List Int) (w : World) (h : SnapAt w A B C ca cb cc ns ps os) (hp : IntsAt w P cp l) :
    Calls Tryz.prog 40 #[snapV A B C ca cb cc ns ps os, .slice P l.length cp] w fun e w' => Ints w (fitU ns l ps.length) e w' := by
  refine (fitted_any A B C P ca cb cc cp ns ps os l w h hp).mono ?_
  rintro e w' ⟨v, rfl, ho, hb⟩
  obtain ⟨g, c, rfl, _⟩ := La.own_slice ho
  have e := fitU_len ns l ps.length
  refine ⟨g, c, by rw [e], IntsAt.own (base := w.heap.size) (by rw [e]; exact ho), hb⟩
theorem apply_ints {A B C P : Option Addr} {ca cb cc cp : Nat} {ns : List NodeD} {ps : List PodD} {os : List OwnD} {p r : List Int} {kd pd nd : Int} (hF : applyF ns ps os p kd pd nd = (r, 0)) (w : World) (h : SnapAt w A B C ca cb cc ns ps os) (hp : IntsAt w P cp p) :
    Calls Tryz.prog 35 #[snapV A B C ca cb cc ns ps os, .slice P p.length cp, stepV kd pd nd] w fun e w' => ∃ A c, e = .returned (.tuple #[.slice A r.length c, .int .i64 0]) ∧ IntsAt w' A c r ∧ Below w.heap.size w w' := by
  refine (apply_any A B C P ca cb cc cp ns ps os p kd pd nd w h hp).mono ?_
  rw [hF]
  rintro e w' ⟨v, rfl, ho, hb⟩
  obtain ⟨g, c, rfl, _⟩ := La.own_slice ho
  exact ⟨g, c, rfl, IntsAt.own ho, hb⟩
theorem apply_len {A B C P : Option Addr} {ca cb cc cp N : Nat} {ns : List NodeD} {ps : List PodD} {os : List OwnD} {p r : List Int} {kd pd nd : Int} (hp1 : p.length = N) (hr : r.length = N) (hF : applyF ns ps os p kd pd nd = (r, 0)) (w : World) (h : SnapAt w A B C ca cb cc ns ps os) (hp : IntsAt w P cp p) :
    Calls Tryz.prog 35 #[snapV A B C ca cb cc ns ps os, .slice P N cp, stepV kd pd nd] w fun e w' => ∃ A c, e = .returned (.tuple #[.slice A N c, .int .i64 0]) ∧ IntsAt w' A c r ∧ Below w.heap.size w w' := by
  have := apply_ints hF w h hp
  rw [hr, hp1] at this
  exact this

end Go.Proofs.YtoankplhahbgkaaGreat

namespace Go.Proofs.YtoankplhahbgkaaGreat
open Go.RowKit

abbrev S3T := Int × Int × Int
def cells3 (l : List S3T) : List Value := l.flatMap fun x => [.int .i64 x.1, .int .i64 x.2.1, .int .i64 x.2.2]
theorem cells3_at : ∀ (l : List S3T) (k : Nat) (x : S3T), l[k]? = some x → (cells3 l)[k * 3]? = some (.int .i64 x.1) ∧ (cells3 l)[k * 3 + 1]? = some (.int .i64 x.2.1) ∧ (cells3 l)[k * 3 + 2]? = some (.int .i64 x.2.2)
  | [], k, x, h => by simp at h
  | y :: t, 0, x, h => by
    simp only [List.getElem?_cons_zero, Option.some.injEq] at h
    subst h
    exact ⟨rfl, rfl, rfl⟩
  | y :: t, k + 1, x, h => by
    obtain ⟨h0, h1, h2⟩ := cells3_at t k x (by simpa using h)
    have e : cells3 (y :: t) = [.int .i64 y.1, .int .i64 y.2.1, .int .i64 y.2.2] ++ cells3 t := rfl
    rw [e]
    refine ⟨?_, ?_, ?_⟩
    · rw [List.getElem?_append_right (by simp; omega), ← h0]; congr 1; simp; omega
    · rw [List.getElem?_append_right (by simp; omega), ← h1]; congr 1; simp; omega
    · rw [List.getElem?_append_right (by simp; omega), ← h2]; congr 1; simp; omega
theorem atSt {w : World} {A : Option Addr} {l : List S3T} (h : La.SlAt w A (cells3 l)) {k : Nat} {x : S3T} (hk : l[k]? = some x) :
    ∃ b o, A = some ⟨b, o, none⟩ ∧ b < w.heap.size ∧ w.cell? ⟨b, o + k * 3, none⟩ = some (.int .i64 x.1) ∧ w.cell? ⟨b, o + k * 3 + 1, none⟩ = some (.int .i64 x.2.1) ∧ w.cell? ⟨b, o + k * 3 + 2, none⟩ = some (.int .i64 x.2.2) := by
  obtain ⟨h0, h1, h2⟩ := cells3_at l k x hk
  obtain ⟨b, o, hA, hc⟩ := h _ _ h0
  obtain ⟨b', o', hA', hc'⟩ := h _ _ h1
  rw [hA] at hA'
  cases hA'
  obtain ⟨b', o', hA', hc''⟩ := h _ _ h2
  rw [hA] at hA'
  cases hA'
  exact ⟨b, o, hA, World.block_lt_of_cell? w _ hc, hc, by rw [Nat.add_assoc]; exact hc', by rw [Nat.add_assoc]; exact hc''⟩

theorem applyF_few {ns : List NodeD} {ps : List PodD} {os : List OwnD} {q : List Int} {kd pd nd : Int} (hl : ps.length ≤ 1000) : (applyF ns ps os q kd pd nd).1.length ≤ 1000 := by
  unfold applyF
  split
  · rename_i h
    have := (placeE_zero h).2.1
    unfold evictF bindF
    repeat' split
    all_goals simp
    all_goals omega
  · simp
theorem own_keptR {w w' : World} {base g : Nat} {e : TypeId} {size n : Nat} {v : Value} {xs : List Value} (h : w.ownsRow base e size v n xs) (hg : w.grownBy w' (some g)) (hne : g < base) : w'.ownsRow base e size v n xs := by
  obtain ⟨hl, h1 | ⟨g', cap, cur, hv, h0, hc, hr⟩⟩ := h
  · exact ⟨hl, .inl h1⟩
  · exact ⟨hl, .inr ⟨g', cap, cur, hv, h0, (hg.block g' (Array.getElem?_eq_some_iff.1 hc).1 (by intro e; cases e; omega)).trans hc, hr⟩⟩

set_option maxRecDepth 100000 in
set_option maxHeartbeats 8000000 in
theorem steps_any (A B C P L : Option Addr) (ca cb cc cp cl : Nat) (ns : List NodeD) (ps : List PodD) (os : List OwnD) (p : List Int) (l : List S3T) (w : World) (h : SnapIn w A B C ca cb cc ns ps os) (hp : NumsIn w P cp p) (hL : La.SlAt w L (cells3 l)) (hLl : l.length ≤ 9223372036854775807) :
    Calls Tryz.prog 5 #[snapV A B C ca cb cc ns ps os, .slice P p.length cp, .slice L l.length cl] w fun e w' => e = .returned (.bool true) ∧ Below w.heap.size w w' := by
  have B0 : Hid (Below w.heap.size w (w.alloc (.cells (snapC A B C ca cb cc ns ps os) 26))) := Lib.hid (below1 w _)
  have S0 : Hid (Blk (w.alloc (.cells (snapC A B C ca cb cc ns ps os) 26)) w.heap.size (snapC A B C ca cb cc ns ps os) 26) := Lib.hid (Blk.new w _ _)
  have H := Lib.hid (h.take)
  have HP := Lib.hid hp
  have HL := Lib.hid hL
  have KW := Lib.hid works_any
  have KC := Lib.hid (cut_any A B C ca cb cc ns ps os _ (h.below B0.out))
  generalize ns.take 12 = n1 at H KC
  generalize ps.take 30 = p1 at H KC
  generalize os.take 12 = o1 at H KC
  clear h hp hL
  go_enter Tryz.func5, Tryz.ntmps5
  go_wp2_with fail
  refine (KC.out).mono ?_
  rintro e w2 ⟨rfl, hb2⟩
  have S2 : Hid (Blk w2 w.heap.size (snapC A B C ca cb cc ns ps os) 26) := Lib.hid (S0.out.below hb2 S0.out.lt)
  have B2 : Hid (Below w.heap.size w w2) := Lib.hid (B0.out.trans (hb2.mono B0.out.size))
  clear hb2 S0 B0 KC
  have r0 : w2.cell? ⟨w.heap.size, 0, none⟩ = some (.slice A ns.length ca) := Blk.cell S2.out 0
  have r1 : w2.cell? ⟨w.heap.size, 1, none⟩ = some (.slice B ps.length cb) := Blk.cell S2.out 1
  have r2 : w2.cell? ⟨w.heap.size, 2, none⟩ = some (.slice C os.length cc) := Blk.cell S2.out 2
  have f0 := Blk.free S2.out 0
  have f1 := Blk.free S2.out 1
  have f2 := Blk.free S2.out 2
  have S3 : Hid (Blk (((w2.setCell ⟨w.heap.size, 0, none⟩ (.slice A n1.length ca)).setCell ⟨w.heap.size, 1, none⟩ (.slice B p1.length cb)).setCell ⟨w.heap.size, 2, none⟩ (.slice C o1.length cc)) w.heap.size (snapC A B C ca cb cc n1 p1 o1) 26) := Lib.hid (((S2.out.set 0 _).set 1 _).set 2 _)
  have B3 : Hid (Below w.heap.size w (((w2.setCell ⟨w.heap.size, 0, none⟩ (.slice A n1.length ca)).setCell ⟨w.heap.size, 1, none⟩ (.slice B p1.length cb)).setCell ⟨w.heap.size, 2, none⟩ (.slice C o1.length cc))) := Lib.hid (((B2.out.setCell (p := ⟨w.heap.size, 0, none⟩) (Nat.le_refl _) _).setCell (p := ⟨w.heap.size, 1, none⟩) (Nat.le_refl _) _).setCell (p := ⟨w.heap.size, 2, none⟩) (Nat.le_refl _) _)
  go_upto_region 2 with fail
  clear r0 r1 r2 f0 f1 f2
  generalize (((w2.setCell ⟨w.heap.size, 0, none⟩ (.slice A n1.length ca)).setCell ⟨w.heap.size, 1, none⟩ (.slice B p1.length cb)).setCell ⟨w.heap.size, 2, none⟩ (.slice C o1.length cc)) = W at S3 B3 ⊢
  clear S2 B2
  have HW := Lib.hid (fun W' (hb : Below W.heap.size W W') => (show W'.cell? ⟨w.heap.size, 0, none⟩ = some (.slice A n1.length ca) ∧ W'.cell? ⟨w.heap.size, 1, none⟩ = some (.slice B p1.length cb) ∧ W'.cell? ⟨w.heap.size, 2, none⟩ = some (.slice C o1.length cc) from ⟨Blk.cell (S3.out.below hb S3.out.lt) 0, Blk.cell (S3.out.below hb S3.out.lt) 1, Blk.cell (S3.out.below hb S3.out.lt) 2⟩))
  have HG : Hid (w.heap.size < W.heap.size) := Lib.hid S3.out.lt
  have HT := Lib.hid (fun W' (hb : Below W.heap.size W W') => B3.out.trans (hb.mono B3.out.size))
  have HS := Lib.hid (fun W' (hb : Below W.heap.size W W') => H.out.below (HT.out W' hb))
  have HLs := Lib.hid (fun W' (hb : Below W.heap.size W W') => HL.out.below (HT.out W' hb))
  have HP0 := Lib.hid (HP.out.below B3.out)
  have hln := H.out.ln
  have hlp := H.out.lp
  clear H HP HL B3 S3
  go_wp2_with fail
  go_loopw [7, 1] (fun i v wr => ∃ (k : Nat) (Q : Option Addr) (cq : Nat) (q : List Int), k ≤ l.length ∧ i = .int .i64 k ∧ v = .slice Q q.length cq ∧ NumsIn wr Q cq q ∧ Below W.heap.size W wr) (fun i _ _ => l.length - (intOf i).toNat)
  case atStart => exact ⟨0, P, cp, p, by omega, rfl, rfl, HP0.out, Below.refl _ _⟩
  case round =>
    clear HP0
    obtain ⟨k, Q, cq, q, hk, rfl, rfl, hq, hbw⟩ := hrel
    have HQ := Lib.hid hq
    have HB := Lib.hid hbw
    clear hq hbw
    by_cases hlt : k < l.length
    case neg =>
      obtain rfl : k = l.length := by omega
      have KW2 := Lib.hid (KW.out wr)
      go_wp2_with fail
      refine (KW2.out).mono ?_
      rintro e w9 ⟨rfl, hb9⟩
      have D9 := Lib.hid (HT.out _ (HB.out.trans (hb9.mono HB.out.size)))
      clear hb9
      go_wp2
      go_ret
      exact ⟨rfl, D9.out⟩
    by_cases h12 : k < 12
    case neg =>
      have KW2 := Lib.hid (KW.out wr)
      have e1 : (k : Int) < (l.length : Int) := by omega
      have e2 : ¬ (k : Int) < 12 := by omega
      have e3 : decide (k < l.length) = true := decide_eq_true hlt
      have e4 : decide (k < 12) = false := decide_eq_false h12
      go_wp2_with fail
      refine (KW2.out).mono ?_
      rintro e w9 ⟨rfl, hb9⟩
      have D9 := Lib.hid (HT.out _ (HB.out.trans (hb9.mono HB.out.size)))
      clear hb9
      go_wp2
      go_ret
      exact ⟨rfl, D9.out⟩
    obtain ⟨x, hx⟩ : ∃ x, l[k]? = some x := ⟨l[k], List.getElem?_eq_getElem hlt⟩
    have k0 : (0 : Int) ≤ (k : Int) := by omega
    have k1 : (k : Int) < (l.length : Int) := by omega
    have k2 : (k : Int) < 12 := by omega
    have k3 : decide (k < l.length) = true := decide_eq_true hlt
    have k4 : decide (k < 12) = true := decide_eq_true h12
    have HX := Lib.hid hx
    clear hx
    have K1 := Lib.hid (copyInts_any Q cq q wr HQ.out)
    go_wp2_with fail
    refine (K1.out).mono ?_
    rintro e w2 ⟨v, rfl, ho, hb⟩
    obtain ⟨A0, c0, rfl, _⟩ := La.own_slice ho
    have I2 := Lib.hid (NumsIn.own ho HQ.out.few)
    have Q2 := Lib.hid (HQ.out.below hb)
    have D2 := Lib.hid (HB.out.trans (hb.mono HB.out.size))
    clear ho hb K1
    -- the program's Apply
    obtain ⟨tb, tf, hA, hbl, t0, t1, t2⟩ := atSt (HLs.out w2 D2.out) HX.out
    subst hA
    obtain ⟨z0, z1, z2⟩ := HW.out w2 D2.out
    have KA := Lib.hid (apply_any A B C A0 ca cb cc c0 n1 p1 o1 q x.1 x.2.1 x.2.2 w2.drew (HS.out _ D2.out.drew) (I2.out.ints.below (Below.refl w2.heap.size w2).drew))
    have HF := Lib.hid (applyF_few (ns := n1) (os := o1) (q := q) (kd := x.1) (pd := x.2.1) (nd := x.2.2) hlp)
    have KB := Lib.hid (fun w' (hb : Below W.heap.size W w') (hn : IntsAt w' Q cq q) => apply7_any A B C Q ca cb cc cq n1 p1 o1 q x.1 x.2.1 x.2.2 w' (HS.out w' hb) hn)
    generalize applyF n1 p1 o1 q x.1 x.2.1 x.2.2 = F at KA KB HF
    have Hgl := Lib.hid (show w.heap.size < w2.heap.size from Nat.lt_of_lt_of_le HG.out D2.out.size)
    have Htl := Lib.hid hbl
    clear hbl
    go_upto_region 6 with fail
    go_region_held3 (fun w' => w'.cell? ⟨w.heap.size, 0, none⟩ = some (.slice A n1.length ca) ∧ w'.cell? ⟨w.heap.size, 1, none⟩ = some (.slice B p1.length cb) ∧ w'.cell? ⟨w.heap.size, 2, none⟩ = some (.slice C o1.length cc) ∧ w'.cell? ⟨tb, tf + k * 3, none⟩ = some (.int .i64 x.1) ∧ w'.cell? ⟨tb, tf + k * 3 + 1, none⟩ = some (.int .i64 x.2.1) ∧ w'.cell? ⟨tb, tf + k * 3 + 2, none⟩ = some (.int .i64 x.2.2)) (first | exact ⟨z0, z1, z2, t0, t1, t2⟩ | exact ⟨y0, y1, y2, r0, r1, r2⟩)
      (first | ((with_reducible refine (KA.out).mono ?_); rintro e w3 ⟨v3, rfl, ho3, hb3⟩; have y0 := (hb3.cell (p := ⟨w.heap.size, 0, none⟩) Hgl.out).trans z0; have y1 := (hb3.cell (p := ⟨w.heap.size, 1, none⟩) Hgl.out).trans z1; have y2 := (hb3.cell (p := ⟨w.heap.size, 2, none⟩) Hgl.out).trans z2; have r0 := (hb3.cell (p := ⟨tb, tf + k * 3, none⟩) Htl.out).trans t0; have r1 := (hb3.cell (p := ⟨tb, tf + k * 3 + 1, none⟩) Htl.out).trans t1; have r2 := (hb3.cell (p := ⟨tb, tf + k * 3 + 2, none⟩) Htl.out).trans t2; have HB3 := Lib.hid hb3; have HO3 := Lib.hid ho3; clear hb3 ho3))
    obtain ⟨A1, c1, rfl, _⟩ := La.own_slice HO3.out
    have HB3' : Hid (Below w2.heap.size w2 w3) := Lib.hid (La.below_of (Below.refl _ _) HB3.out)
    have HO3' : Hid (w3.ownsRow w2.heap.size 3 1 (.slice A1 F.1.length c1) F.1.length (intsC F.1)) := HO3
    have D3 := Lib.hid (D2.out.trans (HB3'.out.mono D2.out.size))
    have Q3 := Lib.hid (Q2.out.below HB3'.out)
    clear HB3 HO3 KA z0 z1 z2 t0 t1 t2
    have KD := Lib.hid (KB.out w3.drew D3.out.drew (Q3.out.ints.below (Below.refl w3.heap.size w3).drew))
    have Hgl3 := Lib.hid (show w.heap.size < w3.heap.size from Nat.lt_of_lt_of_le Hgl.out HB3'.out.size)
    have Htl3 := Lib.hid (show tb < w3.heap.size from Nat.lt_of_lt_of_le Htl.out HB3'.out.size)
    clear KB Hgl Htl
    go_upto_region 7 with fail
    go_region_held3 (fun w' => w'.cell? ⟨w.heap.size, 0, none⟩ = some (.slice A n1.length ca) ∧ w'.cell? ⟨w.heap.size, 1, none⟩ = some (.slice B p1.length cb) ∧ w'.cell? ⟨w.heap.size, 2, none⟩ = some (.slice C o1.length cc) ∧ w'.cell? ⟨tb, tf + k * 3, none⟩ = some (.int .i64 x.1) ∧ w'.cell? ⟨tb, tf + k * 3 + 1, none⟩ = some (.int .i64 x.2.1) ∧ w'.cell? ⟨tb, tf + k * 3 + 2, none⟩ = some (.int .i64 x.2.2)) (first | exact ⟨y0, y1, y2, r0, r1, r2⟩ | exact ⟨z0, z1, z2, t0, t1, t2⟩)
      (first | ((with_reducible refine (KD.out).mono ?_); rintro e w4 ⟨v4, rfl, ho3, hb3⟩; have z0 := (hb3.cell (p := ⟨w.heap.size, 0, none⟩) Hgl3.out).trans y0; have z1 := (hb3.cell (p := ⟨w.heap.size, 1, none⟩) Hgl3.out).trans y1; have z2 := (hb3.cell (p := ⟨w.heap.size, 2, none⟩) Hgl3.out).trans y2; have t0 := (hb3.cell (p := ⟨tb, tf + k * 3, none⟩) Htl3.out).trans r0; have t1 := (hb3.cell (p := ⟨tb, tf + k * 3 + 1, none⟩) Htl3.out).trans r1; have t2 := (hb3.cell (p := ⟨tb, tf + k * 3 + 2, none⟩) Htl3.out).trans r2; have HB4 := Lib.hid hb3; have HO4 := Lib.hid ho3; clear hb3 ho3))
    obtain ⟨A2, c2, rfl, _⟩ := La.own_slice HO4.out
    have HB4' : Hid (Below w3.heap.size w3 w4) := Lib.hid (La.below_of (Below.refl _ _) HB4.out)
    have HO4' : Hid (w4.ownsRow w3.heap.size 3 1 (.slice A2 F.1.length c2) F.1.length (intsC F.1)) := HO4
    have D4 := Lib.hid (D3.out.trans (HB4'.out.mono D3.out.size))
    have Q4 := Lib.hid (Q3.out.below HB4'.out)
    have I4 := Lib.hid (I2.out.below (HB3'.out.trans (HB4'.out.mono HB3'.out.size)))
    have O34 := Lib.hid (La.own_below HO3'.out HB4'.out)
    have Hlt1 := Lib.hid (fun g c (e : A1 = some ⟨g, 0, c⟩) => by
      rcases HO3'.out.2 with ⟨hv, _⟩ | ⟨g', cap, cur, hv, _, hg, _⟩
      · simp only [Value.slice.injEq] at hv
        rw [hv.1] at e
        cases e
      · simp only [Value.slice.injEq] at hv
        rw [hv.1] at e
        cases e
        exact (Array.getElem?_eq_some_iff.1 hg).1 : ∀ g c, A1 = some ⟨g, 0, c⟩ → g < w3.heap.size)
    clear HB4 HO4 HO3' KD y0 y1 y2 r0 r1 r2 z0 z1 z2 t0 t1 t2 Hgl3 Htl3 Q3
    -- what is held
    have hfl := HF.out
    have L1 := Lib.hid (eqInts_anyL A1 A2 c1 c2 F.1 F.1 w4 (by omega) (IntsAt.own O34.out) (IntsAt.own HO4'.out))
    have L2 := Lib.hid (fun w' (hb : Below w4.heap.size w4 w') => eqInts_anyL A0 Q c0 cq q q w' (by have := Q4.out.few; omega) (I4.out.ints.below hb) (Q4.out.ints.below hb))
    have L3 := Lib.hid (fun w' (hb : Below w4.heap.size w4 w') => moves_anyL Q A2 cq c2 q F.1 w' (by omega) (Q4.out.ints.below hb) ((IntsAt.own HO4'.out).below hb))
    have L4 := Lib.hid (fun w' (hb : Below w4.heap.size w4 w') => moves7_any Q A2 cq c2 q F.1 w' (by omega) (Q4.out.ints.below hb) ((IntsAt.own HO4'.out).below hb))
    rw [decide_eq_true (rfl : F.1 = F.1)] at L1
    rw [decide_eq_true (rfl : q = q)] at L2
    have hM : (movesF q F.1).length ≤ 1000 := by
      have := movesU_len q F.1 (min q.length F.1.length)
      show (movesU q F.1 (min q.length F.1.length)).length ≤ 1000
      omega
    generalize movesF q F.1 = M at L3 L4 hM
    have hee : (F.2 != F.2) = false := by simp
    go_wp2_with fail
    refine (L1.out).mono ?_
    rintro e w5 ⟨rfl, hb5⟩
    have G5 := Lib.hid hb5
    clear hb5 L1
    go_wp2_with fail
    refine (L2.out _ G5.out).mono ?_
    rintro e w6 ⟨rfl, hb6⟩
    have G6 := Lib.hid (G5.out.trans (hb6.mono G5.out.size))
    clear hb6 G5
    go_wp2_with fail
    refine (L3.out _ G6.out).mono ?_
    rintro e w7 ⟨v7, rfl, ho7, hb7⟩
    obtain ⟨A7, c7, rfl, _⟩ := La.own_slice ho7
    have G7 := Lib.hid (G6.out.trans (hb7.mono G6.out.size))
    have M7 := Lib.hid (La.own_slat ho7)
    clear hb7 ho7 G6 L3
    go_wp2_with fail
    refine (L4.out _ G7.out).mono ?_
    rintro e w8 ⟨v8, rfl, ho8, hb8⟩
    obtain ⟨A8, c8, rfl, _⟩ := La.own_slice ho8
    have G8 := Lib.hid (G7.out.trans (hb8.mono G7.out.size))
    have L5 := Lib.hid (sameMoves_any A7 A8 c7 c8 M.length M w8 rfl hM (La.SlAt.below M7.out hb8) (La.own_slat ho8))
    clear hb8 ho8 G7 L4 M7
    go_wp2_with fail
    refine (L5.out).mono ?_
    rintro e w9 ⟨rfl, hb9⟩
    have G9 := Lib.hid (G8.out.trans (hb9.mono G8.out.size))
    clear hb9 G8 L5
    -- what was told is written over
    have O9 := Lib.hid (La.own_below O34.out G9.out)
    have P9 := Lib.hid (La.own_below HO4'.out G9.out)
    have U9 := Lib.hid (show Below w2.heap.size w2 w9 from (HB3'.out.trans (HB4'.out.mono HB3'.out.size)).trans (G9.out.mono (Nat.le_trans HB3'.out.size HB4'.out.size)))
    clear O34 HO4' G9 L2
    go_wp2_with fail
    go_loopw [13] (fun i wr => ∃ (m : Nat) (xs : List Int), m ≤ F.1.length ∧ xs.length = F.1.length ∧ i = .int .i64 m ∧ wr.ownsRow w2.heap.size 3 1 (.slice A1 F.1.length c1) F.1.length (intsC xs) ∧ wr.ownsRow w3.heap.size 3 1 (.slice A2 F.1.length c2) F.1.length (intsC F.1) ∧ Below w2.heap.size w2 wr) (fun i _ => F.1.length - (intOf i).toNat)
    case atStart => exact ⟨0, F.1, by omega, rfl, rfl, O9.out, P9.out, U9.out⟩
    case round =>
      clear O9 P9 U9
      obtain ⟨m, xs, hm, hxs, rfl, ho1, ho2, hbw⟩ := hrel
      have O9 := Lib.hid ho1
      have P9 := Lib.hid ho2
      have U9 := Lib.hid hbw
      have HXs := Lib.hid hxs
      clear hbw hxs ho2
      by_cases hml : m < F.1.length
      · obtain ⟨g, cap, hA1, hgb⟩ : ∃ g cap, (Value.slice A1 F.1.length c1) = .slice (some ⟨g, 0, none⟩) F.1.length cap ∧ w2.heap.size ≤ g := by
          rcases ho1.2 with ⟨_, h⟩ | ⟨g, cap, cur, hv, hb, _⟩
          · omega
          · exact ⟨g, cap, hv, hb⟩
        simp only [Value.slice.injEq] at hA1
        obtain ⟨rfl, _, rfl⟩ := hA1
        have Hg3 := Lib.hid (Hlt1.out g none rfl)
        obtain ⟨y, hy⟩ : ∃ y, xs[m]? = some y := ⟨xs[m]'(by have := HXs.out; omega), List.getElem?_eq_getElem _⟩
        obtain ⟨b3, o3, hA3, hbl3, hcur⟩ := atI (La.own_slat ho1) hy
        cases hA3
        rw [Nat.zero_add] at hcur
        have hfr := own_free ho1 m
        have m0 : (0 : Int) ≤ (m : Int) := by omega
        have m1 : (m : Int) < (F.1.length : Int) := by omega
        have O10 := Lib.hid (by
          have q := own_put ho1 m (.int .i64 99)
          rwa [ints_set] at q)
        have P10 := Lib.hid (own_keptR P9.out (grown_set (World.grownBy.refl wr (some g)) m (.int .i64 99)) Hg3.out)
        have U10 := Lib.hid (U9.out.setCell (p := ⟨g, m, none⟩) hgb (.int .i64 99))
        clear ho1 hy
        go_wp2_with fail
        go_roundw
        case rel => exact ⟨m + 1, xs.set m 99, by omega, by rw [List.length_set]; exact HXs.out, by go_num, O10.out, P10.out, U10.out⟩
        case measure => simp [intOf]; omega
      · obtain rfl : m = F.1.length := by omega
        clear ho1
        have L6 := Lib.hid (eqInts_anyL A0 Q c0 cq q q wr (by have := Q4.out.few; omega) (I2.out.ints.below U9.out) (Q2.out.ints.below U9.out))
        rw [decide_eq_true (rfl : q = q)] at L6
        go_wp2_with fail
        refine (L6.out).mono ?_
        rintro e w10 ⟨rfl, hb10⟩
        have U11 := Lib.hid (U9.out.trans (hb10.mono U9.out.size))
        have P11 := Lib.hid (La.own_below P9.out hb10)
        have D11 := Lib.hid (D2.out.trans (U11.out.mono D2.out.size))
        have Q11 := Lib.hid (Q2.out.below U11.out)
        clear hb10 L6
        by_cases hf : F.2 = 0
        · have hfb : (F.2 == 0) = true := by simpa using hf
          go_wp2_with fail
          go_roundw
          case rel => exact ⟨k + 1, A2, c2, F.1, by omega, by go_num, rfl, NumsIn.own P11.out (by omega), D11.out⟩
          case measure => simp [intOf]; omega
        · have hfb : (F.2 == 0) = false := by simpa using hf
          go_wp2_with fail
          go_roundw
          case rel => exact ⟨k + 1, Q, cq, q, by omega, by go_num, rfl, Q11.out, D11.out⟩
          case measure => simp [intOf]; omega
end Go.Proofs.YtoankplhahbgkaaGreat

namespace Go.Proofs.YtoankplhahbgkaaGreat
open Go.ChangeShapes Go.WideShapes Go.ChangeAt Go.RowKit Go.Deep

theorem bytes_int : Tryz.prog.bytesOf 3 = 8 := by kernel_rfl
set_option maxRecDepth 100000 in
theorem open_intsN {H : Type} {enc : TypeId × Value → H} {W : World} {r : Reach} {b0 : Nat} {held : Bool} {v : Value} {d : DataW H} {p : List MemPlace}
    (hv : Value.okWide Tryz.prog W r b0 27 v) (h : DataW.Trod enc Tryz.prog W 0 (fun _ => true) held 27 v d p) :
    ∃ A c l, v = .slice A (List.length l) c ∧ IntsAt W A c l ∧ (A = none → c = 0) ∧ (l.length = 0 ∨ ∃ es sp, d = .slice es sp ∧ es.length = l.length) := by
  obtain ⟨A, c, l, rfl, hi⟩ := open_intsK hv h
  obtain ⟨fuel, hf⟩ := h
  have hf' : DataW.trod enc Tryz.prog W 0 (fun _ => true) held fuel 27 [.slice A l.length c] = some (d, p) := hf
  rcases open_slice Tryz.underlying27 hf' with ⟨hcs, _⟩ | ⟨a, len, cap, m, n, D, Pl, hcs, _, hl, hm, hmm, hx, _⟩
  · simp only [List.cons.injEq, Value.slice.injEq, and_true] at hcs
    exact ⟨A, c, l, rfl, hi, fun _ => hcs.2.2, .inl hcs.2.1⟩
  · simp only [List.cons.injEq, Value.slice.injEq, and_true] at hcs
    simp only [Prod.mk.injEq] at hx
    refine ⟨A, c, l, rfl, hi, fun e => ?_, .inr ⟨_, _, hx.1, by simp [hcs.2.1]⟩⟩
    rw [hcs.1] at e
    cases e
theorem few_ints {H : Type} {ts : List TypeId} {ds : List (DataW H)} {d : DataW H} {n : Nat} (h : (DataW.weightsEach Tryz.prog ts ds).all (· ≤ reachBytes) = true) {j : Nat} (ht : ts[j]? = some 27) (hd : ds[j]? = some d) (hs : n = 0 ∨ ∃ es sp, d = .slice es sp ∧ es.length = n) :
    n * 8 ≤ 140737488355328 := by
  rcases hs with rfl | ⟨es, sp, rfl, rfl⟩
  · omega
  · have := sized_slice h ht hd Tryz.underlying27
    rw [bytes_int] at this
    simp only [reachBytes] at this
    omega

theorem kcStep : Tryz.prog.cellsOf 50 = 3 := by kernel_rfl
section
variable {H : Type} {enc : TypeId × Value → H} {W : World} {held : Bool}
set_option maxRecDepth 100000 in
theorem step_row (n : Nat) (cs : List Value) (x : DataW H × List MemPlace) (h : DataW.trod enc Tryz.prog W 0 (fun _ => true) held n 50 cs = some x) : ∃ y : S3T, cs = [.int .i64 y.1, .int .i64 y.2.1, .int .i64 y.2.2] := by
  obtain ⟨xs, m, _, _, hl, hxl, hf⟩ := DataW.trod_struct Tryz.underlying50 h
  rw [kcStep] at hl
  match cs, hl, xs, hxl with
  | [c0, c1, c2], _, [y0, y1, y2], _ =>
    have h0 : DataW.trod enc Tryz.prog W 0 (fun _ => true) held m 3 ((([c0, c1, c2] : List Value).drop 0).take (Tryz.prog.cellsOf 3)) = some y0 := hf 0 _ rfl
    have h1 : DataW.trod enc Tryz.prog W 0 (fun _ => true) held m 3 ((([c0, c1, c2] : List Value).drop 1).take (Tryz.prog.cellsOf 3)) = some y1 := hf 1 _ rfl
    have h2 : DataW.trod enc Tryz.prog W 0 (fun _ => true) held m 3 ((([c0, c1, c2] : List Value).drop 2).take (Tryz.prog.cellsOf 3)) = some y2 := hf 2 _ rfl
    rw [kcInt] at h0 h1 h2
    obtain ⟨i0, e0⟩ := int_one (enc := enc) (W := W) (held := held) (n := m) (c := c0) (x := y0) h0
    obtain ⟨i1, e1⟩ := int_one (enc := enc) (W := W) (held := held) (n := m) (c := c1) (x := y1) h1
    obtain ⟨i2, e2⟩ := int_one (enc := enc) (W := W) (held := held) (n := m) (c := c2) (x := y2) h2
    exact ⟨(i0, i1, i2), by rw [e0, e1, e2]⟩
end
set_option maxRecDepth 100000 in
theorem open_steps {H : Type} {enc : TypeId × Value → H} {W : World} {r : Reach} {b0 : Nat} {held : Bool} {v : Value} {d : DataW H} {p : List MemPlace}
    (hv : Value.okWide Tryz.prog W r b0 46 v) (h : DataW.Trod enc Tryz.prog W 0 (fun _ => true) held 46 v d p) :
    ∃ A c l, v = .slice A (List.length l) c ∧ La.SlAt W A (cells3 l) ∧ l.length ≤ 9223372036854775807 := by
  obtain ⟨a0, len, cap, rfl⟩ := okWide_slice Tryz.underlying46 hv
  obtain ⟨fuel, hf⟩ := h
  have hf' : DataW.trod enc Tryz.prog W 0 (fun _ => true) held fuel 46 [.slice a0 len cap] = some _ := hf
  obtain ⟨A, c, l, e, hs, h1, h2, _⟩ := slice_cells (T := S3T) (fun y => [.int .i64 y.1, .int .i64 y.2.1, .int .i64 y.2.2]) 3 (fun _ => True) Tryz.underlying46 kcStep (by omega) (fun _ => rfl) (fun n cs x h => by
    obtain ⟨y, e⟩ := step_row n cs x h
    exact ⟨y, e, trivial⟩) hf'
  simp only [List.cons.injEq, and_true] at e
  exact ⟨A, c, l, e, hs, Nat.le_trans h1 (kmax h2)⟩
end Go.Proofs.YtoankplhahbgkaaGreat

namespace Go.Proofs.YtoankplhahbgkaaGreat
open Go.RowKit

theorem wrap_step (s x : Int) : wrap64 (wrap64 s + x) = wrap64 (s + x) := by
  unfold wrap64
  omega
theorem wrap_two (s t : Int) : wrap64 (wrap64 s + wrap64 t) = wrap64 (s + t) := by
  unfold wrap64
  omega
/-- What a pod asks for. -/
def reqAt (ps : List PodD) (k y : Nat) : Int := match ps[y]? with
  | some x => x.req k
  | none => 0
def reqS (ps : List PodD) (k : Nat) (ys : List Nat) : Int := (ys.map (reqAt ps k)).sum
theorem addW_from (ps : List PodD) (k : Nat) : ∀ (ys : List Nat) (s : Int), ys.foldl (fun a y => wrap64 (a + (match ps[y]? with | some x => x.req k | none => 0))) (wrap64 s) = wrap64 (s + reqS ps k ys)
  | [], s => by simp [reqS]
  | y :: t, s => by
    rw [List.foldl_cons, wrap_step]
    have := addW_from ps k t (s + reqAt ps k y)
    unfold reqAt at this
    rw [this]
    unfold reqS
    rw [List.map_cons, List.sum_cons, ← Int.add_assoc]
    rfl
theorem addW_is (ps : List PodD) (k : Nat) (ys : List Nat) : addW ps ys k = wrap64 (reqS ps k ys) := by
  have := addW_from ps k ys 0
  rw [show wrap64 0 = 0 by unfold wrap64; omega, Int.zero_add] at this
  exact this
theorem reqS_append (ps : List PodD) (k : Nat) (a b : List Nat) : reqS ps k (a ++ b) = reqS ps k a + reqS ps k b := by
  unfold reqS
  rw [List.map_append, List.sum_append]

/-- What the pods of the first i nodes ask for, n pods looked at. -/
def usedG (ps : List PodD) (p : List Int) (k n : Nat) : Nat → Int
  | 0 => 0
  | i + 1 => usedG ps p k n i + reqS ps k (onU p i n)
/-- What those of the first n pods that run ask for. -/
def wantU (ps : List PodD) (p : List Int) (k : Nat) : Nat → Int
  | 0 => 0
  | n + 1 => wantU ps p k n + (match p[n]? with
    | some x => if 0 ≤ x then reqAt ps k n else 0
    | none => 0)
theorem usedG_zero (ps : List PodD) (p : List Int) (k : Nat) : ∀ i, usedG ps p k 0 i = 0
  | 0 => rfl
  | i + 1 => by
    rw [usedG, usedG_zero ps p k i]
    rfl
theorem usedG_step (ps : List PodD) (p : List Int) (k n : Nat) : ∀ i : Nat, usedG ps p k (n + 1) i = usedG ps p k n i + (match p[n]? with
    | some x => if 0 ≤ x ∧ x < (i : Int) then reqAt ps k n else 0
    | none => 0)
  | 0 => by
    cases h : p[n]? with
    | none => simp [usedG]
    | some x =>
      simp only [usedG]
      rw [if_neg (by omega)]
      rfl
  | i + 1 => by
    rw [usedG, usedG_step ps p k n i, usedG, onU, reqS_append]
    cases h : p[n]? with
    | none => simp [reqS]
    | some x =>
      simp only [Option.some.injEq]
      by_cases hx : x = (i : Int)
      · subst hx
        rw [if_pos rfl, if_neg (by omega), if_pos (by omega)]
        simp [reqS]
        omega
      · rw [if_neg hx]
        by_cases h0 : 0 ≤ x ∧ x < (i : Int)
        · rw [if_pos h0, if_pos (by omega)]
          simp [reqS]
          omega
        · rw [if_neg h0, if_neg (by omega)]
          simp [reqS]
theorem used_want (ps : List PodD) (p : List Int) (k m : Nat) (h : ∀ x ∈ p, x = -1 ∨ (0 ≤ x ∧ x < (m : Int))) : ∀ n, usedG ps p k n m = wantU ps p k n
  | 0 => usedG_zero ps p k m
  | n + 1 => by
    rw [usedG_step, used_want ps p k m h n, wantU]
    congr 1
    cases hn : p[n]? with
    | none => rfl
    | some x =>
      have := h x (List.mem_of_getElem? hn)
      by_cases h0 : 0 ≤ x
      · simp only [if_pos h0]
        rw [if_pos (by omega)]
      · simp only [if_neg h0]
        rw [if_neg (by omega)]

theorem sum_bump : ∀ (l : List Int) (i : Nat), i < l.length → (l.set i (l.getD i 0 + 1)).sum = l.sum + 1
  | [], i, h => by simp at h
  | x :: t, 0, _ => by
    simp
    omega
  | x :: t, i + 1, h => by
    have := sum_bump t i (by simpa using h)
    rw [List.set_cons_succ, List.sum_cons, List.sum_cons, List.getD_cons_succ, this]
    omega
/-- What is counted on the nodes is how many there are. -/
theorem cnt_sum (n : Nat) (p : List Int) (ys : List Nat) (h : ∀ y ∈ ys, ∃ x, p[y]? = some x ∧ 0 ≤ x ∧ x < (n : Int)) : (cntL n p ys).sum = (ys.length : Int) := by
  suffices g : ∀ (ys : List Nat) (l : List Int), l.length = n → (∀ y ∈ ys, ∃ x, p[y]? = some x ∧ 0 ≤ x ∧ x < (n : Int)) → (ys.foldl (fun l y => match p[y]? with | some x => l.set x.toNat (l.getD x.toNat 0 + 1) | none => l) l).sum = l.sum + (ys.length : Int) by
    refine (g ys (List.replicate n 0) (List.length_replicate ..) h).trans ?_
    simp
  intro ys
  induction ys with
  | nil => intro l _ _; simp
  | cons y t ih =>
    intro l hl hy
    obtain ⟨x, hx, h0, h1⟩ := hy y (by simp)
    rw [List.foldl_cons]
    simp only [hx]
    rw [ih _ (by rw [List.length_set, hl]) (fun z hz => hy z (by simp [hz])), sum_bump l x.toNat (by omega)]
    simp
    omega
end Go.Proofs.YtoankplhahbgkaaGreat

namespace Go.Proofs.YtoankplhahbgkaaGreat
open Go.RowKit Go.Shelf Go.Maps Go.Sort

theorem insert_perm (x : Lit × DataW Unit) : ∀ l : List (Lit × DataW Unit), (DataW.insert x l).Perm (x :: l)
  | [] => by simp [DataW.insert]
  | y :: r => by
    unfold DataW.insert
    split
    · exact List.Perm.refl _
    · exact ((insert_perm x r).cons y).trans (List.Perm.swap x y r)
/-- A map whose keys are texts, each once. -/
structure KeyedD (D : DataW Unit) : Prop where
  isMap : IsMap D
  texts : ∀ es, D = .map es → ∀ q ∈ es, ∃ x, q.1 = .string x
  once : (strKeys D).Nodup
theorem keys_filter (v : List UInt8) : ∀ es : List (Lit × DataW Unit), (∀ q ∈ es, ∃ x, q.1 = .string x) → (es.filter fun p => !p.1.sameKey (.string v)).map (fun p => strOf p.1) = (es.map fun p => strOf p.1).filter (· != v)
  | [], _ => rfl
  | q :: t, h => by
    obtain ⟨x, hx⟩ := h q (by simp)
    have ih := keys_filter v t (fun z hz => h z (by simp [hz]))
    rw [List.map_cons, hx]
    by_cases e : x = v
    · subst e
      rw [List.filter_cons_of_neg (by rw [hx]; simp [WideAt.sameKey_self (show WideAt.IsKeyLit (.string x) from trivial)]), List.filter_cons_of_neg (by simp [strOf]), ih]
    · have hn : (Lit.string x).sameKey (.string v) = false := by
        cases hc : (Lit.string x).sameKey (.string v) with
        | false => rfl
        | true => exact absurd (by simpa using WideAt.sameKey_eq hc) e
      rw [List.filter_cons_of_pos (by rw [hx, hn]; rfl), List.filter_cons_of_pos (by simpa [strOf] using e), List.map_cons, ih, hx]
theorem keys_put {D : DataW Unit} (h : KeyedD D) (v : List UInt8) (d : DataW Unit) : (strKeys (D.put (.string v) d)).Perm (v :: (strKeys D).filter (· != v)) := by
  obtain ⟨es, rfl⟩ := h.isMap
  show ((DataW.insert (.string v, d) (es.filter fun p => !p.1.sameKey (.string v))).map fun p => strOf p.1).Perm _
  refine ((insert_perm _ _).map _).trans ?_
  rw [List.map_cons, keys_filter v es (h.texts es rfl)]
  exact List.Perm.refl _
theorem KeyedD.put {D : DataW Unit} (h : KeyedD D) (v : List UInt8) (d : DataW Unit) : KeyedD (D.put (.string v) d) := by
  have hp := keys_put h v d
  obtain ⟨es, rfl⟩ := h.isMap
  refine ⟨⟨_, rfl⟩, ?_, ?_⟩
  · intro es' he q hq
    cases he
    have := (insert_perm (.string v, d) (es.filter fun p => !p.1.sameKey (.string v))).mem_iff.1 hq
    rcases List.mem_cons.1 this with rfl | hm
    · exact ⟨v, rfl⟩
    · exact h.texts es rfl q (List.mem_filter.1 hm).1
  · refine hp.nodup_iff.2 (List.nodup_cons.2 ⟨fun hm => ?_, h.once.filter _⟩)
    have := (List.mem_filter.1 hm).2
    simp at this
theorem keys_same {D : DataW Unit} (h : KeyedD D) {v : List UInt8} (hv : v ∈ strKeys D) (d : DataW Unit) : (strKeys (D.put (.string v) d)).Perm (strKeys D) := by
  refine (keys_put h v d).trans ?_
  rw [← h.once.erase_eq_filter]
  exact (List.perm_cons_erase hv).symm
theorem mem_put {D : DataW Unit} (h : KeyedD D) (v : List UInt8) (d : DataW Unit) (u : List UInt8) : u ∈ strKeys (D.put (.string v) d) ↔ u = v ∨ u ∈ strKeys D := by
  rw [(keys_put h v d).mem_iff, List.mem_cons, List.mem_filter]
  by_cases e : u = v <;> simp [e]

/-- The number at a text. -/
def valD (D : DataW Unit) (v : List UInt8) : Int := numD (D.atKey (.string v) (.lit (.int .i64 0)))
theorem val_put {D : DataW Unit} (h : KeyedD D) (v : List UInt8) (d : DataW Unit) (u : List UInt8) : valD (D.put (.string v) d) u = if u = v then numD d else valD D u := by
  unfold valD
  by_cases e : u = v
  · subst e
    rw [if_pos rfl, atKey_put_same h.isMap (show WideAt.IsKeyLit (.string u) from trivial)]
  · rw [if_neg e, atKey_put_other (by intro hc; cases hc; exact e rfl)]
def sumK (D : DataW Unit) : Int := ((strKeys D).map (valD D)).sum
theorem sum_perm {l l' : List Int} (h : l.Perm l') : l.sum = l'.sum := by
  induction h with
  | nil => rfl
  | cons x _ ih => rw [List.sum_cons, List.sum_cons, ih]
  | swap x y l => simp; omega
  | trans _ _ h1 h2 => rw [h1, h2]
theorem sum_turn {f g : List UInt8 → Int} {v : List UInt8} : ∀ {l : List (List UInt8)}, l.Nodup → (∀ u, u ≠ v → g u = f u) → (l.map g).sum = (l.map f).sum + (if v ∈ l then g v - f v else 0)
  | [], _, _ => by simp
  | u :: t, h, e => by
    obtain ⟨h1, h2⟩ := List.nodup_cons.1 h
    have ih := sum_turn h2 e
    rw [List.map_cons, List.map_cons, List.sum_cons, List.sum_cons, ih]
    by_cases hu : u = v
    · subst hu
      rw [if_neg h1, if_pos (by simp)]
      omega
    · rw [e u hu]
      by_cases hv : v ∈ t
      · rw [if_pos hv, if_pos (by simp [hv])]
        omega
      · rw [if_neg hv, if_neg (by simp [hv]; exact fun hc => hu hc.symm)]
        omega
theorem rowD_sum (D : DataW Unit) : (rowD D).sum = sumK D := by
  unfold rowD sortK sumK
  exact sum_perm ((List.mergeSort_perm _ _).map _)

theorem keyed_nil : KeyedD (.map []) := ⟨⟨[], rfl⟩, (by intro es h q hq; cases h; cases hq), List.nodup_nil⟩
theorem keyed_doms (ns : List NodeD) (key : List UInt8) : ∀ k, KeyedD (domsU ns key k) ∧ ∀ v, valD (domsU ns key k) v = 0
  | 0 => ⟨keyed_nil, fun _ => rfl⟩
  | k + 1 => by
    obtain ⟨h1, h2⟩ := keyed_doms ns key k
    rw [domsU]
    cases hd : domF ns (k : Int) key with
    | none => exact ⟨h1, h2⟩
    | some v =>
      refine ⟨h1.put v _, fun u => ?_⟩
      show valD ((domsU ns key k).put (.string v) (.lit (.int .i64 0))) u = 0
      rw [val_put h1]
      split
      · rfl
      · exact h2 u
theorem doms_has (ns : List NodeD) (key : List UInt8) (n : Nat) (v : List UInt8) (h : domF ns (n : Int) key = some v) : ∀ k, n < k → v ∈ strKeys (domsU ns key k)
  | 0, h' => absurd h' (by omega)
  | k + 1, h' => by
    rw [domsU]
    by_cases e : n = k
    · subst e
      rw [h]
      exact (mem_put (keyed_doms ns key n).1 v _ v).2 (.inl rfl)
    · have ih := doms_has ns key n v h k (by omega)
      cases hd : domF ns (k : Int) key with
      | none => exact ih
      | some u => exact (mem_put (keyed_doms ns key k).1 u _ v).2 (.inr ih)
theorem empty_has {ns : List NodeD} {key v : List UInt8} {x : Int} (h : domF ns x key = some v) : v ∈ strKeys (emptyD ns key) := by
  have h' := h
  unfold domF at h'
  by_cases ht : tpB ns x = true
  · obtain ⟨n, rfl, hn⟩ := tpB_lt ht
    exact doms_has ns key n v h ns.length hn
  · rw [if_neg ht] at h'
    cases h'

/-- A map of the domains in which c at most are counted. -/
structure SpreadAt (ns : List NodeD) (key : List UInt8) (D : DataW Unit) (c : Nat) : Prop where
  keyed : KeyedD D
  keys : (strKeys D).Perm (strKeys (emptyD ns key))
  vals : ∀ v, 0 ≤ valD D v ∧ valD D v ≤ (c : Int)
  sum : sumK D ≤ (c : Int)
theorem SpreadAt.mono {ns : List NodeD} {key : List UInt8} {D : DataW Unit} {c d : Nat} (h : SpreadAt ns key D c) (hd : c ≤ d) : SpreadAt ns key D d :=
  ⟨h.keyed, h.keys, fun v => by have := h.vals v; omega, by have := h.sum; omega⟩
theorem sum_zero : ∀ l : List (List UInt8), ∀ f : List UInt8 → Int, (∀ v, f v = 0) → (l.map f).sum = 0
  | [], _, _ => rfl
  | u :: t, f, h => by rw [List.map_cons, List.sum_cons, h u, sum_zero t f h]; rfl
theorem spread_zero (ns : List NodeD) (key : List UInt8) : SpreadAt ns key (emptyD ns key) 0 := by
  obtain ⟨h1, h2⟩ := keyed_doms ns key ns.length
  refine ⟨h1, List.Perm.refl _, fun v => ?_, ?_⟩
  · rw [show valD (emptyD ns key) v = 0 from h2 v]
    omega
  · rw [show sumK (emptyD ns key) = 0 from sum_zero _ _ h2]
    omega
theorem spread_bump {ns : List NodeD} {key v : List UInt8} {D : DataW Unit} {c : Nat} (h : SpreadAt ns key D c) (hc : c ≤ 1000) (hv : v ∈ strKeys (emptyD ns key)) : SpreadAt ns key (bumpD D v) (c + 1) := by
  have hm : v ∈ strKeys D := h.keys.mem_iff.2 hv
  have hw : wrap64 (valD D v + 1) = valD D v + 1 := IntWalk.wrap64_in _ (by have := h.vals v; omega)
  have e : bumpD D v = D.put (.string v) (.lit (.int .i64 (valD D v + 1))) := by
    rw [← hw]
    rfl
  have hval : ∀ u, valD (bumpD D v) u = if u = v then valD D v + 1 else valD D u := by
    intro u
    rw [e, val_put h.keyed]
    rfl
  have hk : (strKeys (bumpD D v)).Perm (strKeys D) := by
    rw [e]
    exact keys_same h.keyed hm _
  refine ⟨by rw [e]; exact h.keyed.put v _, hk.trans h.keys, fun u => ?_, ?_⟩
  · rw [hval]
    have h1 := h.vals v
    have h2 := h.vals u
    split <;> omega
  · have h1 : sumK (bumpD D v) = ((strKeys D).map (valD (bumpD D v))).sum := sum_perm (hk.map _)
    rw [h1, sum_turn (f := valD D) (v := v) h.keyed.once (fun u hu => by rw [hval, if_neg hu]), if_pos hm, hval, if_pos rfl]
    have := h.sum
    unfold sumK at this
    omega
theorem spread_from (ns : List NodeD) (key : List UInt8) (p : List Int) : ∀ (ys : List Nat) (D : DataW Unit) (c : Nat), SpreadAt ns key D c → c + ys.length ≤ 1000 → SpreadAt ns key (ys.foldl (spreadS ns key p) D) (c + ys.length)
  | [], D, c, h, _ => h
  | y :: t, D, c, h, hl => by
    rw [List.length_cons] at hl
    have hs : SpreadAt ns key (spreadS ns key p D y) (c + 1) := by
      unfold spreadS
      cases hy : p[y]? with
      | none => exact h.mono (by omega)
      | some x =>
        dsimp only
        cases hd : domF ns x key with
        | none => exact h.mono (by omega)
        | some v => exact spread_bump h (by omega) (empty_has hd)
    have := spread_from ns key p t _ (c + 1) hs (by omega)
    rw [List.foldl_cons, List.length_cons, show c + (t.length + 1) = c + 1 + t.length by omega]
    exact this
theorem spread_all (ns : List NodeD) (key : List UInt8) (p : List Int) (ys : List Nat) (h : ys.length ≤ 1000) : SpreadAt ns key (spreadD ns key p ys) ys.length := by
  have := spread_from ns key p ys _ 0 (spread_zero ns key) (by omega)
  rwa [Nat.zero_add] at this

/-- Of a list of numbers that are none below 0: what stands first is no more than the whole. -/
theorem take_sum : ∀ (l : List Int), (∀ x ∈ l, 0 ≤ x) → ∀ j, 0 ≤ (l.take j).sum ∧ (l.take j).sum ≤ l.sum
  | [], _, j => by simp
  | x :: t, h, 0 => by
    have h0 := h x (by simp)
    have := (take_sum t (fun y hy => h y (by simp [hy])) 0).2
    rw [List.take_zero] at this ⊢
    rw [List.sum_cons]
    simp only [List.sum_nil] at this ⊢
    omega
  | x :: t, h, j + 1 => by
    have h0 := h x (by simp)
    have := take_sum t (fun y hy => h y (by simp [hy])) j
    rw [List.take_succ_cons, List.sum_cons, List.sum_cons]
    omega
theorem cnt_pos (n : Nat) (p : List Int) (ys : List Nat) : ∀ x ∈ cntL n p ys, 0 ≤ x := by
  suffices g : ∀ (ys : List Nat) (l : List Int), (∀ x ∈ l, 0 ≤ x) → ∀ x ∈ (ys.foldl (fun l y => match p[y]? with | some x => l.set x.toNat (l.getD x.toNat 0 + 1) | none => l) l), 0 ≤ x by
    exact g ys (List.replicate n 0) (fun x hx => by rw [List.eq_of_mem_replicate hx]; exact Int.le_refl _)
  intro ys
  induction ys with
  | nil => intro l h; exact h
  | cons y t ih =>
    intro l h
    rw [List.foldl_cons]
    refine ih _ ?_
    cases hy : p[y]? with
    | none => exact h
    | some z =>
      intro x hx
      rcases List.mem_or_eq_of_mem_set hx with hx | rfl
      · exact h x hx
      · have : 0 ≤ l.getD z.toNat 0 := by
          rw [List.getD_eq_getElem?_getD]
          cases hq : l[z.toNat]? with
          | none => exact Int.le_refl _
          | some q => exact h q (List.mem_of_getElem? hq)
        omega
end Go.Proofs.YtoankplhahbgkaaGreat

namespace Go.Proofs.YtoankplhahbgkaaGreat
open Go.RowKit

set_option maxRecDepth 100000 in
set_option maxHeartbeats 1000000 in
theorem total_any (x y : Nat → Int) (w : World) :
    Calls Tryz.prog 41 #[rowV x, rowV y] w fun e w' => e = .returned (rowV (addR x y 5)) ∧ Below w.heap.size w w' := by
  have hx0 : Qu.RowAt (((w.alloc (.cells #[.int .i64 (x 0), .int .i64 (x 1), .int .i64 (x 2), .int .i64 (x 3), .int .i64 (x 4)] 33)).alloc (.cells #[.int .i64 (y 0), .int .i64 (y 1), .int .i64 (y 2), .int .i64 (y 3), .int .i64 (y 4)] 33)).alloc (.cells zer5 33)) w.heap.size x := Blk.alloc (Blk.alloc (Blk.new w _ _) _) _
  have hy0 : Qu.RowAt (((w.alloc (.cells #[.int .i64 (x 0), .int .i64 (x 1), .int .i64 (x 2), .int .i64 (x 3), .int .i64 (x 4)] 33)).alloc (.cells #[.int .i64 (y 0), .int .i64 (y 1), .int .i64 (y 2), .int .i64 (y 3), .int .i64 (y 4)] 33)).alloc (.cells zer5 33)) (w.heap.size + 1) y := Blk.alloc (blk2 w _ _ _) _
  have hz0 : Blk (((w.alloc (.cells #[.int .i64 (x 0), .int .i64 (x 1), .int .i64 (x 2), .int .i64 (x 3), .int .i64 (x 4)] 33)).alloc (.cells #[.int .i64 (y 0), .int .i64 (y 1), .int .i64 (y 2), .int .i64 (y 3), .int .i64 (y 4)] 33)).alloc (.cells zer5 33)) (w.heap.size + 2) zer5 33 := blk3 w _ _ _ _
  have hb0 : Below w.heap.size w (((w.alloc (.cells #[.int .i64 (x 0), .int .i64 (x 1), .int .i64 (x 2), .int .i64 (x 3), .int .i64 (x 4)] 33)).alloc (.cells #[.int .i64 (y 0), .int .i64 (y 1), .int .i64 (y 2), .int .i64 (y 3), .int .i64 (y 4)] 33)).alloc (.cells zer5 33)) := (Qu.below2 w _ _).alloc (by simp; omega) _
  have X0 := Lib.hid hx0
  have Y0 := Lib.hid hy0
  have Z0 := Lib.hid hz0
  have B0 := Lib.hid hb0
  clear hx0 hy0 hz0 hb0
  go_enter Tryz.func41, Tryz.ntmps41
  go_wp2
  go_loopw [5] (fun i wr => ∃ k : Nat, k ≤ 5 ∧ i = .int .i64 k ∧ Qu.RowAt wr w.heap.size (addR x y k) ∧ Qu.RowAt wr (w.heap.size + 1) y ∧ Blk wr (w.heap.size + 2) zer5 33 ∧ Below w.heap.size w wr) (fun i _ => 5 - (intOf i).toNat)
  case atStart => exact ⟨0, by omega, rfl, by rw [addR_zero]; exact X0.out, Y0.out, Z0.out, B0.out⟩
  case round =>
    clear X0 Y0 Z0 B0
    obtain ⟨k, hk, rfl, hx, hy, hz, hb⟩ := hrel
    have Hx := Lib.hid hx
    have Hy := Lib.hid hy
    have Hz := Lib.hid hz
    have HB := Lib.hid hb
    clear hx hy hz hb
    by_cases hlt : k < 5
    · have cx := Hx.out.cell hlt
      rw [addR_at] at cx
      have cy := Hy.out.cell hlt
      have fx := Hx.out.free k
      go_wp2_with fail
      go_region
      go_wp2_with fail
      go_roundw
      case rel => exact ⟨k + 1, by omega, by go_num, by rw [← addR_step]; exact (show Qu.RowAt wr.drew _ _ from Hx.out).set hlt _, (show Qu.RowAt wr.drew _ _ from Hy.out).other _ _ (by simp), (show Blk wr.drew _ _ _ from Hz.out).oth (by omega) _ _, HB.out.drew.setCell (by simp) _⟩
      case measure => simp [intOf]; omega
    · obtain rfl : k = 5 := by omega
      go_wp2_with (first | refine wpList_load_row rfl 33 (.tmp 2) rfl w.heap.size rfl 33 _ (0, 0) _ Hx.out Tryz.underlying33 rfl Qu.vec_size ?_ | refine wpList_store_row rfl 33 (.tmp 4) (.tmp 19) rfl (w.heap.size + 2) _ rfl rfl 33 _ Hz.out Qu.vec_size (by kernel_rfl) (by kernel_rfl) ?_)
      refine bodyPost_row1 Tryz.results41 (w.heap.size + 2) _ _ _ _ ?d1 ?p1 (Hz.out.put #[.int .i64 (addR x y 5 0), .int .i64 (addR x y 5 1), .int .i64 (addR x y 5 2), .int .i64 (addR x y 5 3), .int .i64 (addR x y 5 4)]) Tryz.underlying33 rfl Qu.vec_size ?_
      case d1 => rfl
      case p1 => rfl
      exact ⟨rfl, below_setRow HB.out (by omega) _⟩
end Go.Proofs.YtoankplhahbgkaaGreat

namespace Go.Proofs.YtoankplhahbgkaaGreat
open Go.RowKit Go.Shelf Go.Maps Go.Sort

theorem members_in (ps : List PodD) (name : List UInt8) : ∀ n, ∀ y ∈ membersU ps name n, 0 ≤ y ∧ y < (n : Int)
  | 0, y, h => by cases h
  | n + 1, y, h => by
    rw [membersU, List.mem_append] at h
    rcases h with h | h
    · have := members_in ps name n y h
      omega
    · cases hn : ps[n]? with
      | none => rw [hn] at h; cases h
      | some x =>
        rw [hn] at h
        dsimp only at h
        by_cases e : x.owner = name
        · rw [if_pos e] at h
          simp only [List.mem_singleton] at h
          omega
        · rw [if_neg e] at h
          cases h
theorem off_in {ns : List NodeD} {ps : List PodD} {os : List OwnD} {p : List Int} (hE : placeE ns ps os p = 0) (name : List UInt8) : ∀ y ∈ offL p (membersF ps name), ∃ x, p[y]? = some x ∧ 0 ≤ x ∧ x < (ns.length : Int) := by
  intro y hy
  unfold offL at hy
  obtain ⟨h1, h2⟩ := List.mem_filter.1 hy
  obtain ⟨z, hz, rfl⟩ := List.mem_map.1 h1
  have h3 := members_in ps name ps.length z hz
  have hl := placeE_len hE
  have hlt : z.toNat < p.length := by omega
  refine ⟨p[z.toNat], List.getElem?_eq_getElem hlt, ?_⟩
  have h4 : p[z.toNat] ≠ -1 := by
    intro e
    rw [List.getElem?_eq_getElem hlt, e] at h2
    simp at h2
  obtain ⟨n, hn, hn2⟩ := tpB_lt (placeE_on hE (List.getElem?_eq_getElem hlt) h4)
  omega

theorem sums_of {ns : List NodeD} {ps : List PodD} {os : List OwnD} {p : List Int} (hE : placeE ns ps os p = 0) (hl : ps.length ≤ 1000) {j : Nat} {x : OwnD} (hx : os[j]? = some x) :
    (countsF ns ps os p j).length = ns.length ∧ (spreadF ns ps os p j).length = (domsF ns ps os x.topo).length ∧ (countsF ns ps os p j).sum = placedF ns ps os p j ∧ placedF ns ps os p j ≤ 1000 ∧ (spreadF ns ps os p j).sum ≤ placedF ns ps os p j ∧ (∀ z ∈ countsF ns ps os p j, 0 ≤ z) ∧ ∀ z ∈ spreadF ns ps os p j, 0 ≤ z := by
  have hj := (List.getElem?_eq_some_iff.1 hx).1
  have hO : ownerB ns ps os p (j : Int) = true := by
    unfold ownerB
    rw [decide_eq_true hE, decide_eq_true (by omega)]
    rfl
  have hC : checkS ns ps os = 0 := (placeE_zero hE).1
  have e1 : ofF ps os p (j : Int) = offL p (membersF ps x.name) := by
    unfold ofF
    rw [Int.toNat_natCast, hx]
  have e2 : countsF ns ps os p (j : Int) = cntL ns.length p (offL p (membersF ps x.name)) := by
    unfold countsF
    rw [if_pos hO, e1]
  have e3 : placedF ns ps os p (j : Int) = ((offL p (membersF ps x.name)).length : Int) := by
    unfold placedF
    rw [if_pos hO, e1]
  have e4 : spreadF ns ps os p (j : Int) = rowD (spreadD ns x.topo p (offL p (membersF ps x.name))) := by
    unfold spreadF
    rw [if_pos hO, Int.toNat_natCast, hx]
  have e5 : domsF ns ps os x.topo = sortK (emptyD ns x.topo) := by
    unfold domsF
    rw [if_pos hC]
  have hle : (offL p (membersF ps x.name)).length ≤ 1000 := Nat.le_trans (offL_len _ _) (Nat.le_trans (membersU_len ps x.name ps.length) hl)
  have hS := spread_all ns x.topo p (offL p (membersF ps x.name)) hle
  have hin := off_in hE x.name
  rw [e2, e3, e4, e5]
  generalize offL p (membersF ps x.name) = ys at hle hS hin
  refine ⟨cntL_len _ _ _, ?_, cnt_sum _ _ _ hin, by omega, ?_, cnt_pos _ _ _, ?_⟩
  · unfold rowD
    rw [List.length_map]
    unfold sortK
    rw [List.length_mergeSort, List.length_mergeSort]
    exact hS.keys.length_eq
  · rw [rowD_sum]
    exact hS.sum
  · intro z hz
    unfold rowD at hz
    obtain ⟨v, _, rfl⟩ := List.mem_map.1 hz
    exact (hS.vals v).1
end Go.Proofs.YtoankplhahbgkaaGreat
