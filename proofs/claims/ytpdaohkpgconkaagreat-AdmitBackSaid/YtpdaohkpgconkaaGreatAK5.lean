/- A map of how much clauses are broken, its keys what they are about: what is found in it, how many are in it, what they are together. In numbers and data only. Whether a placement is safe, by how much it is broken: the program's Safe, Sum. Contracts. Condition: the cluster and the numbers lie in memory. Clauses are broken by little: their sum is nothing just if none is broken. In numbers only. A pod that lies somewhere has no ways; one that was bound in a safe placement may be taken off again: numbers alone. No conditions but these. A placement that may be, made out of numbers: the contract of fitted. Condition: the cluster and the numbers lie in memory. Numbers fitted to a cluster, as numbers in memory. Condition: the arguments lie in memory. A pod that was bound in a safe placement may be taken off again: the law's walk. Condition: the arguments lie in memory. -/
import Derived.Test.YtpdaohkpgconkaaGreatAB4
import Derived.Maps.OwnSet
import Derived.Maps.OwnOps
import Derived.Maps.RangeWalk
import Derived.DeepKeys4
import Derived.WalkArith

namespace Go.Proofs.YtpdaohkpgconkaaGreat
open Go.RowKit Go.Maps

theorem fold_has_keep {k : Lit} (hk : WideAt.IsKeyLit k) : ∀ (l : List ClT) (D : DataW Unit), IsMap D → (has D k = true ∨ ∃ c ∈ l, k = litC c) → has (l.foldl putW D) k = true
  | [], _, _, h => by
    rcases h with h | ⟨c, hc, _⟩
    · exact h
    · cases hc
  | c :: t, D, hD, h => by
    rw [List.foldl_cons]
    refine fold_has_keep hk t _ (hD.put _ _) ?_
    by_cases e : k = litC c
    · left
      unfold putW
      rw [← e]
      exact has_put_same hD hk _
    · rcases h with h | ⟨d, hd, e'⟩
      · left
        unfold putW
        rw [has_put_other e]
        exact h
      · rcases List.mem_cons.1 hd with rfl | hd
        · exact absurd e' e
        · exact .inr ⟨d, hd, e'⟩
theorem mapW_has {l : List ClT} {c : ClT} (hc : c ∈ l) (ho : OkC c) : has (mapW l) (litC c) = true := fold_has_keep (litW_key ho) l _ isMap_empty (.inr ⟨c, hc, rfl⟩)
theorem mapW_size {l : List ClT} (ho : ∀ c ∈ l, OkC c) : size (mapW l) = 0 ↔ l = [] := by
  constructor
  · intro h
    cases l with
    | nil => rfl
    | cons c t =>
      have h1 := mapW_has (l := c :: t) (c := c) (by simp) (ho c (by simp))
      generalize mapW (c :: t) = D at h h1
      cases D <;> try cases h1
      rename_i es
      have h2 : es = [] := List.length_eq_zero_iff.1 h
      subst h2
      cases h1
  · rintro rfl
    rfl

end Go.Proofs.YtpdaohkpgconkaaGreat

namespace Go.Proofs.YtpdaohkpgconkaaGreat
open Go.RowKit Go.Maps Go.Shelf

theorem broken_keys {l : List ClT} (h : ∀ c ∈ l, OkC c) : ∀ c ∈ l.filter brokC, OkC c := fun c hc => h c (List.mem_filter.1 hc).1
/-- What Safe tells. -/
def safeB (ns : List NodeD) (ps : List PodD) (os : List OwnD) (p : List Int) : Bool := decide (placeE ns ps os p = 0) && ((all8 ns ps os p).filter brokC).isEmpty
set_option maxRecDepth 100000 in
set_option maxHeartbeats 4000000 in
theorem safe_any (A B C P : Option Addr) (ca cb cc cp : Nat) (ns : List NodeD) (ps : List PodD) (os : List OwnD) (p : List Int) (hk : ∀ c ∈ all8 ns ps os p, OkC c) (hl : (all8 ns ps os p).length ≤ 12000) (w : World) (h : SnapAt w A B C ca cb cc ns ps os) (hp : IntsAt w P cp p) :
    Calls Tryz.prog 21 #[snapV A B C ca cb cc ns ps os, .slice P p.length cp] w fun e w' => e = .returned (.tuple #[.bool (safeB ns ps os p), .int .i64 (placeE ns ps os p)]) ∧ Below w.heap.size w w' := by
  have B0 : Hid (Below w.heap.size w (w.alloc (.cells (snapC A B C ca cb cc ns ps os) 26))) := Lib.hid (below1 w _)
  have HA := Lib.hid (brokenBy_any A B C P ca cb cc cp ns ps os p hk hl _ (h.below B0.out) (hp.below B0.out))
  have HK := Lib.hid hk
  have HS : Hid (safeB ns ps os p = (decide (placeE ns ps os p = 0) && ((all8 ns ps os p).filter brokC).isEmpty)) := Lib.hid rfl
  generalize safeB ns ps os p = R at HS ⊢
  generalize all8 ns ps os p = l at HA HK HS
  generalize placeE ns ps os p = E at HA HS ⊢
  clear h hp hk hl
  go_enter Tryz.func21, Tryz.ntmps21
  go_wp2_with fail
  refine (HA.out).mono ?_
  rintro e w1 ⟨m, rfl, hm, hb⟩
  have HM := Lib.hid hm
  have B1 := Lib.hid (B0.out.trans (hb.mono B0.out.size))
  clear hm hb HA B0
  by_cases hE : E = 0
  case neg =>
    have hne : (E == 0) = false := by simpa using hE
    have hnd : decide (E = 0) = false := decide_eq_false hE
    have hR : R = false := by rw [HS.out, hnd]; rfl
    clear hE HS
    go_wp2
    go_ret2
    subst hR
    exact ⟨rfl, B1.out⟩
  subst hE
  obtain ⟨mb, rfl, _, hmo⟩ := HM.out.2 rfl
  have hln := fun ty => hmo.len Tryz.underlying87 ty
  have hsz := mapW_size (broken_keys HK.out)
  have HSZ : Hid (R = decide (size (mapW (l.filter brokC)) = 0)) := Lib.hid (by
    rw [HS.out]
    by_cases h0 : l.filter brokC = []
    · rw [decide_eq_true (hsz.2 h0), h0]
      rfl
    · rw [decide_eq_false (fun h => h0 (hsz.1 h))]
      cases hf : l.filter brokC with
      | nil => exact absurd hf h0
      | cons a t => rfl)
  clear hsz HS HM hmo
  generalize size (mapW (l.filter brokC)) = z at HSZ hln
  by_cases hz : z = 0
  · have hz1 : (((z : Nat) : Int) == 0) = true := by simpa using hz
    have hz2 : decide (((z : Nat) : Int) = 0) = true := decide_eq_true (by omega)
    have hR : R = true := by rw [HSZ.out]; exact decide_eq_true hz
    clear HSZ hz
    go_wp2
    go_ret2
    subst hR
    exact ⟨rfl, B1.out⟩
  · have hz1 : (((z : Nat) : Int) == 0) = false := by simpa using hz
    have hz2 : decide (((z : Nat) : Int) = 0) = false := decide_eq_false (by omega)
    have hR : R = false := by rw [HSZ.out]; exact decide_eq_false hz
    clear HSZ hz
    go_wp2
    go_ret2
    subst hR
    exact ⟨rfl, B1.out⟩

theorem safe_at (A B C P : Option Addr) (ca cb cc cp : Nat) (ns : List NodeD) (ps : List PodD) (os : List OwnD) (p : List Int) (w : World) (h : SnapAt w A B C ca cb cc ns ps os) (hp : IntsAt w P cp p) :
    Calls Tryz.prog 21 #[snapV A B C ca cb cc ns ps os, .slice P p.length cp] w fun e w' => e = .returned (.tuple #[.bool (safeB ns ps os p), .int .i64 (placeE ns ps os p)]) ∧ Below w.heap.size w w' :=
  safe_any A B C P ca cb cc cp ns ps os p (all8_fine h p).1 (all8_fine h p).2 w h hp
end Go.Proofs.YtpdaohkpgconkaaGreat

namespace Go.Proofs.YtpdaohkpgconkaaGreat
open Go.RowKit Go.Maps

theorem safe_is {ns : List NodeD} {ps : List PodD} {os : List OwnD} {p : List Int} (hE : placeE ns ps os p = 0) : safeB ns ps os p = true ↔ (all8 ns ps os p).filter brokC = [] := by
  unfold safeB
  rw [decide_eq_true hE, Bool.true_and, List.isEmpty_iff]
end Go.Proofs.YtpdaohkpgconkaaGreat

namespace Go.Proofs.YtpdaohkpgconkaaGreat
open Go.RowKit Go.Maps

theorem ways_placed {ns : List NodeD} {ps : List PodD} {os : List OwnD} {p : List Int} {i : Nat} {v : Int} (hv : p[i]? = some v) (h0 : 0 ≤ v) : ∀ k, waysU ns ps os p (i : Int) k = []
  | 0 => rfl
  | k + 1 => by
    have hf : mayB ns ps os p (2, (i : Int), (k : Int)) = false := by
      have ha : (applyF ns ps os p 2 (i : Int) (k : Int)).2 ≠ 0 := by
        unfold applyF
        split
        · rw [if_neg (by decide), if_pos rfl]
          unfold bindF
          split
          · split
            · rw [Int.toNat_natCast, hv, if_neg (by intro e; cases e; omega)]
              simp
            · simp
          · simp
        · rename_i h
          exact h
      unfold mayB stepF tryF
      dsimp only
      rw [if_pos ha]
      exact decide_eq_false ha
    rw [waysU, ways_placed hv h0 k, hf]
    rfl
theorem ways_in {ns : List NodeD} {ps : List PodD} {os : List OwnD} {p : List Int} {pd x : Int} : ∀ k, x ∈ waysU ns ps os p pd k → mayB ns ps os p (2, pd, x) = true
  | 0, h => by cases h
  | k + 1, h => by
    rw [waysU, List.mem_append] at h
    rcases h with h | h
    · exact ways_in k h
    · split at h
      · rename_i hm
        rw [List.mem_singleton] at h
        rw [h]
        exact hm
      · cases h
theorem back_step {ns : List NodeD} {ps : List PodD} {os : List OwnD} {p : List Int} {i : Nat} {nd : Int} (hs : (all8 ns ps os p).filter brokC = []) (hm : mayB ns ps os p (2, (i : Int), nd) = true) :
    stepF ns ps os p (2, (i : Int), nd) = (p.set i nd, z4, 0) ∧ stepF ns ps os (p.set i nd) (1, (i : Int), 0) = (p, z4, 0) := by
  have hm := of_decide_eq_true hm
  unfold stepF tryF at hm
  dsimp only at hm
  by_cases ha : (applyF ns ps os p 2 (i : Int) nd).2 = 0
  case neg =>
    rw [if_pos ha] at hm
    exact absurd hm ha
  have hok := apply_ok ha
  have hA : p[i]? = some (-1) ∧ 0 ≤ nd ∧ (applyF ns ps os p 2 (i : Int) nd) = (p.set i nd, 0) := by
    unfold applyF at ha ⊢
    rw [if_pos hok.1] at ha ⊢
    rw [if_neg (by decide), if_pos rfl] at ha ⊢
    unfold bindF at ha ⊢
    split at ha
    · rename_i h1
      rw [if_pos h1]
      split at ha
      · rename_i h2
        rw [if_pos h2]
        split at ha
        · rename_i h3
          rw [if_pos h3]
          split at ha
          · simp at ha
          · rename_i h4
            rw [if_neg h4]
            rw [Int.toNat_natCast] at h3 ⊢
            exact ⟨h3, h2.1, rfl⟩
        · simp at ha
      · simp at ha
    · simp at ha
  obtain ⟨hp, hn, hA⟩ := hA
  have hlt : i < p.length := (List.getElem?_eq_some_iff.1 hp).1
  rw [hA] at hok hm
  have hE := hok.2.1
  dsimp only at hE hm
  constructor
  · unfold stepF tryF
    dsimp only
    rw [hA]
    dsimp only
    rw [if_neg (by decide)] at hm ⊢
    split at hm
    · simp [Ag.e] at hm
    · rename_i hc
      rw [if_neg hc]
      split at hm
      · simp [Ag.e] at hm
      · rename_i hw
        rfl
  · have hB : applyF ns ps os (p.set i nd) 1 (i : Int) 0 = (p, 0) := by
      unfold applyF
      rw [if_pos hE, if_pos rfl]
      unfold evictF
      rw [if_pos ⟨by omega, by rw [List.length_set]; omega⟩, if_pos rfl, Int.toNat_natCast, List.getElem?_set_self hlt, if_neg (by intro e; cases e; omega)]
      rw [List.set_set]
      have : p.set i (-1) = p := by
        apply List.ext_getElem?
        intro k
        rw [List.getElem?_set]
        split
        · rename_i e
          subst e
          first | rw [if_pos hlt, hp] | exact hp.symm
        · rfl
      rw [this]
    have hw : worseU ns ps os (p.set i nd) p = [] := by
      unfold worseU
      rw [List.filter_eq_nil_iff]
      intro c hc hb
      have hb := of_decide_eq_true hb
      have h1 : ¬ brokC c = true := fun h => by
        have : c ∈ (all8 ns ps os p).filter brokC := List.mem_filter.2 ⟨hc, h⟩
        rw [hs] at this
        cases this
      have h2 : ¬ 0 < c.2.2.2 := fun h => h1 (decide_eq_true h)
      have h3 : 0 ≤ was9 (all8 ns ps os (p.set i nd)) c := by
        unfold was9 findC
        cases hq : (all8 ns ps os (p.set i nd)).find? (isC c.1 c.2.1 c.2.2.1) with
        | none => exact Int.le_refl 0
        | some d => exact (all8_good ns ps os _ d (List.mem_of_find?_eq_some hq)).1
      omega
    unfold stepF tryF
    dsimp only
    rw [hB]
    dsimp only
    rw [if_neg (by decide), if_neg (by rintro ⟨h, _⟩; simp at h), hw]
    rfl
end Go.Proofs.YtpdaohkpgconkaaGreat

namespace Go.Proofs.YtpdaohkpgconkaaGreat
open Go.RowKit

set_option maxRecDepth 100000 in
set_option maxHeartbeats 4000000 in
theorem fitted10_any (A B C P : Option Addr) (ca cb cc cp : Nat) (ns : List NodeD) (ps : List PodD) (os : List OwnD) (l : List Int) (w : World) (h : SnapAt w A B C ca cb cc ns ps os) (hp : IntsAt w P cp l) :
    Calls Tryz.prog 44 #[snapV A B C ca cb cc ns ps os, .slice P l.length cp] w fun e w' => ∃ v, e = .returned v ∧ w'.ownsRow w.heap.size 3 1 v ps.length (intsC (fitU ns l ps.length)) ∧ Below w.heap.size w w' := by
  have H := Lib.hid h
  have HP := Lib.hid hp
  have hlp := h.lp
  have hln := h.ln
  have hll : l.length ≤ 9223372036854775807 := Nat.le_trans hp.le hp.most
  have B0 : Hid (Below w.heap.size w (w.alloc (.cells (snapC A B C ca cb cc ns ps os) 26))) := Lib.hid (below1 w _)
  have S0 : Hid (Blk (w.alloc (.cells (snapC A B C ca cb cc ns ps os) 26)) w.heap.size (snapC A B C ca cb cc ns ps os) 26) := Lib.hid (Blk.new w _ _)
  obtain ⟨i0, hi0, hz0, hz1, hz2⟩ := info_parts Qu.int_info
  clear h hp
  go_enter Tryz.func44, Tryz.ntmps44
  go_wp2_with fail
  go_loopw [6, 5] (fun i v wr => ∃ k : Nat, k ≤ ps.length ∧ i = .int .i64 k ∧ wr.ownsRow w.heap.size 3 1 v k (intsC (fitU ns l k)) ∧ Below w.heap.size w wr ∧ Blk wr w.heap.size (snapC A B C ca cb cc ns ps os) 26) (fun i _ _ => ps.length - (intOf i).toNat)
  case atStart => exact ⟨0, by omega, rfl, World.ownsRow_nil _ _ _ _, B0.out, S0.out⟩
  case round =>
    clear B0 S0
    obtain ⟨k, hk, rfl, ho, hb, hs⟩ := hrel
    have HO := Lib.hid ho
    have HB := Lib.hid hb
    have HS := Lib.hid hs
    clear ho hb hs
    have s0 : wr.cell? ⟨w.heap.size, 0, none⟩ = some (.slice A ns.length ca) := Blk.cell HS.out 0
    have s1 : wr.cell? ⟨w.heap.size, 1, none⟩ = some (.slice B ps.length cb) := Blk.cell HS.out 1
    by_cases hlt : k < ps.length
    · have E : Hid (fitU ns l (k + 1) = fitU ns l k ++ [fit1 ns l k]) := Lib.hid rfl
      have E1 : Hid (fit1 ns l k = if tpB ns (fitN ns l k) then fitN ns l k else -1) := Lib.hid rfl
      have EN := Lib.hid (fitN_in ns l k)
      have k0 : (0 : Int) ≤ (k : Int) := by omega
      have k1 : (k : Int) < (ps.length : Int) := by omega
      have hkm : Hid (k + 1 ≤ maxLen) := Lib.hid (by unfold maxLen; omega)
      have hkc : Hid ((k + 1) * 8 ≤ 140737488355328) := Lib.hid (by omega)
      go_upto_if 18 with fail
      go_cut [7] (fun v wc => v = .int .i64 (fitN ns l k) ∧ (wc = wr ∨ wc = wr.drew))
      case first =>
        by_cases hkl : k < l.length
        · obtain ⟨x, hx⟩ : ∃ x, l[k]? = some x := ⟨l[k], List.getElem?_eq_getElem hkl⟩
          have FX : Hid (fitN ns l k = x % ((ns.length : Int) + 1) - 1) := Lib.hid (by unfold fitN; rw [hx])
          obtain ⟨b, o, hA, hbl, c0⟩ := atI (HP.out.below (HB.out.mono (Nat.le_refl _))).cells hx
          subst hA
          have k2 : (k : Int) < (l.length : Int) := by omega
          have hw1 : Hid (IntKind.i64.wrap ((ns.length : Int) + 1) = (ns.length : Int) + 1) := Lib.hid (IntWalk.i64_in _ (by omega))
          have BR := Lib.hid (fun W => Qu.bring_any x ((ns.length : Int) + 1) W (by omega) (by omega))
          have S0 : wr.drew.cell? ⟨w.heap.size, 0, none⟩ = some (.slice (A) ns.length ca) := s0
          have C0 : wr.drew.cell? ⟨b, o + k, none⟩ = some (.int .i64 x) := c0
          have em0 := Int.emod_nonneg x (show (ns.length : Int) + 1 ≠ 0 by omega)
          have em1 := Int.emod_lt_of_pos x (show (0 : Int) < (ns.length : Int) + 1 by omega)
          have hw2 : Hid (IntKind.i64.wrap (x % ((ns.length : Int) + 1) - 1) = x % ((ns.length : Int) + 1) - 1) := Lib.hid (IntWalk.i64_in _ (by omega))
          go_upto_region 7 with fail
          go_region_held3 (fun w' => w'.cell? ⟨w.heap.size, 0, none⟩ = some (.slice A ns.length ca) ∧ w'.cell? ⟨b, o + k, none⟩ = some (.int .i64 x))
            (first | (with_reducible exact ⟨S0, C0⟩) | (with_reducible exact ⟨s0, c0⟩) | go_keep)
            ((go_at_call 60; (rw [hw1.out]); (with_reducible refine (BR.out _).mono ?_); rintro e w3 ⟨rfl, rfl⟩))
          all_goals
            go_wp2_with fail
            go_meet
            exact ⟨by rw [FX.out, hw2.out], .inr rfl⟩
        · have FX : Hid (fitN ns l k = -1) := Lib.hid (by unfold fitN; rw [List.getElem?_eq_none (by omega)])
          go_wp2_with fail
          go_meet
          exact ⟨by rw [FX.out], .inl rfl⟩
      case rest =>
        obtain ⟨rfl, hwc⟩ := hcut
        have HO1 : Hid (wc.ownsRow w.heap.size 3 1 u5 k (intsC (fitU ns l k))) := by
          rcases hwc with rfl | rfl
          · exact HO
          · exact Lib.hid (show World.ownsRow wr.drew _ _ _ _ _ _ from HO.out)
        have HB1 : Hid (Below w.heap.size w wc) := by
          rcases hwc with rfl | rfl
          · exact HB
          · exact Lib.hid HB.out.drew
        have HS1 : Hid (Blk wc w.heap.size (snapC A B C ca cb cc ns ps os) 26) := by
          rcases hwc with rfl | rfl
          · exact HS
          · exact Lib.hid (show Blk wr.drew _ _ _ from HS.out)
        have z0 : wc.cell? ⟨w.heap.size, 0, none⟩ = some (.slice A ns.length ca) := Blk.cell HS1.out 0
        clear HO HB HS s0 s1 hwc
        obtain ⟨N, hN⟩ : ∃ N, fitN ns l k = N := ⟨_, rfl⟩
        rw [hN] at E1 EN
        rw [hN]
        clear hN
        by_cases hn : 0 ≤ N ∧ N < (ns.length : Int)
        · obtain ⟨hn0, hn1⟩ := hn
          obtain ⟨n, rfl⟩ : ∃ n : Nat, N = (n : Int) := ⟨N.toNat, by omega⟩
          have hnl : n < ns.length := by omega
          obtain ⟨x, hx⟩ : ∃ x, ns[n]? = some x := ⟨ns[n], List.getElem?_eq_getElem hnl⟩
          obtain ⟨b, o, hA, hbl, c0, c1, c2, c3, c4, c5, c6, c7, c8, c9⟩ := atN (H.out.below HB1.out).n.cells hx
          subst hA
          have T : Hid (tpB ns (n : Int) = !x.lost) := Lib.hid (by unfold tpB; rw [Int.toNat_natCast, hx]; simp)
          clear hx c0 c1 c2 c3 c4 c5 c6 c7 c8
          obtain ⟨r, hr⟩ : ∃ r, x.lost = r := ⟨_, rfl⟩
          rw [hr] at c9 T
          clear hr
          cases r with
          | false =>
            have F : Hid (fit1 ns l k = (n : Int)) := Lib.hid (by rw [E1.out, T.out]; rfl)
            go_wp2_with (at_builtin; refine wpList_append_own _ rfl _ _ 44 rfl w.heap.size 3 i0 (.int .i64 0) 1 8 Tryz.underlying44 hi0 hz0 hz1 hz2 rfl (by decide) _ _ _ rfl (show World.ownsRow _ _ _ _ _ _ _ from HO1.out.alloc _) ⟨wc.heap.size, 0, none⟩ 1 1 [.int .i64 (n : Int)] rfl rfl ?c1 ?c2 ?c3 ?c4 ?c5 ?_)
            case c1 =>
              intro j u hj
              match j, hj with
              | 0, hj => simp at hj; subst hj; simp [Addr.add]
            case c2 => first | rfl | (intro u hu; simp at hu; subst hu; rfl)
            case c3 => have := hkm.out; omega
            case c4 => have := hkc.out; omega
            case c5 => have := HB1.out.size; simp; omega
            intro v' w2 hown' hgrow' _
            have hwz : w.heap.size < wc.heap.size := Blk.lt HS1.out
            have HO2 := Lib.hid hown'
            have HW2 := Lib.hid ((HB1.out.alloc HB1.out.size (.cells #[.int .i64 (n : Int)] 3)).grown hgrow' (by have := HB1.out.size; simp; omega) (fun j hj => own_gem HO1.out hj))
            have HS2 : Hid (Blk w2 w.heap.size (snapC (some ⟨b, o, none⟩) B C ca cb cc ns ps os) 26) := Lib.hid (Blk.kept (Blk.alloc HS1.out (.cells #[.int .i64 (n : Int)] 3)) hgrow' (fun e => by
              have he := e.symm
              rcases HO1.out.2 with ⟨hv, _⟩ | ⟨g, cap, cur, hv, hbg, hg, _⟩
              · rw [hv] at he; cases he
              · rw [hv] at he
                simp only [Value.ownBlock, Option.some.injEq] at he
                subst he
                have h1 := HS1.out
                unfold Blk at h1
                rw [hg] at h1
                cases h1))
            clear hown' hgrow'
            go_wp2
            go_roundw
            case rel =>
              refine ⟨k + 1, by omega, by go_num, ?_, HW2.out, HS2.out⟩
              rw [E.out, F.out]
              simpa [intsC] using HO2.out
            case measure => simp [intOf]; omega
          | true =>
            have F : Hid (fit1 ns l k = -1) := Lib.hid (by rw [E1.out, T.out]; rfl)
            go_wp2_with (at_builtin; refine wpList_append_own _ rfl _ _ 44 rfl w.heap.size 3 i0 (.int .i64 0) 1 8 Tryz.underlying44 hi0 hz0 hz1 hz2 rfl (by decide) _ _ _ rfl (show World.ownsRow _ _ _ _ _ _ _ from HO1.out.alloc _) ⟨wc.heap.size, 0, none⟩ 1 1 [.int .i64 (-1)] rfl rfl ?c1 ?c2 ?c3 ?c4 ?c5 ?_)
            case c1 =>
              intro j u hj
              match j, hj with
              | 0, hj => simp at hj; subst hj; simp [Addr.add]
            case c2 => first | rfl | (intro u hu; simp at hu; subst hu; rfl)
            case c3 => have := hkm.out; omega
            case c4 => have := hkc.out; omega
            case c5 => have := HB1.out.size; simp; omega
            intro v' w2 hown' hgrow' _
            have hwz : w.heap.size < wc.heap.size := Blk.lt HS1.out
            have HO2 := Lib.hid hown'
            have HW2 := Lib.hid ((HB1.out.alloc HB1.out.size (.cells #[.int .i64 (-1)] 3)).grown hgrow' (by have := HB1.out.size; simp; omega) (fun j hj => own_gem HO1.out hj))
            have HS2 : Hid (Blk w2 w.heap.size (snapC (some ⟨b, o, none⟩) B C ca cb cc ns ps os) 26) := Lib.hid (Blk.kept (Blk.alloc HS1.out (.cells #[.int .i64 (-1)] 3)) hgrow' (fun e => by
              have he := e.symm
              rcases HO1.out.2 with ⟨hv, _⟩ | ⟨g, cap, cur, hv, hbg, hg, _⟩
              · rw [hv] at he; cases he
              · rw [hv] at he
                simp only [Value.ownBlock, Option.some.injEq] at he
                subst he
                have h1 := HS1.out
                unfold Blk at h1
                rw [hg] at h1
                cases h1))
            clear hown' hgrow'
            go_wp2
            go_roundw
            case rel =>
              refine ⟨k + 1, by omega, by go_num, ?_, HW2.out, HS2.out⟩
              rw [E.out, F.out]
              simpa [intsC] using HO2.out
            case measure => simp [intOf]; omega
        · obtain rfl : N = -1 := by have := EN.out; omega
          have F : Hid (fit1 ns l k = -1) := Lib.hid (by rw [E1.out, ite_self])
          clear hn
          go_wp2_with (at_builtin; refine wpList_append_own _ rfl _ _ 44 rfl w.heap.size 3 i0 (.int .i64 0) 1 8 Tryz.underlying44 hi0 hz0 hz1 hz2 rfl (by decide) _ _ _ rfl (show World.ownsRow _ _ _ _ _ _ _ from HO1.out.alloc _) ⟨wc.heap.size, 0, none⟩ 1 1 [.int .i64 (-1)] rfl rfl ?c1 ?c2 ?c3 ?c4 ?c5 ?_)
          try case c1 =>
            intro j u hj
            match j, hj with
            | 0, hj => simp at hj; subst hj; simp [Addr.add]
          case c2 => first | rfl | (intro u hu; simp at hu; subst hu; rfl)
          case c3 => have := hkm.out; omega
          case c4 => have := hkc.out; omega
          case c5 => have := HB1.out.size; simp; omega
          intro v' w2 hown' hgrow' _
          have hwz : w.heap.size < wc.heap.size := Blk.lt HS1.out
          have HO2 := Lib.hid hown'
          have HW2 := Lib.hid ((HB1.out.alloc HB1.out.size (.cells #[.int .i64 (-1)] 3)).grown hgrow' (by have := HB1.out.size; simp; omega) (fun j hj => own_gem HO1.out hj))
          have HS2 : Hid (Blk w2 w.heap.size (snapC A B C ca cb cc ns ps os) 26) := Lib.hid (Blk.kept (Blk.alloc HS1.out (.cells #[.int .i64 (-1)] 3)) hgrow' (fun e => by
            have he := e.symm
            rcases HO1.out.2 with ⟨hv, _⟩ | ⟨g, cap, cur, hv, hbg, hg, _⟩
            · rw [hv] at he; cases he
            · rw [hv] at he
              simp only [Value.ownBlock, Option.some.injEq] at he
              subst he
              have h1 := HS1.out
              unfold Blk at h1
              rw [hg] at h1
              cases h1))
          clear hown' hgrow'
          go_wp2
          go_roundw
          case rel =>
            refine ⟨k + 1, by omega, by go_num, ?_, HW2.out, HS2.out⟩
            rw [E.out, F.out]
            simpa [intsC] using HO2.out
          case measure => simp [intOf]; omega
    · obtain rfl : k = ps.length := by omega
      go_wp2
      go_ret
      exact ⟨_, rfl, HO.out, HB.out⟩
end Go.Proofs.YtpdaohkpgconkaaGreat

namespace Go.Proofs.YtpdaohkpgconkaaGreat
open Go.RowKit

theorem fitted10_ints (A B C P : Option Addr) (ca cb cc cp : Nat) (ns : List NodeD) (ps : List PodD) (os : List OwnD) (l : List Int) (w : World) (h : SnapAt w A B C ca cb cc ns ps os) (hp : IntsAt w P cp l) :
    Calls Tryz.prog 44 #[snapV A B C ca cb cc ns ps os, .slice P l.length cp] w fun e w' => ∃ Q c, e = .returned (.slice Q (fitU ns l ps.length).length c) ∧ IntsAt w' Q c (fitU ns l ps.length) ∧ Below w.heap.size w w' := by
  refine (fitted10_any A B C P ca cb cc cp ns ps os l w h hp).mono ?_
  rintro e w' ⟨v, rfl, ho, hb⟩
  obtain ⟨g, c, rfl, _⟩ := La.own_slice ho
  have e := fitU_len ns l ps.length
  refine ⟨g, c, by rw [e], IntsAt.own (base := w.heap.size) (by rw [e]; exact ho), hb⟩
end Go.Proofs.YtpdaohkpgconkaaGreat

namespace Go.Proofs.YtpdaohkpgconkaaGreat
open Go.RowKit Go.Maps

set_option maxRecDepth 100000 in
set_option maxHeartbeats 16000000 in
theorem admitBack_law (A B C : Option Addr) (ca cb cc : Nat) (ns : List NodeD) (ps : List PodD) (os : List OwnD) (P : Option Addr) (cp : Nat) (l : List Int) (w : World) (h : SnapIn w A B C ca cb cc ns ps os) (hp : IntsAt w P cp l) :
    Calls Tryz.prog 11 #[snapV A B C ca cb cc ns ps os, .slice P l.length cp] w fun e w' => e = .returned (.bool true) ∧ Below w.heap.size w w' := by
  have HP := Lib.hid hp
  clear hp
  have B0 : Hid (Below w.heap.size w (w.alloc (.cells (snapC A B C ca cb cc ns ps os) 26))) := Lib.hid (below1 w _)
  have S0 : Hid (Blk (w.alloc (.cells (snapC A B C ca cb cc ns ps os) 26)) w.heap.size (snapC A B C ca cb cc ns ps os) 26) := Lib.hid (Blk.new w _ _)
  have H := Lib.hid (h.take)
  have KW := Lib.hid works10_any
  have HIN := Lib.hid h
  have hn12 : (ns.take 12).length ≤ 12 := List.length_take_le _ _
  have hp30 : (ps.take 30).length ≤ 30 := List.length_take_le _ _
  have ho12 : (os.take 12).length ≤ 12 := List.length_take_le _ _
  have KC := Lib.hid (fun W' (hb : Below w.heap.size w W') => cut10_any A B C ca cb cc ns ps os W' (HIN.out.below8 hb))
  generalize ns.take 12 = n1 at H KC hn12
  generalize ps.take 30 = p1 at H KC hp30
  generalize os.take 12 = o1 at H KC ho12
  clear h HIN
  go_enter Tryz.func11, Tryz.ntmps11
  go_wp2_with fail
  refine (KC.out _ B0.out).mono ?_
  rintro e w2 ⟨rfl, hb2⟩
  have S2 : Hid (Blk w2 w.heap.size (snapC A B C ca cb cc ns ps os) 26) := Lib.hid (S0.out.below hb2 S0.out.lt)
  have B2 : Hid (Below w.heap.size w w2) := Lib.hid (B0.out.trans (hb2.mono B0.out.size))
  clear hb2 S0 B0 KC
  have r0 : w2.cell? ⟨w.heap.size, 0, none⟩ = some (.slice A ns.length ca) := Blk.cell S2.out 0
  have r1 : w2.cell? ⟨w.heap.size, 1, none⟩ = some (.slice B ps.length cb) := Blk.cell S2.out 1
  have r2 : w2.cell? ⟨w.heap.size, 2, none⟩ = some (.slice C os.length cc) := Blk.cell S2.out 2
  have f0 := Blk.free S2.out 0
  have f1 := Blk.free S2.out 1
  have f2 := Blk.free S2.out 2
  have S3 : Hid (Blk (((w2.setCell ⟨w.heap.size, 0, none⟩ (.slice A n1.length ca)).setCell ⟨w.heap.size, 1, none⟩ (.slice B p1.length cb)).setCell ⟨w.heap.size, 2, none⟩ (.slice C o1.length cc)) w.heap.size (snapC A B C ca cb cc n1 p1 o1) 26) := Lib.hid (((S2.out.set 0 _).set 1 _).set 2 _)
  have B3 : Hid (Below w.heap.size w (((w2.setCell ⟨w.heap.size, 0, none⟩ (.slice A n1.length ca)).setCell ⟨w.heap.size, 1, none⟩ (.slice B p1.length cb)).setCell ⟨w.heap.size, 2, none⟩ (.slice C o1.length cc))) := Lib.hid (((B2.out.setCell (p := ⟨w.heap.size, 0, none⟩) (Nat.le_refl _) _).setCell (p := ⟨w.heap.size, 1, none⟩) (Nat.le_refl _) _).setCell (p := ⟨w.heap.size, 2, none⟩) (Nat.le_refl _) _)
  go_upto_region 2 with fail
  clear r0 r1 r2 f0 f1 f2
  generalize (((w2.setCell ⟨w.heap.size, 0, none⟩ (.slice A n1.length ca)).setCell ⟨w.heap.size, 1, none⟩ (.slice B p1.length cb)).setCell ⟨w.heap.size, 2, none⟩ (.slice C o1.length cc)) = W at S3 B3 ⊢
  clear S2 B2
  have HW := Lib.hid (fun W' (hb : Below W.heap.size W W') => (show W'.cell? ⟨w.heap.size, 0, none⟩ = some (.slice A n1.length ca) ∧ W'.cell? ⟨w.heap.size, 1, none⟩ = some (.slice B p1.length cb) ∧ W'.cell? ⟨w.heap.size, 2, none⟩ = some (.slice C o1.length cc) from ⟨Blk.cell (S3.out.below hb S3.out.lt) 0, Blk.cell (S3.out.below hb S3.out.lt) 1, Blk.cell (S3.out.below hb S3.out.lt) 2⟩))
  have HG : Hid (w.heap.size < W.heap.size) := Lib.hid S3.out.lt
  have HT := Lib.hid (fun W' (hb : Below W.heap.size W W') => B3.out.trans (hb.mono B3.out.size))
  have HS := Lib.hid (fun W' (hb : Below W.heap.size W W') => H.out.below (HT.out W' hb))
  have hln := H.out.ln
  have hlp := H.out.lp
  have hlo := H.out.lo
  have K1 := Lib.hid (fitted10_ints A B C P ca cb cc cp n1 p1 o1 l W (HS.out W (Below.refl _ _)) (HP.out.below (HT.out W (Below.refl _ _))))
  have EP := Lib.hid (And.intro (fitU_len n1 l p1.length) (fitU_ok n1 l p1.length))
  generalize fitU n1 l p1.length = p at K1 EP
  clear H HP B3 S3
  obtain ⟨z0, z1, z2⟩ := HW.out _ (Below.refl _ W)
  go_wp2_with fail
  refine (K1.out).mono ?_
  rintro e V ⟨X, cx, rfl, ix, hb0⟩
  have HB0 := Lib.hid hb0
  have HX := Lib.hid (fun W' (hb' : Below V.heap.size V W') => ix.below hb')
  have hql := Nat.le_trans ix.le ix.most
  have HZ := Lib.hid (fun W' (hb : Below V.heap.size V W') => HW.out W' (HB0.out.trans (hb.mono HB0.out.size)))
  have HTV := Lib.hid (fun W' (hb : Below V.heap.size V W') => HT.out W' (HB0.out.trans (hb.mono HB0.out.size)))
  have HSV := Lib.hid (fun W' (hb : Below V.heap.size V W') => HS.out W' (HB0.out.trans (hb.mono HB0.out.size)))
  clear ix hb0 K1 HB0 HW HT HS z0 z1 z2 HG
  have k1 := Lib.hid (fun W' (hb : Below V.heap.size V W') => safe_at A B C X ca cb cc cx n1 p1 o1 p W' (HSV.out W' hb) (HX.out W' hb))
  have F1 : Hid (placeE n1 p1 o1 p = 0 → safeB n1 p1 o1 p = true → (all8 n1 p1 o1 p).filter brokC = []) := Lib.hid (fun h => (safe_is h).1)
  have HB := Lib.hid (Below.refl V.heap.size V)
  obtain ⟨z0, z1, z2⟩ := HZ.out _ HB.out
  go_wp2_with fail
  refine (k1.out _ HB.out).mono ?_
  rintro e V1 ⟨rfl, hb⟩
  have HB := Lib.hid (HB.out.trans (hb.mono HB.out.size))
  clear hb z0 z1 z2 k1
  have HF : Hid (¬ (placeE n1 p1 o1 p = 0 ∧ safeB n1 p1 o1 p = true) ∨ (all8 n1 p1 o1 p).filter brokC = []) := Lib.hid (by
    by_cases h : placeE n1 p1 o1 p = 0 ∧ safeB n1 p1 o1 p = true
    · exact .inr (F1.out h.1 h.2)
    · exact .inl h)
  clear F1
  generalize safeB n1 p1 o1 p = bb at HF ⊢
  generalize placeE n1 p1 o1 p = E at HF ⊢
  by_cases hE : E = 0
  case neg =>
    have hE1 : (E == 0) = false := by simpa using hE
    have hE2 : decide (E = 0) = false := decide_eq_false hE
    clear HF
    go_wp2_with fail
    refine (KW.out _).mono ?_
    rintro e w9 ⟨rfl, hb⟩
    have D := Lib.hid (HTV.out _ (HB.out.trans (hb.mono HB.out.size)))
    clear hb
    go_wp2
    go_ret
    exact ⟨rfl, D.out⟩
  subst hE
  by_cases hbb : bb = true
  case neg =>
    have hbb : bb = false := by simpa using hbb
    subst hbb
    clear HF
    go_wp2_with fail
    refine (KW.out _).mono ?_
    rintro e w9 ⟨rfl, hb⟩
    have D := Lib.hid (HTV.out _ (HB.out.trans (hb.mono HB.out.size)))
    clear hb
    go_wp2
    go_ret
    exact ⟨rfl, D.out⟩
  subst hbb
  have hF : (all8 n1 p1 o1 p).filter brokC = [] := by
    rcases HF.out with h | h
    · exact absurd ⟨rfl, rfl⟩ h
    · exact h
  have HBK := Lib.hid (fun (i : Nat) (x : Int) (h : mayB n1 p1 o1 p (2, (i : Int), x) = true) => back_step (i := i) (nd := x) hF h)
  clear HF hF
  go_wp2_with fail
  go_loopw [8] (fun i wr => ∃ k : Nat, k ≤ p.length ∧ i = .int .i64 k ∧ Below V.heap.size V wr) (fun i _ => p.length - (intOf i).toNat)
  case atStart => exact ⟨0, by omega, rfl, HB.out⟩
  case round =>
    clear HB
    obtain ⟨k, hk, rfl, hbw⟩ := hrel
    have HB := Lib.hid hbw
    clear hbw
    by_cases hlt : k < p.length
    case neg =>
      obtain rfl : k = p.length := by omega
      go_wp2_with fail
      refine (KW.out _).mono ?_
      rintro e w9 ⟨rfl, hb⟩
      have D := Lib.hid (HTV.out _ (HB.out.trans (hb.mono HB.out.size)))
      clear hb
      go_wp2
      go_ret
      exact ⟨rfl, D.out⟩
    have k0 : (0 : Int) ≤ (k : Int) := by omega
    have k1 : (k : Int) < (p.length : Int) := by omega
    obtain ⟨v, hv⟩ : ∃ v, p[k]? = some v := ⟨p[k], List.getElem?_eq_getElem hlt⟩
    have KA := Lib.hid (ways_anyA A B C X ca cb cc cx n1 p1 o1 p (k : Int) wr (HSV.out _ HB.out) (HX.out _ HB.out))
    have HV := Lib.hid (fun (h : 0 ≤ v) => ways_placed (ns := n1) (ps := p1) (os := o1) hv h n1.length)
    have HM := Lib.hid (fun (x : Int) (h : x ∈ waysU n1 p1 o1 p (k : Int) n1.length) => HBK.out k x (ways_in _ h))
    generalize waysU n1 p1 o1 p (k : Int) n1.length = Wl at KA HV HM
    obtain ⟨z0, z1, z2⟩ := HZ.out _ HB.out
    go_wp2_with fail
    refine (KA.out).mono ?_
    rintro e V2 ⟨vw, rfl, how, hb⟩
    obtain ⟨Y, cy, rfl, _⟩ := La.own_slice how
    have HB2 := Lib.hid (HB.out.trans (hb.mono HB.out.size))
    have IW := Lib.hid (fun W' (hb' : Below V2.heap.size V2 W') => (IntsAt.own how).below hb')
    have hwl := Nat.le_trans (IntsAt.own how).le (IntsAt.own how).most
    clear how hb KA z0 z1 z2 HB
    obtain ⟨xb, xo, hXa, hxl, c0⟩ := atI (HX.out _ HB2.out).cells hv
    subst hXa
    go_upto_region 10 with fail
    go_cut [54] (fun u wc => u = .bool false ∧ V2 = wc)
    case first =>
      by_cases hv0 : 0 ≤ v
      · have hW := HV.out hv0
        have hv1 : decide (0 ≤ v) = true := decide_eq_true hv0
        subst hW
        go_wp2_with fail
        go_meet
        exact ⟨rfl, rfl⟩
      · have hv1 : decide (0 ≤ v) = false := decide_eq_false hv0
        go_wp2_with fail
        go_meet
        exact ⟨rfl, rfl⟩
    case' rest => obtain ⟨rfl, rfl⟩ := hcut
    clear c0 HV
    go_wp2_with fail
    go_loopw [10] (fun i wr => ∃ m : Nat, m ≤ Wl.length ∧ i = .int .i64 m ∧ Below V2.heap.size V2 wr) (fun i _ => Wl.length - (intOf i).toNat)
    case atStart => exact ⟨0, by omega, rfl, Below.refl _ _⟩
    case round =>
      obtain ⟨m, hm, rfl, hbw⟩ := hrel
      have HBm := Lib.hid hbw
      clear hbw
      by_cases hml : m < Wl.length
      case neg =>
        obtain rfl : m = Wl.length := by omega
        have HBo := Lib.hid (HB2.out.trans (HBm.out.mono HB2.out.size))
        go_wp2_with fail
        go_roundw
        case rel => exact ⟨k + 1, by omega, by go_num, HBo.out⟩
        case measure => simp [intOf] <;> omega
      have m0 : (0 : Int) ≤ (m : Int) := by omega
      have m1 : (m : Int) < (Wl.length : Int) := by omega
      obtain ⟨x, hx⟩ : ∃ x, Wl[m]? = some x := ⟨Wl[m], List.getElem?_eq_getElem hml⟩
      obtain ⟨yb, yo, hYa, hyl, d0⟩ := atI (IW.out _ HBm.out).cells hx
      subst hYa
      have HXc := Lib.hid (fun W' (hb : Below wr.heap.size wr W') => (hb.cell (p := ⟨yb, yo + m, none⟩) hyl).trans d0)
      obtain ⟨hs1, hs2⟩ := HM.out x (List.mem_of_getElem? hx)
      have HBw := Lib.hid (HB2.out.trans (HBm.out.mono HB2.out.size))
      have HCb := Lib.hid (fun W' (hb : Below wr.heap.size wr W') => And.intro (HZ.out W' (HBw.out.trans (hb.mono HBw.out.size))) (HXc.out W' hb))
      have KS1 := Lib.hid (fun W' (hb : Below wr.heap.size wr W') => step_any A B C (some ⟨xb, xo, none⟩) ca cb cc cx n1 p1 o1 p 2 (k : Int) x W' (HSV.out W' (HBw.out.trans (hb.mono HBw.out.size))) (HX.out W' (HBw.out.trans (hb.mono HBw.out.size))))
      rw [hs1] at KS1
      dsimp only at KS1
      have KO := Lib.hid (fun W' => on_any10 (k : Int) x W')
      clear d0 hx hyl HXc hs1
      generalize p.set k x = q at KS1 hs2
      go_upto_region 15 with fail
      have HB : Hid (Below wr.heap.size wr wr.drew) := Lib.hid ((Below.refl _ wr).drew)
      have HZ9 : Hid (Below wr.heap.size wr (wr.alloc (.cells (clC z4) 47)).drew) := Lib.hid ((below1 wr _).drew)
      have QZ : Hid (Blk (wr.alloc (.cells (clC z4) 47)).drew wr.heap.size (clC z4) 47) := Lib.hid (Blk.drew (Blk.new wr _ _))
      have hge : Hid (wr.heap.size ≤ wr.heap.size) := Lib.hid (Nat.le_refl _)
      have S0 := HCb.out _ HB.out
      have S1 := HCb.out _ HZ9.out
      go_cut [11, 12, 13] (fun u v u3 wc => ∃ Q cq g, u = .slice Q (q).length cq ∧ v = .pointer (some ⟨g, 0, none⟩) ∧ u3 = .int .i64 0 ∧ IntsAt wc Q cq (q) ∧ Below wr.heap.size wr wc)
      case first =>
        go_region_held3 (fun w' => (w'.cell? ⟨w.heap.size, 0, none⟩ = some (.slice A n1.length ca) ∧ w'.cell? ⟨w.heap.size, 1, none⟩ = some (.slice B p1.length cb) ∧ w'.cell? ⟨w.heap.size, 2, none⟩ = some (.slice C o1.length cc)) ∧ w'.cell? ⟨yb, yo + m, none⟩ = some (.int .i64 x))
          (first | exact S0 | exact S1 | exact S2 | exact S3 | exact S4 | exact S5 | exact S6 | exact S7 | exact S8)
          (first
            | (go_at_call 48
               with_reducible refine (KO.out wr.drew).mono ?_
               rintro e wA ⟨rfl, hbA⟩
               have HA := Lib.hid (HB.out.trans (hbA.mono HB.out.size))
               have HAz := Lib.hid (HA.out.alloc HA.out.size (.cells (clC z4) 47))
               have QAz := Lib.hid (Blk.new wA (clC z4) 47)
               have hgA : Hid (wr.heap.size ≤ wA.heap.size) := Lib.hid HA.out.size
               have S2 := HCb.out _ HA.out
               have S3 := HCb.out _ HAz.out
               clear hbA)
            | (go_at_call 48
               refine (KO.out _).mono ?_
               rintro e wA ⟨rfl, hbA⟩
               have HAq := Lib.hid (HZ9.out.trans (hbA.mono HZ9.out.size))
               have QAq := Lib.hid (QZ.out.below hbA QZ.out.lt)
               have S2 := HCb.out _ HAq.out
               clear hbA)
            | (go_at_call 35
               refine (KS1.out wA HA.out).mono ?_
               rintro e wB ⟨v5, rfl, ho5, hbB⟩
               obtain ⟨Q5, cq5, rfl, _⟩ := La.own_slice ho5
               have HF0 := Lib.hid (HA.out.trans (hbB.mono HA.out.size))
               have HF := Lib.hid (HF0.out.alloc HF0.out.size (.cells (clC z4) 47))
               have HFz := Lib.hid (HF0.out.alloc HF0.out.size (.cells (clC z4) 47))
               have IF := Lib.hid ((IntsAt.own ho5).below (below1 wB (.cells (clC z4) 47)))
               have S4 := HCb.out _ HF0.out
               have S5 := HCb.out _ HF.out
               have S6 := HCb.out _ HFz.out
               clear ho5 hbB)
            | (go_at_call 35
               refine (KS1.out wA HAq.out).mono ?_
               rintro e wB ⟨v5, rfl, ho5, hbB⟩
               obtain ⟨Q5, cq5, rfl, _⟩ := La.own_slice ho5
               have HF0 := Lib.hid (HAq.out.trans (hbB.mono HAq.out.size))
               have QF0 := Lib.hid (QAq.out.below hbB QAq.out.lt)
               have HF := Lib.hid (below4 HF0.out (Nat.le_refl _) z4)
               have IF := Lib.hid (IntsAt.own (own4 ho5 QF0.out z4))
               obtain ⟨⟨q0, q1, q2, q3⟩, g0, g1, g2, g3⟩ := cells_of4 QF0.out
               have S4 := HCb.out _ HF0.out
               have S5 := HCb.out _ HF.out
               clear ho5 hbB)
            | (go_at_call 35
               refine (KS1.out _ HAz.out).mono ?_
               rintro e wB ⟨v5, rfl, ho5, hbB⟩
               obtain ⟨Q5, cq5, rfl, _⟩ := La.own_slice ho5
               have HF0 := Lib.hid (HAz.out.trans (hbB.mono HAz.out.size))
               have QF0 := Lib.hid (QAz.out.below hbB QAz.out.lt)
               have HF := Lib.hid (below4 HF0.out hgA.out z4)
               have IF := Lib.hid (IntsAt.own (own4 ho5 QF0.out z4))
               obtain ⟨⟨q0, q1, q2, q3⟩, g0, g1, g2, g3⟩ := cells_of4 QF0.out
               have S4 := HCb.out _ HF0.out
               have S5 := HCb.out _ HF.out
               clear ho5 hbB))
        all_goals
          (try go_wp2_with fail)
          go_meet
          exact ⟨_, _, _, rfl, rfl, rfl, IF.out, HF.out⟩
      case' rest => obtain ⟨Q, cq, g, rfl, rfl, rfl, iq, hb5⟩ := hcut
      clear HB HZ9 QZ hge S0 S1
      have HB5 := Lib.hid (HBm.out.trans (hb5.mono HBm.out.size))
      have HQ := Lib.hid (fun W' (hb : Below wc.heap.size wc W') => iq.below hb)
      have HBw5 := Lib.hid (HB2.out.trans (HB5.out.mono HB2.out.size))
      clear hb5 iq HCb KS1 KO HBw HBm
      go_upto_region 18 with fail
      have HCb := Lib.hid (fun W' (hb : Below wc.heap.size wc W') => HZ.out W' (HBw5.out.trans (hb.mono HBw5.out.size)))
      have KS1 := Lib.hid (fun W' (hb : Below wc.heap.size wc W') => step_any A B C Q ca cb cc cq n1 p1 o1 q 1 (k : Int) 0 W' (HSV.out W' (HBw5.out.trans (hb.mono HBw5.out.size))) (HQ.out W' hb))
      rw [hs2] at KS1
      dsimp only at KS1
      have KO := Lib.hid (fun W' => off_any10 (k : Int) W')
      obtain ⟨w7, hw7⟩ : ∃ w7, w7 = wc := ⟨_, rfl⟩
      subst hw7
      clear hs2
      have HB : Hid (Below w7.heap.size w7 w7.drew) := Lib.hid ((Below.refl _ w7).drew)
      have HZ9 : Hid (Below w7.heap.size w7 (w7.alloc (.cells (clC z4) 47)).drew) := Lib.hid ((below1 w7 _).drew)
      have QZ : Hid (Blk (w7.alloc (.cells (clC z4) 47)).drew w7.heap.size (clC z4) 47) := Lib.hid (Blk.drew (Blk.new w7 _ _))
      have hge : Hid (w7.heap.size ≤ w7.heap.size) := Lib.hid (Nat.le_refl _)
      have S0 := HCb.out _ HB.out
      have S1 := HCb.out _ HZ9.out
      go_cut [14, 15, 16] (fun u v u3 wc => ∃ Q cq g, u = .slice Q (p).length cq ∧ v = .pointer (some ⟨g, 0, none⟩) ∧ u3 = .int .i64 0 ∧ IntsAt wc Q cq (p) ∧ Below w7.heap.size w7 wc)
      case first =>
        go_region_held3 (fun w' => w'.cell? ⟨w.heap.size, 0, none⟩ = some (.slice A n1.length ca) ∧ w'.cell? ⟨w.heap.size, 1, none⟩ = some (.slice B p1.length cb) ∧ w'.cell? ⟨w.heap.size, 2, none⟩ = some (.slice C o1.length cc))
          (first | exact S0 | exact S1 | exact S2 | exact S3 | exact S4 | exact S5 | exact S6 | exact S7 | exact S8)
          (first
            | (go_at_call 49
               with_reducible refine (KO.out w7.drew).mono ?_
               rintro e wA ⟨rfl, hbA⟩
               have HA := Lib.hid (HB.out.trans (hbA.mono HB.out.size))
               have HAz := Lib.hid (HA.out.alloc HA.out.size (.cells (clC z4) 47))
               have QAz := Lib.hid (Blk.new wA (clC z4) 47)
               have hgA : Hid (w7.heap.size ≤ wA.heap.size) := Lib.hid HA.out.size
               have S2 := HCb.out _ HA.out
               have S3 := HCb.out _ HAz.out
               clear hbA)
            | (go_at_call 49
               refine (KO.out _).mono ?_
               rintro e wA ⟨rfl, hbA⟩
               have HAq := Lib.hid (HZ9.out.trans (hbA.mono HZ9.out.size))
               have QAq := Lib.hid (QZ.out.below hbA QZ.out.lt)
               have S2 := HCb.out _ HAq.out
               clear hbA)
            | (go_at_call 35
               refine (KS1.out wA HA.out).mono ?_
               rintro e wB ⟨v5, rfl, ho5, hbB⟩
               obtain ⟨Q5, cq5, rfl, _⟩ := La.own_slice ho5
               have HF0 := Lib.hid (HA.out.trans (hbB.mono HA.out.size))
               have HF := Lib.hid (HF0.out.alloc HF0.out.size (.cells (clC z4) 47))
               have HFz := Lib.hid (HF0.out.alloc HF0.out.size (.cells (clC z4) 47))
               have IF := Lib.hid ((IntsAt.own ho5).below (below1 wB (.cells (clC z4) 47)))
               have S4 := HCb.out _ HF0.out
               have S5 := HCb.out _ HF.out
               have S6 := HCb.out _ HFz.out
               clear ho5 hbB)
            | (go_at_call 35
               refine (KS1.out wA HAq.out).mono ?_
               rintro e wB ⟨v5, rfl, ho5, hbB⟩
               obtain ⟨Q5, cq5, rfl, _⟩ := La.own_slice ho5
               have HF0 := Lib.hid (HAq.out.trans (hbB.mono HAq.out.size))
               have QF0 := Lib.hid (QAq.out.below hbB QAq.out.lt)
               have HF := Lib.hid (below4 HF0.out (Nat.le_refl _) z4)
               have IF := Lib.hid (IntsAt.own (own4 ho5 QF0.out z4))
               obtain ⟨⟨q0, q1, q2, q3⟩, g0, g1, g2, g3⟩ := cells_of4 QF0.out
               have S4 := HCb.out _ HF0.out
               have S5 := HCb.out _ HF.out
               clear ho5 hbB)
            | (go_at_call 35
               refine (KS1.out _ HAz.out).mono ?_
               rintro e wB ⟨v5, rfl, ho5, hbB⟩
               obtain ⟨Q5, cq5, rfl, _⟩ := La.own_slice ho5
               have HF0 := Lib.hid (HAz.out.trans (hbB.mono HAz.out.size))
               have QF0 := Lib.hid (QAz.out.below hbB QAz.out.lt)
               have HF := Lib.hid (below4 HF0.out hgA.out z4)
               have IF := Lib.hid (IntsAt.own (own4 ho5 QF0.out z4))
               obtain ⟨⟨q0, q1, q2, q3⟩, g0, g1, g2, g3⟩ := cells_of4 QF0.out
               have S4 := HCb.out _ HF0.out
               have S5 := HCb.out _ HF.out
               clear ho5 hbB))
        all_goals
          (try go_wp2_with fail)
          go_meet
          exact ⟨_, _, _, rfl, rfl, rfl, IF.out, HF.out⟩
      case' rest => obtain ⟨R, cr, g5, rfl, rfl, rfl, ir, hb5⟩ := hcut
      clear HB HZ9 QZ hge S0 S1
      have HB6 := Lib.hid (HB5.out.trans (hb5.mono HB5.out.size))
      have HBw6 := Lib.hid (HB2.out.trans (HB6.out.mono HB2.out.size))
      have KE := Lib.hid (eqSame9 R (some ⟨xb, xo, none⟩) cr cx p wc hql ir (HX.out _ HBw6.out))
      clear hb5 ir HCb KS1 KO HB5 HQ HBw5
      go_wp2_with fail
      refine (KE.out).mono ?_
      rintro e w10 ⟨rfl, hb⟩
      have HB7 := Lib.hid (HB6.out.trans (hb.mono HB6.out.size))
      clear hb KE HB6
      go_wp2_with fail
      go_roundw
      case rel => exact ⟨m + 1, by omega, by go_num, HB7.out⟩
      case measure => simp [intOf] <;> omega
end Go.Proofs.YtpdaohkpgconkaaGreat
