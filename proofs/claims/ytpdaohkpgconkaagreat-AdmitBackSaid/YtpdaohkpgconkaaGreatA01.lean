/- What the reader of layer 3 does: a sign, a name, a value, each by what it answers and where the reader stands then. Condition: the reader lies in memory. A placement in which one pod is elsewhere; what evict and bind answer. Condition: the numbers lie in memory. What a step makes of a placement: the contracts of evict, bind and Apply. Condition: the cluster and the numbers lie in memory. What the document's reader of a word answers, as a plain function. Condition: a text that can lie in memory. The clauses of a placement stand in order, each once; none is broken by less than nothing; how many are about pods. In numbers only. A map of how much clauses are broken, its keys what they are about: what is found in it, how many are in it, what they are together. In numbers and data only. The clauses that are asked for, by the program's words: look. Contracts. Condition: the cluster and the numbers lie in memory; what it is handed answers of each clause. All, Of and Pod, by the program's words. Contracts. Condition: the cluster and the numbers lie in memory. By how much the clauses of a placement are broken, as a map: the program's brokenBy, whichOf, weight. Contracts. Condition: the cluster and the numbers lie in memory. What one placement makes worse: the program's worseThan, its closure, Worse. Contracts. Condition: the cluster and the numbers lie in memory. Whether a placement is safe, by how much it is broken: the program's Safe, Sum. Contracts. Condition: the cluster and the numbers lie in memory. What is against a step, as a value of any type: the program's try, clauseOf, errorOf, Step, May. Contracts. Condition: the cluster and the numbers lie in memory. -/
import Derived.Test.YtpdaohkpgconkaaGreatC09
import Derived.Test.YtpdaohkpgconkaaGreatShelf
import Derived.Deep.RegionHeld3
import Derived.Lib.IndexBytes
import Derived.Deep.RegionWith
import Derived.Deep.DeepCutAuto
import Derived.Maps.OwnSet
import Derived.Maps.OwnOps
import Derived.Maps.RangeWalk
import Derived.DeepKeys4
import Derived.WalkArith

namespace Go.Proofs.YtpdaohkpgconkaaGreat.La
open Go.RowKit

section
variable {w w' : World} {B a : Nat} {l : List UInt8}
end

/-- A word: what goes on, and where it ends. -/
def wordL (ok : Nat → Nat → Bool) (l : List UInt8) (a : Nat) : Nat := spanF ok (l.drop a) 0

end Go.Proofs.YtpdaohkpgconkaaGreat.La

namespace Go.Proofs.YtpdaohkpgconkaaGreat
open Go.RowKit

set_option maxHeartbeats 1000000 in
theorem with_any (P : Option Addr) (cp : Nat) (p : List Int) (k : Nat) (node : Int) (w : World) (hp : IntsAt w P cp p) (hk : k < p.length) (hfew : p.length ≤ 1000) :
    Calls Tryz.prog 150 #[.slice P p.length cp, .int .i64 (k : Int), .int .i64 node] w fun e w' => ∃ v, e = .returned v ∧ w'.ownsRow w.heap.size 3 1 v (p.set k node).length (intsC (p.set k node)) ∧ Below w.heap.size w w' := by
  obtain ⟨x, hx⟩ : ∃ x, p[k]? = some x := ⟨p[k], List.getElem?_eq_getElem hk⟩
  obtain ⟨b, o, hA, hbl, _⟩ := atI hp.cells hx
  subst hA
  have KC := Lib.hid (Tryz.slices_Clone_int b o p.length cp p w (Nat.le_refl _) (by omega) (fun j hj => by
    obtain ⟨b', o', hA', _, hc⟩ := atI hp.cells (k := j) (x := p[j]) (List.getElem?_eq_getElem hj)
    cases hA'
    rw [hc]
    congr 2
    rw [List.getD_eq_getElem?_getD, List.getElem?_eq_getElem hj]
    rfl))
  have k0 : (0 : Int) ≤ (k : Int) := by omega
  have k1 : (k : Int) < (p.length : Int) := by omega
  have HX := Lib.hid hx
  clear hp hx
  go_enter Tryz.func150, Tryz.ntmps150
  go_wp2_with fail
  refine (KC.out).mono ?_
  rintro e w1 ⟨v, rfl, ho, hn, hb⟩
  rw [List.take_length] at ho
  obtain ⟨A1, c1, rfl, hm⟩ := La.own_slice ho
  cases A1 with
  | none =>
    rcases ho.2 with ⟨_, h⟩ | ⟨g, cap, cur, hv, _⟩
    · omega
    · cases hv
  | some a =>
    obtain ⟨g, hg⟩ : ∃ g, a = ⟨g, 0, none⟩ := by
      rcases ho.2 with ⟨_, h⟩ | ⟨g, cap, cur, hv, _⟩
      · omega
      · exact ⟨g, by cases hv; rfl⟩
    subst hg
    have hfr := own_free ho k
    obtain ⟨b2, o2, hA2, hbl2, hcur⟩ := atI (La.own_slat ho) HX.out
    cases hA2
    rw [Nat.zero_add] at hcur
    have hgb : w.heap.size ≤ g := by
      rcases ho.2 with ⟨_, h⟩ | ⟨g', cap, cur, hv, hb', _⟩
      · omega
      · cases hv; exact hb'
    have HO := Lib.hid (own_put ho k (.int .i64 node))
    have HB := Lib.hid (hb.setCell (p := ⟨g, k, none⟩) hgb (.int .i64 node))
    clear ho hb hn KC
    go_wp2
    go_ret
    refine ⟨_, rfl, ?_, HB.out⟩
    have := HO.out
    rw [ints_set] at this
    rw [List.length_set]
    exact this
end Go.Proofs.YtpdaohkpgconkaaGreat

namespace Go.Proofs.YtpdaohkpgconkaaGreat
open Go.RowKit

set_option maxHeartbeats 1000000 in
theorem evict_any (P : Option Addr) (cp : Nat) (p : List Int) (kd pd nd : Int) (w : World) (hp : IntsAt w P cp p) (hfew : p.length ≤ 1000) :
    Calls Tryz.prog 119 #[.slice P p.length cp, stepV kd pd nd] w fun e w' => RowNo w (evictF p pd nd) e w' := by
  have B0 := Lib.hid (below1 w (.cells #[.int .i64 kd, .int .i64 pd, .int .i64 nd] 70))
  have S0 : Hid (Blk (w.alloc (.cells #[.int .i64 kd, .int .i64 pd, .int .i64 nd] 70)) w.heap.size #[.int .i64 kd, .int .i64 pd, .int .i64 nd] 70) := Lib.hid (Blk.new w _ _)
  by_cases h0 : 0 ≤ pd ∧ pd < (p.length : Int)
  case neg =>
    have KP : Hid (∀ w', Calls Tryz.prog 84 #[.int .i64 pd, .int .i64 (p.length : Int)] w' fun e w'' => e = .returned (.bool false) ∧ w'' = w') := Lib.hid (fun w' => by
      have := isPlace_any pd p.length w'
      rwa [decide_eq_false h0] at this)
    have E : Hid (evictF p pd nd = ([], 9)) := Lib.hid (by unfold evictF; rw [if_neg h0])
    clear hp h0
    go_enter Tryz.func119, Tryz.ntmps119
    go_wp2_with fail
    refine (KP.out _).mono ?_
    rintro e w1 ⟨rfl, rfl⟩
    go_wp2
    go_ret2
    exact nil_post E.out B0.out
  have KP : Hid (∀ w', Calls Tryz.prog 84 #[.int .i64 pd, .int .i64 (p.length : Int)] w' fun e w'' => e = .returned (.bool true) ∧ w'' = w') := Lib.hid (fun w' => by
    have := isPlace_any pd p.length w'
    rwa [decide_eq_true h0] at this)
  obtain ⟨n, rfl⟩ : ∃ n : Nat, pd = (n : Int) := ⟨pd.toNat, by omega⟩
  have hn : n < p.length := by omega
  have n0 : (0 : Int) ≤ (n : Int) := by omega
  have n1 : (n : Int) < (p.length : Int) := by omega
  have E1 : Hid (evictF p (n : Int) nd = if nd = 0 then (if p[n]? = some (-1) then ([], 110) else (p.set n (-1), 0)) else ([], 9)) := Lib.hid (by unfold evictF; rw [if_pos h0, Int.toNat_natCast])
  clear h0
  have s0 := Blk.cell S0.out 0
  have s1 := Blk.cell S0.out 1
  have s2 := Blk.cell S0.out 2
  by_cases hd : nd = 0
  case neg =>
    have E : Hid (evictF p (n : Int) nd = ([], 9)) := Lib.hid (by rw [E1.out, if_neg hd])
    have hdb : (nd != 0) = true := by simpa using hd
    clear hp E1
    go_enter Tryz.func119, Tryz.ntmps119
    go_wp2_with fail
    refine (KP.out _).mono ?_
    rintro e w1 ⟨rfl, rfl⟩
    go_wp2
    go_ret2
    exact nil_post E.out B0.out
  subst hd
  obtain ⟨x, hx⟩ : ∃ x, p[n]? = some x := ⟨p[n], List.getElem?_eq_getElem hn⟩
  have KW := Lib.hid (with_any P cp p n (-1) (w.alloc (.cells #[.int .i64 kd, .int .i64 (n : Int), .int .i64 0] 70)) (hp.below B0.out) hn hfew)
  obtain ⟨b, o, hA, hbl, c0⟩ := atI (hp.below B0.out).cells hx
  subst hA
  by_cases hm : x = -1
  case pos =>
    subst hm
    have E : Hid (evictF p (n : Int) 0 = ([], 110)) := Lib.hid (by rw [E1.out, if_pos rfl, if_pos hx])
    clear hp E1 hx KW
    go_enter Tryz.func119, Tryz.ntmps119
    go_wp2_with fail
    refine (KP.out _).mono ?_
    rintro e w1 ⟨rfl, rfl⟩
    go_wp2
    go_ret2
    exact nil_post E.out B0.out
  have E : Hid (evictF p (n : Int) 0 = (p.set n (-1), 0)) := Lib.hid (by rw [E1.out, if_pos rfl, if_neg (by rw [hx]; simpa using hm)])
  have hmb : (x == -1) = false := by simpa using hm
  clear hp E1 hx
  go_enter Tryz.func119, Tryz.ntmps119
  go_wp2_with fail
  refine (KP.out _).mono ?_
  rintro e w1 ⟨rfl, rfl⟩
  go_wp2_with fail
  refine (KW.out).mono ?_
  rintro e w2 ⟨v, rfl, ho, hb⟩
  have HO := Lib.hid (own_base ho B0.out.size)
  have HB := Lib.hid (B0.out.trans (hb.mono B0.out.size))
  clear ho hb KW
  go_wp2
  go_ret2
  rw [E.out]
  exact ⟨_, rfl, HO.out, HB.out⟩

set_option maxHeartbeats 1000000 in
theorem bind_any (A B C P : Option Addr) (ca cb cc cp lb lc : Nat) (ns : List NodeD) (p : List Int) (kd pd nd : Int) (w : World) (hs : La.SlAt w A (cellsN ns)) (hp : IntsAt w P cp p) (hfew : p.length ≤ 1000) :
    Calls Tryz.prog 120 #[.agg #[.slice A ns.length ca, .slice B lb cb, .slice C lc cc], .slice P p.length cp, stepV kd pd nd] w fun e w' => RowNo w (bindF ns p pd nd) e w' := by
  have B0 := Lib.hid (Qu.below2 w (.cells #[.slice A ns.length ca, .slice B lb cb, .slice C lc cc] 26) (.cells #[.int .i64 kd, .int .i64 pd, .int .i64 nd] 70))
  by_cases h0 : 0 ≤ pd ∧ pd < (p.length : Int)
  case neg =>
    have KP : Hid (∀ w', Calls Tryz.prog 84 #[.int .i64 pd, .int .i64 (p.length : Int)] w' fun e w'' => e = .returned (.bool false) ∧ w'' = w') := Lib.hid (fun w' => by
      have := isPlace_any pd p.length w'
      rwa [decide_eq_false h0] at this)
    have E : Hid (bindF ns p pd nd = ([], 9)) := Lib.hid (by unfold bindF; rw [if_neg h0])
    clear hp h0 hs
    go_enter Tryz.func120, Tryz.ntmps120
    go_wp2_with fail
    refine (KP.out _).mono ?_
    rintro e w1 ⟨rfl, rfl⟩
    go_wp2
    go_ret2
    exact nil_post E.out B0.out
  have KP : Hid (∀ w', Calls Tryz.prog 84 #[.int .i64 pd, .int .i64 (p.length : Int)] w' fun e w'' => e = .returned (.bool true) ∧ w'' = w') := Lib.hid (fun w' => by
    have := isPlace_any pd p.length w'
    rwa [decide_eq_true h0] at this)
  obtain ⟨n, rfl⟩ : ∃ n : Nat, pd = (n : Int) := ⟨pd.toNat, by omega⟩
  have hn : n < p.length := by omega
  have n0 : (0 : Int) ≤ (n : Int) := by omega
  have n1 : (n : Int) < (p.length : Int) := by omega
  have E1 : Hid (bindF ns p (n : Int) nd = if 0 ≤ nd ∧ nd < (ns.length : Int) then (if p[n]? = some (-1) then (if lostB ns nd.toNat then ([], 110) else (p.set n nd, 0)) else ([], 110)) else ([], 9)) := Lib.hid (by unfold bindF; rw [if_pos h0, Int.toNat_natCast])
  clear h0
  by_cases hd : 0 ≤ nd ∧ nd < (ns.length : Int)
  case neg =>
    have E : Hid (bindF ns p (n : Int) nd = ([], 9)) := Lib.hid (by rw [E1.out, if_neg hd])
    have KQ : Hid (∀ w', Calls Tryz.prog 84 #[.int .i64 nd, .int .i64 (ns.length : Int)] w' fun e w'' => e = .returned (.bool false) ∧ w'' = w') := Lib.hid (fun w' => by
      have := isPlace_any nd ns.length w'
      rwa [decide_eq_false hd] at this)
    clear hp E1 hs hd
    go_enter Tryz.func120, Tryz.ntmps120
    go_wp2_with fail
    refine (KP.out _).mono ?_
    rintro e w1 ⟨rfl, rfl⟩
    go_wp2_with fail
    refine (KQ.out _).mono ?_
    rintro e w1 ⟨rfl, rfl⟩
    go_wp2
    go_ret2
    exact nil_post E.out B0.out
  have KQ : Hid (∀ w', Calls Tryz.prog 84 #[.int .i64 nd, .int .i64 (ns.length : Int)] w' fun e w'' => e = .returned (.bool true) ∧ w'' = w') := Lib.hid (fun w' => by
    have := isPlace_any nd ns.length w'
    rwa [decide_eq_true hd] at this)
  obtain ⟨m, rfl⟩ : ∃ m : Nat, nd = (m : Int) := ⟨nd.toNat, by omega⟩
  have hm : m < ns.length := by omega
  have m0 : (0 : Int) ≤ (m : Int) := by omega
  have m1 : (m : Int) < (ns.length : Int) := by omega
  have E2 : Hid (bindF ns p (n : Int) (m : Int) = if p[n]? = some (-1) then (if lostB ns m then ([], 110) else (p.set n (m : Int), 0)) else ([], 110)) := Lib.hid (by rw [E1.out, if_pos hd, Int.toNat_natCast])
  clear E1 hd
  obtain ⟨x, hx⟩ : ∃ x, p[n]? = some x := ⟨p[n], List.getElem?_eq_getElem hn⟩
  obtain ⟨y, hy⟩ : ∃ y, ns[m]? = some y := ⟨ns[m], List.getElem?_eq_getElem hm⟩
  have KW := Lib.hid (with_any P cp p n (m : Int) _ (hp.below B0.out) hn hfew)
  obtain ⟨b, o, hA, hbl, q0⟩ := atI (hp.below B0.out).cells hx
  subst hA
  obtain ⟨b', o', hA', hbl', c0, c1, c2, c3, c4, c5, c6, c7, c8, c9⟩ := atN (hs.below B0.out) hy
  subst hA'
  have hlost : lostB ns m = y.lost := by unfold lostB; rw [hy]
  clear hs hp hy c0 c1 c2 c3 c4 c5 c6 c7 c8
  by_cases hm1 : x = -1
  case neg =>
    have E : Hid (bindF ns p (n : Int) (m : Int) = ([], 110)) := Lib.hid (by rw [E2.out, if_neg (by rw [hx]; simpa using hm1)])
    have hmb : (x != -1) = true := by simpa using hm1
    clear E2 hx KW hlost
    go_enter Tryz.func120, Tryz.ntmps120
    go_wp2_with fail
    refine (KP.out _).mono ?_
    rintro e w1 ⟨rfl, rfl⟩
    go_wp2_with fail
    refine (KQ.out _).mono ?_
    rintro e w1 ⟨rfl, rfl⟩
    go_wp2
    go_ret2
    exact nil_post E.out B0.out
  subst hm1
  obtain ⟨l, hl⟩ : ∃ l, y.lost = l := ⟨_, rfl⟩
  rw [hl] at hlost c9
  clear hl
  cases l
  case true =>
    have E : Hid (bindF ns p (n : Int) (m : Int) = ([], 110)) := Lib.hid (by rw [E2.out, if_pos hx, hlost, if_pos rfl])
    clear E2 hx KW hlost
    go_enter Tryz.func120, Tryz.ntmps120
    go_wp2_with fail
    refine (KP.out _).mono ?_
    rintro e w1 ⟨rfl, rfl⟩
    go_wp2_with fail
    refine (KQ.out _).mono ?_
    rintro e w1 ⟨rfl, rfl⟩
    go_wp2
    go_ret2
    exact nil_post E.out B0.out
  have E : Hid (bindF ns p (n : Int) (m : Int) = (p.set n (m : Int), 0)) := Lib.hid (by rw [E2.out, if_pos hx, hlost, if_neg (by simp)])
  clear E2 hx hlost
  go_enter Tryz.func120, Tryz.ntmps120
  go_wp2_with fail
  refine (KP.out _).mono ?_
  rintro e w1 ⟨rfl, rfl⟩
  go_wp2_with fail
  refine (KQ.out _).mono ?_
  rintro e w1 ⟨rfl, rfl⟩
  go_wp2_with fail
  refine (KW.out).mono ?_
  rintro e w2 ⟨v, rfl, ho, hb⟩
  have HO := Lib.hid (own_base ho B0.out.size)
  have HB := Lib.hid (B0.out.trans (hb.mono B0.out.size))
  clear ho hb KW
  go_wp2
  go_ret2
  rw [E.out]
  exact ⟨_, rfl, HO.out, HB.out⟩

set_option maxHeartbeats 1000000 in
theorem apply_any (A B C P : Option Addr) (ca cb cc cp : Nat) (ns : List NodeD) (ps : List PodD) (os : List OwnD) (p : List Int) (kd pd nd : Int) (w : World) (h : SnapAt w A B C ca cb cc ns ps os) (hp : IntsAt w P cp p) :
    Calls Tryz.prog 85 #[snapV A B C ca cb cc ns ps os, .slice P p.length cp, stepV kd pd nd] w fun e w' => RowNo w (applyF ns ps os p kd pd nd) e w' := by
  have B0 := Lib.hid (Qu.below2 w (.cells (snapC A B C ca cb cc ns ps os) 26) (.cells #[.int .i64 kd, .int .i64 pd, .int .i64 nd] 70))
  have S0 : Hid (Blk ((w.alloc (.cells (snapC A B C ca cb cc ns ps os) 26)).alloc (.cells #[.int .i64 kd, .int .i64 pd, .int .i64 nd] 70)) (w.heap.size + 1) #[.int .i64 kd, .int .i64 pd, .int .i64 nd] 70) := Lib.hid (blk2 w _ _ _)
  have Z0 : Hid (Blk ((w.alloc (.cells (snapC A B C ca cb cc ns ps os) 26)).alloc (.cells #[.int .i64 kd, .int .i64 pd, .int .i64 nd] 70)) w.heap.size (snapC A B C ca cb cc ns ps os) 26) := Lib.hid (Blk.alloc (Blk.new w _ _) _)
  have hlt0 := Blk.lt S0.out
  have KC := Lib.hid (pcheck_any A B C P ca cb cc cp ns ps os p _ (h.below B0.out) (hp.below B0.out))
  have hlen : placeE ns ps os p = 0 → p.length = ps.length := by
    intro hE
    unfold placeE at hE
    split at hE
    · split at hE
      · assumption
      · cases hE
    · rename_i hne
      exact absurd hE hne
  have E0 : Hid (applyF ns ps os p kd pd nd = if placeE ns ps os p = 0 then (if kd = 1 then evictF p pd nd else if kd = 2 then bindF ns p pd nd else ([], 2)) else ([], placeE ns ps os p)) := Lib.hid rfl
  have hlp := h.lp
  have H := Lib.hid h
  have HP := Lib.hid hp
  clear h hp
  generalize placeE ns ps os p = v0 at KC E0 hlen
  by_cases hv : v0 = 0
  case neg =>
    have E : Hid (applyF ns ps os p kd pd nd = ([], v0)) := Lib.hid (by rw [E0.out, if_neg hv])
    have hvb : (v0 != 0) = true := by simpa using hv
    clear E0 hlen
    go_enter Tryz.func85, Tryz.ntmps85
    go_wp2_with fail
    refine (KC.out).mono ?_
    rintro e w1 ⟨rfl, hb⟩
    have B1 := Lib.hid (B0.out.trans (hb.mono B0.out.size))
    clear hb
    go_wp2
    go_ret2
    exact nil_post E.out B1.out
  subst hv
  have hfew : p.length ≤ 1000 := by rw [hlen rfl]; exact hlp
  have E1 : Hid (applyF ns ps os p kd pd nd = if kd = 1 then evictF p pd nd else if kd = 2 then bindF ns p pd nd else ([], 2)) := Lib.hid (by rw [E0.out, if_pos rfl])
  clear E0 hlen
  go_enter Tryz.func85, Tryz.ntmps85
  go_wp2_with fail
  refine (KC.out).mono ?_
  rintro e w1 ⟨rfl, hb⟩
  have B1 := Lib.hid (B0.out.trans (hb.mono B0.out.size))
  have S1 := Lib.hid (S0.out.below hb hlt0)
  have Z1 := Lib.hid (Z0.out.below hb (Nat.lt_trans (Nat.lt_succ_self _) hlt0))
  clear hb KC
  have s0 : w1.cell? ⟨w.heap.size + 1, 0, none⟩ = some (.int .i64 kd) := Blk.cell S1.out 0
  have s1 : w1.cell? ⟨w.heap.size + 1, 1, none⟩ = some (.int .i64 pd) := Blk.cell S1.out 1
  have s2 : w1.cell? ⟨w.heap.size + 1, 2, none⟩ = some (.int .i64 nd) := Blk.cell S1.out 2
  have z0 : w1.cell? ⟨w.heap.size, 0, none⟩ = some (.slice A ns.length ca) := Blk.cell Z1.out 0
  have z1 : w1.cell? ⟨w.heap.size, 1, none⟩ = some (.slice B ps.length cb) := Blk.cell Z1.out 1
  have z2 : w1.cell? ⟨w.heap.size, 2, none⟩ = some (.slice C os.length cc) := Blk.cell Z1.out 2
  by_cases h1 : kd = 1
  · subst h1
    have KE := Lib.hid (evict_any P cp p 1 pd nd w1 (HP.out.below B1.out) hfew)
    have E2 : Hid (applyF ns ps os p 1 pd nd = evictF p pd nd) := Lib.hid (by rw [E1.out, if_pos rfl])
    clear E1
    go_wp2_with fail
    refine (KE.out).mono ?_
    rintro e w2 ⟨v, rfl, ho, hb⟩
    have HO := Lib.hid (own_base ho B1.out.size)
    have HB := Lib.hid (B1.out.trans (hb.mono B1.out.size))
    clear ho hb KE
    go_wp2
    go_ret2
    rw [E2.out]
    exact ⟨_, rfl, HO.out, HB.out⟩
  · have h1b : (kd == 1) = false := by simpa using h1
    by_cases h2 : kd = 2
    · subst h2
      have KE := Lib.hid (bind_any A B C P ca cb cc cp ps.length os.length ns p 2 pd nd w1 (H.out.below B1.out).n.cells (HP.out.below B1.out) hfew)
      have E2 : Hid (applyF ns ps os p 2 pd nd = bindF ns p pd nd) := Lib.hid (by rw [E1.out, if_neg h1, if_pos rfl])
      clear E1
      go_wp2_with fail
      refine (KE.out).mono ?_
      rintro e w2 ⟨v, rfl, ho, hb⟩
      have HO := Lib.hid (own_base ho B1.out.size)
      have HB := Lib.hid (B1.out.trans (hb.mono B1.out.size))
      clear ho hb KE
      go_wp2
      go_ret2
      rw [E2.out]
      exact ⟨_, rfl, HO.out, HB.out⟩
    · have h2b : (kd == 2) = false := by simpa using h2
      have E2 : Hid (applyF ns ps os p kd pd nd = ([], 2)) := Lib.hid (by rw [E1.out, if_neg h1, if_neg h2])
      clear E1
      go_wp2
      go_ret2
      exact nil_post E2.out B1.out
end Go.Proofs.YtpdaohkpgconkaaGreat

namespace Go.Proofs.YtpdaohkpgconkaaGreat.La
open Go.RowKit

def insAt (l : List UInt8) (i : Nat) : Bool := match l[i]? with | some b => insB b.toNat | none => false

/-- A word that stands at a byte, and where it ends; where it is wrong, and how. -/
def runF (nm : Bool) (l : List UInt8) (a : Nat) : List UInt8 × Nat × Int :=
  if wordL (if nm = true then okName else okVal) l a = 0 ∧ a = l.length then ([], a, 3)
  else if wordL (if nm = true then okName else okVal) l a = 0 ∨ insAt l (a + wordL (if nm = true then okName else okVal) l a) = true then ([], a + wordL (if nm = true then okName else okVal) l a, 4)
  else ((l.drop a).take (wordL (if nm = true then okName else okVal) l a), a + wordL (if nm = true then okName else okVal) l a, 0)
end Go.Proofs.YtpdaohkpgconkaaGreat.La

namespace Go.Proofs.YtpdaohkpgconkaaGreat
open Go.RowKit

/-- One clause stands ahead of another. -/
def Rise3 (c d : ClT) : Prop := c.1 < d.1 ∨ (c.1 = d.1 ∧ (c.2.1 < d.2.1 ∨ (c.2.1 = d.2.1 ∧ c.2.2.1 < d.2.2.1)))
theorem caps_kind (ns : List NodeD) (ps : List PodD) (p : List Int) : ∀ k, ∀ c ∈ capsU ns ps p k, c.1 = 1 ∧ 0 ≤ c.2.1 ∧ c.2.1 < (k : Int) ∧ 0 ≤ c.2.2.2
  | 0, c, h => by simp [capsU] at h
  | k + 1, c, h => by
    rw [capsU, List.mem_append] at h
    rcases h with h | h
    · have := caps_kind ns ps p k c h
      omega
    · split at h
      · obtain ⟨q, hq, rfl⟩ := List.mem_map.1 h
        refine ⟨rfl, ?_, ?_, ?_⟩
        · show (0 : Int) ≤ (k : Int); omega
        · show (k : Int) < ((k + 1 : Nat) : Int); omega
        · show 0 ≤ max 0 _; omega
      · simp at h
theorem caps_rise (ns : List NodeD) (ps : List PodD) (p : List Int) : ∀ k, (capsU ns ps p k).Pairwise Rise3
  | 0 => List.Pairwise.nil
  | k + 1 => by
    rw [capsU, List.pairwise_append]
    refine ⟨caps_rise ns ps p k, ?_, ?_⟩
    · split
      · unfold capN
        rw [List.pairwise_map]
        refine List.Pairwise.imp ?_ List.pairwise_lt_range
        intro a b hab
        refine .inr ⟨rfl, .inr ⟨rfl, ?_⟩⟩
        show (a : Int) < (b : Int)
        omega
      · exact List.Pairwise.nil
    · intro c hc d hd
      obtain ⟨h1, _, h3, _⟩ := caps_kind ns ps p k c hc
      split at hd
      · obtain ⟨q, hq, rfl⟩ := List.mem_map.1 hd
        refine .inr ⟨h1, .inl ?_⟩
        show c.2.1 < (k : Int)
        omega
      · simp at hd
theorem pods_kind (ns : List NodeD) (ps : List PodD) (os : List OwnD) (p : List Int) (kind : Nat) : ∀ k, ∀ c ∈ podsU ns ps os p kind k, c.1 = (kind : Int) ∧ 0 ≤ c.2.1 ∧ c.2.1 < (k : Int) ∧ 0 ≤ c.2.2.2
  | 0, c, h => by simp [podsU] at h
  | k + 1, c, h => by
    rw [podsU, List.mem_append] at h
    rcases h with h | h
    · have := pods_kind ns ps os p kind k c h
      omega
    · unfold podR at h
      split at h
      · simp at h
        subst h
        refine ⟨rfl, ?_, ?_, ?_⟩
        · show (0 : Int) ≤ (k : Int); omega
        · show (k : Int) < ((k + 1 : Nat) : Int); omega
        · rename_i b _
          show (0 : Int) ≤ (b : Int); omega
      · simp at h
theorem pods_rise (ns : List NodeD) (ps : List PodD) (os : List OwnD) (p : List Int) (kind : Nat) : ∀ k, (podsU ns ps os p kind k).Pairwise Rise3
  | 0 => List.Pairwise.nil
  | k + 1 => by
    rw [podsU, List.pairwise_append]
    refine ⟨pods_rise ns ps os p kind k, ?_, ?_⟩
    · unfold podR
      split
      · exact List.pairwise_singleton _ _
      · exact List.Pairwise.nil
    · intro c hc d hd
      obtain ⟨h1, _, h3, _⟩ := pods_kind ns ps os p kind k c hc
      unfold podR at hd
      split at hd
      · simp at hd
        subst hd
        refine .inr ⟨h1, .inl ?_⟩
        show c.2.1 < (k : Int)
        omega
      · simp at hd
theorem kinds_kind (ns : List NodeD) (ps : List PodD) (os : List OwnD) (p : List Int) : ∀ k, ∀ c ∈ kindsU ns ps os p k, 2 ≤ c.1 ∧ c.1 ≤ (k : Int) + 1 ∧ 0 ≤ c.2.1 ∧ c.2.1 < (p.length : Int) ∧ 0 ≤ c.2.2.2
  | 0, c, h => by simp [kindsU] at h
  | k + 1, c, h => by
    rw [kindsU, List.mem_append] at h
    rcases h with h | h
    · have := kinds_kind ns ps os p k c h
      omega
    · have := pods_kind ns ps os p (k + 2) p.length c h
      omega
theorem kinds_rise (ns : List NodeD) (ps : List PodD) (os : List OwnD) (p : List Int) : ∀ k, (kindsU ns ps os p k).Pairwise Rise3
  | 0 => List.Pairwise.nil
  | k + 1 => by
    rw [kindsU, List.pairwise_append]
    refine ⟨kinds_rise ns ps os p k, pods_rise ns ps os p (k + 2) p.length, ?_⟩
    intro c hc d hd
    have := kinds_kind ns ps os p k c hc
    have := pods_kind ns ps os p (k + 2) p.length d hd
    exact .inl (by omega)
theorem skewO_pos (l : List Int) (s : Int) : 0 ≤ skewO l s := by
  unfold skewO
  split <;> omega
theorem spreads_kind (ns : List NodeD) (ps : List PodD) (os : List OwnD) (p : List Int) : ∀ k, ∀ c ∈ spreadsU ns ps os p k, c.1 = 7 ∧ 0 ≤ c.2.1 ∧ c.2.1 < (k : Int) ∧ 0 ≤ c.2.2.2
  | 0, c, h => by simp [spreadsU] at h
  | k + 1, c, h => by
    rw [spreadsU, List.mem_append] at h
    rcases h with h | h
    · have := spreads_kind ns ps os p k c h
      omega
    · unfold spreadR at h
      split at h
      · split at h
        · simp at h
        · simp at h
          subst h
          refine ⟨rfl, ?_, ?_, skewO_pos _ _⟩
          · show (0 : Int) ≤ (k : Int); omega
          · show (k : Int) < ((k + 1 : Nat) : Int); omega
      · simp at h
theorem spreads_rise (ns : List NodeD) (ps : List PodD) (os : List OwnD) (p : List Int) : ∀ k, (spreadsU ns ps os p k).Pairwise Rise3
  | 0 => List.Pairwise.nil
  | k + 1 => by
    rw [spreadsU, List.pairwise_append]
    refine ⟨spreads_rise ns ps os p k, ?_, ?_⟩
    · unfold spreadR
      split
      · split
        · exact List.Pairwise.nil
        · exact List.pairwise_singleton _ _
      · exact List.Pairwise.nil
    · intro c hc d hd
      obtain ⟨h1, _, h3, _⟩ := spreads_kind ns ps os p k c hc
      unfold spreadR at hd
      split at hd
      · split at hd
        · simp at hd
        · simp at hd
          subst hd
          refine .inr ⟨h1, .inl ?_⟩
          show c.2.1 < (k : Int)
          omega
      · simp at hd
theorem mins_kind (ns : List NodeD) (ps : List PodD) (os : List OwnD) (p : List Int) : ∀ k, ∀ c ∈ minsU ns ps os p k, c.1 = 8 ∧ 0 ≤ c.2.1 ∧ c.2.1 < (k : Int) ∧ 0 ≤ c.2.2.2
  | 0, c, h => by simp [minsU] at h
  | k + 1, c, h => by
    rw [minsU, List.mem_append] at h
    rcases h with h | h
    · have := mins_kind ns ps os p k c h
      omega
    · unfold minR at h
      split at h
      · simp at h
        subst h
        refine ⟨rfl, ?_, ?_, ?_⟩
        · show (0 : Int) ≤ (k : Int); omega
        · show (k : Int) < ((k + 1 : Nat) : Int); omega
        · show 0 ≤ max 0 _; omega
      · simp at h
theorem mins_rise (ns : List NodeD) (ps : List PodD) (os : List OwnD) (p : List Int) : ∀ k, (minsU ns ps os p k).Pairwise Rise3
  | 0 => List.Pairwise.nil
  | k + 1 => by
    rw [minsU, List.pairwise_append]
    refine ⟨mins_rise ns ps os p k, ?_, ?_⟩
    · unfold minR
      split
      · exact List.pairwise_singleton _ _
      · exact List.Pairwise.nil
    · intro c hc d hd
      obtain ⟨h1, _, h3, _⟩ := mins_kind ns ps os p k c hc
      unfold minR at hd
      split at hd
      · simp at hd
        subst hd
        refine .inr ⟨h1, .inl ?_⟩
        show c.2.1 < (k : Int)
        omega
      · simp at hd
theorem all8_rise (ns : List NodeD) (ps : List PodD) (os : List OwnD) (p : List Int) : (all8 ns ps os p).Pairwise Rise3 := by
  unfold all8
  split
  · unfold allU
    rw [List.pairwise_append, List.pairwise_append, List.pairwise_append]
    refine ⟨⟨⟨caps_rise _ _ _ _, kinds_rise _ _ _ _ _, ?_⟩, spreads_rise _ _ _ _ _, ?_⟩, mins_rise _ _ _ _ _, ?_⟩
    · intro c hc d hd
      have := caps_kind ns ps p _ c hc
      have := kinds_kind ns ps os p _ d hd
      exact .inl (by omega)
    · intro c hc d hd
      have := spreads_kind ns ps os p _ d hd
      rcases List.mem_append.1 hc with hc | hc
      · have := caps_kind ns ps p _ c hc
        exact .inl (by omega)
      · have := kinds_kind ns ps os p _ c hc
        exact .inl (by omega)
    · intro c hc d hd
      have := mins_kind ns ps os p _ d hd
      rcases List.mem_append.1 hc with hc | hc
      · rcases List.mem_append.1 hc with hc | hc
        · have := caps_kind ns ps p _ c hc
          exact .inl (by omega)
        · have := kinds_kind ns ps os p _ c hc
          exact .inl (by omega)
      · have := spreads_kind ns ps os p _ c hc
        exact .inl (by omega)
  · exact List.Pairwise.nil
/-- What each clause is: of a known kind, broken by no less than nothing; one about a pod is about one that is there. -/
theorem all8_good (ns : List NodeD) (ps : List PodD) (os : List OwnD) (p : List Int) : ∀ c ∈ all8 ns ps os p, 0 ≤ c.2.2.2 ∧ (2 ≤ c.1 → c.1 ≤ 6 → 0 ≤ c.2.1 ∧ c.2.1 < (p.length : Int)) := by
  intro c hc
  unfold all8 at hc
  split at hc
  · unfold allU at hc
    simp only [List.mem_append] at hc
    rcases hc with ((hc | hc) | hc) | hc
    · have := caps_kind ns ps p _ c hc
      exact ⟨by omega, fun h1 h2 => by omega⟩
    · have := kinds_kind ns ps os p _ c hc
      exact ⟨by omega, fun h1 h2 => by omega⟩
    · have := spreads_kind ns ps os p _ c hc
      exact ⟨by omega, fun h1 h2 => by omega⟩
    · have := mins_kind ns ps os p _ c hc
      exact ⟨by omega, fun h1 h2 => by omega⟩
  · simp at hc
end Go.Proofs.YtpdaohkpgconkaaGreat

namespace Go.Proofs.YtpdaohkpgconkaaGreat
open Go.RowKit Go.Maps

theorem which_row : (93 : TypeId) < Tryz.prog.types.size := of_decide_eq_true (by kernel_rfl)
theorem which_laid : laidOutB Tryz.prog = true := by kernel_rfl
theorem which_wide : (match Tryz.prog.underlying 93 with | some (.array _ _) | some (.struct _) => true | _ => false) = true := by rw [Tryz.underlying93]
set_option maxRecDepth 100000 in
theorem which_law : Keyed Tryz.prog 93 := Keyed.of_law (deep_law_laid which_laid (m := 2) (by omega) which_row (by kernel_rfl) which_wide)
theorem which_type : Tryz.prog.keyType 93 = true := by kernel_rfl
theorem which_cells : Tryz.prog.cellsOf 93 = 3 := by kernel_rfl
theorem int_cells1 : Tryz.prog.cellsOf 3 = 1 := by kernel_rfl
theorem which_lits (n : Nat) (cs : List Value) : Tryz.prog.keyLits (n + 1) 93 cs = (match Tryz.prog.underlying 93, cs with | some (.struct fs), cs => if cs.length = Tryz.prog.cellsOf 93 ∧ fs.all (·.name != "_") = true then (fs.toList.mapM fun f => Tryz.prog.keyLits n f.type ((cs.drop f.offset).take (Tryz.prog.cellsOf f.type))).map List.flatten else none | _, _ => none) := by
  rw [Tryz.underlying93]
  conv => lhs; unfold Program.keyLits
  rw [Tryz.underlying93]
theorem int_lits (n : Nat) (a : Int) (h : (Lit.int .i64 a).wf = true) : Tryz.prog.keyLits (n + 1) 3 [.int .i64 a] = some [.int .i64 a] := by
  unfold Program.keyLits
  rw [Tryz.underlying3]
  simp [h]

/-- What a clause is about, as a value, as a key's datum. -/
def keyW (a b c : Int) : Value := .agg #[.int .i64 a, .int .i64 b, .int .i64 c]
def litW (a b c : Int) : Lit := .string (keyBytes [.int .i64 a, .int .i64 b, .int .i64 c])
def KeyOk (a b c : Int) : Prop := (0 ≤ a ∧ a ≤ 1000000) ∧ (0 ≤ b ∧ b ≤ 1000000) ∧ (0 ≤ c ∧ c ≤ 1000000)
theorem keyOf_w {a b c : Int} (h : KeyOk a b c) : keyOf Tryz.prog 93 (keyW a b c) = some (litW a b c) := by
  obtain ⟨⟨a0, a1⟩, ⟨b0, b1⟩, c0, c1⟩ := h
  have ha : (Lit.int .i64 a).wf = true := WalkArith.wf_i64 (by omega)
  have hb : (Lit.int .i64 b).wf = true := WalkArith.wf_i64 (by omega)
  have hc : (Lit.int .i64 c).wf = true := WalkArith.wf_i64 (by omega)
  clear a0 a1 b0 b1 c0 c1
  obtain ⟨n, hn⟩ : ∃ n, Tryz.prog.types.size + 1 = n + 1 + 1 := by
    obtain ⟨m, hm⟩ := Nat.exists_eq_succ_of_ne_zero (Nat.ne_of_gt (Nat.lt_of_le_of_lt (Nat.zero_le _) which_row))
    exact ⟨m, by rw [hm]⟩
  have hl : Tryz.prog.keyLits (n + 1 + 1) 93 [.int .i64 a, .int .i64 b, .int .i64 c] = some [.int .i64 a, .int .i64 b, .int .i64 c] := by
    rw [which_lits, Tryz.underlying93]
    simp [which_cells, int_cells1, int_lits n _ ha, int_lits n _ hb, int_lits n _ hc]
  have hf : (Value.agg #[.int .i64 a, .int .i64 b, .int .i64 c]).formed Tryz.prog 93 = true := by simp [Value.formed, Tryz.underlying93, which_cells]
  unfold keyOf keyW
  rw [Tryz.underlying93]
  dsimp only
  rw [which_type, hf, hn]
  show (if (true && true) = true then Option.map (fun ls => Lit.string (keyBytes ls)) (Tryz.prog.keyLits (n + 1 + 1) 93 [.int .i64 a, .int .i64 b, .int .i64 c]) else none) = _
  rw [hl]
  rfl
theorem litW_key {a b c : Int} (h : KeyOk a b c) : WideAt.IsKeyLit (litW a b c) := which_law.key (keyOf_w h)
theorem litW_inj {a b c a' b' c' : Int} (h : KeyOk a b c) (h' : KeyOk a' b' c') (e : litW a b c = litW a' b' c') : a = a' ∧ b = b' ∧ c = c' := by
  have h1 := keyOf_w h
  have h2 := keyOf_w h'
  rw [e] at h1
  have := which_law.inj h1 h2
  unfold keyW at this
  simpa using this
/-- How a number in the map reads. -/
def intE (v : Value) : Option (DataW Unit × List MemPlace) := match v with
  | .int .i64 a => some (.lit (.int .i64 a), [])
  | _ => none
theorem intE_inv {v : Value} {y : DataW Unit × List MemPlace} (h : intE v = some y) : ∃ c, v = .int .i64 c ∧ y = (.lit (.int .i64 c), []) := by
  unfold intE at h
  split at h
  · rename_i a
    exact ⟨a, rfl, (Option.some.inj h).symm⟩
  · cases h

def OkC (c : ClT) : Prop := KeyOk c.1 c.2.1 c.2.2.1
def litC (c : ClT) : Lit := litW c.1 c.2.1 c.2.2.1
def putW (D : DataW Unit) (c : ClT) : DataW Unit := D.put (litC c) (.lit (.int .i64 c.2.2.2))
/-- The map of a list of clauses. -/
def mapW (l : List ClT) : DataW Unit := l.foldl putW (.map [])
theorem mapW_snoc (l : List ClT) (c : ClT) : mapW (l ++ [c]) = putW (mapW l) c := by simp [mapW, List.foldl_append]
theorem findC_cons (c : ClT) (l : List ClT) (kd a b : Int) : findC (c :: l) kd a b = if isC kd a b c = true then some c.2.2.2 else findC l kd a b := by
  unfold findC
  rw [List.find?_cons]
  cases isC kd a b c <;> rfl
theorem findC_rise {c : ClT} {l : List ClT} (h : ∀ d ∈ l, Rise3 c d) {kd a b : Int} (hi : isC kd a b c = true) : findC l kd a b = none := by
  refine findC_no fun j z hz => ?_
  have hr := h z (List.mem_of_getElem? hz)
  unfold isC at hi ⊢
  have hi := of_decide_eq_true hi
  refine decide_eq_false ?_
  rintro ⟨e1, e2, e3⟩
  unfold Rise3 at hr
  omega
theorem fold_at {kd a b : Int} (hk : KeyOk kd a b) (z : DataW Unit) : ∀ (l : List ClT) (D : DataW Unit), IsMap D → (∀ c ∈ l, OkC c) → l.Pairwise Rise3 → (l.foldl putW D).atKey (litW kd a b) z = match findC l kd a b with
      | some y => .lit (.int .i64 y)
      | none => D.atKey (litW kd a b) z
  | [], _, _, _, _ => rfl
  | c :: t, D, hD, ho, hr => by
    obtain ⟨hr1, hr2⟩ := List.pairwise_cons.1 hr
    rw [List.foldl_cons, fold_at hk z t (putW D c) (hD.put _ _) (fun x hx => ho x (by simp [hx])) hr2, findC_cons]
    by_cases hi : isC kd a b c = true
    · rw [if_pos hi, findC_rise hr1 hi]
      dsimp only
      have hi := of_decide_eq_true hi
      obtain ⟨e1, e2, e3⟩ := hi
      unfold putW litC
      rw [e1, e2, e3]
      exact atKey_put_same hD (litW_key hk) _ _
    · rw [if_neg hi]
      cases findC t kd a b with
      | some y => rfl
      | none =>
        dsimp only
        unfold putW
        refine atKey_put_other (fun e => hi ?_) _ _
        exact decide_eq_true (by
          obtain ⟨h1, h2, h3⟩ := litW_inj hk (ho c (by simp)) e
          exact ⟨h1.symm, h2.symm, h3.symm⟩)
theorem mapW_at {kd a b : Int} (hk : KeyOk kd a b) {l : List ClT} (ho : ∀ c ∈ l, OkC c) (hr : l.Pairwise Rise3) : (mapW l).atKey (litW kd a b) (.lit (.int .i64 0)) = .lit (.int .i64 ((findC l kd a b).getD 0)) := by
  unfold mapW
  rw [fold_at hk _ l _ isMap_empty ho hr]
  cases findC l kd a b <;> rfl
/-- What each clause is about may be a key. -/
theorem all8_keys {ns : List NodeD} {ps : List PodD} {os : List OwnD} {p : List Int} (hn : ns.length ≤ 1000) (ho : os.length ≤ 1000) (hp : p.length ≤ 1000) : ∀ c ∈ all8 ns ps os p, OkC c := by
  have hB : ∀ c ∈ capsU ns ps p ns.length, 0 ≤ c.2.2.1 ∧ c.2.2.1 ≤ 5 := by
    have : ∀ k, ∀ c ∈ capsU ns ps p k, 0 ≤ c.2.2.1 ∧ c.2.2.1 ≤ 5 := by
      intro k
      induction k with
      | zero => intro c hc; simp [capsU] at hc
      | succ k ih =>
        intro c hc
        rw [capsU, List.mem_append] at hc
        rcases hc with hc | hc
        · exact ih c hc
        · split at hc
          · obtain ⟨q, hq, rfl⟩ := List.mem_map.1 hc
            have := List.mem_range.1 hq
            show (0 : Int) ≤ (q : Int) ∧ (q : Int) ≤ 5
            omega
          · simp at hc
    exact this _
  have hP : ∀ kind k, ∀ c ∈ podsU ns ps os p kind k, c.2.2.1 = 0 := by
    intro kind k
    induction k with
    | zero => intro c hc; simp [podsU] at hc
    | succ k ih =>
      intro c hc
      rw [podsU, List.mem_append] at hc
      rcases hc with hc | hc
      · exact ih c hc
      · unfold podR at hc
        split at hc
        · simp at hc
          subst hc
          rfl
        · simp at hc
  have hK : ∀ k, ∀ c ∈ kindsU ns ps os p k, c.2.2.1 = 0 := by
    intro k
    induction k with
    | zero => intro c hc; simp [kindsU] at hc
    | succ k ih =>
      intro c hc
      rw [kindsU, List.mem_append] at hc
      rcases hc with hc | hc
      · exact ih c hc
      · exact hP _ _ c hc
  have hS : ∀ k, ∀ c ∈ spreadsU ns ps os p k, c.2.2.1 = 0 := by
    intro k
    induction k with
    | zero => intro c hc; simp [spreadsU] at hc
    | succ k ih =>
      intro c hc
      rw [spreadsU, List.mem_append] at hc
      rcases hc with hc | hc
      · exact ih c hc
      · unfold spreadR at hc
        split at hc
        · split at hc
          · simp at hc
          · simp at hc
            subst hc
            rfl
        · simp at hc
  have hM : ∀ k, ∀ c ∈ minsU ns ps os p k, c.2.2.1 = 0 := by
    intro k
    induction k with
    | zero => intro c hc; simp [minsU] at hc
    | succ k ih =>
      intro c hc
      rw [minsU, List.mem_append] at hc
      rcases hc with hc | hc
      · exact ih c hc
      · unfold minR at hc
        split at hc
        · simp at hc
          subst hc
          rfl
        · simp at hc
  intro c hc
  unfold OkC KeyOk
  unfold all8 at hc
  split at hc
  · unfold allU at hc
    simp only [List.mem_append] at hc
    rcases hc with ((hc | hc) | hc) | hc
    · have := caps_kind ns ps p _ c hc
      have := hB c hc
      omega
    · have := kinds_kind ns ps os p _ c hc
      have := hK _ c hc
      omega
    · have := spreads_kind ns ps os p _ c hc
      have := hS _ c hc
      omega
    · have := mins_kind ns ps os p _ c hc
      have := hM _ c hc
      omega
  · simp at hc
theorem rise_filter {l : List ClT} (h : l.Pairwise Rise3) (f : ClT → Bool) : (l.filter f).Pairwise Rise3 := h.filter f
/-- Of those that are broken alone the same is found. -/
theorem find_broken {kd a b : Int} : ∀ {l : List ClT}, l.Pairwise Rise3 → (∀ c ∈ l, 0 ≤ c.2.2.2) → (findC (l.filter brokC) kd a b).getD 0 = (findC l kd a b).getD 0
  | [], _, _ => rfl
  | c :: t, hr, hg => by
    obtain ⟨hr1, hr2⟩ := List.pairwise_cons.1 hr
    have ih := find_broken (kd := kd) (a := a) (b := b) hr2 (fun x hx => hg x (by simp [hx]))
    rw [findC_cons]
    by_cases hb : brokC c = true
    · rw [List.filter_cons_of_pos hb, findC_cons]
      split
      · rfl
      · exact ih
    · rw [List.filter_cons_of_neg hb]
      by_cases hi : isC kd a b c = true
      · rw [if_pos hi, ih, findC_rise hr1 hi]
        have h0 := hg c (by simp)
        unfold brokC at hb
        have hb : ¬ 0 < c.2.2.2 := fun h => hb (decide_eq_true h)
        show (0 : Int) = c.2.2.2
        omega
      · rw [if_neg hi]
        exact ih
/-- By how much that clause is broken in a list; nothing, where it is not there. -/
def was9 (L : List ClT) (c : ClT) : Int := (findC L c.1 c.2.1 c.2.2.1).getD 0
def worC (L : List ClT) (c : ClT) : Bool := decide (was9 L c < c.2.2.2)
/-- What is worse in q than in p. -/
def worseU (ns : List NodeD) (ps : List PodD) (os : List OwnD) (p q : List Int) : List ClT := (all8 ns ps os q).filter (worC (all8 ns ps os p))
def worseE (ns : List NodeD) (ps : List PodD) (os : List OwnD) (p q : List Int) : Int := if placeE ns ps os p = 0 then placeE ns ps os q else placeE ns ps os p
/-- What Worse tells. -/
def worseF (ns : List NodeD) (ps : List PodD) (os : List OwnD) (p q : List Int) : List ClT := if placeE ns ps os p = 0 then worseU ns ps os p q else []
theorem worC_broken {L : List ClT} (hr : L.Pairwise Rise3) (hg : ∀ c ∈ L, 0 ≤ c.2.2.2) (c : ClT) : decide ((findC (L.filter brokC) c.1 c.2.1 c.2.2.1).getD 0 < c.2.2.2) = worC L c := by
  unfold worC was9
  rw [find_broken hr hg]
theorem all8_fine {w : World} {A B C : Option Addr} {ca cb cc : Nat} {ns : List NodeD} {ps : List PodD} {os : List OwnD} (h : SnapAt w A B C ca cb cc ns ps os) (p : List Int) : (∀ c ∈ all8 ns ps os p, OkC c) ∧ (all8 ns ps os p).length ≤ 12000 := by
  by_cases hE : placeE ns ps os p = 0
  · have hp := placeE_len hE
    have h1 := h.ln
    have h2 := h.lp
    have h3 := h.lo
    exact ⟨all8_keys h1 h3 (by omega), Nat.le_trans (all8_len ns ps os p) (by omega)⟩
  · unfold all8
    rw [if_neg hE]
    simp
end Go.Proofs.YtpdaohkpgconkaaGreat

namespace Go.Proofs.YtpdaohkpgconkaaGreat
open Go.RowKit

/-- A clause whose By is not known yet. -/
def zb (c : ClT) : ClT := (c.1, c.2.1, c.2.2.1, 0)
/-- The clauses of a placement that are asked for. -/
def lookF (ns : List NodeD) (ps : List PodD) (os : List OwnD) (p : List Int) (f : ClT → Bool) : List ClT := (all8 ns ps os p).filter (fun c => f (zb c))
theorem lookF_is {ns : List NodeD} {ps : List PodD} {os : List OwnD} {p : List Int} (hE : placeE ns ps os p = 0) (f : ClT → Bool) : lookF ns ps os p f = (lookK ns ps os p 8).filter (fun c => f (zb c)) := by
  unfold lookF all8
  rw [if_pos hE, look_is]
/-- What one subject adds. -/
def oneK (ns : List NodeD) (ps : List PodD) (os : List OwnD) (p : List Int) (f : ClT → Bool) (k : Nat) (s : Sub) : List ClT := if f ((k : Int), (s.a : Int), (s.b : Int), 0) then (match byU ns ps os p k s with | some b => [((k : Int), (s.a : Int), (s.b : Int), b)] | none => []) else []
def someK (ns : List NodeD) (ps : List PodD) (os : List OwnD) (p : List Int) (f : ClT → Bool) (k : Nat) : Nat → List ClT
  | 0 => []
  | t + 1 => someK ns ps os p f k t ++ (match (subsU ns os p)[t]? with | some s => oneK ns ps os p f k s | none => [])
theorem one_is (ns : List NodeD) (ps : List PodD) (os : List OwnD) (p : List Int) (f : ClT → Bool) (k : Nat) (s : Sub) : ([s].filterMap (clauseK ns ps os p k)).filter (fun c => f (zb c)) = oneK ns ps os p f k s := by
  unfold oneK
  cases hb : byU ns ps os p k s with
  | none =>
    simp [clauseK, hb]
  | some b =>
    cases hf : f ((k : Int), (s.a : Int), (s.b : Int), 0) <;> simp [clauseK, hb, zb, hf]
theorem some_is (ns : List NodeD) (ps : List PodD) (os : List OwnD) (p : List Int) (f : ClT → Bool) (k : Nat) : ∀ t, t ≤ (subsU ns os p).length → someK ns ps os p f k t = (((subsU ns os p).take t).filterMap (clauseK ns ps os p k)).filter (fun c => f (zb c))
  | 0, _ => by simp [someK]
  | t + 1, h => by
    obtain ⟨s, hs⟩ : ∃ s, (subsU ns os p)[t]? = some s := ⟨(subsU ns os p)[t], List.getElem?_eq_getElem h⟩
    rw [someK, some_is ns ps os p f k t (by omega), hs, List.take_add_one, hs, List.filterMap_append, List.filter_append]
    congr 1
    exact (one_is ns ps os p f k s).symm
/-- The kinds up to k. -/
def upK (ns : List NodeD) (ps : List PodD) (os : List OwnD) (p : List Int) (f : ClT → Bool) : Nat → List ClT
  | 0 => []
  | k + 1 => upK ns ps os p f k ++ someK ns ps os p f (k + 1) (subsU ns os p).length
theorem up_is (ns : List NodeD) (ps : List PodD) (os : List OwnD) (p : List Int) (f : ClT → Bool) : ∀ k, upK ns ps os p f k = (lookK ns ps os p k).filter (fun c => f (zb c))
  | 0 => rfl
  | k + 1 => by
    rw [upK, lookK, List.filter_append, up_is ns ps os p f k, some_is ns ps os p f (k + 1) _ (Nat.le_refl _), List.take_length]
theorem oneK_len (ns : List NodeD) (ps : List PodD) (os : List OwnD) (p : List Int) (f : ClT → Bool) (k : Nat) (s : Sub) : (oneK ns ps os p f k s).length ≤ 1 := by
  unfold oneK
  split
  · split <;> simp
  · simp
theorem someK_len (ns : List NodeD) (ps : List PodD) (os : List OwnD) (p : List Int) (f : ClT → Bool) (k : Nat) : ∀ t, (someK ns ps os p f k t).length ≤ t
  | 0 => Nat.le_refl _
  | t + 1 => by
    have := someK_len ns ps os p f k t
    rw [someK, List.length_append]
    split
    · rename_i s hs
      have := oneK_len ns ps os p f k s
      omega
    · simp
      omega
theorem upK_len (ns : List NodeD) (ps : List PodD) (os : List OwnD) (p : List Int) (f : ClT → Bool) : ∀ k, (upK ns ps os p f k).length ≤ k * (subsU ns os p).length
  | 0 => by simp [upK]
  | k + 1 => by
    have := upK_len ns ps os p f k
    have := someK_len ns ps os p f (k + 1) (subsU ns os p).length
    rw [upK, List.length_append, Nat.succ_mul]
    omega
/-- A block holds a clause of a kind about a subject, its By not known yet. -/
def NumSt (wr : World) (k : Nat) (s : Sub) (wc : World) : Prop := Blk wc wr.heap.size #[.int .i64 (k : Int), .int .i64 (s.a : Int), .int .i64 (s.b : Int), .int .i64 0] 47 ∧ Below wr.heap.size wr wc
theorem rule_at (W : World) (M : Nat) (h : W.heap[M]? = some (.map (entsR 8).toArray 8)) (k : Nat) (h1 : 1 ≤ k) (h8 : k ≤ 8) :
    (Instr.lookup 108 (.map (some M)) (.int .i64 (k : Int)) false).run Tryz.prog W = .ok (ruleV k) W := by
  obtain ⟨j, rfl⟩ : ∃ j, k = j + 1 := ⟨k - 1, by omega⟩
  have := run_ruleAt W M h j (by omega)
  rw [show (((j + 1 : Nat)) : Int) = (j : Int) + 1 by push_cast; rfl]
  exact this


end Go.Proofs.YtpdaohkpgconkaaGreat

namespace Go.Proofs.YtpdaohkpgconkaaGreat
open Go.RowKit

set_option maxRecDepth 100000 in
set_option maxHeartbeats 16000000 in
theorem look0_any (A B C P : Option Addr) (ca cb cc cp : Nat) (ns : List NodeD) (ps : List PodD) (os : List OwnD) (p : List Int) (g : FuncId) (f : ClT → Bool) (hg : ∀ (args : Array Value) (w : World), (callFunc g args).run Tryz.prog w = .ok (.enter g args) w) (w : World) (h : SnapAt w A B C ca cb cc ns ps os) (hp : IntsAt w P cp p)
    (hcl : ∀ (c : ClT) (w' : World), Below w.heap.size w w' → Calls Tryz.prog g #[clV c] w' fun e w'' => e = .returned (.bool (f c)) ∧ Below w'.heap.size w' w'') :
    Calls Tryz.prog 51 #[snapV A B C ca cb cc ns ps os, .slice P p.length cp, .func (Fn.func g) #[] #[]] w fun e w' => ∃ v, e = .returned (.tuple #[v, .int .i64 (placeE ns ps os p)]) ∧ w'.ownsRow w.heap.size 47 4 v (lookF ns ps os p f).length (cells4 (lookF ns ps os p f)) ∧ Below w.heap.size w w' := by
  have B0 : Hid (Below w.heap.size w (w.alloc (.cells (snapC A B C ca cb cc ns ps os) 26))) := Lib.hid (below1 w _)
  have S0 : Hid (Blk (w.alloc (.cells (snapC A B C ca cb cc ns ps os) 26)) w.heap.size (snapC A B C ca cb cc ns ps os) 26) := Lib.hid (Blk.new w _ _)
  have KC := Lib.hid (pcheck_any A B C P ca cb cc cp ns ps os p _ (h.below B0.out) (hp.below B0.out))
  obtain ⟨i0, hi0, hz0, hz1, hz2⟩ := info_parts cl_info
  by_cases hE : placeE ns ps os p = 0
  case neg =>
    have HE : Hid (lookF ns ps os p f = []) := Lib.hid (by unfold lookF all8; rw [if_neg hE]; rfl)
    generalize placeE ns ps os p = er at KC hE ⊢
    have hne : (er != 0) = true := by simpa using hE
    have hnd : decide (er = 0) = false := decide_eq_false hE
    have hnb : (er == 0) = false := by simpa using hE
    clear h hp hcl
    go_enter Tryz.func51, Tryz.ntmps51
    go_wp2_with fail
    refine (KC.out).mono ?_
    rintro e w1 ⟨rfl, hb⟩
    have B1 := Lib.hid (B0.out.trans (hb.mono B0.out.size))
    clear hb KC B0 S0
    go_wp2
    go_ret2
    rw [HE.out]
    exact ⟨_, rfl, World.ownsRow_nil _ _ _ _, B1.out⟩
  have hln := h.ln
  have hlp := h.lp
  have hlo := h.lo
  have HPL := Lib.hid (placeE_len hE)
  have hpl2 : p.length ≤ 1000 := by have := HPL.out; omega
  have HLF : Hid (lookF ns ps os p f = upK ns ps os p f 8) := Lib.hid (by rw [lookF_is hE, up_is])
  have HBY := Lib.hid (fun (k : Nat) (h1 : 1 ≤ k) (h8 : k ≤ 8) (s : Sub) (hs : SubOk ns os p s) (W' : World) (hb : Below w.heap.size w W') => by_any A B C P ca cb cc cp ns ps os p k h1 h8 s hs hE (spread_few hln hlp) W' (h.below hb) (hp.below hb))
  have HSU := Lib.hid (fun (W' : World) (hb : Below w.heap.size w W') => subjects_any A B C P ca cb cc cp ns ps os p hln hpl2 hlo W' (hp.below hb))
  have HSL := subsU_len ns os p
  have HSO := Lib.hid (subs_ok ns os p)
  have HUP0 : Hid (upK ns ps os p f 0 = []) := Lib.hid rfl
  have HUP : Hid (∀ k, upK ns ps os p f (k + 1) = upK ns ps os p f k ++ someK ns ps os p f (k + 1) (subsU ns os p).length) := Lib.hid (fun k => rfl)
  have HUPL : Hid (∀ k, (upK ns ps os p f k).length ≤ k * (subsU ns os p).length) := Lib.hid (upK_len ns ps os p f)
  have HSM0 : Hid (∀ k, someK ns ps os p f k 0 = []) := Lib.hid (fun k => rfl)
  have HSM : Hid (∀ (k t : Nat) (s : Sub), (subsU ns os p)[t]? = some s → someK ns ps os p f k (t + 1) = someK ns ps os p f k t ++ oneK ns ps os p f k s) := Lib.hid (fun k t s hs => by rw [someK, hs])
  have HSML : Hid (∀ k t, (someK ns ps os p f k t).length ≤ t) := Lib.hid (someK_len ns ps os p f)
  have HON : Hid (∀ (k : Nat) (s : Sub), oneK ns ps os p f k s = if f ((k : Int), (s.a : Int), (s.b : Int), 0) then (match byU ns ps os p k s with | some b => [((k : Int), (s.a : Int), (s.b : Int), b)] | none => []) else []) := Lib.hid (fun k s => rfl)
  have HCL := Lib.hid hcl
  rw [hE] at KC ⊢
  generalize lookF ns ps os p f = LF at HLF ⊢
  generalize upK ns ps os p f = UP at HLF HUP0 HUP HUPL
  generalize someK ns ps os p f = SM at HUP HSM0 HSM HSML
  generalize oneK ns ps os p f = ON at HSM HON
  generalize subsU ns os p = SU at HSU HSL HSO HUP HUPL HSM
  have hsl : SU.length ≤ 7000 := by omega
  clear h hp hE hcl HSL
  go_enter Tryz.func51, Tryz.ntmps51
  obtain ⟨W, hW⟩ : ∃ W, (w.alloc (.cells (snapC A B C ca cb cc ns ps os) 26)) = W := ⟨_, rfl⟩
  rw [hW] at B0 S0 KC
  have z0 : W.cell? ⟨w.heap.size, 0, none⟩ = some (.slice A ns.length ca) := Blk.cell S0.out 0
  have z1 : W.cell? ⟨w.heap.size, 1, none⟩ = some (.slice B ps.length cb) := Blk.cell S0.out 1
  have z2 : W.cell? ⟨w.heap.size, 2, none⟩ = some (.slice C os.length cc) := Blk.cell S0.out 2
  go_wp2_with fail
  try rw [show (w.alloc (.cells #[.slice A ns.length ca, .slice B ps.length cb, .slice C os.length cc] 26)) = W from hW]
  clear hW
  refine (KC.out).mono ?_
  rintro e w1 ⟨rfl, hb1⟩
  have S1 := Lib.hid (S0.out.below hb1 S0.out.lt)
  have B1 := Lib.hid (B0.out.trans (hb1.mono B0.out.size))
  clear hb1 B0 S0 KC z0 z1 z2
  have z0 : w1.cell? ⟨w.heap.size, 0, none⟩ = some (.slice A ns.length ca) := Blk.cell S1.out 0
  have z1 : w1.cell? ⟨w.heap.size, 1, none⟩ = some (.slice B ps.length cb) := Blk.cell S1.out 1
  have z2 : w1.cell? ⟨w.heap.size, 2, none⟩ = some (.slice C os.length cc) := Blk.cell S1.out 2
  go_upto_region 6 with fail
  have V1 : Hid (Blk (w1.alloc (.cells (viewC A B C P ca cb cc cp ns ps os p) 105)) w1.heap.size (viewC A B C P ca cb cc cp ns ps os p) 105) := Lib.hid (Blk.new w1 _ _)
  have B2 : Hid (Below w.heap.size w (w1.alloc (.cells (viewC A B C P ca cb cc cp ns ps os p) 105))) := Lib.hid (B1.out.alloc B1.out.size _)
  clear z0 z1 z2 S1
  try change Code.wp _ _ _ _ (w1.alloc (.cells (viewC A B C P ca cb cc cp ns ps os p) 105))
  generalize (w1.alloc (.cells (viewC A B C P ca cb cc cp ns ps os p) 105)) = V at V1 B2 ⊢
  generalize w1.heap.size = Vb at V1 ⊢
  clear B1
  have v0 : V.cell? ⟨Vb, 0, none⟩ = some (.slice A ns.length ca) := Blk.cell V1.out 0
  have v1 : V.cell? ⟨Vb, 1, none⟩ = some (.slice B ps.length cb) := Blk.cell V1.out 1
  have v2 : V.cell? ⟨Vb, 2, none⟩ = some (.slice C os.length cc) := Blk.cell V1.out 2
  have v3 : V.cell? ⟨Vb, 3, none⟩ = some (.slice P p.length cp) := Blk.cell V1.out 3
  go_wp2_with fail
  refine (HSU.out _ B2.out).mono ?_
  rintro e w3 ⟨vs, rfl, hos, hb3⟩
  obtain ⟨G, cg, rfl, _⟩ := La.own_slice hos
  have O3 := Lib.hid (La.own_slat hos)
  have V3 := Lib.hid (V1.out.below hb3 V1.out.lt)
  have B3 := Lib.hid (B2.out.trans (hb3.mono B2.out.size))
  clear hos hb3 v0 v1 v2 v3 V1 B2 HSU
  go_wp2_with fail
  refine (rules_any w3).mono ?_
  rintro e W ⟨rfl, hM, hbW⟩
  have HM := Lib.hid hM
  have BW := Lib.hid (B3.out.trans (hbW.mono B3.out.size))
  have VW := Lib.hid (V3.out.below hbW V3.out.lt)
  have OW := Lib.hid (La.SlAt.below O3.out hbW)
  generalize w3.heap.size = M at HM ⊢
  clear hM hbW V3 B3 O3
  have HV := Lib.hid (fun W' (hb : Below W.heap.size W W') => (show W'.cell? ⟨Vb, 0, none⟩ = some (.slice A ns.length ca) ∧ W'.cell? ⟨Vb, 1, none⟩ = some (.slice B ps.length cb) ∧ W'.cell? ⟨Vb, 2, none⟩ = some (.slice C os.length cc) ∧ W'.cell? ⟨Vb, 3, none⟩ = some (.slice P p.length cp) from ⟨Blk.cell (VW.out.below hb VW.out.lt) 0, Blk.cell (VW.out.below hb VW.out.lt) 1, Blk.cell (VW.out.below hb VW.out.lt) 2, Blk.cell (VW.out.below hb VW.out.lt) 3⟩))
  have HT := Lib.hid (fun W' (hb : Below W.heap.size W W') => BW.out.trans (hb.mono BW.out.size))
  have HMl : Hid (M < W.heap.size) := Lib.hid (Array.getElem?_eq_some_iff.1 HM.out).1
  have HRu := Lib.hid (fun W' (hb : Below W.heap.size W W') (k : Nat) (h1 : 1 ≤ k) (h8 : k ≤ 8) => rule_at W' M ((hb.block M HMl.out).trans HM.out) k h1 h8)
  have HSt := Lib.hid (fun W' (hb : Below W.heap.size W W') => La.SlAt.below OW.out hb)
  have HB0 := Lib.hid BW.out.size
  clear VW BW HM OW
  go_wp2_with fail
  go_loopw [10, 13] (fun v kd wr => ∃ k : Nat, 1 ≤ k ∧ k ≤ 9 ∧ kd = .int .i64 (k : Int) ∧ wr.ownsRow W.heap.size 47 4 v (UP (k - 1)).length (cells4 (UP (k - 1))) ∧ Below W.heap.size W wr) (fun _ kd _ => 9 - (intOf kd).toNat)
  case atStart => exact ⟨1, by omega, by omega, rfl, by rw [show UP (1 - 1) = [] from HUP0.out]; exact World.ownsRow_nil _ _ _ _, Below.refl _ _⟩
  case round =>
    obtain ⟨k, hk1, hk9, rfl, ho, hb⟩ := hrel
    have HO := Lib.hid ho
    have HB := Lib.hid hb
    clear ho hb
    by_cases hlt : k < 9
    case neg =>
      have ek : k = 9 := by omega
      have HLF2 : Hid (LF = UP (k - 1)) := Lib.hid (by rw [HLF.out, ek])
      have e9 : ¬ ((k : Int) ≤ 8) := by omega
      clear ek
      go_wp2
      go_ret2
      rw [HLF2.out]
      exact ⟨_, rfl, own_base HO.out HB0.out, HT.out _ HB.out⟩
    have hk8 : k ≤ 8 := by omega
    have e8 : (k : Int) ≤ 8 := by omega
    have HU : Hid (UP (k + 1 - 1) = UP (k - 1) ++ SM k SU.length) := Lib.hid (by
      obtain ⟨j, rfl⟩ : ∃ j, k = j + 1 := ⟨k - 1, by omega⟩
      exact HUP.out j)
    have hul : (UP (k - 1)).length ≤ 8 * 7000 := Nat.le_trans (HUPL.out (k - 1)) (Nat.mul_le_mul (by omega) hsl)
    have hM0 : Hid (SM k 0 = []) := Lib.hid (HSM0.out k)
    have hMs : Hid (∀ (t : Nat) (s : Sub), SU[t]? = some s → SM k (t + 1) = SM k t ++ ON k s) := Lib.hid (fun t s h => HSM.out k t s h)
    have hMl : Hid (∀ t, (SM k t).length ≤ t) := Lib.hid (HSML.out k)
    generalize SM k = SK at HU hM0 hMs hMl
    generalize UP (k - 1) = U at HO HU hul
    clear hlt hk9
    go_wp2_with fail
    go_loopw [10, 37] (fun v j wr => ∃ t : Nat, t ≤ SU.length ∧ j = .int .i64 (t : Int) ∧ wr.ownsRow W.heap.size 47 4 v (U ++ SK t).length (cells4 (U ++ SK t)) ∧ Below W.heap.size W wr) (fun _ j _ => SU.length - (intOf j).toNat)
    case atStart => exact ⟨0, by omega, rfl, by rw [hM0.out, List.append_nil]; exact HO.out, HB.out⟩
    case round =>
      clear HO HB
      obtain ⟨t, ht, rfl, ho, hb⟩ := hrel
      have HO := Lib.hid ho
      have HB := Lib.hid hb
      clear ho hb
      by_cases hlt : t < SU.length
      case neg =>
        obtain rfl : t = SU.length := by omega
        go_wp2_with fail
        go_roundw
        case rel => exact ⟨k + 1, by omega, by omega, by go_num, by rw [HU.out]; exact HO.out, HB.out⟩
        case measure => simp [intOf]; omega
      obtain ⟨s, hs⟩ : ∃ s, SU[t]? = some s := ⟨SU[t], List.getElem?_eq_getElem hlt⟩
      have hso := HSO.out s (List.mem_of_getElem? hs)
      have Hst : Hid (U ++ SK (t + 1) = (U ++ SK t) ++ ON k s) := Lib.hid (by rw [hMs.out t s hs, List.append_assoc])
      have hnl : (U ++ SK t).length ≤ 63000 := by rw [List.length_append]; have := hMl.out t; omega
      obtain ⟨gs, os', hG, hsc⟩ := (HSt.out _ HB.out) t (subV s) (by rw [List.getElem?_map, hs]; rfl)
      subst hG
      have KB : Hid (∀ (W' : World), Below W.heap.size W W' → Calls Tryz.prog 71 #[ruleV k, viewV A B C P ca cb cc cp ns ps os p, subV s] W' fun e w' => e = .returned (.tuple #[.int .i64 ((byU ns ps os p k s).getD 0), .bool (byU ns ps os p k s).isSome]) ∧ Below W'.heap.size W' w') := Lib.hid (fun (W' : World) (hb : Below W.heap.size W W') => HBY.out k hk1 hk8 s hso W' (HT.out W' hb))
      have Hon := Lib.hid (HON.out k s)
      have KF := Lib.hid (fun (W' : World) (hb : Below W.heap.size W W') => HCL.out ((k : Int), (s.a : Int), (s.b : Int), 0) W' (HT.out W' hb))
      have k0 : (0 : Int) ≤ (t : Int) := by omega
      have k1 : (t : Int) < (SU.length : Int) := by omega
      generalize U ++ SK t = T at HO Hst hnl
      generalize ON k s = O1 at Hst Hon
      go_upto_region 14 with fail
      go_cut [43] (fun v wc => v = v ∧ NumSt wr k s wc)
      case first =>
        have T0 : Hid (Blk (wr.alloc (.cells #[.int .i64 (k : Int), .int .i64 0, .int .i64 0, .int .i64 0] 47)) wr.heap.size #[.int .i64 (k : Int), .int .i64 0, .int .i64 0, .int .i64 0] 47) := Lib.hid (Blk.new wr _ _)
        have B5 : Hid (Below wr.heap.size wr (wr.alloc (.cells #[.int .i64 (k : Int), .int .i64 0, .int .i64 0, .int .i64 0] 47))) := Lib.hid (below1 wr _)
        generalize (wr.alloc (.cells #[.int .i64 (k : Int), .int .i64 0, .int .i64 0, .int .i64 0] 47)) = V5 at T0 B5 ⊢
        cases s with
        | node n qq =>
          simp only [subV]
          go_wp2_with fail
          refine (numbers_ofNode n qq _).mono ?_
          rintro e w5 ⟨rfl, hb5⟩
          have T5 := Lib.hid (T0.out.below hb5 T0.out.lt)
          have D5 := Lib.hid (B5.out.trans (hb5.mono B5.out.size))
          clear hb5 T0 B5
          have c1 : w5.cell? ⟨wr.heap.size, 1, none⟩ = some (.int .i64 0) := Blk.cell T5.out 1
          have c2 : w5.cell? ⟨wr.heap.size, 2, none⟩ = some (.int .i64 0) := Blk.cell T5.out 2
          have f1 := Blk.free T5.out 1
          have f2 := Blk.free T5.out 2
          go_wp2_with fail
          go_meet
          exact ⟨trivial, ((T5.out.set 1 _).set 2 _), (D5.out.setCell (p := ⟨wr.heap.size, 1, none⟩) (Nat.le_refl _) _).setCell (p := ⟨wr.heap.size, 2, none⟩) (Nat.le_refl _) _⟩
        | pod ii =>
          simp only [subV]
          go_wp2_with fail
          refine (numbers_ofPod ii _).mono ?_
          rintro e w5 ⟨rfl, hb5⟩
          have T5 := Lib.hid (T0.out.below hb5 T0.out.lt)
          have D5 := Lib.hid (B5.out.trans (hb5.mono B5.out.size))
          clear hb5 T0 B5
          have c1 : w5.cell? ⟨wr.heap.size, 1, none⟩ = some (.int .i64 0) := Blk.cell T5.out 1
          have c2 : w5.cell? ⟨wr.heap.size, 2, none⟩ = some (.int .i64 0) := Blk.cell T5.out 2
          have f1 := Blk.free T5.out 1
          have f2 := Blk.free T5.out 2
          go_wp2_with fail
          go_meet
          exact ⟨trivial, ((T5.out.set 1 _).set 2 _), (D5.out.setCell (p := ⟨wr.heap.size, 1, none⟩) (Nat.le_refl _) _).setCell (p := ⟨wr.heap.size, 2, none⟩) (Nat.le_refl _) _⟩
        | owner oo =>
          simp only [subV]
          go_wp2_with fail
          refine (numbers_ofOwner oo _).mono ?_
          rintro e w5 ⟨rfl, hb5⟩
          have T5 := Lib.hid (T0.out.below hb5 T0.out.lt)
          have D5 := Lib.hid (B5.out.trans (hb5.mono B5.out.size))
          clear hb5 T0 B5
          have c1 : w5.cell? ⟨wr.heap.size, 1, none⟩ = some (.int .i64 0) := Blk.cell T5.out 1
          have c2 : w5.cell? ⟨wr.heap.size, 2, none⟩ = some (.int .i64 0) := Blk.cell T5.out 2
          have f1 := Blk.free T5.out 1
          have f2 := Blk.free T5.out 2
          go_wp2_with fail
          go_meet
          exact ⟨trivial, ((T5.out.set 1 _).set 2 _), (D5.out.setCell (p := ⟨wr.heap.size, 1, none⟩) (Nat.le_refl _) _).setCell (p := ⟨wr.heap.size, 2, none⟩) (Nat.le_refl _) _⟩
      case rest =>
        obtain ⟨_, hT, hbc⟩ := hcut
        have TB := Lib.hid hT
        have HBr := Lib.hid hbc
        have HBc := Lib.hid (HB.out.trans (hbc.mono HB.out.size))
        generalize f ((k : Int), (s.a : Int), (s.b : Int), 0) = asked at KF Hon
        generalize byU ns ps os p k s = bv at KB Hon
        generalize subV s = sv at KB hsc ⊢
        generalize (s.a : Int) = sa at KF Hon TB
        generalize (s.b : Int) = sb at KF Hon TB
        have c0 : wc.cell? ⟨wr.heap.size, 0, none⟩ = some (.int .i64 (k : Int)) := Blk.cell TB.out 0
        have c1 : wc.cell? ⟨wr.heap.size, 1, none⟩ = some (.int .i64 sa) := Blk.cell TB.out 1
        have c2 : wc.cell? ⟨wr.heap.size, 2, none⟩ = some (.int .i64 sb) := Blk.cell TB.out 2
        have c3 : wc.cell? ⟨wr.heap.size, 3, none⟩ = some (.int .i64 0) := Blk.cell TB.out 3
        clear hT hbc hs hsc
        go_wp2_with fail
        refine (KF.out _ HBc.out).mono ?_
        rintro e w6 ⟨rfl, hb6⟩
        have T6 := Lib.hid (TB.out.below hb6 TB.out.lt)
        have R6 := Lib.hid (HBr.out.trans (hb6.mono HBr.out.size))
        have HB6 := Lib.hid (HBc.out.trans (hb6.mono HBc.out.size))
        clear hb6 KF TB HBr HBc c0 c1 c2 c3
        cases asked with
        | false =>
          have HE : Hid (U ++ SK (t + 1) = T) := Lib.hid (by rw [Hst.out, Hon.out]; simp)
          have HO6 := Lib.hid (La.own_below HO.out R6.out)
          clear Hst Hon KB
          go_wp2_with fail
          go_roundw
          case rel => exact ⟨t + 1, by omega, by go_num, by rw [HE.out]; exact HO6.out, HB6.out⟩
          case measure => simp [intOf]; omega
        | true =>
          have hru := HRu.out _ HB6.out k hk1 hk8
          obtain ⟨v0, v1, v2, v3⟩ := HV.out _ HB6.out
          go_wp2_with fail
          refine (KB.out _ HB6.out).mono ?_
          rintro e w7 ⟨rfl, hb7⟩
          have T7 := Lib.hid (T6.out.below hb7 T6.out.lt)
          have R7 := Lib.hid (R6.out.trans (hb7.mono R6.out.size))
          have HB7 := Lib.hid (HB6.out.trans (hb7.mono HB6.out.size))
          clear hb7 KB T6 R6 HB6 v0 v1 v2 v3 hru
          cases bv with
          | none =>
            have HE : Hid (U ++ SK (t + 1) = T) := Lib.hid (by rw [Hst.out, Hon.out]; simp)
            have HO7 := Lib.hid (La.own_below HO.out R7.out)
            clear Hst Hon
            go_wp2_with fail
            go_roundw
            case rel => exact ⟨t + 1, by omega, by go_num, by rw [HE.out]; exact HO7.out, HB7.out⟩
            case measure => simp [intOf]; omega
          | some by_ =>
            have HE : Hid (U ++ SK (t + 1) = T ++ [((k : Int), sa, sb, by_)]) := Lib.hid (by rw [Hst.out, Hon.out]; simp)
            clear Hst Hon
            have c3 : w7.cell? ⟨wr.heap.size, 3, none⟩ = some (.int .i64 0) := Blk.cell T7.out 3
            have f3 := Blk.free T7.out 3
            go_upto_region 19 with fail
            have T8 : Hid (Blk (w7.setCell ⟨wr.heap.size, 3, none⟩ (.int .i64 by_)) wr.heap.size #[.int .i64 (k : Int), .int .i64 sa, .int .i64 sb, .int .i64 by_] 47) := Lib.hid (T7.out.set 3 _)
            have R8 : Hid (Below wr.heap.size wr (w7.setCell ⟨wr.heap.size, 3, none⟩ (.int .i64 by_))) := Lib.hid (R7.out.setCell (p := ⟨wr.heap.size, 3, none⟩) (Nat.le_refl _) _)
            generalize (w7.setCell ⟨wr.heap.size, 3, none⟩ (.int .i64 by_)) = W8 at T8 R8 ⊢
            have HO8 := Lib.hid (La.own_below HO.out R8.out)
            have HB8 := Lib.hid (HB.out.trans (R8.out.mono HB.out.size))
            have c0 : W8.cell? ⟨wr.heap.size, 0, none⟩ = some (.int .i64 (k : Int)) := Blk.cell T8.out 0
            have c1 : W8.cell? ⟨wr.heap.size, 1, none⟩ = some (.int .i64 sa) := Blk.cell T8.out 1
            have c2 : W8.cell? ⟨wr.heap.size, 2, none⟩ = some (.int .i64 sb) := Blk.cell T8.out 2
            have c3 : W8.cell? ⟨wr.heap.size, 3, none⟩ = some (.int .i64 by_) := Blk.cell T8.out 3
            clear T7 R7 HB7 T8 R8 HO HB f3
            go_wp2_with (at_builtin; refine wpList_append_own _ rfl _ _ 48 rfl W.heap.size 47 i0 (.agg #[.int .i64 0, .int .i64 0, .int .i64 0, .int .i64 0]) 4 32 Tryz.underlying48 hi0 hz0 hz1 hz2 rfl (by decide) _ _ _ rfl (show World.ownsRow _ _ _ _ _ _ _ from HO8.out.alloc _) ⟨W8.heap.size, 0, none⟩ 1 1 [.int .i64 (k : Int), .int .i64 sa, .int .i64 sb, .int .i64 by_] rfl rfl ?c1z ?c2z ?c3z ?c4z ?c5z ?_)
            case c1z =>
              intro j u hj
              match j, hj with
              | 0, hj => simp at hj; subst hj; simp [Addr.add]
              | 1, hj => simp at hj; subst hj; simp [Addr.add]
              | 2, hj => simp at hj; subst hj; simp [Addr.add]
              | 3, hj => simp at hj; subst hj; simp [Addr.add]
            case c2z => first | rfl | (intro u hu; simp at hu; rcases hu with rfl | rfl | rfl | rfl <;> rfl)
            case c3z => unfold maxLen; omega
            case c4z => omega
            case c5z => have := HB8.out.size; simp; omega
            intro v4 w4 hown4 hgrow4 _
            have P4 := Lib.hid hown4
            have D4 := Lib.hid ((HB8.out.alloc HB8.out.size (.cells #[.int .i64 (k : Int), .int .i64 sa, .int .i64 sb, .int .i64 by_] 47)).grown hgrow4 (by have := HB8.out.size; simp; omega) (fun j hj => own_gem HO8.out hj))
            clear hown4 hgrow4
            go_wp2_with fail
            go_roundw
            case rel =>
              refine ⟨t + 1, by omega, by go_num, ?_, D4.out⟩
              rw [HE.out, List.length_append, cells4_snoc]
              exact P4.out
            case measure => simp [intOf]; omega

set_option maxHeartbeats 1000000 in
theorem all1_any (c : ClT) (w : World) : Calls Tryz.prog 52 #[clV c] w fun e w' => e = .returned (.bool true) ∧ Below w.heap.size w w' := by
  have B0 : Hid (Below w.heap.size w (w.alloc (.cells #[.int .i64 c.1, .int .i64 c.2.1, .int .i64 c.2.2.1, .int .i64 c.2.2.2] 47))) := Lib.hid (below1 w _)
  go_enter Tryz.func52, Tryz.ntmps52
  go_wp2
  go_ret
  exact ⟨rfl, B0.out⟩
set_option maxRecDepth 100000 in
set_option maxHeartbeats 2000000 in
theorem allP_any (A B C P : Option Addr) (ca cb cc cp : Nat) (ns : List NodeD) (ps : List PodD) (os : List OwnD) (p : List Int) (w : World) (h : SnapAt w A B C ca cb cc ns ps os) (hp : IntsAt w P cp p) :
    Calls Tryz.prog 15 #[snapV A B C ca cb cc ns ps os, .slice P p.length cp] w fun e w' => ∃ v, e = .returned (.tuple #[v, .int .i64 (placeE ns ps os p)]) ∧ w'.ownsRow w.heap.size 47 4 v (all8 ns ps os p).length (cells4 (all8 ns ps os p)) ∧ Below w.heap.size w w' := by
  have B0 : Hid (Below w.heap.size w (w.alloc (.cells (snapC A B C ca cb cc ns ps os) 26))) := Lib.hid (below1 w _)
  have K := Lib.hid (look0_any A B C P ca cb cc cp ns ps os p 52 (fun _ => true) (fun _ _ => by kernel_rfl) _ (h.below B0.out) (hp.below B0.out) (fun c W' _ => all1_any c W'))
  have e : lookF ns ps os p (fun _ => true) = all8 ns ps os p := by
    unfold lookF
    exact List.filter_eq_self.2 (fun _ _ => rfl)
  rw [e] at K
  generalize all8 ns ps os p = L at K ⊢
  clear h hp e
  go_enter Tryz.func15, Tryz.ntmps15
  go_wp2_with fail
  refine (K.out).mono ?_
  rintro e w1 ⟨v, rfl, ho, hb⟩
  have O1 := Lib.hid (own_base ho B0.out.size)
  have B1 := Lib.hid (B0.out.trans (hb.mono B0.out.size))
  clear ho hb K
  go_wp2
  go_ret2
  exact ⟨v, rfl, O1.out, B1.out⟩

end Go.Proofs.YtpdaohkpgconkaaGreat

namespace Go.Proofs.YtpdaohkpgconkaaGreat
open Go.RowKit Go.Maps Go.Shelf

theorem zero_intS (w : World) : (zeroValue 3).run Tryz.prog w = .ok (.int .i64 0) w := by kernel_rfl
/-- A store into the map. -/
theorem map_run {w : World} {b n : Nat} {D : DataW Unit} (hown : w.ownsMap Tryz.prog 93 intE b n D) (hn : n < maxLen) {key : Value} {kl : Lit} (hkey : keyOf Tryz.prog 93 key = some kl) (y : Int) :
    ∃ w', (Instr.mapUpdate 87 (.map (some b)) key (.int .i64 y)).run Tryz.prog w = .ok () w' ∧ w'.ownsMap Tryz.prog 93 intE b (n + 1) (D.put kl (.lit (.int .i64 y))) ∧ w.grownBy w' (some b) :=
  hown.update which_law Tryz.underlying87 hn hkey (val := .int .i64 y) (d := .lit (.int .i64 y)) (ps := []) rfl
/-- A look-up. -/
theorem look_run {w : World} {b n : Nat} {D : DataW Unit} (hown : w.ownsMap Tryz.prog 93 intE b n D) {key : Value} {kl : Lit} (hkey : keyOf Tryz.prog 93 key = some kl) {y : Int} (hat : D.atKey kl (.lit (.int .i64 0)) = .lit (.int .i64 y)) :
    (Instr.lookup 87 (.map (some b)) key false).run Tryz.prog w = .ok (.int .i64 y) w := by
  obtain ⟨v, ps, hrun, hv⟩ := hown.lookup which_law Tryz.underlying87 (zero_intS w) (zd := .lit (.int .i64 0)) (zp := []) rfl hkey
  obtain ⟨c, rfl, hc⟩ := intE_inv hv
  rw [hat] at hc
  simp only [Prod.mk.injEq, DataW.lit.injEq, Lit.int.injEq, true_and] at hc
  obtain ⟨rfl, _⟩ := hc
  exact hrun
theorem blk_grown {w w' : World} {b g : Nat} {cs : Array Value} {t : TypeId} (h : Blk w g cs t) (hg : w.grownBy w' (some b)) (hne : g ≠ b) : Blk w' g cs t := (hg.block g h.lt (fun e => hne (Option.some.inj e))).trans h
theorem own_mapB {w w' : World} {b n : Nat} {D : DataW Unit} (h : w.ownsMap Tryz.prog 93 intE b n D) (hb : Below w.heap.size w w') : w'.ownsMap Tryz.prog 93 intE b n D := h.kept (grown_of_below hb none) (by simp)

set_option maxRecDepth 100000 in
set_option maxHeartbeats 1000000 in
theorem whichOf_any (c : ClT) (w : World) : Calls Tryz.prog 72 #[clV c] w fun e w' => e = .returned (keyW c.1 c.2.1 c.2.2.1) ∧ Below w.heap.size w w' := by
  have B0 : Hid (Below w.heap.size w ((w.alloc (.cells #[.int .i64 c.1, .int .i64 c.2.1, .int .i64 c.2.2.1, .int .i64 c.2.2.2] 47)).alloc (.cells #[.int .i64 c.1, .int .i64 c.2.1, .int .i64 c.2.2.1] 93))) := Lib.hid (Qu.below2 w _ _)
  have Q0 : Hid (Blk ((w.alloc (.cells #[.int .i64 c.1, .int .i64 c.2.1, .int .i64 c.2.2.1, .int .i64 c.2.2.2] 47)).alloc (.cells #[.int .i64 c.1, .int .i64 c.2.1, .int .i64 c.2.2.1] 93)) (w.heap.size + 1) #[.int .i64 c.1, .int .i64 c.2.1, .int .i64 c.2.2.1] 93) := Lib.hid (blk2 w _ _ _)
  go_enter Tryz.func72, Tryz.ntmps72
  go_wp2_with fail
  refine bodyPost_row1 Tryz.results72 (w.heap.size + 1) _ _ _ _ (by rfl) (by rfl) Q0.out Tryz.underlying93 rfl (by kernel_rfl) ?_
  exact ⟨rfl, B0.out⟩

/-- The map that brokenBy hands on. -/
def MapAt (B0 : Nat) (w : World) (E : Int) (l : List ClT) (m : Option Nat) : Prop := (E ≠ 0 → m = none) ∧ (E = 0 → ∃ b, m = some b ∧ B0 ≤ b ∧ w.ownsMap Tryz.prog 93 intE b l.length (mapW (l.filter brokC)))

set_option maxRecDepth 100000 in
set_option maxHeartbeats 8000000 in
theorem brokenBy_any (A B C P : Option Addr) (ca cb cc cp : Nat) (ns : List NodeD) (ps : List PodD) (os : List OwnD) (p : List Int) (hk : ∀ c ∈ all8 ns ps os p, OkC c) (hl : (all8 ns ps os p).length ≤ 12000) (w : World) (h : SnapAt w A B C ca cb cc ns ps os) (hp : IntsAt w P cp p) :
    Calls Tryz.prog 55 #[snapV A B C ca cb cc ns ps os, .slice P p.length cp] w fun e w' => ∃ m, e = .returned (.tuple #[.map m, .int .i64 (placeE ns ps os p)]) ∧ MapAt w.heap.size w' (placeE ns ps os p) (all8 ns ps os p) m ∧ Below w.heap.size w w' := by
  have B0 : Hid (Below w.heap.size w (w.alloc (.cells (snapC A B C ca cb cc ns ps os) 26))) := Lib.hid (below1 w _)
  have HA := Lib.hid (allP_any A B C P ca cb cc cp ns ps os p _ (h.below B0.out) (hp.below B0.out))
  have hmm := @run_makeMap Tryz.prog
  generalize all8 ns ps os p = l at HA hl hk ⊢
  generalize placeE ns ps os p = E at HA ⊢
  clear h hp
  go_enter Tryz.func55, Tryz.ntmps55
  go_wp2_with fail
  refine (HA.out).mono ?_
  rintro e w1 ⟨v, rfl, ho, hb⟩
  obtain ⟨G, cg, rfl, _⟩ := La.own_slice ho
  have O1 := Lib.hid (La.own_slat ho)
  have B1 := Lib.hid (B0.out.trans (hb.mono B0.out.size))
  clear ho hb HA B0
  by_cases hE : E = 0
  case neg =>
    have hne : (E != 0) = true := by simpa using hE
    have HE := Lib.hid hE
    clear hE
    go_wp2
    go_ret2
    exact ⟨none, rfl, ⟨fun _ => rfl, fun h => absurd h HE.out⟩, B1.out⟩
  subst hE
  go_wp2_with fail
  go_loopw [23] (fun i wr => ∃ k : Nat, k ≤ l.length ∧ i = .int .i64 k ∧ wr.ownsMap Tryz.prog 93 intE w1.heap.size k (mapW ((l.take k).filter brokC)) ∧ Below w1.heap.size w1 wr) (fun i _ => l.length - (intOf i).toNat)
  case atStart => exact ⟨0, by omega, rfl, World.ownsMap_made _ _ _ _, (Below.refl _ _).alloc (Nat.le_refl _) _⟩
  case round =>
    obtain ⟨k, hk9, rfl, ho, hb⟩ := hrel
    have HO := Lib.hid ho
    have HB := Lib.hid hb
    clear ho hb
    by_cases hlt : k < l.length
    case neg =>
      obtain rfl : k = l.length := by omega
      rw [List.take_length] at HO
      go_wp2
      go_ret2
      exact ⟨some w1.heap.size, rfl, ⟨fun h => absurd rfl h, fun _ => ⟨_, rfl, B1.out.size, HO.out⟩⟩, B1.out.trans (HB.out.mono B1.out.size)⟩
    obtain ⟨y, hy⟩ : ∃ y, l[k]? = some y := ⟨l[k], List.getElem?_eq_getElem hlt⟩
    have Hok := Lib.hid (hk y (List.mem_of_getElem? hy))
    obtain ⟨g, o, hG, hbl, c0, c1, c2, c3⟩ := atC (La.SlAt.below O1.out HB.out) hy
    subst hG
    have k0 : (0 : Int) ≤ (k : Int) := by omega
    have k1 : (k : Int) < (l.length : Int) := by omega
    have HF := Lib.hid (filt_snoc brokC hy)
    have Hy : Hid (brokC y = decide (0 < y.2.2.2)) := Lib.hid rfl
    clear hy
    generalize (l.take k).filter brokC = M at HO HF
    go_upto_region 8 with fail
    have T8 : Hid (Blk (wr.alloc (.cells #[.int .i64 y.1, .int .i64 y.2.1, .int .i64 y.2.2.1, .int .i64 y.2.2.2] 47)) wr.heap.size #[.int .i64 y.1, .int .i64 y.2.1, .int .i64 y.2.2.1, .int .i64 y.2.2.2] 47) := Lib.hid (Blk.new wr _ _)
    have R8 : Hid (Below wr.heap.size wr (wr.alloc (.cells #[.int .i64 y.1, .int .i64 y.2.1, .int .i64 y.2.2.1, .int .i64 y.2.2.2] 47))) := Lib.hid (below1 wr _)
    try change Code.wp _ _ _ _ (wr.alloc (.cells #[.int .i64 y.1, .int .i64 y.2.1, .int .i64 y.2.2.1, .int .i64 y.2.2.2] 47))
    generalize (wr.alloc (.cells #[.int .i64 y.1, .int .i64 y.2.1, .int .i64 y.2.2.1, .int .i64 y.2.2.2] 47)) = W8 at T8 R8 ⊢
    have HO8 := Lib.hid (own_mapB HO.out R8.out)
    have HB8 := Lib.hid (HB.out.trans (R8.out.mono HB.out.size))
    clear c0 c1 c2 c3
    have HC := Lib.hid (fun W' (hb : Below W8.heap.size W8 W') => (show W'.cell? ⟨wr.heap.size, 0, none⟩ = some (.int .i64 y.1) ∧ W'.cell? ⟨wr.heap.size, 1, none⟩ = some (.int .i64 y.2.1) ∧ W'.cell? ⟨wr.heap.size, 2, none⟩ = some (.int .i64 y.2.2.1) ∧ W'.cell? ⟨wr.heap.size, 3, none⟩ = some (.int .i64 y.2.2.2) from ⟨Blk.cell (T8.out.below hb T8.out.lt) 0, Blk.cell (T8.out.below hb T8.out.lt) 1, Blk.cell (T8.out.below hb T8.out.lt) 2, Blk.cell (T8.out.below hb T8.out.lt) 3⟩))
    have HOm := Lib.hid (fun W' (hb : Below W8.heap.size W8 W') => own_mapB HO8.out hb)
    have HBm := Lib.hid (fun W' (hb : Below W8.heap.size W8 W') => HB8.out.trans (hb.mono HB8.out.size))
    have HTm := Lib.hid (fun W' (hb : Below W8.heap.size W8 W') => T8.out.below hb T8.out.lt)
    have hne : Hid (wr.heap.size ≠ w1.heap.size) := Lib.hid (Nat.ne_of_gt HO.out.lt)
    obtain ⟨c0, c1, c2, c3⟩ := HC.out _ (Below.refl _ W8)
    clear R8 HO HB T8
    by_cases h1 : 0 < y.2.2.2
    case neg =>
      have HE : Hid ((l.take (k + 1)).filter brokC = M) := Lib.hid (by rw [HF.out, Hy.out, decide_eq_false h1]; simp)
      clear HF Hy
      go_wp2_with fail
      go_roundw
      case rel => exact ⟨k + 1, by omega, by go_num, by rw [HE.out]; exact HO8.out.mono (by omega), HB8.out⟩
      case measure => simp [intOf]; omega
    have HE : Hid (mapW ((l.take (k + 1)).filter brokC) = (mapW M).put (litW y.1 y.2.1 y.2.2.1) (.lit (.int .i64 y.2.2.2))) := Lib.hid (by rw [HF.out, Hy.out, decide_eq_true h1, if_pos rfl, mapW_snoc]; rfl)
    clear HF Hy
    have KW := Lib.hid (fun W' => whichOf_any y W')
    have hkn : k < maxLen := by unfold maxLen; omega
    have HKO := Lib.hid (keyOf_w Hok.out)
    go_upto_region 9 with fail
    have HD : Hid (Below W8.heap.size W8 W8.drew) := Lib.hid ((Below.refl _ W8).drew)
    clear c0 c1 c2 c3
    obtain ⟨c0, c1, c2, c3⟩ := HC.out _ HD.out
    go_region_held3 (fun w' => w'.cell? ⟨wr.heap.size, 0, none⟩ = some (.int .i64 y.1) ∧ w'.cell? ⟨wr.heap.size, 1, none⟩ = some (.int .i64 y.2.1) ∧ w'.cell? ⟨wr.heap.size, 2, none⟩ = some (.int .i64 y.2.2.1) ∧ w'.cell? ⟨wr.heap.size, 3, none⟩ = some (.int .i64 y.2.2.2))
      (first | exact ⟨c0, c1, c2, c3⟩ | exact ⟨y0, y1, y2, y3⟩ | exact ⟨x0, x1, x2, x3⟩)
      (first
        | (go_at_call 72
           refine (KW.out _).mono ?_
           rintro e wA ⟨rfl, hbA⟩
           have HDA := Lib.hid (HD.out.trans (hbA.mono HD.out.size))
           obtain ⟨y0, y1, y2, y3⟩ := HC.out _ HDA.out
           obtain ⟨wB, hrunB, hownB, hgB⟩ := map_run (HOm.out _ HDA.out) hkn HKO.out y.2.2.2
           have TB := Lib.hid (blk_grown (HTm.out _ HDA.out) hgB hne.out)
           have x0 : wB.cell? ⟨wr.heap.size, 0, none⟩ = some (.int .i64 y.1) := Blk.cell TB.out 0
           have x1 : wB.cell? ⟨wr.heap.size, 1, none⟩ = some (.int .i64 y.2.1) := Blk.cell TB.out 1
           have x2 : wB.cell? ⟨wr.heap.size, 2, none⟩ = some (.int .i64 y.2.2.1) := Blk.cell TB.out 2
           have x3 : wB.cell? ⟨wr.heap.size, 3, none⟩ = some (.int .i64 y.2.2.2) := Blk.cell TB.out 3
           clear hbA))
    all_goals
      have D9 := Lib.hid ((HBm.out _ HDA.out).grown hgB (HBm.out _ HDA.out).size (fun j hj => by cases hj; exact Nat.le_refl _))
      have P9 := Lib.hid hownB
      clear hownB hgB
      (try go_wp2_with fail)
      go_roundw
      case rel => exact ⟨k + 1, by omega, by go_num, by rw [HE.out]; exact P9.out, D9.out⟩
      case measure => simp [intOf]; omega
end Go.Proofs.YtpdaohkpgconkaaGreat

namespace Go.Proofs.YtpdaohkpgconkaaGreat
open Go.RowKit Go.Maps Go.Shelf

set_option maxRecDepth 100000 in
set_option maxHeartbeats 4000000 in
theorem worse1_any (c : ClT) (hk : OkC c) (g mb n : Nat) (L : List ClT) (hL : ∀ d ∈ L, OkC d) (hr : L.Pairwise Rise3) (hg0 : ∀ d ∈ L, 0 ≤ d.2.2.2) (w : World) (hg : Blk w g #[.map (some mb)] 87) (hm : w.ownsMap Tryz.prog 93 intE mb n (mapW (L.filter brokC))) :
    Calls Tryz.prog 73 #[clV c, .pointer (some ⟨g, 0, none⟩)] w fun e w' => e = .returned (.bool (worC L c)) ∧ Below w.heap.size w w' := by
  have B0 : Hid (Below w.heap.size w (w.alloc (.cells #[.int .i64 c.1, .int .i64 c.2.1, .int .i64 c.2.2.1, .int .i64 c.2.2.2] 47))) := Lib.hid (below1 w _)
  have Q0 : Hid (Blk (w.alloc (.cells #[.int .i64 c.1, .int .i64 c.2.1, .int .i64 c.2.2.1, .int .i64 c.2.2.2] 47)) w.heap.size #[.int .i64 c.1, .int .i64 c.2.1, .int .i64 c.2.2.1, .int .i64 c.2.2.2] 47) := Lib.hid (Blk.new w _ _)
  have G0 : Hid (Blk (w.alloc (.cells #[.int .i64 c.1, .int .i64 c.2.1, .int .i64 c.2.2.1, .int .i64 c.2.2.2] 47)) g #[.map (some mb)] 87) := Lib.hid (Blk.alloc hg _)
  have M0 := Lib.hid (own_mapB hm B0.out)
  have HKO := Lib.hid (keyOf_w hk)
  have HAT := Lib.hid (mapW_at hk (l := L.filter brokC) (fun d hd => hL d (List.mem_filter.1 hd).1) (rise_filter hr _))
  have HE := Lib.hid (worC_broken hr hg0 c)
  have KW := Lib.hid (fun W' => whichOf_any c W')
  generalize (findC (L.filter brokC) c.1 c.2.1 c.2.2.1).getD 0 = z at HAT HE
  generalize worC L c = res at HE ⊢
  generalize mapW (L.filter brokC) = D at M0 HAT
  clear hg hm hL hr hg0 hk
  have hz : (z < c.2.2.2 ∧ decide (z < c.2.2.2) = true) ∨ (¬ z < c.2.2.2 ∧ decide (z < c.2.2.2) = false) := by
    by_cases h : z < c.2.2.2
    · exact .inl ⟨h, decide_eq_true h⟩
    · exact .inr ⟨h, decide_eq_false h⟩
  go_enter Tryz.func73, Tryz.ntmps73
  go_upto_region 1 with fail
  try change Code.wp _ _ _ _ (w.alloc (.cells #[.int .i64 c.1, .int .i64 c.2.1, .int .i64 c.2.2.1, .int .i64 c.2.2.2] 47))
  generalize (w.alloc (.cells #[.int .i64 c.1, .int .i64 c.2.1, .int .i64 c.2.2.1, .int .i64 c.2.2.2] 47)) = W at B0 Q0 G0 M0 ⊢
  have HC := Lib.hid (fun W' (hb : Below W.heap.size W W') => (show W'.cell? ⟨w.heap.size, 0, none⟩ = some (.int .i64 c.1) ∧ W'.cell? ⟨w.heap.size, 1, none⟩ = some (.int .i64 c.2.1) ∧ W'.cell? ⟨w.heap.size, 2, none⟩ = some (.int .i64 c.2.2.1) ∧ W'.cell? ⟨w.heap.size, 3, none⟩ = some (.int .i64 c.2.2.2) ∧ W'.cell? ⟨g, 0, none⟩ = some (.map (some mb)) from ⟨Blk.cell (Q0.out.below hb Q0.out.lt) 0, Blk.cell (Q0.out.below hb Q0.out.lt) 1, Blk.cell (Q0.out.below hb Q0.out.lt) 2, Blk.cell (Q0.out.below hb Q0.out.lt) 3, Blk.cell (G0.out.below hb G0.out.lt) 0⟩))
  have HOm := Lib.hid (fun W' (hb : Below W.heap.size W W') => own_mapB M0.out hb)
  have HD : Hid (Below W.heap.size W W.drew) := Lib.hid ((Below.refl _ W).drew)
  obtain ⟨c0, c1, c2, c3, c4⟩ := HC.out _ HD.out
  rcases hz with ⟨h1, h2⟩ | ⟨h1, h2⟩
  · rw [h2] at HE
    have HR := Lib.hid HE.out.symm
    clear HE h2
    go_region_held3 (fun w' => w'.cell? ⟨w.heap.size, 0, none⟩ = some (.int .i64 c.1) ∧ w'.cell? ⟨w.heap.size, 1, none⟩ = some (.int .i64 c.2.1) ∧ w'.cell? ⟨w.heap.size, 2, none⟩ = some (.int .i64 c.2.2.1) ∧ w'.cell? ⟨w.heap.size, 3, none⟩ = some (.int .i64 c.2.2.2) ∧ w'.cell? ⟨g, 0, none⟩ = some (.map (some mb)))
      (first | exact ⟨c0, c1, c2, c3, c4⟩ | exact ⟨y0, y1, y2, y3, y4⟩)
      (first
        | (go_at_call 72
           refine (KW.out _).mono ?_
           rintro e wA ⟨rfl, hbA⟩
           have HDA := Lib.hid (HD.out.trans (hbA.mono HD.out.size))
           obtain ⟨y0, y1, y2, y3, y4⟩ := HC.out _ HDA.out
           have hlk := look_run (HOm.out _ HDA.out) HKO.out HAT.out
           clear hbA))
    all_goals
      (try go_wp2_with fail)
      go_ret
      exact ⟨La.retB HR.out.symm, B0.out.trans (HDA.out.mono B0.out.size)⟩
  · have HE0 := HE
    rw [h2] at HE
    have HR := Lib.hid HE.out.symm
    have h3 : c.2.2.2 ≤ z := by omega
    clear HE h2 h1
    go_region_held3 (fun w' => w'.cell? ⟨w.heap.size, 0, none⟩ = some (.int .i64 c.1) ∧ w'.cell? ⟨w.heap.size, 1, none⟩ = some (.int .i64 c.2.1) ∧ w'.cell? ⟨w.heap.size, 2, none⟩ = some (.int .i64 c.2.2.1) ∧ w'.cell? ⟨w.heap.size, 3, none⟩ = some (.int .i64 c.2.2.2) ∧ w'.cell? ⟨g, 0, none⟩ = some (.map (some mb)))
      (first | exact ⟨c0, c1, c2, c3, c4⟩ | exact ⟨y0, y1, y2, y3, y4⟩)
      (first
        | (go_at_call 72
           refine (KW.out _).mono ?_
           rintro e wA ⟨rfl, hbA⟩
           have HDA := Lib.hid (HD.out.trans (hbA.mono HD.out.size))
           obtain ⟨y0, y1, y2, y3, y4⟩ := HC.out _ HDA.out
           have hlk := look_run (HOm.out _ HDA.out) HKO.out HAT.out
           clear hbA))
    all_goals
      (try go_wp2_with fail)
      go_ret
      exact ⟨La.retB HE0.out, B0.out.trans (HDA.out.mono B0.out.size)⟩

/-- What worseThan hands on. -/
def FunAt (B0 : Nat) (w : World) (E : Int) (L : List ClT) (F : Value) : Prop := (E ≠ 0 → F = .nilFunc) ∧ (E = 0 → ∃ g mb, F = .func (Fn.func 73) #[] #[.pointer (some ⟨g, 0, none⟩)] ∧ B0 ≤ g ∧ Blk w g #[.map (some mb)] 87 ∧ w.ownsMap Tryz.prog 93 intE mb L.length (mapW (L.filter brokC)))

set_option maxRecDepth 100000 in
set_option maxHeartbeats 2000000 in
theorem worseThan_any (A B C P : Option Addr) (ca cb cc cp : Nat) (ns : List NodeD) (ps : List PodD) (os : List OwnD) (p : List Int) (hk : ∀ c ∈ all8 ns ps os p, OkC c) (hl : (all8 ns ps os p).length ≤ 12000) (w : World) (h : SnapAt w A B C ca cb cc ns ps os) (hp : IntsAt w P cp p) :
    Calls Tryz.prog 56 #[snapV A B C ca cb cc ns ps os, .slice P p.length cp] w fun e w' => ∃ F, e = .returned (.tuple #[F, .int .i64 (placeE ns ps os p)]) ∧ FunAt w.heap.size w' (placeE ns ps os p) (all8 ns ps os p) F ∧ Below w.heap.size w w' := by
  have B0 : Hid (Below w.heap.size w (w.alloc (.cells (snapC A B C ca cb cc ns ps os) 26))) := Lib.hid (below1 w _)
  have HA := Lib.hid (brokenBy_any A B C P ca cb cc cp ns ps os p hk hl _ (h.below B0.out) (hp.below B0.out))
  generalize all8 ns ps os p = l at HA ⊢
  generalize placeE ns ps os p = E at HA ⊢
  clear h hp hk hl
  go_enter Tryz.func56, Tryz.ntmps56
  go_wp2_with fail
  refine (HA.out).mono ?_
  rintro e w1 ⟨m, rfl, hm, hb⟩
  have HM := Lib.hid hm
  have B1 := Lib.hid (B0.out.trans (hb.mono B0.out.size))
  clear hm hb HA B0
  by_cases hE : E = 0
  case neg =>
    have hne : (E != 0) = true := by simpa using hE
    have HE := Lib.hid hE
    have B2 := Lib.hid (B1.out.alloc B1.out.size (.cells #[.map m] 87))
    clear hE
    go_wp2
    go_ret2
    exact ⟨_, rfl, ⟨fun _ => rfl, fun h => absurd h HE.out⟩, B2.out⟩
  subst hE
  obtain ⟨mb, rfl, hmb, hmo⟩ := HM.out.2 rfl
  have B2 := Lib.hid (B1.out.alloc B1.out.size (.cells #[.map (some mb)] 87))
  have Q2 := Lib.hid (Blk.new w1 #[.map (some mb)] 87)
  have M2 := Lib.hid (hmo.alloc (.cells #[.map (some mb)] 87))
  have hsz := Lib.hid B1.out.size
  clear hmb hmo HM
  go_wp2
  go_ret2
  exact ⟨_, rfl, ⟨fun h => absurd rfl h, fun _ => ⟨_, mb, rfl, hsz.out, Q2.out, M2.out⟩⟩, B2.out⟩

set_option maxRecDepth 100000 in
set_option maxHeartbeats 8000000 in
theorem worse_any (A B C P Q : Option Addr) (ca cb cc cp cq : Nat) (ns : List NodeD) (ps : List PodD) (os : List OwnD) (p q : List Int) (hk : ∀ c ∈ all8 ns ps os p, OkC c) (hkq : ∀ c ∈ all8 ns ps os q, OkC c) (hl : (all8 ns ps os p).length ≤ 12000) (hlq : (all8 ns ps os q).length ≤ 12000) (w : World) (h : SnapAt w A B C ca cb cc ns ps os) (hp : IntsAt w P cp p) (hq : IntsAt w Q cq q) :
    Calls Tryz.prog 23 #[snapV A B C ca cb cc ns ps os, .slice P p.length cp, .slice Q q.length cq] w fun e w' => ∃ v, e = .returned (.tuple #[v, .int .i64 (worseE ns ps os p q)]) ∧ w'.ownsRow w.heap.size 47 4 v (worseF ns ps os p q).length (cells4 (worseF ns ps os p q)) ∧ Below w.heap.size w w' := by
  have B0 : Hid (Below w.heap.size w (w.alloc (.cells (snapC A B C ca cb cc ns ps os) 26))) := Lib.hid (below1 w _)
  have S0 : Hid (Blk (w.alloc (.cells (snapC A B C ca cb cc ns ps os) 26)) w.heap.size (snapC A B C ca cb cc ns ps os) 26) := Lib.hid (Blk.new w _ _)
  have HA := Lib.hid (worseThan_any A B C P ca cb cc cp ns ps os p hk hl _ (h.below B0.out) (hp.below B0.out))
  have HB := Lib.hid (fun W' (hb : Below w.heap.size w W') => allP_any A B C Q ca cb cc cq ns ps os q W' (h.below hb) (hq.below hb))
  have HR := Lib.hid (all8_rise ns ps os p)
  have HG := Lib.hid (fun c hc => (all8_good ns ps os p c hc).1)
  have HK := Lib.hid hk
  have HKq := Lib.hid hkq
  obtain ⟨i0, hi0, hz0, hz1, hz2⟩ := info_parts cl_info
  have HF : Hid (worseF ns ps os p q = if placeE ns ps os p = 0 then (all8 ns ps os q).filter (worC (all8 ns ps os p)) else []) := Lib.hid rfl
  have HF0 : Hid (placeE ns ps os q ≠ 0 → all8 ns ps os q = []) := Lib.hid (fun h => by unfold all8; rw [if_neg h])
  have HE : Hid (worseE ns ps os p q = if placeE ns ps os p = 0 then placeE ns ps os q else placeE ns ps os p) := Lib.hid rfl
  generalize worseF ns ps os p q = R at HF ⊢
  generalize worseE ns ps os p q = e9 at HE ⊢
  generalize all8 ns ps os p = L at HA HR HG HK HF
  generalize all8 ns ps os q = l at HB HKq HF HF0 hlq
  generalize placeE ns ps os p = Ep at HA HF HE
  generalize placeE ns ps os q = Eq at HB HE HF0
  clear h hp hq hk hkq hl
  go_enter Tryz.func23, Tryz.ntmps23
  go_wp2_with fail
  refine (HA.out).mono ?_
  rintro e w1 ⟨F, rfl, hF, hb⟩
  have HFn := Lib.hid hF
  have B1 := Lib.hid (B0.out.trans (hb.mono B0.out.size))
  have S1 := Lib.hid (S0.out.below hb S0.out.lt)
  clear hF hb HA B0 S0
  by_cases hE : Ep = 0
  case neg =>
    have hne : (Ep != 0) = true := by simpa using hE
    have hR : R = [] := by rw [HF.out, if_neg hE]
    have h9 : e9 = Ep := by rw [HE.out, if_neg hE]
    clear hE HF HE
    go_wp2
    go_ret2
    subst hR h9
    exact ⟨_, rfl, World.ownsRow_nil _ _ _ _, B1.out⟩
  subst hE
  obtain ⟨g, mb, rfl, hg, hgb, hmo⟩ := HFn.out.2 rfl
  have G1 := Lib.hid hgb
  have M1 := Lib.hid hmo
  have h9 : Hid (e9 = Eq) := Lib.hid (by rw [HE.out, if_pos rfl])
  have hR : Hid (R = l.filter (worC L)) := Lib.hid (by rw [HF.out, if_pos rfl])
  clear hg hgb hmo HFn HF HE
  have KB := Lib.hid (HB.out _ B1.out)
  have z0 : w1.cell? ⟨w.heap.size, 0, none⟩ = some (.slice A ns.length ca) := Blk.cell S1.out 0
  have z1 : w1.cell? ⟨w.heap.size, 1, none⟩ = some (.slice B ps.length cb) := Blk.cell S1.out 1
  have z2 : w1.cell? ⟨w.heap.size, 2, none⟩ = some (.slice C os.length cc) := Blk.cell S1.out 2
  go_wp2_with fail
  refine (KB.out).mono ?_
  rintro e w2 ⟨v, rfl, ho, hb⟩
  obtain ⟨Gl, cg, rfl, _⟩ := La.own_slice ho
  have O2 := Lib.hid (La.own_slat ho)
  have B2 := Lib.hid (B1.out.trans (hb.mono B1.out.size))
  have G2 := Lib.hid (G1.out.below hb G1.out.lt)
  have M2 := Lib.hid (own_mapB M1.out hb)
  clear ho hb KB HB B1 S1 G1 M1 z0 z1 z2
  by_cases hE : Eq = 0
  case neg =>
    have hne : (Eq != 0) = true := by simpa using hE
    have hR2 : R = [] := by rw [hR.out, HF0.out hE]; rfl
    have h92 := h9.out
    clear hE hR h9 HF0
    go_wp2
    go_ret2
    subst hR2 h92
    exact ⟨_, rfl, World.ownsRow_nil _ _ _ _, B2.out⟩
  subst hE
  clear HF0
  have henter : ∀ (args : Array Value) (w : World), (callFunc 73 args).run Tryz.prog w = .ok (.enter 73 args) w := fun _ _ => by kernel_rfl
  have KW := Lib.hid (fun (W' : World) (hb : Below w2.heap.size w2 W') (y : ClT) (hy : y ∈ l) => worse1_any y (HKq.out y hy) g mb L.length L HK.out HR.out HG.out W' (G2.out.below hb G2.out.lt) (own_mapB M2.out hb))
  clear HK HR HG G2 M2
  go_wp2_with fail
  go_loopw [11, 34] (fun v i wr => ∃ k : Nat, k ≤ l.length ∧ i = .int .i64 k ∧ wr.ownsRow w2.heap.size 47 4 v ((l.take k).filter (worC L)).length (cells4 ((l.take k).filter (worC L))) ∧ Below w2.heap.size w2 wr) (fun _ i _ => l.length - (intOf i).toNat)
  case atStart => exact ⟨0, by omega, rfl, World.ownsRow_nil _ _ _ _, Below.refl _ _⟩
  case round =>
    obtain ⟨k, hk, rfl, ho, hb⟩ := hrel
    have HO := Lib.hid ho
    have HB := Lib.hid hb
    clear ho hb
    by_cases hlt : k < l.length
    case neg =>
      obtain rfl : k = l.length := by omega
      rw [List.take_length, ← hR.out] at HO
      have h92 := h9.out
      clear h9
      go_wp2
      go_ret2
      subst h92
      exact ⟨_, rfl, own_base HO.out B2.out.size, B2.out.trans (HB.out.mono B2.out.size)⟩
    obtain ⟨y, hy⟩ : ∃ y, l[k]? = some y := ⟨l[k], List.getElem?_eq_getElem hlt⟩
    have hyl := List.mem_of_getElem? hy
    obtain ⟨gy, oy, hGy, hbl, c0, c1, c2, c3⟩ := atC (La.SlAt.below O2.out HB.out) hy
    subst hGy
    have k0 : (0 : Int) ≤ (k : Int) := by omega
    have k1 : (k : Int) < (l.length : Int) := by omega
    have HF := Lib.hid (filt_snoc (worC L) hy)
    have hfl : ((l.take k).filter (worC L)).length ≤ k := Nat.le_trans (List.length_filter_le _ _) (by rw [List.length_take]; omega)
    clear hy
    generalize (l.take k).filter (worC L) = M at HO HF hfl
    go_upto_region 11 with fail
    have T8 : Hid (Blk (wr.alloc (.cells #[.int .i64 y.1, .int .i64 y.2.1, .int .i64 y.2.2.1, .int .i64 y.2.2.2] 47)) wr.heap.size #[.int .i64 y.1, .int .i64 y.2.1, .int .i64 y.2.2.1, .int .i64 y.2.2.2] 47) := Lib.hid (Blk.new wr _ _)
    have R8 : Hid (Below wr.heap.size wr (wr.alloc (.cells #[.int .i64 y.1, .int .i64 y.2.1, .int .i64 y.2.2.1, .int .i64 y.2.2.2] 47))) := Lib.hid (below1 wr _)
    try change Code.wp _ _ _ _ (wr.alloc (.cells #[.int .i64 y.1, .int .i64 y.2.1, .int .i64 y.2.2.1, .int .i64 y.2.2.2] 47))
    generalize (wr.alloc (.cells #[.int .i64 y.1, .int .i64 y.2.1, .int .i64 y.2.2.1, .int .i64 y.2.2.2] 47)) = W8 at T8 R8 ⊢
    have HO8 := Lib.hid (La.own_below HO.out R8.out)
    have HB8 := Lib.hid (HB.out.trans (R8.out.mono HB.out.size))
    clear c0 c1 c2 c3
    have c0 : W8.cell? ⟨wr.heap.size, 0, none⟩ = some (.int .i64 y.1) := Blk.cell T8.out 0
    have c1 : W8.cell? ⟨wr.heap.size, 1, none⟩ = some (.int .i64 y.2.1) := Blk.cell T8.out 1
    have c2 : W8.cell? ⟨wr.heap.size, 2, none⟩ = some (.int .i64 y.2.2.1) := Blk.cell T8.out 2
    have c3 : W8.cell? ⟨wr.heap.size, 3, none⟩ = some (.int .i64 y.2.2.2) := Blk.cell T8.out 3
    have KY := Lib.hid (KW.out W8 HB8.out y hyl)
    clear R8 HO HB hyl
    go_wp2_with fail
    refine (KY.out).mono ?_
    rintro e w3 ⟨rfl, hb3⟩
    have HO9 := Lib.hid (La.own_below HO8.out hb3)
    have HB9 := Lib.hid (HB8.out.trans (hb3.mono HB8.out.size))
    have T9 := Lib.hid (T8.out.below hb3 T8.out.lt)
    clear KY c0 c1 c2 c3 hb3 HO8 HB8 T8
    have c0 : w3.cell? ⟨wr.heap.size, 0, none⟩ = some (.int .i64 y.1) := Blk.cell T9.out 0
    have c1 : w3.cell? ⟨wr.heap.size, 1, none⟩ = some (.int .i64 y.2.1) := Blk.cell T9.out 1
    have c2 : w3.cell? ⟨wr.heap.size, 2, none⟩ = some (.int .i64 y.2.2.1) := Blk.cell T9.out 2
    have c3 : w3.cell? ⟨wr.heap.size, 3, none⟩ = some (.int .i64 y.2.2.2) := Blk.cell T9.out 3
    cases hwy : worC L y with
    | false =>
      have HE : Hid ((l.take (k + 1)).filter (worC L) = M) := Lib.hid (by rw [HF.out, hwy]; simp)
      clear HF hwy
      go_wp2_with fail
      go_roundw
      case rel => exact ⟨k + 1, by omega, by go_num, by rw [HE.out]; exact HO9.out, HB9.out⟩
      case measure => simp [intOf]; omega
    | true =>
      have HE : Hid ((l.take (k + 1)).filter (worC L) = M ++ [y]) := Lib.hid (by rw [HF.out, hwy]; simp)
      clear HF hwy
      go_wp2_with (at_builtin; refine wpList_append_own _ rfl _ _ 48 rfl w2.heap.size 47 i0 (.agg #[.int .i64 0, .int .i64 0, .int .i64 0, .int .i64 0]) 4 32 Tryz.underlying48 hi0 hz0 hz1 hz2 rfl (by decide) _ _ _ rfl (show World.ownsRow _ _ _ _ _ _ _ from HO9.out.alloc _) ⟨w3.heap.size, 0, none⟩ 1 1 [.int .i64 y.1, .int .i64 y.2.1, .int .i64 y.2.2.1, .int .i64 y.2.2.2] rfl rfl ?c1z ?c2z ?c3z ?c4z ?c5z ?_)
      case c1z =>
        intro j u hj
        match j, hj with
        | 0, hj => simp at hj; subst hj; simp [Addr.add]
        | 1, hj => simp at hj; subst hj; simp [Addr.add]
        | 2, hj => simp at hj; subst hj; simp [Addr.add]
        | 3, hj => simp at hj; subst hj; simp [Addr.add]
      case c2z => first | rfl | (intro u hu; simp at hu; rcases hu with rfl | rfl | rfl | rfl <;> rfl)
      case c3z => unfold maxLen; omega
      case c4z => omega
      case c5z => have := HB9.out.size; simp; omega
      intro v4 w4 hown4 hgrow4 _
      have P4 := Lib.hid hown4
      have D4 := Lib.hid ((HB9.out.alloc HB9.out.size (.cells #[.int .i64 y.1, .int .i64 y.2.1, .int .i64 y.2.2.1, .int .i64 y.2.2.2] 47)).grown hgrow4 (by have := HB9.out.size; simp; omega) (fun j hj => own_gem HO9.out hj))
      clear hown4 hgrow4
      go_wp2_with fail
      go_roundw
      case rel =>
        refine ⟨k + 1, by omega, by go_num, ?_, D4.out⟩
        rw [HE.out, List.length_append, cells4_snoc]
        exact P4.out
      case measure => simp [intOf]; omega
end Go.Proofs.YtpdaohkpgconkaaGreat

namespace Go.Proofs.YtpdaohkpgconkaaGreat
open Go.RowKit Go.Maps Go.Shelf

theorem worse_at (A B C P Q : Option Addr) (ca cb cc cp cq : Nat) (ns : List NodeD) (ps : List PodD) (os : List OwnD) (p q : List Int) (w : World) (h : SnapAt w A B C ca cb cc ns ps os) (hp : IntsAt w P cp p) (hq : IntsAt w Q cq q) :
    Calls Tryz.prog 23 #[snapV A B C ca cb cc ns ps os, .slice P p.length cp, .slice Q q.length cq] w fun e w' => ∃ v, e = .returned (.tuple #[v, .int .i64 (worseE ns ps os p q)]) ∧ w'.ownsRow w.heap.size 47 4 v (worseF ns ps os p q).length (cells4 (worseF ns ps os p q)) ∧ Below w.heap.size w w' :=
  worse_any A B C P Q ca cb cc cp cq ns ps os p q (all8_fine h p).1 (all8_fine h q).1 (all8_fine h p).2 (all8_fine h q).2 w h hp hq
end Go.Proofs.YtpdaohkpgconkaaGreat

namespace Go.Proofs.YtpdaohkpgconkaaGreat
open Go.RowKit Go.Maps Go.Shelf

/-- What is against a step. -/
inductive Ag
  | no
  | err (e : Int)
  | cl (c : ClT)
def Ag.v : Ag → Value
  | .no => .nilIface
  | .err e => .iface 49 (.int .i64 e)
  | .cl c => .iface 47 (clV c)
def Ag.c : Ag → ClT
  | .cl c => c
  | _ => (0, 0, 0, 0)
def Ag.e : Ag → Int
  | .no => 0
  | .err e => e
  | .cl _ => 100
def cordB (ns : List NodeD) (k : Nat) : Bool := match ns[k]? with
  | none => false
  | some x => x.cordon
/-- What a step makes, and what is against it. -/
def tryF (ns : List NodeD) (ps : List PodD) (os : List OwnD) (p : List Int) (kd pd nd : Int) : List Int × Ag :=
  if (applyF ns ps os p kd pd nd).2 ≠ 0 then ([], .err (applyF ns ps os p kd pd nd).2)
  else if kd = 2 ∧ cordB ns nd.toNat = true then ([], .err 100)
  else match worseU ns ps os p (applyF ns ps os p kd pd nd).1 with
    | c :: _ => ([], .cl c)
    | [] => ((applyF ns ps os p kd pd nd).1, .no)
/-- Where a step may be done, the cluster and the placement may be, and so the one that it makes. -/
theorem apply_ok {ns : List NodeD} {ps : List PodD} {os : List OwnD} {p : List Int} {kd pd nd : Int} (h : (applyF ns ps os p kd pd nd).2 = 0) : placeE ns ps os p = 0 ∧ placeE ns ps os (applyF ns ps os p kd pd nd).1 = 0 ∧ (kd = 2 → 0 ≤ nd ∧ nd < (ns.length : Int)) := by
  unfold applyF at h ⊢
  by_cases hE : placeE ns ps os p = 0
  · rw [if_pos hE] at h ⊢
    refine ⟨hE, ?_⟩
    by_cases h1 : kd = 1
    · rw [if_pos h1] at h ⊢
      unfold evictF at h ⊢
      split at h
      · rename_i hp
        rw [if_pos hp]
        split at h
        · rename_i hn
          rw [if_pos hn]
          split at h
          · cases h
          · rename_i hw
            rw [if_neg hw]
            exact ⟨placeE_set hE _ (ok_none ns), fun h2 => by omega⟩
        · cases h
      · cases h
    · rw [if_neg h1] at h ⊢
      by_cases h2 : kd = 2
      · rw [if_pos h2] at h ⊢
        unfold bindF at h ⊢
        split at h
        · rename_i hp
          rw [if_pos hp]
          split at h
          · rename_i hn
            rw [if_pos hn]
            split at h
            · rename_i hw
              rw [if_pos hw]
              split at h
              · cases h
              · rename_i hl
                rw [if_neg hl]
                refine ⟨placeE_set hE _ ?_, fun _ => hn⟩
                unfold okB tpB
                unfold lostB at hl
                have hlt : nd.toNat < ns.length := by omega
                rw [List.getElem?_eq_getElem hlt] at hl ⊢
                have hl : ns[nd.toNat].lost = false := by simpa using hl
                simp [hl, hn.1]
            · cases h
          · cases h
        · cases h
      · rw [if_neg h2] at h
        cases h
  · rw [if_neg hE] at h
    exact absurd h hE

set_option maxRecDepth 100000 in
set_option maxHeartbeats 1000000 in
theorem clauseOf_any (a : Ag) (w : World) : Calls Tryz.prog 64 #[a.v] w fun e w' => e = .returned (clV a.c) ∧ Below w.heap.size w w' := by
  cases a with
  | no =>
    have hta : ∀ w : World, (Instr.typeAssert .nilIface 20 47 true).run Tryz.prog w = .ok (.tuple #[.agg #[.int .i64 0, .int .i64 0, .int .i64 0, .int .i64 0], .bool false]) w := fun w => by kernel_rfl
    have B0 : Hid (Below w.heap.size w ((w.alloc (.cells #[.int .i64 0, .int .i64 0, .int .i64 0, .int .i64 0] 47)).alloc (.cells #[.int .i64 0, .int .i64 0, .int .i64 0, .int .i64 0] 47))) := Lib.hid (Qu.below2 w _ _)
    have Q0 : Hid (Blk ((w.alloc (.cells #[.int .i64 0, .int .i64 0, .int .i64 0, .int .i64 0] 47)).alloc (.cells #[.int .i64 0, .int .i64 0, .int .i64 0, .int .i64 0] 47)) w.heap.size #[.int .i64 0, .int .i64 0, .int .i64 0, .int .i64 0] 47) := Lib.hid (Blk.alloc (Blk.new w _ _) _)
    have R0 : Hid (Blk ((w.alloc (.cells #[.int .i64 0, .int .i64 0, .int .i64 0, .int .i64 0] 47)).alloc (.cells #[.int .i64 0, .int .i64 0, .int .i64 0, .int .i64 0] 47)) (w.heap.size + 1) #[.int .i64 0, .int .i64 0, .int .i64 0, .int .i64 0] 47) := Lib.hid (blk2 w _ _ _)
    show Calls Tryz.prog 64 #[.nilIface] w _
    go_enter Tryz.func64, Tryz.ntmps64
    go_upto_region 4 with fail
    try change Code.wp _ _ _ _ ((w.alloc (.cells #[.int .i64 0, .int .i64 0, .int .i64 0, .int .i64 0] 47)).alloc (.cells #[.int .i64 0, .int .i64 0, .int .i64 0, .int .i64 0] 47))
    generalize ((w.alloc (.cells #[.int .i64 0, .int .i64 0, .int .i64 0, .int .i64 0] 47)).alloc (.cells #[.int .i64 0, .int .i64 0, .int .i64 0, .int .i64 0] 47)) = W at B0 Q0 R0 ⊢
    have z0 : W.cell? ⟨w.heap.size, 0, none⟩ = some (.int .i64 0) := Blk.cell Q0.out 0
    have z1 : W.cell? ⟨w.heap.size, 1, none⟩ = some (.int .i64 0) := Blk.cell Q0.out 1
    have z2 : W.cell? ⟨w.heap.size, 2, none⟩ = some (.int .i64 0) := Blk.cell Q0.out 2
    have z3 : W.cell? ⟨w.heap.size, 3, none⟩ = some (.int .i64 0) := Blk.cell Q0.out 3
    have g0 := Blk.free Q0.out 0
    have g1 := Blk.free Q0.out 1
    have g2 := Blk.free Q0.out 2
    have g3 := Blk.free Q0.out 3
    have y0 : W.cell? ⟨w.heap.size + 1, 0, none⟩ = some (.int .i64 0) := Blk.cell R0.out 0
    have y1 : W.cell? ⟨w.heap.size + 1, 1, none⟩ = some (.int .i64 0) := Blk.cell R0.out 1
    have y2 : W.cell? ⟨w.heap.size + 1, 2, none⟩ = some (.int .i64 0) := Blk.cell R0.out 2
    have y3 : W.cell? ⟨w.heap.size + 1, 3, none⟩ = some (.int .i64 0) := Blk.cell R0.out 3
    have Q4 := Lib.hid ((((Q0.out.set 0 (.int .i64 0)).set 1 (.int .i64 0)).set 2 (.int .i64 0)).set 3 (.int .i64 0))
    have B4 := Lib.hid ((((B0.out.setCell (p := ⟨w.heap.size, 0, none⟩) (Nat.le_refl _) (.int .i64 0)).setCell (p := ⟨w.heap.size, 1, none⟩) (Nat.le_refl _) (.int .i64 0)).setCell (p := ⟨w.heap.size, 2, none⟩) (Nat.le_refl _) (.int .i64 0)).setCell (p := ⟨w.heap.size, 3, none⟩) (Nat.le_refl _) (.int .i64 0))
    go_wp2
    refine bodyPost_row1 Tryz.results64 w.heap.size _ _ _ _ (by rfl) (by rfl) Q4.out Tryz.underlying47 rfl (by kernel_rfl) ?_
    exact ⟨rfl, B4.out⟩
  | err e =>
    have hta : ∀ w : World, (Instr.typeAssert (.iface 49 (.int .i64 e)) 20 47 true).run Tryz.prog w = .ok (.tuple #[.agg #[.int .i64 0, .int .i64 0, .int .i64 0, .int .i64 0], .bool false]) w := fun w => by kernel_rfl
    have B0 : Hid (Below w.heap.size w ((w.alloc (.cells #[.int .i64 0, .int .i64 0, .int .i64 0, .int .i64 0] 47)).alloc (.cells #[.int .i64 0, .int .i64 0, .int .i64 0, .int .i64 0] 47))) := Lib.hid (Qu.below2 w _ _)
    have Q0 : Hid (Blk ((w.alloc (.cells #[.int .i64 0, .int .i64 0, .int .i64 0, .int .i64 0] 47)).alloc (.cells #[.int .i64 0, .int .i64 0, .int .i64 0, .int .i64 0] 47)) w.heap.size #[.int .i64 0, .int .i64 0, .int .i64 0, .int .i64 0] 47) := Lib.hid (Blk.alloc (Blk.new w _ _) _)
    have R0 : Hid (Blk ((w.alloc (.cells #[.int .i64 0, .int .i64 0, .int .i64 0, .int .i64 0] 47)).alloc (.cells #[.int .i64 0, .int .i64 0, .int .i64 0, .int .i64 0] 47)) (w.heap.size + 1) #[.int .i64 0, .int .i64 0, .int .i64 0, .int .i64 0] 47) := Lib.hid (blk2 w _ _ _)
    show Calls Tryz.prog 64 #[(.iface 49 (.int .i64 e))] w _
    go_enter Tryz.func64, Tryz.ntmps64
    go_upto_region 4 with fail
    try change Code.wp _ _ _ _ ((w.alloc (.cells #[.int .i64 0, .int .i64 0, .int .i64 0, .int .i64 0] 47)).alloc (.cells #[.int .i64 0, .int .i64 0, .int .i64 0, .int .i64 0] 47))
    generalize ((w.alloc (.cells #[.int .i64 0, .int .i64 0, .int .i64 0, .int .i64 0] 47)).alloc (.cells #[.int .i64 0, .int .i64 0, .int .i64 0, .int .i64 0] 47)) = W at B0 Q0 R0 ⊢
    have z0 : W.cell? ⟨w.heap.size, 0, none⟩ = some (.int .i64 0) := Blk.cell Q0.out 0
    have z1 : W.cell? ⟨w.heap.size, 1, none⟩ = some (.int .i64 0) := Blk.cell Q0.out 1
    have z2 : W.cell? ⟨w.heap.size, 2, none⟩ = some (.int .i64 0) := Blk.cell Q0.out 2
    have z3 : W.cell? ⟨w.heap.size, 3, none⟩ = some (.int .i64 0) := Blk.cell Q0.out 3
    have g0 := Blk.free Q0.out 0
    have g1 := Blk.free Q0.out 1
    have g2 := Blk.free Q0.out 2
    have g3 := Blk.free Q0.out 3
    have y0 : W.cell? ⟨w.heap.size + 1, 0, none⟩ = some (.int .i64 0) := Blk.cell R0.out 0
    have y1 : W.cell? ⟨w.heap.size + 1, 1, none⟩ = some (.int .i64 0) := Blk.cell R0.out 1
    have y2 : W.cell? ⟨w.heap.size + 1, 2, none⟩ = some (.int .i64 0) := Blk.cell R0.out 2
    have y3 : W.cell? ⟨w.heap.size + 1, 3, none⟩ = some (.int .i64 0) := Blk.cell R0.out 3
    have Q4 := Lib.hid ((((Q0.out.set 0 (.int .i64 0)).set 1 (.int .i64 0)).set 2 (.int .i64 0)).set 3 (.int .i64 0))
    have B4 := Lib.hid ((((B0.out.setCell (p := ⟨w.heap.size, 0, none⟩) (Nat.le_refl _) (.int .i64 0)).setCell (p := ⟨w.heap.size, 1, none⟩) (Nat.le_refl _) (.int .i64 0)).setCell (p := ⟨w.heap.size, 2, none⟩) (Nat.le_refl _) (.int .i64 0)).setCell (p := ⟨w.heap.size, 3, none⟩) (Nat.le_refl _) (.int .i64 0))
    go_wp2
    refine bodyPost_row1 Tryz.results64 w.heap.size _ _ _ _ (by rfl) (by rfl) Q4.out Tryz.underlying47 rfl (by kernel_rfl) ?_
    exact ⟨rfl, B4.out⟩
  | cl c =>
    have hta : ∀ w : World, (Instr.typeAssert (.iface 47 (clV c)) 20 47 true).run Tryz.prog w = .ok (.tuple #[clV c, .bool true]) w := fun w => by kernel_rfl
    have B0 : Hid (Below w.heap.size w ((w.alloc (.cells #[.int .i64 0, .int .i64 0, .int .i64 0, .int .i64 0] 47)).alloc (.cells #[.int .i64 c.1, .int .i64 c.2.1, .int .i64 c.2.2.1, .int .i64 c.2.2.2] 47))) := Lib.hid (Qu.below2 w _ _)
    have Q0 : Hid (Blk ((w.alloc (.cells #[.int .i64 0, .int .i64 0, .int .i64 0, .int .i64 0] 47)).alloc (.cells #[.int .i64 c.1, .int .i64 c.2.1, .int .i64 c.2.2.1, .int .i64 c.2.2.2] 47)) w.heap.size #[.int .i64 0, .int .i64 0, .int .i64 0, .int .i64 0] 47) := Lib.hid (Blk.alloc (Blk.new w _ _) _)
    have R0 : Hid (Blk ((w.alloc (.cells #[.int .i64 0, .int .i64 0, .int .i64 0, .int .i64 0] 47)).alloc (.cells #[.int .i64 c.1, .int .i64 c.2.1, .int .i64 c.2.2.1, .int .i64 c.2.2.2] 47)) (w.heap.size + 1) #[.int .i64 c.1, .int .i64 c.2.1, .int .i64 c.2.2.1, .int .i64 c.2.2.2] 47) := Lib.hid (blk2 w _ _ _)
    show Calls Tryz.prog 64 #[(.iface 47 (clV c))] w _
    go_enter Tryz.func64, Tryz.ntmps64
    go_upto_region 3 with fail
    try change Code.wp _ _ _ _ ((w.alloc (.cells #[.int .i64 0, .int .i64 0, .int .i64 0, .int .i64 0] 47)).alloc (.cells #[.int .i64 c.1, .int .i64 c.2.1, .int .i64 c.2.2.1, .int .i64 c.2.2.2] 47))
    generalize ((w.alloc (.cells #[.int .i64 0, .int .i64 0, .int .i64 0, .int .i64 0] 47)).alloc (.cells #[.int .i64 c.1, .int .i64 c.2.1, .int .i64 c.2.2.1, .int .i64 c.2.2.2] 47)) = W at B0 Q0 R0 ⊢
    have z0 : W.cell? ⟨w.heap.size, 0, none⟩ = some (.int .i64 0) := Blk.cell Q0.out 0
    have z1 : W.cell? ⟨w.heap.size, 1, none⟩ = some (.int .i64 0) := Blk.cell Q0.out 1
    have z2 : W.cell? ⟨w.heap.size, 2, none⟩ = some (.int .i64 0) := Blk.cell Q0.out 2
    have z3 : W.cell? ⟨w.heap.size, 3, none⟩ = some (.int .i64 0) := Blk.cell Q0.out 3
    have g0 := Blk.free Q0.out 0
    have g1 := Blk.free Q0.out 1
    have g2 := Blk.free Q0.out 2
    have g3 := Blk.free Q0.out 3
    have y0 : W.cell? ⟨w.heap.size + 1, 0, none⟩ = some (.int .i64 c.1) := Blk.cell R0.out 0
    have y1 : W.cell? ⟨w.heap.size + 1, 1, none⟩ = some (.int .i64 c.2.1) := Blk.cell R0.out 1
    have y2 : W.cell? ⟨w.heap.size + 1, 2, none⟩ = some (.int .i64 c.2.2.1) := Blk.cell R0.out 2
    have y3 : W.cell? ⟨w.heap.size + 1, 3, none⟩ = some (.int .i64 c.2.2.2) := Blk.cell R0.out 3
    have Q4 := Lib.hid ((((Q0.out.set 0 (.int .i64 c.1)).set 1 (.int .i64 c.2.1)).set 2 (.int .i64 c.2.2.1)).set 3 (.int .i64 c.2.2.2))
    have B4 := Lib.hid ((((B0.out.setCell (p := ⟨w.heap.size, 0, none⟩) (Nat.le_refl _) (.int .i64 c.1)).setCell (p := ⟨w.heap.size, 1, none⟩) (Nat.le_refl _) (.int .i64 c.2.1)).setCell (p := ⟨w.heap.size, 2, none⟩) (Nat.le_refl _) (.int .i64 c.2.2.1)).setCell (p := ⟨w.heap.size, 3, none⟩) (Nat.le_refl _) (.int .i64 c.2.2.2))
    go_wp2
    refine bodyPost_row1 Tryz.results64 w.heap.size _ _ _ _ (by rfl) (by rfl) Q4.out Tryz.underlying47 rfl (by kernel_rfl) ?_
    exact ⟨rfl, B4.out⟩

set_option maxRecDepth 100000 in
set_option maxHeartbeats 1000000 in
theorem errorOf_any (a : Ag) (w : World) : Calls Tryz.prog 65 #[a.v] w fun e w' => e = .returned (.int .i64 a.e) ∧ Below w.heap.size w w' := by
  cases a with
  | no =>
    show Calls Tryz.prog 65 #[.nilIface] w _
    have heq : ∀ w : World, (Op.equal 20 .nilIface .nilIface).run Tryz.prog w = .ok true w := fun w => by kernel_rfl
    go_enter Tryz.func65, Tryz.ntmps65
    go_wp2
    go_ret
    exact ⟨rfl, Below.refl _ _⟩
  | err e =>
    have hta : ∀ w : World, (Instr.typeAssert (.iface 49 (.int .i64 e)) 20 47 true).run Tryz.prog w = .ok (.tuple #[.agg #[.int .i64 0, .int .i64 0, .int .i64 0, .int .i64 0], .bool false]) w := fun w => by kernel_rfl
    have htb : ∀ w : World, (Instr.typeAssert (.iface 49 (.int .i64 e)) 20 49 false).run Tryz.prog w = .ok (.int .i64 e) w := fun w => by kernel_rfl
    have heq : ∀ w : World, (Op.equal 20 (.iface 49 (.int .i64 e)) .nilIface).run Tryz.prog w = .ok false w := fun w => by kernel_rfl
    show Calls Tryz.prog 65 #[.iface 49 (.int .i64 e)] w _
    go_enter Tryz.func65, Tryz.ntmps65
    go_wp2
    go_ret
    exact ⟨rfl, Below.refl _ _⟩
  | cl c =>
    have hta : ∀ w : World, (Instr.typeAssert (.iface 47 (clV c)) 20 47 true).run Tryz.prog w = .ok (.tuple #[clV c, .bool true]) w := fun w => by kernel_rfl
    have heq : ∀ w : World, (Op.equal 20 (.iface 47 (clV c)) .nilIface).run Tryz.prog w = .ok false w := fun w => by kernel_rfl
    show Calls Tryz.prog 65 #[.iface 47 (clV c)] w _
    go_enter Tryz.func65, Tryz.ntmps65
    go_wp2
    go_ret
    exact ⟨rfl, Below.refl _ _⟩

set_option maxRecDepth 100000 in
set_option maxHeartbeats 4000000 in
theorem try_any (A B C P : Option Addr) (ca cb cc cp : Nat) (ns : List NodeD) (ps : List PodD) (os : List OwnD) (p : List Int) (kd pd nd : Int) (w : World) (h : SnapAt w A B C ca cb cc ns ps os) (hp : IntsAt w P cp p) :
    Calls Tryz.prog 63 #[snapV A B C ca cb cc ns ps os, .slice P p.length cp, stepV kd pd nd] w fun e w' => ∃ v, e = .returned (.tuple #[v, (tryF ns ps os p kd pd nd).2.v]) ∧ w'.ownsRow w.heap.size 3 1 v (tryF ns ps os p kd pd nd).1.length (intsC (tryF ns ps os p kd pd nd).1) ∧ Below w.heap.size w w' := by
  have B0 : Hid (Below w.heap.size w ((w.alloc (.cells (snapC A B C ca cb cc ns ps os) 26)).alloc (.cells #[.int .i64 kd, .int .i64 pd, .int .i64 nd] 70))) := Lib.hid (Qu.below2 w _ _)
  have Z0 : Hid (Blk ((w.alloc (.cells (snapC A B C ca cb cc ns ps os) 26)).alloc (.cells #[.int .i64 kd, .int .i64 pd, .int .i64 nd] 70)) w.heap.size (snapC A B C ca cb cc ns ps os) 26) := Lib.hid (Blk.alloc (Blk.new w _ _) _)
  have S0 : Hid (Blk ((w.alloc (.cells (snapC A B C ca cb cc ns ps os) 26)).alloc (.cells #[.int .i64 kd, .int .i64 pd, .int .i64 nd] 70)) (w.heap.size + 1) #[.int .i64 kd, .int .i64 pd, .int .i64 nd] 70) := Lib.hid (blk2 w _ _ _)
  have H := Lib.hid h
  have HP := Lib.hid hp
  have KA := Lib.hid (apply_any A B C P ca cb cc cp ns ps os p kd pd nd _ (h.below B0.out) (hp.below B0.out))
  have KW := Lib.hid (fun (W' : World) (hb : Below w.heap.size w W') (q : List Int) (Q : Option Addr) (cq : Nat) (hq : IntsAt W' Q cq q) => worse_at A B C P Q ca cb cc cp cq ns ps os p q W' (h.below hb) (hp.below hb) hq)
  have HOK := Lib.hid (fun h => @apply_ok ns ps os p kd pd nd h)
  have HT : Hid (tryF ns ps os p kd pd nd = if (applyF ns ps os p kd pd nd).2 ≠ 0 then ([], .err (applyF ns ps os p kd pd nd).2)
    else if kd = 2 ∧ cordB ns nd.toNat = true then ([], .err 100)
    else match worseU ns ps os p (applyF ns ps os p kd pd nd).1 with
      | c :: _ => ([], .cl c)
      | [] => ((applyF ns ps os p kd pd nd).1, .no)) := Lib.hid rfl
  generalize tryF ns ps os p kd pd nd = R at HT ⊢
  generalize applyF ns ps os p kd pd nd = F at KA HOK HT
  obtain ⟨q, eq⟩ := F
  dsimp only at KA HOK HT
  clear h hp
  go_enter Tryz.func63, Tryz.ntmps63
  go_upto_region 1 with fail
  try change Code.wp _ _ _ _ ((w.alloc (.cells (snapC A B C ca cb cc ns ps os) 26)).alloc (.cells #[.int .i64 kd, .int .i64 pd, .int .i64 nd] 70))
  generalize ((w.alloc (.cells (snapC A B C ca cb cc ns ps os) 26)).alloc (.cells #[.int .i64 kd, .int .i64 pd, .int .i64 nd] 70)) = W at B0 Z0 S0 KA ⊢
  have HC := Lib.hid (fun W' (hb : Below W.heap.size W W') => (show W'.cell? ⟨w.heap.size, 0, none⟩ = some (.slice A ns.length ca) ∧ W'.cell? ⟨w.heap.size, 1, none⟩ = some (.slice B ps.length cb) ∧ W'.cell? ⟨w.heap.size, 2, none⟩ = some (.slice C os.length cc) ∧ W'.cell? ⟨w.heap.size + 1, 0, none⟩ = some (.int .i64 kd) ∧ W'.cell? ⟨w.heap.size + 1, 1, none⟩ = some (.int .i64 pd) ∧ W'.cell? ⟨w.heap.size + 1, 2, none⟩ = some (.int .i64 nd) from ⟨Blk.cell (Z0.out.below hb Z0.out.lt) 0, Blk.cell (Z0.out.below hb Z0.out.lt) 1, Blk.cell (Z0.out.below hb Z0.out.lt) 2, Blk.cell (S0.out.below hb S0.out.lt) 0, Blk.cell (S0.out.below hb S0.out.lt) 1, Blk.cell (S0.out.below hb S0.out.lt) 2⟩))
  obtain ⟨z0, z1, z2, s0, s1, s2⟩ := HC.out _ (Below.refl _ W)
  go_wp2_with fail
  refine (KA.out).mono ?_
  rintro e w1 ⟨v, rfl, ho, hb⟩
  obtain ⟨Q, cq, rfl, _⟩ := La.own_slice ho
  have HB := Lib.hid (show Below W.heap.size W w1 from hb)
  have B1 := Lib.hid (B0.out.trans (hb.mono B0.out.size))
  have IQ := Lib.hid (IntsAt.own ho)
  have OQ := Lib.hid (own_base ho B0.out.size)
  clear ho hb KA z0 z1 z2 s0 s1 s2
  obtain ⟨z0, z1, z2, s0, s1, s2⟩ := HC.out _ HB.out
  by_cases hE : eq = 0
  case neg =>
    have hne : (eq != 0) = true := by simpa using hE
    have hR := HT.out
    rw [if_pos hE] at hR
    have HR := Lib.hid hR
    clear hE HT HOK hR
    go_wp2
    go_ret2
    rw [HR.out]
    exact ⟨_, rfl, World.ownsRow_nil _ _ _ _, B1.out⟩
  subst hE
  obtain ⟨hEp, hEq, hrange⟩ := HOK.out rfl
  have HR0 := HT.out
  rw [if_neg (by simp)] at HR0
  have HR := Lib.hid HR0
  clear HT HOK HR0
  have fin : ∀ (_ : ¬ (kd = 2 ∧ cordB ns nd.toNat = true)) , Hid (R = match worseU ns ps os p q with
      | c :: _ => ([], .cl c)
      | [] => (q, .no)) := fun h => Lib.hid (by rw [HR.out, if_neg h])
  have hlen : Hid (IntsAt w1 Q cq q) := IQ
  have KW1 := Lib.hid (KW.out _ B1.out q Q cq IQ.out)
  have hwF : worseF ns ps os p q = worseU ns ps os p q := by
    unfold worseF
    rw [if_pos hEp]
  rw [hwF] at KW1
  generalize worseE ns ps os p q = e9 at KW1
  generalize worseU ns ps os p q = L at KW1 fin
  clear hwF KW hEp hEq hlen
  by_cases h2 : kd = 2
  case neg =>
    have h2b : (kd == 2) = false := by simpa using h2
    have h2d : decide (kd = 2) = false := decide_eq_false h2
    have HF := fin (fun h => h2 h.1)
    go_wp2_with fail
    refine (KW1.out).mono ?_
    rintro e w2 ⟨vl, rfl, hol, hb2⟩
    obtain ⟨Gl, cl, rfl, _⟩ := La.own_slice hol
    have TL := Lib.hid (La.own_slat hol)
    have OQ2 := Lib.hid (La.own_below OQ.out hb2)
    have B2 := Lib.hid (B1.out.trans (hb2.mono B1.out.size))
    clear hol hb2 KW1 z0 z1 z2 s0 s1 s2 fin
    cases L with
    | nil =>
      have hR := HF.out
      clear HF HR
      go_wp2
      go_ret2
      rw [hR]
      exact ⟨_, rfl, OQ2.out, B2.out⟩
    | cons c t =>
      have hR := HF.out
      obtain ⟨gy, oy, hGy, hbl, c0, c1, c2, c3⟩ := atC TL.out (k := 0) (x := c) rfl
      subst hGy
      simp only [Nat.zero_mul, Nat.add_zero] at c0 c1 c2 c3
      have hl1 : (0 : Int) < (((c :: t).length : Nat) : Int) := by rw [List.length_cons]; omega
      have hl2 : decide ((0 : Int) < (((c :: t).length : Nat) : Int)) = true := decide_eq_true hl1
      have HL1 := Lib.hid hl1
      generalize (c :: t).length = n9 at hl1 hl2 ⊢
      have hl3 : 0 < n9 := by omega
      have hl4 : decide (0 < n9) = true := decide_eq_true hl3
      clear HF HR
      go_upto_region 8 with fail
      go_region
      all_goals
        (try go_wp2)
        go_ret2
        rw [hR]
        exact ⟨_, rfl, World.ownsRow_nil _ _ _ _, by first | exact B2.out | exact B2.out.drew | exact below_drewN B2.out _⟩
  subst h2
  obtain ⟨hn0, hn1⟩ := hrange rfl
  obtain ⟨nn, rfl⟩ := Int.eq_ofNat_of_zero_le hn0
  have hnl : nn < ns.length := by omega
  obtain ⟨x, hx⟩ : ∃ x, ns[nn]? = some x := ⟨ns[nn], List.getElem?_eq_getElem hnl⟩
  obtain ⟨bn, on, hAn, hbn, _, _, _, _, _, _, _, _, d8, _⟩ := atN (H.out.below B1.out).n.cells hx
  subst hAn
  have hcB : cordB ns (nn : Int).toNat = x.cordon := by
    unfold cordB
    rw [Int.toNat_natCast, hx]
  have HCB := Lib.hid hcB
  clear hcB hx hrange
  cases hcd : x.cordon with
  | true =>
    have hR := HR.out
    rw [if_pos ⟨rfl, by rw [HCB.out, hcd]⟩] at hR
    rw [hcd] at d8
    have HR2 := Lib.hid hR
    clear hR HR fin KW1 hcd HCB
    go_wp2
    go_ret2
    rw [HR2.out]
    exact ⟨_, rfl, World.ownsRow_nil _ _ _ _, B1.out⟩
  | false =>
    rw [hcd] at d8
    have hcn : ¬ ((2 : Int) = 2 ∧ cordB ns (nn : Int).toNat = true) := fun h => by
      have := h.2
      rw [HCB.out, hcd] at this
      cases this
    have HCN := Lib.hid hcn
    clear hcd HCB hcn
    have HF := fin (HCN.out)
    go_wp2_with fail
    refine (KW1.out).mono ?_
    rintro e w2 ⟨vl, rfl, hol, hb2⟩
    obtain ⟨Gl, cl, rfl, _⟩ := La.own_slice hol
    have TL := Lib.hid (La.own_slat hol)
    have OQ2 := Lib.hid (La.own_below OQ.out hb2)
    have B2 := Lib.hid (B1.out.trans (hb2.mono B1.out.size))
    clear hol hb2 KW1 z0 z1 z2 s0 s1 s2 fin
    cases L with
    | nil =>
      have hR := HF.out
      clear HF HR
      go_wp2
      go_ret2
      rw [hR]
      exact ⟨_, rfl, OQ2.out, B2.out⟩
    | cons c t =>
      have hR := HF.out
      obtain ⟨gy, oy, hGy, hbl, c0, c1, c2, c3⟩ := atC TL.out (k := 0) (x := c) rfl
      subst hGy
      simp only [Nat.zero_mul, Nat.add_zero] at c0 c1 c2 c3
      have hl1 : (0 : Int) < (((c :: t).length : Nat) : Int) := by rw [List.length_cons]; omega
      have hl2 : decide ((0 : Int) < (((c :: t).length : Nat) : Int)) = true := decide_eq_true hl1
      have HL1 := Lib.hid hl1
      generalize (c :: t).length = n9 at hl1 hl2 ⊢
      have hl3 : 0 < n9 := by omega
      have hl4 : decide (0 < n9) = true := decide_eq_true hl3
      clear HF HR
      go_upto_region 8 with fail
      go_region
      all_goals
        (try go_wp2)
        go_ret2
        rw [hR]
        exact ⟨_, rfl, World.ownsRow_nil _ _ _ _, by first | exact B2.out | exact B2.out.drew | exact below_drewN B2.out _⟩
end Go.Proofs.YtpdaohkpgconkaaGreat
