/- Numbers of any length copied and held against each other; may a placement be, as the document says it. Contracts. Condition: the arguments lie in memory. From what a law's walk gives to the law's row, where no variable is listed: the arguments read as they did, nothing that was there has turned. No conditions of its own. Who goes through the pods of a node: the contracts of podsOn and of what it hands back. Condition: the numbers lie in memory. Who goes through the pods of an owner that do not wait: the contracts of podsOf and of what it hands back. Condition: the cluster and the numbers lie in memory. What the pods of a node ask for: the contract of Used. Condition: the cluster and the numbers lie in memory. What the pods of a node ask for: the contract of Used where there is the node. Condition: the cluster and the numbers lie in memory. How many pods of an owner do not wait: the contract of Placed. Condition: the cluster and the numbers lie in memory. Of each node how many of an owner's pods are on it: the contract of Counts. Condition: the cluster and the numbers lie in memory. The sorted keys of a map: the library's contracts, at this program. No conditions but what they say. The domains of a key: the contracts of emptyDomains and of Domains. Condition: the cluster lies in memory. The domains of a key, sorted: the contract of Domains. Condition: the cluster lies in memory. Of each domain how many of an owner's pods are in it: the contract of Spread. Condition: the cluster and the numbers lie in memory. What the plain functions tell of the chapter's cluster. No conditions. Two lists of texts held against each other. Condition: they lie in memory. Two rows that are alike are equal. No conditions. The chapter's examples hold. No conditions. What may not be, is refused; both ends: the walk of the closed law. No conditions. -/
import Derived.Test.YtfpbdfagcfdbbaaGreatC05
import Derived.Laws.AppendOwnNone
import Derived.Test.YtfpbdfagcfdbbaaGreatRows
import Derived.ProofKit
import Derived.OpenShut
import Derived.Carry
import Derived.LaidSub
import Derived.Deep.DeepHandedRow
import Derived.RangeFuncNested
import Derived.RangeFuncBound
import Derived.RangeFuncCalls
import Derived.RangeFuncLeaves
import Derived.RangeFuncBox
import Derived.Shelf.Abstract
import Derived.Shelf.RegionOpen
import Derived.WalkKit
import Derived.OwnWalkIn
import Derived.TacticsInMore
import Derived.LoopNIn
import Derived.LoopIn
import Derived.Laws.OwnMore
import Derived.Test.YtfpbdfagcfdbbaaGreatShelfIter
import Derived.Maps.OwnIn
import Derived.Maps.Views
import Derived.Laws.StructEq

namespace Go.Proofs.YtfpbdfagcfdbbaaGreat
open Go.RowKit

set_option maxRecDepth 100000 in
set_option maxHeartbeats 2000000 in
theorem eqInts_anyL (A B : Option Addr) (ca cb : Nat) (l m : List Int) (w : World) (hl : l.length ≤ 9223372036854775807) (ha : IntsAt w A ca l) (hb : IntsAt w B cb m) :
    Calls Tryz.prog 19 #[.slice A l.length ca, .slice B m.length cb] w fun e w' => e = .returned (.bool (decide (l = m))) ∧ Below w.heap.size w w' := by
  by_cases hn : l.length = m.length
  case neg =>
    have hni : ¬ (l.length : Int) = (m.length : Int) := by omega
    have hnb : ((l.length : Int) != (m.length : Int)) = true := by simpa using hni
    have hne : decide (l = m) = false := decide_eq_false (fun e => hn (by rw [e]))
    rw [hne]
    clear ha hb
    go_enter Tryz.func19, Tryz.ntmps19
    go_wp2
    go_ret
    exact ⟨rfl, Below.refl _ _⟩
  have hni : (l.length : Int) = (m.length : Int) := by omega
  have hnb : ((l.length : Int) != (m.length : Int)) = false := by simpa using hni
  have HA := Lib.hid ha
  have HB := Lib.hid hb
  clear ha hb
  obtain ⟨R, hR⟩ : ∃ R, decide (l = m) = R := ⟨_, rfl⟩
  have HR := Lib.hid hR
  rw [hR]
  clear hR
  go_enter Tryz.func19, Tryz.ntmps19
  go_wp2_with fail
  go_loopw [5] (fun i wr => ∃ k : Nat, k ≤ l.length ∧ i = .int .i64 k ∧ (∀ j, j < k → l[j]? = m[j]?) ∧ Below w.heap.size w wr) (fun i _ => l.length - (intOf i).toNat)
  case atStart => exact ⟨0, by omega, rfl, fun j h => by omega, Below.refl _ _⟩
  case round =>
    obtain ⟨k, hk, rfl, hnk, hbw⟩ := hrel
    have HN := Lib.hid hnk
    have HW := Lib.hid hbw
    clear hnk hbw
    by_cases hlt : k < l.length
    · obtain ⟨x, hx⟩ : ∃ x, l[k]? = some x := ⟨l[k], List.getElem?_eq_getElem hlt⟩
      obtain ⟨y, hy⟩ : ∃ y, m[k]? = some y := ⟨m[k]'(by omega), List.getElem?_eq_getElem (by omega)⟩
      obtain ⟨b1, o1, hA1, hbl1, c1⟩ := atI (HA.out.below HW.out).cells hx
      obtain ⟨b2, o2, hA2, hbl2, c2⟩ := atI (HB.out.below HW.out).cells hy
      subst hA1 hA2
      have HX := Lib.hid hx
      have HY := Lib.hid hy
      have k0 : (0 : Int) ≤ (k : Int) := by omega
      have k1 : (k : Int) < (l.length : Int) := by omega
      have k2 : (k : Int) < (m.length : Int) := by omega
      clear hx hy
      by_cases hxy : x = y
      · subst hxy
        have hxb : (x != x) = false := by simp
        go_wp2_with fail
        go_region
        go_wp2
        go_roundw
        case rel =>
          refine ⟨k + 1, by omega, by go_num, fun j hj => ?_, by first | exact HW.out | exact HW.out.drew | exact La.belowN HW.out _⟩
          by_cases hjk : j = k
          · subst hjk
            rw [HX.out, HY.out]
          · exact HN.out j (by omega)
        case measure => simp [intOf]; omega
      · have hxb : (x != y) = true := by simpa using hxy
        have HE : Hid (false = R) := Lib.hid (by
          rw [← HR.out]
          symm
          refine decide_eq_false (fun e => hxy ?_)
          have h1 := HX.out
          rw [e, HY.out] at h1
          exact (Option.some.inj h1).symm)
        go_wp2_with fail
        go_region
        go_wp2
        go_ret
        exact ⟨La.retB HE.out, by first | exact HW.out | exact HW.out.drew | exact La.belowN HW.out _⟩
    · obtain rfl : k = l.length := by omega
      have HE : Hid (true = R) := Lib.hid (by
        rw [← HR.out]
        symm
        refine decide_eq_true (List.ext_getElem? fun j => ?_)
        by_cases hj : j < l.length
        · exact HN.out j hj
        · rw [List.getElem?_eq_none (by omega), List.getElem?_eq_none (by omega)])
      go_wp2
      go_ret
      exact ⟨La.retB HE.out, HW.out⟩

/-- Numbers that can be copied. -/
structure NumsIn (w : World) (P : Option Addr) (cp : Nat) (l : List Int) : Prop where
  ints : IntsAt w P cp l
  nil : P = none → cp = 0
  few : l.length * 8 ≤ 140737488355328
theorem NumsIn.below {w w' : World} {P : Option Addr} {cp : Nat} {l : List Int} (h : NumsIn w P cp l) (hb : Below w.heap.size w w') : NumsIn w' P cp l := ⟨h.ints.below hb, h.nil, h.few⟩
theorem NumsIn.own {w : World} {base : Nat} {A : Option Addr} {c : Nat} {l : List Int} (h : w.ownsRow base 3 1 (.slice A l.length c) l.length (intsC l)) (hl : l.length * 8 ≤ 140737488355328) : NumsIn w A c l := by
  refine ⟨IntsAt.own h, fun e => ?_, hl⟩
  subst e
  rcases h.2 with ⟨hv, _⟩ | ⟨g, cap, cur, hv, _⟩
  · simp only [Value.slice.injEq] at hv
    exact hv.2.2
  · cases hv
theorem noneI {w : World} {l : List Int} (h : La.SlAt w none (intsC l)) : l = [] := by
  cases l with
  | nil => rfl
  | cons x t =>
    obtain ⟨b, o, hA, _⟩ := atI h (k := 0) (x := x) rfl
    cases hA
set_option maxHeartbeats 1000000 in
theorem copyInts_any (P : Option Addr) (cp : Nat) (l : List Int) (w : World) (h : NumsIn w P cp l) :
    Calls Tryz.prog 13 #[.slice P l.length cp] w fun e w' => ∃ v, e = .returned v ∧ w'.ownsRow w.heap.size 3 1 v l.length (intsC l) ∧ Below w.heap.size w w' := by
  obtain ⟨i0, hi0, hz0, hz1, hz2⟩ := info_parts Qu.int_info
  have hf := h.few
  cases P with
  | none =>
    obtain rfl := noneI h.ints.cells
    obtain rfl := h.nil rfl
    clear h
    go_enter Tryz.func13, Tryz.ntmps13
    go_wp2_with (at_builtin; refine wpList_append_own_none rfl _ _ 27 rfl w.heap.size 3 i0 1 Tryz.underlying27 hi0 _ _ _ rfl (World.ownsRow_nil _ _ _ _) rfl ?_)
    go_ret
    exact ⟨_, rfl, World.ownsRow_nil _ _ _ _, Below.refl _ _⟩
  | some ad =>
    have HC := Lib.hid h.ints.cells
    clear h
    go_enter Tryz.func13, Tryz.ntmps13
    go_wp2_with (at_builtin; refine wpList_append_own _ rfl _ _ 27 rfl w.heap.size 3 i0 (.int .i64 0) 1 8 Tryz.underlying27 hi0 hz0 hz1 hz2 rfl (by decide) _ _ _ rfl (World.ownsRow_nil _ _ _ _) ad l.length cp (intsC l) rfl ?c0 ?c1 ?c2 ?c3 ?c4 ?c5 ?_)
    case c0 => simp [intsC]
    case c1 =>
      intro j u hj
      obtain ⟨b, o, hA, hc⟩ := HC.out j u hj
      cases hA
      rw [WideShapes.add_plain]
      exact hc
    case c2 =>
      intro u hu
      obtain ⟨x, _, rfl⟩ := List.mem_map.1 hu
      rfl
    case c3 => unfold maxLen; omega
    case c4 => omega
    case c5 => omega
    intro v' w2 hown' hgrow' _
    have HO := Lib.hid hown'
    have HB := Lib.hid ((Below.refl w.heap.size w).grown hgrow' (Nat.le_refl _) (fun j hj => by cases hj))
    clear hown' hgrow'
    go_wp2
    go_ret
    refine ⟨_, rfl, ?_, HB.out⟩
    have := HO.out
    first | exact this | rwa [Nat.zero_add, List.nil_append] at this

set_option maxRecDepth 100000 in
set_option maxHeartbeats 4000000 in
theorem check7_any (A B C P : Option Addr) (ca cb cc cp : Nat) (ns : List NodeD) (ps : List PodD) (os : List OwnD) (p : List Int) (w : World) (h : SnapAt w A B C ca cb cc ns ps os) (hp : IntsAt w P cp p) :
    Calls Tryz.prog 43 #[snapV A B C ca cb cc ns ps os, .slice P p.length cp] w fun e w' => e = .returned (.int .i64 (placeE ns ps os p)) ∧ Below w.heap.size w w' := by
  have H := Lib.hid h
  have HP := Lib.hid hp
  have B0 : Hid (Below w.heap.size w (w.alloc (.cells (snapC A B C ca cb cc ns ps os) 26))) := Lib.hid (below1 w _)
  have S0 : Hid (Blk (w.alloc (.cells (snapC A B C ca cb cc ns ps os) 26)) w.heap.size (snapC A B C ca cb cc ns ps os) 26) := Lib.hid (Blk.new w _ _)
  have hlp := H.out.lp
  have hln := H.out.ln
  have KC := Lib.hid (check5_any A B C ca cb cc ns ps os (w.alloc (.cells (snapC A B C ca cb cc ns ps os) 26)) (H.out.below B0.out))
  have E : Hid (placeE ns ps os p = if checkS ns ps os = 0 then (if p.length = ps.length then (if p.all (okB ns) then 0 else 2) else 2) else checkS ns ps os) := Lib.hid rfl
  generalize placeE ns ps os p = R at E ⊢
  generalize checkS ns ps os = v0 at KC E
  clear h hp
  have hlt0 : w.heap.size < (w.alloc (.cells (snapC A B C ca cb cc ns ps os) 26)).heap.size := Blk.lt S0.out
  go_enter Tryz.func43, Tryz.ntmps43
  go_wp2_with fail
  refine (KC.out).mono ?_
  rintro e w1 ⟨rfl, hb⟩
  clear KC
  have S1 := Lib.hid (S0.out.below hb hlt0)
  have B1 := Lib.hid (B0.out.trans (hb.mono (Nat.le_of_lt hlt0)))
  clear hb
  have hl1 := Blk.lt S1.out
  have s0 : w1.cell? ⟨w.heap.size, 0, none⟩ = some (.slice A ns.length ca) := Blk.cell S1.out 0
  have s1 : w1.cell? ⟨w.heap.size, 1, none⟩ = some (.slice B ps.length cb) := Blk.cell S1.out 1
  have s2 : w1.cell? ⟨w.heap.size, 2, none⟩ = some (.slice C os.length cc) := Blk.cell S1.out 2
  by_cases hv : v0 = 0
  case neg =>
    have HE : Hid (R = v0) := Lib.hid (by rw [E.out, if_neg hv])
    have hvb : (v0 == 0) = false := by simpa using hv
    have hvc : (v0 != 0) = true := by simpa using hv
    go_wp2
    go_ret
    exact ⟨La.retI HE.out.symm, B1.out⟩
  subst hv
  by_cases hn : p.length = ps.length
  case neg =>
    have HE : Hid (R = 2) := Lib.hid (by rw [E.out, if_pos rfl, if_neg hn])
    have hnb : ((p.length : Int) == (ps.length : Int)) = false := by simp; omega
    have hnc : ((p.length : Int) != (ps.length : Int)) = true := by simp; omega
    have hni : ¬ ((p.length : Int) = (ps.length : Int)) := by omega
    go_wp2
    go_ret
    exact ⟨La.retI HE.out.symm, B1.out⟩
  have E2 : Hid (R = if p.all (okB ns) then 0 else 2) := Lib.hid (by rw [E.out, if_pos rfl, if_pos hn])
  have hnb : ((p.length : Int) == (ps.length : Int)) = true := by simp; omega
  have hnc : ((p.length : Int) != (ps.length : Int)) = false := by simp; omega
  have hni : (p.length : Int) = (ps.length : Int) := by omega
  clear E
  go_wp2_with fail
  go_loopw [6] (fun i wr => ∃ k : Nat, k ≤ ps.length ∧ i = .int .i64 k ∧ (∀ j x, j < k → p[j]? = some x → okB ns x = true) ∧ Below w.heap.size w wr ∧ Blk wr w.heap.size (snapC A B C ca cb cc ns ps os) 26) (fun i _ => ps.length - (intOf i).toNat)
  case atStart => exact ⟨0, by omega, rfl, fun j x h => by omega, B1.out, S1.out⟩
  case round =>
    clear s0 s1 s2 B1 S1 hl1
    obtain ⟨k, hk, rfl, hnk, hb, hsk⟩ := hrel
    have HN := Lib.hid hnk
    have HB := Lib.hid hb
    have HS := Lib.hid hsk
    clear hnk hb hsk
    have s0 : wr.cell? ⟨w.heap.size, 0, none⟩ = some (.slice A ns.length ca) := Blk.cell HS.out 0
    by_cases hlt : k < ps.length
    · obtain ⟨x, hx⟩ : ∃ x, p[k]? = some x := ⟨p[k]'(by omega), List.getElem?_eq_getElem (by omega)⟩
      obtain ⟨b, o, hA, hbl, c0⟩ := atI (HP.out.below HB.out).cells hx
      subst hA
      have HX := Lib.hid hx
      have k0 : (0 : Int) ≤ (k : Int) := by omega
      have k1 : (k : Int) < (ps.length : Int) := by omega
      have k2 : (k : Int) < (p.length : Int) := by omega
      clear hx
      obtain ⟨ok, hok⟩ : ∃ ok, okB ns x = ok := ⟨_, rfl⟩
      have Hok := Lib.hid hok
      clear hok
      go_upto_region 9 with fail
      go_cut [56] (fun v wc => v = .bool (!ok) ∧ ∃ n, wc = wr.drewN n)
      case first =>
        by_cases h1 : x < -1
        · have HE : Hid (ok = false) := Lib.hid (by
            rw [← Hok.out]
            unfold okB tpB
            rw [decide_eq_false (by omega), decide_eq_false (show ¬ 0 ≤ x by omega)]
            rfl)
          have h1b : decide (x < -1) = true := decide_eq_true h1
          go_quiet (fail)
          go_wp2
          go_meet
          exact ⟨by rw [HE.out]; rfl, _, rfl⟩
        have h1b : decide (x < -1) = false := decide_eq_false h1
        by_cases h2 : (ns.length : Int) ≤ x
        · have HE : Hid (ok = false) := Lib.hid (by
            rw [← Hok.out]
            unfold okB tpB
            rw [decide_eq_false (show ¬ x = -1 by omega), List.getElem?_eq_none (by omega)]
            simp)
          have h2b : decide ((ns.length : Int) ≤ x) = true := decide_eq_true h2
          go_quiet (fail)
          go_wp2
          go_meet
          exact ⟨by rw [HE.out]; rfl, _, rfl⟩
        have h2b : decide ((ns.length : Int) ≤ x) = false := decide_eq_false h2
        by_cases h3 : 0 ≤ x
        · obtain ⟨n, rfl⟩ : ∃ n : Nat, x = (n : Int) := ⟨x.toNat, by omega⟩
          have hnl : n < ns.length := by omega
          obtain ⟨y, hy⟩ : ∃ y, ns[n]? = some y := ⟨ns[n], List.getElem?_eq_getElem hnl⟩
          obtain ⟨b1, o1, hA1, hbl1, d0, d1, d2, d3, d4, d5, d6, d7, d8, d9⟩ := atN (H.out.below HB.out).n.cells hy
          subst hA1
          have HE : Hid (ok = !y.lost) := Lib.hid (by
            rw [← Hok.out]
            unfold okB tpB
            rw [decide_eq_false (show ¬ (n : Int) = -1 by omega), decide_eq_true h3, Int.toNat_natCast, hy]
            simp)
          have n0 : (0 : Int) ≤ (n : Int) := by omega
          have n1 : (n : Int) < (ns.length : Int) := by omega
          have n2 : ¬ ns.length ≤ n := by omega
          have n3 : decide (ns.length ≤ n) = false := decide_eq_false n2
          clear hy d0 d1 d2 d3 d4 d5 d6 d7 d8
          go_quiet (fail)
          go_wp2
          go_meet
          exact ⟨by rw [HE.out, Bool.not_not], _, rfl⟩
        · obtain rfl : x = -1 := by omega
          have HE : Hid (ok = true) := Lib.hid (by rw [← Hok.out]; rfl)
          go_quiet (fail)
          go_wp2
          go_meet
          exact ⟨by rw [HE.out]; rfl, _, rfl⟩
      case rest =>
        obtain ⟨rfl, n, rfl⟩ := hcut
        cases ok
        · have HE : Hid (2 = R) := Lib.hid (by
            rw [E2.out, if_neg]
            rw [List.all_eq_true]
            intro hall
            have := hall x (List.mem_of_getElem? HX.out)
            rw [Hok.out] at this
            cases this)
          go_wp2
          go_ret
          exact ⟨La.retI HE.out, belowN HB.out _⟩
        · go_wp2
          go_roundw
          case rel =>
            refine ⟨k + 1, by omega, by go_num, fun j y hj hy => ?_, belowN HB.out _, Blk.drewN HS.out _⟩
            by_cases hjk : j = k
            · subst hjk
              rw [HX.out] at hy
              cases hy
              exact Hok.out
            · exact HN.out j y (by omega) hy
          case measure => simp [intOf]; omega
    · obtain rfl : k = ps.length := by omega
      have HE : Hid (0 = R) := Lib.hid (by
        rw [E2.out, if_pos]
        rw [List.all_eq_true]
        intro y hy
        obtain ⟨j, hj⟩ := List.mem_iff_getElem?.1 hy
        refine HN.out j y ?_ hj
        have := (List.getElem?_eq_some_iff.1 hj).1
        omega)
      go_wp2
      go_ret
      exact ⟨La.retI HE.out, HB.out⟩
end Go.Proofs.YtfpbdfagcfdbbaaGreat

namespace Go.Proofs.YtfpbdfagcfdbbaaGreat
open Go.ChangeShapes Go.WideShapes Go.ChangeAt Go.RowKit

theorem own : ownKnob Tryz.prog.godebug = none := by kernel_rfl
theorem laidOut : laidOutB Tryz.prog = true := by kernel_rfl

theorem all_stay {H : Type} {enc : TypeId × Value → H} {P : Program} (hl : laidOutB P = true) {W W' : World} (hb : Below W.heap.size W W') :
    ∀ {ts : List TypeId} {vs : List Value} {ds : List (DataW H)} {ps : List MemPlace}, (∀ t ∈ ts, P.readableRec t = true ∧ t < P.types.size) → (∀ x ∈ ps, x.block < W.heap.size) →
      DataW.TrodAll enc P W 0 (fun _ => true) true ts vs ds ps → DataW.TrodAll enc P W' 0 (fun b => decide (b < W.heap.size)) true ts vs ds ps
  | [], vs, ds, ps, _, _, h => by
    obtain ⟨rfl, rfl, rfl⟩ := trodAll_nil h
    exact trodAll_mk0
  | t :: ts, vs, ds, ps, hr, hlt, h => by
    obtain ⟨v, vs', d, ds', p, q, rfl, rfl, rfl, h0, h1⟩ := trodAll_cons h
    refine trodAll_cons_mk (Below.trod hl (hr t (by simp)).1 (hr t (by simp)).2 h0 hb (fun x hx => hlt x (by simp [hx]))) (all_stay hl hb (fun t' ht' => hr t' (by simp [ht'])) (fun x hx => hlt x (by simp [hx])) h1)

/-- The last step of each law. -/
theorem law_post {H : Type} {enc : TypeId × Value → H} {f : Func} {s : ChangeSpec} {W W' : World} {args : Array Value} {ds gs : List (DataW H)} {before : List MemPlace}
    (hW : DataW.Whole enc Tryz.prog f.params.toList s.vars false W args.toList ds gs before) (hv : s.vars = [])
    (hfn : ∀ x : List (DataW H), x.length = f.params.toList.length → s.fn H x = { results := [.lit (.bool true)], args := x })
    (hres : f.resultTypes = #[4]) (hr : ∀ t ∈ f.params.toList, Tryz.prog.readableRec t = true ∧ t < Tryz.prog.types.size) (hb : Below W.heap.size W W') :
    s.post enc Tryz.prog f false true false false W args (.bool true) W' := by
  have hW' := hW
  have hlt : ∀ p ∈ before, p.block < W.heap.size := fun p hp => hW.lt p hp
  obtain ⟨p, q, hA, hV, rfl, _, _⟩ := hW
  rw [hv] at hV
  obtain ⟨rfl, rfl⟩ := trodVars_none hV
  have hlen : ∀ {ts : List TypeId} {vs : List Value} {es : List (DataW H)} {ps : List MemPlace}, DataW.TrodAll enc Tryz.prog W 0 (fun _ => true) true ts vs es ps → es.length = ts.length := by
    intro ts
    induction ts with
    | nil => intro vs es ps h; obtain ⟨_, rfl, _⟩ := trodAll_nil h; rfl
    | cons t ts ih =>
      intro vs es ps h
      obtain ⟨v, vs', d, ds', p, q, rfl, rfl, rfl, _, h1⟩ := trodAll_cons h
      simp [ih h1]
  have hf := hfn (ds ++ []) (by simpa using hlen hA)
  refine ⟨ds, [], p ++ [], [], p, [], hW', ?_, ?_, ?_, hb.frame _, fun h => by cases h⟩
  · rw [hf, hres]
    exact trodAll_cons_mk (shut_bool Tryz.underlying4 _) trodAll_mk0
  · rw [hf]
    simpa using all_stay laidOut hb hr (fun x hx => hlt x (by simp [hx])) hA
  · rw [hf, hv]
    rfl

/-- A world for the witnesses. -/
noncomputable def restWorld (os : Os) : World := World.holding Tryz.prog os ⟨#[], #[], []⟩

end Go.Proofs.YtfpbdfagcfdbbaaGreat

namespace Go.Proofs.YtfpbdfagcfdbbaaGreat
open Go.RowKit Go.Shelf
attribute [local go_sem] Oper.semAt_some

/-- All that lay below n₀ lies as it lay, and so does each block of cells but those named. -/
def KeepU (n₀ : Nat) (us : List Nat) (W W' : World) : Prop := Below n₀ W W' ∧ ∀ (b : Nat) (cs : Array Value) (t : TypeId), b ∉ us → Blk W b cs t → Blk W' b cs t
theorem KeepU.refl (n₀ : Nat) (us : List Nat) (W : World) : KeepU n₀ us W W := ⟨Below.refl _ _, fun _ _ _ _ h => h⟩
theorem KeepU.trans {n₀ : Nat} {us : List Nat} {A B C : World} (h : KeepU n₀ us A B) (k : KeepU n₀ us B C) : KeepU n₀ us A C := ⟨h.1.trans k.1, fun b cs t hb h1 => k.2 b cs t hb (h.2 b cs t hb h1)⟩
theorem KeepU.below {n₀ : Nat} {us : List Nat} {A B : World} (h : Below A.heap.size A B) (hn : n₀ ≤ A.heap.size) : KeepU n₀ us A B := ⟨h.mono hn, fun _ _ _ _ h1 => h1.below h h1.lt⟩
theorem KeepU.set {n₀ : Nat} {us : List Nat} (A : World) {u : Nat} (hu : u ∈ us) (hn : n₀ ≤ u) (i : Nat) (v : Value) : KeepU n₀ us A (A.setCell ⟨u, i, none⟩ v) :=
  ⟨(Below.refl _ _).setCell (p := ⟨u, i, none⟩) hn v, fun _ _ _ hb h1 => h1.oth (fun e => hb (e ▸ hu)) i v⟩
theorem keepU_t {n₀ : Nat} {us : List Nat} : ∀ {A B C : World}, KeepU n₀ us A B → KeepU n₀ us B C → KeepU n₀ us A C := fun h k => h.trans k
theorem blk_nc {w w' : World} {b : Nat} {cs : Array Value} {t : TypeId} {row : Option Nat} (h : Blk w b cs t) (hg : w.grownBy w' row) (hr : ∀ r, row = some r → ∃ o : Obj, w.heap[r]? = some o ∧ o.isCells = false) : Blk w' b cs t :=
  Blk.kept h hg (fun e => by
    obtain ⟨o, ho, hc⟩ := hr b e.symm
    unfold Blk at h
    rw [h] at ho
    cases ho
    cases hc)
theorem keepU_b {n₀ : Nat} {us : List Nat} {w : World} (hB : n₀ ≤ w.heap.size) : ∀ (W : World) (l : Nat) (o o' : Obj), w.heap.size ≤ l → W.heap[l]? = some o → o.isCells = false → o.isWalk = false → KeepU n₀ us W (W.putObj l o') := fun W l o o' hl ho hc hw =>
  ⟨belowK_b (w := w) hB W l o o' hl ho hc hw, fun b cs t _ h1 => blk_nc h1 (grownBy_putObj' W l o') (fun r e => by cases e; exact ⟨o, ho, hc⟩)⟩

/-- The places below k at which that number stands. -/
def onU (p : List Int) (node : Int) : Nat → List Nat
  | 0 => []
  | k + 1 => onU p node k ++ (if p[k]? = some node then [k] else [])
theorem onU_len (p : List Int) (node : Int) : ∀ k, (onU p node k).length ≤ k
  | 0 => Nat.le_refl _
  | k + 1 => by
    have := onU_len p node k
    rw [onU, List.length_append]
    split <;> simp <;> omega
/-- A place at which that number stands. -/
abbrev AtNo (p : List Int) (node : Int) := { k : Nat // p[k]? = some node }

end Go.Proofs.YtfpbdfagcfdbbaaGreat

namespace Go.Proofs.YtfpbdfagcfdbbaaGreat
open Go.RowKit Go.Shelf
attribute [local go_sem] Oper.semAt_some

/-- A pod that does not wait. -/
abbrev OffNo (p : List Int) := { k : Nat // ∃ x : Int, p[k]? = some x ∧ x ≠ -1 }
/-- Those of a list of places whose pods do not wait. -/
def offL (p : List Int) (M : List Int) : List Nat := (M.map Int.toNat).filter (fun k => decide (p[k]? ≠ some (-1)))
theorem offL_len (p M : List Int) : (offL p M).length ≤ M.length := by
  unfold offL
  exact Nat.le_trans (List.length_filter_le _ _) (by simp)
theorem offL_step (p M : List Int) (k m : Nat) (h : M[k]? = some (m : Int)) : offL p (M.take (k + 1)) = offL p (M.take k) ++ (if p[m]? = some (-1) then [] else [m]) := by
  have h1 : M.take (k + 1) = M.take k ++ [(m : Int)] := by
    obtain ⟨hk, he⟩ := List.getElem?_eq_some_iff.1 h
    rw [List.take_succ_eq_append_getElem hk, he]
  unfold offL
  rw [h1, List.map_append, List.filter_append]
  congr 1
  by_cases hq : p[m]? = some (-1)
  · simp [hq]
  · simp [hq]

theorem membersU_mem (ps : List PodD) (name : List UInt8) : ∀ (k : Nat) (y : Int), y ∈ membersU ps name k → ∃ m : Nat, y = (m : Int) ∧ m < k ∧ ∃ x, ps[m]? = some x ∧ x.owner = name
  | 0, y, h => by simp [membersU] at h
  | k + 1, y, h => by
    rw [membersU, List.mem_append] at h
    rcases h with h | h
    · obtain ⟨m, h1, h2, h3⟩ := membersU_mem ps name k y h
      exact ⟨m, h1, by omega, h3⟩
    · cases hx : ps[k]? with
      | none => rw [hx] at h; simp at h
      | some x =>
        rw [hx] at h
        dsimp only at h
        by_cases hn : x.owner = name
        · rw [if_pos hn] at h
          simp at h
          exact ⟨k, h, by omega, x, hx, hn⟩
        · rw [if_neg hn] at h
          simp at h
theorem own_blk {w : World} {base : Nat} {e : TypeId} {A : Option Addr} {c n : Nat} {xs : List Value} (h : w.ownsRow base e 1 (.slice A n c) n xs) {k : Nat} {y : Value} (hk : xs[k]? = some y) :
    ∃ g cur, A = some ⟨g, 0, none⟩ ∧ base ≤ g ∧ Blk w g cur e ∧ cur[k]? = some y := by
  have hlt := (List.getElem?_eq_some_iff.1 hk).1
  obtain ⟨hl, h1 | ⟨g, cap, cur, hv, hb, hg, h1, h2, h3, h4⟩⟩ := h
  · omega
  · cases hv
    refine ⟨g, cur, rfl, hb, hg, ?_⟩
    rw [← h4, List.getElem?_take, if_pos (by omega)] at hk
    simpa using hk

set_option maxRecDepth 100000 in
set_option maxHeartbeats 2000000 in
theorem of1_in (n : Nat) (hn : 1 ≤ n) (l Bs Bo Bp n₀ ca cb cc cp : Nat) (us : List Nat) (A B C P : Option Addr) (ns : List NodeD) (ps : List PodD) (os : List OwnD) (p : List Int) (ko : Nat) (xo : OwnD) (hxo : os[ko]? = some xo) (hpl : p.length = ps.length) (J Jx : List (OffNo p) → World → Prop)
    (hY : ∀ pre (x : OffNo p) W, J pre W → pre.length < p.length → YieldAt Fence.wide (n - 1) Tryz.prog l #[.int .i64 (x.1 : Int)] W fun e W' =>
      (e = .returned (.bool true) ∧ J (pre ++ [x]) W' ∧ KeepU n₀ us W W') ∨ (e = .returned (.bool false) ∧ Jx (pre ++ [x]) W'))
    (W : World) (hJ : AbidesFrom W.heap.size J) (hBs : Blk W Bs (snapC A B C ca cb cc ns ps os) 26) (hBo : Blk W Bo #[.int .i64 (ko : Int)] 3) (hBp : Blk W Bp #[.slice P p.length cp] 27) (husp : Bp ∉ us) (hus : ∀ u ∈ us, u < W.heap.size)
    (hs : SnapAt W A B C ca cb cc ns ps os)
    (hp : ∀ k x, p[k]? = some x → ∃ b o, P = some ⟨b, o, none⟩ ∧ b < n₀ ∧ W.cell? ⟨b, o + k, none⟩ = some (.int .i64 x)) (hn₀ : n₀ ≤ W.heap.size) (h0 : J [] W) :
    CallsIn Fence.wide n Tryz.prog 182 #[.func (.yield l) #[] #[], .pointer (some ⟨Bs, 0, none⟩), .pointer (some ⟨Bo, 0, none⟩), .pointer (some ⟨Bp, 0, none⟩)] W fun e W' => (∃ v, e = .returned v) ∧
      ((∃ ys : List (OffNo p), ys.map (·.1) = offL p (membersF ps xo.name) ∧ J ys W') ∨ (∃ pre : List (OffNo p), True ∧ Jx pre W')) := by
  have KM := Lib.hid ((callsIn_wide (n := n - 1)).2 (members_any A B C ca cb cc ns ps os ko xo W hs hxo))
  have HBp := Lib.hid hBp
  have HP := Lib.hid hp
  have hlp := hs.lp
  have s0 : W.cell? ⟨Bs, 0, none⟩ = some (.slice A ns.length ca) := Blk.cell hBs 0
  have s1 : W.cell? ⟨Bs, 1, none⟩ = some (.slice B ps.length cb) := Blk.cell hBs 1
  have s2 : W.cell? ⟨Bs, 2, none⟩ = some (.slice C os.length cc) := Blk.cell hBs 2
  have b0 : W.cell? ⟨Bo, 0, none⟩ = some (.int .i64 (ko : Int)) := Blk.cell hBo 0
  have HM : Hid (∀ k y, (membersF ps xo.name)[k]? = some y → ∃ m : Nat, y = (m : Int) ∧ m < p.length) := Lib.hid (fun k y h => by
    obtain ⟨m, h1, h2, _⟩ := membersU_mem ps xo.name _ y (List.mem_of_getElem? h)
    exact ⟨m, h1, by omega⟩)
  have hML : (membersF ps xo.name).length ≤ p.length := by rw [hpl]; exact membersU_len ps xo.name _
  clear hBp hp hs hBs hBo
  generalize membersF ps xo.name = M at KM HM hML ⊢
  refine callsIn_of_wp Tryz.func182 rfl trivial ?_ rfl
  simp only [Tryz.ntmps182, List.size_toArray, List.length_cons, List.length_nil, Nat.reduceAdd, Nat.reduceSub, Array.replicate_succ, Array.replicate_zero, List.push_toArray, List.append_toArray, List.nil_append, List.cons_append]
  gi_wp2_with fail
  refine ⟨trivial, ?_⟩
  refine (KM.out).mono ?_
  rintro e W1 ⟨v, rfl, ho, hb⟩
  clear KM
  obtain ⟨A1, c1, rfl, hcm⟩ := La.own_slice ho
  have HO := Lib.hid ho
  have HB := Lib.hid hb
  have HP1 : Hid (Blk W1 Bp #[.slice P p.length cp] 27) := Lib.hid (HBp.out.below hb HBp.out.lt)
  have HJ1 : Hid (J [] W1) := Lib.hid (hJ [] W W1 none h0 (grown_of_below hb none) (fun r e => by cases e))
  clear s0 s1 s2 b0 ho hb hJ h0
  gi_wp2
  gi_loopw [11] (fun i wr => ∃ (k : Nat) (pre : List (OffNo p)), k ≤ M.length ∧ i = .int .i64 k ∧ pre.map (·.1) = offL p (M.take k) ∧ J pre wr ∧ KeepU n₀ us W1 wr) (fun i _ => M.length - (intOf i).toNat)
  case atStart => exact ⟨0, [], Nat.zero_le _, rfl, rfl, HJ1.out, KeepU.refl _ _ _⟩
  case round =>
    obtain ⟨k, pre, hk, rfl, hpre, hJs, hnx⟩ := hrel
    by_cases hlt : k < M.length
    · obtain ⟨y, hy⟩ : ∃ y, M[k]? = some y := ⟨M[k], List.getElem?_eq_getElem hlt⟩
      obtain ⟨m, rfl, hm⟩ := HM.out k y hy
      obtain ⟨g, cur, hA1, hg, hgb, hgc⟩ := own_blk HO.out (k := k) (y := .int .i64 (m : Int)) (by simp [intsC, hy])
      subst hA1
      have hgu : g ∉ us := fun h => by have := hus g h; omega
      have hc1 : wr.cell? ⟨g, k, none⟩ = some (.int .i64 (m : Int)) := (Blk.cell (hnx.2 g _ _ hgu hgb) k).trans hgc
      obtain ⟨x, hx⟩ : ∃ x, p[m]? = some x := ⟨p[m], List.getElem?_eq_getElem hm⟩
      obtain ⟨b, o, hA, hb, hc⟩ := HP.out m x hx
      subst hA
      have hpp : wr.cell? ⟨Bp, 0, none⟩ = some (.slice (some ⟨b, o, none⟩) p.length cp) := Blk.cell (hnx.2 Bp _ _ husp HP1.out) 0
      have hcx : wr.cell? ⟨b, o + m, none⟩ = some (.int .i64 x) := (hnx.1.cell (p := ⟨b, o + m, none⟩) hb).trans ((HB.out.cell (p := ⟨b, o + m, none⟩) (Nat.lt_of_lt_of_le hb hn₀)).trans hc)
      have k0 : (0 : Int) ≤ (k : Int) := by omega
      have k1 : (k : Int) < (M.length : Int) := by omega
      have m0 : (0 : Int) ≤ (m : Int) := by omega
      have m1 : (m : Int) < (p.length : Int) := by omega
      have hlen : pre.length < p.length := by
        have h1 := offL_len p (M.take k)
        have h2 : pre.length = (offL p (M.take k)).length := by rw [← hpre, List.length_map]
        have h3 : (M.take k).length = k := by rw [List.length_take]; omega
        omega
      have hstep := offL_step p M k m hy
      by_cases hxn : x = -1
      · subst hxn
        rw [if_pos hx, List.append_nil] at hstep
        have hxb : ((-1 : Int) != -1) = false := by decide
        gi_wp2
        refine ⟨fun _ h => (by cases h), ?_⟩
        gi_wp2
        go_roundw
        case rel => exact ⟨k + 1, pre, by omega, by go_num, by rw [hstep, hpre], hJs, hnx⟩
        case measure => simp [intOf]; omega
      · have hxb : (x != -1) = true := by simpa using hxn
        rw [if_neg (by rw [hx]; simpa using hxn)] at hstep
        obtain ⟨fn, tmps, assign, body, hy, hR⟩ := hY pre ⟨m, x, hx, hxn⟩ wr hJs hlen
        dsimp only at hy
        gi_wp2
        refine hR.mono ?_
        rintro e W3 (⟨rfl, hJ3, hk3⟩ | ⟨rfl, hJx3⟩)
        · gi_wp2
          go_roundw
          case rel => exact ⟨k + 1, pre ++ [⟨m, x, hx, hxn⟩], by omega, by go_num, by rw [hstep, List.map_append, hpre]; rfl, hJ3, hnx.trans hk3⟩
          case measure => simp [intOf]; omega
        · gi_wp2
          refine bodyPost_ret (results_none rfl _ _ _) rfl ?_
          exact ⟨⟨_, rfl⟩, .inr ⟨pre ++ [⟨m, x, hx, hxn⟩], trivial, hJx3⟩⟩
    · obtain rfl : k = M.length := by omega
      rw [List.take_length] at hpre
      gi_wp2
      go_end0
      exact ⟨⟨_, rfl⟩, .inl ⟨pre, hpre, hJs⟩⟩

set_option maxHeartbeats 1000000 in
theorem of_any (n : Nat) (A B C P : Option Addr) (ca cb cc cp : Nat) (ns : List NodeD) (ps : List PodD) (os : List OwnD) (len : Nat) (ko : Int) (w : World) :
    CallsIn Fence.wide n Tryz.prog 150 #[snapV A B C ca cb cc ns ps os, .slice P len cp, .int .i64 ko] w fun e w' => e = .returned (.func (.func 182) #[] #[.pointer (some ⟨w.heap.size, 0, none⟩), .pointer (some ⟨w.heap.size + 1 + 1, 0, none⟩), .pointer (some ⟨w.heap.size + 1, 0, none⟩)]) ∧ w' = ((w.alloc (.cells (snapC A B C ca cb cc ns ps os) 26)).alloc (.cells #[.slice P len cp] 27)).alloc (.cells #[.int .i64 ko] 3) := by
  refine callsIn_of_wp Tryz.func150 rfl trivial ?_ rfl
  simp only [Tryz.ntmps150, List.size_toArray, List.length_cons, List.length_nil, Nat.reduceAdd, Nat.reduceSub, Array.replicate_succ, Array.replicate_zero, List.push_toArray, List.append_toArray, List.nil_append, List.cons_append]
  gi_wp2
  go_ret
  exact ⟨rfl, rfl⟩

theorem of_stops (n : Nat) (hn : 1 ≤ n) (Bs Bo Bp n₀ ca cb cc cp : Nat) (us : List Nat) (A B C P : Option Addr) (ns : List NodeD) (ps : List PodD) (os : List OwnD) (p : List Int) (ko : Nat) (xo : OwnD) (hxo : os[ko]? = some xo) (hpl : p.length = ps.length) (w : World) (hn₀ : n₀ ≤ w.heap.size)
    (hBs : Blk w Bs (snapC A B C ca cb cc ns ps os) 26) (hBo : Blk w Bo #[.int .i64 (ko : Int)] 3) (hBp : Blk w Bp #[.slice P p.length cp] 27) (husp : Bp ∉ us) (hus : ∀ u ∈ us, u < w.heap.size)
    (hs : SnapAt w A B C ca cb cc ns ps os)
    (hp : ∀ k x, p[k]? = some x → ∃ b o, P = some ⟨b, o, none⟩ ∧ b < n₀ ∧ w.cell? ⟨b, o + k, none⟩ = some (.int .i64 x)) :
    SeqStopsK Fence.wide n Tryz.prog 182 #[.pointer (some ⟨Bs, 0, none⟩), .pointer (some ⟨Bo, 0, none⟩), .pointer (some ⟨Bp, 0, none⟩)] (fun x : OffNo p => #[Value.int .i64 (x.1 : Int)]) (KeepU n₀ us) (fun ys => ys.map (·.1) = offL p (membersF ps xo.name)) (fun _ => True) p.length w := fun l J Jx W hW hJ _ hY h0 => by
  refine of1_in n hn l Bs Bo Bp n₀ ca cb cc cp us A B C P ns ps os p ko xo hxo hpl J Jx hY W hJ (hBs.below hW hBs.lt) (hBo.below hW hBo.lt) (hBp.below hW hBp.lt) husp (fun u hu => Nat.lt_of_lt_of_le (hus u hu) hW.size) (hs.below hW) ?_ (Nat.le_trans hn₀ hW.size) h0
  intro k x hx
  obtain ⟨b, o, hA, hb, hc⟩ := hp k x hx
  exact ⟨b, o, hA, hb, (hW.cell (p := ⟨b, o + k, none⟩) (Nat.lt_of_lt_of_le hb hn₀)).trans hc⟩

abbrev ofWorld (W : World) (A B C P : Option Addr) (ca cb cc cp : Nat) (ns : List NodeD) (ps : List PodD) (os : List OwnD) (len : Nat) (ko : Int) : World := ((W.alloc (.cells (snapC A B C ca cb cc ns ps os) 26)).alloc (.cells #[.slice P len cp] 27)).alloc (.cells #[.int .i64 ko] 3)
theorem of_at (n : Nat) (hn : 1 ≤ n) (ca cb cc cp : Nat) (us : List Nat) (A B C P : Option Addr) (ns : List NodeD) (ps : List PodD) (os : List OwnD) (p : List Int) (ko : Nat) (xo : OwnD) (hxo : os[ko]? = some xo) (hpl : p.length = ps.length) (w W : World) (hB : Below w.heap.size w W)
    (hs : SnapAt w A B C ca cb cc ns ps os) (hp : IntsAt w P cp p) (hus : ∀ u ∈ us, u < W.heap.size) :
    SeqStopsK Fence.wide n Tryz.prog 182 #[.pointer (some ⟨W.heap.size, 0, none⟩), .pointer (some ⟨W.heap.size + 1 + 1, 0, none⟩), .pointer (some ⟨W.heap.size + 1, 0, none⟩)] (fun x : OffNo p => #[Value.int .i64 (x.1 : Int)]) (KeepU w.heap.size us) (fun ys => ys.map (·.1) = offL p (membersF ps xo.name)) (fun _ => True) p.length (ofWorld W A B C P ca cb cc cp ns ps os p.length (ko : Int)) := by
  have hb : Below W.heap.size W (ofWorld W A B C P ca cb cc cp ns ps os p.length (ko : Int)) := (Qu.below2 W _ _).alloc (by simp; omega) _
  have hsz : (ofWorld W A B C P ca cb cc cp ns ps os p.length (ko : Int)).heap.size = W.heap.size + 3 := by simp [ofWorld]
  have hbw := hB.trans (hb.mono hB.size)
  refine of_stops n hn W.heap.size (W.heap.size + 1 + 1) (W.heap.size + 1) w.heap.size ca cb cc cp us A B C P ns ps os p ko xo hxo hpl _ hbw.size ?_ ?_ ?_ ?_ ?_ (hs.below hbw) ?_
  · exact Blk.alloc (Blk.alloc (Blk.new W _ _) _) _
  · have := Blk.new ((W.alloc (.cells (snapC A B C ca cb cc ns ps os) 26)).alloc (.cells #[.slice P p.length cp] 27)) #[.int .i64 (ko : Int)] 3
    rwa [World.size_alloc, World.size_alloc] at this
  · exact Blk.alloc (blk2 W (.cells (snapC A B C ca cb cc ns ps os) 26) #[.slice P p.length cp] 27) _
  · intro h
    have := hus _ h
    omega
  · intro u hu
    have := hus u hu
    omega
  · intro k x hx
    obtain ⟨b, o, hA, hb0, _⟩ := atI hp.cells hx
    obtain ⟨b', o', hA', _, hc⟩ := atI (hp.below hbw).cells hx
    rw [hA] at hA'
    cases hA'
    exact ⟨b, o, hA, hb0, hc⟩
end Go.Proofs.YtfpbdfagcfdbbaaGreat

namespace Go.Proofs.YtfpbdfagcfdbbaaGreat
open Go.RowKit Go.Shelf
attribute [local go_sem] Oper.semAt_some

/-- What pods ask for together, as a machine adds. -/
def addW (ps : List PodD) (ys : List Nat) (k : Nat) : Int := ys.foldl (fun a y => wrap64 (a + (match ps[y]? with | some x => x.req k | none => 0))) 0
/-- What Used tells. -/
def usedF (ns : List NodeD) (ps : List PodD) (os : List OwnD) (p : List Int) (node : Int) (k : Nat) : Int :=
  if placeE ns ps os p = 0 ∧ 0 ≤ node ∧ node < (ns.length : Int) then addW ps (onU p node p.length) k else 0

theorem placeE_len {ns : List NodeD} {ps : List PodD} {os : List OwnD} {p : List Int} (hE : placeE ns ps os p = 0) : p.length = ps.length := by
  unfold placeE at hE
  split at hE
  · split at hE
    · assumption
    · cases hE
  · rename_i hne
    exact absurd hE hne
abbrev zer5 : Array Value := #[.int .i64 0, .int .i64 0, .int .i64 0, .int .i64 0, .int .i64 0]
theorem blk3 (w : World) (o o' : Obj) (cs : Array Value) (t : TypeId) : Blk (((w.alloc o).alloc o').alloc (.cells cs t)) (w.heap.size + 2) cs t := by
  have := Blk.new ((w.alloc o).alloc o') cs t
  rwa [World.size_alloc, World.size_alloc] at this

/-- One pod more. -/
def addR (a r : Nat → Int) (j : Nat) (k : Nat) : Int := if k < j then wrap64 (a k + r k) else a k

end Go.Proofs.YtfpbdfagcfdbbaaGreat

namespace Go.Proofs.YtfpbdfagcfdbbaaGreat
open Go.RowKit Go.Shelf
attribute [local go_sem] Oper.semAt_some

/-- The first five of two rows are the same. -/
theorem RowAt_congr {w : World} {b : Nat} {x y : Nat → Int} (h : Qu.RowAt w b x) (he : ∀ k, k < 5 → x k = y k) : Qu.RowAt w b y := by
  unfold Qu.RowAt at h ⊢
  rw [h, he 0 (by omega), he 1 (by omega), he 2 (by omega), he 3 (by omega), he 4 (by omega)]
theorem addR_zero (a r : Nat → Int) : addR a r 0 = a := by
  funext k
  unfold addR
  rw [if_neg (by omega)]
theorem addR_at (a r : Nat → Int) (j : Nat) : addR a r j j = a j := by
  unfold addR
  rw [if_neg (by omega)]
theorem addR_step (a r : Nat → Int) (j : Nat) : Qu.upd (addR a r j) j (wrap64 (a j + r j)) = addR a r (j + 1) := by
  funext k
  unfold Qu.upd addR
  by_cases h : k = j
  · subst h
    rw [if_pos rfl, if_pos (by omega)]
  · rw [if_neg h]
    by_cases h2 : k < j
    · rw [if_pos h2, if_pos (by omega)]
    · rw [if_neg h2, if_neg (by omega)]
theorem addW_snoc (ps : List PodD) (ys : List Nat) (m : Nat) (x : PodD) (hx : ps[m]? = some x) (k : Nat) : addW ps (ys ++ [m]) k = wrap64 (addW ps ys k + x.req k) := by
  unfold addW
  rw [List.foldl_append]
  simp [hx]
theorem rowAt_nc {w w' : World} {b : Nat} {x : Nat → Int} {row : Option Nat} (h : Qu.RowAt w b x) (hg : w.grownBy w' row) (hr : ∀ r, row = some r → ∃ o : Obj, w.heap[r]? = some o ∧ o.isCells = false) : Qu.RowAt w' b x := blk_nc (cs := #[.int .i64 (x 0), .int .i64 (x 1), .int .i64 (x 2), .int .i64 (x 3), .int .i64 (x 4)]) (t := 60) h hg hr
theorem addW_nil (ps : List PodD) : addW ps [] = fun _ => 0 := rfl

end Go.Proofs.YtfpbdfagcfdbbaaGreat

namespace Go.Proofs.YtfpbdfagcfdbbaaGreat
open Go.RowKit Go.Shelf
attribute [local go_sem] Oper.semAt_some

/-- The pods of an owner that do not wait. -/
def ofF (ps : List PodD) (os : List OwnD) (p : List Int) (k : Int) : List Nat := match os[k.toNat]? with
  | some x => offL p (membersF ps x.name)
  | none => []
/-- What Placed tells. -/
def placedF (ns : List NodeD) (ps : List PodD) (os : List OwnD) (p : List Int) (k : Int) : Int := if ownerB ns ps os p k then ((ofF ps os p k).length : Int) else 0
theorem ownerB_parts {ns : List NodeD} {ps : List PodD} {os : List OwnD} {p : List Int} {k : Int} (h : ownerB ns ps os p k = true) : placeE ns ps os p = 0 ∧ ∃ (n : Nat) (x : OwnD), k = (n : Int) ∧ os[n]? = some x := by
  unfold ownerB at h
  simp only [Bool.and_eq_true, decide_eq_true_eq] at h
  obtain ⟨h1, h2, h3⟩ := h
  have hn : k.toNat < os.length := by omega
  exact ⟨h1, k.toNat, os[k.toNat], by omega, List.getElem?_eq_getElem hn⟩
set_option maxRecDepth 100000 in
set_option maxHeartbeats 2000000 in
theorem placed_any (A B C P : Option Addr) (ca cb cc cp : Nat) (ns : List NodeD) (ps : List PodD) (os : List OwnD) (p : List Int) (ko : Int) (w : World) (h : SnapAt w A B C ca cb cc ns ps os) (hp : IntsAt w P cp p) :
    Calls Tryz.prog 121 #[snapV A B C ca cb cc ns ps os, .slice P p.length cp, .int .i64 ko] w fun e w' => e = .returned (.int .i64 (placedF ns ps os p ko)) ∧ Below w.heap.size w w' := by
  have hlp := Lib.hid h.lp
  have H := Lib.hid h
  have HP := Lib.hid hp
  have B0 : Hid (Below w.heap.size w (w.alloc (.cells (snapC A B C ca cb cc ns ps os) 26))) := Lib.hid (below1 w _)
  have S0 : Hid (Blk (w.alloc (.cells (snapC A B C ca cb cc ns ps os) 26)) w.heap.size (snapC A B C ca cb cc ns ps os) 26) := Lib.hid (Blk.new w _ _)
  have KC := Lib.hid ((callsIn_wide (n := 7)).2 (isOwner_any A B C P ca cb cc cp ns ps os p ko _ (h.below B0.out) (hp.below B0.out)))
  have hl0 := Blk.lt S0.out
  have E : Hid (placedF ns ps os p ko = if ownerB ns ps os p ko then ((ofF ps os p ko).length : Int) else 0) := Lib.hid rfl
  have HOB := Lib.hid (fun h => @ownerB_parts ns ps os p ko h)
  generalize placedF ns ps os p ko = R at E ⊢
  generalize ownerB ns ps os p ko = ob at KC E HOB
  clear h hp
  refine (callsIn_wide (n := 8)).1 ?_
  refine callsIn_of_wp_marks Tryz.func121 rfl trivial ?_ rfl
  simp only [Tryz.ntmps121, List.size_toArray, List.length_cons, List.length_nil, Nat.reduceAdd, Nat.reduceSub, Array.replicate_succ, Array.replicate_zero, List.push_toArray, List.append_toArray, List.nil_append, List.cons_append]
  gi_wp2_with fail
  refine ⟨trivial, ?_⟩
  refine (KC.out).mono ?_
  rintro e w1 ⟨rfl, hb⟩
  clear KC
  have S1 := Lib.hid (S0.out.below hb (by omega))
  have B1 := Lib.hid (B0.out.trans (hb.mono (by omega)))
  clear hb S0 B0 hl0
  have s0 : w1.cell? ⟨w.heap.size, 0, none⟩ = some (.slice A ns.length ca) := Blk.cell S1.out 0
  have s1 : w1.cell? ⟨w.heap.size, 1, none⟩ = some (.slice B ps.length cb) := Blk.cell S1.out 1
  have s2 : w1.cell? ⟨w.heap.size, 2, none⟩ = some (.slice C os.length cc) := Blk.cell S1.out 2
  cases ob
  · have HE : Hid (R = 0) := Lib.hid (by rw [E.out]; rfl)
    gi_wp2
    refine ⟨_, results_tmp rfl _ _ _, ?_, B1.out⟩
    exact La.retI HE.out.symm
  obtain ⟨hE0, n, xo, rfl, hxo⟩ := HOB.out rfl
  have hpl := Lib.hid (placeE_len hE0)
  have HX := Lib.hid hxo
  clear HOB hE0 hxo
  have HE : Hid (R = ((offL p (membersF ps xo.name)).length : Int)) := Lib.hid (by rw [E.out, if_pos rfl]; unfold ofF; rw [Int.toNat_natCast, HX.out])
  clear E s0 s1 s2
  have Z1 := Lib.hid (Blk.alloc S1.out (.cells #[.int .i64 0] 3))
  have B3 := Lib.hid (B1.out.alloc B1.out.size (.cells #[.int .i64 0] 3))
  have t0 : (w1.alloc (.cells #[.int .i64 0] 3)).cell? ⟨w.heap.size, 0, none⟩ = some (.slice A ns.length ca) := Blk.cell Z1.out 0
  have t1 : (w1.alloc (.cells #[.int .i64 0] 3)).cell? ⟨w.heap.size, 1, none⟩ = some (.slice B ps.length cb) := Blk.cell Z1.out 1
  have t2 : (w1.alloc (.cells #[.int .i64 0] 3)).cell? ⟨w.heap.size, 2, none⟩ = some (.slice C os.length cc) := Blk.cell Z1.out 2
  gi_wp2_with fail
  refine ⟨trivial, ?_⟩
  refine (of_any _ A B C P ca cb cc cp ns ps os p.length (n : Int) _).mono ?_
  rintro e w3 ⟨rfl, rfl⟩
  gi_wp2_with fail
  have Q0 : Hid (Blk (ofWorld (w1.alloc (.cells #[.int .i64 0] 3)) A B C P ca cb cc cp ns ps os p.length (n : Int)) w1.heap.size #[.int .i64 0] 3) := Lib.hid (Blk.alloc (Blk.alloc (Blk.alloc (Blk.new w1 _ _) _) _) _)
  have hw1 : Hid (w.heap.size ≤ w1.heap.size) := Lib.hid B1.out.size
  have BW : Hid (Below w.heap.size w (ofWorld (w1.alloc (.cells #[.int .i64 0] 3)) A B C P ca cb cc cp ns ps os p.length (n : Int))) := Lib.hid (((B3.out.alloc B3.out.size _).alloc (by have := hw1.out; simp; omega) _).alloc (by have := hw1.out; simp; omega) _)
  have KS := Lib.hid (of_at (8 - 1) (by omega) ca cb cc cp [w1.heap.size] A B C P ns ps os p n xo HX.out hpl.out w _ B3.out H.out HP.out (by simp))
  rw [show (w1.alloc (.cells #[.int .i64 0] 3)).heap.size = w1.heap.size + 1 from World.size_alloc _ _] at KS
  clear t0 t1 t2
  change Code.wpIn _ _ _ _ _ _ (ofWorld (w1.alloc (.cells #[.int .i64 0] 3)) A B C P ca cb cc cp ns ps os p.length (n : Int))
  have hW0 : Hid (w1.heap.size < (ofWorld (w1.alloc (.cells #[.int .i64 0] 3)) A B C P ca cb cc cp ns ps os p.length (n : Int)).heap.size) := Lib.hid Q0.out.lt
  generalize ofWorld (w1.alloc (.cells #[.int .i64 0] 3)) A B C P ca cb cc cp ns ps os p.length (n : Int) = W0 at Q0 BW KS hW0 ⊢
  refine wpIn_rangeFunc_ownG (α := OffNo p) rfl (by omega) (gf := 182) rfl trivial (enters_of Tryz.func182 (by kernel_rfl) rfl)
    KS.out keepU_t (keepU_b (by have := hw1.out; have := hW0.out; omega)) (Below.refl _ _) (fun _ => rfl)
    (fun pre W => Blk W w1.heap.size #[.int .i64 (pre.length : Int)] 3 ∧ Below w.heap.size w W)
    (fun _ _ _ => False)
    (OwnFrom.and (fun s X Y row hs hg hr => blk_nc hs hg (fun r e => (hr r e).2)) (ownFrom_below (Nat.le_refl _) (by have := hw1.out; have := hW0.out; omega)))
    (fun _ _ _ _ _ hs _ _ => hs)
    ⟨Q0.out, BW.out⟩
    (fun x => { tmps := #[snapV A B C ca cb cc ns ps os, Value.slice P p.length cp, Value.int IntKind.i64 n,
          Value.pointer (some { block := w.heap.size, off := 0 }), undef, undef, Value.int IntKind.i64 0,
          Value.pointer (some { block := w1.heap.size, off := 0 }),
          Value.agg #[Value.slice A ns.length ca, Value.slice B ps.length cb, Value.slice C os.length cc],
          Value.slice P p.length cp, Value.int IntKind.i64 n, Value.bool true, Value.bool false,
          Value.agg #[Value.slice A ns.length ca, Value.slice B ps.length cb, Value.slice C os.length cc],
          Value.slice P p.length cp, Value.int IntKind.i64 n,
          Value.func (Fn.func 182) #[]
            #[Value.pointer (some { block := w1.heap.size + 1, off := 0 }),
              Value.pointer (some { block := w1.heap.size + 1 + 1 + 1, off := 0 }),
              Value.pointer (some { block := w1.heap.size + 1 + 1, off := 0 })],
          .int .i64 (x.1 : Int), undef, undef, undef], defers := [] }) ?assign ?body ?done ?stop
  case assign =>
    intro l x W K hK
    gi_wp2
    simp
    exact hK
  case body =>
    rintro l pre ⟨m, hm⟩ W ⟨hQ, hB⟩ hlen
    have q0 : W.cell? ⟨w1.heap.size, 0, none⟩ = some (.int .i64 (pre.length : Int)) := Blk.cell hQ 0
    have q1 : W.frozen? ⟨w1.heap.size, 0, none⟩ = false := Blk.free hQ 0
    have hl : pre.length + 1 ≤ 9223372036854775807 := by
      have := hlp.out
      have := hpl.out
      omega
    have hwr : wrap64 ((pre.length : Int) + 1) = (pre.length : Int) + 1 := IntWalk.wrap64_in _ (by omega)
    have HQ := Lib.hid hQ
    have HB := Lib.hid hB
    have hlen2 := Lib.hid hlen
    clear hQ hB hlen hl
    gi_wp2
    refine ⟨(KeepsOthers.setCell _ _ _).from _, KeepU.set W (by simp) hw1.out 0 _, ?_, HB.out.setCell (p := ⟨w1.heap.size, 0, none⟩) hw1.out _⟩
    have := HQ.out.set 0 (.int .i64 ((pre.length : Int) + 1))
    rw [List.length_append]
    exact this
  case done =>
    rintro D ys W hD hys ⟨hQ, hB⟩ hK
    have q0 : W.cell? ⟨w1.heap.size, 0, none⟩ = some (.int .i64 (ys.length : Int)) := Blk.cell hQ 0
    have HB := Lib.hid hB
    have HK := Lib.hid hK
    have HD := Lib.hid hD
    have HY := Lib.hid hys
    clear hQ hB hK hD hys
    gi_wp2
    refine ⟨by simp, .inl ⟨_, _, rfl, run_takeDeferred HK.out, ?_⟩⟩
    refine ⟨_, results_tmp rfl _ _ _, ?_, HB.out.trans (belowK_b (w := w) (Nat.le_refl _) W D _ _ (by have := HD.out; have := hw1.out; have := hW0.out; omega) HK.out rfl rfl)⟩
    refine La.retI ?_
    rw [HE.out, ← HY.out, List.length_map]
  case stop =>
    rintro D c pre W _ _ h _
    exact h.elim
end Go.Proofs.YtfpbdfagcfdbbaaGreat

namespace Go.Proofs.YtfpbdfagcfdbbaaGreat
open Go.RowKit Go.Shelf
attribute [local go_sem] Oper.semAt_some

/-- How many of some pods are on each node. -/
def cntL (n : Nat) (p : List Int) (ys : List Nat) : List Int := ys.foldl (fun l y => match p[y]? with | some x => l.set x.toNat (l.getD x.toNat 0 + 1) | none => l) (List.replicate n 0)
theorem cntL_snoc (n : Nat) (p : List Int) (ys : List Nat) (m : Nat) (x : Int) (hx : p[m]? = some x) : cntL n p (ys ++ [m]) = (cntL n p ys).set x.toNat ((cntL n p ys).getD x.toNat 0 + 1) := by
  unfold cntL
  rw [List.foldl_append]
  simp [hx]
theorem cntL_len (n : Nat) (p : List Int) (ys : List Nat) : (cntL n p ys).length = n := by
  unfold cntL
  suffices h : ∀ (ys : List Nat) (l : List Int), (ys.foldl (fun l y => match p[y]? with | some x => l.set x.toNat (l.getD x.toNat 0 + 1) | none => l) l).length = l.length by
    rw [h]; simp
  intro ys
  induction ys with
  | nil => intro l; rfl
  | cons y t ih =>
    intro l
    rw [List.foldl_cons, ih]
    cases p[y]? <;> simp
theorem cntL_le (n : Nat) (p : List Int) (ys : List Nat) : ∀ j, 0 ≤ (cntL n p ys).getD j 0 ∧ (cntL n p ys).getD j 0 ≤ ys.length := by
  unfold cntL
  suffices h : ∀ (ys : List Nat) (l : List Int) (c : Nat), (∀ j, 0 ≤ l.getD j 0 ∧ l.getD j 0 ≤ c) → ∀ j, 0 ≤ (ys.foldl (fun l y => match p[y]? with | some x => l.set x.toNat (l.getD x.toNat 0 + 1) | none => l) l).getD j 0 ∧ (ys.foldl (fun l y => match p[y]? with | some x => l.set x.toNat (l.getD x.toNat 0 + 1) | none => l) l).getD j 0 ≤ (c + ys.length : Nat) by
    intro j
    have := h ys (List.replicate n 0) 0 (fun j => by
      rw [List.getD_eq_getElem?_getD, List.getElem?_replicate]
      split <;> simp) j
    simpa using this
  intro ys
  induction ys with
  | nil => intro l c hl j; simpa using hl j
  | cons y t ih =>
    intro l c hl j
    rw [List.foldl_cons]
    have := ih (match p[y]? with | some x => l.set x.toNat (l.getD x.toNat 0 + 1) | none => l) (c + 1) (fun j => by
      cases hy : p[y]? with
      | none =>
        have := hl j
        dsimp only
        omega
      | some x =>
        dsimp only
        have h1 := hl j
        have h2 := hl x.toNat
        rw [List.getD_eq_getElem?_getD (l := l.set _ _), List.getElem?_set]
        by_cases hj : x.toNat = j
        · rw [if_pos hj]
          split
          · simp only [Option.getD_some]
            omega
          · simp
            omega
        · rw [if_neg hj, ← List.getD_eq_getElem?_getD]
          omega) j
    rw [List.length_cons]
    have e : c + 1 + t.length = c + (t.length + 1) := by omega
    rw [e] at this
    exact this
/-- What Counts tells. -/
def countsF (ns : List NodeD) (ps : List PodD) (os : List OwnD) (p : List Int) (k : Int) : List Int := if ownerB ns ps os p k then cntL ns.length p (ofF ps os p k) else []

theorem int_infoK : (Tryz.prog.info? 3).map (fun i => (i.zero, i.size, i.bytes)) = some (some (.int .i64 0), 1, 8) := by kernel_rfl
theorem run_ints (w : World) (n : Nat) (hn : n ≤ 1000000) : (Instr.makeSlice 27 (.int .i64 (n : Int)) (.int .i64 (n : Int))).run Tryz.prog w = .ok (.slice (some ⟨w.heap.size, 0, none⟩) n n) (w.alloc (.cells (madeCells #[.int .i64 0] n) 3)) := by
  cases hi : Tryz.prog.info? 3 with
  | none => have h := int_infoK; rw [hi] at h; cases h
  | some i =>
    have h := int_infoK
    rw [hi] at h
    simp only [Option.map_some, Option.some.injEq, Prod.mk.injEq] at h
    obtain ⟨h0, h1, h2⟩ := h
    have k := run_make (P := Tryz.prog) w 27 3 i (.int .i64 0) Tryz.underlying27 hi h0 .i64 .i64 n n (by omega) (by omega) (by rw [h2]; omega) (by omega)
    simpa [h1, Value.cells] using k
theorem own_made (w : World) (n base : Nat) (hn : n ≤ 1000000) (hb : base ≤ w.heap.size) : (w.alloc (.cells (madeCells #[.int .i64 0] n) 3)).ownsRow base 3 1 (.slice (some ⟨w.heap.size, 0, none⟩) n n) n (intsC (List.replicate n 0)) := by
  refine ⟨by simp [intsC], .inr ⟨w.heap.size, n, madeCells #[.int .i64 0] n, rfl, hb, heap_alloc_new _ _, Nat.le_refl _, by unfold maxLen; omega, by rw [size_madeCells, Nat.mul_one], ?_⟩⟩
  rw [toList_madeCells_one, Nat.mul_one, List.take_of_length_le (by simp)]
  simp [intsC]
theorem own_nc {w w' : World} {base : Nat} {e : TypeId} {size n : Nat} {v : Value} {xs : List Value} {row : Option Nat} (h : w.ownsRow base e size v n xs) (hg : w.grownBy w' row) (hr : ∀ r, row = some r → ∃ o : Obj, w.heap[r]? = some o ∧ o.isCells = false) : w'.ownsRow base e size v n xs := by
  refine h.kept hg ?_
  rcases h.2 with ⟨rfl, _⟩ | ⟨g, cap, cur, rfl, _, hgb, _⟩
  · exact .inl rfl
  · refine .inr fun e' => ?_
    obtain ⟨o, ho, hc⟩ := hr g e'.symm
    rw [hgb] at ho
    cases ho
    cases hc
/-- A pod of a placement that may be, that does not wait, is on a node that is not lost. -/
theorem placeE_on {ns : List NodeD} {ps : List PodD} {os : List OwnD} {p : List Int} (hE : placeE ns ps os p = 0) {k : Nat} {x : Int} (hk : p[k]? = some x) (hx : x ≠ -1) : tpB ns x = true := by
  have hl := placeE_len hE
  unfold placeE at hE
  split at hE
  · split at hE
    · rename_i hall
      rw [List.all_eq_true] at hall
      have := hall x (List.mem_of_getElem? hk)
      unfold okB at this
      rw [decide_eq_false hx, Bool.false_or] at this
      exact this
    · cases hE
  · rename_i hne
    exact absurd hE hne
theorem tpB_lt {ns : List NodeD} {x : Int} (h : tpB ns x = true) : ∃ n : Nat, x = (n : Int) ∧ n < ns.length := by
  unfold tpB at h
  simp only [Bool.and_eq_true, decide_eq_true_eq] at h
  refine ⟨x.toNat, by omega, ?_⟩
  cases hq : ns[x.toNat]? with
  | none => rw [hq] at h; simp at h
  | some y => exact (List.getElem?_eq_some_iff.1 hq).1

end Go.Proofs.YtfpbdfagcfdbbaaGreat

namespace Go.Proofs.YtfpbdfagcfdbbaaGreat
open Go.RowKit Go.Maps Go.Sort Go.Shelf

theorem sorts_in (m : Nat) : AnyZ.SortsIn Tryz.prog Tryz.sorted152_ren Fence.wide m :=
  ⟨fun blk off cap ss W hH hblk hsz => callsIn_wide.2 (AnyM.slices_Sort_string Tryz.sort185 blk off cap ss W hH hblk hsz),
   fun p cap W => callsIn_wide.2 (AnyM.slices_Sort_string_none Tryz.sort185 p cap W)⟩

theorem mapsKeys_in (mb : Option Nat) (W : World) : CallsIn Fence.wide 5 Tryz.prog 153 #[.map mb] W fun e w' => e = .returned (.func (.func 186) #[] #[.pointer (some ⟨W.heap.size, 0, none⟩)]) ∧ w' = W.alloc (.cells #[.map mb] 171) :=
  AnyZ.keys_in Tryz.keys153 Fence.wide 5 trivial rfl mb W

set_option maxHeartbeats 1000000 in
theorem sortedKeys_in {H : Type} (b nn : Nat) (D0 : DataW H) (R : Value → Option (DataW H × List MemPlace)) (w : World) (hown : w.ownsMap Tryz.prog 9 R b nn D0) (hmax : Maps.size D0 ≤ maxLen) (hbytes : Maps.size D0 * 16 ≤ 140737488355328) :
    CallsIn Fence.wide 5 Tryz.prog 152 #[.func (.func 186) #[] #[.pointer (some ⟨w.heap.size, 0, none⟩)]] (w.alloc (.cells #[.map (some b)] 171)) fun e w' => ∃ (v : Value) (ss : List (List UInt8)), e = .returned v ∧ ss.Perm (strKeys D0) ∧
      w'.ownsRow (w.alloc (.cells #[.map (some b)] 171)).heap.size 9 1 v ss.length ((ss.mergeSort (fun x y => decide (x ≤ y))).map encStr) ∧ (v = .slice none 0 0 ↔ ss = []) ∧ Below (w.alloc (.cells #[.map (some b)] 171)).heap.size (w.alloc (.cells #[.map (some b)] 171)) w' := by
  have hbl := hown.lt
  have hseq : SeqGives Fence.wide 2 Tryz.prog 186 #[.pointer (some ⟨w.heap.size, 0, none⟩)] encStr (fun ss => ss.Perm (strKeys D0)) (Maps.size D0) (w.alloc (.cells #[.map (some b)] 171)) :=
    AnyZ.keys_gives (ρ := Tryz.keys153_ren) { Tryz.keys153 with } Fence.wide _ trivial rfl (by omega) w.heap.size b nn D0 _ (by simp) (by simp) (by
      obtain ⟨es, clock, hb, Ft, hs, hD⟩ := hown
      exact ⟨es, clock, (Below.heap_alloc _ _ b hbl).trans hb, Ft, hs, hD⟩)
  exact AnyZ.sorted_in Tryz.sorted152 Fence.wide 5 trivial trivial trivial trivial rfl (by omega) (sorts_in _) (enters_of Tryz.func185 (by kernel_rfl) rfl) 186 #[.pointer (some ⟨w.heap.size, 0, none⟩)] trivial (enters_of Tryz.func186 (by kernel_rfl) rfl) _ _ hmax hbytes _ hseq

set_option maxHeartbeats 1000000 in
theorem sortedKeysNil_in (w : World) :
    CallsIn Fence.wide 5 Tryz.prog 152 #[.func (.func 186) #[] #[.pointer (some ⟨w.heap.size, 0, none⟩)]] (w.alloc (.cells #[.map none] 171)) fun e w' => ∃ (v : Value) (ss : List (List UInt8)), e = .returned v ∧ ss = [] ∧
      w'.ownsRow (w.alloc (.cells #[.map none] 171)).heap.size 9 1 v ss.length ((ss.mergeSort (fun x y => decide (x ≤ y))).map encStr) ∧ (v = .slice none 0 0 ↔ ss = []) ∧ Below (w.alloc (.cells #[.map none] 171)).heap.size (w.alloc (.cells #[.map none] 171)) w' := by
  have hseq : SeqGives Fence.wide 2 Tryz.prog 186 #[.pointer (some ⟨w.heap.size, 0, none⟩)] encStr (fun ss : List (List UInt8) => ss = []) 0 (w.alloc (.cells #[.map none] 171)) :=
    AnyZ.keys_gives_nil (ρ := Tryz.keys153_ren) { Tryz.keys153 with } Fence.wide _ trivial rfl w.heap.size _ (by simp) (by simp)
  exact AnyZ.sorted_in Tryz.sorted152 Fence.wide 5 trivial trivial trivial trivial rfl (by omega) (sorts_in _) (enters_of Tryz.func185 (by kernel_rfl) rfl) 186 #[.pointer (some ⟨w.heap.size, 0, none⟩)] trivial (enters_of Tryz.func186 (by kernel_rfl) rfl) _ 0 (Nat.zero_le _) (by omega) _ hseq
end Go.Proofs.YtfpbdfagcfdbbaaGreat

namespace Go.Proofs.YtfpbdfagcfdbbaaGreat
open Go.RowKit Go.Maps

theorem span15 (ok : Nat → Nat → Bool) : ∀ (t : List UInt8) (a : Nat), a ≤ 15 → La.spanF ok t a ≤ 15
  | [], a, h => h
  | b :: t, a, h => by
    rw [La.spanF]
    split
    · exact h
    · rename_i hn
      exact span15 ok t (a + 1) (by
        have : ¬ a = 15 := fun e => hn (.inl e)
        omega)
theorem chkK_all {α : Type} {mb : α → Bool} {ri : α → α → Bool} {l : List α} (h : La.chkA mb ri l = 0) : ∀ x ∈ l, mb x = true := by
  intro x hx
  obtain ⟨k, hk⟩ := List.mem_iff_getElem?.1 hx
  have hlt := (List.getElem?_eq_some_iff.1 hk).1
  unfold La.chkA at h
  split at h
  · cases h
  · rename_i hn
    cases hm : mb x with
    | true => rfl
    | false =>
      exfalso
      have h1 : La.chkK mb ri l (k + 1) = false := by
        rw [La.chkK, hk]
        dsimp only
        rw [La.okAt_no hm, Bool.and_false]
      exact hn (.inr (La.chkK_false h1 (by omega)))
/-- The labels of a cluster that may be have short values. -/
theorem short_of {ns : List NodeD} {ps : List PodD} {os : List OwnD} (h : checkS ns ps os = 0) : Short ns := by
  intro x hx y hy
  unfold checkS at h
  split at h
  · rename_i hc
    unfold clusB at hc
    simp only [Bool.and_eq_true, List.all_eq_true] at hc
    have h1 := hc.1.1.2 x hx
    unfold nodeB at h1
    simp only [Bool.and_eq_true, beq_iff_eq] at h1
    have h2 := chkK_all h1.1.2 y hy
    unfold La.labB at h2
    simp only [Bool.and_eq_true] at h2
    have h3 := h2.2
    unfold La.valueB at h3
    simp only [Bool.and_eq_true, decide_eq_true_eq] at h3
    have := span15 La.okVal y.2 0 (by omega)
    omega
  · cases h

/-- The map of the domains that the first k nodes have for a key: each has a 0. -/
def domsU (ns : List NodeD) (key : List UInt8) : Nat → DataW Unit
  | 0 => .map []
  | k + 1 => match domF ns (k : Int) key with
    | some v => (domsU ns key k).put (.string v) (.lit (.int .i64 0))
    | none => domsU ns key k
def emptyD (ns : List NodeD) (key : List UInt8) : DataW Unit := domsU ns key ns.length
theorem domF_short {ns : List NodeD} {key v : List UInt8} {k : Int} (hs : Short ns) (h : domF ns k key = some v) : v.length ≤ 281474976710656 := by
  unfold domF at h
  split at h
  · split at h
    · rename_i x hx
      cases hf : x.labels.find? (fun y => decide (y.1 = key)) with
      | none => rw [hf] at h; cases h
      | some y =>
        rw [hf] at h
        cases h
        exact hs x (List.mem_of_getElem? hx) y (List.mem_of_find?_eq_some hf)
    · cases h
  · cases h
theorem ownsMap_below {P : Program} {k : TypeId} {R : Value → Option (DataW Unit × List MemPlace)} {w w' : World} {b n : Nat} {D : DataW Unit} (h : w.ownsMap P k R b n D) (hb : Below w.heap.size w w') : w'.ownsMap P k R b n D := h.kept (grown_of_below hb none) (by simp)

set_option maxRecDepth 100000 in
set_option maxHeartbeats 2000000 in
theorem empty_any (A B C : Option Addr) (ca cb cc : Nat) (ns : List NodeD) (ps : List PodD) (os : List OwnD) (key : List UInt8) (w : World) (h : SnapAt w A B C ca cb cc ns ps os) (hsh : Short ns) :
    Calls Tryz.prog 149 #[snapV A B C ca cb cc ns ps os, strV key] w fun e w' => e = .returned (.map (some (w.heap.size + 1))) ∧ w'.ownsMap Tryz.prog 9 (plainElem Tryz.prog 3) (w.heap.size + 1) ns.length (emptyD ns key) ∧ Below w.heap.size w w' := by
  have hln := h.ln
  have H := Lib.hid h
  have S0 : Hid (Blk (w.alloc (.cells (snapC A B C ca cb cc ns ps os) 26)) w.heap.size (snapC A B C ca cb cc ns ps os) 26) := Lib.hid (Blk.new w _ _)
  have S1 := Lib.hid (Blk.alloc S0.out (.map #[] 0))
  have B1 : Hid (Below w.heap.size w ((w.alloc (.cells (snapC A B C ca cb cc ns ps os) 26)).alloc (.map #[] 0))) := Lib.hid (Qu.below2 w _ _)
  have hmm := @run_makeMap Tryz.prog
  have hm0 := World.ownsMap_made (H := Unit) (w.alloc (.cells (snapC A B C ca cb cc ns ps os) 26)) Tryz.prog 9 (plainElem Tryz.prog 3)
  rw [World.size_alloc] at hm0
  have M1 := Lib.hid hm0
  have KD := Lib.hid (fun (k : Int) w1 (hb : Below w.heap.size w w1) => domainOf_any A B C ca cb cc ps.length os.length ns k key w1 (h.below hb).n hsh)
  have HSH := Lib.hid hsh
  have s0 := Blk.cell S1.out 0
  clear h hm0 hsh
  go_enter Tryz.func149, Tryz.ntmps149
  go_wp2_with fail
  clear hmm
  generalize hW1 : ((w.alloc (.cells (snapC A B C ca cb cc ns ps os) 26)).alloc (.map #[] 0)) = W1 at S1 B1 M1 s0 ⊢
  clear hW1 s0 S0
  obtain ⟨Mb, hMb⟩ : ∃ Mb, w.heap.size + 1 = Mb := ⟨_, rfl⟩
  rw [hMb] at M1 ⊢
  have HMb := Lib.hid hMb
  clear hMb
  go_loopw [13] (fun i wr => ∃ k : Nat, k ≤ ns.length ∧ i = .int .i64 k ∧ wr.ownsMap Tryz.prog 9 (plainElem Tryz.prog 3) Mb k (domsU ns key k) ∧ Below w.heap.size w wr ∧ Blk wr w.heap.size (snapC A B C ca cb cc ns ps os) 26) (fun i _ => ns.length - (intOf i).toNat)
  case atStart => exact ⟨0, by omega, rfl, M1.out, B1.out, S1.out⟩
  case round =>
    clear M1 B1 S1
    obtain ⟨k, hk, rfl, hown, hbw, hsk⟩ := hrel
    have HM := Lib.hid hown
    have HB := Lib.hid hbw
    have HS := Lib.hid hsk
    clear hown hbw hsk
    have s0 : wr.cell? ⟨w.heap.size, 0, none⟩ = some (.slice A ns.length ca) := Blk.cell HS.out 0
    have s1 : wr.cell? ⟨w.heap.size, 1, none⟩ = some (.slice B ps.length cb) := Blk.cell HS.out 1
    have s2 : wr.cell? ⟨w.heap.size, 2, none⟩ = some (.slice C os.length cc) := Blk.cell HS.out 2
    by_cases hlt : k < ns.length
    · have K1 := Lib.hid (KD.out (k : Int) wr HB.out)
      have E : Hid (domsU ns key (k + 1) = match domF ns (k : Int) key with
        | some v => (domsU ns key k).put (.string v) (.lit (.int .i64 0))
        | none => domsU ns key k) := Lib.hid rfl
      have HV := Lib.hid (fun v (hv : domF ns (k : Int) key = some v) => domF_short HSH.out hv)
      generalize domF ns (k : Int) key = dv at K1 E HV
      have k1 : (k : Int) < (ns.length : Int) := by omega
      go_wp2_with fail
      refine (K1.out).mono ?_
      rintro e w2 ⟨rfl, hb⟩
      have M2 := Lib.hid (ownsMap_below HM.out hb)
      have S2 := Lib.hid (HS.out.below hb HS.out.lt)
      have B2 := Lib.hid (HB.out.trans (hb.mono HB.out.size))
      clear hb K1 s0 s1 s2
      cases dv with
      | none =>
        go_wp2
        go_roundw
        case rel => exact ⟨k + 1, by omega, by go_num, by rw [E.out]; exact M2.out.mono (by omega), B2.out, S2.out⟩
        case measure => simp [intOf]; omega
      | some v =>
        have hvl : ((⟨v.toArray⟩ : ByteArray).size) ≤ maxLen := by
          have := HV.out v rfl
          rw [size_of]
          unfold maxLen
          omega
        have hkey := WideMaps.keyOf_string_mk (P := Tryz.prog) Tryz.underlying9 hvl
        have hown := M2.out
        have hkm : k < maxLen := by unfold maxLen; omega
        go_wp2_with (at_mapUpdate; refine wpList_mapUpdate_own _ rfl _ _ _ 171 rfl 9 3 (Maps.string_keyed Tryz.underlying9) Tryz.underlying171 _ Mb k _ rfl hown hkm _ _ _ rfl rfl hkey _ [] (plainElem_int Tryz.underlying3 (by decide)) ?_)
        intro w3 hown3 hgrow3
        have M3 := Lib.hid hown3
        have hMlt : w.heap.size < Mb := by have := HMb.out; omega
        have B3 := Lib.hid (B2.out.grown hgrow3 B2.out.size (fun j e => by cases e; omega))
        have S3 := Lib.hid (S2.out.kept hgrow3 (fun e => by cases e; omega))
        clear hown hown3 hgrow3 hkey hvl hkm
        go_wp2
        go_roundw
        case rel => exact ⟨k + 1, by omega, by go_num, by rw [E.out]; exact M3.out, B3.out, S3.out⟩
        case measure => simp [intOf]; omega
    · obtain rfl : k = ns.length := by omega
      go_wp2
      go_ret
      rw [HMb.out]
      exact ⟨rfl, HM.out, HB.out⟩
end Go.Proofs.YtfpbdfagcfdbbaaGreat

namespace Go.Proofs.YtfpbdfagcfdbbaaGreat
open Go.RowKit Go.Maps Go.Sort

/-- The keys of a map, sorted. -/
def sortK (D : DataW Unit) : List (List UInt8) := (strKeys D).mergeSort leB
/-- What Domains tells. -/
def domsF (ns : List NodeD) (ps : List PodD) (os : List OwnD) (key : List UInt8) : List (List UInt8) := if checkS ns ps os = 0 then sortK (emptyD ns key) else []
theorem own_sorted {w : World} {base : Nat} {v : Value} {D : DataW Unit} {ss : List (List UInt8)} (hp : ss.Perm (strKeys D)) (h : w.ownsRow base 9 1 v ss.length ((ss.mergeSort (fun x y => decide (x ≤ y))).map encStr)) :
    w.ownsRow base 9 1 v (sortK D).length ((sortK D).map encStr) := by
  have e : ss.mergeSort (fun x y => decide (x ≤ y)) = sortK D := mergeSort_of_perm hp
  rw [e] at h
  have hl : ss.length = (sortK D).length := by rw [← e, List.length_mergeSort]
  rw [hl] at h
  exact h

end Go.Proofs.YtfpbdfagcfdbbaaGreat

namespace Go.Proofs.YtfpbdfagcfdbbaaGreat
open Go.RowKit Go.Shelf Go.Maps Go.Sort
attribute [local go_sem] Oper.semAt_some

/-- The number that a datum is. -/
def numD (D : DataW Unit) : Int := match D with
  | .lit (.int _ c) => c
  | _ => 0
/-- One more at a key. -/
def bumpD (D : DataW Unit) (v : List UInt8) : DataW Unit := D.put (.string v) (.lit (.int .i64 (wrap64 (numD (D.atKey (.string v) (.lit (.int .i64 0))) + 1))))
/-- One pod more. -/
def spreadS (ns : List NodeD) (key : List UInt8) (p : List Int) (D : DataW Unit) (y : Nat) : DataW Unit := match p[y]? with
  | some x => match domF ns x key with
    | some v => bumpD D v
    | none => D
  | none => D
def spreadD (ns : List NodeD) (key : List UInt8) (p : List Int) (ys : List Nat) : DataW Unit := ys.foldl (spreadS ns key p) (emptyD ns key)
theorem spreadD_snoc (ns : List NodeD) (key : List UInt8) (p : List Int) (ys : List Nat) (m : Nat) (x : Int) (hx : p[m]? = some x) : spreadD ns key p (ys ++ [m]) = match domF ns x key with
    | some v => bumpD (spreadD ns key p ys) v
    | none => spreadD ns key p ys := by
  unfold spreadD
  rw [List.foldl_append]
  show spreadS ns key p _ m = _
  unfold spreadS
  rw [hx]
/-- The numbers of a map at its keys, sorted. -/
def rowD (D : DataW Unit) : List Int := (sortK D).map fun v => numD (D.atKey (.string v) (.lit (.int .i64 0)))
/-- What Spread tells. -/
def spreadF (ns : List NodeD) (ps : List PodD) (os : List OwnD) (p : List Int) (k : Int) : List Int := if ownerB ns ps os p k then (match os[k.toNat]? with
  | some x => rowD (spreadD ns x.topo p (offL p (membersF ps x.name)))
  | none => []) else []

theorem own_other {w w' : World} {base : Nat} {e : TypeId} {sz n : Nat} {v : Value} {xs : List Value} (ho : w.ownsRow base e sz v n xs) (hg : w.grownBy w' v.ownBlock) {j : Nat} {o : Obj} (hj : w.heap[j]? = some o) (hne : ∀ cs, o ≠ .cells cs e (0, 0)) : w'.heap[j]? = some o := by
  refine (hg.block j (Array.getElem?_eq_some_iff.1 hj).1 ?_).trans hj
  rcases ho.2 with ⟨rfl, _⟩ | ⟨g, cap, cur, rfl, _, hgb, _⟩
  · intro e'; cases e'
  · intro e'
    simp only [Value.ownBlock, Option.some.injEq] at e'
    subst e'
    rw [hgb] at hj
    cases hj
    exact hne cur rfl
theorem own_below2 {w w' : World} {base : Nat} {e : TypeId} {size n : Nat} {v : Value} {xs : List Value} (h : w.ownsRow base e size v n xs) (hb : RowKit.Below w.heap.size w w') : w'.ownsRow base e size v n xs := own_nc h (grown_of_below hb none) (fun r e => by cases e)
theorem own_ownsMap {w w' : World} {base : Nat} {e : TypeId} {sz n : Nat} {v : Value} {xs : List Value} (ho : w.ownsRow base e sz v n xs) (hg : w.grownBy w' v.ownBlock) {P : Program} {k : TypeId} {R : Value → Option (DataW Unit × List MemPlace)} {b m : Nat} {D : DataW Unit} (h : w.ownsMap P k R b m D) : w'.ownsMap P k R b m D := by
  obtain ⟨es, clock, hb, F, hs, hD⟩ := h
  exact ⟨es, clock, own_other ho hg hb (fun cs e' => by cases e'), F, hs, hD⟩
theorem own_own {w w' : World} {base base' : Nat} {e e' : TypeId} {sz n sz' n' : Nat} {v v' : Value} {xs xs' : List Value} (ho : w.ownsRow base e sz v n xs) (hg : w.grownBy w' v.ownBlock) (hne : e' ≠ e) (h : w.ownsRow base' e' sz' v' n' xs') : w'.ownsRow base' e' sz' v' n' xs' := by
  obtain ⟨hl, h1 | ⟨g, cap, cur, hv, hb, hg', r⟩⟩ := h
  · exact ⟨hl, .inl h1⟩
  · exact ⟨hl, .inr ⟨g, cap, cur, hv, hb, own_other ho hg hg' (fun cs q => by cases q; exact hne rfl), r⟩⟩
theorem run_ints0 (w : World) (n : Nat) (hn : n ≤ 1000000) : (Instr.makeSlice 27 (.int .i64 0) (.int .i64 (n : Int))).run Tryz.prog w = .ok (.slice (some ⟨w.heap.size, 0, none⟩) 0 n) (w.alloc (.cells (madeCells #[.int .i64 0] n) 3)) := by
  cases hi : Tryz.prog.info? 3 with
  | none => have h := int_infoK; rw [hi] at h; cases h
  | some i =>
    have h := int_infoK
    rw [hi] at h
    simp only [Option.map_some, Option.some.injEq, Prod.mk.injEq] at h
    obtain ⟨h0, h1, h2⟩ := h
    have k := run_make (P := Tryz.prog) w 27 3 i (.int .i64 0) Tryz.underlying27 hi h0 .i64 .i64 0 n (by omega) (by omega) (by rw [h2]; omega) (by omega)
    simpa [h1, Value.cells] using k
theorem own_made0 (w : World) (n base : Nat) (hn : n ≤ 1000000) (hb : base ≤ w.heap.size) : (w.alloc (.cells (madeCells #[.int .i64 0] n) 3)).ownsRow base 3 1 (.slice (some ⟨w.heap.size, 0, none⟩) 0 n) 0 [] :=
  ⟨rfl, .inr ⟨w.heap.size, n, madeCells #[.int .i64 0] n, rfl, hb, heap_alloc_new _ _, Nat.zero_le _, by unfold maxLen; omega, by rw [size_madeCells, Nat.mul_one], by simp⟩⟩
theorem keepsFrom_below {B : Nat} {W W' : World} (h : Below W.heap.size W W') : KeepsFrom B W W' := ⟨h.size, fun k _ _ hk _ => (h.block k (Array.getElem?_eq_some_iff.1 hk).1).trans hk⟩
theorem numD_lit {q : IntKind} {c : Int} {D : DataW Unit} (h : D = .lit (.int q c)) : numD D = c := by rw [h]; rfl

set_option maxRecDepth 100000 in
set_option maxHeartbeats 4000000 in
theorem spread_any (A B C P : Option Addr) (ca cb cc cp : Nat) (ns : List NodeD) (ps : List PodD) (os : List OwnD) (p : List Int) (ko : Int) (w : World) (h : SnapAt w A B C ca cb cc ns ps os) (hp : IntsAt w P cp p) :
    Calls Tryz.prog 118 #[snapV A B C ca cb cc ns ps os, .slice P p.length cp, .int .i64 ko] w fun e w' => ∃ v, e = .returned v ∧ w'.ownsRow w.heap.size 3 1 v (spreadF ns ps os p ko).length (intsC (spreadF ns ps os p ko)) ∧ Below w.heap.size w w' := by
  have hlp := Lib.hid h.lp
  have hln := Lib.hid h.ln
  have H := Lib.hid h
  have HP := Lib.hid hp
  have B0 : Hid (Below w.heap.size w ((w.alloc (.cells (snapC A B C ca cb cc ns ps os) 26)).alloc (.cells #[.slice P p.length cp] 27))) := Lib.hid (Qu.below2 w _ _)
  have S0 : Hid (Blk ((w.alloc (.cells (snapC A B C ca cb cc ns ps os) 26)).alloc (.cells #[.slice P p.length cp] 27)) w.heap.size (snapC A B C ca cb cc ns ps os) 26) := Lib.hid (Blk.alloc (Blk.new w _ _) _)
  have T0 : Hid (Blk ((w.alloc (.cells (snapC A B C ca cb cc ns ps os) 26)).alloc (.cells #[.slice P p.length cp] 27)) (w.heap.size + 1) #[.slice P p.length cp] 27) := Lib.hid (blk2 w _ _ _)
  have KC := Lib.hid ((callsIn_wide (n := 7)).2 (isOwner_any A B C P ca cb cc cp ns ps os p ko _ (h.below B0.out) (hp.below B0.out)))
  have hl0 := Blk.lt T0.out
  have E : Hid (spreadF ns ps os p ko = if ownerB ns ps os p ko then (match os[ko.toNat]? with
    | some x => rowD (spreadD ns x.topo p (offL p (membersF ps x.name)))
    | none => []) else []) := Lib.hid rfl
  have HOB := Lib.hid (fun h => @ownerB_parts ns ps os p ko h)
  generalize spreadF ns ps os p ko = R at E ⊢
  generalize ownerB ns ps os p ko = ob at KC E HOB
  clear h hp
  refine (callsIn_wide (n := 8)).1 ?_
  refine callsIn_of_wp_marks Tryz.func118 rfl trivial ?_ rfl
  simp only [Tryz.ntmps118, List.size_toArray, List.length_cons, List.length_nil, Nat.reduceAdd, Nat.reduceSub, Array.replicate_succ, Array.replicate_zero, List.push_toArray, List.append_toArray, List.nil_append, List.cons_append]
  gi_wp2_with fail
  refine ⟨trivial, ?_⟩
  refine (KC.out).mono ?_
  rintro e w1 ⟨rfl, hb⟩
  clear KC
  have S1 := Lib.hid (S0.out.below hb (by omega))
  have T1 := Lib.hid (T0.out.below hb (by omega))
  have B1 := Lib.hid (B0.out.trans (hb.mono (by omega)))
  have hl1 : Hid (w.heap.size + 1 < w1.heap.size) := Lib.hid T1.out.lt
  clear hb S0 T0 B0 hl0
  cases ob
  · have HE : Hid (R = []) := Lib.hid (by rw [E.out]; rfl)
    gi_wp2
    refine ⟨_, results_tmp rfl _ _ _, ?_⟩
    rw [HE.out]
    exact ⟨_, rfl, World.ownsRow_nil _ _ _ _, B1.out⟩
  obtain ⟨hE0, n, xo, rfl, hxo⟩ := HOB.out rfl
  have hpl := Lib.hid (placeE_len hE0)
  have HSH : Hid (Short ns) := Lib.hid (by
    refine short_of (ps := ps) (os := os) ?_
    unfold placeE at hE0
    split at hE0
    · assumption
    · rename_i hne
      exact absurd hE0 hne)
  have HX := Lib.hid hxo
  clear HOB hE0
  have HE : Hid (R = rowD (spreadD ns xo.topo p (offL p (membersF ps xo.name)))) := Lib.hid (by rw [E.out, if_pos rfl, Int.toNat_natCast, HX.out])
  clear E
  have hno : n < os.length := (List.getElem?_eq_some_iff.1 hxo).1
  have n0 : (0 : Int) ≤ (n : Int) := by omega
  have n1 : (n : Int) < (os.length : Int) := by omega
  obtain ⟨bo, oo, hC, hbo, d0, d1, d2, d3, d4⟩ := atO (H.out.below B1.out).o hxo
  subst hC
  have s2 : w1.cell? ⟨w.heap.size, 2, none⟩ = some (.slice (some ⟨bo, oo, none⟩) os.length cc) := Blk.cell S1.out 2
  -- the key
  have S2 := Lib.hid (Blk.alloc S1.out (.cells #[strV xo.topo] 9))
  have T2 := Lib.hid (Blk.alloc T1.out (.cells #[strV xo.topo] 9))
  have K2 := Lib.hid (Blk.new w1 #[strV xo.topo] 9)
  have B2 := Lib.hid (B1.out.alloc B1.out.size (.cells #[strV xo.topo] 9))
  have KE := Lib.hid ((callsIn_wide (n := 7)).2 (empty_any A B (some ⟨bo, oo, none⟩) ca cb cc ns ps os xo.topo _ (H.out.below B2.out) HSH.out))
  have t0 := Blk.cell S2.out 0
  have t1 := Blk.cell S2.out 1
  have t2 := Blk.cell S2.out 2
  clear hxo d0 d1 d3 d4 hno
  gi_wp2_with fail
  refine ⟨trivial, ?_⟩
  refine (KE.out).mono ?_
  rintro e w2 ⟨rfl, hown, hb⟩
  have hlk := K2.out.lt
  have S3 := Lib.hid (Blk.alloc (S2.out.below hb S2.out.lt) (.cells #[.map (some ((w1.alloc (.cells #[strV xo.topo] 9)).heap.size + 1))] 171))
  have T3 := Lib.hid (Blk.alloc (T2.out.below hb T2.out.lt) (.cells #[.map (some ((w1.alloc (.cells #[strV xo.topo] 9)).heap.size + 1))] 171))
  have K3 := Lib.hid (Blk.alloc (K2.out.below hb hlk) (.cells #[.map (some ((w1.alloc (.cells #[strV xo.topo] 9)).heap.size + 1))] 171))
  have M3 := Lib.hid (hown.alloc (.cells #[.map (some ((w1.alloc (.cells #[strV xo.topo] 9)).heap.size + 1))] 171))
  have Q3 := Lib.hid (Blk.new w2 #[.map (some ((w1.alloc (.cells #[strV xo.topo] 9)).heap.size + 1))] 171)
  have hb2 := B2.out.trans (hb.mono B2.out.size)
  have B3 := Lib.hid (hb2.alloc hb2.size (.cells #[.map (some ((w1.alloc (.cells #[strV xo.topo] 9)).heap.size + 1))] 171))
  have hM2 : Hid ((w1.alloc (.cells #[strV xo.topo] 9)).heap.size + 1 < w2.heap.size) := Lib.hid hown.lt
  clear hb hb2 hown KE t0 t1 t2 s2 d2 hlk S2 T2 K2 B2
  rw [World.size_alloc] at S3 T3 K3 M3 Q3 B3 hM2
  have t0 := Blk.cell S3.out 0
  have t1 := Blk.cell S3.out 1
  have t2 := Blk.cell S3.out 2
  have u0 := Blk.cell T3.out 0
  rw [World.size_alloc]
  gi_wp2_with fail
  refine ⟨trivial, ?_⟩
  refine (of_any _ A B (some ⟨bo, oo, none⟩) P ca cb cc cp ns ps os p.length (n : Int) _).mono ?_
  rintro e w3 ⟨rfl, rfl⟩
  gi_wp2_with fail
  have hsz3 : (w2.alloc (.cells #[.map (some (w1.heap.size + 1 + 1))] 171)).heap.size = w2.heap.size + 1 := by simp
  have KS := Lib.hid (of_at (8 - 1) (by omega) ca cb cc cp [] A B (some ⟨bo, oo, none⟩) P ns ps os p n xo HX.out hpl.out w _ B3.out H.out HP.out (by simp))
  rw [hsz3] at KS
  clear t0 t1 t2 u0
  generalize (w2.alloc (.cells #[.map (some (w1.heap.size + 1 + 1))] 171)) = W3 at S3 T3 K3 M3 Q3 B3 KS hsz3 ⊢
  change Code.wpIn _ _ _ _ _ _ (ofWorld W3 A B (some ⟨bo, oo, none⟩) P ca cb cc cp ns ps os p.length (n : Int))
  have S4 : Hid (Blk (ofWorld W3 A B (some ⟨bo, oo, none⟩) P ca cb cc cp ns ps os p.length (n : Int)) w.heap.size (snapC A B (some ⟨bo, oo, none⟩) ca cb cc ns ps os) 26) := Lib.hid (Blk.alloc (Blk.alloc (Blk.alloc S3.out _) _) _)
  have T4 : Hid (Blk (ofWorld W3 A B (some ⟨bo, oo, none⟩) P ca cb cc cp ns ps os p.length (n : Int)) (w.heap.size + 1) #[.slice P p.length cp] 27) := Lib.hid (Blk.alloc (Blk.alloc (Blk.alloc T3.out _) _) _)
  have K4 : Hid (Blk (ofWorld W3 A B (some ⟨bo, oo, none⟩) P ca cb cc cp ns ps os p.length (n : Int)) w1.heap.size #[strV xo.topo] 9) := Lib.hid (Blk.alloc (Blk.alloc (Blk.alloc K3.out _) _) _)
  have Q4 : Hid (Blk (ofWorld W3 A B (some ⟨bo, oo, none⟩) P ca cb cc cp ns ps os p.length (n : Int)) w2.heap.size #[.map (some (w1.heap.size + 1 + 1))] 171) := Lib.hid (Blk.alloc (Blk.alloc (Blk.alloc Q3.out _) _) _)
  have M4 : Hid ((ofWorld W3 A B (some ⟨bo, oo, none⟩) P ca cb cc cp ns ps os p.length (n : Int)).ownsMap Tryz.prog 9 (plainElem Tryz.prog 3) (w1.heap.size + 1 + 1) ns.length (emptyD ns xo.topo)) := Lib.hid (((M3.out.alloc _).alloc _).alloc _)
  have hsz4 : Hid ((ofWorld W3 A B (some ⟨bo, oo, none⟩) P ca cb cc cp ns ps os p.length (n : Int)).heap.size = w2.heap.size + 4) := Lib.hid (by simp [ofWorld, hsz3])
  have BW : Hid (Below w.heap.size w (ofWorld W3 A B (some ⟨bo, oo, none⟩) P ca cb cc cp ns ps os p.length (n : Int))) := Lib.hid (((B3.out.alloc B3.out.size _).alloc (by have := B3.out.size; simp; omega) _).alloc (by have := B3.out.size; simp; omega) _)
  generalize ofWorld W3 A B (some ⟨bo, oo, none⟩) P ca cb cc cp ns ps os p.length (n : Int) = W0 at S4 T4 K4 Q4 M4 BW KS hsz4 ⊢
  obtain ⟨Mb, hMb⟩ : ∃ Mb, w1.heap.size + 1 + 1 = Mb := ⟨_, rfl⟩
  obtain ⟨Tb, hT⟩ : ∃ Tb, w.heap.size + 1 = Tb := ⟨_, rfl⟩
  rw [hMb] at Q4 M4 hM2 ⊢
  rw [hT] at T4 hl1 ⊢
  have hMb2 : Hid (w1.heap.size < Mb) := Lib.hid (by omega)
  obtain ⟨Kb, hKb⟩ : ∃ Kb, w1.heap.size = Kb := ⟨_, rfl⟩
  obtain ⟨Cb, hCb⟩ : ∃ Cb, w2.heap.size = Cb := ⟨_, rfl⟩
  rw [hKb] at K4 hl1 hMb2 ⊢
  rw [hCb] at Q4 hM2 KS hsz4 ⊢
  have hN : Hid (w.heap.size < Tb ∧ Tb < Kb ∧ Kb < Mb ∧ Mb < Cb) := Lib.hid ⟨by omega, hl1.out, hMb2.out, hM2.out⟩
  clear hMb hT hKb hCb hMb2 hM2 hl1 S1 T1 B1 S3 T3 K3 M3 Q3 B3 hsz3 n0 n1
  refine wpIn_rangeFunc_ownG (α := OffNo p) rfl (by omega) (gf := 182) rfl trivial (enters_of Tryz.func182 (by kernel_rfl) rfl)
    KS.out keepU_t (keepU_b (by have := hN.out; have := hsz4.out; omega)) (Below.refl _ _) (fun _ => rfl)
    (fun (pre : List (OffNo p)) W => (Blk W w.heap.size (snapC A B (some ⟨bo, oo, none⟩) ca cb cc ns ps os) 26 ∧ Blk W Tb #[.slice P p.length cp] 27 ∧ Blk W Kb #[strV xo.topo] 9 ∧ Blk W Cb #[.map (some Mb)] 171 ∧ World.ownsMap (H := Unit) W Tryz.prog 9 (plainElem (H := Unit) Tryz.prog 3) Mb (ns.length + pre.length) (spreadD ns xo.topo p (pre.map (fun x => x.1)))) ∧ Below w.heap.size w W)
    (fun _ _ _ => False)
    (OwnFrom.and (fun s X Y row hs hg hr => ⟨blk_nc hs.1 hg (fun r e => (hr r e).2), blk_nc hs.2.1 hg (fun r e => (hr r e).2), blk_nc hs.2.2.1 hg (fun r e => (hr r e).2), blk_nc hs.2.2.2.1 hg (fun r e => (hr r e).2), World.ownsMap.kept (H := Unit) hs.2.2.2.2 hg (fun e => by have := (hr _ e.symm).1; have := hN.out; have := hsz4.out; omega)⟩) (ownFrom_below (Nat.le_refl _) (by have := hN.out; have := hsz4.out; omega)))
    (fun _ _ _ _ _ hs _ _ => hs)
    ⟨⟨S4.out, T4.out, K4.out, Q4.out, M4.out⟩, BW.out⟩
    (fun x => { tmps := #[snapV A B (some { block := bo, off := oo }) ca cb cc ns ps os, Value.slice P p.length cp,
          Value.int IntKind.i64 n, Value.pointer (some { block := w.heap.size, off := 0 }),
          Value.pointer (some { block := Tb, off := 0 }), undef, Value.slice none 0 0,
          Value.pointer (some { block := Kb, off := 0 }),
          Value.pointer (some { block := Cb, off := 0 }), .int .i64 (x.1 : Int), undef, undef, undef, undef, undef,
          Value.agg
            #[Value.slice A ns.length ca, Value.slice B ps.length cb,
              Value.slice (some { block := bo, off := oo }) os.length cc],
          Value.slice P p.length cp, Value.int IntKind.i64 n, Value.bool true, Value.bool false,
          Value.pointer (some { block := w.heap.size, off := 2 }),
          Value.slice (some { block := bo, off := oo }) os.length cc, Value.int IntKind.i64 n,
          Value.pointer (some { block := bo, off := oo + n * 5 }),
          Value.pointer (some { block := bo, off := oo + n * 5 + 2 }), strV xo.topo,
          Value.agg
            #[Value.slice A ns.length ca, Value.slice B ps.length cb,
              Value.slice (some { block := bo, off := oo }) os.length cc],
          Value.string { data := xo.topo.toArray }, Value.map (some Mb),
          Value.agg
            #[Value.slice A ns.length ca, Value.slice B ps.length cb,
              Value.slice (some { block := bo, off := oo }) os.length cc],
          Value.slice P p.length cp, Value.int IntKind.i64 n,
          Value.func (Fn.func 182) #[]
            #[Value.pointer (some { block := Cb + 1, off := 0 }),
              Value.pointer (some { block := Cb + 1 + 1 + 1, off := 0 }),
              Value.pointer (some { block := Cb + 1 + 1, off := 0 })],
          .int .i64 (x.1 : Int), undef, undef, undef, undef, undef, undef, undef, undef, undef, undef, undef, undef, undef, undef, undef, undef, undef, undef, undef, undef, undef, undef, undef, undef, undef, undef, undef, undef, undef, undef, undef, undef, undef, undef], defers := [] }) ?assign ?body ?done ?stop
  case assign =>
    intro l x W K hK
    gi_wp2
    exact hK
  case body =>
    rintro l pre ⟨m, hm⟩ W ⟨⟨hS, hT, hKk, hC, hM⟩, hB⟩ hlen
    obtain ⟨xv, hx, hne⟩ := id hm
    obtain ⟨b, o, hA, hbl, hc⟩ := atI (HP.out.below hB).cells hx
    subst hA
    have hml : m < p.length := (List.getElem?_eq_some_iff.1 hx).1
    have z0 := Blk.cell hS 0
    have z1 := Blk.cell hS 1
    have z2 := Blk.cell hS 2
    have p0 : W.cell? ⟨Tb, 0, none⟩ = some (.slice (some ⟨b, o, none⟩) p.length cp) := Blk.cell hT 0
    have q0 : W.cell? ⟨Kb, 0, none⟩ = some (strV xo.topo) := Blk.cell hKk 0
    have m0 : (0 : Int) ≤ (m : Int) := by omega
    have m1 : (m : Int) < (p.length : Int) := by omega
    have KD := Lib.hid (domainOf_any A B (some ⟨bo, oo, none⟩) ca cb cc ps.length os.length ns xv xo.topo W.drew (((H.out.below hB).below (Below.refl _ _).drew)).n HSH.out)
    have HBs := Lib.hid hB
    have E : Hid (spreadD ns xo.topo p (pre.map (·.1) ++ [m]) = match domF ns xv xo.topo with
      | some v => bumpD (spreadD ns xo.topo p (pre.map (·.1))) v
      | none => spreadD ns xo.topo p (pre.map (·.1))) := Lib.hid (spreadD_snoc ns xo.topo p _ m xv hx)
    have HV := Lib.hid (fun v (hv : domF ns xv xo.topo = some v) => domF_short HSH.out hv)
    generalize domF ns xv xo.topo = dv at KD E HV
    generalize spreadD ns xo.topo p (pre.map (·.1)) = D0 at hM E
    have HS := Lib.hid hS
    have HT := Lib.hid hT
    have HKk := Lib.hid hKk
    have HC := Lib.hid hC
    have HM := Lib.hid hM
    have hlen2 := Lib.hid hlen
    have hmx : Tryz.prog.follows .mixedOrders = true := by kernel_rfl
    clear hS hT hKk hC hM hB hlen hml hx
    rename_i K0 hK0
    clear hK0 KS S4 T4 K4 Q4 M4 BW HX HE H HP HSH
    gi_wp2
    rename_i Kq hKq
    have key : ∀ w', RowKit.Below W.drew.heap.size W.drew w' → Kq { tmps :=
        #[snapV A B (some { block := bo, off := oo }) ca cb cc ns ps os,
          Value.slice (some { block := b, off := o }) p.length cp, Value.int IntKind.i64 n,
          Value.pointer (some { block := w.heap.size, off := 0 }), Value.pointer (some { block := Tb, off := 0 }),
          undef, Value.slice none 0 0, Value.pointer (some { block := Kb, off := 0 }),
          Value.pointer (some { block := Cb, off := 0 }), Value.int IntKind.i64 m, strV (dv.getD []),
          Value.bool dv.isSome, undef, undef, undef,
          Value.agg
            #[Value.slice A ns.length ca, Value.slice B ps.length cb,
              Value.slice (some { block := bo, off := oo }) os.length cc],
          Value.slice (some { block := b, off := o }) p.length cp, Value.int IntKind.i64 n, Value.bool true,
          Value.bool false, Value.pointer (some { block := w.heap.size, off := 2 }),
          Value.slice (some { block := bo, off := oo }) os.length cc, Value.int IntKind.i64 n,
          Value.pointer (some { block := bo, off := oo + n * 5 }),
          Value.pointer (some { block := bo, off := oo + n * 5 + 2 }), strV xo.topo,
          Value.agg
            #[Value.slice A ns.length ca, Value.slice B ps.length cb,
              Value.slice (some { block := bo, off := oo }) os.length cc],
          Value.string { data := xo.topo.toArray }, Value.map (some Mb),
          Value.agg
            #[Value.slice A ns.length ca, Value.slice B ps.length cb,
              Value.slice (some { block := bo, off := oo }) os.length cc],
          Value.slice (some { block := b, off := o }) p.length cp, Value.int IntKind.i64 n,
          Value.func (Fn.func 182) #[]
            #[Value.pointer (some { block := Cb + 1, off := 0 }),
              Value.pointer (some { block := Cb + 1 + 1 + 1, off := 0 }),
              Value.pointer (some { block := Cb + 1 + 1, off := 0 })],
          Value.int IntKind.i64 m, Value.tuple #[strV (dv.getD []), Value.bool dv.isSome],
          Value.agg
            #[Value.slice A ns.length ca, Value.slice B ps.length cb,
              Value.slice (some { block := bo, off := oo }) os.length cc],
          Value.slice (some { block := b, off := o }) p.length cp, Value.int IntKind.i64 m,
          Value.pointer (some { block := b, off := o + m }), Value.int IntKind.i64 xv, strV xo.topo,
          Value.tuple #[strV (dv.getD []), Value.bool dv.isSome], strV (dv.getD []), Value.bool dv.isSome, undef, undef,
          undef, undef, undef, undef, undef, undef, undef, undef, undef, undef, undef, undef, undef, undef, undef, undef, undef, undef, undef, undef, undef, undef], defers := [] } w' := by
      intro w' hb
      refine hKq _ _ ?_
      clear hKq
      have hbW : Below W.heap.size W w' := ((Below.refl W.heap.size W).drew).trans hb
      have S' := Lib.hid (HS.out.below hbW HS.out.lt)
      have T' := Lib.hid (HT.out.below hbW HT.out.lt)
      have K' := Lib.hid (HKk.out.below hbW HKk.out.lt)
      have C' := Lib.hid (HC.out.below hbW HC.out.lt)
      have M' := Lib.hid (ownsMap_below HM.out hbW)
      have B' := Lib.hid (HBs.out.trans (hbW.mono HBs.out.size))
      have KF := Lib.hid (keepsFrom_below (B := W0.heap.size) hbW)
      have KU := Lib.hid (KeepU.below (us := []) hbW HBs.out.size)
      have c0 : w'.cell? ⟨Cb, 0, none⟩ = some (.map (some Mb)) := Blk.cell C'.out 0
      clear hb hbW z0 z1 z2 p0 q0 hc KD
      cases dv with
      | none =>
        gi_wp2
        refine ⟨KF.out, KU.out, ⟨S'.out, T'.out, K'.out, C'.out, ?_⟩, B'.out⟩
        have e9 : (pre ++ [(⟨m, hm⟩ : OffNo p)]).unattach = pre.map (fun x => x.1) ++ [m] := by
          show (pre ++ [(⟨m, hm⟩ : OffNo p)]).map (fun x => x.1) = _
          rw [List.map_append]
          rfl
        show World.ownsMap (H := Unit) w' _ _ _ _ _ (spreadD ns xo.topo p (pre ++ [(⟨m, hm⟩ : OffNo p)]).unattach)
        rw [e9, E.out]
        exact M'.out.mono (by simp)
      | some v =>
        have hvl : ((⟨v.toArray⟩ : ByteArray).size) ≤ maxLen := by
          have := HV.out v rfl
          rw [size_of]
          unfold maxLen
          omega
        have hkey := WideMaps.keyOf_string_mk (P := Tryz.prog) Tryz.underlying9 hvl
        have hown := M'.out
        have hkm : ns.length + pre.length < maxLen := by
          have := hlen2.out
          have := hlp.out
          have := hpl.out
          have := hln.out
          unfold maxLen
          omega
        gi_wp2_with (first
          | (gi_at_lookup; refine wpListIn_lookup_own_int _ rfl _ _ 171 rfl 9 3 .i64 (Maps.string_keyed Tryz.underlying9) Tryz.underlying171 Tryz.underlying3 (Tryz.zeroValue3 _) Mb (ns.length + pre.length) _ rfl hown _ _ rfl hkey ?_; intro c hat hwc)
          | (gi_at_mapUpdate; refine wpListIn_mapUpdate_own _ rfl _ _ _ 171 rfl 9 3 (Maps.string_keyed Tryz.underlying9) Tryz.underlying171 _ Mb (ns.length + pre.length) _ rfl hown hkm _ _ _ rfl rfl hkey _ [] (plainElem_int Tryz.underlying3 (wrap64_wf _)) ?_; intro w3 hown3 hgrow3))
        have hN' := hN.out
        have hnm : ∀ (bb : Nat) (cs : Array Value) (t : TypeId), Blk w' bb cs t → some bb ≠ some Mb := fun bb cs t hbk e => by
          cases e
          obtain ⟨es, clock, hh, _⟩ := hown
          unfold Blk at hbk
          rw [hh] at hbk
          cases hbk
        have hbg : Below w.heap.size w' w3 := (Below.refl w.heap.size w').grown hgrow3 (Nat.le_trans (by have := B'.out.size; exact this) (Nat.le_refl _)) (fun j e => by cases e; omega)
        refine ⟨KF.out.trans (KeepsFrom.of_grownBy hgrow3 (fun j e => by cases e; have := hsz4.out; omega)), KU.out.trans ⟨hbg, fun bb cs t _ h1 => h1.kept hgrow3 (hnm bb cs t h1)⟩, ⟨S'.out.kept hgrow3 (hnm _ _ _ S'.out), T'.out.kept hgrow3 (hnm _ _ _ T'.out), K'.out.kept hgrow3 (hnm _ _ _ K'.out), C'.out.kept hgrow3 (hnm _ _ _ C'.out), ?_⟩, B'.out.trans hbg⟩
        have e9 : (pre ++ [(⟨m, hm⟩ : OffNo p)]).unattach = pre.map (fun x => x.1) ++ [m] := by
          show (pre ++ [(⟨m, hm⟩ : OffNo p)]).map (fun x => x.1) = _
          rw [List.map_append]
          rfl
        show World.ownsMap (H := Unit) w3 _ _ _ _ _ (spreadD ns xo.topo p (pre ++ [(⟨m, hm⟩ : OffNo p)]).unattach)
        rw [e9, E.out]
        unfold bumpD
        rw [numD_lit hat]
        exact hown3.mono (by simp; omega)
    gi_region_with_o (refine ⟨trivial, ?_⟩; gi_at_call 151; refine (CallsIn.inRound l (callsIn_wide.2 KD.out)).mono ?_; rintro e w' ⟨rfl, hb⟩)
    all_goals exact key _ hb
  case done =>
    rintro D ys W hD hys ⟨⟨hS, hT, hKk, hC, hM⟩, hB⟩ hK
    rw [hys] at hM
    obtain ⟨Dd, hDd⟩ : ∃ Dd, spreadD ns xo.topo p (offL p (membersF ps xo.name)) = Dd := ⟨_, rfl⟩
    rw [hDd] at hM
    have HE2 : Hid (R = rowD Dd) := Lib.hid (by rw [HE.out, hDd])
    have hnn : Hid (Maps.size Dd ≤ 2000) := Lib.hid (by
      have h1 := hM.size_le
      have h2 : ys.length ≤ 1000 := by
        have e1 : ys.length = (ys.map (fun x => x.1)).length := by rw [List.length_map]
        rw [e1, hys]
        have := offL_len p (membersF ps xo.name)
        have h3 : (membersF ps xo.name).length ≤ ps.length := membersU_len ps xo.name _
        have := hlp.out
        omega
      have := hln.out
      omega)
    have c0 : W.cell? ⟨Cb, 0, none⟩ = some (.map (some Mb)) := Blk.cell hC 0
    have hmk := run_ints0 W (Maps.size Dd) (by have := hnn.out; omega)
    have HW : Hid (w.heap.size ≤ W.heap.size) := Lib.hid hB.size
    have O1 := Lib.hid (own_made0 W (Maps.size Dd) w.heap.size (by have := hnn.out; omega) hB.size)
    have C1 := Lib.hid (Blk.alloc hC (.cells (madeCells #[.int .i64 0] (Maps.size Dd)) 3))
    have M1 := Lib.hid (hM.alloc (.cells (madeCells #[.int .i64 0] (Maps.size Dd)) 3))
    have B1 := Lib.hid (hB.alloc hB.size (.cells (madeCells #[.int .i64 0] (Maps.size Dd)) 3))
    have D1 : Hid ((W.alloc (.cells (madeCells #[.int .i64 0] (Maps.size Dd)) 3)).heap[D]? = some (.deferred (some []))) := Lib.hid ((Below.heap_alloc W _ D (Array.getElem?_eq_some_iff.1 hK).1).trans hK)
    have HD := Lib.hid hD
    obtain ⟨i0, hi0, hz0, hz1, hz2⟩ := info_parts int_infoK
    rename_i K0 hK0
    clear hS hT hKk hC hB hK hD hys HE hDd KS S4 T4 K4 Q4 M4 BW H HP HSH HX hlp hln hpl
    have c1 : (W.alloc (.cells (madeCells #[.int .i64 0] (Maps.size Dd)) 3)).cell? ⟨Cb, 0, none⟩ = some (.map (some Mb)) := Blk.cell C1.out 0
    have KS2 := Lib.hid (sortedKeys_in Mb _ Dd _ _ M1.out (by have := hnn.out; unfold maxLen; omega) (by have := hnn.out; omega))
    simp only [World.size_alloc] at KS2
    have hfK : Fence.wide.fn 153 := trivial
    have hfS : Fence.wide.fn 152 := trivial
    gi_wp2_with (first
      | (gi_at_len; refine wpListIn_len_own _ rfl _ _ rfl 9 3 Tryz.underlying171 _ Mb _ Dd rfl hM ?_)
      | (gi_at_call 153; refine ((mapsKeys_in (some Mb) _).more (by omega)).mono ?_; rintro e w' ⟨rfl, rfl⟩)
      | (gi_at_call 152; refine (KS2.out.more (by omega)).mono ?_; rintro e w' ⟨v, ss, rfl, hS, hrow, hnil, hb⟩; have hrow2 := own_sorted hS hrow; obtain ⟨A9, c9, rfl, hm9⟩ := La.own_slice hrow2))
    have hb2 : RowKit.Below (W.alloc (.cells (madeCells #[.int .i64 0] (Maps.size Dd)) 3)).heap.size (W.alloc (.cells (madeCells #[.int .i64 0] (Maps.size Dd)) 3)) w' := ((Below.refl _ _).alloc (Nat.le_refl _) _).trans (hb.mono (by simp))
    have O2 := Lib.hid (own_below2 O1.out hb2)
    have C2 := Lib.hid (C1.out.below hb2 C1.out.lt)
    have M2 := Lib.hid (ownsMap_below M1.out hb2)
    have B2 := Lib.hid (B1.out.trans (hb2.mono B1.out.size))
    have D2 : Hid (w'.heap[D]? = some (.deferred (some []))) := Lib.hid ((hb2.block D (Array.getElem?_eq_some_iff.1 D1.out).1).trans D1.out)
    have R2 := Lib.hid (own_base hrow2 (base' := w.heap.size) (by have := B1.out.size; simp at this ⊢; omega))
    have hLL : Hid ((sortK Dd).length ≤ 2000) := Lib.hid (by
      unfold sortK
      rw [List.length_mergeSort]
      have h1 := hnn.out
      cases Dd with
      | map es => simpa [strKeys, Maps.size] using h1
      | _ => simp [strKeys])
    have hRD : Hid (rowD Dd = (sortK Dd).map fun v => numD (Dd.atKey (.string v) (.lit (.int .i64 0)))) := Lib.hid rfl
    have hST := Lib.hid (fun x (hx : x ∈ sortK Dd) => strKeys_le hM Tryz.underlying9 x ((List.mergeSort_perm _ _).mem_iff.1 hx))
    clear hb hb2 hrow hrow2 hS hnil O1 C1 M1 B1 D1 c0 c1 KS2 hmk hM hnn
    generalize sortK Dd = L at R2 hLL hRD hST ⊢
    gi_loopw [56, 12] (fun i v wr => ∃ k : Nat, k ≤ L.length ∧ i = .int .i64 k ∧ wr.ownsRow w.heap.size 3 1 v k (intsC ((rowD Dd).take k)) ∧ wr.ownsRow w.heap.size 9 1 (.slice A9 L.length c9) L.length (L.map encStr) ∧ World.ownsMap (H := Unit) wr Tryz.prog 9 (plainElem (H := Unit) Tryz.prog 3) Mb (ns.length + ys.length) Dd ∧ Blk wr Cb #[.map (some Mb)] 171 ∧ RowKit.Below w.heap.size w wr ∧ wr.heap[D]? = some (.deferred (some []))) (fun i _ _ => L.length - (intOf i).toNat)
    case atStart => exact ⟨0, by omega, rfl, O2.out, R2.out, M2.out, C2.out, B2.out, D2.out⟩
    case round =>
      clear O2 R2 M2 C2 B2 D2
      obtain ⟨k, hk, rfl, ho, hr, hm, hc, hb, hd⟩ := hrel
      have HO := Lib.hid ho
      have HR := Lib.hid hr
      have HM := Lib.hid hm
      have HC := Lib.hid hc
      have HB := Lib.hid hb
      have HDd := Lib.hid hd
      clear ho hr hc hb hd
      by_cases hlt : k < L.length
      · obtain ⟨x, hx⟩ : ∃ x, L[k]? = some x := ⟨L[k], List.getElem?_eq_getElem hlt⟩
        obtain ⟨g, cur, hA, hg, hgb, hgc⟩ := own_blk HR.out (k := k) (y := encStr x) (by rw [List.getElem?_map, hx]; rfl)
        subst hA
        have g0 : wr.cell? ⟨g, k, none⟩ = some (strV x) := (Blk.cell hgb k).trans hgc
        have c0 : wr.cell? ⟨Cb, 0, none⟩ = some (.map (some Mb)) := Blk.cell HC.out 0
        have k0 : (0 : Int) ≤ (k : Int) := by omega
        have k1 : (k : Int) < (L.length : Int) := by omega
        have hvl : ((⟨x.toArray⟩ : ByteArray).size) ≤ maxLen := by
          rw [size_of]
          exact hST.out x (List.mem_of_getElem? hx)
        have hkey := WideMaps.keyOf_string_mk (P := Tryz.prog) Tryz.underlying9 hvl
        have HX2 := Lib.hid hx
        have hkb : Hid (k + 1 ≤ maxLen) := Lib.hid (by have := hLL.out; unfold maxLen; omega)
        have hkc : Hid ((k + 1) * 8 ≤ 140737488355328) := Lib.hid (by have := hLL.out; omega)
        have hwz : Hid (w.heap.size ≤ wr.heap.size) := Lib.hid HB.out.size
        clear hx hgb hgc hvl
        have hLLp : L.length ≤ 2000 := hLL.out
        gi_wp2_with (first
          | (gi_at_lookup; refine wpListIn_lookup_own_int _ rfl _ _ 171 rfl 9 3 .i64 (Maps.string_keyed Tryz.underlying9) Tryz.underlying171 Tryz.underlying3 (Tryz.zeroValue3 _) Mb _ _ rfl hm _ _ rfl hkey ?_; intro c hat hwc)
          | (gi_at_builtin; refine wpListIn_append_own _ rfl _ _ 27 rfl w.heap.size 3 i0 (.int .i64 0) 1 8 Tryz.underlying27 hi0 hz0 hz1 hz2 rfl (by decide) _ _ _ rfl (HO.out.alloc _) ⟨wr.heap.size, 0, none⟩ 1 1 [.int .i64 c] rfl rfl ?c1 ?c2 hkb.out hkc.out ?c5 ?_))
        case c2 => first | rfl | (intro u hu; simp at hu; subst hu; rfl)
        case c5 => have := hwz.out; simp; omega
        intro v' w2' hown' hgrow' _
        have ha0 := HO.out.alloc (.cells #[.int .i64 c] 3)
        have O3 := Lib.hid hown'
        have R3 := Lib.hid (own_own ha0 hgrow' (by decide) (HR.out.alloc (.cells #[.int .i64 c] 3)))
        have M3 := Lib.hid (own_ownsMap ha0 hgrow' (hm.alloc (.cells #[.int .i64 c] 3)))
        have C3 : Hid (Blk w2' Cb #[.map (some Mb)] 171) := Lib.hid (own_other ha0 hgrow' (Blk.alloc HC.out (.cells #[.int .i64 c] 3)) (fun cs e => by cases e))
        have D3 : Hid (w2'.heap[D]? = some (.deferred (some []))) := Lib.hid (own_other ha0 hgrow' ((Below.heap_alloc wr _ D (Array.getElem?_eq_some_iff.1 HDd.out).1).trans HDd.out) (fun cs e => by cases e))
        have B3 := Lib.hid ((HB.out.alloc HB.out.size (.cells #[.int .i64 c] 3)).grown hgrow' (by have := hwz.out; simp; omega) (fun j hj => own_gem HO.out hj))
        have hstep : Hid ((rowD Dd).take (k + 1) = (rowD Dd).take k ++ [c]) := Lib.hid (by
          have h1 : (rowD Dd)[k]? = some c := by
            rw [hRD.out, List.getElem?_map, HX2.out]
            simp only [Option.map_some, Option.some.injEq]
            exact numD_lit hat
          obtain ⟨h2, h3⟩ := List.getElem?_eq_some_iff.1 h1
          rw [List.take_succ_eq_append_getElem h2, h3])
        clear hown' hgrow' ha0 hm hkey g0 c0
        gi_wp2
        go_roundw
        case rel =>
          refine ⟨k + 1, by omega, by go_num, ?_, R3.out, M3.out, C3.out, B3.out, D3.out⟩
          rw [hstep.out]
          have := O3.out
          simpa [intsC] using this
        case measure =>
          simp [intOf]
          omega
      · obtain rfl : k = L.length := by omega
        have hrl : (rowD Dd).length = L.length := by rw [hRD.out, List.length_map]
        gi_wp2
        refine ⟨by simp, .inl ⟨_, _, rfl, run_takeDeferred HDd.out, ?_⟩⟩
        refine ⟨_, results_tmp rfl _ _ _, _, rfl, ?_, HB.out.trans (belowK_b (w := w) (Nat.le_refl _) wr D _ _ (by have := HD.out; have := hN.out; have := hsz4.out; omega) HDd.out rfl rfl)⟩
        rw [HE2.out, hrl]
        have h9 := HO.out
        rw [List.take_of_length_le (by omega)] at h9
        exact ownsRow_putObj h9 _ HDd.out rfl
  case stop =>
    rintro D c pre W _ _ h _
    exact h.elim
end Go.Proofs.YtfpbdfagcfdbbaaGreat

namespace Go.Proofs.YtfpbdfagcfdbbaaGreat
open Go.RowKit Go.Maps Go.Sort

theorem ch_check (N : Nat) : checkS (chN N [98] false) chP chO = 0 := by kernel_rfl
theorem ch_checkL (N : Nat) : checkS (chN N [98] true) chP chO = 0 := by kernel_rfl
theorem ch_checkA (N : Nat) : checkS (chN N [65] true) chP chO = 50 := by kernel_rfl
theorem ch_dom2 (N : Nat) : domE (chN N [98] false) chP chO 2 bZone = none := by kernel_rfl
theorem ch_domL (N : Nat) : domE (chN N [98] true) chP chO 1 bZone = none := by kernel_rfl
theorem ch_ap1 (N : Nat) : applyF (chN N [98] false) chP chO [0, 2, -1] 1 0 0 = ([-1, 2, -1], 0) := by kernel_rfl
theorem ch_ap2 (N : Nat) : applyF (chN N [98] false) chP chO [0, 2, -1] 2 2 1 = ([0, 2, 1], 0) := by kernel_rfl
theorem ch_ap3 (N : Nat) : applyF (chN N [98] false) chP chO [0, 2, -1] 1 2 0 = ([], 110) := by kernel_rfl
theorem ch_moves : movesF [0, 2, -1] [0, 1, 1] = [(1, 1), (2, 1)] := by kernel_rfl
theorem ch_used (N : Nat) : rowV (usedF (chN N [98] false) chP chO [0, 0, -1] 0) = .agg #[.int .i64 20, .int .i64 0, .int .i64 0, .int .i64 0, .int .i64 0] := by kernel_rfl
theorem ch_counts (N : Nat) : countsF (chN N [98] false) chP chO [0, 2, -1] 0 = [1, 0, 1] := by kernel_rfl
theorem ch_placed (N : Nat) : placedF (chN N [98] false) chP chO [0, 2, -1] 0 = 2 := by kernel_rfl
theorem ch_keys (N : Nat) : strKeys (emptyD (chN N [98] false) bZone) = [[120], [121]] := by kernel_rfl
theorem ch_keysL (N : Nat) : strKeys (emptyD (chN N [98] true) bZone) = [[120]] := by kernel_rfl
theorem sort2 : ([[120], [121]] : List (List UInt8)).mergeSort leB = [[120], [121]] := by
  refine List.mergeSort_of_pairwise ?_
  simp
  decide
theorem sort1 : ([[120]] : List (List UInt8)).mergeSort leB = [[120]] := List.mergeSort_singleton _
theorem ch_doms (N : Nat) : domsF (chN N [98] false) chP chO bZone = [[120], [121]] := by
  unfold domsF sortK
  rw [ch_check, if_pos rfl, ch_keys, sort2]
theorem ch_domsL (N : Nat) : domsF (chN N [98] true) chP chO bZone = [[120]] := by
  unfold domsF sortK
  rw [ch_checkL, if_pos rfl, ch_keysL, sort1]
theorem ch_domsA (N : Nat) : domsF (chN N [65] true) chP chO bZone = [] := by
  unfold domsF
  rw [ch_checkA, if_neg (by decide)]
theorem ch_spread (N : Nat) : spreadF (chN N [98] false) chP chO [0, 2, -1] 0 = [1, 0] := by
  have h1 : ownerB (chN N [98] false) chP chO [0, 2, -1] 0 = true := by kernel_rfl
  have h2 : strKeys (spreadD (chN N [98] false) bZone [0, 2, -1] (offL [0, 2, -1] (membersF chP [111]))) = [[120], [121]] := by kernel_rfl
  unfold spreadF
  rw [if_pos h1]
  show rowD (spreadD (chN N [98] false) bZone [0, 2, -1] (offL [0, 2, -1] (membersF chP [111]))) = [1, 0]
  unfold rowD sortK
  rw [h2, sort2]
  kernel_rfl
theorem ch_spreadL (N : Nat) : spreadF (chN N [98] true) chP chO [0, 2, -1] 0 = [1] := by
  have h1 : ownerB (chN N [98] true) chP chO [0, 2, -1] 0 = true := by kernel_rfl
  have h2 : strKeys (spreadD (chN N [98] true) bZone [0, 2, -1] (offL [0, 2, -1] (membersF chP [111]))) = [[120]] := by kernel_rfl
  unfold spreadF
  rw [if_pos h1]
  show rowD (spreadD (chN N [98] true) bZone [0, 2, -1] (offL [0, 2, -1] (membersF chP [111]))) = [1]
  unfold rowD sortK
  rw [h2, sort1]
  kernel_rfl
end Go.Proofs.YtfpbdfagcfdbbaaGreat

namespace Go.Proofs.YtfpbdfagcfdbbaaGreat
open Go.RowKit

/-- A list of texts as a value. -/
structure TextsAt (w : World) (A : Option Addr) (c : Nat) (l : List (List UInt8)) : Prop where
  cells : La.SlAt w A (l.map strV)
  le : l.length ≤ c
  most : c ≤ 9223372036854775807
theorem TextsAt.below {w w' : World} {A : Option Addr} {c : Nat} {l : List (List UInt8)} (h : TextsAt w A c l) (hb : Below w.heap.size w w') : TextsAt w' A c l := ⟨h.cells.below hb, h.le, h.most⟩
theorem TextsAt.own {w : World} {base : Nat} {A : Option Addr} {c : Nat} {l : List (List UInt8)} (h : w.ownsRow base 9 1 (.slice A l.length c) l.length (l.map strV)) : TextsAt w A c l := by
  have hc := capOwn h
  have hm : maxLen ≤ 9223372036854775807 := by unfold maxLen; omega
  exact ⟨La.own_slat h, hc.1, Nat.le_trans hc.2 hm⟩
theorem atT {w : World} {A : Option Addr} {l : List (List UInt8)} (h : La.SlAt w A (l.map strV)) {k : Nat} {x : List UInt8} (hk : l[k]? = some x) :
    ∃ b o, A = some ⟨b, o, none⟩ ∧ b < w.heap.size ∧ w.cell? ⟨b, o + k, none⟩ = some (strV x) := by
  obtain ⟨b, o, hA, h0⟩ := h k (strV x) (by rw [List.getElem?_map, hk]; rfl)
  exact ⟨b, o, hA, World.block_lt_of_cell? w _ h0, h0⟩

end Go.Proofs.YtfpbdfagcfdbbaaGreat

namespace Go.Proofs.YtfpbdfagcfdbbaaGreat.Qu
open Go.RowKit

theorem part_row0 (a b c d e : Int) (w : World) : (Go.part 3 #[.int .i64 a, .int .i64 b, .int .i64 c, .int .i64 d, .int .i64 e] 0).run Tryz.prog w = .ok (.int .i64 a) w := by kernel_rfl
theorem part_row1 (a b c d e : Int) (w : World) : (Go.part 3 #[.int .i64 a, .int .i64 b, .int .i64 c, .int .i64 d, .int .i64 e] 1).run Tryz.prog w = .ok (.int .i64 b) w := by kernel_rfl
theorem part_row2 (a b c d e : Int) (w : World) : (Go.part 3 #[.int .i64 a, .int .i64 b, .int .i64 c, .int .i64 d, .int .i64 e] 2).run Tryz.prog w = .ok (.int .i64 c) w := by kernel_rfl
theorem part_row3 (a b c d e : Int) (w : World) : (Go.part 3 #[.int .i64 a, .int .i64 b, .int .i64 c, .int .i64 d, .int .i64 e] 3).run Tryz.prog w = .ok (.int .i64 d) w := by kernel_rfl
theorem part_row4 (a b c d e : Int) (w : World) : (Go.part 3 #[.int .i64 a, .int .i64 b, .int .i64 c, .int .i64 d, .int .i64 e] 4).run Tryz.prog w = .ok (.int .i64 e) w := by kernel_rfl
theorem int_size (w : World) : (sizeOf 3).run Tryz.prog w = .ok 1 w := by kernel_rfl
theorem eq_int (n : Nat) (a : Int) (w : World) : (Op.equalIn (n + 1) 3 (.int .i64 a) (.int .i64 a)).run Tryz.prog w = .ok true w := by
  rw [run_equalIn_int w n 3 .i64 .i64 a a Tryz.underlying3]
  simp
theorem eq_row_in (n : Nat) (a b c d e : Int) (w : World) : (Op.equalIn (n + 2) 60 (.agg #[.int .i64 a, .int .i64 b, .int .i64 c, .int .i64 d, .int .i64 e]) (.agg #[.int .i64 a, .int .i64 b, .int .i64 c, .int .i64 d, .int .i64 e])).run Tryz.prog w = .ok true w := by
  rw [Op.equalIn]
  simp only [Sem.run_bind, run_underlying Tryz.underlying60, Result.andThen_ok, int_size]
  simp [Std.Legacy.Range.forIn_eq_forIn_range', Std.Legacy.Range.size, List.range', Sem.run_bind, part_row0, part_row1, part_row2, part_row3, part_row4, eq_int]
theorem eq_row (a b c d e : Int) (w : World) : (Op.equalIn 10000 60 (.agg #[.int .i64 a, .int .i64 b, .int .i64 c, .int .i64 d, .int .i64 e]) (.agg #[.int .i64 a, .int .i64 b, .int .i64 c, .int .i64 d, .int .i64 e])).run Tryz.prog w = .ok true w := eq_row_in 9998 a b c d e w
theorem vec_guard : Tryz.prog.eqGuardType Tryz.prog.depth 60 = false := by kernel_rfl

end Go.Proofs.YtfpbdfagcfdbbaaGreat.Qu

namespace Go.Proofs.YtfpbdfagcfdbbaaGreat
open Go.RowKit

theorem ints_new (W : World) (l : List Int) (hl : l.length ≤ 1000) : IntsAt (W.alloc (.cells (intsC l).toArray 3)) (some ⟨W.heap.size, 0, none⟩) l.length l := by
  refine ⟨fun j y hj => ⟨W.heap.size, 0, rfl, ?_⟩, Nat.le_refl _, by omega⟩
  rw [Nat.zero_add, Blk.cell (Blk.new W _ _) j, ← hj, ← List.getElem?_toArray]
theorem texts_new (W : World) (l : List (List UInt8)) (hl : l.length ≤ 1000) : TextsAt (W.alloc (.cells (l.map strV).toArray 9)) (some ⟨W.heap.size, 0, none⟩) l.length l := by
  refine ⟨fun j y hj => ⟨W.heap.size, 0, rfl, ?_⟩, Nat.le_refl _, by omega⟩
  rw [Nat.zero_add, Blk.cell (Blk.new W _ _) j, ← hj, ← List.getElem?_toArray]
theorem part_mov0 (a b : Int) (w : World) : (part 3 #[.int .i64 a, .int .i64 b] 0).run Tryz.prog w = .ok (.int .i64 a) w := by kernel_rfl
theorem part_mov1 (a b : Int) (w : World) : (part 3 #[.int .i64 a, .int .i64 b] 1).run Tryz.prog w = .ok (.int .i64 b) w := by kernel_rfl
/-- The cluster, its box, a placement lie in memory. -/
structure WkAt (w W : World) (N Sb : Nat) (B : Option Addr) (cb : Nat) (P : Option Addr) (p : List Int) : Prop where
  s : SnapAt W (some ⟨N + 3, 0, none⟩) B (some ⟨N + 4, 0, none⟩) 3 cb 1 (chN N [98] false) chP chO
  b : Blk W Sb #[.slice (some ⟨N + 3, 0, none⟩) 3 3, .slice B 3 cb, .slice (some ⟨N + 4, 0, none⟩) 1 1] 26
  p : IntsAt W P p.length p
  w : Below w.heap.size w W
theorem WkAt.below {w W W' : World} {N Sb : Nat} {B : Option Addr} {cb : Nat} {P : Option Addr} {p : List Int} (h : WkAt w W N Sb B cb P p) (hb : Below W.heap.size W W') : WkAt w W' N Sb B cb P p :=
  ⟨h.s.below hb, h.b.below hb h.b.lt, h.p.below hb, h.w.trans (hb.mono h.w.size)⟩
theorem WkAt.c0 {w W : World} {N Sb : Nat} {B : Option Addr} {cb : Nat} {P : Option Addr} {p : List Int} (h : WkAt w W N Sb B cb P p) : W.cell? ⟨Sb, 0, none⟩ = some (.slice (some ⟨N + 3, 0, none⟩) 3 3) ∧ W.cell? ⟨Sb, 1, none⟩ = some (.slice B 3 cb) ∧ W.cell? ⟨Sb, 2, none⟩ = some (.slice (some ⟨N + 4, 0, none⟩) 1 1) :=
  ⟨Blk.cell h.b 0, Blk.cell h.b 1, Blk.cell h.b 2⟩

end Go.Proofs.YtfpbdfagcfdbbaaGreat

namespace Go.Proofs.YtfpbdfagcfdbbaaGreat
open Go.RowKit

theorem ch_bad1 (N : Nat) : placeE (chN N [98] false) chP chO [] = 2 := by kernel_rfl
theorem ch_bad2 (N : Nat) : placeE (chN N [98] false) chP chO [0, 0] = 2 := by kernel_rfl
theorem ch_bad3 (N : Nat) : placeE (chN N [98] false) chP chO [0, 0, 0, 0] = 2 := by kernel_rfl
theorem ch_bad4 (N : Nat) : placeE (chN N [98] false) chP chO [0, 0, 3] = 2 := by kernel_rfl
theorem ch_bad5 (N : Nat) : placeE (chN N [98] false) chP chO [0, 0, -2] = 2 := by kernel_rfl
def stepsL : List (Int × Int × Int) := [(0, 0, 0), (3, 0, 0), (1, -1, 0), (1, 3, 0), (1, 0, 1), (2, 2, 3), (2, 2, -1), (2, 0, 1), (1, 2, 0)]
def wantL : List Int := [2, 2, 9, 9, 9, 9, 9, 110, 110]
def stepsC : List Value := stepsL.flatMap fun x => [.int .i64 x.1, .int .i64 x.2.1, .int .i64 x.2.2]
theorem ch_steps (N : Nat) (k : Nat) (hk : k < 9) : ∃ kd pd nd e r, stepsC[k * 3]? = some (.int .i64 kd) ∧ stepsC[k * 3 + 1]? = some (.int .i64 pd) ∧ stepsC[k * 3 + 2]? = some (.int .i64 nd) ∧ (intsC wantL)[k]? = some (.int .i64 e) ∧ applyF (chN N [98] false) chP chO [0, 2, -1] kd pd nd = (r, e) := by
  match k, hk with
  | 0, _ => exact ⟨0, 0, 0, 2, [], rfl, rfl, rfl, rfl, by kernel_rfl⟩
  | 1, _ => exact ⟨3, 0, 0, 2, [], rfl, rfl, rfl, rfl, by kernel_rfl⟩
  | 2, _ => exact ⟨1, -1, 0, 9, [], rfl, rfl, rfl, rfl, by kernel_rfl⟩
  | 3, _ => exact ⟨1, 3, 0, 9, [], rfl, rfl, rfl, rfl, by kernel_rfl⟩
  | 4, _ => exact ⟨1, 0, 1, 9, [], rfl, rfl, rfl, rfl, by kernel_rfl⟩
  | 5, _ => exact ⟨2, 2, 3, 9, [], rfl, rfl, rfl, rfl, by kernel_rfl⟩
  | 6, _ => exact ⟨2, 2, -1, 9, [], rfl, rfl, rfl, rfl, by kernel_rfl⟩
  | 7, _ => exact ⟨2, 0, 1, 110, [], rfl, rfl, rfl, rfl, by kernel_rfl⟩
  | 8, _ => exact ⟨1, 2, 0, 110, [], rfl, rfl, rfl, rfl, by kernel_rfl⟩
theorem ch_apL (N : Nat) : applyF (chN N [98] true) chP chO [0, 2, -1] 2 2 1 = ([], 110) := by kernel_rfl
theorem ch_plL (N : Nat) : placeE (chN N [98] true) chP chO [1, -1, -1] = 2 := by kernel_rfl
theorem ch_plA (N : Nat) : placeE (chN N [65] true) chP chO [0, 2, -1] = 50 := by kernel_rfl
theorem ch_used3 (N : Nat) : rowV (usedF (chN N [98] false) chP chO [0, 2, -1] 3) = .agg #[.int .i64 0, .int .i64 0, .int .i64 0, .int .i64 0, .int .i64 0] := by kernel_rfl
theorem ch_usedM (N : Nat) : rowV (usedF (chN N [98] false) chP chO [0, 2, -1] (-1)) = .agg #[.int .i64 0, .int .i64 0, .int .i64 0, .int .i64 0, .int .i64 0] := by kernel_rfl
theorem ch_counts1 (N : Nat) : countsF (chN N [98] false) chP chO [0, 2, -1] 1 = [] := by kernel_rfl
theorem ch_movesN : movesF [] [0, 2, -1] = [] := by kernel_rfl
theorem bad_ap {ns : List NodeD} {ps : List PodD} {os : List OwnD} {l : List Int} (h : placeE ns ps os l = 2) : applyF ns ps os l 1 0 0 = ([], 2) := by
  unfold applyF
  rw [h, if_neg (by decide)]
theorem bad_used {ns : List NodeD} {ps : List PodD} {os : List OwnD} {l : List Int} (h : placeE ns ps os l = 2) : rowV (usedF ns ps os l 0) = .agg #[.int .i64 0, .int .i64 0, .int .i64 0, .int .i64 0, .int .i64 0] := by
  have e : usedF ns ps os l 0 = fun _ => 0 := by
    funext k
    unfold usedF
    rw [if_neg (by rw [h]; rintro ⟨h1, _⟩; cases h1)]
  rw [e]
theorem bad_placed {ns : List NodeD} {ps : List PodD} {os : List OwnD} {l : List Int} (h : placeE ns ps os l = 2) : placedF ns ps os l 0 = 0 := by
  have e : ownerB ns ps os l 0 = false := by
    unfold ownerB
    rw [h]
    rfl
  unfold placedF
  rw [e]
  rfl

/-- The chapter's cluster (a name and a mark turned), its box lie in memory. -/
structure NmAt (w W : World) (N Sb : Nat) (B : Option Addr) (cb : Nat) (nm : List UInt8) (lost : Bool) : Prop where
  c : ChapAt W N (.slice B 3 cb) 3 nm lost
  b : Blk W Sb #[.slice (some ⟨N + 3, 0, none⟩) 3 3, .slice B 3 cb, .slice (some ⟨N + 4, 0, none⟩) 1 1] 26
  w : Below w.heap.size w W
theorem NmAt.below {w W W' : World} {N Sb : Nat} {B : Option Addr} {cb : Nat} {nm : List UInt8} {lost : Bool} (h : NmAt w W N Sb B cb nm lost) (hb : Below W.heap.size W W') : NmAt w W' N Sb B cb nm lost :=
  ⟨h.c.kept hb, h.b.below hb h.b.lt, h.w.trans (hb.mono h.w.size)⟩
theorem NmAt.s {w W : World} {N Sb : Nat} {B : Option Addr} {cb : Nat} {nm : List UInt8} {lost : Bool} (h : NmAt w W N Sb B cb nm lost) (hn : nm.length ≤ 1000) : SnapAt W (some ⟨N + 3, 0, none⟩) B (some ⟨N + 4, 0, none⟩) 3 cb 1 (chN N nm lost) chP chO := h.c.snap hn
theorem NmAt.c0 {w W : World} {N Sb : Nat} {B : Option Addr} {cb : Nat} {nm : List UInt8} {lost : Bool} (h : NmAt w W N Sb B cb nm lost) : W.cell? ⟨Sb, 0, none⟩ = some (.slice (some ⟨N + 3, 0, none⟩) 3 3) ∧ W.cell? ⟨Sb, 1, none⟩ = some (.slice B 3 cb) ∧ W.cell? ⟨Sb, 2, none⟩ = some (.slice (some ⟨N + 4, 0, none⟩) 1 1) :=
  ⟨Blk.cell h.b 0, Blk.cell h.b 1, Blk.cell h.b 2⟩
/-- Placements that may not be, in a row. -/
def BadAt (W : World) (N Bb : Nat) : Prop := ∀ k, k < 5 → ∃ A c l, W.cell? ⟨Bb, k, none⟩ = some (.slice A (List.length l) c) ∧ IntsAt W A c l ∧ placeE (chN N [98] false) chP chO l = 2
theorem bad_of {W : World} {N Bb : Nat} {a1 a2 a3 a4 : Option Addr} (hB : Blk W Bb #[.slice none 0 0, .slice a1 2 2, .slice a2 4 4, .slice a3 3 3, .slice a4 3 3] 27) (h1 : IntsAt W a1 2 [0, 0]) (h2 : IntsAt W a2 4 [0, 0, 0, 0]) (h3 : IntsAt W a3 3 [0, 0, 3]) (h4 : IntsAt W a4 3 [0, 0, -2]) : BadAt W N Bb := by
  intro k hk
  match k, hk with
  | 0, _ => exact ⟨none, 0, [], Blk.cell hB 0, IntsAt.nil W, ch_bad1 N⟩
  | 1, _ => exact ⟨a1, 2, [0, 0], Blk.cell hB 1, h1, ch_bad2 N⟩
  | 2, _ => exact ⟨a2, 4, [0, 0, 0, 0], Blk.cell hB 2, h2, ch_bad3 N⟩
  | 3, _ => exact ⟨a3, 3, [0, 0, 3], Blk.cell hB 3, h3, ch_bad4 N⟩
  | 4, _ => exact ⟨a4, 3, [0, 0, -2], Blk.cell hB 4, h4, ch_bad5 N⟩

theorem blk_ne {W : World} {a b : Nat} {cs ds : Array Value} {t u : TypeId} (h : Blk W a cs t) (h' : Blk W b ds u) (ht : t ≠ u) : a ≠ b := fun e => by
  subst e
  unfold Blk at h h'
  rw [h] at h'
  cases h'
  exact ht rfl
theorem ints_oth {W : World} {P c g : Nat} {l : List Int} (h : IntsAt W (some ⟨P, 0, none⟩) c l) (hg : P ≠ g) (i : Nat) (v : Value) : IntsAt (W.setCell ⟨g, i, none⟩ v) (some ⟨P, 0, none⟩) c l := by
  refine ⟨fun j y hj => ?_, h.le, h.most⟩
  obtain ⟨b, o, hA, hc⟩ := h.cells j y hj
  cases hA
  exact ⟨P, 0, rfl, (World.cell?_of_block (a := ⟨P, 0 + j, none⟩) (Below.heap_setCell W ⟨g, i, none⟩ v P hg)).trans hc⟩
theorem ints_nb {W : World} {P c g : Nat} {x : Int} {l : List Int} {cs : List Value} {t : TypeId} {b : List UInt8} (h : IntsAt W (some ⟨P, 0, none⟩) c (x :: l)) (hg : Blk W g cs.toArray t) (h0 : cs[0]? = some (strV b)) : P ≠ g := fun e => by
  subst e
  obtain ⟨b', o', hA, hc⟩ := h.cells 0 (.int .i64 x) rfl
  cases hA
  rw [Nat.add_zero, Blk.cell hg 0, List.getElem?_toArray, h0] at hc
  cases hc
theorem NmAt.lose {w W : World} {Sb : Nat} {B : Option Addr} {cb : Nat} (h : NmAt w W w.heap.size Sb B cb [98] false) : NmAt w (W.setCell ⟨w.heap.size + 3, 19, none⟩ (.bool true)) w.heap.size Sb B cb [98] true :=
  ⟨⟨h.c.l1.oth (by omega) _ _, h.c.l2.oth (by omega) _ _, h.c.n.set 19 (.bool true), h.c.o.oth (by omega) _ _, ch_set h.c.p h.c.n (by decide) _ _⟩, h.b.oth (blk_ne h.b h.c.n (by decide)) _ _, h.w.setCell (p := ⟨w.heap.size + 3, 19, none⟩) (Nat.le_add_right _ _) _⟩
theorem NmAt.name {w W : World} {Sb : Nat} {B : Option Addr} {cb : Nat} (h : NmAt w W w.heap.size Sb B cb [98] true) : NmAt w (W.setCell ⟨w.heap.size + 3, 10, none⟩ (strV [65])) w.heap.size Sb B cb [65] true :=
  ⟨⟨h.c.l1.oth (by omega) _ _, h.c.l2.oth (by omega) _ _, h.c.n.set 10 (strV [65]), h.c.o.oth (by omega) _ _, ch_set h.c.p h.c.n (by decide) _ _⟩, h.b.oth (blk_ne h.b h.c.n (by decide)) _ _, h.w.setCell (p := ⟨w.heap.size + 3, 10, none⟩) (Nat.le_add_right _ _) _⟩

end Go.Proofs.YtfpbdfagcfdbbaaGreat
