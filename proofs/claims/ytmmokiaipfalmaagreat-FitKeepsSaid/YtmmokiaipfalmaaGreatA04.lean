/- May a cluster be, and may its sums? The contract of Check. Condition: the cluster lies in memory. Lists of numbers in memory; whether a place is one, whether a node takes pods. No conditions but that what is read lies in memory. May a placement be? The contract of Check. Condition: the cluster and the numbers lie in memory. A placement in which one pod is elsewhere; what evict and bind answer. Condition: the numbers lie in memory. What a step makes of a placement: the contracts of evict, bind and Apply. Condition: the cluster and the numbers lie in memory. Lists of numbers held against each other; what is unlike in two of them. Condition: they lie in memory. Whose a pod is; which value a node has for a key: the contracts of Members and domainOf. Condition: the cluster lies in memory. Which value a node has for a key: the contract of domainOf. Condition: the cluster lies in memory. Who goes through the pods of a node: the contracts of podsOn and of what it hands back. Condition: the numbers lie in memory. What the pods of a node ask for: the contract of Used. Condition: the cluster and the numbers lie in memory. What the pods of a node ask for: the contract of Used where there is the node. Condition: the cluster and the numbers lie in memory. From what a law's walk gives to the law's row, where no variable is listed: the arguments read as they did, nothing that was there has turned. No conditions of its own. Whether there is an owner at a place, of a placement that may be; the value of a node for a key. Condition: the cluster and the numbers lie in memory. The chapter's cluster. No conditions. Who goes through the pods of an owner that do not wait: the contracts of podsOf and of what it hands back. Condition: the cluster and the numbers lie in memory. -/
import Derived.Test.YtmmokiaipfalmaaGreatA03
import Derived.Test.YtmmokiaipfalmaaGreatShelf
import Derived.RangeFuncNested
import Derived.RangeFuncBound
import Derived.RangeFuncCalls
import Derived.RangeFuncLeaves
import Derived.RangeFuncBox
import Derived.Shelf.Abstract
import Derived.Shelf.RegionOpen
import Derived.WalkKit
import Derived.OwnWalkIn
import Derived.TacticsInMore
import Derived.LoopNIn
import Derived.LoopIn
import Derived.Test.YtmmokiaipfalmaaGreatRows
import Derived.ProofKit
import Derived.OpenShut
import Derived.Carry
import Derived.LaidSub
import Derived.Deep.DeepHandedRow
import Derived.Deep.RegionLawGrows

namespace Go.Proofs.YtmmokiaipfalmaaGreat
open Go.RowKit

/-- What Check tells. -/
def checkS (ns : List NodeD) (ps : List PodD) (os : List OwnD) : Int := if clusB ns ps os then (if sumB (ns.map (·.cap)) && sumB (ps.map (·.req)) then 0 else 10) else 50
set_option maxRecDepth 100000 in
set_option maxHeartbeats 4000000 in
theorem check_any (A B C : Option Addr) (ca cb cc : Nat) (ns : List NodeD) (ps : List PodD) (os : List OwnD) (w : World) (h : SnapAt w A B C ca cb cc ns ps os) :
    Calls Tryz.prog 71 #[snapV A B C ca cb cc ns ps os] w fun e w' => e = .returned (.int .i64 (checkS ns ps os)) ∧ Below w.heap.size w w' := by
  have H := Lib.hid h
  have B0 : Hid (Below w.heap.size w (w.alloc (.cells (snapC A B C ca cb cc ns ps os) 26))) := Lib.hid (below1 w _)
  have S0 : Hid (Blk (w.alloc (.cells (snapC A B C ca cb cc ns ps os) 26)) w.heap.size (snapC A B C ca cb cc ns ps os) 26) := Lib.hid (Blk.new w _ _)
  have hg1 : ∀ (args : Array Value) (w : World), (callFunc 146 args).run Tryz.prog w = .ok (.enter 146 args) w := fun _ _ => by kernel_rfl
  have hg2 : ∀ (args : Array Value) (w : World), (callFunc 148 args).run Tryz.prog w = .ok (.enter 148 args) w := fun _ _ => by kernel_rfl
  have KM := Lib.hid (may_any A B C ca cb cc ns ps os (w.alloc (.cells (snapC A B C ca cb cc ns ps os) 26)) (H.out.below B0.out))
  have E1 := Lib.hid (fun w' (hb : Below w.heap.size w w') => eachNV A ca ns 146 w' H.out.ln (H.out.below hb).n.cells (fun e => noneN (w := w) (e ▸ H.out.n.cells)) hg1 capOf_any)
  have E2 := Lib.hid (fun w' (hb : Below w.heap.size w w') => eachPV B cb ps 148 w' H.out.lp (H.out.below hb).p.cells (fun e => noneP (w := w) (e ▸ H.out.p.cells)) hg2 reqOf_any)
  have F1 := Lib.hid (fun (w' : World) (base : Nat) (A : Option Addr) (c : Nat) (ho : w'.ownsRow base 47 5 (.slice A ns.length c) ns.length (ns.flatMap fun x => rowC x.cap)) => by
    have k := sum_any A c (ns.map (·.cap)) w' (by simpa using H.out.ln) (rowsOf (·.cap) ns ho)
    rwa [List.length_map] at k)
  have F2 := Lib.hid (fun (w' : World) (base : Nat) (A : Option Addr) (c : Nat) (ho : w'.ownsRow base 47 5 (.slice A ps.length c) ps.length (ps.flatMap fun x => rowC x.req)) => by
    have k := sum_any A c (ps.map (·.req)) w' (by simpa using H.out.lp) (rowsOf (·.req) ps ho)
    rwa [List.length_map] at k)
  have E : Hid (checkS ns ps os = if clusB ns ps os then (if sumB (ns.map (·.cap)) && sumB (ps.map (·.req)) then 0 else 10) else 50) := Lib.hid rfl
  generalize checkS ns ps os = R at E ⊢
  generalize clusB ns ps os = v0 at KM E
  generalize sumB (ns.map (·.cap)) = v1 at F1 E
  generalize sumB (ps.map (·.req)) = v2 at F2 E
  clear h H hg1 hg2
  have hlt0 : w.heap.size < (w.alloc (.cells (snapC A B C ca cb cc ns ps os) 26)).heap.size := Blk.lt S0.out
  go_enter Tryz.func71, Tryz.ntmps71
  go_wp2_with fail
  refine (KM.out).mono ?_
  rintro e w1 ⟨rfl, hb⟩
  clear KM
  have S1 := Lib.hid (S0.out.below hb hlt0)
  have B1 := Lib.hid (B0.out.trans (hb.mono (Nat.le_of_lt hlt0)))
  clear hb
  have hl1 := Blk.lt S1.out
  have s0 : w1.cell? ⟨w.heap.size, 0, none⟩ = some (.slice A ns.length ca) := Blk.cell S1.out 0
  have s1 : w1.cell? ⟨w.heap.size, 1, none⟩ = some (.slice B ps.length cb) := Blk.cell S1.out 1
  have s2 : w1.cell? ⟨w.heap.size, 2, none⟩ = some (.slice C os.length cc) := Blk.cell S1.out 2
  cases v0
  · have HE : Hid (R = 50) := Lib.hid (by rw [E.out]; simp)
    go_wp2
    go_ret
    exact ⟨La.retI HE.out.symm, B1.out⟩
  go_wp2_with fail
  refine (E1.out _ B1.out).mono ?_
  rintro e w2 ⟨u1, rfl, ho, hb⟩
  obtain ⟨A1, c1, rfl, hm⟩ := La.own_slice ho
  have KF := Lib.hid (F1.out _ _ _ _ ho)
  clear ho hm E1 F1 s0 s1 s2
  have S2 := Lib.hid (S1.out.below hb hl1)
  have B2 := Lib.hid (B1.out.trans (hb.mono (Nat.le_of_lt hl1)))
  clear hb
  have hl2 := Blk.lt S2.out
  have s0 : w2.cell? ⟨w.heap.size, 0, none⟩ = some (.slice A ns.length ca) := Blk.cell S2.out 0
  have s1 : w2.cell? ⟨w.heap.size, 1, none⟩ = some (.slice B ps.length cb) := Blk.cell S2.out 1
  have s2 : w2.cell? ⟨w.heap.size, 2, none⟩ = some (.slice C os.length cc) := Blk.cell S2.out 2
  go_wp2_with fail
  refine (KF.out).mono ?_
  rintro e w3 ⟨rfl, hb⟩
  clear KF s0 s1 s2
  have S3 := Lib.hid (S2.out.below hb hl2)
  have B3 := Lib.hid (B2.out.trans (hb.mono (Nat.le_of_lt hl2)))
  clear hb
  have hl3 := Blk.lt S3.out
  have s0 : w3.cell? ⟨w.heap.size, 0, none⟩ = some (.slice A ns.length ca) := Blk.cell S3.out 0
  have s1 : w3.cell? ⟨w.heap.size, 1, none⟩ = some (.slice B ps.length cb) := Blk.cell S3.out 1
  have s2 : w3.cell? ⟨w.heap.size, 2, none⟩ = some (.slice C os.length cc) := Blk.cell S3.out 2
  cases v1
  · have HE : Hid (R = 10) := Lib.hid (by rw [E.out]; simp)
    go_wp2
    go_ret
    exact ⟨La.retI HE.out.symm, B3.out⟩
  go_wp2_with fail
  refine (E2.out _ B3.out).mono ?_
  rintro e w4 ⟨u2, rfl, ho, hb⟩
  obtain ⟨A2, c2, rfl, hm⟩ := La.own_slice ho
  have KF := Lib.hid (F2.out _ _ _ _ ho)
  clear ho hm E2 F2 s0 s1 s2
  have S4 := Lib.hid (S3.out.below hb hl3)
  have B4 := Lib.hid (B3.out.trans (hb.mono (Nat.le_of_lt hl3)))
  clear hb
  have hl4 := Blk.lt S4.out
  have s0 : w4.cell? ⟨w.heap.size, 0, none⟩ = some (.slice A ns.length ca) := Blk.cell S4.out 0
  have s1 : w4.cell? ⟨w.heap.size, 1, none⟩ = some (.slice B ps.length cb) := Blk.cell S4.out 1
  have s2 : w4.cell? ⟨w.heap.size, 2, none⟩ = some (.slice C os.length cc) := Blk.cell S4.out 2
  go_wp2_with fail
  refine (KF.out).mono ?_
  rintro e w5 ⟨rfl, hb⟩
  clear KF s0 s1 s2
  have S5 := Lib.hid (S4.out.below hb hl4)
  have B5 := Lib.hid (B4.out.trans (hb.mono (Nat.le_of_lt hl4)))
  clear hb
  have hl5 := Blk.lt S5.out
  cases v2
  · have HE : Hid (R = 10) := Lib.hid (by rw [E.out]; simp)
    go_wp2
    go_ret
    exact ⟨La.retI HE.out.symm, B5.out⟩
  have HE : Hid (R = 0) := Lib.hid (by rw [E.out]; simp)
  go_wp2
  go_ret
  exact ⟨La.retI HE.out.symm, B5.out⟩
end Go.Proofs.YtmmokiaipfalmaaGreat

namespace Go.Proofs.YtmmokiaipfalmaaGreat
open Go.RowKit

abbrev intsC (l : List Int) : List Value := l.map (Value.int .i64)
theorem atI {w : World} {A : Option Addr} {l : List Int} (h : La.SlAt w A (intsC l)) {k : Nat} {x : Int} (hk : l[k]? = some x) :
    ∃ b o, A = some ⟨b, o, none⟩ ∧ b < w.heap.size ∧ w.cell? ⟨b, o + k, none⟩ = some (.int .i64 x) := by
  obtain ⟨b, o, hA, h0⟩ := h k (.int .i64 x) (by simp [intsC, hk])
  exact ⟨b, o, hA, World.block_lt_of_cell? w _ h0, h0⟩
/-- A list of numbers as a value. -/
structure IntsAt (w : World) (A : Option Addr) (c : Nat) (l : List Int) : Prop where
  cells : La.SlAt w A (intsC l)
  le : l.length ≤ c
  most : c ≤ 9223372036854775807
theorem IntsAt.below {w w' : World} {A : Option Addr} {c : Nat} {l : List Int} (h : IntsAt w A c l) (hb : Below w.heap.size w w') : IntsAt w' A c l := ⟨h.cells.below hb, h.le, h.most⟩
theorem IntsAt.own {w : World} {base : Nat} {A : Option Addr} {c : Nat} {l : List Int} (h : w.ownsRow base 3 1 (.slice A l.length c) l.length (intsC l)) : IntsAt w A c l := by
  have hc := capOwn h
  have hm : maxLen ≤ 9223372036854775807 := by unfold maxLen; omega
  exact ⟨La.own_slat h, hc.1, Nat.le_trans hc.2 hm⟩
theorem IntsAt.nil (w : World) : IntsAt w none 0 [] := ⟨fun j y h => by simp at h, Nat.le_refl _, by omega⟩

set_option maxHeartbeats 400000 in
theorem isPlace_any (i c : Int) (w : World) :
    Calls Tryz.prog 149 #[.int .i64 i, .int .i64 c] w fun e w' => e = .returned (.bool (decide (0 ≤ i ∧ i < c))) ∧ w' = w := by
  by_cases h0 : 0 ≤ i
  · go_enter Tryz.func149, Tryz.ntmps149
    go_wp2
    go_ret
    exact ⟨La.retB (by simp [h0]), rfl⟩
  · go_enter Tryz.func149, Tryz.ntmps149
    go_wp2
    go_ret
    exact ⟨La.retB (by symm; simp; omega), rfl⟩

set_option maxHeartbeats 1000000 in
theorem ptakes_any (A B C : Option Addr) (ca cb cc lb lc : Nat) (l : List NodeD) (k : Int) (w : World) (hs : La.SlAt w A (cellsN l)) :
    Calls Tryz.prog 72 #[.agg #[.slice A l.length ca, .slice B lb cb, .slice C lc cc], .int .i64 k] w fun e w' => e = .returned (.bool (tpB l k)) ∧ Below w.heap.size w w' := by
  have B0 := Lib.hid (below1 w (.cells #[.slice A l.length ca, .slice B lb cb, .slice C lc cc] 26))
  by_cases h0 : 0 ≤ k ∧ k < (l.length : Int)
  · have KP : Hid (∀ w', Calls Tryz.prog 149 #[.int .i64 k, .int .i64 (l.length : Int)] w' fun e w'' => e = .returned (.bool true) ∧ w'' = w') := Lib.hid (fun w' => by
      have := isPlace_any k l.length w'
      rwa [decide_eq_true h0] at this)
    obtain ⟨n, rfl⟩ : ∃ n : Nat, k = (n : Int) := ⟨k.toNat, by omega⟩
    have hn : n < l.length := by omega
    obtain ⟨x, hx⟩ : ∃ x, l[n]? = some x := ⟨l[n], List.getElem?_eq_getElem hn⟩
    obtain ⟨b, o, hA, hbl, c0, c1, c2, c3, c4, c5, c6, c7, c8, c9⟩ := atN (hs.below B0.out) hx
    subst hA
    have E : Hid (tpB l (n : Int) = !x.lost) := Lib.hid (by unfold tpB; rw [Int.toNat_natCast, hx]; simp)
    have n0 : (0 : Int) ≤ (n : Int) := by omega
    have n1 : (n : Int) < (l.length : Int) := by omega
    have hnot : ∀ (x : Bool) (w : World), (Op.unary .not (.bool x)).run Tryz.prog w = .ok (.bool (!x)) w := fun _ _ => rfl
    clear hs hx h0 c0 c1 c2 c3 c4 c5 c6 c7 c8
    go_enter Tryz.func72, Tryz.ntmps72
    go_wp2_with fail
    refine (KP.out _).mono ?_
    rintro e w1 ⟨rfl, rfl⟩
    go_wp2
    all_goals
      go_ret
      first
        | exact ⟨La.retB E.out.symm, B0.out⟩
        | exact ⟨La.retB (by rw [E.out]; simp_all), B0.out⟩
  · have KP : Hid (∀ w', Calls Tryz.prog 149 #[.int .i64 k, .int .i64 (l.length : Int)] w' fun e w'' => e = .returned (.bool false) ∧ w'' = w') := Lib.hid (fun w' => by
      have := isPlace_any k l.length w'
      rwa [decide_eq_false h0] at this)
    have E : Hid (tpB l k = false) := Lib.hid (by
      unfold tpB
      by_cases hk : 0 ≤ k
      · rw [List.getElem?_eq_none (by omega)]
        simp
      · rw [decide_eq_false hk]
        rfl)
    clear hs h0
    go_enter Tryz.func72, Tryz.ntmps72
    go_wp2_with fail
    refine (KP.out _).mono ?_
    rintro e w1 ⟨rfl, rfl⟩
    go_wp2
    go_ret
    exact ⟨La.retB E.out.symm, B0.out⟩
end Go.Proofs.YtmmokiaipfalmaaGreat

namespace Go.Proofs.YtmmokiaipfalmaaGreat
open Go.RowKit

/-- A number that a placement may have. -/
def okB (ns : List NodeD) (k : Int) : Bool := decide (k = -1) || tpB ns k
/-- What Check tells. -/
def placeE (ns : List NodeD) (ps : List PodD) (os : List OwnD) (p : List Int) : Int := if checkS ns ps os = 0 then (if p.length = ps.length then (if p.all (okB ns) then 0 else 2) else 2) else checkS ns ps os

set_option maxRecDepth 100000 in
set_option maxHeartbeats 4000000 in
theorem pcheck_any (A B C P : Option Addr) (ca cb cc cp : Nat) (ns : List NodeD) (ps : List PodD) (os : List OwnD) (p : List Int) (w : World) (h : SnapAt w A B C ca cb cc ns ps os) (hp : IntsAt w P cp p) :
    Calls Tryz.prog 18 #[snapV A B C ca cb cc ns ps os, .slice P p.length cp] w fun e w' => e = .returned (.int .i64 (placeE ns ps os p)) ∧ Below w.heap.size w w' := by
  have H := Lib.hid h
  have HP := Lib.hid hp
  have B0 : Hid (Below w.heap.size w (w.alloc (.cells (snapC A B C ca cb cc ns ps os) 26))) := Lib.hid (below1 w _)
  have S0 : Hid (Blk (w.alloc (.cells (snapC A B C ca cb cc ns ps os) 26)) w.heap.size (snapC A B C ca cb cc ns ps os) 26) := Lib.hid (Blk.new w _ _)
  have hlp := H.out.lp
  have KC := Lib.hid (check_any A B C ca cb cc ns ps os (w.alloc (.cells (snapC A B C ca cb cc ns ps os) 26)) (H.out.below B0.out))
  have E : Hid (placeE ns ps os p = if checkS ns ps os = 0 then (if p.length = ps.length then (if p.all (okB ns) then 0 else 2) else 2) else checkS ns ps os) := Lib.hid rfl
  have KT := Lib.hid (fun k w' (hb : Below w.heap.size w w') => ptakes_any A B C ca cb cc ps.length os.length ns k w' (H.out.below hb).n.cells)
  generalize placeE ns ps os p = R at E ⊢
  generalize checkS ns ps os = v0 at KC E
  clear h H hp
  have hlt0 : w.heap.size < (w.alloc (.cells (snapC A B C ca cb cc ns ps os) 26)).heap.size := Blk.lt S0.out
  go_enter Tryz.func18, Tryz.ntmps18
  go_wp2_with fail
  refine (KC.out).mono ?_
  rintro e w1 ⟨rfl, hb⟩
  clear KC
  have S1 := Lib.hid (S0.out.below hb hlt0)
  have B1 := Lib.hid (B0.out.trans (hb.mono (Nat.le_of_lt hlt0)))
  clear hb
  have hl1 := Blk.lt S1.out
  have s0 : w1.cell? ⟨w.heap.size, 0, none⟩ = some (.slice A ns.length ca) := Blk.cell S1.out 0
  have s1 : w1.cell? ⟨w.heap.size, 1, none⟩ = some (.slice B ps.length cb) := Blk.cell S1.out 1
  have s2 : w1.cell? ⟨w.heap.size, 2, none⟩ = some (.slice C os.length cc) := Blk.cell S1.out 2
  by_cases hv : v0 = 0
  case neg =>
    have HE : Hid (R = v0) := Lib.hid (by rw [E.out, if_neg hv])
    have hvb : (v0 == 0) = false := by simpa using hv
    go_wp2
    go_ret
    exact ⟨La.retI HE.out.symm, B1.out⟩
  subst hv
  by_cases hn : p.length = ps.length
  case neg =>
    have HE : Hid (R = 2) := Lib.hid (by rw [E.out, if_pos rfl, if_neg hn])
    have hnb : ((p.length : Int) == (ps.length : Int)) = false := by simp; omega
    have hni : ¬ ((p.length : Int) = (ps.length : Int)) := by omega
    go_wp2
    go_ret
    exact ⟨La.retI HE.out.symm, B1.out⟩
  have E2 : Hid (R = if p.all (okB ns) then 0 else 2) := Lib.hid (by rw [E.out, if_pos rfl, if_pos hn])
  have hnb : ((p.length : Int) == (ps.length : Int)) = true := by simp; omega
  have hni : (p.length : Int) = (ps.length : Int) := by omega
  clear E
  go_wp2_with fail
  go_loopw [21] (fun i wr => ∃ k : Nat, k ≤ ps.length ∧ i = .int .i64 k ∧ (∀ j x, j < k → p[j]? = some x → okB ns x = true) ∧ Below w.heap.size w wr ∧ Blk wr w.heap.size (snapC A B C ca cb cc ns ps os) 26) (fun i _ => ps.length - (intOf i).toNat)
  case atStart => exact ⟨0, by omega, rfl, fun j x h => by omega, B1.out, S1.out⟩
  case round =>
    clear s0 s1 s2 B1 S1 hl1
    obtain ⟨k, hk, rfl, hnk, hb, hsk⟩ := hrel
    have HN := Lib.hid hnk
    have HB := Lib.hid hb
    have HS := Lib.hid hsk
    clear hnk hb hsk
    have s0 : wr.cell? ⟨w.heap.size, 0, none⟩ = some (.slice A ns.length ca) := Blk.cell HS.out 0
    have s1 : wr.cell? ⟨w.heap.size, 1, none⟩ = some (.slice B ps.length cb) := Blk.cell HS.out 1
    have s2 : wr.cell? ⟨w.heap.size, 2, none⟩ = some (.slice C os.length cc) := Blk.cell HS.out 2
    by_cases hlt : k < ps.length
    · obtain ⟨x, hx⟩ : ∃ x, p[k]? = some x := ⟨p[k]'(by omega), List.getElem?_eq_getElem (by omega)⟩
      obtain ⟨b, o, hA, hbl, c0⟩ := atI (HP.out.below HB.out).cells hx
      subst hA
      have HX := Lib.hid hx
      have k0 : (0 : Int) ≤ (k : Int) := by omega
      have k1 : (k : Int) < (ps.length : Int) := by omega
      clear hx
      by_cases hm : x = -1
      · subst hm
        go_wp2_with fail
        go_roundw
        case rel =>
          refine ⟨k + 1, by omega, by go_num, fun j y hj hy => ?_, HB.out, HS.out⟩
          by_cases hjk : j = k
          · subst hjk
            rw [HX.out] at hy
            cases hy
            rfl
          · exact HN.out j y (by omega) hy
        case measure => simp [intOf]; omega
      · have hmb : (x != -1) = true := by simpa using hm
        have KI := Lib.hid (KT.out x wr HB.out)
        obtain ⟨r, hr⟩ : ∃ r, tpB ns x = r := ⟨_, rfl⟩
        have Hr := Lib.hid hr
        rw [hr] at KI
        clear hr
        have Hm := Lib.hid hm
        clear hm
        go_wp2_with fail
        refine (KI.out).mono ?_
        rintro e w3 ⟨rfl, hb3⟩
        have hlw : w.heap.size < wr.heap.size := Blk.lt HS.out
        have B3 := Lib.hid (HB.out.trans (hb3.mono HB.out.size))
        have S3 := Lib.hid (HS.out.below hb3 hlw)
        clear hb3 KI c0 s0 s1 s2
        cases r
        · have HE : Hid (2 = R) := Lib.hid (by
            rw [E2.out, if_neg]
            rw [List.all_eq_true]
            intro hall
            have := hall x (List.mem_of_getElem? HX.out)
            unfold okB at this
            rw [Hr.out, decide_eq_false Hm.out] at this
            cases this)
          go_wp2
          go_ret
          exact ⟨La.retI HE.out, B3.out⟩
        · go_wp2
          go_roundw
          case rel =>
            refine ⟨k + 1, by omega, by go_num, fun j y hj hy => ?_, B3.out, S3.out⟩
            by_cases hjk : j = k
            · subst hjk
              rw [HX.out] at hy
              cases hy
              unfold okB
              rw [Hr.out, Bool.or_true]
            · exact HN.out j y (by omega) hy
          case measure => simp [intOf]; omega
    · obtain rfl : k = ps.length := by omega
      have HE : Hid (0 = R) := Lib.hid (by
        rw [E2.out, if_pos]
        rw [List.all_eq_true]
        intro y hy
        obtain ⟨j, hj⟩ := List.mem_iff_getElem?.1 hy
        refine HN.out j y ?_ hj
        have := (List.getElem?_eq_some_iff.1 hj).1
        omega)
      go_wp2
      go_ret
      exact ⟨La.retI HE.out, HB.out⟩
end Go.Proofs.YtmmokiaipfalmaaGreat

namespace Go.Proofs.YtmmokiaipfalmaaGreat
open Go.RowKit

theorem own_base {w : World} {base base' : Nat} {e : TypeId} {size : Nat} {v : Value} {k : Nat} {xs : List Value} (h : w.ownsRow base e size v k xs) (hb : base' ≤ base) : w.ownsRow base' e size v k xs := by
  obtain ⟨hl, h1 | ⟨g, cap, cur, hv, h0, hr⟩⟩ := h
  · exact ⟨hl, .inl h1⟩
  · exact ⟨hl, .inr ⟨g, cap, cur, hv, Nat.le_trans hb h0, hr⟩⟩
theorem own_put {w : World} {base : Nat} {e : TypeId} {g n cap : Nat} {xs : List Value} (h : w.ownsRow base e 1 (.slice (some ⟨g, 0, none⟩) n cap) n xs) (k : Nat) (v : Value) :
    (w.setCell ⟨g, k, none⟩ v).ownsRow base e 1 (.slice (some ⟨g, 0, none⟩) n cap) n (xs.set k v) := by
  obtain ⟨hl, h1 | ⟨g', cap', cur, hv, hb, hg, h1, h2, h3, h4⟩⟩ := h
  · cases h1.1
  · cases hv
    refine ⟨by simpa using hl, .inr ⟨g, cap, cur.setIfInBounds k v, rfl, hb, heap_setCell_same _ g _ _ _ _ hg, h1, h2, by simpa using h3, ?_⟩⟩
    rw [Array.toList_setIfInBounds, List.take_set, h4]
theorem own_free {w : World} {base : Nat} {e : TypeId} {g n cap : Nat} {xs : List Value} (h : w.ownsRow base e 1 (.slice (some ⟨g, 0, none⟩) n cap) n xs) (k : Nat) :
    w.frozen? ⟨g, k, none⟩ = false := by
  obtain ⟨hl, h1 | ⟨g', cap', cur, hv, hb, hg, h1, h2, h3, h4⟩⟩ := h
  · cases h1.1
  · cases hv
    exact Blk.free hg k
theorem ints_set (l : List Int) (k : Nat) (x : Int) : (intsC l).set k (.int .i64 x) = intsC (l.set k x) := by simp [intsC, List.map_set]

set_option maxHeartbeats 1000000 in
theorem with_any (P : Option Addr) (cp : Nat) (p : List Int) (k : Nat) (node : Int) (w : World) (hp : IntsAt w P cp p) (hk : k < p.length) (hfew : p.length ≤ 1000) :
    Calls Tryz.prog 154 #[.slice P p.length cp, .int .i64 (k : Int), .int .i64 node] w fun e w' => ∃ v, e = .returned v ∧ w'.ownsRow w.heap.size 3 1 v (p.set k node).length (intsC (p.set k node)) ∧ Below w.heap.size w w' := by
  obtain ⟨x, hx⟩ : ∃ x, p[k]? = some x := ⟨p[k], List.getElem?_eq_getElem hk⟩
  obtain ⟨b, o, hA, hbl, _⟩ := atI hp.cells hx
  subst hA
  have KC := Lib.hid (Tryz.slices_Clone_int b o p.length cp p w (Nat.le_refl _) (by omega) (fun j hj => by
    obtain ⟨b', o', hA', _, hc⟩ := atI hp.cells (k := j) (x := p[j]) (List.getElem?_eq_getElem hj)
    cases hA'
    rw [hc]
    congr 2
    rw [List.getD_eq_getElem?_getD, List.getElem?_eq_getElem hj]
    rfl))
  have k0 : (0 : Int) ≤ (k : Int) := by omega
  have k1 : (k : Int) < (p.length : Int) := by omega
  have HX := Lib.hid hx
  clear hp hx
  go_enter Tryz.func154, Tryz.ntmps154
  go_wp2_with fail
  refine (KC.out).mono ?_
  rintro e w1 ⟨v, rfl, ho, hn, hb⟩
  rw [List.take_length] at ho
  obtain ⟨A1, c1, rfl, hm⟩ := La.own_slice ho
  cases A1 with
  | none =>
    rcases ho.2 with ⟨_, h⟩ | ⟨g, cap, cur, hv, _⟩
    · omega
    · cases hv
  | some a =>
    obtain ⟨g, hg⟩ : ∃ g, a = ⟨g, 0, none⟩ := by
      rcases ho.2 with ⟨_, h⟩ | ⟨g, cap, cur, hv, _⟩
      · omega
      · exact ⟨g, by cases hv; rfl⟩
    subst hg
    have hfr := own_free ho k
    obtain ⟨b2, o2, hA2, hbl2, hcur⟩ := atI (La.own_slat ho) HX.out
    cases hA2
    rw [Nat.zero_add] at hcur
    have hgb : w.heap.size ≤ g := by
      rcases ho.2 with ⟨_, h⟩ | ⟨g', cap, cur, hv, hb', _⟩
      · omega
      · cases hv; exact hb'
    have HO := Lib.hid (own_put ho k (.int .i64 node))
    have HB := Lib.hid (hb.setCell (p := ⟨g, k, none⟩) hgb (.int .i64 node))
    clear ho hb hn KC
    go_wp2
    go_ret
    refine ⟨_, rfl, ?_, HB.out⟩
    have := HO.out
    rw [ints_set] at this
    rw [List.length_set]
    exact this
end Go.Proofs.YtmmokiaipfalmaaGreat

namespace Go.Proofs.YtmmokiaipfalmaaGreat
open Go.RowKit

def evictF (p : List Int) (pd nd : Int) : List Int × Int :=
  if 0 ≤ pd ∧ pd < (p.length : Int) then (if nd = 0 then (if p[pd.toNat]? = some (-1) then ([], 110) else (p.set pd.toNat (-1), 0)) else ([], 9)) else ([], 9)
/-- Is that node lost? -/
def lostB (ns : List NodeD) (k : Nat) : Bool := match ns[k]? with
  | none => false
  | some x => x.lost
def bindF (ns : List NodeD) (p : List Int) (pd nd : Int) : List Int × Int :=
  if 0 ≤ pd ∧ pd < (p.length : Int) then (if 0 ≤ nd ∧ nd < (ns.length : Int) then (if p[pd.toNat]? = some (-1) then (if lostB ns nd.toNat then ([], 110) else (p.set pd.toNat nd, 0)) else ([], 110)) else ([], 9)) else ([], 9)
/-- What Apply answers. -/
def applyF (ns : List NodeD) (ps : List PodD) (os : List OwnD) (p : List Int) (kd pd nd : Int) : List Int × Int :=
  if placeE ns ps os p = 0 then (if kd = 1 then evictF p pd nd else if kd = 2 then bindF ns p pd nd else ([], 2)) else ([], placeE ns ps os p)
abbrev stepV (kd pd nd : Int) : Value := .agg #[.int .i64 kd, .int .i64 pd, .int .i64 nd]
/-- What it is to answer a row and a number. -/
abbrev RowNo (w : World) (F : List Int × Int) (e : Ending) (w' : World) : Prop := ∃ v, e = .returned (.tuple #[v, .int .i64 F.2]) ∧ w'.ownsRow w.heap.size 3 1 v F.1.length (intsC F.1) ∧ Below w.heap.size w w'
theorem nil_post {w w' : World} {c : Int} {F : List Int × Int} (hF : F = ([], c)) (hb : Below w.heap.size w w') : RowNo w F (.returned (.tuple #[.slice none 0 0, .int .i64 c])) w' := by
  subst hF
  exact ⟨_, rfl, World.ownsRow_nil _ _ _ _, hb⟩

set_option maxHeartbeats 1000000 in
theorem evict_any (P : Option Addr) (cp : Nat) (p : List Int) (kd pd nd : Int) (w : World) (hp : IntsAt w P cp p) (hfew : p.length ≤ 1000) :
    Calls Tryz.prog 77 #[.slice P p.length cp, stepV kd pd nd] w fun e w' => RowNo w (evictF p pd nd) e w' := by
  have B0 := Lib.hid (below1 w (.cells #[.int .i64 kd, .int .i64 pd, .int .i64 nd] 39))
  have S0 : Hid (Blk (w.alloc (.cells #[.int .i64 kd, .int .i64 pd, .int .i64 nd] 39)) w.heap.size #[.int .i64 kd, .int .i64 pd, .int .i64 nd] 39) := Lib.hid (Blk.new w _ _)
  by_cases h0 : 0 ≤ pd ∧ pd < (p.length : Int)
  case neg =>
    have KP : Hid (∀ w', Calls Tryz.prog 149 #[.int .i64 pd, .int .i64 (p.length : Int)] w' fun e w'' => e = .returned (.bool false) ∧ w'' = w') := Lib.hid (fun w' => by
      have := isPlace_any pd p.length w'
      rwa [decide_eq_false h0] at this)
    have E : Hid (evictF p pd nd = ([], 9)) := Lib.hid (by unfold evictF; rw [if_neg h0])
    clear hp h0
    go_enter Tryz.func77, Tryz.ntmps77
    go_wp2_with fail
    refine (KP.out _).mono ?_
    rintro e w1 ⟨rfl, rfl⟩
    go_wp2
    go_ret2
    exact nil_post E.out B0.out
  have KP : Hid (∀ w', Calls Tryz.prog 149 #[.int .i64 pd, .int .i64 (p.length : Int)] w' fun e w'' => e = .returned (.bool true) ∧ w'' = w') := Lib.hid (fun w' => by
    have := isPlace_any pd p.length w'
    rwa [decide_eq_true h0] at this)
  obtain ⟨n, rfl⟩ : ∃ n : Nat, pd = (n : Int) := ⟨pd.toNat, by omega⟩
  have hn : n < p.length := by omega
  have n0 : (0 : Int) ≤ (n : Int) := by omega
  have n1 : (n : Int) < (p.length : Int) := by omega
  have E1 : Hid (evictF p (n : Int) nd = if nd = 0 then (if p[n]? = some (-1) then ([], 110) else (p.set n (-1), 0)) else ([], 9)) := Lib.hid (by unfold evictF; rw [if_pos h0, Int.toNat_natCast])
  clear h0
  have s0 := Blk.cell S0.out 0
  have s1 := Blk.cell S0.out 1
  have s2 := Blk.cell S0.out 2
  by_cases hd : nd = 0
  case neg =>
    have E : Hid (evictF p (n : Int) nd = ([], 9)) := Lib.hid (by rw [E1.out, if_neg hd])
    have hdb : (nd != 0) = true := by simpa using hd
    clear hp E1
    go_enter Tryz.func77, Tryz.ntmps77
    go_wp2_with fail
    refine (KP.out _).mono ?_
    rintro e w1 ⟨rfl, rfl⟩
    go_wp2
    go_ret2
    exact nil_post E.out B0.out
  subst hd
  obtain ⟨x, hx⟩ : ∃ x, p[n]? = some x := ⟨p[n], List.getElem?_eq_getElem hn⟩
  have KW := Lib.hid (with_any P cp p n (-1) (w.alloc (.cells #[.int .i64 kd, .int .i64 (n : Int), .int .i64 0] 39)) (hp.below B0.out) hn hfew)
  obtain ⟨b, o, hA, hbl, c0⟩ := atI (hp.below B0.out).cells hx
  subst hA
  by_cases hm : x = -1
  case pos =>
    subst hm
    have E : Hid (evictF p (n : Int) 0 = ([], 110)) := Lib.hid (by rw [E1.out, if_pos rfl, if_pos hx])
    clear hp E1 hx KW
    go_enter Tryz.func77, Tryz.ntmps77
    go_wp2_with fail
    refine (KP.out _).mono ?_
    rintro e w1 ⟨rfl, rfl⟩
    go_wp2
    go_ret2
    exact nil_post E.out B0.out
  have E : Hid (evictF p (n : Int) 0 = (p.set n (-1), 0)) := Lib.hid (by rw [E1.out, if_pos rfl, if_neg (by rw [hx]; simpa using hm)])
  have hmb : (x == -1) = false := by simpa using hm
  clear hp E1 hx
  go_enter Tryz.func77, Tryz.ntmps77
  go_wp2_with fail
  refine (KP.out _).mono ?_
  rintro e w1 ⟨rfl, rfl⟩
  go_wp2_with fail
  refine (KW.out).mono ?_
  rintro e w2 ⟨v, rfl, ho, hb⟩
  have HO := Lib.hid (own_base ho B0.out.size)
  have HB := Lib.hid (B0.out.trans (hb.mono B0.out.size))
  clear ho hb KW
  go_wp2
  go_ret2
  rw [E.out]
  exact ⟨_, rfl, HO.out, HB.out⟩

set_option maxHeartbeats 1000000 in
theorem bind_any (A B C P : Option Addr) (ca cb cc cp lb lc : Nat) (ns : List NodeD) (p : List Int) (kd pd nd : Int) (w : World) (hs : La.SlAt w A (cellsN ns)) (hp : IntsAt w P cp p) (hfew : p.length ≤ 1000) :
    Calls Tryz.prog 78 #[.agg #[.slice A ns.length ca, .slice B lb cb, .slice C lc cc], .slice P p.length cp, stepV kd pd nd] w fun e w' => RowNo w (bindF ns p pd nd) e w' := by
  have B0 := Lib.hid (Qu.below2 w (.cells #[.slice A ns.length ca, .slice B lb cb, .slice C lc cc] 26) (.cells #[.int .i64 kd, .int .i64 pd, .int .i64 nd] 39))
  by_cases h0 : 0 ≤ pd ∧ pd < (p.length : Int)
  case neg =>
    have KP : Hid (∀ w', Calls Tryz.prog 149 #[.int .i64 pd, .int .i64 (p.length : Int)] w' fun e w'' => e = .returned (.bool false) ∧ w'' = w') := Lib.hid (fun w' => by
      have := isPlace_any pd p.length w'
      rwa [decide_eq_false h0] at this)
    have E : Hid (bindF ns p pd nd = ([], 9)) := Lib.hid (by unfold bindF; rw [if_neg h0])
    clear hp h0 hs
    go_enter Tryz.func78, Tryz.ntmps78
    go_wp2_with fail
    refine (KP.out _).mono ?_
    rintro e w1 ⟨rfl, rfl⟩
    go_wp2
    go_ret2
    exact nil_post E.out B0.out
  have KP : Hid (∀ w', Calls Tryz.prog 149 #[.int .i64 pd, .int .i64 (p.length : Int)] w' fun e w'' => e = .returned (.bool true) ∧ w'' = w') := Lib.hid (fun w' => by
    have := isPlace_any pd p.length w'
    rwa [decide_eq_true h0] at this)
  obtain ⟨n, rfl⟩ : ∃ n : Nat, pd = (n : Int) := ⟨pd.toNat, by omega⟩
  have hn : n < p.length := by omega
  have n0 : (0 : Int) ≤ (n : Int) := by omega
  have n1 : (n : Int) < (p.length : Int) := by omega
  have E1 : Hid (bindF ns p (n : Int) nd = if 0 ≤ nd ∧ nd < (ns.length : Int) then (if p[n]? = some (-1) then (if lostB ns nd.toNat then ([], 110) else (p.set n nd, 0)) else ([], 110)) else ([], 9)) := Lib.hid (by unfold bindF; rw [if_pos h0, Int.toNat_natCast])
  clear h0
  by_cases hd : 0 ≤ nd ∧ nd < (ns.length : Int)
  case neg =>
    have E : Hid (bindF ns p (n : Int) nd = ([], 9)) := Lib.hid (by rw [E1.out, if_neg hd])
    have KQ : Hid (∀ w', Calls Tryz.prog 149 #[.int .i64 nd, .int .i64 (ns.length : Int)] w' fun e w'' => e = .returned (.bool false) ∧ w'' = w') := Lib.hid (fun w' => by
      have := isPlace_any nd ns.length w'
      rwa [decide_eq_false hd] at this)
    clear hp E1 hs hd
    go_enter Tryz.func78, Tryz.ntmps78
    go_wp2_with fail
    refine (KP.out _).mono ?_
    rintro e w1 ⟨rfl, rfl⟩
    go_wp2_with fail
    refine (KQ.out _).mono ?_
    rintro e w1 ⟨rfl, rfl⟩
    go_wp2
    go_ret2
    exact nil_post E.out B0.out
  have KQ : Hid (∀ w', Calls Tryz.prog 149 #[.int .i64 nd, .int .i64 (ns.length : Int)] w' fun e w'' => e = .returned (.bool true) ∧ w'' = w') := Lib.hid (fun w' => by
    have := isPlace_any nd ns.length w'
    rwa [decide_eq_true hd] at this)
  obtain ⟨m, rfl⟩ : ∃ m : Nat, nd = (m : Int) := ⟨nd.toNat, by omega⟩
  have hm : m < ns.length := by omega
  have m0 : (0 : Int) ≤ (m : Int) := by omega
  have m1 : (m : Int) < (ns.length : Int) := by omega
  have E2 : Hid (bindF ns p (n : Int) (m : Int) = if p[n]? = some (-1) then (if lostB ns m then ([], 110) else (p.set n (m : Int), 0)) else ([], 110)) := Lib.hid (by rw [E1.out, if_pos hd, Int.toNat_natCast])
  clear E1 hd
  obtain ⟨x, hx⟩ : ∃ x, p[n]? = some x := ⟨p[n], List.getElem?_eq_getElem hn⟩
  obtain ⟨y, hy⟩ : ∃ y, ns[m]? = some y := ⟨ns[m], List.getElem?_eq_getElem hm⟩
  have KW := Lib.hid (with_any P cp p n (m : Int) _ (hp.below B0.out) hn hfew)
  obtain ⟨b, o, hA, hbl, q0⟩ := atI (hp.below B0.out).cells hx
  subst hA
  obtain ⟨b', o', hA', hbl', c0, c1, c2, c3, c4, c5, c6, c7, c8, c9⟩ := atN (hs.below B0.out) hy
  subst hA'
  have hlost : lostB ns m = y.lost := by unfold lostB; rw [hy]
  clear hs hp hy c0 c1 c2 c3 c4 c5 c6 c7 c8
  by_cases hm1 : x = -1
  case neg =>
    have E : Hid (bindF ns p (n : Int) (m : Int) = ([], 110)) := Lib.hid (by rw [E2.out, if_neg (by rw [hx]; simpa using hm1)])
    have hmb : (x != -1) = true := by simpa using hm1
    clear E2 hx KW hlost
    go_enter Tryz.func78, Tryz.ntmps78
    go_wp2_with fail
    refine (KP.out _).mono ?_
    rintro e w1 ⟨rfl, rfl⟩
    go_wp2_with fail
    refine (KQ.out _).mono ?_
    rintro e w1 ⟨rfl, rfl⟩
    go_wp2
    go_ret2
    exact nil_post E.out B0.out
  subst hm1
  obtain ⟨l, hl⟩ : ∃ l, y.lost = l := ⟨_, rfl⟩
  rw [hl] at hlost c9
  clear hl
  cases l
  case true =>
    have E : Hid (bindF ns p (n : Int) (m : Int) = ([], 110)) := Lib.hid (by rw [E2.out, if_pos hx, hlost, if_pos rfl])
    clear E2 hx KW hlost
    go_enter Tryz.func78, Tryz.ntmps78
    go_wp2_with fail
    refine (KP.out _).mono ?_
    rintro e w1 ⟨rfl, rfl⟩
    go_wp2_with fail
    refine (KQ.out _).mono ?_
    rintro e w1 ⟨rfl, rfl⟩
    go_wp2
    go_ret2
    exact nil_post E.out B0.out
  have E : Hid (bindF ns p (n : Int) (m : Int) = (p.set n (m : Int), 0)) := Lib.hid (by rw [E2.out, if_pos hx, hlost, if_neg (by simp)])
  clear E2 hx hlost
  go_enter Tryz.func78, Tryz.ntmps78
  go_wp2_with fail
  refine (KP.out _).mono ?_
  rintro e w1 ⟨rfl, rfl⟩
  go_wp2_with fail
  refine (KQ.out _).mono ?_
  rintro e w1 ⟨rfl, rfl⟩
  go_wp2_with fail
  refine (KW.out).mono ?_
  rintro e w2 ⟨v, rfl, ho, hb⟩
  have HO := Lib.hid (own_base ho B0.out.size)
  have HB := Lib.hid (B0.out.trans (hb.mono B0.out.size))
  clear ho hb KW
  go_wp2
  go_ret2
  rw [E.out]
  exact ⟨_, rfl, HO.out, HB.out⟩

set_option maxHeartbeats 1000000 in
theorem apply_any (A B C P : Option Addr) (ca cb cc cp : Nat) (ns : List NodeD) (ps : List PodD) (os : List OwnD) (p : List Int) (kd pd nd : Int) (w : World) (h : SnapAt w A B C ca cb cc ns ps os) (hp : IntsAt w P cp p) :
    Calls Tryz.prog 23 #[snapV A B C ca cb cc ns ps os, .slice P p.length cp, stepV kd pd nd] w fun e w' => RowNo w (applyF ns ps os p kd pd nd) e w' := by
  have B0 := Lib.hid (Qu.below2 w (.cells (snapC A B C ca cb cc ns ps os) 26) (.cells #[.int .i64 kd, .int .i64 pd, .int .i64 nd] 39))
  have S0 : Hid (Blk ((w.alloc (.cells (snapC A B C ca cb cc ns ps os) 26)).alloc (.cells #[.int .i64 kd, .int .i64 pd, .int .i64 nd] 39)) (w.heap.size + 1) #[.int .i64 kd, .int .i64 pd, .int .i64 nd] 39) := Lib.hid (blk2 w _ _ _)
  have Z0 : Hid (Blk ((w.alloc (.cells (snapC A B C ca cb cc ns ps os) 26)).alloc (.cells #[.int .i64 kd, .int .i64 pd, .int .i64 nd] 39)) w.heap.size (snapC A B C ca cb cc ns ps os) 26) := Lib.hid (Blk.alloc (Blk.new w _ _) _)
  have hlt0 := Blk.lt S0.out
  have KC := Lib.hid (pcheck_any A B C P ca cb cc cp ns ps os p _ (h.below B0.out) (hp.below B0.out))
  have hlen : placeE ns ps os p = 0 → p.length = ps.length := by
    intro hE
    unfold placeE at hE
    split at hE
    · split at hE
      · assumption
      · cases hE
    · rename_i hne
      exact absurd hE hne
  have E0 : Hid (applyF ns ps os p kd pd nd = if placeE ns ps os p = 0 then (if kd = 1 then evictF p pd nd else if kd = 2 then bindF ns p pd nd else ([], 2)) else ([], placeE ns ps os p)) := Lib.hid rfl
  have hlp := h.lp
  have H := Lib.hid h
  have HP := Lib.hid hp
  clear h hp
  generalize placeE ns ps os p = v0 at KC E0 hlen
  by_cases hv : v0 = 0
  case neg =>
    have E : Hid (applyF ns ps os p kd pd nd = ([], v0)) := Lib.hid (by rw [E0.out, if_neg hv])
    have hvb : (v0 != 0) = true := by simpa using hv
    clear E0 hlen
    go_enter Tryz.func23, Tryz.ntmps23
    go_wp2_with fail
    refine (KC.out).mono ?_
    rintro e w1 ⟨rfl, hb⟩
    have B1 := Lib.hid (B0.out.trans (hb.mono B0.out.size))
    clear hb
    go_wp2
    go_ret2
    exact nil_post E.out B1.out
  subst hv
  have hfew : p.length ≤ 1000 := by rw [hlen rfl]; exact hlp
  have E1 : Hid (applyF ns ps os p kd pd nd = if kd = 1 then evictF p pd nd else if kd = 2 then bindF ns p pd nd else ([], 2)) := Lib.hid (by rw [E0.out, if_pos rfl])
  clear E0 hlen
  go_enter Tryz.func23, Tryz.ntmps23
  go_wp2_with fail
  refine (KC.out).mono ?_
  rintro e w1 ⟨rfl, hb⟩
  have B1 := Lib.hid (B0.out.trans (hb.mono B0.out.size))
  have S1 := Lib.hid (S0.out.below hb hlt0)
  have Z1 := Lib.hid (Z0.out.below hb (Nat.lt_trans (Nat.lt_succ_self _) hlt0))
  clear hb KC
  have s0 : w1.cell? ⟨w.heap.size + 1, 0, none⟩ = some (.int .i64 kd) := Blk.cell S1.out 0
  have s1 : w1.cell? ⟨w.heap.size + 1, 1, none⟩ = some (.int .i64 pd) := Blk.cell S1.out 1
  have s2 : w1.cell? ⟨w.heap.size + 1, 2, none⟩ = some (.int .i64 nd) := Blk.cell S1.out 2
  have z0 : w1.cell? ⟨w.heap.size, 0, none⟩ = some (.slice A ns.length ca) := Blk.cell Z1.out 0
  have z1 : w1.cell? ⟨w.heap.size, 1, none⟩ = some (.slice B ps.length cb) := Blk.cell Z1.out 1
  have z2 : w1.cell? ⟨w.heap.size, 2, none⟩ = some (.slice C os.length cc) := Blk.cell Z1.out 2
  by_cases h1 : kd = 1
  · subst h1
    have KE := Lib.hid (evict_any P cp p 1 pd nd w1 (HP.out.below B1.out) hfew)
    have E2 : Hid (applyF ns ps os p 1 pd nd = evictF p pd nd) := Lib.hid (by rw [E1.out, if_pos rfl])
    clear E1
    go_wp2_with fail
    refine (KE.out).mono ?_
    rintro e w2 ⟨v, rfl, ho, hb⟩
    have HO := Lib.hid (own_base ho B1.out.size)
    have HB := Lib.hid (B1.out.trans (hb.mono B1.out.size))
    clear ho hb KE
    go_wp2
    go_ret2
    rw [E2.out]
    exact ⟨_, rfl, HO.out, HB.out⟩
  · have h1b : (kd == 1) = false := by simpa using h1
    by_cases h2 : kd = 2
    · subst h2
      have KE := Lib.hid (bind_any A B C P ca cb cc cp ps.length os.length ns p 2 pd nd w1 (H.out.below B1.out).n.cells (HP.out.below B1.out) hfew)
      have E2 : Hid (applyF ns ps os p 2 pd nd = bindF ns p pd nd) := Lib.hid (by rw [E1.out, if_neg h1, if_pos rfl])
      clear E1
      go_wp2_with fail
      refine (KE.out).mono ?_
      rintro e w2 ⟨v, rfl, ho, hb⟩
      have HO := Lib.hid (own_base ho B1.out.size)
      have HB := Lib.hid (B1.out.trans (hb.mono B1.out.size))
      clear ho hb KE
      go_wp2
      go_ret2
      rw [E2.out]
      exact ⟨_, rfl, HO.out, HB.out⟩
    · have h2b : (kd == 2) = false := by simpa using h2
      have E2 : Hid (applyF ns ps os p kd pd nd = ([], 2)) := Lib.hid (by rw [E1.out, if_neg h1, if_neg h2])
      clear E1
      go_wp2
      go_ret2
      exact nil_post E2.out B1.out
end Go.Proofs.YtmmokiaipfalmaaGreat

namespace Go.Proofs.YtmmokiaipfalmaaGreat
open Go.RowKit

theorem own_gem {w : World} {base : Nat} {e : TypeId} {size : Nat} {v : Value} {n : Nat} {xs : List Value} (h : w.ownsRow base e size v n xs) {j : Nat} (hj : v.ownBlock = some j) : base ≤ j := (h.lt j hj).1
end Go.Proofs.YtmmokiaipfalmaaGreat

namespace Go.Proofs.YtmmokiaipfalmaaGreat
open Go.RowKit

/-- The places of the first k pods that are of that owner. -/
def membersU (ps : List PodD) (name : List UInt8) : Nat → List Int
  | 0 => []
  | k + 1 => membersU ps name k ++ (match ps[k]? with
    | some x => if x.owner = name then [(k : Int)] else []
    | none => [])
theorem membersU_len (ps : List PodD) (name : List UInt8) : ∀ k, (membersU ps name k).length ≤ k
  | 0 => Nat.le_refl _
  | k + 1 => by
    have := membersU_len ps name k
    rw [membersU, List.length_append]
    split
    · split <;> simp <;> omega
    · simp; omega
/-- What Members tells of an owner that there is. -/
def membersF (ps : List PodD) (name : List UInt8) : List Int := membersU ps name ps.length

set_option maxRecDepth 100000 in
set_option maxHeartbeats 4000000 in
theorem members_any (A B C : Option Addr) (ca cb cc : Nat) (ns : List NodeD) (ps : List PodD) (os : List OwnD) (k : Nat) (x : OwnD) (w : World) (h : SnapAt w A B C ca cb cc ns ps os) (hx : os[k]? = some x) :
    Calls Tryz.prog 365 #[snapV A B C ca cb cc ns ps os, .int .i64 (k : Int)] w fun e w' => ∃ v, e = .returned v ∧ w'.ownsRow w.heap.size 3 1 v (membersF ps x.name).length (intsC (membersF ps x.name)) ∧ Below w.heap.size w w' := by
  have H := Lib.hid h
  have HX := Lib.hid hx
  have B0 : Hid (Below w.heap.size w (w.alloc (.cells (snapC A B C ca cb cc ns ps os) 26))) := Lib.hid (below1 w _)
  have S0 : Hid (Blk (w.alloc (.cells (snapC A B C ca cb cc ns ps os) 26)) w.heap.size (snapC A B C ca cb cc ns ps os) 26) := Lib.hid (Blk.new w _ _)
  have hko : k < os.length := (List.getElem?_eq_some_iff.1 hx).1
  have k0 : (0 : Int) ≤ (k : Int) := by omega
  have k0' : ¬ (k : Int) < 0 := by omega
  have k1 : (k : Int) < (os.length : Int) := by omega
  have k1' : ¬ (os.length : Int) ≤ (k : Int) := by omega
  have hlp := h.lp
  have hlo := h.lo
  clear h hx
  obtain ⟨i0, hi0, hz0, hz1, hz2⟩ := info_parts Qu.int_info
  go_enter Tryz.func365, Tryz.ntmps365
  go_wp2_with fail
  go_loopw [20, 5] (fun i v wr => ∃ j : Nat, j ≤ ps.length ∧ i = .int .i64 j ∧ wr.ownsRow w.heap.size 3 1 v (membersU ps x.name j).length (intsC (membersU ps x.name j)) ∧ Below w.heap.size w wr ∧ Blk wr w.heap.size (snapC A B C ca cb cc ns ps os) 26) (fun i _ _ => ps.length - (intOf i).toNat)
  case atStart => exact ⟨0, by omega, rfl, World.ownsRow_nil _ _ _ _, B0.out, S0.out⟩
  case round =>
    obtain ⟨j, hj, rfl, hown, hbw, hsk⟩ := hrel
    have HO := Lib.hid hown
    have HW := Lib.hid hbw
    have HS := Lib.hid hsk
    clear hown hbw hsk
    by_cases hlt : j < ps.length
    · obtain ⟨y, hy⟩ : ∃ y, ps[j]? = some y := ⟨ps[j], List.getElem?_eq_getElem hlt⟩
      obtain ⟨b, o, hA, hbl, c0, c1, c2, c3, c4, c5, c6, c7, c8, c9, c10, c11, c12, c13, c14⟩ := atP (H.out.below HW.out).p.cells hy
      subst hA
      have hstep : membersU ps x.name (j + 1) = membersU ps x.name j ++ (if y.owner = x.name then [(j : Int)] else []) := by rw [membersU, hy]
      have HT := Lib.hid hstep
      have hml := membersU_len ps x.name j
      have j0 : (0 : Int) ≤ (j : Int) := by omega
      have j1 : (j : Int) < (ps.length : Int) := by omega
      have B2 := Lib.hid (HW.out.alloc HW.out.size (.cells (cellsP [y]).toArray 53))
      have P2 : Hid (Blk (wr.alloc (.cells (cellsP [y]).toArray 53)) wr.heap.size (cellsP [y]).toArray 53) := Lib.hid (Blk.new wr _ _)
      have S2 := Lib.hid (Blk.alloc HS.out (.cells (cellsP [y]).toArray 53))
      have O2 := Lib.hid (show World.ownsRow _ _ _ _ _ _ _ from HO.out.alloc (.cells (cellsP [y]).toArray 53))
      obtain ⟨b2, o2, hA2, hbl2, d0, d1, d2, d3, d4⟩ := atO (H.out.below B2.out).o HX.out
      subst hA2
      clear hy hstep d1 d2 d3 d4
      go_wp2_with fail
      change Code.wp _ _ _ _ (wr.alloc (.cells (cellsP [y]).toArray 53))
      generalize hW2 : (wr.alloc (.cells (cellsP [y]).toArray 53)) = W2 at B2 P2 S2 O2 d0 hbl2 ⊢
      have p1 : W2.cell? ⟨wr.heap.size, 1, none⟩ = some (strV y.owner) := Blk.cell P2.out 1
      have z2 : W2.cell? ⟨w.heap.size, 2, none⟩ = some (.slice (some ⟨b2, o2, none⟩) os.length cc) := Blk.cell S2.out 2
      clear hW2 c0 c1 c2 c3 c4 c5 c6 c7 c8 c9 c10 c11 c12 c13 c14
      by_cases hxy : y.owner = x.name
      · go_region
        go_wp2_with (at_builtin; refine wpList_append_own _ rfl _ _ 27 rfl w.heap.size 3 i0 (.int .i64 0) 1 8 Tryz.underlying27 hi0 hz0 hz1 hz2 rfl (by decide) _ _ _ rfl (show World.ownsRow _ _ _ _ _ _ _ from O2.out.alloc _) ⟨W2.heap.size, 0, none⟩ 1 1 [.int .i64 (j : Int)] rfl rfl ?c1 ?c2 ?c3 ?c4 ?c5 ?_)
        case c1 =>
          intro j u hj
          match j, hj with
          | 0, hj => simp at hj; subst hj; simp [Addr.add]
        case c2 => first | rfl | (intro u hu; simp at hu; subst hu; rfl)
        case c3 => unfold maxLen; omega
        case c4 => omega
        case c5 => have := B2.out.size; simp; omega
        intro v' w2 hown' hgrow' _
        have hwz : w.heap.size < W2.heap.size := Blk.lt S2.out
        have HO2 := Lib.hid hown'
        have HW2 := Lib.hid ((B2.out.drew.alloc B2.out.size (.cells #[.int .i64 (j : Int)] 3)).grown hgrow' (by have := B2.out.size; simp; omega) (fun j hj => own_gem O2.out hj))
        have HS2 : Hid (Blk w2 w.heap.size (snapC A (some ⟨b, o, none⟩) (some ⟨b2, o2, none⟩) ca cb cc ns ps os) 26) := Lib.hid (Blk.kept (Blk.alloc (show Blk W2.drew _ _ _ from S2.out) (.cells #[.int .i64 (j : Int)] 3)) hgrow' (fun e => by
          have he := e.symm
          rcases O2.out.2 with ⟨hv, _⟩ | ⟨g, cap, cur, hv, hbg, hg, _⟩
          · rw [hv] at he; cases he
          · rw [hv] at he
            simp only [Value.ownBlock, Option.some.injEq] at he
            subst he
            have h1 := S2.out
            unfold Blk at h1
            rw [hg] at h1
            cases h1))
        clear hown' hgrow'
        go_wp2
        go_roundw
        case rel =>
          refine ⟨j + 1, by omega, by go_num, ?_, HW2.out, HS2.out⟩
          rw [HT.out, if_pos hxy, List.length_append]
          simpa [intsC] using HO2.out
        case measure => simp [intOf]; omega
      · go_region
        rw [show (y.owner == x.name) = false from beq_eq_false_iff_ne.2 hxy]
        go_wp2_with fail
        go_roundw
        case rel =>
          refine ⟨j + 1, by omega, by go_num, ?_, B2.out.drew, (show Blk W2.drew _ _ _ from S2.out)⟩
          rw [HT.out, if_neg hxy, List.append_nil]
          exact (show World.ownsRow W2.drew _ _ _ _ _ _ from O2.out)
        case measure => simp [intOf]; omega
    · obtain rfl : j = ps.length := by omega
      go_wp2
      go_ret
      exact ⟨_, rfl, HO.out, HW.out⟩

end Go.Proofs.YtmmokiaipfalmaaGreat

namespace Go.Proofs.YtmmokiaipfalmaaGreat
open Go.RowKit

theorem size_of (t : List UInt8) : ((⟨t.toArray⟩ : ByteArray).size) = t.length := by simp [ByteArray.size]
set_option maxHeartbeats 1000000 in
theorem clone_any (t : List UInt8) (w : World) (h : t.length ≤ 281474976710656) :
    Calls Tryz.prog 366 #[strV t] w fun e w' => e = .returned (strV t) ∧ Below w.heap.size w w' := by
  have K := Lib.hid (Tryz.stringslite_Clone ⟨t.toArray⟩ w (by rw [size_of]; exact h))
  go_enter Tryz.func366, Tryz.ntmps366
  go_wp2_with fail
  refine K.out.mono ?_
  rintro e w1 ⟨rfl, hb⟩
  have HB := Lib.hid hb
  clear hb K
  go_wp2
  go_ret
  exact ⟨rfl, HB.out⟩

set_option maxRecDepth 100000 in
set_option maxHeartbeats 4000000 in
/-- Which value has a node that is not lost for a key? -/
def domF (ns : List NodeD) (k : Int) (key : List UInt8) : Option (List UInt8) := if tpB ns k then (match ns[k.toNat]? with
  | some x => (x.labels.find? (fun y => decide (y.1 = key))).map (·.2)
  | none => none) else none
theorem domainOf_any (A B C : Option Addr) (ca cb cc lb lc : Nat) (ns : List NodeD) (k : Int) (key : List UInt8) (w : World) (h : NodesAt w A ns) (hval : ∀ x ∈ ns, ∀ y ∈ x.labels, y.2.length ≤ 281474976710656) :
    Calls Tryz.prog 324 #[.agg #[.slice A ns.length ca, .slice B lb cb, .slice C lc cc], .int .i64 k, strV key] w fun e w' => e = .returned (.tuple #[strV ((domF ns k key).getD []), .bool (domF ns k key).isSome]) ∧ Below w.heap.size w w' := by
  have H := Lib.hid h
  have B0 := Lib.hid (below1 w (.cells #[.slice A ns.length ca, .slice B lb cb, .slice C lc cc] 26))
  have S0 : Hid (Blk (w.alloc (.cells #[.slice A ns.length ca, .slice B lb cb, .slice C lc cc] 26)) w.heap.size #[.slice A ns.length ca, .slice B lb cb, .slice C lc cc] 26) := Lib.hid (Blk.new w _ _)
  have KT := Lib.hid (ptakes_any A B C ca cb cc lb lc ns k _ (h.below B0.out).cells)
  have E0 : Hid (domF ns k key = if tpB ns k then (match ns[k.toNat]? with
    | some x => (x.labels.find? (fun y => decide (y.1 = key))).map (·.2)
    | none => none) else none) := Lib.hid rfl
  generalize domF ns k key = R at E0 ⊢
  obtain ⟨r, hr⟩ : ∃ r, tpB ns k = r := ⟨_, rfl⟩
  rw [hr] at E0 KT
  have HR := Lib.hid hr
  clear h hr
  have hlt0 := Blk.lt S0.out
  go_enter Tryz.func324, Tryz.ntmps324
  go_wp2_with fail
  refine (KT.out).mono ?_
  rintro e w1 ⟨rfl, hb⟩
  clear KT
  have S1 := Lib.hid (S0.out.below hb hlt0)
  have B1 := Lib.hid (B0.out.trans (hb.mono (Nat.le_of_lt hlt0)))
  clear hb
  cases r
  · have HE : Hid (R = none) := Lib.hid (by rw [E0.out]; rfl)
    clear E0
    go_wp2
    go_ret2
    rw [HE.out]
    exact ⟨rfl, B1.out⟩
  obtain ⟨n, rfl⟩ : ∃ n : Nat, k = (n : Int) := ⟨k.toNat, by
    have := HR.out
    unfold tpB at this
    simp only [Bool.and_eq_true, decide_eq_true_eq] at this
    omega⟩
  obtain ⟨x, hx⟩ : ∃ x, ns[n]? = some x := by
    have := HR.out
    unfold tpB at this
    rw [Int.toNat_natCast] at this
    cases hq : ns[n]? with
    | none => rw [hq] at this; simp at this
    | some x => exact ⟨x, rfl⟩
  have hnl : n < ns.length := (List.getElem?_eq_some_iff.1 hx).1
  have n0 : (0 : Int) ≤ (n : Int) := by omega
  have n1 : (n : Int) < (ns.length : Int) := by omega
  have HE : Hid (R = (x.labels.find? (fun y => decide (y.1 = key))).map (·.2)) := Lib.hid (by rw [E0.out, Int.toNat_natCast, hx]; rfl)
  have HF := Lib.hid ((H.out.below B1.out).fit x (List.mem_of_getElem? hx))
  have HM := Lib.hid (List.mem_of_getElem? hx)
  obtain ⟨b, o, hA, hbl, c0, c1, c2, c3, c4, c5, c6, c7, c8, c9⟩ := atN (H.out.below B1.out).cells hx
  subst hA
  have s0 : w1.cell? ⟨w.heap.size, 0, none⟩ = some (.slice (some ⟨b, o, none⟩) ns.length ca) := Blk.cell S1.out 0
  clear c0 c1 c2 c3 c4 c5 c7 c8 c9 E0 hx
  obtain ⟨L, hL⟩ : ∃ L, L = x.labels := ⟨_, rfl⟩
  obtain ⟨al, hal⟩ : ∃ al, al = x.al := ⟨_, rfl⟩
  obtain ⟨cl, hcl⟩ : ∃ cl, cl = x.cl := ⟨_, rfl⟩
  have HV : Hid (∀ y ∈ L, y.2.length ≤ 281474976710656) := Lib.hid (by rw [hL]; exact hval x HM.out)
  have HL : Hid (ListL w1 al cl L) := Lib.hid (by rw [hL, hal, hcl]; exact HF.out.l)
  have HE2 : Hid (R = (L.find? (fun y => decide (y.1 = key))).map (·.2)) := Lib.hid (by rw [hL]; exact HE.out)
  rw [← hL, ← hal, ← hcl] at c6
  clear hval HE HF hL hal hcl
  have hLm : L.length ≤ 9223372036854775807 := Nat.le_trans HL.out.le HL.out.most
  go_wp2_with fail
  go_loopw [21] (fun i wr => ∃ k : Nat, k ≤ L.length ∧ i = .int .i64 k ∧ (∀ j y, j < k → L[j]? = some y → y.1 ≠ key) ∧ Below w.heap.size w wr ∧ Below w1.heap.size w1 wr) (fun i _ => L.length - (intOf i).toNat)
  case atStart => exact ⟨0, by omega, rfl, fun j x h => by omega, B1.out, Below.refl _ _⟩
  case round =>
    obtain ⟨k, hk, rfl, hnk, hbw, hb1⟩ := hrel
    have HN := Lib.hid hnk
    have HW := Lib.hid hbw
    have HW1 := Lib.hid hb1
    clear hnk hbw hb1
    by_cases hlt : k < L.length
    · obtain ⟨y, hy⟩ : ∃ y, L[k]? = some y := ⟨L[k], List.getElem?_eq_getElem hlt⟩
      obtain ⟨b0, o0, hA, hb0, hc⟩ := La.SlAt.lab (HL.out.cells.below HW1.out) hy
      subst hA
      have hx0 : wr.cell? ⟨b0, o0 + k * 2, none⟩ = some (strV y.1) := hc.1
      have hx1 : wr.cell? ⟨b0, o0 + k * 2 + 1, none⟩ = some (strV y.2) := hc.2
      have HY := Lib.hid hy
      have k0 : (0 : Int) ≤ (k : Int) := by omega
      have k1 : (k : Int) < (L.length : Int) := by omega
      have B2 := Lib.hid (HW.out.alloc HW.out.size (.cells #[strV y.1, strV y.2] 100))
      have B3 := Lib.hid (HW1.out.alloc HW1.out.size (.cells #[strV y.1, strV y.2] 100))
      have KC := Lib.hid (clone_any y.2 (wr.alloc (.cells #[strV y.1, strV y.2] 100)) (HV.out y (List.mem_of_getElem? hy)))
      clear hy hc
      by_cases hkey : y.1 = key
      · have HR2 : Hid (R = some y.2) := Lib.hid (by
          rw [HE2.out]
          have : L.find? (fun y => decide (y.1 = key)) = some y := by
            rw [List.find?_eq_some_iff_getElem]
            refine ⟨by simpa using hkey, k, hlt, (List.getElem?_eq_some_iff.1 HY.out).2, fun j hj => ?_⟩
            have := HN.out j _ hj (List.getElem?_eq_getElem (by omega))
            simpa using this
          rw [this]
          rfl)
        subst hkey
        go_wp2_with fail
        refine (KC.out).mono ?_
        rintro e w3 ⟨rfl, hb3⟩
        have B4 := Lib.hid (B2.out.trans (hb3.mono B2.out.size))
        clear hb3 KC
        go_wp2
        go_ret2
        rw [HR2.out]
        exact ⟨rfl, B4.out⟩
      · have hkb : (y.1 == key) = false := beq_eq_false_iff_ne.2 hkey
        go_wp2_with fail
        go_roundw
        case rel =>
          refine ⟨k + 1, by omega, by go_num, fun j z hj hz => ?_, B2.out, B3.out⟩
          by_cases hjk : j = k
          · subst hjk
            rw [HY.out] at hz
            cases hz
            exact hkey
          · exact HN.out j z (by omega) hz
        case measure => simp [intOf]; omega
    · obtain rfl : k = L.length := by omega
      have HR2 : Hid (R = none) := Lib.hid (by
        rw [HE2.out]
        have : L.find? (fun y => decide (y.1 = key)) = none := by
          rw [List.find?_eq_none]
          intro y hy
          obtain ⟨j, hj⟩ := List.mem_iff_getElem?.1 hy
          have := HN.out j y (List.getElem?_eq_some_iff.1 hj).1 hj
          simpa using this
        rw [this]
        rfl)
      go_wp2
      go_ret2
      rw [HR2.out]
      exact ⟨rfl, HW.out⟩
end Go.Proofs.YtmmokiaipfalmaaGreat

namespace Go.Proofs.YtmmokiaipfalmaaGreat
open Go.RowKit Go.Shelf
attribute [local go_sem] Oper.semAt_some

/-- All that lay below n₀ lies as it lay, and so does each block of cells but those named. -/
def KeepU (n₀ : Nat) (us : List Nat) (W W' : World) : Prop := Below n₀ W W' ∧ ∀ (b : Nat) (cs : Array Value) (t : TypeId), b ∉ us → Blk W b cs t → Blk W' b cs t
theorem KeepU.refl (n₀ : Nat) (us : List Nat) (W : World) : KeepU n₀ us W W := ⟨Below.refl _ _, fun _ _ _ _ h => h⟩
theorem KeepU.trans {n₀ : Nat} {us : List Nat} {A B C : World} (h : KeepU n₀ us A B) (k : KeepU n₀ us B C) : KeepU n₀ us A C := ⟨h.1.trans k.1, fun b cs t hb h1 => k.2 b cs t hb (h.2 b cs t hb h1)⟩
theorem KeepU.below {n₀ : Nat} {us : List Nat} {A B : World} (h : Below A.heap.size A B) (hn : n₀ ≤ A.heap.size) : KeepU n₀ us A B := ⟨h.mono hn, fun _ _ _ _ h1 => h1.below h h1.lt⟩
theorem KeepU.set {n₀ : Nat} {us : List Nat} (A : World) {u : Nat} (hu : u ∈ us) (hn : n₀ ≤ u) (i : Nat) (v : Value) : KeepU n₀ us A (A.setCell ⟨u, i, none⟩ v) :=
  ⟨(Below.refl _ _).setCell (p := ⟨u, i, none⟩) hn v, fun _ _ _ hb h1 => h1.oth (fun e => hb (e ▸ hu)) i v⟩
theorem keepU_t {n₀ : Nat} {us : List Nat} : ∀ {A B C : World}, KeepU n₀ us A B → KeepU n₀ us B C → KeepU n₀ us A C := fun h k => h.trans k
theorem blk_nc {w w' : World} {b : Nat} {cs : Array Value} {t : TypeId} {row : Option Nat} (h : Blk w b cs t) (hg : w.grownBy w' row) (hr : ∀ r, row = some r → ∃ o : Obj, w.heap[r]? = some o ∧ o.isCells = false) : Blk w' b cs t :=
  Blk.kept h hg (fun e => by
    obtain ⟨o, ho, hc⟩ := hr b e.symm
    unfold Blk at h
    rw [h] at ho
    cases ho
    cases hc)
theorem keepU_b {n₀ : Nat} {us : List Nat} {w : World} (hB : n₀ ≤ w.heap.size) : ∀ (W : World) (l : Nat) (o o' : Obj), w.heap.size ≤ l → W.heap[l]? = some o → o.isCells = false → o.isWalk = false → KeepU n₀ us W (W.putObj l o') := fun W l o o' hl ho hc hw =>
  ⟨belowK_b (w := w) hB W l o o' hl ho hc hw, fun b cs t _ h1 => blk_nc h1 (grownBy_putObj' W l o') (fun r e => by cases e; exact ⟨o, ho, hc⟩)⟩

/-- The places below k at which that number stands. -/
def onU (p : List Int) (node : Int) : Nat → List Nat
  | 0 => []
  | k + 1 => onU p node k ++ (if p[k]? = some node then [k] else [])
theorem onU_len (p : List Int) (node : Int) : ∀ k, (onU p node k).length ≤ k
  | 0 => Nat.le_refl _
  | k + 1 => by
    have := onU_len p node k
    rw [onU, List.length_append]
    split <;> simp <;> omega
/-- A place at which that number stands. -/
abbrev AtNo (p : List Int) (node : Int) := { k : Nat // p[k]? = some node }

set_option maxRecDepth 100000 in
set_option maxHeartbeats 2000000 in
theorem on1_in (n : Nat) (hn : 1 ≤ n) (l Bp Bn n₀ cp : Nat) (us : List Nat) (P : Option Addr) (p : List Int) (node : Int) (hfew : p.length ≤ 1000) (J Jx : List (AtNo p node) → World → Prop)
    (hY : ∀ pre (x : AtNo p node) W, J pre W → pre.length < p.length → YieldAt Fence.wide (n - 1) Tryz.prog l #[.int .i64 (x.1 : Int)] W fun e W' =>
      (e = .returned (.bool true) ∧ J (pre ++ [x]) W' ∧ KeepU n₀ us W W') ∨ (e = .returned (.bool false) ∧ Jx (pre ++ [x]) W'))
    (W : World) (hBp : W.cell? ⟨Bp, 0, none⟩ = some (.slice P p.length cp)) (hBn : Blk W Bn #[.int .i64 node] 3) (hus : Bn ∉ us)
    (hp : ∀ k x, p[k]? = some x → ∃ b o, P = some ⟨b, o, none⟩ ∧ b < n₀ ∧ W.cell? ⟨b, o + k, none⟩ = some (.int .i64 x)) (h0 : J [] W) :
    CallsIn Fence.wide n Tryz.prog 282 #[.func (.yield l) #[] #[], .pointer (some ⟨Bp, 0, none⟩), .pointer (some ⟨Bn, 0, none⟩)] W fun e W' => (∃ v, e = .returned v) ∧
      ((∃ ys : List (AtNo p node), ys.map (·.1) = onU p node p.length ∧ J ys W') ∨ (∃ pre : List (AtNo p node), True ∧ Jx pre W')) := by
  refine callsIn_of_wp Tryz.func282 rfl trivial ?_ rfl
  simp only [Tryz.ntmps282, List.size_toArray, List.length_cons, List.length_nil, Nat.reduceAdd, Nat.reduceSub, Array.replicate_succ, Array.replicate_zero, List.push_toArray, List.append_toArray, List.nil_append, List.cons_append]
  have HBn := Lib.hid hBn
  clear hBn
  gi_wp2
  gi_loopw [8] (fun i wr => ∃ (k : Nat) (pre : List (AtNo p node)), k ≤ p.length ∧ i = .int .i64 k ∧ pre.map (·.1) = onU p node k ∧ J pre wr ∧ KeepU n₀ us W wr) (fun i _ => p.length - (intOf i).toNat)
  case atStart => exact ⟨0, [], Nat.zero_le _, rfl, rfl, h0, KeepU.refl _ _ _⟩
  case round =>
    obtain ⟨k, pre, hk, rfl, hpre, hJs, hnx⟩ := hrel
    by_cases hlt : k < p.length
    · obtain ⟨x, hx⟩ : ∃ x, p[k]? = some x := ⟨p[k], List.getElem?_eq_getElem hlt⟩
      obtain ⟨b, o, hA, hb, hc⟩ := hp k x hx
      subst hA
      have hcx : wr.cell? ⟨b, o + k, none⟩ = some (.int .i64 x) := (hnx.1.cell (p := ⟨b, o + k, none⟩) hb).trans hc
      have hnn : wr.cell? ⟨Bn, 0, none⟩ = some (.int .i64 node) := Blk.cell (hnx.2 Bn _ _ hus HBn.out) 0
      have k0 : (0 : Int) ≤ (k : Int) := by omega
      have k1 : (k : Int) < (p.length : Int) := by omega
      have hlen : pre.length < p.length := by
        have h1 := onU_len p node k
        have h2 : pre.length = (onU p node k).length := by rw [← hpre, List.length_map]
        omega
      have hstep : onU p node (k + 1) = onU p node k ++ (if x = node then [k] else []) := by
        rw [onU, hx]
        simp only [Option.some.injEq]
      by_cases hxn : x = node
      · subst hxn
        obtain ⟨fn, tmps, assign, body, hy, hR⟩ := hY pre ⟨k, hx⟩ wr hJs hlen
        dsimp only at hy
        rw [if_pos rfl] at hstep
        gi_wp2
        refine hR.mono ?_
        rintro e W3 (⟨rfl, hJ3, hk3⟩ | ⟨rfl, hJx3⟩)
        · gi_wp2
          go_roundw
          case rel => exact ⟨k + 1, pre ++ [⟨k, hx⟩], by omega, by go_num, by rw [hstep, List.map_append, hpre]; rfl, hJ3, hnx.trans hk3⟩
          case measure => simp [intOf]; omega
        · gi_wp2
          refine bodyPost_ret (results_none rfl _ _ _) rfl ?_
          exact ⟨⟨_, rfl⟩, .inr ⟨pre ++ [⟨k, hx⟩], trivial, hJx3⟩⟩
      · rw [if_neg hxn, List.append_nil] at hstep
        have hxb : (x == node) = false := by simpa using hxn
        gi_wp2
        refine ⟨fun _ h => (by cases h), ?_⟩
        gi_wp2
        go_roundw
        case rel => exact ⟨k + 1, pre, by omega, by go_num, by rw [hstep, hpre], hJs, hnx⟩
        case measure => simp [intOf]; omega
    · obtain rfl : k = p.length := by omega
      gi_wp2
      go_end0
      exact ⟨⟨_, rfl⟩, .inl ⟨pre, hpre, hJs⟩⟩
end Go.Proofs.YtmmokiaipfalmaaGreat

namespace Go.Proofs.YtmmokiaipfalmaaGreat
open Go.RowKit Go.Shelf
attribute [local go_sem] Oper.semAt_some

set_option maxHeartbeats 1000000 in
theorem on_any (n : Nat) (P : Option Addr) (len cp : Nat) (node : Int) (w : World) :
    CallsIn Fence.wide n Tryz.prog 211 #[.slice P len cp, .int .i64 node] w fun e w' => e = .returned (.func (.func 282) #[] #[.pointer (some ⟨w.heap.size, 0, none⟩), .pointer (some ⟨w.heap.size + 1, 0, none⟩)]) ∧ w' = (w.alloc (.cells #[.slice P len cp] 27)).alloc (.cells #[.int .i64 node] 3) := by
  refine callsIn_of_wp Tryz.func211 rfl trivial ?_ rfl
  simp only [Tryz.ntmps211, List.size_toArray, List.length_cons, List.length_nil, Nat.reduceAdd, Nat.reduceSub, Array.replicate_succ, Array.replicate_zero, List.push_toArray, List.append_toArray, List.nil_append, List.cons_append]
  gi_wp2
  go_ret
  exact ⟨rfl, rfl⟩

theorem on_stops (n : Nat) (hn : 1 ≤ n) (Bp Bn n₀ cp : Nat) (us : List Nat) (P : Option Addr) (p : List Int) (node : Int) (hfew : p.length ≤ 1000) (w : World) (hn₀ : n₀ ≤ w.heap.size) (hus : Bn ∉ us)
    (hBp : Blk w Bp #[.slice P p.length cp] 27) (hBn : Blk w Bn #[.int .i64 node] 3)
    (hp : ∀ k x, p[k]? = some x → ∃ b o, P = some ⟨b, o, none⟩ ∧ b < n₀ ∧ w.cell? ⟨b, o + k, none⟩ = some (.int .i64 x)) :
    SeqStopsK Fence.wide n Tryz.prog 282 #[.pointer (some ⟨Bp, 0, none⟩), .pointer (some ⟨Bn, 0, none⟩)] (fun x : AtNo p node => #[Value.int .i64 (x.1 : Int)]) (KeepU n₀ us) (fun ys => ys.map (·.1) = onU p node p.length) (fun _ => True) p.length w := fun l J Jx W hW _ _ hY h0 => by
  refine on1_in n hn l Bp Bn n₀ cp us P p node hfew J Jx hY W (Blk.cell (hBp.below hW hBp.lt) 0) (hBn.below hW hBn.lt) hus ?_ h0
  intro k x hx
  obtain ⟨b, o, hA, hb, hc⟩ := hp k x hx
  exact ⟨b, o, hA, hb, (hW.cell (p := ⟨b, o + k, none⟩) (Nat.lt_of_lt_of_le hb hn₀)).trans hc⟩

/-- What pods ask for together, as a machine adds. -/
def addW (ps : List PodD) (ys : List Nat) (k : Nat) : Int := ys.foldl (fun a y => wrap64 (a + (match ps[y]? with | some x => x.req k | none => 0))) 0
/-- What Used tells. -/
def usedF (ns : List NodeD) (ps : List PodD) (os : List OwnD) (p : List Int) (node : Int) (k : Nat) : Int :=
  if placeE ns ps os p = 0 ∧ 0 ≤ node ∧ node < (ns.length : Int) then addW ps (onU p node p.length) k else 0

theorem placeE_len {ns : List NodeD} {ps : List PodD} {os : List OwnD} {p : List Int} (hE : placeE ns ps os p = 0) : p.length = ps.length := by
  unfold placeE at hE
  split at hE
  · split at hE
    · assumption
    · cases hE
  · rename_i hne
    exact absurd hE hne
abbrev zer5 : Array Value := #[.int .i64 0, .int .i64 0, .int .i64 0, .int .i64 0, .int .i64 0]
theorem blk3 (w : World) (o o' : Obj) (cs : Array Value) (t : TypeId) : Blk (((w.alloc o).alloc o').alloc (.cells cs t)) (w.heap.size + 2) cs t := by
  have := Blk.new ((w.alloc o).alloc o') cs t
  rwa [World.size_alloc, World.size_alloc] at this

set_option maxRecDepth 100000 in
set_option maxHeartbeats 400000 in
theorem used_no (A B C P : Option Addr) (ca cb cc cp : Nat) (ns : List NodeD) (ps : List PodD) (os : List OwnD) (p : List Int) (node : Int) (w : World) (h : SnapAt w A B C ca cb cc ns ps os) (hp : IntsAt w P cp p) (hok : ¬ (placeE ns ps os p = 0 ∧ 0 ≤ node ∧ node < (ns.length : Int))) :
    Calls Tryz.prog 150 #[snapV A B C ca cb cc ns ps os, .slice P p.length cp, .int .i64 node] w fun e w' => e = .returned (rowV (fun _ => 0)) ∧ Below w.heap.size w w' := by
  have B0 : Hid (Below w.heap.size w (((w.alloc (.cells (snapC A B C ca cb cc ns ps os) 26)).alloc (.cells zer5 47)).alloc (.cells zer5 47))) := Lib.hid ((Qu.below2 w _ _).alloc (by simp; omega) _)
  have S0 : Hid (Blk (((w.alloc (.cells (snapC A B C ca cb cc ns ps os) 26)).alloc (.cells zer5 47)).alloc (.cells zer5 47)) w.heap.size (snapC A B C ca cb cc ns ps os) 26) := Lib.hid (Blk.alloc (Blk.alloc (Blk.new w _ _) _) _)
  have R0 : Hid (Blk (((w.alloc (.cells (snapC A B C ca cb cc ns ps os) 26)).alloc (.cells zer5 47)).alloc (.cells zer5 47)) (w.heap.size + 1) zer5 47) := Lib.hid (Blk.alloc (blk2 w _ _ _) _)
  have U0 : Hid (Blk (((w.alloc (.cells (snapC A B C ca cb cc ns ps os) 26)).alloc (.cells zer5 47)).alloc (.cells zer5 47)) (w.heap.size + 2) zer5 47) := Lib.hid (blk3 w _ _ _ _)
  have KC := Lib.hid (pcheck_any A B C P ca cb cc cp ns ps os p _ (h.below B0.out) (hp.below B0.out))
  have hl0 := Blk.lt U0.out
  generalize placeE ns ps os p = v0 at KC hok
  have KP : Hid (v0 = 0 → ∀ w', Calls Tryz.prog 149 #[.int .i64 node, .int .i64 (ns.length : Int)] w' fun e w'' => e = .returned (.bool false) ∧ w'' = w') := Lib.hid (fun hv w' => by
    have := isPlace_any node ns.length w'
    rwa [decide_eq_false (fun h => hok ⟨hv, h⟩)] at this)
  clear hok h hp
  go_enter Tryz.func150, Tryz.ntmps150
  go_wp2_with fail
  refine (KC.out).mono ?_
  rintro e w1 ⟨rfl, hb⟩
  clear KC
  have S1 := Lib.hid (S0.out.below hb (by omega))
  have R1 := Lib.hid (R0.out.below hb (by omega))
  have U1 := Lib.hid (U0.out.below hb (by omega))
  have B1 := Lib.hid (B0.out.trans (hb.mono (by omega)))
  clear hb S0 R0 U0 B0 hl0
  have s0 : w1.cell? ⟨w.heap.size, 0, none⟩ = some (.slice A ns.length ca) := Blk.cell S1.out 0
  have u0 : w1.cell? ⟨w.heap.size + 2, 0, none⟩ = some (.int .i64 0) := Blk.cell U1.out 0
  have u1 : w1.cell? ⟨w.heap.size + 2, 1, none⟩ = some (.int .i64 0) := Blk.cell U1.out 1
  have u2 : w1.cell? ⟨w.heap.size + 2, 2, none⟩ = some (.int .i64 0) := Blk.cell U1.out 2
  have u3 : w1.cell? ⟨w.heap.size + 2, 3, none⟩ = some (.int .i64 0) := Blk.cell U1.out 3
  have u4 : w1.cell? ⟨w.heap.size + 2, 4, none⟩ = some (.int .i64 0) := Blk.cell U1.out 4
  by_cases hvz : v0 = 0
  · subst hvz
    have KQ := Lib.hid (KP.out rfl)
    go_wp2_with fail
    refine (KQ.out _).mono ?_
    rintro e w2 ⟨rfl, rfl⟩
    go_wp2_with (refine wpList_store_row rfl 47 (.tmp 6) (.tmp 23) rfl (w.heap.size + 1) zer5 rfl rfl 47 _ R1.out Qu.vec_size (by kernel_rfl) (by kernel_rfl) ?_)
    refine bodyPost_row1 Tryz.results150 (w.heap.size + 1) _ _ _ _ (by rfl) (by rfl) (Blk.put R1.out zer5) Tryz.underlying47 rfl Qu.vec_size ?_
    exact ⟨rfl, below_setRow B1.out (by omega) _⟩
  · have hvb : (v0 != 0) = true := by simpa using hvz
    clear KP
    go_wp2_with (refine wpList_store_row rfl 47 (.tmp 6) (.tmp 23) rfl (w.heap.size + 1) zer5 rfl rfl 47 _ R1.out Qu.vec_size (by kernel_rfl) (by kernel_rfl) ?_)
    refine bodyPost_row1 Tryz.results150 (w.heap.size + 1) _ _ _ _ (by rfl) (by rfl) (Blk.put R1.out zer5) Tryz.underlying47 rfl Qu.vec_size ?_
    exact ⟨rfl, below_setRow B1.out (by omega) _⟩

/-- One pod more. -/
def addR (a r : Nat → Int) (j : Nat) (k : Nat) : Int := if k < j then wrap64 (a k + r k) else a k

end Go.Proofs.YtmmokiaipfalmaaGreat

namespace Go.Proofs.YtmmokiaipfalmaaGreat
open Go.RowKit Go.Shelf
attribute [local go_sem] Oper.semAt_some

/-- The first five of two rows are the same. -/
theorem RowAt_congr {w : World} {b : Nat} {x y : Nat → Int} (h : Qu.RowAt w b x) (he : ∀ k, k < 5 → x k = y k) : Qu.RowAt w b y := by
  unfold Qu.RowAt at h ⊢
  rw [h, he 0 (by omega), he 1 (by omega), he 2 (by omega), he 3 (by omega), he 4 (by omega)]
theorem addR_zero (a r : Nat → Int) : addR a r 0 = a := by
  funext k
  unfold addR
  rw [if_neg (by omega)]
theorem addR_at (a r : Nat → Int) (j : Nat) : addR a r j j = a j := by
  unfold addR
  rw [if_neg (by omega)]
theorem addR_step (a r : Nat → Int) (j : Nat) : Qu.upd (addR a r j) j (wrap64 (a j + r j)) = addR a r (j + 1) := by
  funext k
  unfold Qu.upd addR
  by_cases h : k = j
  · subst h
    rw [if_pos rfl, if_pos (by omega)]
  · rw [if_neg h]
    by_cases h2 : k < j
    · rw [if_pos h2, if_pos (by omega)]
    · rw [if_neg h2, if_neg (by omega)]
theorem addW_snoc (ps : List PodD) (ys : List Nat) (m : Nat) (x : PodD) (hx : ps[m]? = some x) (k : Nat) : addW ps (ys ++ [m]) k = wrap64 (addW ps ys k + x.req k) := by
  unfold addW
  rw [List.foldl_append]
  simp [hx]
theorem rowAt_nc {w w' : World} {b : Nat} {x : Nat → Int} {row : Option Nat} (h : Qu.RowAt w b x) (hg : w.grownBy w' row) (hr : ∀ r, row = some r → ∃ o : Obj, w.heap[r]? = some o ∧ o.isCells = false) : Qu.RowAt w' b x := blk_nc (cs := #[.int .i64 (x 0), .int .i64 (x 1), .int .i64 (x 2), .int .i64 (x 3), .int .i64 (x 4)]) (t := 47) h hg hr
set_option maxRecDepth 100000 in
set_option maxHeartbeats 2000000 in
theorem used_ok (A B C P : Option Addr) (ca cb cc cp : Nat) (ns : List NodeD) (ps : List PodD) (os : List OwnD) (p : List Int) (node : Int) (w : World) (h : SnapAt w A B C ca cb cc ns ps os) (hp : IntsAt w P cp p) (hok : placeE ns ps os p = 0 ∧ 0 ≤ node ∧ node < (ns.length : Int)) :
    Calls Tryz.prog 150 #[snapV A B C ca cb cc ns ps os, .slice P p.length cp, .int .i64 node] w fun e w' => e = .returned (rowV (addW ps (onU p node p.length))) ∧ Below w.heap.size w w' := by
  have hlp := Lib.hid h.lp
  have hpl := Lib.hid (placeE_len hok.1)
  have H := Lib.hid h
  have HP := Lib.hid hp
  have B0 : Hid (Below w.heap.size w (((w.alloc (.cells (snapC A B C ca cb cc ns ps os) 26)).alloc (.cells zer5 47)).alloc (.cells zer5 47))) := Lib.hid ((Qu.below2 w _ _).alloc (by simp; omega) _)
  have S0 : Hid (Blk (((w.alloc (.cells (snapC A B C ca cb cc ns ps os) 26)).alloc (.cells zer5 47)).alloc (.cells zer5 47)) w.heap.size (snapC A B C ca cb cc ns ps os) 26) := Lib.hid (Blk.alloc (Blk.alloc (Blk.new w _ _) _) _)
  have R0 : Hid (Blk (((w.alloc (.cells (snapC A B C ca cb cc ns ps os) 26)).alloc (.cells zer5 47)).alloc (.cells zer5 47)) (w.heap.size + 1) zer5 47) := Lib.hid (Blk.alloc (blk2 w _ _ _) _)
  have U0 : Hid (Blk (((w.alloc (.cells (snapC A B C ca cb cc ns ps os) 26)).alloc (.cells zer5 47)).alloc (.cells zer5 47)) (w.heap.size + 2) zer5 47) := Lib.hid (blk3 w _ _ _ _)
  have KC := Lib.hid ((callsIn_wide (n := 7)).2 (pcheck_any A B C P ca cb cc cp ns ps os p _ (h.below B0.out) (hp.below B0.out)))
  have hl0 := Blk.lt U0.out
  have KP : Hid (∀ w', CallsIn Fence.wide 7 Tryz.prog 149 #[.int .i64 node, .int .i64 (ns.length : Int)] w' fun e w'' => e = .returned (.bool true) ∧ w'' = w') := Lib.hid (fun w' => (callsIn_wide (n := 7)).2 (by
    have := isPlace_any node ns.length w'
    rwa [decide_eq_true hok.2] at this))
  rw [hok.1] at KC
  clear h hp hok
  refine (callsIn_wide (n := 8)).1 ?_
  refine callsIn_of_wp_marks Tryz.func150 rfl trivial ?_ rfl
  simp only [Tryz.ntmps150, List.size_toArray, List.length_cons, List.length_nil, Nat.reduceAdd, Nat.reduceSub, Array.replicate_succ, Array.replicate_zero, List.push_toArray, List.append_toArray, List.nil_append, List.cons_append]
  gi_wp2_with fail
  refine ⟨trivial, ?_⟩
  refine (KC.out).mono ?_
  rintro e w1 ⟨rfl, hb⟩
  clear KC
  have S1 := Lib.hid (S0.out.below hb (by omega))
  have R1 := Lib.hid (R0.out.below hb (by omega))
  have U1 := Lib.hid (U0.out.below hb (by omega))
  have B1 := Lib.hid (B0.out.trans (hb.mono (by omega)))
  clear hb S0 R0 U0 B0 hl0
  have s0 : w1.cell? ⟨w.heap.size, 0, none⟩ = some (.slice A ns.length ca) := Blk.cell S1.out 0
  gi_wp2_with fail
  refine ⟨trivial, ?_⟩
  refine (KP.out _).mono ?_
  rintro e w2 ⟨rfl, rfl⟩
  gi_wp2_with fail
  refine ⟨trivial, ?_⟩
  refine (on_any _ P p.length cp node _).mono ?_
  rintro e w3 ⟨rfl, rfl⟩
  have S2 := Lib.hid (Blk.alloc (Blk.alloc S1.out (.cells #[.slice P p.length cp] 27)) (.cells #[.int .i64 node] 3))
  have R2 := Lib.hid (Blk.alloc (Blk.alloc R1.out (.cells #[.slice P p.length cp] 27)) (.cells #[.int .i64 node] 3))
  have U2 := Lib.hid (Blk.alloc (Blk.alloc U1.out (.cells #[.slice P p.length cp] 27)) (.cells #[.int .i64 node] 3))
  have P2 := Lib.hid (Blk.alloc (Blk.new w2 #[.slice P p.length cp] 27) (.cells #[.int .i64 node] 3))
  have N2 := Lib.hid (blk2 w2 (.cells #[.slice P p.length cp] 27) #[.int .i64 node] 3)
  have B2 := Lib.hid ((B1.out.alloc B1.out.size (.cells #[.slice P p.length cp] 27)).alloc (by have := B1.out.size; simp; omega) (.cells #[.int .i64 node] 3))
  have hlu := Blk.lt U1.out
  generalize ((w2.alloc (.cells #[.slice P p.length cp] 27)).alloc (.cells #[.int .i64 node] 3)) = W0 at S2 R2 U2 P2 N2 B2 ⊢
  gi_wp2_with fail
  obtain ⟨Ub, hUb⟩ : ∃ Ub, w.heap.size + 1 + 1 = Ub := ⟨_, rfl⟩
  obtain ⟨Rb, hRb⟩ : ∃ Rb, w.heap.size + 1 = Rb := ⟨_, rfl⟩
  rw [show w.heap.size + 2 = Ub from hUb] at U2 hlu
  rw [hUb, hRb]
  rw [hRb] at R2
  have hU : Hid (w.heap.size < Rb ∧ Rb < Ub ∧ Ub < w2.heap.size) := Lib.hid ⟨by omega, by omega, hlu⟩
  have hW0 : Hid (w2.heap.size + 1 < W0.heap.size) := Lib.hid (Blk.lt N2.out)
  clear hUb hRb hlu s0 KP
  refine wpIn_rangeFunc_ownG (α := AtNo p node) rfl (by omega) (gf := 282) (lb := #[.pointer (some ⟨w2.heap.size, 0, none⟩), .pointer (some ⟨w2.heap.size + 1, 0, none⟩)]) rfl trivial (enters_of Tryz.func282 (by kernel_rfl) rfl)
    (on_stops (8 - 1) (by omega) w2.heap.size (w2.heap.size + 1) w.heap.size cp [Ub] P p node (by rw [hpl.out]; exact hlp.out) W0 (by have := hU.out; have := hW0.out; omega) (by have := hU.out; simp; omega) P2.out N2.out ?hp)
    keepU_t (keepU_b (by have := hU.out; have := hW0.out; omega)) (Below.refl _ _) (fun _ => rfl)
    (fun pre W => (Blk W w.heap.size (snapC A B C ca cb cc ns ps os) 26 ∧ Blk W Rb zer5 47 ∧ Qu.RowAt W Ub (addW ps (pre.map (·.1)))) ∧ Below w.heap.size w W)
    (fun _ _ _ => False)
    (OwnFrom.and (fun s X Y row hs hg hr => ⟨blk_nc hs.1 hg (fun r e => (hr r e).2), blk_nc hs.2.1 hg (fun r e => (hr r e).2), rowAt_nc hs.2.2 hg (fun r e => (hr r e).2)⟩) (ownFrom_below (Nat.le_refl _) (by have := hU.out; have := hW0.out; omega)))
    (fun _ _ _ _ _ hs _ _ => hs)
    ⟨⟨S2.out, R2.out, U2.out⟩, B2.out⟩
    (fun x => { tmps := #[snapV A B C ca cb cc ns ps os, Value.slice P p.length cp, Value.int IntKind.i64 node,
          Value.pointer (some { block := w.heap.size, off := 0 }), undef, undef,
          Value.pointer (some { block := Rb, off := 0 }),
          Value.pointer (some { block := Ub, off := 0 }), .int .i64 (x.1 : Int), undef, undef,
          Value.agg #[Value.slice A ns.length ca, Value.slice B ps.length cb, Value.slice C os.length cc],
          Value.slice P p.length cp, Value.int IntKind.i64 0, Value.bool false, Value.bool false,
          Value.int IntKind.i64 node, Value.pointer (some { block := w.heap.size, off := 0 }),
          Value.slice A ns.length ca, Value.int IntKind.i64 ns.length, Value.bool true, Value.bool false,
          Value.bool false, undef, Value.slice P p.length cp, Value.int IntKind.i64 node,
          Value.func (Fn.func 282) #[]
            #[Value.pointer (some { block := w2.heap.size, off := 0 }),
              Value.pointer (some { block := w2.heap.size + 1, off := 0 })],
          .int .i64 (x.1 : Int), undef, undef, undef, undef, undef, undef, undef, undef, undef, undef, undef, undef, undef, undef,
          undef, undef, undef, undef], defers := [] }) ?assign ?body ?done ?stop
  case hp =>
    intro k x hx
    obtain ⟨b, o, hA, hb, _⟩ := atI HP.out.cells hx
    obtain ⟨b', o', hA', _, hc⟩ := atI (HP.out.below B2.out).cells hx
    rw [hA] at hA'
    cases hA'
    exact ⟨b, o, hA, hb, hc⟩
  case assign =>
    intro l x W K hK
    gi_wp2
    exact hK
  case body =>
    rintro l pre ⟨m, hm⟩ W ⟨⟨hS, hR, hUr⟩, hB⟩ hlen
    have hml : m < ps.length := by rw [← hpl.out]; exact (List.getElem?_eq_some_iff.1 hm).1
    obtain ⟨y, hy⟩ : ∃ y, ps[m]? = some y := ⟨ps[m], List.getElem?_eq_getElem hml⟩
    obtain ⟨b, o, hA, hbl, c0, c1, c2, c3, c4, c5, c6, c7, c8, c9, c10, c11, c12, c13, c14⟩ := atP (H.out.below hB).p.cells hy
    subst hA
    have z1 : W.cell? ⟨w.heap.size, 1, none⟩ = some (.slice (some ⟨b, o, none⟩) ps.length cb) := Blk.cell hS 1
    have m0 : (0 : Int) ≤ (m : Int) := by omega
    have m1 : (m : Int) < (ps.length : Int) := by omega
    have HY := Lib.hid hy
    have HS := Lib.hid hS
    have HR := Lib.hid hR
    have HUr := Lib.hid hUr
    have HB := Lib.hid hB
    obtain ⟨a, ha⟩ : ∃ a, addW ps (pre.map (·.1)) = a := ⟨_, rfl⟩
    have Ha := Lib.hid ha
    rw [ha] at HUr
    clear hy hS hR hUr hB c0 c1 c7 c8 c9 c10 c11 c12 c13 c14 ha
    gi_wp2_with fail
    gi_loopw [34] (fun i wr => ∃ j : Nat, j ≤ 5 ∧ i = .int .i64 j ∧ Qu.RowAt wr Ub (addR a y.req j) ∧ KeepsOthers W wr ∧ KeepU w.heap.size [Ub] W wr) (fun i _ => 5 - (intOf i).toNat)
    case atStart => exact ⟨0, by omega, rfl, by rw [addR_zero]; exact HUr.out, KeepsOthers.refl _, KeepU.refl _ _ _⟩
    case round =>
      obtain ⟨j, hj, rfl, hr, hko, hku⟩ := hrel
      have HRr := Lib.hid hr
      have HKO := Lib.hid hko
      have HKU := Lib.hid hku
      clear hr hko hku
      by_cases hlt : j < 5
      · have hi := fun w => Qu.idx_row y.req j hlt w
        have hc : wr.cell? ⟨Ub, j, none⟩ = some (.int .i64 (a j)) := by
          have := HRr.out.cell hlt
          rwa [addR_at] at this
        have hf : wr.frozen? ⟨Ub, j, none⟩ = false := HRr.out.free j
        have hd5 : (j : Int) < 5 := by omega
        have hj0 : (0 : Int) ≤ (j : Int) := by omega
        gi_wp2
        go_roundw
        case rel =>
          refine ⟨j + 1, by omega, by go_num, ?_, HKO.out.trans (KeepsOthers.setCell _ _ _), HKU.out.trans (KeepU.set _ (by simp) (by have := hU.out; omega) _ _)⟩
          rw [← addR_step]
          exact HRr.out.set hlt _
        case measure => simp [intOf]; omega
      · obtain rfl : j = 5 := by omega
        gi_wp2
        refine ⟨HKO.out.from _, HKU.out, ⟨?_, ?_, ?_⟩, HB.out.trans HKU.out.1⟩
        · exact HKU.out.2 _ _ _ (by have := hU.out; simp; omega) HS.out
        · exact HKU.out.2 _ _ _ (by have := hU.out; simp; omega) HR.out
        · refine RowAt_congr HRr.out (fun k hk => ?_)
          rw [List.map_append]
          show addR a y.req 5 k = addW ps (pre.map (·.1) ++ [m]) k
          rw [addW_snoc ps _ m y HY.out, Ha.out]
          unfold addR
          rw [if_pos hk]
  case done =>
    rintro D ys W hD hys ⟨⟨hS, hR, hUr⟩, hB⟩ hK
    rw [hys] at hUr
    have u0 := hUr.cell (k := 0) (by omega)
    have u1 := hUr.cell (k := 1) (by omega)
    have u2 := hUr.cell (k := 2) (by omega)
    have u3 := hUr.cell (k := 3) (by omega)
    have u4 := hUr.cell (k := 4) (by omega)
    have hRc : ∀ k, k < 5 → W.cell? ⟨Rb, k, none⟩ = some (.int .i64 0) := fun k hk => by
      rw [Blk.cell hR k]
      match k, hk with
      | 0, _ => rfl
      | 1, _ => rfl
      | 2, _ => rfl
      | 3, _ => rfl
      | 4, _ => rfl
    have r0 := hRc 0 (by omega)
    have r1 := hRc 1 (by omega)
    have r2 := hRc 2 (by omega)
    have r3 := hRc 3 (by omega)
    have r4 := hRc 4 (by omega)
    have f0 := Blk.free hR 0
    have f1 := Blk.free hR 1
    have f2 := Blk.free hR 2
    have f3 := Blk.free hR 3
    have f4 := Blk.free hR 4
    have HR := Lib.hid hR
    have HB := Lib.hid hB
    have HK := Lib.hid hK
    have HD := Lib.hid hD
    clear hRc hR hB hK hD hS hUr hys
    gi_wp2
    have HZ : Hid (Qu.RowAt W Rb (fun _ => 0)) := HR
    generalize hv : addW ps (onU p node p.length) = v
    have HO : Hid (KeepsOthers W (((((W.setCell ⟨Rb, 0, none⟩ (.int .i64 (v 0))).setCell ⟨Rb, 1, none⟩ (.int .i64 (v 1))).setCell ⟨Rb, 2, none⟩ (.int .i64 (v 2))).setCell ⟨Rb, 3, none⟩ (.int .i64 (v 3))).setCell ⟨Rb, 4, none⟩ (.int .i64 (v 4)))) := Lib.hid (((((KeepsOthers.setCell _ _ _).trans (KeepsOthers.setCell _ _ _)).trans (KeepsOthers.setCell _ _ _)).trans (KeepsOthers.setCell _ _ _)).trans (KeepsOthers.setCell _ _ _))
    have HV : Hid (Qu.RowAt (((((W.setCell ⟨Rb, 0, none⟩ (.int .i64 (v 0))).setCell ⟨Rb, 1, none⟩ (.int .i64 (v 1))).setCell ⟨Rb, 2, none⟩ (.int .i64 (v 2))).setCell ⟨Rb, 3, none⟩ (.int .i64 (v 3))).setCell ⟨Rb, 4, none⟩ (.int .i64 (v 4))) Rb v) := Lib.hid (by
      refine RowAt_congr (((((HZ.out.set (k := 0) (by omega) (v 0)).set (k := 1) (by omega) (v 1)).set (k := 2) (by omega) (v 2)).set (k := 3) (by omega) (v 3)).set (k := 4) (by omega) (v 4)) (fun k hk => ?_)
      match k, hk with
      | 0, _ => rfl
      | 1, _ => rfl
      | 2, _ => rfl
      | 3, _ => rfl
      | 4, _ => rfl)
    have HB5 : Hid (Below w.heap.size w (((((W.setCell ⟨Rb, 0, none⟩ (.int .i64 (v 0))).setCell ⟨Rb, 1, none⟩ (.int .i64 (v 1))).setCell ⟨Rb, 2, none⟩ (.int .i64 (v 2))).setCell ⟨Rb, 3, none⟩ (.int .i64 (v 3))).setCell ⟨Rb, 4, none⟩ (.int .i64 (v 4)))) := Lib.hid (by
      have hr := hU.out.1
      exact ((((HB.out.setCell (p := ⟨Rb, 0, none⟩) (Nat.le_of_lt hr) _).setCell (p := ⟨Rb, 1, none⟩) (Nat.le_of_lt hr) _).setCell (p := ⟨Rb, 2, none⟩) (Nat.le_of_lt hr) _).setCell (p := ⟨Rb, 3, none⟩) (Nat.le_of_lt hr) _).setCell (p := ⟨Rb, 4, none⟩) (Nat.le_of_lt hr) _)
    generalize (((((W.setCell ⟨Rb, 0, none⟩ (.int .i64 (v 0))).setCell ⟨Rb, 1, none⟩ (.int .i64 (v 1))).setCell ⟨Rb, 2, none⟩ (.int .i64 (v 2))).setCell ⟨Rb, 3, none⟩ (.int .i64 (v 3))).setCell ⟨Rb, 4, none⟩ (.int .i64 (v 4))) = W5 at HO HV HB5 ⊢
    have hK5 := HO.out.same D _ HK.out rfl
    refine ⟨by simp, .inl ⟨_, _, rfl, run_takeDeferred hK5, ?_⟩⟩
    refine ⟨rowV v, results_row1 Tryz.results150 _ _ Rb _ _ _ _ rfl (rowAt_nc HV.out (grownBy_putObj' _ D (.deferred none)) (fun r e => by cases e; exact ⟨_, hK5, rfl⟩)) Tryz.underlying47 rfl Qu.vec_size, rfl, ?_⟩
    exact HB5.out.trans (belowK_b (w := w) (Nat.le_refl _) W5 D _ _ (by have := HD.out; have := hU.out; have := hW0.out; omega) hK5 rfl rfl)
  case stop =>
    rintro D c pre W _ _ h _
    exact h.elim

theorem used_any (A B C P : Option Addr) (ca cb cc cp : Nat) (ns : List NodeD) (ps : List PodD) (os : List OwnD) (p : List Int) (node : Int) (w : World) (h : SnapAt w A B C ca cb cc ns ps os) (hp : IntsAt w P cp p) :
    Calls Tryz.prog 150 #[snapV A B C ca cb cc ns ps os, .slice P p.length cp, .int .i64 node] w fun e w' => e = .returned (rowV (usedF ns ps os p node)) ∧ Below w.heap.size w w' := by
  by_cases hok : placeE ns ps os p = 0 ∧ 0 ≤ node ∧ node < (ns.length : Int)
  · have hE : usedF ns ps os p node = addW ps (onU p node p.length) := by
      funext k
      unfold usedF
      rw [if_pos hok]
    rw [hE]
    exact used_ok A B C P ca cb cc cp ns ps os p node w h hp hok
  · have hE : usedF ns ps os p node = fun _ => 0 := by
      funext k
      unfold usedF
      rw [if_neg hok]
    rw [hE]
    exact used_no A B C P ca cb cc cp ns ps os p node w h hp hok
end Go.Proofs.YtmmokiaipfalmaaGreat

namespace Go.Proofs.YtmmokiaipfalmaaGreat
open Go.ChangeShapes Go.WideShapes Go.ChangeAt Go.RowKit

theorem own : ownKnob Tryz.prog.godebug = none := by kernel_rfl
theorem laidOut : laidOutB Tryz.prog = true := by kernel_rfl

theorem all_stay {H : Type} {enc : TypeId × Value → H} {P : Program} (hl : laidOutB P = true) {W W' : World} (hb : Below W.heap.size W W') :
    ∀ {ts : List TypeId} {vs : List Value} {ds : List (DataW H)} {ps : List MemPlace}, (∀ t ∈ ts, P.readableRec t = true ∧ t < P.types.size) → (∀ x ∈ ps, x.block < W.heap.size) →
      DataW.TrodAll enc P W 0 (fun _ => true) true ts vs ds ps → DataW.TrodAll enc P W' 0 (fun b => decide (b < W.heap.size)) true ts vs ds ps
  | [], vs, ds, ps, _, _, h => by
    obtain ⟨rfl, rfl, rfl⟩ := trodAll_nil h
    exact trodAll_mk0
  | t :: ts, vs, ds, ps, hr, hlt, h => by
    obtain ⟨v, vs', d, ds', p, q, rfl, rfl, rfl, h0, h1⟩ := trodAll_cons h
    refine trodAll_cons_mk (Below.trod hl (hr t (by simp)).1 (hr t (by simp)).2 h0 hb (fun x hx => hlt x (by simp [hx]))) (all_stay hl hb (fun t' ht' => hr t' (by simp [ht'])) (fun x hx => hlt x (by simp [hx])) h1)

/-- The last step of each law. -/
theorem law_post {H : Type} {enc : TypeId × Value → H} {f : Func} {s : ChangeSpec} {W W' : World} {args : Array Value} {ds gs : List (DataW H)} {before : List MemPlace}
    (hW : DataW.Whole enc Tryz.prog f.params.toList s.vars false W args.toList ds gs before) (hv : s.vars = [])
    (hfn : ∀ x : List (DataW H), x.length = f.params.toList.length → s.fn H x = { results := [.lit (.bool true)], args := x })
    (hres : f.resultTypes = #[4]) (hr : ∀ t ∈ f.params.toList, Tryz.prog.readableRec t = true ∧ t < Tryz.prog.types.size) (hb : Below W.heap.size W W') :
    s.post enc Tryz.prog f false true false false W args (.bool true) W' := by
  have hW' := hW
  have hlt : ∀ p ∈ before, p.block < W.heap.size := fun p hp => hW.lt p hp
  obtain ⟨p, q, hA, hV, rfl, _, _⟩ := hW
  rw [hv] at hV
  obtain ⟨rfl, rfl⟩ := trodVars_none hV
  have hlen : ∀ {ts : List TypeId} {vs : List Value} {es : List (DataW H)} {ps : List MemPlace}, DataW.TrodAll enc Tryz.prog W 0 (fun _ => true) true ts vs es ps → es.length = ts.length := by
    intro ts
    induction ts with
    | nil => intro vs es ps h; obtain ⟨_, rfl, _⟩ := trodAll_nil h; rfl
    | cons t ts ih =>
      intro vs es ps h
      obtain ⟨v, vs', d, ds', p, q, rfl, rfl, rfl, _, h1⟩ := trodAll_cons h
      simp [ih h1]
  have hf := hfn (ds ++ []) (by simpa using hlen hA)
  refine ⟨ds, [], p ++ [], [], p, [], hW', ?_, ?_, ?_, hb.frame _, fun h => by cases h⟩
  · rw [hf, hres]
    exact trodAll_cons_mk (shut_bool Tryz.underlying4 _) trodAll_mk0
  · rw [hf]
    simpa using all_stay laidOut hb hr (fun x hx => hlt x (by simp [hx])) hA
  · rw [hf, hv]
    rfl

/-- A world for the witnesses. -/
noncomputable def restWorld (os : Os) : World := World.holding Tryz.prog os ⟨#[], #[], []⟩

end Go.Proofs.YtmmokiaipfalmaaGreat

namespace Go.Proofs.YtmmokiaipfalmaaGreat
open Go.RowKit

/-- What isOwner tells. -/
def ownerB (ns : List NodeD) (ps : List PodD) (os : List OwnD) (p : List Int) (k : Int) : Bool := decide (placeE ns ps os p = 0) && decide (0 ≤ k ∧ k < (os.length : Int))

set_option maxRecDepth 100000 in
set_option maxHeartbeats 1000000 in
theorem isOwner_any (A B C P : Option Addr) (ca cb cc cp : Nat) (ns : List NodeD) (ps : List PodD) (os : List OwnD) (p : List Int) (k : Int) (w : World) (h : SnapAt w A B C ca cb cc ns ps os) (hp : IntsAt w P cp p) :
    Calls Tryz.prog 321 #[snapV A B C ca cb cc ns ps os, .slice P p.length cp, .int .i64 k] w fun e w' => e = .returned (.bool (ownerB ns ps os p k)) ∧ Below w.heap.size w w' := by
  have B0 : Hid (Below w.heap.size w (w.alloc (.cells (snapC A B C ca cb cc ns ps os) 26))) := Lib.hid (below1 w _)
  have S0 : Hid (Blk (w.alloc (.cells (snapC A B C ca cb cc ns ps os) 26)) w.heap.size (snapC A B C ca cb cc ns ps os) 26) := Lib.hid (Blk.new w _ _)
  have KC := Lib.hid (pcheck_any A B C P ca cb cc cp ns ps os p _ (h.below B0.out) (hp.below B0.out))
  have hl0 := Blk.lt S0.out
  have KP : Hid (∀ w', Calls Tryz.prog 149 #[.int .i64 k, .int .i64 (os.length : Int)] w' fun e w'' => e = .returned (.bool (decide (0 ≤ k ∧ k < (os.length : Int)))) ∧ w'' = w') := Lib.hid (fun w' => isPlace_any k os.length w')
  have E : Hid (ownerB ns ps os p k = (decide (placeE ns ps os p = 0) && decide (0 ≤ k ∧ k < (os.length : Int)))) := Lib.hid rfl
  generalize ownerB ns ps os p k = R at E ⊢
  generalize decide (0 ≤ k ∧ k < (os.length : Int)) = D at E KP
  generalize placeE ns ps os p = v0 at KC E
  clear h hp
  go_enter Tryz.func321, Tryz.ntmps321
  go_wp2_with fail
  refine (KC.out).mono ?_
  rintro e w1 ⟨rfl, hb⟩
  clear KC
  have S1 := Lib.hid (S0.out.below hb (by omega))
  have B1 := Lib.hid (B0.out.trans (hb.mono (by omega)))
  clear hb S0 B0 hl0
  have s2 : w1.cell? ⟨w.heap.size, 2, none⟩ = some (.slice C os.length cc) := Blk.cell S1.out 2
  by_cases hv : v0 = 0
  · subst hv
    have HE : Hid (R = D) := Lib.hid (by rw [E.out]; simp)
    clear E
    go_wp2_with fail
    refine (KP.out _).mono ?_
    rintro e w2 ⟨rfl, rfl⟩
    go_wp2
    go_ret
    exact ⟨La.retB HE.out.symm, B1.out⟩
  · have HE : Hid (R = false) := Lib.hid (by rw [E.out, decide_eq_false hv]; rfl)
    have hvb : (v0 == 0) = false := by simpa using hv
    clear E
    go_wp2
    go_ret
    exact ⟨La.retB HE.out.symm, B1.out⟩

/-- Values of labels of a cluster that may be are short. -/
def Short (ns : List NodeD) : Prop := ∀ x ∈ ns, ∀ y ∈ x.labels, y.2.length ≤ 281474976710656

end Go.Proofs.YtmmokiaipfalmaaGreat

namespace Go.Proofs.YtmmokiaipfalmaaGreat
open Go.RowKit

abbrev bZone : List UInt8 := [122, 111, 110, 101]
abbrev zer5F : Nat → Int := fun _ => 0
abbrev ten5 : Nat → Int := fun k => if k = 0 then 10 else 0
/-- The chapter's cluster: a name and a mark of its second node are letters. -/
def chN (N : Nat) (nm : List UInt8) (lost : Bool) : List NodeD := [
  { name := [97], cap := zer5F, labels := [(bZone, [120])], taints := [], cordon := false, lost := false, al := some ⟨N + 1, 0, none⟩, cl := 1, at_ := none, ct := 0 },
  { name := nm, cap := zer5F, labels := [(bZone, [121])], taints := [], cordon := false, lost := lost, al := some ⟨N + 2, 0, none⟩, cl := 1, at_ := none, ct := 0 },
  { name := [99], cap := zer5F, labels := [], taints := [], cordon := false, lost := false, al := none, cl := 0, at_ := none, ct := 0 }]
def chPod (c : UInt8) : PodD := { name := [c], owner := [111], req := ten5, labels := [], whr := [], bears := [], wt := [], wtm := [], ap := [], apm := [], on := [], al := none, cl := 0, aw := none, cw := 0, ab := none, cb := 0, awt := none, cwt := 0, aap := none, cap := 0 }
def chP : List PodD := [chPod 112, chPod 113, chPod 114]
def chO : List OwnD := [{ name := [111], min := 0, topo := bZone, skew := 1, single := false }]

theorem pod_info : (Tryz.prog.info? 53).map (fun i => (i.zero, i.size, i.bytes)) = some (some (.agg #[.string ⟨#[]⟩, .string ⟨#[]⟩, .int .i64 0, .int .i64 0, .int .i64 0, .int .i64 0, .int .i64 0, .slice none 0 0, .slice none 0 0, .slice none 0 0, .string ⟨#[]⟩, .slice none 0 0, .string ⟨#[]⟩, .slice none 0 0, .string ⟨#[]⟩]), 15, 240) := by kernel_rfl
/-- The chapter's cluster lies in memory, from block N on; its pods in a row of their own. -/
structure ChapAt (w : World) (N : Nat) (v : Value) (k : Nat) (nm : List UInt8) (lost : Bool) : Prop where
  l1 : Blk w (N + 1) #[strV bZone, strV [120]] 100
  l2 : Blk w (N + 2) #[strV bZone, strV [121]] 100
  n : Blk w (N + 3) (cellsN (chN N nm lost)).toArray 81
  o : Blk w (N + 4) (cellsO chO).toArray 102
  p : w.ownsRow N 53 15 v k (cellsP (chP.take k))
theorem ChapAt.kept {w w' : World} {N k : Nat} {v : Value} {nm : List UInt8} {lost : Bool} (h : ChapAt w N v k nm lost) (hb : Below w.heap.size w w') : ChapAt w' N v k nm lost :=
  ⟨h.l1.below hb h.l1.lt, h.l2.below hb h.l2.lt, h.n.below hb h.n.lt, h.o.below hb h.o.lt, by
    refine h.p.kept (grown_of_below hb none) ?_
    rcases h.p.2 with ⟨rfl, _⟩ | ⟨g, cap, cur, rfl, _⟩
    · exact .inl rfl
    · exact .inr (by simp [Value.ownBlock])⟩

theorem ch_other {w w' : World} {base : Nat} {e : TypeId} {sz n : Nat} {v : Value} {xs : List Value} (ho : w.ownsRow base e sz v n xs) (hg : w.grownBy w' v.ownBlock) {j : Nat} {cs : Array Value} {t : TypeId} (hj : Blk w j cs t) (hne : t ≠ e) : Blk w' j cs t := by
  refine (hg.block j hj.lt ?_).trans hj
  rcases ho.2 with ⟨rfl, _⟩ | ⟨g, cap, cur, rfl, _, hgb, _⟩
  · intro e'; cases e'
  · intro e'
    simp only [Value.ownBlock, Option.some.injEq] at e'
    subst e'
    unfold Blk at hj
    rw [hgb] at hj
    cases hj
    exact hne rfl
theorem ch_set {w : World} {base : Nat} {e : TypeId} {sz n : Nat} {v : Value} {xs : List Value} (ho : w.ownsRow base e sz v n xs) {j : Nat} {cs : Array Value} {t : TypeId} (hj : Blk w j cs t) (hne : t ≠ e) (i : Nat) (u : Value) : (w.setCell ⟨j, i, none⟩ u).ownsRow base e sz v n xs := by
  obtain ⟨hl, h1 | ⟨g, cap, cur, hv, hb, hg, r⟩⟩ := ho
  · exact ⟨hl, .inl h1⟩
  · refine ⟨hl, .inr ⟨g, cap, cur, hv, hb, (Below.heap_setCell w ⟨j, i, none⟩ u g ?_).trans hg, r⟩⟩
    intro e'
    subst e'
    unfold Blk at hj
    rw [hg] at hj
    cases hj
    exact hne rfl

/-- An append onto a row of one's own, as one step of a region that draws its order. -/
theorem step_append_own {P : Program} {ops : Array Oper} {o : Oper} {a : Act} {w : World} {K : Act → World → Prop} {Q : Exit → Act → World → Prop} {E : Prop}
    (hg : o.guard = none) (s x : Operand) (t : TypeId) (hop : o.op = Op.call { callee := Callee.builtin Builtin.append, args := #[s, x], argTypes := #[t, t] })
    (base : Nat) (e : TypeId) (i : TypeInfo) (z : Value) (size bytes : Nat) (h1 : P.underlying t = some (.slice e)) (h2 : P.info? e = some i) (h3 : i.zero = some z) (h4 : i.size = size) (h5 : i.bytes = bytes) (h6 : z.cells.size = size) (h7 : 0 < size)
    (v : Value) (n : Nat) (xs : List Value) (hs : a.eval s = v) (hown : w.ownsRow base e size v n xs)
    (ad : Addr) (m c : Nat) (news : List Value) (hx : a.eval x = .slice (some ad) m c) (hn : news.length = m * size) (hc : ∀ j u, news[j]? = some u → w.cell? (ad.add j) = some u) (h1c : ∀ u ∈ news, u.oneCell' = true)
    (b1 : n + m ≤ maxLen) (b2 : (n + m) * bytes ≤ 140737488355328) (hbase : base ≤ w.heap.size)
    (hK : ∀ v' w', w'.ownsRow base e size v' (n + m) (xs ++ news) → w.grownBy w' v.ownBlock → K (a.put o.dst v') w') :
    if Region.wanted o (yielded ops a.tmps) = true then Oper.wp P o a w K Q else E := by
  have hw : Region.wanted o (yielded ops a.tmps) = true := by simp [Region.wanted, hg]
  rw [if_pos hw]
  obtain ⟨v', w', hrun, r1, r2, _⟩ := run_append_own (P := P) w base t o.type e i z size bytes h1 h2 h3 h4 h5 h6 h7 v n xs hown ad m c news hn hc h1c b1 b2 hbase
  unfold Oper.wp
  simp [execOp, hop, resolve, invoke, builtin, hs, hx, hrun, Result.andThen]
  exact hK v' w' r1 r2

theorem ChapAt.set {w : World} {N k : Nat} {v : Value} {nm : List UInt8} {lost : Bool} (h : ChapAt w N v k nm lost) {b : Nat} {cs : Array Value} {t : TypeId} (hb : Blk w b cs t) (h1 : b ≠ N + 1 ∧ b ≠ N + 2 ∧ b ≠ N + 3 ∧ b ≠ N + 4) (ht : t ≠ 53) (i : Nat) (u : Value) : ChapAt (w.setCell ⟨b, i, none⟩ u) N v k nm lost :=
  ⟨h.l1.oth (Ne.symm h1.1) i u, h.l2.oth (Ne.symm h1.2.1) i u, h.n.oth (Ne.symm h1.2.2.1) i u, h.o.oth (Ne.symm h1.2.2.2) i u, ch_set h.p hb ht i u⟩
theorem ChapAt.step {w W w' : World} {N k k' : Nat} {v v' : Value} {nm : List UInt8} {lost : Bool} (h : ChapAt w N v k nm lost) (hW : Below w.heap.size w W) {n : Nat} {xs : List Value} (ho : W.ownsRow N 53 15 v n xs) (hg : W.grownBy w' v.ownBlock) (hn : w'.ownsRow N 53 15 v' k' (cellsP (chP.take k'))) : ChapAt w' N v' k' nm lost :=
  ⟨ch_other ho hg (h.l1.below hW h.l1.lt) (by decide), ch_other ho hg (h.l2.below hW h.l2.lt) (by decide), ch_other ho hg (h.n.below hW h.n.lt) (by decide), ch_other ho hg (h.o.below hW h.o.lt) (by decide), hn⟩

/-- The chapter's cluster as a cluster. -/
theorem ChapAt.snap {w : World} {N : Nat} {B : Option Addr} {cb : Nat} {nm : List UInt8} {lost : Bool} (h : ChapAt w N (.slice B 3 cb) 3 nm lost) (hnm : nm.length ≤ 1000) : SnapAt w (some ⟨N + 3, 0, none⟩) B (some ⟨N + 4, 0, none⟩) 3 cb 1 (chN N nm lost) chP chO := by
  have lab : ∀ (b : Nat) (v : UInt8), Blk w b #[strV bZone, strV [v]] 100 → ListL w (some ⟨b, 0, none⟩) 1 [(bZone, [v])] := fun b v hb => by
    refine ⟨by simp, by omega, fun j y hj => ⟨b, 0, rfl, ?_⟩, fun x hx => ?_⟩
    · rw [Nat.zero_add, Blk.cell hb j, ← hj, ← List.getElem?_toArray]
      rfl
    · simp only [List.mem_singleton] at hx
      subst hx
      exact ⟨by simp, by simp⟩
  have nolab : ListL w none 0 [] := ⟨by simp, by omega, fun j y hj => by simp [La.cellsL] at hj, fun x hx => by cases hx⟩
  have noter : ListT w none 0 [] := ⟨by simp, by omega, fun j y hj => by simp [La.cellsT] at hj, fun x hx => by cases hx⟩
  have hcap : 3 ≤ cb ∧ cb ≤ maxLen := by
    rcases h.p.2 with ⟨e, _⟩ | ⟨g, cap, cur, e, _, _, h1, h2, _⟩
    · cases e
    · cases e
      exact ⟨h1, h2⟩
  have hpod : ∀ c, (chPod c).fit w := fun c => ⟨nolab, noter, nolab, noter, noter, by simp [chPod]⟩
  constructor
  · constructor
    · intro j y hj
      refine ⟨N + 3, 0, rfl, ?_⟩
      rw [Nat.zero_add, Blk.cell h.n j, ← hj, ← List.getElem?_toArray]
    · intro x hx
      simp only [chN, List.mem_cons, List.not_mem_nil, or_false] at hx
      rcases hx with rfl | rfl | rfl
      · exact ⟨lab _ _ h.l1, nolab, by simp⟩
      · exact ⟨lab _ _ h.l2, nolab, by show nm.length ≤ _; omega⟩
      · exact ⟨nolab, nolab, by simp⟩
  · constructor
    · exact La.own_slat h.p
    · intro x hx
      simp only [chP, List.mem_cons, List.not_mem_nil, or_false] at hx
      rcases hx with rfl | rfl | rfl <;> exact hpod _
  · intro j y hj
    refine ⟨N + 4, 0, rfl, ?_⟩
    rw [Nat.zero_add, Blk.cell h.o j, ← hj, ← List.getElem?_toArray]
  · intro x hx
    simp only [chO, List.mem_singleton] at hx
    subst hx
    exact ⟨by simp, by simp⟩
  · simp [chN]
  · simp [chP]
  · simp [chO]
  · exact ⟨by simp [chN], by omega⟩
  · refine ⟨by simp [chP]; omega, ?_⟩
    have := hcap.2
    unfold maxLen at this
    omega
  · exact ⟨by simp [chO], by omega⟩
end Go.Proofs.YtmmokiaipfalmaaGreat

namespace Go.Proofs.YtmmokiaipfalmaaGreat
open Go.RowKit Go.Shelf
attribute [local go_sem] Oper.semAt_some

/-- A pod that does not wait. -/
abbrev OffNo (p : List Int) := { k : Nat // ∃ x : Int, p[k]? = some x ∧ x ≠ -1 }
/-- Those of a list of places whose pods do not wait. -/
def offL (p : List Int) (M : List Int) : List Nat := (M.map Int.toNat).filter (fun k => decide (p[k]? ≠ some (-1)))
theorem offL_len (p M : List Int) : (offL p M).length ≤ M.length := by
  unfold offL
  exact Nat.le_trans (List.length_filter_le _ _) (by simp)
theorem offL_step (p M : List Int) (k m : Nat) (h : M[k]? = some (m : Int)) : offL p (M.take (k + 1)) = offL p (M.take k) ++ (if p[m]? = some (-1) then [] else [m]) := by
  have h1 : M.take (k + 1) = M.take k ++ [(m : Int)] := by
    obtain ⟨hk, he⟩ := List.getElem?_eq_some_iff.1 h
    rw [List.take_succ_eq_append_getElem hk, he]
  unfold offL
  rw [h1, List.map_append, List.filter_append]
  congr 1
  by_cases hq : p[m]? = some (-1)
  · simp [hq]
  · simp [hq]

theorem membersU_mem (ps : List PodD) (name : List UInt8) : ∀ (k : Nat) (y : Int), y ∈ membersU ps name k → ∃ m : Nat, y = (m : Int) ∧ m < k ∧ ∃ x, ps[m]? = some x ∧ x.owner = name
  | 0, y, h => by simp [membersU] at h
  | k + 1, y, h => by
    rw [membersU, List.mem_append] at h
    rcases h with h | h
    · obtain ⟨m, h1, h2, h3⟩ := membersU_mem ps name k y h
      exact ⟨m, h1, by omega, h3⟩
    · cases hx : ps[k]? with
      | none => rw [hx] at h; simp at h
      | some x =>
        rw [hx] at h
        dsimp only at h
        by_cases hn : x.owner = name
        · rw [if_pos hn] at h
          simp at h
          exact ⟨k, h, by omega, x, hx, hn⟩
        · rw [if_neg hn] at h
          simp at h
theorem own_blk {w : World} {base : Nat} {e : TypeId} {A : Option Addr} {c n : Nat} {xs : List Value} (h : w.ownsRow base e 1 (.slice A n c) n xs) {k : Nat} {y : Value} (hk : xs[k]? = some y) :
    ∃ g cur, A = some ⟨g, 0, none⟩ ∧ base ≤ g ∧ Blk w g cur e ∧ cur[k]? = some y := by
  have hlt := (List.getElem?_eq_some_iff.1 hk).1
  obtain ⟨hl, h1 | ⟨g, cap, cur, hv, hb, hg, h1, h2, h3, h4⟩⟩ := h
  · omega
  · cases hv
    refine ⟨g, cur, rfl, hb, hg, ?_⟩
    rw [← h4, List.getElem?_take, if_pos (by omega)] at hk
    simpa using hk

set_option maxRecDepth 100000 in
set_option maxHeartbeats 2000000 in
theorem of1_in (n : Nat) (hn : 1 ≤ n) (l Bs Bo Bp n₀ ca cb cc cp : Nat) (us : List Nat) (A B C P : Option Addr) (ns : List NodeD) (ps : List PodD) (os : List OwnD) (p : List Int) (ko : Nat) (xo : OwnD) (hxo : os[ko]? = some xo) (hpl : p.length = ps.length) (J Jx : List (OffNo p) → World → Prop)
    (hY : ∀ pre (x : OffNo p) W, J pre W → pre.length < p.length → YieldAt Fence.wide (n - 1) Tryz.prog l #[.int .i64 (x.1 : Int)] W fun e W' =>
      (e = .returned (.bool true) ∧ J (pre ++ [x]) W' ∧ KeepU n₀ us W W') ∨ (e = .returned (.bool false) ∧ Jx (pre ++ [x]) W'))
    (W : World) (hJ : AbidesFrom W.heap.size J) (hBs : Blk W Bs (snapC A B C ca cb cc ns ps os) 26) (hBo : Blk W Bo #[.int .i64 (ko : Int)] 3) (hBp : Blk W Bp #[.slice P p.length cp] 27) (husp : Bp ∉ us) (hus : ∀ u ∈ us, u < W.heap.size)
    (hs : SnapAt W A B C ca cb cc ns ps os)
    (hp : ∀ k x, p[k]? = some x → ∃ b o, P = some ⟨b, o, none⟩ ∧ b < n₀ ∧ W.cell? ⟨b, o + k, none⟩ = some (.int .i64 x)) (hn₀ : n₀ ≤ W.heap.size) (h0 : J [] W) :
    CallsIn Fence.wide n Tryz.prog 364 #[.func (.yield l) #[] #[], .pointer (some ⟨Bs, 0, none⟩), .pointer (some ⟨Bo, 0, none⟩), .pointer (some ⟨Bp, 0, none⟩)] W fun e W' => (∃ v, e = .returned v) ∧
      ((∃ ys : List (OffNo p), ys.map (·.1) = offL p (membersF ps xo.name) ∧ J ys W') ∨ (∃ pre : List (OffNo p), True ∧ Jx pre W')) := by
  have KM := Lib.hid ((callsIn_wide (n := n - 1)).2 (members_any A B C ca cb cc ns ps os ko xo W hs hxo))
  have HBp := Lib.hid hBp
  have HP := Lib.hid hp
  have hlp := hs.lp
  have s0 : W.cell? ⟨Bs, 0, none⟩ = some (.slice A ns.length ca) := Blk.cell hBs 0
  have s1 : W.cell? ⟨Bs, 1, none⟩ = some (.slice B ps.length cb) := Blk.cell hBs 1
  have s2 : W.cell? ⟨Bs, 2, none⟩ = some (.slice C os.length cc) := Blk.cell hBs 2
  have b0 : W.cell? ⟨Bo, 0, none⟩ = some (.int .i64 (ko : Int)) := Blk.cell hBo 0
  have HM : Hid (∀ k y, (membersF ps xo.name)[k]? = some y → ∃ m : Nat, y = (m : Int) ∧ m < p.length) := Lib.hid (fun k y h => by
    obtain ⟨m, h1, h2, _⟩ := membersU_mem ps xo.name _ y (List.mem_of_getElem? h)
    exact ⟨m, h1, by omega⟩)
  have hML : (membersF ps xo.name).length ≤ p.length := by rw [hpl]; exact membersU_len ps xo.name _
  clear hBp hp hs hBs hBo
  generalize membersF ps xo.name = M at KM HM hML ⊢
  refine callsIn_of_wp Tryz.func364 rfl trivial ?_ rfl
  simp only [Tryz.ntmps364, List.size_toArray, List.length_cons, List.length_nil, Nat.reduceAdd, Nat.reduceSub, Array.replicate_succ, Array.replicate_zero, List.push_toArray, List.append_toArray, List.nil_append, List.cons_append]
  gi_wp2_with fail
  refine ⟨trivial, ?_⟩
  refine (KM.out).mono ?_
  rintro e W1 ⟨v, rfl, ho, hb⟩
  clear KM
  obtain ⟨A1, c1, rfl, hcm⟩ := La.own_slice ho
  have HO := Lib.hid ho
  have HB := Lib.hid hb
  have HP1 : Hid (Blk W1 Bp #[.slice P p.length cp] 27) := Lib.hid (HBp.out.below hb HBp.out.lt)
  have HJ1 : Hid (J [] W1) := Lib.hid (hJ [] W W1 none h0 (grown_of_below hb none) (fun r e => by cases e))
  clear s0 s1 s2 b0 ho hb hJ h0
  gi_wp2
  gi_loopw [11] (fun i wr => ∃ (k : Nat) (pre : List (OffNo p)), k ≤ M.length ∧ i = .int .i64 k ∧ pre.map (·.1) = offL p (M.take k) ∧ J pre wr ∧ KeepU n₀ us W1 wr) (fun i _ => M.length - (intOf i).toNat)
  case atStart => exact ⟨0, [], Nat.zero_le _, rfl, rfl, HJ1.out, KeepU.refl _ _ _⟩
  case round =>
    obtain ⟨k, pre, hk, rfl, hpre, hJs, hnx⟩ := hrel
    by_cases hlt : k < M.length
    · obtain ⟨y, hy⟩ : ∃ y, M[k]? = some y := ⟨M[k], List.getElem?_eq_getElem hlt⟩
      obtain ⟨m, rfl, hm⟩ := HM.out k y hy
      obtain ⟨g, cur, hA1, hg, hgb, hgc⟩ := own_blk HO.out (k := k) (y := .int .i64 (m : Int)) (by simp [intsC, hy])
      subst hA1
      have hgu : g ∉ us := fun h => by have := hus g h; omega
      have hc1 : wr.cell? ⟨g, k, none⟩ = some (.int .i64 (m : Int)) := (Blk.cell (hnx.2 g _ _ hgu hgb) k).trans hgc
      obtain ⟨x, hx⟩ : ∃ x, p[m]? = some x := ⟨p[m], List.getElem?_eq_getElem hm⟩
      obtain ⟨b, o, hA, hb, hc⟩ := HP.out m x hx
      subst hA
      have hpp : wr.cell? ⟨Bp, 0, none⟩ = some (.slice (some ⟨b, o, none⟩) p.length cp) := Blk.cell (hnx.2 Bp _ _ husp HP1.out) 0
      have hcx : wr.cell? ⟨b, o + m, none⟩ = some (.int .i64 x) := (hnx.1.cell (p := ⟨b, o + m, none⟩) hb).trans ((HB.out.cell (p := ⟨b, o + m, none⟩) (Nat.lt_of_lt_of_le hb hn₀)).trans hc)
      have k0 : (0 : Int) ≤ (k : Int) := by omega
      have k1 : (k : Int) < (M.length : Int) := by omega
      have m0 : (0 : Int) ≤ (m : Int) := by omega
      have m1 : (m : Int) < (p.length : Int) := by omega
      have hlen : pre.length < p.length := by
        have h1 := offL_len p (M.take k)
        have h2 : pre.length = (offL p (M.take k)).length := by rw [← hpre, List.length_map]
        have h3 : (M.take k).length = k := by rw [List.length_take]; omega
        omega
      have hstep := offL_step p M k m hy
      by_cases hxn : x = -1
      · subst hxn
        rw [if_pos hx, List.append_nil] at hstep
        have hxb : ((-1 : Int) != -1) = false := by decide
        gi_wp2
        refine ⟨fun _ h => (by cases h), ?_⟩
        gi_wp2
        go_roundw
        case rel => exact ⟨k + 1, pre, by omega, by go_num, by rw [hstep, hpre], hJs, hnx⟩
        case measure => simp [intOf]; omega
      · have hxb : (x != -1) = true := by simpa using hxn
        rw [if_neg (by rw [hx]; simpa using hxn)] at hstep
        obtain ⟨fn, tmps, assign, body, hy, hR⟩ := hY pre ⟨m, x, hx, hxn⟩ wr hJs hlen
        dsimp only at hy
        gi_wp2
        refine hR.mono ?_
        rintro e W3 (⟨rfl, hJ3, hk3⟩ | ⟨rfl, hJx3⟩)
        · gi_wp2
          go_roundw
          case rel => exact ⟨k + 1, pre ++ [⟨m, x, hx, hxn⟩], by omega, by go_num, by rw [hstep, List.map_append, hpre]; rfl, hJ3, hnx.trans hk3⟩
          case measure => simp [intOf]; omega
        · gi_wp2
          refine bodyPost_ret (results_none rfl _ _ _) rfl ?_
          exact ⟨⟨_, rfl⟩, .inr ⟨pre ++ [⟨m, x, hx, hxn⟩], trivial, hJx3⟩⟩
    · obtain rfl : k = M.length := by omega
      rw [List.take_length] at hpre
      gi_wp2
      go_end0
      exact ⟨⟨_, rfl⟩, .inl ⟨pre, hpre, hJs⟩⟩

set_option maxHeartbeats 1000000 in
theorem of_any (n : Nat) (A B C P : Option Addr) (ca cb cc cp : Nat) (ns : List NodeD) (ps : List PodD) (os : List OwnD) (len : Nat) (ko : Int) (w : World) :
    CallsIn Fence.wide n Tryz.prog 323 #[snapV A B C ca cb cc ns ps os, .slice P len cp, .int .i64 ko] w fun e w' => e = .returned (.func (.func 364) #[] #[.pointer (some ⟨w.heap.size, 0, none⟩), .pointer (some ⟨w.heap.size + 1 + 1, 0, none⟩), .pointer (some ⟨w.heap.size + 1, 0, none⟩)]) ∧ w' = ((w.alloc (.cells (snapC A B C ca cb cc ns ps os) 26)).alloc (.cells #[.slice P len cp] 27)).alloc (.cells #[.int .i64 ko] 3) := by
  refine callsIn_of_wp Tryz.func323 rfl trivial ?_ rfl
  simp only [Tryz.ntmps323, List.size_toArray, List.length_cons, List.length_nil, Nat.reduceAdd, Nat.reduceSub, Array.replicate_succ, Array.replicate_zero, List.push_toArray, List.append_toArray, List.nil_append, List.cons_append]
  gi_wp2
  go_ret
  exact ⟨rfl, rfl⟩

theorem of_stops (n : Nat) (hn : 1 ≤ n) (Bs Bo Bp n₀ ca cb cc cp : Nat) (us : List Nat) (A B C P : Option Addr) (ns : List NodeD) (ps : List PodD) (os : List OwnD) (p : List Int) (ko : Nat) (xo : OwnD) (hxo : os[ko]? = some xo) (hpl : p.length = ps.length) (w : World) (hn₀ : n₀ ≤ w.heap.size)
    (hBs : Blk w Bs (snapC A B C ca cb cc ns ps os) 26) (hBo : Blk w Bo #[.int .i64 (ko : Int)] 3) (hBp : Blk w Bp #[.slice P p.length cp] 27) (husp : Bp ∉ us) (hus : ∀ u ∈ us, u < w.heap.size)
    (hs : SnapAt w A B C ca cb cc ns ps os)
    (hp : ∀ k x, p[k]? = some x → ∃ b o, P = some ⟨b, o, none⟩ ∧ b < n₀ ∧ w.cell? ⟨b, o + k, none⟩ = some (.int .i64 x)) :
    SeqStopsK Fence.wide n Tryz.prog 364 #[.pointer (some ⟨Bs, 0, none⟩), .pointer (some ⟨Bo, 0, none⟩), .pointer (some ⟨Bp, 0, none⟩)] (fun x : OffNo p => #[Value.int .i64 (x.1 : Int)]) (KeepU n₀ us) (fun ys => ys.map (·.1) = offL p (membersF ps xo.name)) (fun _ => True) p.length w := fun l J Jx W hW hJ _ hY h0 => by
  refine of1_in n hn l Bs Bo Bp n₀ ca cb cc cp us A B C P ns ps os p ko xo hxo hpl J Jx hY W hJ (hBs.below hW hBs.lt) (hBo.below hW hBo.lt) (hBp.below hW hBp.lt) husp (fun u hu => Nat.lt_of_lt_of_le (hus u hu) hW.size) (hs.below hW) ?_ (Nat.le_trans hn₀ hW.size) h0
  intro k x hx
  obtain ⟨b, o, hA, hb, hc⟩ := hp k x hx
  exact ⟨b, o, hA, hb, (hW.cell (p := ⟨b, o + k, none⟩) (Nat.lt_of_lt_of_le hb hn₀)).trans hc⟩

abbrev ofWorld (W : World) (A B C P : Option Addr) (ca cb cc cp : Nat) (ns : List NodeD) (ps : List PodD) (os : List OwnD) (len : Nat) (ko : Int) : World := ((W.alloc (.cells (snapC A B C ca cb cc ns ps os) 26)).alloc (.cells #[.slice P len cp] 27)).alloc (.cells #[.int .i64 ko] 3)
theorem of_at (n : Nat) (hn : 1 ≤ n) (ca cb cc cp : Nat) (us : List Nat) (A B C P : Option Addr) (ns : List NodeD) (ps : List PodD) (os : List OwnD) (p : List Int) (ko : Nat) (xo : OwnD) (hxo : os[ko]? = some xo) (hpl : p.length = ps.length) (w W : World) (hB : Below w.heap.size w W)
    (hs : SnapAt w A B C ca cb cc ns ps os) (hp : IntsAt w P cp p) (hus : ∀ u ∈ us, u < W.heap.size) :
    SeqStopsK Fence.wide n Tryz.prog 364 #[.pointer (some ⟨W.heap.size, 0, none⟩), .pointer (some ⟨W.heap.size + 1 + 1, 0, none⟩), .pointer (some ⟨W.heap.size + 1, 0, none⟩)] (fun x : OffNo p => #[Value.int .i64 (x.1 : Int)]) (KeepU w.heap.size us) (fun ys => ys.map (·.1) = offL p (membersF ps xo.name)) (fun _ => True) p.length (ofWorld W A B C P ca cb cc cp ns ps os p.length (ko : Int)) := by
  have hb : Below W.heap.size W (ofWorld W A B C P ca cb cc cp ns ps os p.length (ko : Int)) := (Qu.below2 W _ _).alloc (by simp; omega) _
  have hsz : (ofWorld W A B C P ca cb cc cp ns ps os p.length (ko : Int)).heap.size = W.heap.size + 3 := by simp [ofWorld]
  have hbw := hB.trans (hb.mono hB.size)
  refine of_stops n hn W.heap.size (W.heap.size + 1 + 1) (W.heap.size + 1) w.heap.size ca cb cc cp us A B C P ns ps os p ko xo hxo hpl _ hbw.size ?_ ?_ ?_ ?_ ?_ (hs.below hbw) ?_
  · exact Blk.alloc (Blk.alloc (Blk.new W _ _) _) _
  · have := Blk.new ((W.alloc (.cells (snapC A B C ca cb cc ns ps os) 26)).alloc (.cells #[.slice P p.length cp] 27)) #[.int .i64 (ko : Int)] 3
    rwa [World.size_alloc, World.size_alloc] at this
  · exact Blk.alloc (blk2 W (.cells (snapC A B C ca cb cc ns ps os) 26) #[.slice P p.length cp] 27) _
  · intro h
    have := hus _ h
    omega
  · intro u hu
    have := hus u hu
    omega
  · intro k x hx
    obtain ⟨b, o, hA, hb0, _⟩ := atI hp.cells hx
    obtain ⟨b', o', hA', _, hc⟩ := atI (hp.below hbw).cells hx
    rw [hA] at hA'
    cases hA'
    exact ⟨b, o, hA, hb0, hc⟩
end Go.Proofs.YtmmokiaipfalmaaGreat
