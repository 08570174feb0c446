/- May a cluster be, and may its sums? The contract of Check. Condition: the cluster lies in memory. Lists of numbers in memory; whether a place is one, whether a node takes pods. No conditions but that what is read lies in memory. May a placement be? The contract of Check. Condition: the cluster and the numbers lie in memory. A placement in which one pod is elsewhere; what evict and bind answer. Condition: the numbers lie in memory. What a step makes of a placement: the contracts of evict, bind and Apply. Condition: the cluster and the numbers lie in memory. Lists of numbers held against each other; what is unlike in two of them. Condition: they lie in memory. Whose a pod is; which value a node has for a key: the contracts of Members and domainOf. Condition: the cluster lies in memory. Which value a node has for a key: the contract of domainOf. Condition: the cluster lies in memory. Whether there is an owner at a place, of a placement that may be; the value of a node for a key. Condition: the cluster and the numbers lie in memory. The chapter's cluster. No conditions. What the document's reader of a word answers, as a plain function. Condition: a text that can lie in memory. What the document's Value and Name answer of a text. Condition: a text that can lie in memory. What the document's checks of labels, of what is borne, and of terms answer. Condition: the list lies in memory. May a node, an owner, a Near be, each by itself, as the document says it? Contracts. Condition: its lists lie in memory. Where a node, an owner of a name stands; may a pod be in its cluster, as the document says it? Contracts. Condition: the cluster lies in memory. -/
import Derived.Test.YtpdaohkpgconkaaGreatC03
import Derived.Test.YtpdaohkpgconkaaGreatShelf
import Derived.Deep.RegionLawGrows
import Derived.Deep.RegionHeld3
import Derived.Deep.DeepCutAuto

namespace Go.Proofs.YtpdaohkpgconkaaGreat
open Go.RowKit

/-- What Check tells. -/
def checkS (ns : List NodeD) (ps : List PodD) (os : List OwnD) : Int := if clusB ns ps os then (if sumB (ns.map (·.cap)) && sumB (ps.map (·.req)) then 0 else 10) else 50
set_option maxRecDepth 100000 in
set_option maxHeartbeats 4000000 in
theorem check_any (A B C : Option Addr) (ca cb cc : Nat) (ns : List NodeD) (ps : List PodD) (os : List OwnD) (w : World) (h : SnapAt w A B C ca cb cc ns ps os) :
    Calls Tryz.prog 61 #[snapV A B C ca cb cc ns ps os] w fun e w' => e = .returned (.int .i64 (checkS ns ps os)) ∧ Below w.heap.size w w' := by
  have H := Lib.hid h
  have B0 : Hid (Below w.heap.size w (w.alloc (.cells (snapC A B C ca cb cc ns ps os) 26))) := Lib.hid (below1 w _)
  have S0 : Hid (Blk (w.alloc (.cells (snapC A B C ca cb cc ns ps os) 26)) w.heap.size (snapC A B C ca cb cc ns ps os) 26) := Lib.hid (Blk.new w _ _)
  have hg1 : ∀ (args : Array Value) (w : World), (callFunc 81 args).run Tryz.prog w = .ok (.enter 81 args) w := fun _ _ => by kernel_rfl
  have hg2 : ∀ (args : Array Value) (w : World), (callFunc 83 args).run Tryz.prog w = .ok (.enter 83 args) w := fun _ _ => by kernel_rfl
  have KM := Lib.hid (may_any A B C ca cb cc ns ps os (w.alloc (.cells (snapC A B C ca cb cc ns ps os) 26)) (H.out.below B0.out))
  have E1 := Lib.hid (fun w' (hb : Below w.heap.size w w') => eachNV A ca ns 81 w' H.out.ln (H.out.below hb).n.cells (fun e => noneN (w := w) (e ▸ H.out.n.cells)) hg1 capOf_any)
  have E2 := Lib.hid (fun w' (hb : Below w.heap.size w w') => eachPV B cb ps 83 w' H.out.lp (H.out.below hb).p.cells (fun e => noneP (w := w) (e ▸ H.out.p.cells)) hg2 reqOf_any)
  have F1 := Lib.hid (fun (w' : World) (base : Nat) (A : Option Addr) (c : Nat) (ho : w'.ownsRow base 32 5 (.slice A ns.length c) ns.length (ns.flatMap fun x => rowC x.cap)) => by
    have k := sum_any A c (ns.map (·.cap)) w' (by simpa using H.out.ln) (rowsOf (·.cap) ns ho)
    rwa [List.length_map] at k)
  have F2 := Lib.hid (fun (w' : World) (base : Nat) (A : Option Addr) (c : Nat) (ho : w'.ownsRow base 32 5 (.slice A ps.length c) ps.length (ps.flatMap fun x => rowC x.req)) => by
    have k := sum_any A c (ps.map (·.req)) w' (by simpa using H.out.lp) (rowsOf (·.req) ps ho)
    rwa [List.length_map] at k)
  have E : Hid (checkS ns ps os = if clusB ns ps os then (if sumB (ns.map (·.cap)) && sumB (ps.map (·.req)) then 0 else 10) else 50) := Lib.hid rfl
  generalize checkS ns ps os = R at E ⊢
  generalize clusB ns ps os = v0 at KM E
  generalize sumB (ns.map (·.cap)) = v1 at F1 E
  generalize sumB (ps.map (·.req)) = v2 at F2 E
  clear h H hg1 hg2
  have hlt0 : w.heap.size < (w.alloc (.cells (snapC A B C ca cb cc ns ps os) 26)).heap.size := Blk.lt S0.out
  go_enter Tryz.func61, Tryz.ntmps61
  go_wp2_with fail
  refine (KM.out).mono ?_
  rintro e w1 ⟨rfl, hb⟩
  clear KM
  have S1 := Lib.hid (S0.out.below hb hlt0)
  have B1 := Lib.hid (B0.out.trans (hb.mono (Nat.le_of_lt hlt0)))
  clear hb
  have hl1 := Blk.lt S1.out
  have s0 : w1.cell? ⟨w.heap.size, 0, none⟩ = some (.slice A ns.length ca) := Blk.cell S1.out 0
  have s1 : w1.cell? ⟨w.heap.size, 1, none⟩ = some (.slice B ps.length cb) := Blk.cell S1.out 1
  have s2 : w1.cell? ⟨w.heap.size, 2, none⟩ = some (.slice C os.length cc) := Blk.cell S1.out 2
  cases v0
  · have HE : Hid (R = 50) := Lib.hid (by rw [E.out]; simp)
    go_wp2
    go_ret
    exact ⟨La.retI HE.out.symm, B1.out⟩
  go_wp2_with fail
  refine (E1.out _ B1.out).mono ?_
  rintro e w2 ⟨u1, rfl, ho, hb⟩
  obtain ⟨A1, c1, rfl, hm⟩ := La.own_slice ho
  have KF := Lib.hid (F1.out _ _ _ _ ho)
  clear ho hm E1 F1 s0 s1 s2
  have S2 := Lib.hid (S1.out.below hb hl1)
  have B2 := Lib.hid (B1.out.trans (hb.mono (Nat.le_of_lt hl1)))
  clear hb
  have hl2 := Blk.lt S2.out
  have s0 : w2.cell? ⟨w.heap.size, 0, none⟩ = some (.slice A ns.length ca) := Blk.cell S2.out 0
  have s1 : w2.cell? ⟨w.heap.size, 1, none⟩ = some (.slice B ps.length cb) := Blk.cell S2.out 1
  have s2 : w2.cell? ⟨w.heap.size, 2, none⟩ = some (.slice C os.length cc) := Blk.cell S2.out 2
  go_wp2_with fail
  refine (KF.out).mono ?_
  rintro e w3 ⟨rfl, hb⟩
  clear KF s0 s1 s2
  have S3 := Lib.hid (S2.out.below hb hl2)
  have B3 := Lib.hid (B2.out.trans (hb.mono (Nat.le_of_lt hl2)))
  clear hb
  have hl3 := Blk.lt S3.out
  have s0 : w3.cell? ⟨w.heap.size, 0, none⟩ = some (.slice A ns.length ca) := Blk.cell S3.out 0
  have s1 : w3.cell? ⟨w.heap.size, 1, none⟩ = some (.slice B ps.length cb) := Blk.cell S3.out 1
  have s2 : w3.cell? ⟨w.heap.size, 2, none⟩ = some (.slice C os.length cc) := Blk.cell S3.out 2
  cases v1
  · have HE : Hid (R = 10) := Lib.hid (by rw [E.out]; simp)
    go_wp2
    go_ret
    exact ⟨La.retI HE.out.symm, B3.out⟩
  go_wp2_with fail
  refine (E2.out _ B3.out).mono ?_
  rintro e w4 ⟨u2, rfl, ho, hb⟩
  obtain ⟨A2, c2, rfl, hm⟩ := La.own_slice ho
  have KF := Lib.hid (F2.out _ _ _ _ ho)
  clear ho hm E2 F2 s0 s1 s2
  have S4 := Lib.hid (S3.out.below hb hl3)
  have B4 := Lib.hid (B3.out.trans (hb.mono (Nat.le_of_lt hl3)))
  clear hb
  have hl4 := Blk.lt S4.out
  have s0 : w4.cell? ⟨w.heap.size, 0, none⟩ = some (.slice A ns.length ca) := Blk.cell S4.out 0
  have s1 : w4.cell? ⟨w.heap.size, 1, none⟩ = some (.slice B ps.length cb) := Blk.cell S4.out 1
  have s2 : w4.cell? ⟨w.heap.size, 2, none⟩ = some (.slice C os.length cc) := Blk.cell S4.out 2
  go_wp2_with fail
  refine (KF.out).mono ?_
  rintro e w5 ⟨rfl, hb⟩
  clear KF s0 s1 s2
  have S5 := Lib.hid (S4.out.below hb hl4)
  have B5 := Lib.hid (B4.out.trans (hb.mono (Nat.le_of_lt hl4)))
  clear hb
  have hl5 := Blk.lt S5.out
  cases v2
  · have HE : Hid (R = 10) := Lib.hid (by rw [E.out]; simp)
    go_wp2
    go_ret
    exact ⟨La.retI HE.out.symm, B5.out⟩
  have HE : Hid (R = 0) := Lib.hid (by rw [E.out]; simp)
  go_wp2
  go_ret
  exact ⟨La.retI HE.out.symm, B5.out⟩
end Go.Proofs.YtpdaohkpgconkaaGreat

namespace Go.Proofs.YtpdaohkpgconkaaGreat
open Go.RowKit

abbrev intsC (l : List Int) : List Value := l.map (Value.int .i64)
theorem atI {w : World} {A : Option Addr} {l : List Int} (h : La.SlAt w A (intsC l)) {k : Nat} {x : Int} (hk : l[k]? = some x) :
    ∃ b o, A = some ⟨b, o, none⟩ ∧ b < w.heap.size ∧ w.cell? ⟨b, o + k, none⟩ = some (.int .i64 x) := by
  obtain ⟨b, o, hA, h0⟩ := h k (.int .i64 x) (by simp [intsC, hk])
  exact ⟨b, o, hA, World.block_lt_of_cell? w _ h0, h0⟩
/-- A list of numbers as a value. -/
structure IntsAt (w : World) (A : Option Addr) (c : Nat) (l : List Int) : Prop where
  cells : La.SlAt w A (intsC l)
  le : l.length ≤ c
  most : c ≤ 9223372036854775807
theorem IntsAt.below {w w' : World} {A : Option Addr} {c : Nat} {l : List Int} (h : IntsAt w A c l) (hb : Below w.heap.size w w') : IntsAt w' A c l := ⟨h.cells.below hb, h.le, h.most⟩
theorem IntsAt.own {w : World} {base : Nat} {A : Option Addr} {c : Nat} {l : List Int} (h : w.ownsRow base 3 1 (.slice A l.length c) l.length (intsC l)) : IntsAt w A c l := by
  have hc := capOwn h
  have hm : maxLen ≤ 9223372036854775807 := by unfold maxLen; omega
  exact ⟨La.own_slat h, hc.1, Nat.le_trans hc.2 hm⟩
theorem IntsAt.nil (w : World) : IntsAt w none 0 [] := ⟨fun j y h => by simp at h, Nat.le_refl _, by omega⟩

set_option maxHeartbeats 400000 in
theorem isPlace_any (i c : Int) (w : World) :
    Calls Tryz.prog 84 #[.int .i64 i, .int .i64 c] w fun e w' => e = .returned (.bool (decide (0 ≤ i ∧ i < c))) ∧ w' = w := by
  by_cases h0 : 0 ≤ i
  · go_enter Tryz.func84, Tryz.ntmps84
    go_wp2
    go_ret
    exact ⟨La.retB (by simp [h0]), rfl⟩
  · go_enter Tryz.func84, Tryz.ntmps84
    go_wp2
    go_ret
    exact ⟨La.retB (by symm; simp; omega), rfl⟩

set_option maxHeartbeats 1000000 in
theorem ptakes_any (A B C : Option Addr) (ca cb cc lb lc : Nat) (l : List NodeD) (k : Int) (w : World) (hs : La.SlAt w A (cellsN l)) :
    Calls Tryz.prog 62 #[.agg #[.slice A l.length ca, .slice B lb cb, .slice C lc cc], .int .i64 k] w fun e w' => e = .returned (.bool (tpB l k)) ∧ Below w.heap.size w w' := by
  have B0 := Lib.hid (below1 w (.cells #[.slice A l.length ca, .slice B lb cb, .slice C lc cc] 26))
  by_cases h0 : 0 ≤ k ∧ k < (l.length : Int)
  · have KP : Hid (∀ w', Calls Tryz.prog 84 #[.int .i64 k, .int .i64 (l.length : Int)] w' fun e w'' => e = .returned (.bool true) ∧ w'' = w') := Lib.hid (fun w' => by
      have := isPlace_any k l.length w'
      rwa [decide_eq_true h0] at this)
    obtain ⟨n, rfl⟩ : ∃ n : Nat, k = (n : Int) := ⟨k.toNat, by omega⟩
    have hn : n < l.length := by omega
    obtain ⟨x, hx⟩ : ∃ x, l[n]? = some x := ⟨l[n], List.getElem?_eq_getElem hn⟩
    obtain ⟨b, o, hA, hbl, c0, c1, c2, c3, c4, c5, c6, c7, c8, c9⟩ := atN (hs.below B0.out) hx
    subst hA
    have E : Hid (tpB l (n : Int) = !x.lost) := Lib.hid (by unfold tpB; rw [Int.toNat_natCast, hx]; simp)
    have n0 : (0 : Int) ≤ (n : Int) := by omega
    have n1 : (n : Int) < (l.length : Int) := by omega
    have hnot : ∀ (x : Bool) (w : World), (Op.unary .not (.bool x)).run Tryz.prog w = .ok (.bool (!x)) w := fun _ _ => rfl
    clear hs hx h0 c0 c1 c2 c3 c4 c5 c6 c7 c8
    go_enter Tryz.func62, Tryz.ntmps62
    go_wp2_with fail
    refine (KP.out _).mono ?_
    rintro e w1 ⟨rfl, rfl⟩
    go_wp2
    all_goals
      go_ret
      first
        | exact ⟨La.retB E.out.symm, B0.out⟩
        | exact ⟨La.retB (by rw [E.out]; simp_all), B0.out⟩
  · have KP : Hid (∀ w', Calls Tryz.prog 84 #[.int .i64 k, .int .i64 (l.length : Int)] w' fun e w'' => e = .returned (.bool false) ∧ w'' = w') := Lib.hid (fun w' => by
      have := isPlace_any k l.length w'
      rwa [decide_eq_false h0] at this)
    have E : Hid (tpB l k = false) := Lib.hid (by
      unfold tpB
      by_cases hk : 0 ≤ k
      · rw [List.getElem?_eq_none (by omega)]
        simp
      · rw [decide_eq_false hk]
        rfl)
    clear hs h0
    go_enter Tryz.func62, Tryz.ntmps62
    go_wp2_with fail
    refine (KP.out _).mono ?_
    rintro e w1 ⟨rfl, rfl⟩
    go_wp2
    go_ret
    exact ⟨La.retB E.out.symm, B0.out⟩
end Go.Proofs.YtpdaohkpgconkaaGreat

namespace Go.Proofs.YtpdaohkpgconkaaGreat
open Go.RowKit

/-- A number that a placement may have. -/
def okB (ns : List NodeD) (k : Int) : Bool := decide (k = -1) || tpB ns k
/-- What Check tells. -/
def placeE (ns : List NodeD) (ps : List PodD) (os : List OwnD) (p : List Int) : Int := if checkS ns ps os = 0 then (if p.length = ps.length then (if p.all (okB ns) then 0 else 2) else 2) else checkS ns ps os

set_option maxRecDepth 100000 in
set_option maxHeartbeats 4000000 in
theorem pcheck_any (A B C P : Option Addr) (ca cb cc cp : Nat) (ns : List NodeD) (ps : List PodD) (os : List OwnD) (p : List Int) (w : World) (h : SnapAt w A B C ca cb cc ns ps os) (hp : IntsAt w P cp p) :
    Calls Tryz.prog 31 #[snapV A B C ca cb cc ns ps os, .slice P p.length cp] w fun e w' => e = .returned (.int .i64 (placeE ns ps os p)) ∧ Below w.heap.size w w' := by
  have H := Lib.hid h
  have HP := Lib.hid hp
  have B0 : Hid (Below w.heap.size w (w.alloc (.cells (snapC A B C ca cb cc ns ps os) 26))) := Lib.hid (below1 w _)
  have S0 : Hid (Blk (w.alloc (.cells (snapC A B C ca cb cc ns ps os) 26)) w.heap.size (snapC A B C ca cb cc ns ps os) 26) := Lib.hid (Blk.new w _ _)
  have hlp := H.out.lp
  have KC := Lib.hid (check_any A B C ca cb cc ns ps os (w.alloc (.cells (snapC A B C ca cb cc ns ps os) 26)) (H.out.below B0.out))
  have E : Hid (placeE ns ps os p = if checkS ns ps os = 0 then (if p.length = ps.length then (if p.all (okB ns) then 0 else 2) else 2) else checkS ns ps os) := Lib.hid rfl
  have KT := Lib.hid (fun k w' (hb : Below w.heap.size w w') => ptakes_any A B C ca cb cc ps.length os.length ns k w' (H.out.below hb).n.cells)
  generalize placeE ns ps os p = R at E ⊢
  generalize checkS ns ps os = v0 at KC E
  clear h H hp
  have hlt0 : w.heap.size < (w.alloc (.cells (snapC A B C ca cb cc ns ps os) 26)).heap.size := Blk.lt S0.out
  go_enter Tryz.func31, Tryz.ntmps31
  go_wp2_with fail
  refine (KC.out).mono ?_
  rintro e w1 ⟨rfl, hb⟩
  clear KC
  have S1 := Lib.hid (S0.out.below hb hlt0)
  have B1 := Lib.hid (B0.out.trans (hb.mono (Nat.le_of_lt hlt0)))
  clear hb
  have hl1 := Blk.lt S1.out
  have s0 : w1.cell? ⟨w.heap.size, 0, none⟩ = some (.slice A ns.length ca) := Blk.cell S1.out 0
  have s1 : w1.cell? ⟨w.heap.size, 1, none⟩ = some (.slice B ps.length cb) := Blk.cell S1.out 1
  have s2 : w1.cell? ⟨w.heap.size, 2, none⟩ = some (.slice C os.length cc) := Blk.cell S1.out 2
  by_cases hv : v0 = 0
  case neg =>
    have HE : Hid (R = v0) := Lib.hid (by rw [E.out, if_neg hv])
    have hvb : (v0 == 0) = false := by simpa using hv
    go_wp2
    go_ret
    exact ⟨La.retI HE.out.symm, B1.out⟩
  subst hv
  by_cases hn : p.length = ps.length
  case neg =>
    have HE : Hid (R = 2) := Lib.hid (by rw [E.out, if_pos rfl, if_neg hn])
    have hnb : ((p.length : Int) == (ps.length : Int)) = false := by simp; omega
    have hni : ¬ ((p.length : Int) = (ps.length : Int)) := by omega
    go_wp2
    go_ret
    exact ⟨La.retI HE.out.symm, B1.out⟩
  have E2 : Hid (R = if p.all (okB ns) then 0 else 2) := Lib.hid (by rw [E.out, if_pos rfl, if_pos hn])
  have hnb : ((p.length : Int) == (ps.length : Int)) = true := by simp; omega
  have hni : (p.length : Int) = (ps.length : Int) := by omega
  clear E
  go_wp2_with fail
  go_loopw [21] (fun i wr => ∃ k : Nat, k ≤ ps.length ∧ i = .int .i64 k ∧ (∀ j x, j < k → p[j]? = some x → okB ns x = true) ∧ Below w.heap.size w wr ∧ Blk wr w.heap.size (snapC A B C ca cb cc ns ps os) 26) (fun i _ => ps.length - (intOf i).toNat)
  case atStart => exact ⟨0, by omega, rfl, fun j x h => by omega, B1.out, S1.out⟩
  case round =>
    clear s0 s1 s2 B1 S1 hl1
    obtain ⟨k, hk, rfl, hnk, hb, hsk⟩ := hrel
    have HN := Lib.hid hnk
    have HB := Lib.hid hb
    have HS := Lib.hid hsk
    clear hnk hb hsk
    have s0 : wr.cell? ⟨w.heap.size, 0, none⟩ = some (.slice A ns.length ca) := Blk.cell HS.out 0
    have s1 : wr.cell? ⟨w.heap.size, 1, none⟩ = some (.slice B ps.length cb) := Blk.cell HS.out 1
    have s2 : wr.cell? ⟨w.heap.size, 2, none⟩ = some (.slice C os.length cc) := Blk.cell HS.out 2
    by_cases hlt : k < ps.length
    · obtain ⟨x, hx⟩ : ∃ x, p[k]? = some x := ⟨p[k]'(by omega), List.getElem?_eq_getElem (by omega)⟩
      obtain ⟨b, o, hA, hbl, c0⟩ := atI (HP.out.below HB.out).cells hx
      subst hA
      have HX := Lib.hid hx
      have k0 : (0 : Int) ≤ (k : Int) := by omega
      have k1 : (k : Int) < (ps.length : Int) := by omega
      clear hx
      by_cases hm : x = -1
      · subst hm
        go_wp2_with fail
        go_roundw
        case rel =>
          refine ⟨k + 1, by omega, by go_num, fun j y hj hy => ?_, HB.out, HS.out⟩
          by_cases hjk : j = k
          · subst hjk
            rw [HX.out] at hy
            cases hy
            rfl
          · exact HN.out j y (by omega) hy
        case measure => simp [intOf]; omega
      · have hmb : (x != -1) = true := by simpa using hm
        have KI := Lib.hid (KT.out x wr HB.out)
        obtain ⟨r, hr⟩ : ∃ r, tpB ns x = r := ⟨_, rfl⟩
        have Hr := Lib.hid hr
        rw [hr] at KI
        clear hr
        have Hm := Lib.hid hm
        clear hm
        go_wp2_with fail
        refine (KI.out).mono ?_
        rintro e w3 ⟨rfl, hb3⟩
        have hlw : w.heap.size < wr.heap.size := Blk.lt HS.out
        have B3 := Lib.hid (HB.out.trans (hb3.mono HB.out.size))
        have S3 := Lib.hid (HS.out.below hb3 hlw)
        clear hb3 KI c0 s0 s1 s2
        cases r
        · have HE : Hid (2 = R) := Lib.hid (by
            rw [E2.out, if_neg]
            rw [List.all_eq_true]
            intro hall
            have := hall x (List.mem_of_getElem? HX.out)
            unfold okB at this
            rw [Hr.out, decide_eq_false Hm.out] at this
            cases this)
          go_wp2
          go_ret
          exact ⟨La.retI HE.out, B3.out⟩
        · go_wp2
          go_roundw
          case rel =>
            refine ⟨k + 1, by omega, by go_num, fun j y hj hy => ?_, B3.out, S3.out⟩
            by_cases hjk : j = k
            · subst hjk
              rw [HX.out] at hy
              cases hy
              unfold okB
              rw [Hr.out, Bool.or_true]
            · exact HN.out j y (by omega) hy
          case measure => simp [intOf]; omega
    · obtain rfl : k = ps.length := by omega
      have HE : Hid (0 = R) := Lib.hid (by
        rw [E2.out, if_pos]
        rw [List.all_eq_true]
        intro y hy
        obtain ⟨j, hj⟩ := List.mem_iff_getElem?.1 hy
        refine HN.out j y ?_ hj
        have := (List.getElem?_eq_some_iff.1 hj).1
        omega)
      go_wp2
      go_ret
      exact ⟨La.retI HE.out, HB.out⟩
end Go.Proofs.YtpdaohkpgconkaaGreat

namespace Go.Proofs.YtpdaohkpgconkaaGreat
open Go.RowKit

theorem own_base {w : World} {base base' : Nat} {e : TypeId} {size : Nat} {v : Value} {k : Nat} {xs : List Value} (h : w.ownsRow base e size v k xs) (hb : base' ≤ base) : w.ownsRow base' e size v k xs := by
  obtain ⟨hl, h1 | ⟨g, cap, cur, hv, h0, hr⟩⟩ := h
  · exact ⟨hl, .inl h1⟩
  · exact ⟨hl, .inr ⟨g, cap, cur, hv, Nat.le_trans hb h0, hr⟩⟩
theorem own_put {w : World} {base : Nat} {e : TypeId} {g n cap : Nat} {xs : List Value} (h : w.ownsRow base e 1 (.slice (some ⟨g, 0, none⟩) n cap) n xs) (k : Nat) (v : Value) :
    (w.setCell ⟨g, k, none⟩ v).ownsRow base e 1 (.slice (some ⟨g, 0, none⟩) n cap) n (xs.set k v) := by
  obtain ⟨hl, h1 | ⟨g', cap', cur, hv, hb, hg, h1, h2, h3, h4⟩⟩ := h
  · cases h1.1
  · cases hv
    refine ⟨by simpa using hl, .inr ⟨g, cap, cur.setIfInBounds k v, rfl, hb, heap_setCell_same _ g _ _ _ _ hg, h1, h2, by simpa using h3, ?_⟩⟩
    rw [Array.toList_setIfInBounds, List.take_set, h4]
theorem own_free {w : World} {base : Nat} {e : TypeId} {g n cap : Nat} {xs : List Value} (h : w.ownsRow base e 1 (.slice (some ⟨g, 0, none⟩) n cap) n xs) (k : Nat) :
    w.frozen? ⟨g, k, none⟩ = false := by
  obtain ⟨hl, h1 | ⟨g', cap', cur, hv, hb, hg, h1, h2, h3, h4⟩⟩ := h
  · cases h1.1
  · cases hv
    exact Blk.free hg k
theorem ints_set (l : List Int) (k : Nat) (x : Int) : (intsC l).set k (.int .i64 x) = intsC (l.set k x) := by simp [intsC, List.map_set]

end Go.Proofs.YtpdaohkpgconkaaGreat

namespace Go.Proofs.YtpdaohkpgconkaaGreat
open Go.RowKit

def evictF (p : List Int) (pd nd : Int) : List Int × Int :=
  if 0 ≤ pd ∧ pd < (p.length : Int) then (if nd = 0 then (if p[pd.toNat]? = some (-1) then ([], 110) else (p.set pd.toNat (-1), 0)) else ([], 9)) else ([], 9)
/-- Is that node lost? -/
def lostB (ns : List NodeD) (k : Nat) : Bool := match ns[k]? with
  | none => false
  | some x => x.lost
def bindF (ns : List NodeD) (p : List Int) (pd nd : Int) : List Int × Int :=
  if 0 ≤ pd ∧ pd < (p.length : Int) then (if 0 ≤ nd ∧ nd < (ns.length : Int) then (if p[pd.toNat]? = some (-1) then (if lostB ns nd.toNat then ([], 110) else (p.set pd.toNat nd, 0)) else ([], 110)) else ([], 9)) else ([], 9)
/-- What Apply answers. -/
def applyF (ns : List NodeD) (ps : List PodD) (os : List OwnD) (p : List Int) (kd pd nd : Int) : List Int × Int :=
  if placeE ns ps os p = 0 then (if kd = 1 then evictF p pd nd else if kd = 2 then bindF ns p pd nd else ([], 2)) else ([], placeE ns ps os p)
abbrev stepV (kd pd nd : Int) : Value := .agg #[.int .i64 kd, .int .i64 pd, .int .i64 nd]
/-- What it is to answer a row and a number. -/
abbrev RowNo (w : World) (F : List Int × Int) (e : Ending) (w' : World) : Prop := ∃ v, e = .returned (.tuple #[v, .int .i64 F.2]) ∧ w'.ownsRow w.heap.size 3 1 v F.1.length (intsC F.1) ∧ Below w.heap.size w w'
theorem nil_post {w w' : World} {c : Int} {F : List Int × Int} (hF : F = ([], c)) (hb : Below w.heap.size w w') : RowNo w F (.returned (.tuple #[.slice none 0 0, .int .i64 c])) w' := by
  subst hF
  exact ⟨_, rfl, World.ownsRow_nil _ _ _ _, hb⟩

end Go.Proofs.YtpdaohkpgconkaaGreat

namespace Go.Proofs.YtpdaohkpgconkaaGreat
open Go.RowKit

theorem own_gem {w : World} {base : Nat} {e : TypeId} {size : Nat} {v : Value} {n : Nat} {xs : List Value} (h : w.ownsRow base e size v n xs) {j : Nat} (hj : v.ownBlock = some j) : base ≤ j := (h.lt j hj).1
end Go.Proofs.YtpdaohkpgconkaaGreat

namespace Go.Proofs.YtpdaohkpgconkaaGreat
open Go.RowKit

/-- The places of the first k pods that are of that owner. -/
def membersU (ps : List PodD) (name : List UInt8) : Nat → List Int
  | 0 => []
  | k + 1 => membersU ps name k ++ (match ps[k]? with
    | some x => if x.owner = name then [(k : Int)] else []
    | none => [])
theorem membersU_len (ps : List PodD) (name : List UInt8) : ∀ k, (membersU ps name k).length ≤ k
  | 0 => Nat.le_refl _
  | k + 1 => by
    have := membersU_len ps name k
    rw [membersU, List.length_append]
    split
    · split <;> simp <;> omega
    · simp; omega
/-- What Members tells of an owner that there is. -/
def membersF (ps : List PodD) (name : List UInt8) : List Int := membersU ps name ps.length

set_option maxRecDepth 100000 in
set_option maxHeartbeats 4000000 in
theorem members_any (A B C : Option Addr) (ca cb cc : Nat) (ns : List NodeD) (ps : List PodD) (os : List OwnD) (k : Nat) (x : OwnD) (w : World) (h : SnapAt w A B C ca cb cc ns ps os) (hx : os[k]? = some x) :
    Calls Tryz.prog 198 #[snapV A B C ca cb cc ns ps os, .int .i64 (k : Int)] w fun e w' => ∃ v, e = .returned v ∧ w'.ownsRow w.heap.size 3 1 v (membersF ps x.name).length (intsC (membersF ps x.name)) ∧ Below w.heap.size w w' := by
  have H := Lib.hid h
  have HX := Lib.hid hx
  have B0 : Hid (Below w.heap.size w (w.alloc (.cells (snapC A B C ca cb cc ns ps os) 26))) := Lib.hid (below1 w _)
  have S0 : Hid (Blk (w.alloc (.cells (snapC A B C ca cb cc ns ps os) 26)) w.heap.size (snapC A B C ca cb cc ns ps os) 26) := Lib.hid (Blk.new w _ _)
  have hko : k < os.length := (List.getElem?_eq_some_iff.1 hx).1
  have k0 : (0 : Int) ≤ (k : Int) := by omega
  have k0' : ¬ (k : Int) < 0 := by omega
  have k1 : (k : Int) < (os.length : Int) := by omega
  have k1' : ¬ (os.length : Int) ≤ (k : Int) := by omega
  have hlp := h.lp
  have hlo := h.lo
  clear h hx
  obtain ⟨i0, hi0, hz0, hz1, hz2⟩ := info_parts Qu.int_info
  go_enter Tryz.func198, Tryz.ntmps198
  go_wp2_with fail
  go_loopw [20, 5] (fun i v wr => ∃ j : Nat, j ≤ ps.length ∧ i = .int .i64 j ∧ wr.ownsRow w.heap.size 3 1 v (membersU ps x.name j).length (intsC (membersU ps x.name j)) ∧ Below w.heap.size w wr ∧ Blk wr w.heap.size (snapC A B C ca cb cc ns ps os) 26) (fun i _ _ => ps.length - (intOf i).toNat)
  case atStart => exact ⟨0, by omega, rfl, World.ownsRow_nil _ _ _ _, B0.out, S0.out⟩
  case round =>
    obtain ⟨j, hj, rfl, hown, hbw, hsk⟩ := hrel
    have HO := Lib.hid hown
    have HW := Lib.hid hbw
    have HS := Lib.hid hsk
    clear hown hbw hsk
    by_cases hlt : j < ps.length
    · obtain ⟨y, hy⟩ : ∃ y, ps[j]? = some y := ⟨ps[j], List.getElem?_eq_getElem hlt⟩
      obtain ⟨b, o, hA, hbl, c0, c1, c2, c3, c4, c5, c6, c7, c8, c9, c10, c11, c12, c13, c14⟩ := atP (H.out.below HW.out).p.cells hy
      subst hA
      have hstep : membersU ps x.name (j + 1) = membersU ps x.name j ++ (if y.owner = x.name then [(j : Int)] else []) := by rw [membersU, hy]
      have HT := Lib.hid hstep
      have hml := membersU_len ps x.name j
      have j0 : (0 : Int) ≤ (j : Int) := by omega
      have j1 : (j : Int) < (ps.length : Int) := by omega
      have B2 := Lib.hid (HW.out.alloc HW.out.size (.cells (cellsP [y]).toArray 43))
      have P2 : Hid (Blk (wr.alloc (.cells (cellsP [y]).toArray 43)) wr.heap.size (cellsP [y]).toArray 43) := Lib.hid (Blk.new wr _ _)
      have S2 := Lib.hid (Blk.alloc HS.out (.cells (cellsP [y]).toArray 43))
      have O2 := Lib.hid (show World.ownsRow _ _ _ _ _ _ _ from HO.out.alloc (.cells (cellsP [y]).toArray 43))
      obtain ⟨b2, o2, hA2, hbl2, d0, d1, d2, d3, d4⟩ := atO (H.out.below B2.out).o HX.out
      subst hA2
      clear hy hstep d1 d2 d3 d4
      go_wp2_with fail
      change Code.wp _ _ _ _ (wr.alloc (.cells (cellsP [y]).toArray 43))
      generalize hW2 : (wr.alloc (.cells (cellsP [y]).toArray 43)) = W2 at B2 P2 S2 O2 d0 hbl2 ⊢
      have p1 : W2.cell? ⟨wr.heap.size, 1, none⟩ = some (strV y.owner) := Blk.cell P2.out 1
      have z2 : W2.cell? ⟨w.heap.size, 2, none⟩ = some (.slice (some ⟨b2, o2, none⟩) os.length cc) := Blk.cell S2.out 2
      clear hW2 c0 c1 c2 c3 c4 c5 c6 c7 c8 c9 c10 c11 c12 c13 c14
      by_cases hxy : y.owner = x.name
      · go_region
        go_wp2_with (at_builtin; refine wpList_append_own _ rfl _ _ 44 rfl w.heap.size 3 i0 (.int .i64 0) 1 8 Tryz.underlying44 hi0 hz0 hz1 hz2 rfl (by decide) _ _ _ rfl (show World.ownsRow _ _ _ _ _ _ _ from O2.out.alloc _) ⟨W2.heap.size, 0, none⟩ 1 1 [.int .i64 (j : Int)] rfl rfl ?c1 ?c2 ?c3 ?c4 ?c5 ?_)
        case c1 =>
          intro j u hj
          match j, hj with
          | 0, hj => simp at hj; subst hj; simp [Addr.add]
        case c2 => first | rfl | (intro u hu; simp at hu; subst hu; rfl)
        case c3 => unfold maxLen; omega
        case c4 => omega
        case c5 => have := B2.out.size; simp; omega
        intro v' w2 hown' hgrow' _
        have hwz : w.heap.size < W2.heap.size := Blk.lt S2.out
        have HO2 := Lib.hid hown'
        have HW2 := Lib.hid ((B2.out.drew.alloc B2.out.size (.cells #[.int .i64 (j : Int)] 3)).grown hgrow' (by have := B2.out.size; simp; omega) (fun j hj => own_gem O2.out hj))
        have HS2 : Hid (Blk w2 w.heap.size (snapC A (some ⟨b, o, none⟩) (some ⟨b2, o2, none⟩) ca cb cc ns ps os) 26) := Lib.hid (Blk.kept (Blk.alloc (show Blk W2.drew _ _ _ from S2.out) (.cells #[.int .i64 (j : Int)] 3)) hgrow' (fun e => by
          have he := e.symm
          rcases O2.out.2 with ⟨hv, _⟩ | ⟨g, cap, cur, hv, hbg, hg, _⟩
          · rw [hv] at he; cases he
          · rw [hv] at he
            simp only [Value.ownBlock, Option.some.injEq] at he
            subst he
            have h1 := S2.out
            unfold Blk at h1
            rw [hg] at h1
            cases h1))
        clear hown' hgrow'
        go_wp2
        go_roundw
        case rel =>
          refine ⟨j + 1, by omega, by go_num, ?_, HW2.out, HS2.out⟩
          rw [HT.out, if_pos hxy, List.length_append]
          simpa [intsC] using HO2.out
        case measure => simp [intOf]; omega
      · go_region
        rw [show (y.owner == x.name) = false from beq_eq_false_iff_ne.2 hxy]
        go_wp2_with fail
        go_roundw
        case rel =>
          refine ⟨j + 1, by omega, by go_num, ?_, B2.out.drew, (show Blk W2.drew _ _ _ from S2.out)⟩
          rw [HT.out, if_neg hxy, List.append_nil]
          exact (show World.ownsRow W2.drew _ _ _ _ _ _ from O2.out)
        case measure => simp [intOf]; omega
    · obtain rfl : j = ps.length := by omega
      go_wp2
      go_ret
      exact ⟨_, rfl, HO.out, HW.out⟩

end Go.Proofs.YtpdaohkpgconkaaGreat

namespace Go.Proofs.YtpdaohkpgconkaaGreat
open Go.RowKit

theorem size_of (t : List UInt8) : ((⟨t.toArray⟩ : ByteArray).size) = t.length := by simp [ByteArray.size]
set_option maxHeartbeats 1000000 in
theorem clone_any (t : List UInt8) (w : World) (h : t.length ≤ 281474976710656) :
    Calls Tryz.prog 196 #[strV t] w fun e w' => e = .returned (strV t) ∧ Below w.heap.size w w' := by
  have K := Lib.hid (Tryz.stringslite_Clone ⟨t.toArray⟩ w (by rw [size_of]; exact h))
  go_enter Tryz.func196, Tryz.ntmps196
  go_wp2_with fail
  refine K.out.mono ?_
  rintro e w1 ⟨rfl, hb⟩
  have HB := Lib.hid hb
  clear hb K
  go_wp2
  go_ret
  exact ⟨rfl, HB.out⟩

set_option maxRecDepth 100000 in
set_option maxHeartbeats 4000000 in
/-- Which value has a node that is not lost for a key? -/
def domF (ns : List NodeD) (k : Int) (key : List UInt8) : Option (List UInt8) := if tpB ns k then (match ns[k.toNat]? with
  | some x => (x.labels.find? (fun y => decide (y.1 = key))).map (·.2)
  | none => none) else none
theorem domainOf_any (A B C : Option Addr) (ca cb cc lb lc : Nat) (ns : List NodeD) (k : Int) (key : List UInt8) (w : World) (h : NodesAt w A ns) (hval : ∀ x ∈ ns, ∀ y ∈ x.labels, y.2.length ≤ 281474976710656) :
    Calls Tryz.prog 166 #[.agg #[.slice A ns.length ca, .slice B lb cb, .slice C lc cc], .int .i64 k, strV key] w fun e w' => e = .returned (.tuple #[strV ((domF ns k key).getD []), .bool (domF ns k key).isSome]) ∧ Below w.heap.size w w' := by
  have H := Lib.hid h
  have B0 := Lib.hid (below1 w (.cells #[.slice A ns.length ca, .slice B lb cb, .slice C lc cc] 26))
  have S0 : Hid (Blk (w.alloc (.cells #[.slice A ns.length ca, .slice B lb cb, .slice C lc cc] 26)) w.heap.size #[.slice A ns.length ca, .slice B lb cb, .slice C lc cc] 26) := Lib.hid (Blk.new w _ _)
  have KT := Lib.hid (ptakes_any A B C ca cb cc lb lc ns k _ (h.below B0.out).cells)
  have E0 : Hid (domF ns k key = if tpB ns k then (match ns[k.toNat]? with
    | some x => (x.labels.find? (fun y => decide (y.1 = key))).map (·.2)
    | none => none) else none) := Lib.hid rfl
  generalize domF ns k key = R at E0 ⊢
  obtain ⟨r, hr⟩ : ∃ r, tpB ns k = r := ⟨_, rfl⟩
  rw [hr] at E0 KT
  have HR := Lib.hid hr
  clear h hr
  have hlt0 := Blk.lt S0.out
  go_enter Tryz.func166, Tryz.ntmps166
  go_wp2_with fail
  refine (KT.out).mono ?_
  rintro e w1 ⟨rfl, hb⟩
  clear KT
  have S1 := Lib.hid (S0.out.below hb hlt0)
  have B1 := Lib.hid (B0.out.trans (hb.mono (Nat.le_of_lt hlt0)))
  clear hb
  cases r
  · have HE : Hid (R = none) := Lib.hid (by rw [E0.out]; rfl)
    clear E0
    go_wp2
    go_ret2
    rw [HE.out]
    exact ⟨rfl, B1.out⟩
  obtain ⟨n, rfl⟩ : ∃ n : Nat, k = (n : Int) := ⟨k.toNat, by
    have := HR.out
    unfold tpB at this
    simp only [Bool.and_eq_true, decide_eq_true_eq] at this
    omega⟩
  obtain ⟨x, hx⟩ : ∃ x, ns[n]? = some x := by
    have := HR.out
    unfold tpB at this
    rw [Int.toNat_natCast] at this
    cases hq : ns[n]? with
    | none => rw [hq] at this; simp at this
    | some x => exact ⟨x, rfl⟩
  have hnl : n < ns.length := (List.getElem?_eq_some_iff.1 hx).1
  have n0 : (0 : Int) ≤ (n : Int) := by omega
  have n1 : (n : Int) < (ns.length : Int) := by omega
  have HE : Hid (R = (x.labels.find? (fun y => decide (y.1 = key))).map (·.2)) := Lib.hid (by rw [E0.out, Int.toNat_natCast, hx]; rfl)
  have HF := Lib.hid ((H.out.below B1.out).fit x (List.mem_of_getElem? hx))
  have HM := Lib.hid (List.mem_of_getElem? hx)
  obtain ⟨b, o, hA, hbl, c0, c1, c2, c3, c4, c5, c6, c7, c8, c9⟩ := atN (H.out.below B1.out).cells hx
  subst hA
  have s0 : w1.cell? ⟨w.heap.size, 0, none⟩ = some (.slice (some ⟨b, o, none⟩) ns.length ca) := Blk.cell S1.out 0
  clear c0 c1 c2 c3 c4 c5 c7 c8 c9 E0 hx
  obtain ⟨L, hL⟩ : ∃ L, L = x.labels := ⟨_, rfl⟩
  obtain ⟨al, hal⟩ : ∃ al, al = x.al := ⟨_, rfl⟩
  obtain ⟨cl, hcl⟩ : ∃ cl, cl = x.cl := ⟨_, rfl⟩
  have HV : Hid (∀ y ∈ L, y.2.length ≤ 281474976710656) := Lib.hid (by rw [hL]; exact hval x HM.out)
  have HL : Hid (ListL w1 al cl L) := Lib.hid (by rw [hL, hal, hcl]; exact HF.out.l)
  have HE2 : Hid (R = (L.find? (fun y => decide (y.1 = key))).map (·.2)) := Lib.hid (by rw [hL]; exact HE.out)
  rw [← hL, ← hal, ← hcl] at c6
  clear hval HE HF hL hal hcl
  have hLm : L.length ≤ 9223372036854775807 := Nat.le_trans HL.out.le HL.out.most
  go_wp2_with fail
  go_loopw [21] (fun i wr => ∃ k : Nat, k ≤ L.length ∧ i = .int .i64 k ∧ (∀ j y, j < k → L[j]? = some y → y.1 ≠ key) ∧ Below w.heap.size w wr ∧ Below w1.heap.size w1 wr) (fun i _ => L.length - (intOf i).toNat)
  case atStart => exact ⟨0, by omega, rfl, fun j x h => by omega, B1.out, Below.refl _ _⟩
  case round =>
    obtain ⟨k, hk, rfl, hnk, hbw, hb1⟩ := hrel
    have HN := Lib.hid hnk
    have HW := Lib.hid hbw
    have HW1 := Lib.hid hb1
    clear hnk hbw hb1
    by_cases hlt : k < L.length
    · obtain ⟨y, hy⟩ : ∃ y, L[k]? = some y := ⟨L[k], List.getElem?_eq_getElem hlt⟩
      obtain ⟨b0, o0, hA, hb0, hc⟩ := La.SlAt.lab (HL.out.cells.below HW1.out) hy
      subst hA
      have hx0 : wr.cell? ⟨b0, o0 + k * 2, none⟩ = some (strV y.1) := hc.1
      have hx1 : wr.cell? ⟨b0, o0 + k * 2 + 1, none⟩ = some (strV y.2) := hc.2
      have HY := Lib.hid hy
      have k0 : (0 : Int) ≤ (k : Int) := by omega
      have k1 : (k : Int) < (L.length : Int) := by omega
      have B2 := Lib.hid (HW.out.alloc HW.out.size (.cells #[strV y.1, strV y.2] 29))
      have B3 := Lib.hid (HW1.out.alloc HW1.out.size (.cells #[strV y.1, strV y.2] 29))
      have KC := Lib.hid (clone_any y.2 (wr.alloc (.cells #[strV y.1, strV y.2] 29)) (HV.out y (List.mem_of_getElem? hy)))
      clear hy hc
      by_cases hkey : y.1 = key
      · have HR2 : Hid (R = some y.2) := Lib.hid (by
          rw [HE2.out]
          have : L.find? (fun y => decide (y.1 = key)) = some y := by
            rw [List.find?_eq_some_iff_getElem]
            refine ⟨by simpa using hkey, k, hlt, (List.getElem?_eq_some_iff.1 HY.out).2, fun j hj => ?_⟩
            have := HN.out j _ hj (List.getElem?_eq_getElem (by omega))
            simpa using this
          rw [this]
          rfl)
        subst hkey
        go_wp2_with fail
        refine (KC.out).mono ?_
        rintro e w3 ⟨rfl, hb3⟩
        have B4 := Lib.hid (B2.out.trans (hb3.mono B2.out.size))
        clear hb3 KC
        go_wp2
        go_ret2
        rw [HR2.out]
        exact ⟨rfl, B4.out⟩
      · have hkb : (y.1 == key) = false := beq_eq_false_iff_ne.2 hkey
        go_wp2_with fail
        go_roundw
        case rel =>
          refine ⟨k + 1, by omega, by go_num, fun j z hj hz => ?_, B2.out, B3.out⟩
          by_cases hjk : j = k
          · subst hjk
            rw [HY.out] at hz
            cases hz
            exact hkey
          · exact HN.out j z (by omega) hz
        case measure => simp [intOf]; omega
    · obtain rfl : k = L.length := by omega
      have HR2 : Hid (R = none) := Lib.hid (by
        rw [HE2.out]
        have : L.find? (fun y => decide (y.1 = key)) = none := by
          rw [List.find?_eq_none]
          intro y hy
          obtain ⟨j, hj⟩ := List.mem_iff_getElem?.1 hy
          have := HN.out j y (List.getElem?_eq_some_iff.1 hj).1 hj
          simpa using this
        rw [this]
        rfl)
      go_wp2
      go_ret2
      rw [HR2.out]
      exact ⟨rfl, HW.out⟩
end Go.Proofs.YtpdaohkpgconkaaGreat

namespace Go.Proofs.YtpdaohkpgconkaaGreat
open Go.RowKit

/-- What isOwner tells. -/
def ownerB (ns : List NodeD) (ps : List PodD) (os : List OwnD) (p : List Int) (k : Int) : Bool := decide (placeE ns ps os p = 0) && decide (0 ≤ k ∧ k < (os.length : Int))

set_option maxRecDepth 100000 in
set_option maxHeartbeats 1000000 in
theorem isOwner_any (A B C P : Option Addr) (ca cb cc cp : Nat) (ns : List NodeD) (ps : List PodD) (os : List OwnD) (p : List Int) (k : Int) (w : World) (h : SnapAt w A B C ca cb cc ns ps os) (hp : IntsAt w P cp p) :
    Calls Tryz.prog 163 #[snapV A B C ca cb cc ns ps os, .slice P p.length cp, .int .i64 k] w fun e w' => e = .returned (.bool (ownerB ns ps os p k)) ∧ Below w.heap.size w w' := by
  have B0 : Hid (Below w.heap.size w (w.alloc (.cells (snapC A B C ca cb cc ns ps os) 26))) := Lib.hid (below1 w _)
  have S0 : Hid (Blk (w.alloc (.cells (snapC A B C ca cb cc ns ps os) 26)) w.heap.size (snapC A B C ca cb cc ns ps os) 26) := Lib.hid (Blk.new w _ _)
  have KC := Lib.hid (pcheck_any A B C P ca cb cc cp ns ps os p _ (h.below B0.out) (hp.below B0.out))
  have hl0 := Blk.lt S0.out
  have KP : Hid (∀ w', Calls Tryz.prog 84 #[.int .i64 k, .int .i64 (os.length : Int)] w' fun e w'' => e = .returned (.bool (decide (0 ≤ k ∧ k < (os.length : Int)))) ∧ w'' = w') := Lib.hid (fun w' => isPlace_any k os.length w')
  have E : Hid (ownerB ns ps os p k = (decide (placeE ns ps os p = 0) && decide (0 ≤ k ∧ k < (os.length : Int)))) := Lib.hid rfl
  generalize ownerB ns ps os p k = R at E ⊢
  generalize decide (0 ≤ k ∧ k < (os.length : Int)) = D at E KP
  generalize placeE ns ps os p = v0 at KC E
  clear h hp
  go_enter Tryz.func163, Tryz.ntmps163
  go_wp2_with fail
  refine (KC.out).mono ?_
  rintro e w1 ⟨rfl, hb⟩
  clear KC
  have S1 := Lib.hid (S0.out.below hb (by omega))
  have B1 := Lib.hid (B0.out.trans (hb.mono (by omega)))
  clear hb S0 B0 hl0
  have s2 : w1.cell? ⟨w.heap.size, 2, none⟩ = some (.slice C os.length cc) := Blk.cell S1.out 2
  by_cases hv : v0 = 0
  · subst hv
    have HE : Hid (R = D) := Lib.hid (by rw [E.out]; simp)
    clear E
    go_wp2_with fail
    refine (KP.out _).mono ?_
    rintro e w2 ⟨rfl, rfl⟩
    go_wp2
    go_ret
    exact ⟨La.retB HE.out.symm, B1.out⟩
  · have HE : Hid (R = false) := Lib.hid (by rw [E.out, decide_eq_false hv]; rfl)
    have hvb : (v0 == 0) = false := by simpa using hv
    clear E
    go_wp2
    go_ret
    exact ⟨La.retB HE.out.symm, B1.out⟩

/-- Values of labels of a cluster that may be are short. -/
def Short (ns : List NodeD) : Prop := ∀ x ∈ ns, ∀ y ∈ x.labels, y.2.length ≤ 281474976710656

end Go.Proofs.YtpdaohkpgconkaaGreat

namespace Go.Proofs.YtpdaohkpgconkaaGreat
open Go.RowKit

abbrev bZone : List UInt8 := [122, 111, 110, 101]
abbrev zer5F : Nat → Int := fun _ => 0
abbrev ten5 : Nat → Int := fun k => if k = 0 then 10 else 0
/-- The chapter's cluster: a name and a mark of its second node are letters. -/
def chN (N : Nat) (nm : List UInt8) (lost : Bool) : List NodeD := [
  { name := [97], cap := zer5F, labels := [(bZone, [120])], taints := [], cordon := false, lost := false, al := some ⟨N + 1, 0, none⟩, cl := 1, at_ := none, ct := 0 },
  { name := nm, cap := zer5F, labels := [(bZone, [121])], taints := [], cordon := false, lost := lost, al := some ⟨N + 2, 0, none⟩, cl := 1, at_ := none, ct := 0 },
  { name := [99], cap := zer5F, labels := [], taints := [], cordon := false, lost := false, al := none, cl := 0, at_ := none, ct := 0 }]
def chPod (c : UInt8) : PodD := { name := [c], owner := [111], req := ten5, labels := [], whr := [], bears := [], wt := [], wtm := [], ap := [], apm := [], on := [], al := none, cl := 0, aw := none, cw := 0, ab := none, cb := 0, awt := none, cwt := 0, aap := none, cap := 0 }
def chP : List PodD := [chPod 112, chPod 113, chPod 114]
def chO : List OwnD := [{ name := [111], min := 0, topo := bZone, skew := 1, single := false }]

theorem pod_info : (Tryz.prog.info? 43).map (fun i => (i.zero, i.size, i.bytes)) = some (some (.agg #[.string ⟨#[]⟩, .string ⟨#[]⟩, .int .i64 0, .int .i64 0, .int .i64 0, .int .i64 0, .int .i64 0, .slice none 0 0, .slice none 0 0, .slice none 0 0, .string ⟨#[]⟩, .slice none 0 0, .string ⟨#[]⟩, .slice none 0 0, .string ⟨#[]⟩]), 15, 240) := by kernel_rfl
/-- The chapter's cluster lies in memory, from block N on; its pods in a row of their own. -/
structure ChapAt (w : World) (N : Nat) (v : Value) (k : Nat) (nm : List UInt8) (lost : Bool) : Prop where
  l1 : Blk w (N + 1) #[strV bZone, strV [120]] 29
  l2 : Blk w (N + 2) #[strV bZone, strV [121]] 29
  n : Blk w (N + 3) (cellsN (chN N nm lost)).toArray 34
  o : Blk w (N + 4) (cellsO chO).toArray 36
  p : w.ownsRow N 43 15 v k (cellsP (chP.take k))
theorem ChapAt.kept {w w' : World} {N k : Nat} {v : Value} {nm : List UInt8} {lost : Bool} (h : ChapAt w N v k nm lost) (hb : Below w.heap.size w w') : ChapAt w' N v k nm lost :=
  ⟨h.l1.below hb h.l1.lt, h.l2.below hb h.l2.lt, h.n.below hb h.n.lt, h.o.below hb h.o.lt, by
    refine h.p.kept (grown_of_below hb none) ?_
    rcases h.p.2 with ⟨rfl, _⟩ | ⟨g, cap, cur, rfl, _⟩
    · exact .inl rfl
    · exact .inr (by simp [Value.ownBlock])⟩

theorem ch_other {w w' : World} {base : Nat} {e : TypeId} {sz n : Nat} {v : Value} {xs : List Value} (ho : w.ownsRow base e sz v n xs) (hg : w.grownBy w' v.ownBlock) {j : Nat} {cs : Array Value} {t : TypeId} (hj : Blk w j cs t) (hne : t ≠ e) : Blk w' j cs t := by
  refine (hg.block j hj.lt ?_).trans hj
  rcases ho.2 with ⟨rfl, _⟩ | ⟨g, cap, cur, rfl, _, hgb, _⟩
  · intro e'; cases e'
  · intro e'
    simp only [Value.ownBlock, Option.some.injEq] at e'
    subst e'
    unfold Blk at hj
    rw [hgb] at hj
    cases hj
    exact hne rfl
theorem ch_set {w : World} {base : Nat} {e : TypeId} {sz n : Nat} {v : Value} {xs : List Value} (ho : w.ownsRow base e sz v n xs) {j : Nat} {cs : Array Value} {t : TypeId} (hj : Blk w j cs t) (hne : t ≠ e) (i : Nat) (u : Value) : (w.setCell ⟨j, i, none⟩ u).ownsRow base e sz v n xs := by
  obtain ⟨hl, h1 | ⟨g, cap, cur, hv, hb, hg, r⟩⟩ := ho
  · exact ⟨hl, .inl h1⟩
  · refine ⟨hl, .inr ⟨g, cap, cur, hv, hb, (Below.heap_setCell w ⟨j, i, none⟩ u g ?_).trans hg, r⟩⟩
    intro e'
    subst e'
    unfold Blk at hj
    rw [hg] at hj
    cases hj
    exact hne rfl

/-- An append onto a row of one's own, as one step of a region that draws its order. -/
theorem step_append_own {P : Program} {ops : Array Oper} {o : Oper} {a : Act} {w : World} {K : Act → World → Prop} {Q : Exit → Act → World → Prop} {E : Prop}
    (hg : o.guard = none) (s x : Operand) (t : TypeId) (hop : o.op = Op.call { callee := Callee.builtin Builtin.append, args := #[s, x], argTypes := #[t, t] })
    (base : Nat) (e : TypeId) (i : TypeInfo) (z : Value) (size bytes : Nat) (h1 : P.underlying t = some (.slice e)) (h2 : P.info? e = some i) (h3 : i.zero = some z) (h4 : i.size = size) (h5 : i.bytes = bytes) (h6 : z.cells.size = size) (h7 : 0 < size)
    (v : Value) (n : Nat) (xs : List Value) (hs : a.eval s = v) (hown : w.ownsRow base e size v n xs)
    (ad : Addr) (m c : Nat) (news : List Value) (hx : a.eval x = .slice (some ad) m c) (hn : news.length = m * size) (hc : ∀ j u, news[j]? = some u → w.cell? (ad.add j) = some u) (h1c : ∀ u ∈ news, u.oneCell' = true)
    (b1 : n + m ≤ maxLen) (b2 : (n + m) * bytes ≤ 140737488355328) (hbase : base ≤ w.heap.size)
    (hK : ∀ v' w', w'.ownsRow base e size v' (n + m) (xs ++ news) → w.grownBy w' v.ownBlock → K (a.put o.dst v') w') :
    if Region.wanted o (yielded ops a.tmps) = true then Oper.wp P o a w K Q else E := by
  have hw : Region.wanted o (yielded ops a.tmps) = true := by simp [Region.wanted, hg]
  rw [if_pos hw]
  obtain ⟨v', w', hrun, r1, r2, _⟩ := run_append_own (P := P) w base t o.type e i z size bytes h1 h2 h3 h4 h5 h6 h7 v n xs hown ad m c news hn hc h1c b1 b2 hbase
  unfold Oper.wp
  simp [execOp, hop, resolve, invoke, builtin, hs, hx, hrun, Result.andThen]
  exact hK v' w' r1 r2

theorem ChapAt.set {w : World} {N k : Nat} {v : Value} {nm : List UInt8} {lost : Bool} (h : ChapAt w N v k nm lost) {b : Nat} {cs : Array Value} {t : TypeId} (hb : Blk w b cs t) (h1 : b ≠ N + 1 ∧ b ≠ N + 2 ∧ b ≠ N + 3 ∧ b ≠ N + 4) (ht : t ≠ 43) (i : Nat) (u : Value) : ChapAt (w.setCell ⟨b, i, none⟩ u) N v k nm lost :=
  ⟨h.l1.oth (Ne.symm h1.1) i u, h.l2.oth (Ne.symm h1.2.1) i u, h.n.oth (Ne.symm h1.2.2.1) i u, h.o.oth (Ne.symm h1.2.2.2) i u, ch_set h.p hb ht i u⟩
theorem ChapAt.step {w W w' : World} {N k k' : Nat} {v v' : Value} {nm : List UInt8} {lost : Bool} (h : ChapAt w N v k nm lost) (hW : Below w.heap.size w W) {n : Nat} {xs : List Value} (ho : W.ownsRow N 43 15 v n xs) (hg : W.grownBy w' v.ownBlock) (hn : w'.ownsRow N 43 15 v' k' (cellsP (chP.take k'))) : ChapAt w' N v' k' nm lost :=
  ⟨ch_other ho hg (h.l1.below hW h.l1.lt) (by decide), ch_other ho hg (h.l2.below hW h.l2.lt) (by decide), ch_other ho hg (h.n.below hW h.n.lt) (by decide), ch_other ho hg (h.o.below hW h.o.lt) (by decide), hn⟩

/-- The chapter's cluster as a cluster. -/
theorem ChapAt.snap {w : World} {N : Nat} {B : Option Addr} {cb : Nat} {nm : List UInt8} {lost : Bool} (h : ChapAt w N (.slice B 3 cb) 3 nm lost) (hnm : nm.length ≤ 1000) : SnapAt w (some ⟨N + 3, 0, none⟩) B (some ⟨N + 4, 0, none⟩) 3 cb 1 (chN N nm lost) chP chO := by
  have lab : ∀ (b : Nat) (v : UInt8), Blk w b #[strV bZone, strV [v]] 29 → ListL w (some ⟨b, 0, none⟩) 1 [(bZone, [v])] := fun b v hb => by
    refine ⟨by simp, by omega, fun j y hj => ⟨b, 0, rfl, ?_⟩, fun x hx => ?_⟩
    · rw [Nat.zero_add, Blk.cell hb j, ← hj, ← List.getElem?_toArray]
      rfl
    · simp only [List.mem_singleton] at hx
      subst hx
      exact ⟨by simp, by simp⟩
  have nolab : ListL w none 0 [] := ⟨by simp, by omega, fun j y hj => by simp [La.cellsL] at hj, fun x hx => by cases hx⟩
  have noter : ListT w none 0 [] := ⟨by simp, by omega, fun j y hj => by simp [La.cellsT] at hj, fun x hx => by cases hx⟩
  have hcap : 3 ≤ cb ∧ cb ≤ maxLen := by
    rcases h.p.2 with ⟨e, _⟩ | ⟨g, cap, cur, e, _, _, h1, h2, _⟩
    · cases e
    · cases e
      exact ⟨h1, h2⟩
  have hpod : ∀ c, (chPod c).fit w := fun c => ⟨nolab, noter, nolab, noter, noter, by simp [chPod]⟩
  constructor
  · constructor
    · intro j y hj
      refine ⟨N + 3, 0, rfl, ?_⟩
      rw [Nat.zero_add, Blk.cell h.n j, ← hj, ← List.getElem?_toArray]
    · intro x hx
      simp only [chN, List.mem_cons, List.not_mem_nil, or_false] at hx
      rcases hx with rfl | rfl | rfl
      · exact ⟨lab _ _ h.l1, nolab, by simp⟩
      · exact ⟨lab _ _ h.l2, nolab, by show nm.length ≤ _; omega⟩
      · exact ⟨nolab, nolab, by simp⟩
  · constructor
    · exact La.own_slat h.p
    · intro x hx
      simp only [chP, List.mem_cons, List.not_mem_nil, or_false] at hx
      rcases hx with rfl | rfl | rfl <;> exact hpod _
  · intro j y hj
    refine ⟨N + 4, 0, rfl, ?_⟩
    rw [Nat.zero_add, Blk.cell h.o j, ← hj, ← List.getElem?_toArray]
  · intro x hx
    simp only [chO, List.mem_singleton] at hx
    subst hx
    exact ⟨by simp, by simp⟩
  · simp [chN]
  · simp [chP]
  · simp [chO]
  · exact ⟨by simp [chN], by omega⟩
  · refine ⟨by simp [chP]; omega, ?_⟩
    have := hcap.2
    unfold maxLen at this
    omega
  · exact ⟨by simp [chO], by omega⟩
end Go.Proofs.YtpdaohkpgconkaaGreat

namespace Go.Proofs.YtpdaohkpgconkaaGreat.La
open Go.RowKit

def insB (n : Nat) : Bool := letB n || digB n
theorem rletter_any (b : UInt8) (w : World) :
    Calls Tryz.prog 209 #[.int .u8 (b.toNat : Int)] w fun e w' => e = .returned (.bool (letB b.toNat)) ∧ w = w' := by
  have hb : b.toNat < 256 := b.toNat_lt
  generalize b.toNat = c at *
  go_enter Tryz.func209, Tryz.ntmps209
  go_wp2
  all_goals
    go_ret
    refine ⟨retB ?_, rfl⟩
    unfold letB
    rw [Bool.eq_iff_iff]
    simp
    try omega
theorem rinside_any (b : UInt8) (w : World) :
    Calls Tryz.prog 217 #[.int .u8 (b.toNat : Int)] w fun e w' => e = .returned (.bool (insB b.toNat)) ∧ w = w' := by
  have K := Lib.hid (fun w => rletter_any b w)
  have hb : b.toNat < 256 := b.toNat_lt
  generalize b.toNat = c at *
  cases hl : letB c
  · rw [hl] at K
    have E : Hid (insB c = digB c) := by show insB c = _; unfold insB; rw [hl]; rfl
    clear hl
    go_enter Tryz.func217, Tryz.ntmps217
    go_wp2_with fail
    refine (K.out _).mono ?_
    rintro e w1 ⟨rfl, rfl⟩
    go_wp2
    all_goals
      go_ret
      refine ⟨retB ?_, rfl⟩
      rw [E.out]
      unfold digB
      rw [Bool.eq_iff_iff]
      simp
      try omega
  · rw [hl] at K
    have E : Hid (insB c = true) := by show insB c = _; unfold insB; rw [hl]; rfl
    clear hl
    go_enter Tryz.func217, Tryz.ntmps217
    go_wp2_with fail
    refine (K.out _).mono ?_
    rintro e w1 ⟨rfl, rfl⟩
    go_wp2
    go_ret
    exact ⟨retB (by rw [E.out]), rfl⟩

end Go.Proofs.YtpdaohkpgconkaaGreat.La

namespace Go.Proofs.YtpdaohkpgconkaaGreat.La
open Go.RowKit

/-- May a text be a value, a name, as the document says it? -/
def valR (s : List UInt8) : Bool := s.all (fun b => insB b.toNat) && decide (1 ≤ s.length ∧ s.length ≤ 15)
def headR (s : List UInt8) : Bool := match s with
  | b :: _ => letB b.toNat
  | [] => false
theorem span_iff (ok : Nat → Nat → Bool) : ∀ (t : List UInt8) (a : Nat), a ≤ 15 → (spanF ok t a = a + t.length ↔ (a + t.length ≤ 15 ∧ ∀ j (b : UInt8), t[j]? = some b → ok (a + j) b.toNat = true))
  | [], a, ha => by
    constructor
    · intro _
      exact ⟨by simpa using ha, fun j b h => by simp at h⟩
    · intro _
      rfl
  | b :: t, a, ha => by
    rw [spanF]
    by_cases h15 : a = 15
    · subst h15
      simp
      omega
    · cases hok : ok a b.toNat
      · rw [if_pos (.inr rfl)]
        constructor
        · intro h
          simp only [List.length_cons] at h
          omega
        · rintro ⟨_, h⟩
          have := h 0 b rfl
          rw [Nat.add_zero, hok] at this
          cases this
      · rw [if_neg (by rintro (h | h); exact h15 h; cases h)]
        have ih := span_iff ok t (a + 1) (by omega)
        have e : a + (b :: t).length = a + 1 + t.length := by simp only [List.length_cons]; omega
        rw [e, ih]
        constructor
        · rintro ⟨h1, h2⟩
          refine ⟨h1, fun j c hj => ?_⟩
          cases j with
          | zero =>
            simp only [List.getElem?_cons_zero, Option.some.injEq] at hj
            subst hj
            exact hok
          | succ j =>
            rw [List.getElem?_cons_succ] at hj
            have := h2 j c hj
            rwa [show a + 1 + j = a + (j + 1) by omega] at this
        · rintro ⟨h1, h2⟩
          refine ⟨h1, fun j c hj => ?_⟩
          have := h2 (j + 1) c (by rw [List.getElem?_cons_succ]; exact hj)
          rwa [show a + 1 + j = a + (j + 1) by omega]
theorem nameR_eq (s : List UInt8) : (valR s && headR s) = nameB s := by
  rw [Bool.eq_iff_iff]
  cases s with
  | nil => simp [valR, headR, nameB]
  | cons c t =>
    have h := span_iff okName (c :: t) 0 (by omega)
    rw [Nat.zero_add] at h
    unfold valR headR nameB
    simp only [Bool.and_eq_true, decide_eq_true_eq, List.all_eq_true]
    rw [h]
    constructor
    · rintro ⟨⟨ha, _, hl⟩, hc⟩
      refine ⟨by simp, hl, fun j b hj => ?_⟩
      have hb := ha b (List.mem_of_getElem? hj)
      rw [Nat.zero_add]
      unfold okName
      cases j with
      | zero =>
        simp only [List.getElem?_cons_zero, Option.some.injEq] at hj
        subst hj
        rw [hc, Bool.true_or]
      | succ j =>
        unfold insB at hb
        simp only [Nat.zero_lt_succ, decide_true, Bool.true_and]
        exact hb
    · rintro ⟨_, hl, ha⟩
      refine ⟨⟨fun b hb => ?_, by simp, hl⟩, ?_⟩
      · obtain ⟨j, hj⟩ := List.mem_iff_getElem?.1 hb
        have := ha j b hj
        unfold okName at this
        unfold insB
        revert this
        cases letB b.toNat <;> cases digB b.toNat <;> simp
      · have := ha 0 c rfl
        simpa [okName] using this

set_option maxRecDepth 100000 in
set_option maxHeartbeats 400000 in
theorem rvalue_any (s : List UInt8) (w : World) (hl : s.length ≤ 9223372036854775807) :
    Calls Tryz.prog 208 #[strV s] w fun e w' => e = .returned (.bool (valR s)) ∧ w = w' := by
  obtain ⟨R, hR⟩ : ∃ R, valR s = R := ⟨_, rfl⟩
  rw [hR]
  have HR := Lib.hid hR
  clear hR
  go_enter Tryz.func208, Tryz.ntmps208
  go_wp2
  go_loop [3] (fun t => ∃ p : Nat, p ≤ s.length ∧ t = .int .i64 p ∧ (∀ j b, j < p → s[j]? = some b → insB b.toNat = true)) (fun t => s.length - (intOf t).toNat)
  case atStart => exact ⟨0, by omega, rfl, fun j b h => by omega⟩
  case round =>
    obtain ⟨p, hp, rfl, ha⟩ := hrel
    have HA := Lib.hid ha
    clear ha
    have p0 : (0 : Int) ≤ (p : Int) := by omega
    by_cases hlt : p < s.length
    · have hlti : (p : Int) < (s.length : Int) := by omega
      have KI := Lib.hid (fun w => rinside_any (s[p]) w)
      have HX : Hid (s[p]? = some s[p]) := Lib.hid (List.getElem?_eq_getElem hlt)
      cases hin : insB (s[p]).toNat
      · have E : Hid (R = false) := Lib.hid (by
          rw [← HR.out]
          unfold valR
          rw [Bool.and_eq_false_iff]
          left
          rw [List.all_eq_false]
          exact ⟨s[p], List.getElem_mem hlt, by simp [hin]⟩)
        rw [hin] at KI
        clear hin
        go_wp2_with (go_at_call 217; refine (KI.out _).mono ?_; rintro e w1 ⟨rfl, rfl⟩)
        go_ret
        exact ⟨retB E.out.symm, rfl⟩
      · rw [hin] at KI
        have HI := Lib.hid hin
        clear hin
        go_wp2_with (go_at_call 217; refine (KI.out _).mono ?_; rintro e w1 ⟨rfl, rfl⟩)
        go_round
        case rel =>
          refine ⟨p + 1, by omega, by go_num, fun j b hj hb => ?_⟩
          by_cases hjp : j = p
          · subst hjp
            rw [HX.out] at hb
            cases hb
            exact HI.out
          · exact HA.out j b (by omega) hb
        case measure => simp [intOf]; omega
    · obtain rfl : p = s.length := by omega
      have E : Hid (R = decide (1 ≤ s.length ∧ s.length ≤ 15)) := Lib.hid (by
        rw [← HR.out]
        unfold valR
        rw [show (s.all fun b => insB b.toNat) = true from List.all_eq_true.2 (fun b hb => by
          obtain ⟨j, hj⟩ := List.mem_iff_getElem?.1 hb
          exact HA.out j b (List.getElem?_eq_some_iff.1 hj).1 hj), Bool.true_and])
      clear HA HR
      by_cases h1 : (1 : Int) ≤ (s.length : Int)
      · go_wp2
        go_ret
        refine ⟨retB ?_, rfl⟩
        rw [E.out, Bool.eq_iff_iff]
        simp
        try omega
      · go_wp2
        go_ret
        refine ⟨retB ?_, rfl⟩
        rw [E.out, Bool.eq_iff_iff]
        simp
        try omega
theorem rname_any (s : List UInt8) (w : World) (hl : s.length ≤ 9223372036854775807) :
    Calls Tryz.prog 185 #[strV s] w fun e w' => e = .returned (.bool (nameB s)) ∧ w = w' := by
  have K := Lib.hid (rvalue_any s w hl)
  have E := Lib.hid (nameR_eq s)
  generalize nameB s = R at E ⊢
  cases hv : valR s
  · rw [hv] at K E
    clear hv
    go_enter Tryz.func185, Tryz.ntmps185
    go_wp2_with fail
    refine (K.out).mono ?_
    rintro e w1 ⟨rfl, rfl⟩
    go_wp2
    go_ret
    exact ⟨retB E.out, rfl⟩
  · rw [hv] at K E
    cases s with
    | nil => simp [valR] at hv
    | cons c t =>
      clear hv
      have KL := Lib.hid (fun w => rletter_any c w)
      have E2 : Hid (R = letB c.toNat) := Lib.hid (by rw [← E.out]; rfl)
      have h0 : (0 : Int) < ((c :: t).length : Int) := by simp
      go_enter Tryz.func185, Tryz.ntmps185
      go_wp2_with fail
      refine (K.out).mono ?_
      rintro e w1 ⟨rfl, rfl⟩
      go_wp2_with fail
      refine (KL.out _).mono ?_
      rintro e w1 ⟨rfl, rfl⟩
      go_wp2
      go_ret
      exact ⟨retB E2.out.symm, rfl⟩
end Go.Proofs.YtpdaohkpgconkaaGreat.La

namespace Go.Proofs.YtpdaohkpgconkaaGreat
open Go.RowKit

theorem valR_eq (s : List UInt8) : La.valR s = La.valueB s := by
  rw [Bool.eq_iff_iff]
  have h := La.span_iff La.okVal s 0 (by omega)
  rw [Nat.zero_add] at h
  unfold La.valR La.valueB
  simp only [Bool.and_eq_true, decide_eq_true_eq, List.all_eq_true]
  rw [h]
  constructor
  · rintro ⟨ha, h1, hl⟩
    refine ⟨fun e => by subst e; simp at h1, hl, fun j b hj => ?_⟩
    exact ha b (List.mem_of_getElem? hj)
  · rintro ⟨hn, hl, ha⟩
    refine ⟨fun b hb => ?_, ?_, hl⟩
    · obtain ⟨j, hj⟩ := List.mem_iff_getElem?.1 hb
      exact ha j b hj
    · cases s with
      | nil => exact absurd rfl hn
      | cons c t => simp
theorem value3_any (s : List UInt8) (w : World) (hl : s.length ≤ 9223372036854775807) :
    Calls Tryz.prog 208 #[strV s] w fun e w' => e = .returned (.bool (La.valueB s)) ∧ w = w' := by
  rw [← valR_eq]
  exact La.rvalue_any s w hl

/-- The rows' two orders, and what each may be. -/
def mbS (star : Bool) : L2 → Bool := if star then La.borB else La.labB
def riS (star : Bool) : L2 → L2 → Bool := if star then La.pairR else La.keyR
theorem rises3_any (star : Bool) (a b : L2) (w : World) :
    Calls Tryz.prog 218 #[La.labV a, La.labV b, .bool star] w fun e w' => e = .returned (.bool (riS star a b)) ∧ Below w.heap.size w w' := by
  cases star
  all_goals
    go_enter Tryz.func218, Tryz.ntmps218
    go_wp2
    all_goals
      go_ret
      refine ⟨La.retB ?_, ((Below.refl _ _).alloc (Nat.le_refl _) _).alloc (by simp) _⟩
      simp_all [riS, La.pairR, La.keyR]

set_option maxRecDepth 100000 in
set_option maxHeartbeats 4000000 in
theorem row3_any (star : Bool) (A : Option Addr) (c : Nat) (l : List L2) (w : World) (h : ListL w A c l) :
    Calls Tryz.prog 210 #[.slice A l.length c, .bool star] w fun e w' => e = .returned (.int .i64 (La.chkA (mbS star) (riS star) l)) ∧ Below w.heap.size w w' := by
  have HS := Lib.hid h.cells
  have Hbig := Lib.hid h.big
  have hle := h.le
  have hmost := h.most
  obtain ⟨R, hR⟩ : ∃ R, La.chkA (mbS star) (riS star) l = R := ⟨_, rfl⟩
  rw [hR]
  have HR := Lib.hid hR
  clear hR h
  by_cases h6 : 6 < l.length
  · have E : Hid (R = 2) := Lib.hid (by rw [← HR.out]; unfold La.chkA; rw [if_pos (.inl h6)])
    have h6i : (6 : Int) < (l.length : Int) := by omega
    go_enter Tryz.func210, Tryz.ntmps210
    go_wp2
    go_ret
    exact ⟨La.retI E.out.symm, Below.refl _ _⟩
  · have h6i : ¬ (6 : Int) < (l.length : Int) := by omega
    have E : Hid (R = if La.chkK (mbS star) (riS star) l l.length = false then 2 else 0) := Lib.hid (by
      rw [← HR.out]
      unfold La.chkA
      by_cases hq : La.chkK (mbS star) (riS star) l l.length = false
      · rw [if_pos (.inr hq), if_pos hq]
      · rw [if_neg (fun h => h.elim h6 hq), if_neg hq])
    clear HR
    go_enter Tryz.func210, Tryz.ntmps210
    go_wp2_with fail
    go_loopw [5] (fun i wr => ∃ k : Nat, k ≤ l.length ∧ i = .int .i64 k ∧ La.chkK (mbS star) (riS star) l k = true ∧ Below w.heap.size w wr) (fun i _ => l.length - (intOf i).toNat)
    case atStart => exact ⟨0, by omega, rfl, rfl, Below.refl _ _⟩
    case round =>
      obtain ⟨k, hk, rfl, hp, hbw⟩ := hrel
      have Hp := Lib.hid hp
      have HB := Lib.hid hbw
      clear hp hbw
      by_cases hlt : k < l.length
      · obtain ⟨x, hxk⟩ : ∃ x, l[k]? = some x := ⟨l[k], List.getElem?_eq_getElem hlt⟩
        obtain ⟨b, o, hA, hb0, hx0, hx1⟩ := La.SlAt.lab (HS.out.below HB.out) hxk
        subst hA
        have Hstep : Hid (La.chkK (mbS star) (riS star) l (k + 1) = La.okAt (mbS star) (riS star) l k x) := Lib.hid (by rw [La.chkK, Hp.out, hxk]; rfl)
        have hbx := Hbig.out x (List.mem_of_getElem? hxk)
        have KN := Lib.hid (fun w => La.rname_any x.1 w hbx.1)
        have KV := Lib.hid (fun w => value3_any x.2 w hbx.2)
        have k0 : (0 : Int) ≤ (k : Int) := by omega
        have k1 : (k : Int) < (l.length : Int) := by omega
        have Hxk := Lib.hid hxk
        clear hxk hbx
        go_upto_region 6 with fail
        go_cut [42] (fun v wc => v = .bool (!(mbS star x)) ∧ wc = wr)
        case first =>
          cases hn : La.nameB x.1
          · have HE : Hid (mbS star x = false) := Lib.hid (by cases star <;> simp [mbS, La.labB, La.borB, hn])
            rw [hn] at KN
            clear hn
            go_wp2_with fail
            refine (KN.out _).mono ?_
            rintro e w1 ⟨rfl, rfl⟩
            go_wp2
            go_meet
            exact ⟨by rw [HE.out]; rfl, rfl⟩
          · rw [hn] at KN
            cases hv : La.valueB x.2
            · rw [hv] at KV
              cases star
              · have HE : Hid (mbS false x = false) := Lib.hid (by simp [mbS, La.labB, hn, hv])
                clear hn hv
                go_wp2_with fail
                refine (KN.out _).mono ?_
                rintro e w1 ⟨rfl, rfl⟩
                go_wp2_with fail
                refine (KV.out _).mono ?_
                rintro e w1 ⟨rfl, rfl⟩
                go_wp2
                go_meet
                exact ⟨by rw [HE.out]; rfl, rfl⟩
              · by_cases hs : x.2 = [42]
                · have HE : Hid (mbS true x = true) := Lib.hid (by simp [mbS, La.borB, hn, hs])
                  have hsb : (x.2 == [42]) = true := by simpa using hs
                  clear hn hv hs
                  go_wp2_with fail
                  refine (KN.out _).mono ?_
                  rintro e w1 ⟨rfl, rfl⟩
                  go_wp2_with fail
                  refine (KV.out _).mono ?_
                  rintro e w1 ⟨rfl, rfl⟩
                  go_wp2
                  go_meet
                  exact ⟨by rw [HE.out]; rfl, rfl⟩
                · have HE : Hid (mbS true x = false) := Lib.hid (by simp [mbS, La.borB, hn, hv, hs])
                  have hsb : (x.2 == [42]) = false := by simpa using hs
                  clear hn hv hs
                  go_wp2_with fail
                  refine (KN.out _).mono ?_
                  rintro e w1 ⟨rfl, rfl⟩
                  go_wp2_with fail
                  refine (KV.out _).mono ?_
                  rintro e w1 ⟨rfl, rfl⟩
                  go_wp2
                  go_meet
                  exact ⟨by rw [HE.out]; rfl, rfl⟩
            · have HE : Hid (mbS star x = true) := Lib.hid (by cases star <;> simp [mbS, La.labB, La.borB, hn, hv])
              rw [hv] at KV
              clear hn hv
              go_wp2_with fail
              refine (KN.out _).mono ?_
              rintro e w1 ⟨rfl, rfl⟩
              go_wp2_with fail
              refine (KV.out _).mono ?_
              rintro e w1 ⟨rfl, rfl⟩
              go_wp2
              go_meet
              exact ⟨by rw [HE.out]; rfl, rfl⟩
        case rest =>
          rename_i wc
          obtain ⟨rfl, rfl⟩ := hcut
          clear KN KV
          cases hm : mbS star x
          · have HE : Hid (R = 2) := Lib.hid (by
              rw [E.out, if_pos]
              exact La.chkK_false (k := k + 1) (by rw [Hstep.out]; exact La.okAt_no hm) (by omega))
            clear hm E
            go_wp2
            go_ret
            exact ⟨La.retI HE.out.symm, HB.out⟩
          · by_cases hz : k = 0
            · subst hz
              have hok := Lib.hid (La.okAt_zero (mb := mbS star) (ri := riS star) (l := l) (k := 0) hm rfl)
              clear hm
              go_wp2_with fail
              go_quiet (fail)
              go_wp2
              go_roundw
              case rel => exact ⟨1, by omega, by go_num, by rw [Hstep.out, hok.out], belowN HB.out _⟩
              case measure => simp [intOf]; omega
            · obtain ⟨y, hy⟩ : ∃ y, l[k - 1]? = some y := ⟨l[k - 1]'(by omega), List.getElem?_eq_getElem (by omega)⟩
              obtain ⟨b', o', hA', _, hy0, hy1⟩ := La.SlAt.lab (HS.out.below HB.out) hy
              simp only [Option.some.injEq, Addr.mk.injEq] at hA'
              obtain ⟨rfl, rfl, _⟩ := hA'
              have hok := Lib.hid (La.okAt_pos (mb := mbS star) (ri := riS star) (l := l) (k := k) hm hz hy)
              have hk1 : 1 ≤ k := by omega
              have n1 : (1 : Int) ≤ (k : Int) := by omega
              have n2 : (0 : Int) < (k : Int) := by omega
              have n9 : decide (0 < k) = true := decide_eq_true (by omega)
              have n10 : 0 < k := by omega
              have n3 : ((k : Int) - 1).toNat = k - 1 := by omega
              have n5 : (0 : Int) ≤ (k : Int) - 1 := by omega
              have n6 : (k : Int) - 1 < (l.length : Int) := by omega
              have n7 : ((k : Int) - 1 < 0) = False := by simp; omega
              have n8 : decide ((k : Int) - 1 < (l.length : Int)) = true := by simp; omega
              have n4 : IntKind.i64.wrap ((k : Int) - 1) = (k : Int) - 1 := IntWalk.i64_in _ (by omega)
              have KR := Lib.hid (fun w => rises3_any star y x w)
              have Hb0 := Lib.hid hb0
              clear hm hz hy
              cases hr : riS star y x
              · rw [hr] at KR
                have HE : Hid (R = 2) := Lib.hid (by
                  rw [E.out, if_pos]
                  exact La.chkK_false (k := k + 1) (by rw [Hstep.out, hok.out, hr]) (by omega))
                clear hr E
                go_wp2_with fail
                go_region_held3 (fun w' => w'.cell? ⟨b, o + (k - 1) * 2, none⟩ = some (strV y.1) ∧ w'.cell? ⟨b, o + (k - 1) * 2 + 1, none⟩ = some (strV y.2) ∧ w'.cell? ⟨b, o + k * 2, none⟩ = some (strV x.1) ∧ w'.cell? ⟨b, o + k * 2 + 1, none⟩ = some (strV x.2)) (first | exact ⟨hy0, hy1, hx0, hx1⟩ | exact ⟨py0, py1, px0, px1⟩)
                  (first | ((with_reducible refine (KR.out _).mono ?_); rintro e w3 ⟨rfl, hb3⟩; have py0 := (hb3.cell (p := ⟨b, o + (k - 1) * 2, none⟩) Hb0.out).trans hy0; have py1 := (hb3.cell (p := ⟨b, o + (k - 1) * 2 + 1, none⟩) Hb0.out).trans hy1; have px0 := (hb3.cell (p := ⟨b, o + k * 2, none⟩) Hb0.out).trans hx0; have px1 := (hb3.cell (p := ⟨b, o + k * 2 + 1, none⟩) Hb0.out).trans hx1; have HB3 := Lib.hid hb3; clear hb3))
                go_wp2
                go_ret
                exact ⟨La.retI HE.out.symm, La.below_of HB.out HB3.out⟩
              · rw [hr] at KR
                have HE := Lib.hid hr
                clear hr
                go_wp2_with fail
                go_region_held3 (fun w' => w'.cell? ⟨b, o + (k - 1) * 2, none⟩ = some (strV y.1) ∧ w'.cell? ⟨b, o + (k - 1) * 2 + 1, none⟩ = some (strV y.2) ∧ w'.cell? ⟨b, o + k * 2, none⟩ = some (strV x.1) ∧ w'.cell? ⟨b, o + k * 2 + 1, none⟩ = some (strV x.2)) (first | exact ⟨hy0, hy1, hx0, hx1⟩ | exact ⟨py0, py1, px0, px1⟩)
                  (first | ((with_reducible refine (KR.out _).mono ?_); rintro e w3 ⟨rfl, hb3⟩; have py0 := (hb3.cell (p := ⟨b, o + (k - 1) * 2, none⟩) Hb0.out).trans hy0; have py1 := (hb3.cell (p := ⟨b, o + (k - 1) * 2 + 1, none⟩) Hb0.out).trans hy1; have px0 := (hb3.cell (p := ⟨b, o + k * 2, none⟩) Hb0.out).trans hx0; have px1 := (hb3.cell (p := ⟨b, o + k * 2 + 1, none⟩) Hb0.out).trans hx1; have HB3 := Lib.hid hb3; clear hb3))
                go_wp2
                go_roundw
                case rel => exact ⟨k + 1, by omega, by go_num, by rw [Hstep.out, hok.out, HE.out], La.below_of HB.out HB3.out⟩
                case measure => simp [intOf]; omega
      · obtain rfl : k = l.length := by omega
        have HE : Hid (R = 0) := Lib.hid (by rw [E.out, if_neg]; rw [Hp.out]; decide)
        go_wp2
        go_ret
        exact ⟨La.retI HE.out.symm, HB.out⟩
set_option maxHeartbeats 400000 in
theorem check3_any (A : Option Addr) (c : Nat) (l : List L2) (w : World) (h : ListL w A c l) :
    Calls Tryz.prog 187 #[.slice A l.length c] w fun e w' => e = .returned (.int .i64 (La.chkA La.labB La.keyR l)) ∧ Below w.heap.size w w' := by
  have K := Lib.hid (row3_any false A c l w h)
  rw [show mbS false = La.labB from rfl, show riS false = La.keyR from rfl] at K
  clear h
  go_enter Tryz.func187, Tryz.ntmps187
  go_wp2_with fail
  refine K.out.mono ?_
  rintro e w1 ⟨rfl, hb⟩
  have HB := Lib.hid hb
  clear hb K
  go_wp2
  go_ret
  exact ⟨rfl, HB.out⟩
set_option maxHeartbeats 400000 in
theorem checkBears3_any (A : Option Addr) (c : Nat) (l : List L2) (w : World) (h : ListL w A c l) :
    Calls Tryz.prog 191 #[.slice A l.length c] w fun e w' => e = .returned (.int .i64 (La.chkA La.borB La.pairR l)) ∧ Below w.heap.size w w' := by
  have K := Lib.hid (row3_any true A c l w h)
  rw [show mbS true = La.borB from rfl, show riS true = La.pairR from rfl] at K
  clear h
  go_enter Tryz.func191, Tryz.ntmps191
  go_wp2_with fail
  refine K.out.mono ?_
  rintro e w1 ⟨rfl, hb⟩
  have HB := Lib.hid hb
  clear hb K
  go_wp2
  go_ret
  exact ⟨rfl, HB.out⟩

theorem name3_any (s : List UInt8) (w : World) (hl : s.length ≤ 9223372036854775807) :
    Calls Tryz.prog 185 #[strV s] w fun e w' => e = .returned (.bool (La.nameB s)) ∧ Below w.heap.size w w' :=
  (La.rname_any s w hl).mono (by rintro e w' ⟨rfl, rfl⟩; exact ⟨rfl, Below.refl _ _⟩)
theorem valued_any (k : Int) (w : World) :
    Calls Tryz.prog 211 #[.int .i64 k] w fun e w' => e = .returned (.bool (decide (k = 1 ∨ k = 2))) ∧ w = w' := by
  by_cases h1 : k = 1
  · subst h1
    go_enter Tryz.func211, Tryz.ntmps211
    go_wp2
    go_ret
    exact ⟨rfl, rfl⟩
  · have h1b : (k == 1) = false := by simpa using h1
    have e : decide (k = 1 ∨ k = 2) = decide (k = 2) := by simp [h1]
    rw [e]
    clear e
    go_enter Tryz.func211, Tryz.ntmps211
    go_wp2
    go_ret
    refine ⟨La.retB ?_, rfl⟩
    rw [Bool.eq_iff_iff]
    simp
theorem okAt_ter (l : List T3) (k : Nat) (x : T3) : La.okAt La.terB La.anyR l k x = La.terB x := by
  unfold La.okAt La.anyR
  cases l[k - 1]? <;> simp

set_option maxRecDepth 100000 in
set_option maxHeartbeats 4000000 in
theorem terms3_any (A : Option Addr) (c : Nat) (l : List T3) (w : World) (h : ListT w A c l) :
    Calls Tryz.prog 190 #[.slice A l.length c] w fun e w' => e = .returned (.int .i64 (La.chkA La.terB La.anyR l)) ∧ Below w.heap.size w w' := by
  have HS := Lib.hid h.cells
  have Hbig := Lib.hid h.big
  have hle := h.le
  have hmost := h.most
  obtain ⟨R, hR⟩ : ∃ R, La.chkA La.terB La.anyR l = R := ⟨_, rfl⟩
  rw [hR]
  have HR := Lib.hid hR
  clear hR h
  by_cases h6 : 6 < l.length
  · have E : Hid (R = 2) := Lib.hid (by rw [← HR.out]; unfold La.chkA; rw [if_pos (.inl h6)])
    have h6i : (6 : Int) < (l.length : Int) := by omega
    go_enter Tryz.func190, Tryz.ntmps190
    go_wp2
    go_ret
    exact ⟨La.retI E.out.symm, Below.refl _ _⟩
  · have h6i : ¬ (6 : Int) < (l.length : Int) := by omega
    have E : Hid (R = if La.chkK La.terB La.anyR l l.length = false then 2 else 0) := Lib.hid (by
      rw [← HR.out]
      unfold La.chkA
      by_cases hq : La.chkK La.terB La.anyR l l.length = false
      · rw [if_pos (.inr hq), if_pos hq]
      · rw [if_neg (fun h => h.elim h6 hq), if_neg hq])
    clear HR
    go_enter Tryz.func190, Tryz.ntmps190
    go_wp2_with fail
    go_loopw [3] (fun i wr => ∃ k : Nat, k ≤ l.length ∧ i = .int .i64 k ∧ La.chkK La.terB La.anyR l k = true ∧ Below w.heap.size w wr) (fun i _ => l.length - (intOf i).toNat)
    case atStart => exact ⟨0, by omega, rfl, rfl, Below.refl _ _⟩
    case round =>
      obtain ⟨k, hk, rfl, hp, hbw⟩ := hrel
      have Hp := Lib.hid hp
      have HB := Lib.hid hbw
      clear hp hbw
      by_cases hlt : k < l.length
      · obtain ⟨x, hxk⟩ : ∃ x, l[k]? = some x := ⟨l[k], List.getElem?_eq_getElem hlt⟩
        obtain ⟨b, o, hA, hb0, hx0, hx1, hx2⟩ := La.SlAt.ter (HS.out.below HB.out) hxk
        subst hA
        have Hstep : Hid (La.chkK La.terB La.anyR l (k + 1) = La.terB x) := Lib.hid (by rw [La.chkK, Hp.out, hxk]; simp only [okAt_ter, Bool.true_and])
        have hbx := Hbig.out x (List.mem_of_getElem? hxk)
        have KN := Lib.hid (fun w => La.rname_any x.2.1 w hbx.1)
        have KV := Lib.hid (fun w => value3_any x.2.2 w hbx.2)
        have KD := Lib.hid (fun w => valued_any x.1 w)
        have k0 : (0 : Int) ≤ (k : Int) := by omega
        have k1 : (k : Int) < (l.length : Int) := by omega
        have Hxk := Lib.hid hxk
        have B2 := Lib.hid (HB.out.alloc HB.out.size (.cells #[.int .i64 x.1, strV x.2.1, strV x.2.2] 38))
        have P2 : Hid (Blk (wr.alloc (.cells #[.int .i64 x.1, strV x.2.1, strV x.2.2] 38)) wr.heap.size #[.int .i64 x.1, strV x.2.1, strV x.2.2] 38) := Lib.hid (Blk.new wr _ _)
        clear hxk hbx
        go_upto_region 7 with fail
        change Code.wp _ _ _ _ (wr.alloc (.cells #[.int .i64 x.1, strV x.2.1, strV x.2.2] 38))
        generalize (wr.alloc (.cells #[.int .i64 x.1, strV x.2.1, strV x.2.2] 38)) = W at B2 P2 ⊢
        go_cut [53] (fun v wc => v = .bool (!(La.terB x)) ∧ wc = W)
        case first =>
          clear hx0 hx1 hx2
          have p0 : W.cell? ⟨wr.heap.size, 0, none⟩ = some (.int .i64 x.1) := Blk.cell P2.out 0
          have p1 : W.cell? ⟨wr.heap.size, 1, none⟩ = some (strV x.2.1) := Blk.cell P2.out 1
          have p2 : W.cell? ⟨wr.heap.size, 2, none⟩ = some (strV x.2.2) := Blk.cell P2.out 2
          obtain ⟨t, a, v⟩ := x
          dsimp only at KN KV KD p0 p1 p2 ⊢
          by_cases t1 : t < 1
          · have HE : Hid (La.terB (t, a, v) = false) := Lib.hid (by unfold La.terB; rw [if_neg (by dsimp only; omega), if_neg (by dsimp only; omega)])
            go_wp2
            go_meet
            exact ⟨by rw [HE.out]; rfl, rfl⟩
          by_cases t4 : 4 < t
          · have HE : Hid (La.terB (t, a, v) = false) := Lib.hid (by unfold La.terB; rw [if_neg (by dsimp only; omega), if_neg (by dsimp only; omega)])
            go_wp2
            go_meet
            exact ⟨by rw [HE.out]; rfl, rfl⟩
          cases hn : La.nameB a
          · have HE : Hid (La.terB (t, a, v) = false) := Lib.hid (by unfold La.terB; rw [hn]; simp)
            rw [hn] at KN
            clear hn
            go_wp2_with fail
            refine (KN.out _).mono ?_
            rintro e w1 ⟨rfl, rfl⟩
            go_wp2
            go_meet
            exact ⟨by rw [HE.out]; rfl, rfl⟩
          rw [hn] at KN
          by_cases t2 : t = 1 ∨ t = 2
          · rw [decide_eq_true t2] at KD
            cases hv : La.valueB v
            · have HE : Hid (La.terB (t, a, v) = false) := Lib.hid (by unfold La.terB; rw [if_pos t2, hn, hv]; rfl)
              rw [hv] at KV
              clear hn hv t2
              go_wp2_with fail
              refine (KN.out _).mono ?_
              rintro e w1 ⟨rfl, rfl⟩
              go_wp2_with fail
              refine (KD.out _).mono ?_
              rintro e w1 ⟨rfl, rfl⟩
              go_wp2_with fail
              refine (KV.out _).mono ?_
              rintro e w1 ⟨rfl, rfl⟩
              go_wp2
              go_meet
              exact ⟨by rw [HE.out]; rfl, rfl⟩
            · have HE : Hid (La.terB (t, a, v) = true) := Lib.hid (by unfold La.terB; rw [if_pos t2, hn, hv]; rfl)
              rw [hv] at KV
              clear hn hv t2
              go_wp2_with fail
              refine (KN.out _).mono ?_
              rintro e w1 ⟨rfl, rfl⟩
              go_wp2_with fail
              refine (KD.out _).mono ?_
              rintro e w1 ⟨rfl, rfl⟩
              go_wp2_with fail
              refine (KV.out _).mono ?_
              rintro e w1 ⟨rfl, rfl⟩
              go_wp2_with fail
              refine (KD.out _).mono ?_
              rintro e w1 ⟨rfl, rfl⟩
              go_wp2
              go_meet
              exact ⟨by rw [HE.out]; rfl, rfl⟩
          · rw [decide_eq_false t2] at KD
            have HE : Hid (La.terB (t, a, v) = decide (v = [])) := Lib.hid (by unfold La.terB; rw [if_neg t2, if_pos (by dsimp only; omega), hn]; rfl)
            clear hn t2
            by_cases hs : v = []
            · subst hs
              go_wp2_with fail
              refine (KN.out _).mono ?_
              rintro e w1 ⟨rfl, rfl⟩
              go_wp2_with fail
              refine (KD.out _).mono ?_
              rintro e w1 ⟨rfl, rfl⟩
              go_wp2_with fail
              refine (KD.out _).mono ?_
              rintro e w1 ⟨rfl, rfl⟩
              go_wp2
              go_meet
              exact ⟨by rw [HE.out]; rfl, rfl⟩
            · have h1 : v.isEmpty = false := by simpa using hs
              have h2 : (v == []) = false := by simpa using hs
              have h3 : (v != []) = true := by simpa using hs
              rw [decide_eq_false hs] at HE
              clear hs
              go_wp2_with fail
              refine (KN.out _).mono ?_
              rintro e w1 ⟨rfl, rfl⟩
              go_wp2_with fail
              refine (KD.out _).mono ?_
              rintro e w1 ⟨rfl, rfl⟩
              go_wp2_with fail
              refine (KD.out _).mono ?_
              rintro e w1 ⟨rfl, rfl⟩
              go_wp2
              go_meet
              exact ⟨by rw [HE.out]; rfl, rfl⟩
        case rest =>
          rename_i wc
          obtain ⟨rfl, rfl⟩ := hcut
          clear KN KV KD hx0 hx1 hx2
          cases hm : La.terB x
          · have HE : Hid (R = 2) := Lib.hid (by
              rw [E.out, if_pos]
              exact La.chkK_false (k := k + 1) (by rw [Hstep.out, hm]) (by omega))
            clear hm E
            go_wp2
            go_ret
            exact ⟨La.retI HE.out.symm, B2.out⟩
          · have hok := Lib.hid hm
            clear hm
            go_wp2_with fail
            go_roundw
            case rel => exact ⟨k + 1, by omega, by go_num, by rw [Hstep.out, hok.out], B2.out⟩
            case measure => simp [intOf]; omega
      · obtain rfl : k = l.length := by omega
        have HE : Hid (R = 0) := Lib.hid (by rw [E.out, if_neg]; rw [Hp.out]; decide)
        go_wp2
        go_ret
        exact ⟨La.retI HE.out.symm, HB.out⟩
end Go.Proofs.YtpdaohkpgconkaaGreat

namespace Go.Proofs.YtpdaohkpgconkaaGreat
open Go.RowKit

set_option maxHeartbeats 1000000 in
theorem node3_any (x : NodeD) (w : World) (hx : x.fit w) :
    Calls Tryz.prog 153 #[valN x] w fun e w' => e = .returned (.bool (nodeB x)) ∧ Below w.heap.size w w' := by
  have KV := Lib.hid (fun w => Qu.rvcheck_any x.cap w)
  have HX := Lib.hid hx
  have K1 : Hid (∀ w', Below w.heap.size w w' → Calls Tryz.prog 187 #[.slice x.al x.labels.length x.cl] w' fun e w'' => e = .returned (.int .i64 (La.chkA La.labB La.keyR x.labels)) ∧ Below w'.heap.size w' w'') := Lib.hid (fun w' hb => by
    have h := hx.l.below hb
    exact check3_any x.al x.cl x.labels w' h)
  have K2 : Hid (∀ w', Below w.heap.size w w' → Calls Tryz.prog 187 #[.slice x.at_ x.taints.length x.ct] w' fun e w'' => e = .returned (.int .i64 (La.chkA La.labB La.keyR x.taints)) ∧ Below w'.heap.size w' w'') := Lib.hid (fun w' hb => by
    have h := hx.t.below hb
    exact check3_any x.at_ x.ct x.taints w' h)
  have B0 : Hid (Below w.heap.size w (w.alloc (.cells (cellsN [x]).toArray 34))) := Lib.hid (below1 w _)
  have Q0 : Hid (Blk (w.alloc (.cells (cellsN [x]).toArray 34)) w.heap.size (cellsN [x]).toArray 34) := Lib.hid (Blk.new w _ _)
  have hlt0 : w.heap.size < (w.alloc (.cells (cellsN [x]).toArray 34)).heap.size := Blk.lt Q0.out
  have E : Hid (nodeB x = ((Qu.chkV x.cap == 0) && (La.chkA La.labB La.keyR x.labels == 0) && (La.chkA La.labB La.keyR x.taints == 0))) := Lib.hid rfl
  generalize nodeB x = R at E ⊢
  generalize Qu.chkV x.cap = v1 at KV E
  generalize La.chkA La.labB La.keyR x.labels = v2 at K1 E
  generalize La.chkA La.labB La.keyR x.taints = v3 at K2 E
  clear hx
  go_enter Tryz.func153, Tryz.ntmps153
  go_wp2_with fail
  refine (KV.out _).mono ?_
  rintro e w2 ⟨rfl, hb⟩
  have Q2 := Lib.hid (Q0.out.below hb hlt0)
  have B2 := Lib.hid (B0.out.trans (hb.mono (Nat.le_of_lt hlt0)))
  clear hb KV
  have hl2 := Blk.lt Q2.out
  have c6 : w2.cell? ⟨w.heap.size, 6, none⟩ = some (.slice x.al x.labels.length x.cl) := Blk.cell Q2.out 6
  cases h1 : (v1 == 0)
  · have HE : Hid (R = false) := Lib.hid (by rw [E.out, h1]; rfl)
    have h1' : (v1 != 0) = true := by simpa using h1
    go_wp2
    go_ret
    exact ⟨La.retB HE.out.symm, B2.out⟩
  · have h1' : (v1 != 0) = false := by simpa using h1
    go_wp2_with fail
    refine (K1.out _ B2.out).mono ?_
    rintro e w3 ⟨rfl, hb⟩
    have Q3 := Lib.hid (Q2.out.below hb hl2)
    have B3 := Lib.hid (B2.out.trans (hb.mono (Nat.le_of_lt hl2)))
    clear hb K1 c6
    have hl3 := Blk.lt Q3.out
    have c7 : w3.cell? ⟨w.heap.size, 7, none⟩ = some (.slice x.at_ x.taints.length x.ct) := Blk.cell Q3.out 7
    cases h2 : (v2 == 0)
    · have HE : Hid (R = false) := Lib.hid (by rw [E.out, h1, h2]; rfl)
      have h2' : (v2 != 0) = true := by simpa using h2
      go_wp2
      go_ret
      exact ⟨La.retB HE.out.symm, B3.out⟩
    · have h2' : (v2 != 0) = false := by simpa using h2
      go_wp2_with fail
      refine (K2.out _ B3.out).mono ?_
      rintro e w4 ⟨rfl, hb⟩
      have B4 := Lib.hid (B3.out.trans (hb.mono (Nat.le_of_lt hl3)))
      clear hb K2 c7
      have HE : Hid (R = (v3 == 0)) := Lib.hid (by rw [E.out, h1, h2]; rfl)
      clear h1 h1' h2 h2'
      go_wp2
      go_ret
      exact ⟨La.retB HE.out.symm, B4.out⟩

set_option maxHeartbeats 1000000 in
theorem near3_any (topo : List UInt8) (l : List T3) (a : Option Addr) (c : Nat) (w : World) (h : ListT w a c l) (ht : topo.length ≤ 9223372036854775807) :
    Calls Tryz.prog 192 #[valNear topo l a c] w fun e w' => e = .returned (.bool (nearB topo l)) ∧ Below w.heap.size w w' := by
  have KN := Lib.hid (fun w => name3_any topo w ht)
  have K1 : Hid (∀ w', Below w.heap.size w w' → Calls Tryz.prog 190 #[.slice a l.length c] w' fun e w'' => e = .returned (.int .i64 (La.chkA La.terB La.anyR l)) ∧ Below w'.heap.size w' w'') := Lib.hid (fun w' hb => by
    have h := h.below hb
    exact terms3_any a c l w' h)
  have B0 : Hid (Below w.heap.size w (w.alloc (.cells #[strV topo, .slice a l.length c] 41))) := Lib.hid (below1 w _)
  have Q0 : Hid (Blk (w.alloc (.cells #[strV topo, .slice a l.length c] 41)) w.heap.size #[strV topo, .slice a l.length c] 41) := Lib.hid (Blk.new w _ _)
  have hlt0 : w.heap.size < (w.alloc (.cells #[strV topo, .slice a l.length c] 41)).heap.size := Blk.lt Q0.out
  have E : Hid (nearB topo l = (if topo = [] then decide (l.length = 0) else La.nameB topo && (La.chkA La.terB La.anyR l == 0))) := Lib.hid rfl
  generalize nearB topo l = R at E ⊢
  generalize La.chkA La.terB La.anyR l = v1 at K1 E
  generalize La.nameB topo = v0 at KN E
  clear h
  by_cases htp : topo = []
  · subst htp
    have HE : Hid (R = decide (l.length = 0)) := Lib.hid (by rw [E.out, if_pos rfl])
    clear KN K1 E
    go_enter Tryz.func192, Tryz.ntmps192
    go_wp2
    go_ret
    refine ⟨La.retB ?_, B0.out⟩
    rw [HE.out, Bool.eq_iff_iff]
    simp
  · have HE : Hid (R = (v0 && (v1 == 0))) := Lib.hid (by rw [E.out, if_neg htp])
    have h1 : topo.isEmpty = false := by simpa using htp
    have h2 : (!topo.isEmpty) = true := by simpa using htp
    have HT := Lib.hid htp
    clear htp E
    go_enter Tryz.func192, Tryz.ntmps192
    go_wp2_with fail
    refine (KN.out _).mono ?_
    rintro e w2 ⟨rfl, hb⟩
    have Q2 := Lib.hid (Q0.out.below hb hlt0)
    have B2 := Lib.hid (B0.out.trans (hb.mono (Nat.le_of_lt hlt0)))
    clear hb KN
    have c1 : w2.cell? ⟨w.heap.size, 1, none⟩ = some (.slice a l.length c) := Blk.cell Q2.out 1
    have hl2 := Blk.lt Q2.out
    cases v0
    · go_wp2
      go_ret
      exact ⟨La.retB (by rw [HE.out]; rfl), B2.out⟩
    · go_wp2_with fail
      refine (K1.out _ B2.out).mono ?_
      rintro e w3 ⟨rfl, hb⟩
      have B3 := Lib.hid (B2.out.trans (hb.mono (Nat.le_of_lt hl2)))
      clear hb K1 c1
      go_wp2
      go_ret
      exact ⟨La.retB (by rw [HE.out]; rfl), B3.out⟩

set_option maxHeartbeats 1000000 in
theorem owner3_any (x : OwnD) (w : World) (hx : x.fit) :
    Calls Tryz.prog 155 #[valO x] w fun e w' => e = .returned (.bool (ownB x)) ∧ Below w.heap.size w w' := by
  have KN := Lib.hid (fun w => name3_any x.topo w hx.t)
  have B0 : Hid (Below w.heap.size w (w.alloc (.cells (cellsO [x]).toArray 36))) := Lib.hid (below1 w _)
  have Q0 : Hid (Blk (w.alloc (.cells (cellsO [x]).toArray 36)) w.heap.size (cellsO [x]).toArray 36) := Lib.hid (Blk.new w _ _)
  have hlt0 : w.heap.size < (w.alloc (.cells (cellsO [x]).toArray 36)).heap.size := Blk.lt Q0.out
  obtain ⟨nm, mn, tp, sk, sg⟩ := x
  have E : Hid (ownB ⟨nm, mn, tp, sk, sg⟩ = (if mn < 0 ∨ 24 < mn then false else if tp = [] then decide (sk = 0) else La.nameB tp && decide (1 ≤ sk ∧ sk ≤ 24))) := Lib.hid rfl
  generalize ownB ⟨nm, mn, tp, sk, sg⟩ = R at E ⊢
  simp only at KN
  generalize La.nameB tp = v0 at KN E
  clear hx
  by_cases h1 : mn < 0
  · have HE : Hid (R = false) := Lib.hid (by rw [E.out, if_pos (.inl h1)])
    clear E KN
    go_enter Tryz.func155, Tryz.ntmps155
    go_wp2
    go_ret
    exact ⟨La.retB HE.out.symm, B0.out⟩
  by_cases h2 : 24 < mn
  · have HE : Hid (R = false) := Lib.hid (by rw [E.out, if_pos (.inr h2)])
    clear E KN
    go_enter Tryz.func155, Tryz.ntmps155
    go_wp2
    go_ret
    exact ⟨La.retB HE.out.symm, B0.out⟩
  by_cases htp : tp = []
  · subst htp
    have HE : Hid (R = decide (sk = 0)) := Lib.hid (by rw [E.out, if_neg (by omega), if_pos rfl])
    clear E KN
    go_enter Tryz.func155, Tryz.ntmps155
    go_wp2
    go_ret
    refine ⟨La.retB ?_, B0.out⟩
    rw [HE.out, Bool.eq_iff_iff]
    simp
  · have HE : Hid (R = (v0 && decide (1 ≤ sk ∧ sk ≤ 24))) := Lib.hid (by rw [E.out, if_neg (by omega), if_neg htp])
    have h3 : tp.isEmpty = false := by simpa using htp
    have h4 : (!tp.isEmpty) = true := by simpa using htp
    have HT := Lib.hid htp
    clear htp E
    go_enter Tryz.func155, Tryz.ntmps155
    go_wp2_with fail
    refine (KN.out _).mono ?_
    rintro e w2 ⟨rfl, hb⟩
    have Q2 := Lib.hid (Q0.out.below hb hlt0)
    have B2 := Lib.hid (B0.out.trans (hb.mono (Nat.le_of_lt hlt0)))
    clear hb KN
    have c3 : w2.cell? ⟨w.heap.size, 3, none⟩ = some (.int .i64 sk) := Blk.cell Q2.out 3
    cases v0
    · go_wp2
      go_ret
      exact ⟨La.retB (by rw [HE.out]; rfl), B2.out⟩
    · go_wp2
      all_goals
        go_ret
        refine ⟨La.retB ?_, B2.out⟩
        rw [HE.out, Bool.eq_iff_iff]
        simp
        try omega
end Go.Proofs.YtpdaohkpgconkaaGreat

namespace Go.Proofs.YtpdaohkpgconkaaGreat
open Go.RowKit

theorem idx_lt (name : List UInt8) : ∀ l : List (List UInt8), idxF name l < (l.length : Int)
  | [] => by simp [idxF]
  | x :: t => by
    have := idx_lt name t
    rw [idxF]
    simp only [List.length_cons]
    split
    · omega
    · split <;> omega

set_option maxRecDepth 100000 in
set_option maxHeartbeats 2000000 in
theorem idxO3_any (A B C : Option Addr) (ca cb cc : Nat) (ns : List NodeD) (ps : List PodD) (os : List OwnD) (name : List UInt8) (w : World) (h : SnapAt w A B C ca cb cc ns ps os) :
    Calls Tryz.prog 188 #[snapV A B C ca cb cc ns ps os, strV name] w fun e w' => e = .returned (.int .i64 (idxF name (os.map (·.name)))) ∧ Below w.heap.size w w' := by
  have H := Lib.hid h
  have hln := h.lo
  have B0 : Hid (Below w.heap.size w (w.alloc (.cells (snapC A B C ca cb cc ns ps os) 26))) := Lib.hid (below1 w _)
  have S0 : Hid (Blk (w.alloc (.cells (snapC A B C ca cb cc ns ps os) 26)) w.heap.size (snapC A B C ca cb cc ns ps os) 26) := Lib.hid (Blk.new w _ _)
  obtain ⟨R, hR⟩ : ∃ R, idxF name (os.map (·.name)) = R := ⟨_, rfl⟩
  rw [hR]
  have HR := Lib.hid hR
  clear h hR
  go_enter Tryz.func188, Tryz.ntmps188
  go_wp2_with fail
  generalize (w.alloc (.cells (snapC A B C ca cb cc ns ps os) 26)) = W at B0 S0 ⊢
  go_loopw [5] (fun i wr => wr = W ∧ ∃ k : Nat, k ≤ os.length ∧ i = .int .i64 k ∧ (∀ j x, j < k → (os.map (·.name))[j]? = some x → x ≠ name)) (fun i _ => os.length - (intOf i).toNat)
  case atStart => exact ⟨rfl, 0, by omega, rfl, fun j x h => by omega⟩
  case round =>
    obtain ⟨rfl, k, hk, rfl, hn⟩ := hrel
    have HN := Lib.hid hn
    clear hn
    have s2 : wr.cell? ⟨w.heap.size, 2, none⟩ = some (.slice C os.length cc) := Blk.cell S0.out 2
    by_cases hlt : k < os.length
    · obtain ⟨x, hx⟩ : ∃ x, os[k]? = some x := ⟨os[k], List.getElem?_eq_getElem hlt⟩
      obtain ⟨b, o, hA, hbl, c0, d1, d2, d3, d4⟩ := atO (H.out.below B0.out).o hx
      subst hA
      clear d1 d2 d3 d4
      have HX : Hid ((os.map (·.name))[k]? = some x.name) := Lib.hid (by rw [List.getElem?_map, hx]; rfl)
      have k0 : (0 : Int) ≤ (k : Int) := by omega
      have k1 : (k : Int) < (os.length : Int) := by omega
      clear hx
      by_cases hq : x.name = name
      · have hqb : (x.name == name) = true := by simpa using hq
        have HE : Hid (R = (k : Int)) := Lib.hid (by rw [← HR.out]; exact idx_hit name _ k (hq ▸ HX.out) HN.out)
        clear hq HR
        go_wp2
        go_ret
        exact ⟨La.retI HE.out.symm, B0.out⟩
      · have hqb : (x.name == name) = false := by simpa using hq
        have HQ := Lib.hid hq
        clear hq
        go_wp2_with fail
        go_roundw
        case rel =>
          refine ⟨by first | rfl | trivial, k + 1, by omega, by go_num, fun j y hj hy => ?_⟩
          by_cases hjk : j = k
          · subst hjk
            rw [HX.out] at hy
            cases hy
            exact HQ.out
          · exact HN.out j y (by omega) hy
        case measure => simp [intOf]; omega
    · obtain rfl : k = os.length := by omega
      have HE : Hid (R = -1) := Lib.hid (by
        rw [← HR.out]
        refine idx_miss name _ (fun j x hx => HN.out j x ?_ hx)
        have := (List.getElem?_eq_some_iff.1 hx).1
        simpa using this)
      go_wp2
      go_ret
      exact ⟨La.retI HE.out.symm, B0.out⟩

set_option maxRecDepth 100000 in
set_option maxHeartbeats 2000000 in
theorem idxN3_any (A B C : Option Addr) (ca cb cc : Nat) (ns : List NodeD) (ps : List PodD) (os : List OwnD) (name : List UInt8) (w : World) (h : SnapAt w A B C ca cb cc ns ps os) :
    Calls Tryz.prog 189 #[snapV A B C ca cb cc ns ps os, strV name] w fun e w' => e = .returned (.int .i64 (idxF name (ns.map (·.name)))) ∧ Below w.heap.size w w' := by
  have H := Lib.hid h
  have hln := h.ln
  have B0 : Hid (Below w.heap.size w (w.alloc (.cells (snapC A B C ca cb cc ns ps os) 26))) := Lib.hid (below1 w _)
  have S0 : Hid (Blk (w.alloc (.cells (snapC A B C ca cb cc ns ps os) 26)) w.heap.size (snapC A B C ca cb cc ns ps os) 26) := Lib.hid (Blk.new w _ _)
  obtain ⟨R, hR⟩ : ∃ R, idxF name (ns.map (·.name)) = R := ⟨_, rfl⟩
  rw [hR]
  have HR := Lib.hid hR
  clear h hR
  go_enter Tryz.func189, Tryz.ntmps189
  go_wp2_with fail
  generalize (w.alloc (.cells (snapC A B C ca cb cc ns ps os) 26)) = W at B0 S0 ⊢
  go_loopw [5] (fun i wr => wr = W ∧ ∃ k : Nat, k ≤ ns.length ∧ i = .int .i64 k ∧ (∀ j x, j < k → (ns.map (·.name))[j]? = some x → x ≠ name)) (fun i _ => ns.length - (intOf i).toNat)
  case atStart => exact ⟨rfl, 0, by omega, rfl, fun j x h => by omega⟩
  case round =>
    obtain ⟨rfl, k, hk, rfl, hn⟩ := hrel
    have HN := Lib.hid hn
    clear hn
    have s0 : wr.cell? ⟨w.heap.size, 0, none⟩ = some (.slice A ns.length ca) := Blk.cell S0.out 0
    by_cases hlt : k < ns.length
    · obtain ⟨x, hx⟩ : ∃ x, ns[k]? = some x := ⟨ns[k], List.getElem?_eq_getElem hlt⟩
      obtain ⟨b, o, hA, hbl, c0, d1, d2, d3, d4, d5, d6, d7, d8, d9⟩ := atN (H.out.below B0.out).n.cells hx
      subst hA
      clear d1 d2 d3 d4 d5 d6 d7 d8 d9
      have HX : Hid ((ns.map (·.name))[k]? = some x.name) := Lib.hid (by rw [List.getElem?_map, hx]; rfl)
      have k0 : (0 : Int) ≤ (k : Int) := by omega
      have k1 : (k : Int) < (ns.length : Int) := by omega
      clear hx
      by_cases hq : x.name = name
      · have hqb : (x.name == name) = true := by simpa using hq
        have HE : Hid (R = (k : Int)) := Lib.hid (by rw [← HR.out]; exact idx_hit name _ k (hq ▸ HX.out) HN.out)
        clear hq HR
        go_wp2
        go_ret
        exact ⟨La.retI HE.out.symm, B0.out⟩
      · have hqb : (x.name == name) = false := by simpa using hq
        have HQ := Lib.hid hq
        clear hq
        go_wp2_with fail
        go_roundw
        case rel =>
          refine ⟨by first | rfl | trivial, k + 1, by omega, by go_num, fun j y hj hy => ?_⟩
          by_cases hjk : j = k
          · subst hjk
            rw [HX.out] at hy
            cases hy
            exact HQ.out
          · exact HN.out j y (by omega) hy
        case measure => simp [intOf]; omega
    · obtain rfl : k = ns.length := by omega
      have HE : Hid (R = -1) := Lib.hid (by
        rw [← HR.out]
        refine idx_miss name _ (fun j x hx => HN.out j x ?_ hx)
        have := (List.getElem?_eq_some_iff.1 hx).1
        simpa using this)
      go_wp2
      go_ret
      exact ⟨La.retI HE.out.symm, B0.out⟩

set_option maxRecDepth 100000 in
set_option maxHeartbeats 4000000 in
theorem pod3_any (A B C : Option Addr) (ca cb cc : Nat) (ns : List NodeD) (ps : List PodD) (os : List OwnD) (x : PodD) (w : World) (h : SnapAt w A B C ca cb cc ns ps os) (hx : x.fit w) :
    Calls Tryz.prog 154 #[snapV A B C ca cb cc ns ps os, valP x] w fun e w' => e = .returned (.bool (podB x && knownB ns os x)) ∧ Below w.heap.size w w' := by
  have KV := Lib.hid (fun w => Qu.rvcheck_any x.req w)
  have K1 : Hid (∀ w', Below w.heap.size w w' → Calls Tryz.prog 187 #[.slice x.al x.labels.length x.cl] w' fun e w'' => e = .returned (.int .i64 (La.chkA La.labB La.keyR x.labels)) ∧ Below w'.heap.size w' w'') := Lib.hid (fun w' hb => by
    have h := hx.l.below hb
    exact check3_any x.al x.cl x.labels w' h)
  have K2 : Hid (∀ w', Below w.heap.size w w' → Calls Tryz.prog 190 #[.slice x.aw x.whr.length x.cw] w' fun e w'' => e = .returned (.int .i64 (La.chkA La.terB La.anyR x.whr)) ∧ Below w'.heap.size w' w'') := Lib.hid (fun w' hb => by
    have h := hx.wh.below hb
    exact terms3_any x.aw x.cw x.whr w' h)
  have K3 : Hid (∀ w', Below w.heap.size w w' → Calls Tryz.prog 191 #[.slice x.ab x.bears.length x.cb] w' fun e w'' => e = .returned (.int .i64 (La.chkA La.borB La.pairR x.bears)) ∧ Below w'.heap.size w' w'') := Lib.hid (fun w' hb => by
    have h := hx.b.below hb
    exact checkBears3_any x.ab x.cb x.bears w' h)
  have K4 : Hid (∀ w', Below w.heap.size w w' → Calls Tryz.prog 192 #[valNear x.wt x.wtm x.awt x.cwt] w' fun e w'' => e = .returned (.bool (nearB x.wt x.wtm)) ∧ Below w'.heap.size w' w'') := Lib.hid (fun w' hb => near3_any x.wt x.wtm x.awt x.cwt w' (hx.wt.below hb) hx.n.2.2.1)
  have K5 : Hid (∀ w', Below w.heap.size w w' → Calls Tryz.prog 192 #[valNear x.ap x.apm x.aap x.cap] w' fun e w'' => e = .returned (.bool (nearB x.ap x.apm)) ∧ Below w'.heap.size w' w'') := Lib.hid (fun w' hb => near3_any x.ap x.apm x.aap x.cap w' (hx.ap.below hb) hx.n.2.2.2.1)
  have E : Hid (podB x = ((Qu.chkV x.req == 0) && (La.chkA La.labB La.keyR x.labels == 0) && (La.chkA La.terB La.anyR x.whr == 0) && (La.chkA La.borB La.pairR x.bears == 0) && nearB x.wt x.wtm && nearB x.ap x.apm)) := Lib.hid rfl
  generalize podB x = R at E ⊢
  generalize Qu.chkV x.req = v1 at KV E
  generalize La.chkA La.labB La.keyR x.labels = v2 at K1 E
  generalize La.chkA La.terB La.anyR x.whr = v3 at K2 E
  generalize La.chkA La.borB La.pairR x.bears = v4 at K3 E
  generalize nearB x.wt x.wtm = v5 at K4 E
  generalize nearB x.ap x.apm = v6 at K5 E
  have KO := Lib.hid (fun w' (hb : Below w.heap.size w w') => idxO3_any A B C ca cb cc ns ps os x.owner w' (h.below hb))
  have KN := Lib.hid (fun w' (hb : Below w.heap.size w w') => idxN3_any A B C ca cb cc ns ps os x.on w' (h.below hb))
  have HNs := Lib.hid (fun w' (hb : Below w.heap.size w w') => (h.below hb).n.cells)
  have B0 : Hid (Below w.heap.size w ((w.alloc (.cells (snapC A B C ca cb cc ns ps os) 26)).alloc (.cells (cellsP [x]).toArray 43))) := Lib.hid (Qu.below2 w _ _)
  have Q0 : Hid (Blk ((w.alloc (.cells (snapC A B C ca cb cc ns ps os) 26)).alloc (.cells (cellsP [x]).toArray 43)) (w.heap.size + 1) (cellsP [x]).toArray 43) := Lib.hid (blk2 w _ _ _)
  have S0 : Hid (Blk ((w.alloc (.cells (snapC A B C ca cb cc ns ps os) 26)).alloc (.cells (cellsP [x]).toArray 43)) w.heap.size (snapC A B C ca cb cc ns ps os) 26) := Lib.hid (Blk.alloc (Blk.new w _ _) _)
  have EK : Hid (knownB ns os x = ((decide (x.owner = []) || !(idxF x.owner (os.map (·.name)) == -1)) && (decide (x.on = []) || tpB ns (idxF x.on (ns.map (·.name)))))) := Lib.hid rfl
  generalize knownB ns os x = KB at EK ⊢
  have r1 := idx_range x.owner (os.map (·.name))
  have r2 := idx_lt x.on (ns.map (·.name))
  have hln := h.ln
  rw [List.length_map] at r1 r2
  generalize hiO : idxF x.owner (os.map (·.name)) = iO at KO EK r1
  generalize hiN : idxF x.on (ns.map (·.name)) = iN at KN EK r2
  clear hx h hiO hiN
  go_enter Tryz.func154, Tryz.ntmps154
  go_upto_region 1 with fail
  change Code.wp _ _ _ _ ((w.alloc (.cells (snapC A B C ca cb cc ns ps os) 26)).alloc (.cells (cellsP [x]).toArray 43))
  generalize ((w.alloc (.cells (snapC A B C ca cb cc ns ps os) 26)).alloc (.cells (cellsP [x]).toArray 43)) = W at B0 Q0 S0 ⊢
  go_cut [15] (fun v wc => v = .bool (!(decide (x.owner = []) || !(iO == -1))) ∧ Below w.heap.size w wc ∧ Blk wc (w.heap.size + 1) (cellsP [x]).toArray 43 ∧ Blk wc w.heap.size (snapC A B C ca cb cc ns ps os) 26)
  case first =>
    have p1 : W.cell? ⟨w.heap.size + 1, 1, none⟩ = some (strV x.owner) := Blk.cell Q0.out 1
    have s0 : W.cell? ⟨w.heap.size, 0, none⟩ = some (.slice A ns.length ca) := Blk.cell S0.out 0
    have s1 : W.cell? ⟨w.heap.size, 1, none⟩ = some (.slice B ps.length cb) := Blk.cell S0.out 1
    have s2 : W.cell? ⟨w.heap.size, 2, none⟩ = some (.slice C os.length cc) := Blk.cell S0.out 2
    by_cases ho : x.owner = []
    · have HE : Hid ((!(decide (x.owner = []) || !(iO == -1))) = false) := Lib.hid (by rw [decide_eq_true ho]; rfl)
      have e1 : x.owner.isEmpty = true := by simpa using ho
      have e2 : (x.owner == []) = true := by simpa using ho
      have e3 : (x.owner != []) = false := by simpa using ho
      clear ho
      go_wp2_with fail
      go_meet
      exact ⟨by rw [HE.out], B0.out, Q0.out, S0.out⟩
    · have HE : Hid ((!(decide (x.owner = []) || !(iO == -1))) = decide (iO < 0)) := Lib.hid (by
        rw [decide_eq_false ho, Bool.false_or, Bool.not_not, Bool.eq_iff_iff]
        simp
        omega)
      have e1 : x.owner.isEmpty = false := by simpa using ho
      have e2 : (x.owner == []) = false := by simpa using ho
      have e3 : (x.owner != []) = true := by simpa using ho
      clear ho
      go_wp2_with fail
      refine (KO.out _ B0.out).mono ?_
      rintro e w1 ⟨rfl, hb⟩
      have B1 := Lib.hid (B0.out.trans (hb.mono B0.out.size))
      have Q1 := Lib.hid (Q0.out.below hb Q0.out.lt)
      have S1 := Lib.hid (S0.out.below hb S0.out.lt)
      clear hb
      go_wp2_with fail
      go_meet
      exact ⟨by rw [HE.out], B1.out, Q1.out, S1.out⟩
  case rest =>
    rename_i wc
    obtain ⟨rfl, hB, hQ, hS⟩ := hcut
    have B1 := Lib.hid hB
    have Q1 := Lib.hid hQ
    have S1 := Lib.hid hS
    clear hB hQ hS B0 Q0 S0 KO
    cases hko : (decide (x.owner = []) || !(iO == -1))
    · have HE : Hid ((R && KB) = false) := Lib.hid (by rw [EK.out, hko, Bool.false_and, Bool.and_false])
      clear hko
      go_wp2_with fail
      go_ret
      exact ⟨La.retB HE.out.symm, B1.out⟩
    have EK2 : Hid (KB = (decide (x.on = []) || tpB ns iN)) := Lib.hid (by rw [EK.out, hko, Bool.true_and])
    clear hko EK
    have p14 : wc.cell? ⟨w.heap.size + 1, 14, none⟩ = some (strV x.on) := Blk.cell Q1.out 14
    go_upto_if 18 with fail
    go_cut [18] (fun _ wd => (R && KB) = R ∧ Below w.heap.size w wd ∧ Blk wd (w.heap.size + 1) (cellsP [x]).toArray 43)
    case first =>
      have s0 : wc.cell? ⟨w.heap.size, 0, none⟩ = some (.slice A ns.length ca) := Blk.cell S1.out 0
      have s1 : wc.cell? ⟨w.heap.size, 1, none⟩ = some (.slice B ps.length cb) := Blk.cell S1.out 1
      have s2 : wc.cell? ⟨w.heap.size, 2, none⟩ = some (.slice C os.length cc) := Blk.cell S1.out 2
      by_cases ho : x.on = []
      · have HE : Hid ((R && KB) = R) := Lib.hid (by rw [EK2.out, decide_eq_true ho, Bool.true_or, Bool.and_true])
        have e1 : x.on.isEmpty = true := by simpa using ho
        have e2 : (x.on == []) = true := by simpa using ho
        have e3 : (x.on != []) = false := by simpa using ho
        clear ho
        rw [e1]
        go_wp2_with fail
        go_meet
        exact ⟨HE.out, B1.out, Q1.out⟩
      · have EK3 : Hid (KB = tpB ns iN) := Lib.hid (by rw [EK2.out, decide_eq_false ho, Bool.false_or])
        have e1 : x.on.isEmpty = false := by simpa using ho
        have e2 : (x.on == []) = false := by simpa using ho
        have e3 : (x.on != []) = true := by simpa using ho
        clear ho
        rw [e1]
        go_wp2_with fail
        refine (KN.out _ B1.out).mono ?_
        rintro e w1 ⟨rfl, hb⟩
        have B2 := Lib.hid (B1.out.trans (hb.mono B1.out.size))
        have Q2 := Lib.hid (Q1.out.below hb Q1.out.lt)
        have S2 := Lib.hid (S1.out.below hb S1.out.lt)
        clear hb p14 s0 s1 s2
        have s0 : w1.cell? ⟨w.heap.size, 0, none⟩ = some (.slice A ns.length ca) := Blk.cell S2.out 0
        by_cases hneg : iN < 0
        · have HE : Hid ((R && KB) = false) := Lib.hid (by
            rw [EK3.out]
            unfold tpB
            rw [decide_eq_false (by omega), Bool.false_and, Bool.and_false])
          go_wp2_with fail
          go_ret
          exact ⟨La.retB HE.out.symm, B2.out⟩
        · obtain ⟨n, rfl⟩ : ∃ n : Nat, iN = (n : Int) := ⟨iN.toNat, by omega⟩
          have hnl : n < ns.length := by omega
          obtain ⟨y, hy⟩ : ∃ y, ns[n]? = some y := ⟨ns[n], List.getElem?_eq_getElem hnl⟩
          obtain ⟨b, o, hA, hbl, c0, c1, c2, c3, c4, c5, c6, c7, c8, c9⟩ := atN (HNs.out w1 B2.out) hy
          subst hA
          have EK4 : Hid (KB = !y.lost) := Lib.hid (by rw [EK3.out]; unfold tpB; rw [Int.toNat_natCast, hy, decide_eq_true (by omega)]; rfl)
          have n0 : (0 : Int) ≤ (n : Int) := by omega
          have n1 : (n : Int) < (ns.length : Int) := by omega
          clear hy c0 c1 c2 c3 c4 c5 c6 c7 c8 KN HNs
          cases hyl : y.lost
          · have HE : Hid ((R && KB) = R) := Lib.hid (by rw [EK4.out, hyl]; simp)
            rw [hyl] at c9
            go_wp2_with fail
            go_meet
            exact ⟨HE.out, B2.out, Q2.out⟩
          · have HE : Hid ((R && KB) = false) := Lib.hid (by rw [EK4.out, hyl]; simp)
            rw [hyl] at c9
            go_wp2_with fail
            go_ret
            exact ⟨La.retB HE.out.symm, B2.out⟩
    case rest =>
      obtain ⟨hRK, hB, hQ⟩ := hcut
      have HRK := Lib.hid hRK
      have hlt0 := Blk.lt hQ
      have B0 := Lib.hid hB
      have Q0 := Lib.hid hQ
      clear hB hQ B1 Q1 S1 hRK KN
      have p2 : wc.cell? ⟨w.heap.size + 1, 2, none⟩ = some (.int .i64 (x.req 0)) := Blk.cell Q0.out 2
      have p3 : wc.cell? ⟨w.heap.size + 1, 3, none⟩ = some (.int .i64 (x.req 1)) := Blk.cell Q0.out 3
      have p4 : wc.cell? ⟨w.heap.size + 1, 4, none⟩ = some (.int .i64 (x.req 2)) := Blk.cell Q0.out 4
      have p5 : wc.cell? ⟨w.heap.size + 1, 5, none⟩ = some (.int .i64 (x.req 3)) := Blk.cell Q0.out 5
      have p6 : wc.cell? ⟨w.heap.size + 1, 6, none⟩ = some (.int .i64 (x.req 4)) := Blk.cell Q0.out 6
      go_wp2_with fail
      refine (KV.out _).mono ?_
      rintro e w2 ⟨rfl, hb⟩
      have Q2 := Lib.hid (Q0.out.below hb hlt0)
      have B2 := Lib.hid (B0.out.trans (hb.mono B0.out.size))
      clear hb KV
      have hl2 := Blk.lt Q2.out
      have c7 : w2.cell? ⟨w.heap.size + 1, 7, none⟩ = some (.slice x.al x.labels.length x.cl) := Blk.cell Q2.out 7
      cases h1 : (v1 == 0)
      · have HE : Hid (R = false) := Lib.hid (by rw [E.out, h1]; rfl)
        have h1' : (v1 != 0) = true := by simpa using h1
        go_wp2
        go_ret
        exact ⟨La.retB (HRK.out.trans HE.out).symm, B2.out⟩
      have h1' : (v1 != 0) = false := by simpa using h1
      go_wp2_with fail
      refine (K1.out _ B2.out).mono ?_
      rintro e w3 ⟨rfl, hb⟩
      have Q3 := Lib.hid (Q2.out.below hb hl2)
      have B3 := Lib.hid (B2.out.trans (hb.mono B2.out.size))
      clear hb K1 c7 Q2
      have hl3 := Blk.lt Q3.out
      have c8 : w3.cell? ⟨w.heap.size + 1, 8, none⟩ = some (.slice x.aw x.whr.length x.cw) := Blk.cell Q3.out 8
      cases h2 : (v2 == 0)
      · have HE : Hid (R = false) := Lib.hid (by rw [E.out, h1, h2]; rfl)
        have h2' : (v2 != 0) = true := by simpa using h2
        go_wp2
        go_ret
        exact ⟨La.retB (HRK.out.trans HE.out).symm, B3.out⟩
      have h2' : (v2 != 0) = false := by simpa using h2
      go_wp2_with fail
      refine (K2.out _ B3.out).mono ?_
      rintro e w4 ⟨rfl, hb⟩
      have Q4 := Lib.hid (Q3.out.below hb hl3)
      have B4 := Lib.hid (B3.out.trans (hb.mono B3.out.size))
      clear hb K2 c8 Q3
      have hl4 := Blk.lt Q4.out
      have c9 : w4.cell? ⟨w.heap.size + 1, 9, none⟩ = some (.slice x.ab x.bears.length x.cb) := Blk.cell Q4.out 9
      cases h3 : (v3 == 0)
      · have HE : Hid (R = false) := Lib.hid (by rw [E.out, h1, h2, h3]; rfl)
        have h3' : (v3 != 0) = true := by simpa using h3
        go_wp2
        go_ret
        exact ⟨La.retB (HRK.out.trans HE.out).symm, B4.out⟩
      have h3' : (v3 != 0) = false := by simpa using h3
      go_wp2_with fail
      refine (K3.out _ B4.out).mono ?_
      rintro e w5 ⟨rfl, hb⟩
      have Q5 := Lib.hid (Q4.out.below hb hl4)
      have B5 := Lib.hid (B4.out.trans (hb.mono B4.out.size))
      clear hb K3 c9 Q4
      have hl5 := Blk.lt Q5.out
      have c10 : w5.cell? ⟨w.heap.size + 1, 10, none⟩ = some (strV x.wt) := Blk.cell Q5.out 10
      have c11 : w5.cell? ⟨w.heap.size + 1, 11, none⟩ = some (.slice x.awt x.wtm.length x.cwt) := Blk.cell Q5.out 11
      cases h4 : (v4 == 0)
      · have HE : Hid (R = false) := Lib.hid (by rw [E.out, h1, h2, h3, h4]; rfl)
        have h4' : (v4 != 0) = true := by simpa using h4
        go_wp2
        go_ret
        exact ⟨La.retB (HRK.out.trans HE.out).symm, B5.out⟩
      have h4' : (v4 != 0) = false := by simpa using h4
      go_wp2_with fail
      refine (K4.out _ B5.out).mono ?_
      rintro e w6 ⟨rfl, hb⟩
      have Q6 := Lib.hid (Q5.out.below hb hl5)
      have B6 := Lib.hid (B5.out.trans (hb.mono B5.out.size))
      clear hb K4 c10 c11 Q5
      have hl6 := Blk.lt Q6.out
      have c12 : w6.cell? ⟨w.heap.size + 1, 12, none⟩ = some (strV x.ap) := Blk.cell Q6.out 12
      have c13 : w6.cell? ⟨w.heap.size + 1, 13, none⟩ = some (.slice x.aap x.apm.length x.cap) := Blk.cell Q6.out 13
      have HE0 : Hid (R = (v5 && v6)) := Lib.hid (by rw [E.out, h1, h2, h3, h4]; simp)
      clear h1 h2 h3 h4 h1' h2' h3' h4' E
      cases v5
      · have HE : Hid (R = false) := Lib.hid (by rw [HE0.out]; rfl)
        go_wp2
        go_ret
        exact ⟨La.retB (HRK.out.trans HE.out).symm, B6.out⟩
      · go_wp2_with fail
        refine (K5.out _ B6.out).mono ?_
        rintro e w7 ⟨rfl, hb⟩
        have B7 := Lib.hid (B6.out.trans (hb.mono B6.out.size))
        clear hb K5 c12 c13
        have HE : Hid (R = v6) := Lib.hid (by rw [HE0.out]; rfl)
        go_wp2
        go_ret
        exact ⟨La.retB (HRK.out.trans HE.out).symm, B7.out⟩
end Go.Proofs.YtpdaohkpgconkaaGreat
