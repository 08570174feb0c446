/- Whether there is an owner at a place, of a placement that may be; the value of a node for a key. Condition: the cluster and the numbers lie in memory. Clusters of whatever size: those that are too great are refused. Contracts of Check, and of a placement's. Condition: the cluster lies in memory. Pods that are to go, as rows of three numbers: in which order they are told. Numbers alone. No conditions. The clauses of a placement stand in order, each once; none is broken by less than nothing; how many are about pods. In numbers only. Is a pod where its owner, whose skew is too great, has most: the contract of isCrowded. Condition: what detect keeps lies in memory. A map of how much clauses are broken, its keys what they are about: what is found in it, how many are in it, what they are together. In numbers and data only. By how much the clauses of a placement are broken, as a map: the program's brokenBy, whichOf, weight. Contracts. Condition: the cluster and the numbers lie in memory. Whether a placement is safe, by how much it is broken: the program's Safe, Sum. Contracts. Condition: the cluster and the numbers lie in memory. A policy that says only what is on: why a pod is to go by it, of a safe placement and of any. Numbers alone. Conditions: what they say. -/
import Derived.Test.YticgcimcebdjlaaGreatA14
import Derived.Shelf.SlSortCmp.NoneTotal
import Derived.Handy
import Derived.Maps.OwnSet
import Derived.Maps.OwnOps
import Derived.Maps.RangeWalk
import Derived.DeepKeys4
import Derived.WalkArith
import Derived.Deep.RegionHeld3

namespace Go.Proofs.YticgcimcebdjlaaGreat
open Go.RowKit

/-- What Domain tells. -/
def domE (ns : List NodeD) (ps : List PodD) (os : List OwnD) (k : Int) (key : List UInt8) : Option (List UInt8) := if checkS ns ps os = 0 then domF ns k key else none

set_option maxRecDepth 100000 in
set_option maxHeartbeats 1000000 in
theorem domain_any (A B C : Option Addr) (ca cb cc : Nat) (ns : List NodeD) (ps : List PodD) (os : List OwnD) (k : Int) (key : List UInt8) (w : World) (h : SnapAt w A B C ca cb cc ns ps os) (hsh : checkS ns ps os = 0 → Short ns) :
    Calls Tryz.prog 203 #[snapV A B C ca cb cc ns ps os, .int .i64 k, strV key] w fun e w' => e = .returned (.tuple #[strV ((domE ns ps os k key).getD []), .bool (domE ns ps os k key).isSome]) ∧ Below w.heap.size w w' := by
  have H := Lib.hid h
  have B0 : Hid (Below w.heap.size w (w.alloc (.cells (snapC A B C ca cb cc ns ps os) 26))) := Lib.hid (below1 w _)
  have S0 : Hid (Blk (w.alloc (.cells (snapC A B C ca cb cc ns ps os) 26)) w.heap.size (snapC A B C ca cb cc ns ps os) 26) := Lib.hid (Blk.new w _ _)
  have KC := Lib.hid (check_any A B C ca cb cc ns ps os _ (h.below B0.out))
  have hl0 := Blk.lt S0.out
  have E : Hid (domE ns ps os k key = if checkS ns ps os = 0 then domF ns k key else none) := Lib.hid rfl
  generalize domE ns ps os k key = R at E ⊢
  have KD := Lib.hid (fun (hc : checkS ns ps os = 0) w1 (hb : Below w.heap.size w w1) => domainOf_any A B C ca cb cc ps.length os.length ns k key w1 (h.below hb).n (hsh hc))
  generalize checkS ns ps os = v0 at KC E KD
  generalize domF ns k key = D at KD E
  clear h hsh
  go_enter Tryz.func203, Tryz.ntmps203
  go_wp2_with fail
  refine (KC.out).mono ?_
  rintro e w1 ⟨rfl, hb⟩
  clear KC
  have S1 := Lib.hid (S0.out.below hb (by omega))
  have B1 := Lib.hid (B0.out.trans (hb.mono (by omega)))
  clear hb S0 B0 hl0
  have s0 : w1.cell? ⟨w.heap.size, 0, none⟩ = some (.slice A ns.length ca) := Blk.cell S1.out 0
  have s1 : w1.cell? ⟨w.heap.size, 1, none⟩ = some (.slice B ps.length cb) := Blk.cell S1.out 1
  have s2 : w1.cell? ⟨w.heap.size, 2, none⟩ = some (.slice C os.length cc) := Blk.cell S1.out 2
  by_cases hv : v0 = 0
  · subst hv
    have HE : Hid (R = D) := Lib.hid (by rw [E.out, if_pos rfl])
    have K1 := Lib.hid (KD.out rfl w1 B1.out)
    clear E KD
    go_wp2_with fail
    refine (K1.out).mono ?_
    rintro e w2 ⟨rfl, hb⟩
    have B2 := Lib.hid (B1.out.trans (hb.mono B1.out.size))
    clear hb K1
    go_wp2
    go_ret2
    rw [HE.out]
    exact ⟨rfl, B2.out⟩
  · have HE : Hid (R = none) := Lib.hid (by rw [E.out, if_neg hv])
    have hvb : (v0 != 0) = true := by simpa using hv
    clear E KD
    go_wp2
    go_ret2
    rw [HE.out]
    exact ⟨rfl, B1.out⟩
end Go.Proofs.YticgcimcebdjlaaGreat

namespace Go.Proofs.YticgcimcebdjlaaGreat
open Go.RowKit Go.Maps

theorem SnapAt.toIn {w : World} {A B C : Option Addr} {ca cb cc : Nat} {ns : List NodeD} {ps : List PodD} {os : List OwnD} (h : SnapAt w A B C ca cb cc ns ps os) : SnapIn w A B C ca cb cc ns ps os := ⟨h.n, h.p, h.o, h.fo, h.can, h.cap, h.cao⟩
end Go.Proofs.YticgcimcebdjlaaGreat

namespace Go.Proofs.YticgcimcebdjlaaGreat
open Go.RowKit Go.Lib Go.Sort

theorem wrongK_mem (p : List Int) (F : Nat → Int → Int) : ∀ k, ∀ x, x ∈ wrongK p F k ↔ ∃ (i : Nat) (n : Int), i < k ∧ p[i]? = some n ∧ F i n ≠ 0 ∧ x = (F i n, (i : Int), n)
  | 0, x => by simp [wrongK]
  | k + 1, x => by
    rw [wrongK, List.mem_append, wrongK_mem p F k]
    constructor
    · rintro (⟨i, n, h1, h2⟩ | h)
      · exact ⟨i, n, by omega, h2⟩
      · split at h
        · rename_i n hn
          split at h
          · cases h
          · rename_i h0
            simp at h
            exact ⟨k, n, by omega, hn, h0, h⟩
        · cases h
    · rintro ⟨i, n, h1, h2, h3, rfl⟩
      by_cases hik : i < k
      · exact .inl ⟨i, n, hik, h2, h3, rfl⟩
      · obtain rfl : i = k := by omega
        right
        rw [h2]
        dsimp only
        rw [if_neg h3]
        exact List.mem_singleton.2 rfl
end Go.Proofs.YticgcimcebdjlaaGreat

namespace Go.Proofs.YticgcimcebdjlaaGreat
open Go.RowKit

/-- What each clause is: of a known kind, broken by no less than nothing; one about a pod is about one that is there. -/
theorem all8_good (ns : List NodeD) (ps : List PodD) (os : List OwnD) (p : List Int) : ∀ c ∈ all8 ns ps os p, 0 ≤ c.2.2.2 ∧ (2 ≤ c.1 → c.1 ≤ 6 → 0 ≤ c.2.1 ∧ c.2.1 < (p.length : Int)) := by
  intro c hc
  unfold all8 at hc
  split at hc
  · unfold allU at hc
    simp only [List.mem_append] at hc
    rcases hc with ((hc | hc) | hc) | hc
    · have := caps_kind ns ps p _ c hc
      exact ⟨by omega, fun h1 h2 => by omega⟩
    · have := kinds_kind ns ps os p _ c hc
      exact ⟨by omega, fun h1 h2 => by omega⟩
    · have := spreads_kind ns ps os p _ c hc
      exact ⟨by omega, fun h1 h2 => by omega⟩
    · have := mins_kind ns ps os p _ c hc
      exact ⟨by omega, fun h1 h2 => by omega⟩
  · simp at hc
end Go.Proofs.YticgcimcebdjlaaGreat

namespace Go.Proofs.YticgcimcebdjlaaGreat
open Go.RowKit Go.Maps

/-- Is pod k, on node n, crowded? -/
def crowdF (ns : List NodeD) (ps : List PodD) (os : List OwnD) (full : List (List (List UInt8))) (k : Nat) (n : Int) : Bool := match ps[k]? with
  | some x => (match full[(idxF x.owner (os.map (·.name))).toNat]?, os[(idxF x.owner (os.map (·.name))).toNat]? with
    | some ds, some ow => if idxF x.owner (os.map (·.name)) < 0 then false else if ds = [] then false else (match domE ns ps os n ow.topo with
      | some d => decide (d ∈ ds)
      | none => false)
    | _, _ => false)
  | none => false

set_option maxRecDepth 100000 in
set_option maxHeartbeats 1000000 in
theorem own1_any (Vb Qb k cb : Nat) (B : Option Addr) (ps : List PodD) (x : OwnD) (y : PodD) (w : World) (hV : w.cell? ⟨Vb, 1, none⟩ = some (.slice B ps.length cb)) (hQ : w.cell? ⟨Qb, 0, none⟩ = some (.int .i64 (k : Int))) (hp : La.SlAt w B (cellsP ps)) (hy : ps[k]? = some y) :
    Calls Tryz.prog 202 #[valO x, .pointer (some ⟨Vb, 0, none⟩), .pointer (some ⟨Qb, 0, none⟩)] w fun e w' => e = .returned (.bool (decide (x.name = y.owner))) ∧ Below w.heap.size w w' := by
  have hkl := (List.getElem?_eq_some_iff.1 hy).1
  have k0 : (0 : Int) ≤ (k : Int) := by omega
  have k1 : (k : Int) < (ps.length : Int) := by omega
  have hvl := World.block_lt_of_cell? w _ hV
  have hql := World.block_lt_of_cell? w _ hQ
  obtain ⟨b, o, hB, hbl, c0, c1, _⟩ := atP hp hy
  subst hB
  have B0 := Lib.hid (below1 w (.cells #[strV x.name, .int .i64 x.min, strV x.topo, .int .i64 x.skew, .bool x.single] 191))
  have Q0 := Lib.hid (Blk.new w #[strV x.name, .int .i64 x.min, strV x.topo, .int .i64 x.skew, .bool x.single] 191)
  have V1 := Lib.hid ((B0.out.cell (p := ⟨Vb, 1, none⟩) hvl).trans hV)
  have P1 := Lib.hid ((B0.out.cell (p := ⟨Qb, 0, none⟩) hql).trans hQ)
  have D1 := Lib.hid ((B0.out.cell (p := ⟨b, o + k * 15 + 1, none⟩) hbl).trans c1)
  have hk15 : 15 * k = k * 15 := Nat.mul_comm _ _
  obtain ⟨bb, hbb⟩ : ∃ bb, decide (x.name = y.owner) = bb := ⟨_, rfl⟩
  have HBB := Lib.hid hbb
  rw [hbb]
  clear hp hy hV hQ c0 c1 hbb
  go_enter Tryz.func202, Tryz.ntmps202
  go_upto_region 1 with fail
  try change Code.wp _ _ _ _ (w.alloc (.cells #[strV x.name, .int .i64 x.min, strV x.topo, .int .i64 x.skew, .bool x.single] 191))
  generalize (w.alloc (.cells #[strV x.name, .int .i64 x.min, strV x.topo, .int .i64 x.skew, .bool x.single] 191)) = W at B0 Q0 V1 P1 D1 ⊢
  have e0 : W.cell? ⟨w.heap.size, 0, none⟩ = some (strV x.name) := Blk.cell Q0.out 0
  have e1 : W.cell? ⟨Vb, 1, none⟩ = some (.slice (some ⟨b, o, none⟩) ps.length cb) := V1.out
  have e2 : W.cell? ⟨Qb, 0, none⟩ = some (.int .i64 (k : Int)) := P1.out
  have e3 : W.cell? ⟨b, o + k * 15 + 1, none⟩ = some (strV y.owner) := D1.out
  go_quiet (fail)
  have D := Lib.hid (belowN B0.out nq)
  go_wp2_with fail
  go_ret
  refine ⟨La.retB ?_, D.out⟩
  rw [← HBB.out]
  first | rfl | (rw [Bool.eq_iff_iff]; simp)
set_option maxRecDepth 100000 in
set_option maxHeartbeats 2000000 in
theorem index_own (Vb Qb k cb cc : Nat) (B C : Option Addr) (ps : List PodD) (l : List OwnD) (y : PodD) (w : World) (hV : w.cell? ⟨Vb, 1, none⟩ = some (.slice B ps.length cb)) (hQ : w.cell? ⟨Qb, 0, none⟩ = some (.int .i64 (k : Int))) (hp : La.SlAt w B (cellsP ps)) (hy : ps[k]? = some y) (hl : l.length ≤ 1000) (hs : La.SlAt w C (cellsO l)) :
    Calls Tryz.prog 201 #[.slice C l.length cc, .func (Fn.func 202) #[] #[.pointer (some ⟨Vb, 0, none⟩), .pointer (some ⟨Qb, 0, none⟩)]] w fun e w' => e = .returned (.int .i64 (idxF y.owner (l.map (·.name)))) ∧ Below w.heap.size w w' := by
  have HS := Lib.hid hs
  have hvl := World.block_lt_of_cell? w _ hV
  have hql := World.block_lt_of_cell? w _ hQ
  have K1 := Lib.hid (fun (x : OwnD) W' (hb : Below w.heap.size w W') => own1_any Vb Qb k cb B ps x y W' ((hb.cell (p := ⟨Vb, 1, none⟩) hvl).trans hV) ((hb.cell (p := ⟨Qb, 0, none⟩) hql).trans hQ) (hp.below hb) hy)
  have hg : ∀ (args : Array Value) (w : World), (callFunc 202 args).run Tryz.prog w = .ok (.enter 202 args) w := fun _ _ => by kernel_rfl
  generalize y.owner = name at K1 ⊢
  obtain ⟨R, hR⟩ : ∃ R, idxF name (l.map (·.name)) = R := ⟨_, rfl⟩
  have HR := Lib.hid hR
  rw [hR]
  clear hs hV hQ hp hy hR
  go_enter Tryz.func201, Tryz.ntmps201
  go_wp2_with fail
  go_loopw [8] (fun i wr => ∃ k : Nat, k ≤ l.length ∧ i = .int .i64 k ∧ (∀ j x, j < k → (l.map (·.name))[j]? = some x → x ≠ name) ∧ Below w.heap.size w wr) (fun i _ => l.length - (RowKit.intOf i).toNat)
  case atStart => exact ⟨0, by omega, rfl, fun j x h => by omega, Below.refl _ _⟩
  case round =>
    obtain ⟨k, hk, rfl, hn, hb⟩ := hrel
    have HN := Lib.hid hn
    have HB := Lib.hid hb
    clear hn hb
    by_cases hlt : k < l.length
    · obtain ⟨x, hx⟩ : ∃ x, l[k]? = some x := ⟨l[k], List.getElem?_eq_getElem hlt⟩
      obtain ⟨b, o, hA, hbl, c0, c1, c2, c3, c4⟩ := atO (HS.out.below HB.out) hx
      subst hA
      have hxn : (l.map (·.name))[k]? = some x.name := by simp [hx]
      have HX := Lib.hid hxn
      have k0 : (0 : Int) ≤ (k : Int) := by omega
      have k1 : (k : Int) < (l.length : Int) := by omega
      have KI := Lib.hid (K1.out x wr HB.out)
      clear hx hxn
      go_wp2_with fail
      refine (KI.out).mono ?_
      rintro e w3 ⟨rfl, hb3⟩
      have B3 := Lib.hid (HB.out.trans (hb3.mono HB.out.size))
      clear hb3 KI c0 c1 c2 c3 c4
      by_cases he : x.name = name
      · have hd : decide (x.name = name) = true := by simpa using he
        have HE : Hid ((k : Int) = R) := Lib.hid (by rw [← HR.out]; exact (idx_hit name _ k (by rw [HX.out, he]) HN.out).symm)
        have He := Lib.hid he
        clear he
        go_wp2
        go_ret
        exact ⟨La.retI HE.out, B3.out⟩
      · have hd : decide (x.name = name) = false := by simpa using he
        have He := Lib.hid he
        clear he
        go_wp2
        go_roundw
        case rel =>
          refine ⟨k + 1, by omega, by go_num, fun j y hj hy => ?_, B3.out⟩
          by_cases hjk : j = k
          · subst hjk
            rw [HX.out] at hy
            cases hy
            exact He.out
          · exact HN.out j y (by omega) hy
        case measure => simp [RowKit.intOf]; omega
    · obtain rfl : k = l.length := by omega
      have HE : Hid ((-1 : Int) = R) := Lib.hid (by
        rw [← HR.out]
        refine (idx_miss name _ (fun j y hy => HN.out j y ?_ hy)).symm
        rcases Nat.lt_or_ge j l.length with h | h
        · exact h
        · rw [List.getElem?_eq_none (by simpa using h)] at hy
          cases hy)
      go_wp2
      go_ret
      exact ⟨La.retI HE.out, HB.out⟩

theorem idx_lt9 (name : List UInt8) : ∀ l : List (List UInt8), idxF name l < (l.length : Int)
  | [] => by simp [idxF]
  | x :: t => by
    have ih := idx_lt9 name t
    rw [idxF]
    split
    · simp <;> omega
    · split
      · simp <;> omega
      · simp <;> omega
set_option maxRecDepth 100000 in
set_option maxHeartbeats 4000000 in
theorem crowd_any (v : VwD) (k : Nat) (n : Int) (w : World) (h : VwAt w v) (hk : v.p[k]? = some n) (hfl : v.full.length = v.os.length) :
    Calls Tryz.prog 145 #[.agg (cellsVw v), .int .i64 (k : Int)] w fun e w' => e = .returned (.bool (crowdF v.ns v.ps v.os v.full k n)) ∧ Below w.heap.size w w' := by
  have hfw := placeE_few h.e
  have hkl := (List.getElem?_eq_some_iff.1 hk).1
  have hkp : k < v.ps.length := by rw [← placeE_len h.e]; exact hkl
  obtain ⟨y, hy⟩ : ∃ y, v.ps[k]? = some y := ⟨v.ps[k], List.getElem?_eq_getElem hkp⟩
  have hos := hfw.2.2
  have W0d : Hid (Below w.heap.size w ((w.alloc (.cells (cellsVw v) 92)).alloc (.cells #[.int .i64 (k : Int)] 3))) := Lib.hid (Qu.below2 w _ _)
  have Q0 : Hid (Blk ((w.alloc (.cells (cellsVw v) 92)).alloc (.cells #[.int .i64 (k : Int)] 3)) w.heap.size (cellsVw v) 92) := Lib.hid (Blk.alloc (Blk.new w _ _) _)
  have P0 : Hid (Blk ((w.alloc (.cells (cellsVw v) 92)).alloc (.cells #[.int .i64 (k : Int)] 3)) (w.heap.size + 1) #[.int .i64 (k : Int)] 3) := Lib.hid (blk2 w _ _ _)
  have H := Lib.hid h
  have HK := Lib.hid hk
  have HY := Lib.hid hy
  have k0 : (0 : Int) ≤ (k : Int) := by omega
  have k1 : (k : Int) < (v.p.length : Int) := by omega
  have CF : Hid (crowdF v.ns v.ps v.os v.full k n = (match v.full[(idxF y.owner (v.os.map (·.name))).toNat]?, v.os[(idxF y.owner (v.os.map (·.name))).toNat]? with
    | some ds, some ow => if idxF y.owner (v.os.map (·.name)) < 0 then false else if ds = [] then false else (match domE v.ns v.ps v.os n ow.topo with
      | some d => decide (d ∈ ds)
      | none => false)
    | _, _ => false)) := Lib.hid (by
    unfold crowdF
    rw [hy])
  obtain ⟨R, hR⟩ : ∃ R, crowdF v.ns v.ps v.os v.full k n = R := ⟨_, rfl⟩
  rw [hR] at CF ⊢
  have hix := idx_range y.owner (v.os.map (·.name))
  have hil := idx_lt9 y.owner (v.os.map (·.name))
  rw [List.length_map] at hil
  have KD := Lib.hid (fun (key : List UInt8) W' (hb : Below w.heap.size w W') => domain_any v.A v.B v.C v.ca v.cb v.cc v.ns v.ps v.os n key W' ((h.s.low hb).at hfw) (fun hc => short_of hc))
  clear h hk hy hR hfw
  go_enter Tryz.func145, Tryz.ntmps145
  go_upto_region 1 with fail
  try change Code.wp _ _ _ _ ((w.alloc (.cells (cellsVw v) 92)).alloc (.cells #[.int .i64 (k : Int)] 3))
  generalize ((w.alloc (.cells (cellsVw v) 92)).alloc (.cells #[.int .i64 (k : Int)] 3)) = W at W0d Q0 P0 ⊢
  obtain ⟨Qb, hQb⟩ : ∃ b, w.heap.size + 1 = b := ⟨_, rfl⟩
  rw [hQb] at P0 ⊢
  clear hQb
  have m1 : W.cell? ⟨w.heap.size, 1, none⟩ = some (.slice v.B v.ps.length v.cb) := Blk.cell Q0.out 1
  have m2 : W.cell? ⟨w.heap.size, 2, none⟩ = some (.slice v.C v.os.length v.cc) := Blk.cell Q0.out 2
  have KI := Lib.hid (index_own w.heap.size Qb k v.cb v.cc v.B v.C v.ps v.os y W m1 (Blk.cell P0.out 0) (H.out.s.p.cells.below W0d.out) HY.out (by omega) (H.out.s.o.below W0d.out))
  obtain ⟨i, hi⟩ : ∃ i, idxF y.owner (v.os.map (·.name)) = i := ⟨_, rfl⟩
  rw [hi] at KI CF hix hil
  clear hi
  go_wp2_with fail
  refine (KI.out).mono ?_
  rintro e W1 ⟨rfl, hb⟩
  have HB1 := Lib.hid (W0d.out.trans (hb.mono W0d.out.size))
  have Q1 := Lib.hid (Q0.out.below hb Q0.out.lt)
  have P1 := Lib.hid (P0.out.below hb P0.out.lt)
  clear hb m1 m2 KI Q0 P0 W0d
  by_cases h0 : i < 0
  · have h0d : decide (i < 0) = true := decide_eq_true h0
    have HE : Hid (R = false) := Lib.hid (by
      rw [CF.out]
      split
      · rw [if_pos h0]
      · rfl)
    clear CF
    go_wp2
    go_ret
    exact ⟨La.retB HE.out.symm, HB1.out⟩
  have h0d : decide (i < 0) = false := decide_eq_false h0
  obtain ⟨t, rfl⟩ : ∃ t : Nat, i = (t : Int) := ⟨i.toNat, by omega⟩
  have htl : t < v.os.length := by omega
  obtain ⟨ow, how⟩ : ∃ ow, v.os[t]? = some ow := ⟨v.os[t], List.getElem?_eq_getElem htl⟩
  obtain ⟨ds, hds⟩ : ∃ ds, v.full[t]? = some ds := ⟨v.full[t]'(by omega), List.getElem?_eq_getElem (by omega)⟩
  have CF2 : Hid (R = if ds = [] then false else (match domE v.ns v.ps v.os n ow.topo with
      | some d => decide (d ∈ ds)
      | none => false)) := Lib.hid (by
    rw [CF.out, Int.toNat_natCast, hds, how]
    dsimp only
    rw [if_neg h0])
  obtain ⟨fb, fo, D, cd, hF, hfbl, hfc, hfn⟩ := H.out.f t ds hds
  have HFN := Lib.hid (fun W' (hb : Below w.heap.size w W') => hfn.below hb)
  have HFC := Lib.hid (fun W' (hb : Below w.heap.size w W') => (hb.cell (p := ⟨fb, fo + t, none⟩) hfbl).trans hfc)
  have t0 : (0 : Int) ≤ (t : Int) := by omega
  have t1 : (t : Int) < (v.full.length : Int) := by omega
  have t2 : (t : Int) < (v.os.length : Int) := by omega
  obtain ⟨ob, oo, hC, hobl, o0, o1, o2, _⟩ := atO (H.out.s.o) how
  have HOC := Lib.hid (fun W' (hb : Below w.heap.size w W') => (hb.cell (p := ⟨ob, oo + t * 5 + 2, none⟩) hobl).trans o2)
  obtain ⟨pb, po, hP, hpbl, p0⟩ := atI H.out.p.cells HK.out
  have HPC := Lib.hid (fun W' (hb : Below w.heap.size w W') => (hb.cell (p := ⟨pb, po + k, none⟩) hpbl).trans p0)
  have HMV : Hid (∀ W', Below W1.heap.size W1 W' → (W'.cell? ⟨w.heap.size, 0, none⟩ = some (.slice v.A v.ns.length v.ca) ∧ W'.cell? ⟨w.heap.size, 1, none⟩ = some (.slice v.B v.ps.length v.cb) ∧ W'.cell? ⟨w.heap.size, 2, none⟩ = some (.slice (some ⟨ob, oo, none⟩) v.os.length v.cc)) ∧ W'.cell? ⟨w.heap.size, 3, none⟩ = some (.slice (some ⟨pb, po, none⟩) v.p.length v.cp) ∧ W'.cell? ⟨w.heap.size, 16, none⟩ = some (.slice (some ⟨fb, fo, none⟩) v.full.length v.cf) ∧ W'.cell? ⟨Qb, 0, none⟩ = some (.int .i64 (k : Int)) ∧ W'.cell? ⟨pb, po + k, none⟩ = some (.int .i64 n) ∧ W'.cell? ⟨ob, oo + t * 5 + 2, none⟩ = some (strV ow.topo)) := Lib.hid (fun W' hb => by
    have h1 := Q1.out.below hb Q1.out.lt
    have h2 := P1.out.below hb P1.out.lt
    have h3 := HB1.out.trans (hb.mono HB1.out.size)
    refine ⟨⟨Blk.cell h1 0, Blk.cell h1 1, ?_⟩, ?_, ?_, Blk.cell h2 0, HPC.out _ h3, HOC.out _ h3⟩
    · rw [← hC]; exact Blk.cell h1 2
    · rw [← hP]; exact Blk.cell h1 3
    · rw [← hF]; exact Blk.cell h1 16)
  have KD1 := Lib.hid (KD.out ow.topo)
  have HCC := Lib.hid hC
  clear hds how CF h0 hfn hfc o0 o1 o2 p0 KD hC hP hF
  obtain ⟨⟨m0, m1, m2⟩, m3, m16, q0, p0, o2⟩ := HMV.out _ (Below.refl _ _)
  have f0 := HFC.out _ HB1.out
  by_cases hd0 : ds = []
  · subst hd0
    have HE : Hid (R = false) := Lib.hid (by rw [CF2.out, if_pos rfl])
    clear CF2
    go_wp2
    go_ret
    exact ⟨La.retB HE.out.symm, HB1.out⟩
  have hdl : ¬ ds.length = 0 := fun e => hd0 (List.length_eq_zero_iff.1 e)
  have hdl1 : ((ds.length : Int) == 0) = false := by simpa using hdl
  have hdl2 : decide ((ds.length : Int) = 0) = false := decide_eq_false (by omega)
  have hdl3 : decide (ds.length = 0) = false := decide_eq_false hdl
  have CF3 : Hid (R = (match domE v.ns v.ps v.os n ow.topo with
      | some d => decide (d ∈ ds)
      | none => false)) := Lib.hid (by rw [CF2.out, if_neg hd0])
  clear CF2 hd0
  obtain ⟨de, hde⟩ : ∃ de, domE v.ns v.ps v.os n ow.topo = de := ⟨_, rfl⟩
  have HDB : Hid (∀ d, de = some d → d.length ≤ 9223372036854775807) := Lib.hid (fun d hd => by
    subst hd
    unfold domE at hde
    split at hde
    · exact dom_big H.out.s.n hde
    · cases hde)
  rw [hde] at CF3
  have KD2 : Hid (∀ W', Below w.heap.size w W' → Calls Tryz.prog 203 #[.agg #[.slice v.A v.ns.length v.ca, .slice v.B v.ps.length v.cb, .slice (some ⟨ob, oo, none⟩) v.os.length v.cc], .int .i64 n, strV ow.topo] W' fun e w' => e = .returned (.tuple #[strV (de.getD []), .bool de.isSome]) ∧ Below W'.heap.size W' w') := Lib.hid (fun W' hb => by
    have := KD1.out W' hb
    rw [hde] at this
    rw [← HCC.out]
    exact this)
  clear hde KD1
  go_upto_region 4 with fail
  clear m0 m1 m2 m3 m16 q0 p0 o2 f0 hdl hdl1 hdl2 hdl3
  have D0 : Hid (Below W1.heap.size W1 W1.drew) := Lib.hid (Below.refl _ W1).drew
  have T0 := HMV.out _ D0.out
  go_cut [6, 7] (fun u z wc => u = strV (de.getD []) ∧ z = .bool de.isSome ∧ Below W1.heap.size W1 wc)
  case first =>
    go_region_held3 (fun w' => (w'.cell? ⟨w.heap.size, 0, none⟩ = some (.slice v.A v.ns.length v.ca) ∧ w'.cell? ⟨w.heap.size, 1, none⟩ = some (.slice v.B v.ps.length v.cb) ∧ w'.cell? ⟨w.heap.size, 2, none⟩ = some (.slice (some ⟨ob, oo, none⟩) v.os.length v.cc)) ∧ w'.cell? ⟨w.heap.size, 3, none⟩ = some (.slice (some ⟨pb, po, none⟩) v.p.length v.cp) ∧ w'.cell? ⟨w.heap.size, 16, none⟩ = some (.slice (some ⟨fb, fo, none⟩) v.full.length v.cf) ∧ w'.cell? ⟨Qb, 0, none⟩ = some (.int .i64 (k : Int)) ∧ w'.cell? ⟨pb, po + k, none⟩ = some (.int .i64 n) ∧ w'.cell? ⟨ob, oo + t * 5 + 2, none⟩ = some (strV ow.topo))
      (first | (with_reducible exact T0) | (with_reducible exact T1))
      (first
        | (go_at_call 203
           with_reducible refine (KD2.out _ (HB1.out.trans (D0.out.mono HB1.out.size))).mono ?_
           rintro e wD ⟨rfl, hb⟩
           have D1 := Lib.hid (D0.out.trans (hb.mono D0.out.size))
           have T1 := HMV.out _ D1.out
           clear hb))
    all_goals
      (try go_wp2_with fail)
      go_meet
      exact ⟨by first | rfl | trivial, by first | rfl | trivial, D1.out⟩
  case' rest => obtain ⟨rfl, rfl, hb⟩ := hcut
  have HB2 : Hid (Below w.heap.size w wc) := Lib.hid (HB1.out.trans (hb.mono HB1.out.size))
  obtain ⟨_, _, m16, _, _, _⟩ := HMV.out _ hb
  have f0 := HFC.out _ HB2.out
  clear hb T0 D0 KD2
  cases de with
  | none =>
    have HE : Hid (R = false) := Lib.hid CF3.out
    clear CF3
    go_wp2
    go_ret
    exact ⟨La.retB HE.out.symm, HB2.out⟩
  | some d =>
    have KC := Lib.hid (contains_any D cd ds d wc (HFN.out _ HB2.out) (HDB.out d rfl))
    have HE : Hid (R = decide (d ∈ ds)) := Lib.hid CF3.out
    clear CF3
    go_wp2_with fail
    refine (KC.out).mono ?_
    rintro e W3 ⟨rfl, hb⟩
    have D := Lib.hid (HB2.out.trans (hb.mono HB2.out.size))
    clear hb
    go_wp2
    go_ret
    exact ⟨La.retB HE.out.symm, D.out⟩
end Go.Proofs.YticgcimcebdjlaaGreat

namespace Go.Proofs.YticgcimcebdjlaaGreat
open Go.RowKit Go.Maps

theorem which_row : (155 : TypeId) < Tryz.prog.types.size := of_decide_eq_true (by kernel_rfl)
theorem which_laid : laidOutB Tryz.prog = true := by kernel_rfl
theorem which_wide : (match Tryz.prog.underlying 155 with | some (.array _ _) | some (.struct _) => true | _ => false) = true := by rw [Tryz.underlying155]
set_option maxRecDepth 100000 in
theorem which_law : Keyed Tryz.prog 155 := Keyed.of_law (deep_law_laid which_laid (m := 2) (by omega) which_row (by kernel_rfl) which_wide)
theorem which_type : Tryz.prog.keyType 155 = true := by kernel_rfl
theorem which_cells : Tryz.prog.cellsOf 155 = 3 := by kernel_rfl
theorem int_cells1 : Tryz.prog.cellsOf 3 = 1 := by kernel_rfl
theorem which_lits (n : Nat) (cs : List Value) : Tryz.prog.keyLits (n + 1) 155 cs = (match Tryz.prog.underlying 155, cs with | some (.struct fs), cs => if cs.length = Tryz.prog.cellsOf 155 ∧ fs.all (·.name != "_") = true then (fs.toList.mapM fun f => Tryz.prog.keyLits n f.type ((cs.drop f.offset).take (Tryz.prog.cellsOf f.type))).map List.flatten else none | _, _ => none) := by
  rw [Tryz.underlying155]
  conv => lhs; unfold Program.keyLits
  rw [Tryz.underlying155]
theorem int_lits (n : Nat) (a : Int) (h : (Lit.int .i64 a).wf = true) : Tryz.prog.keyLits (n + 1) 3 [.int .i64 a] = some [.int .i64 a] := by
  unfold Program.keyLits
  rw [Tryz.underlying3]
  simp [h]

/-- What a clause is about, as a value, as a key's datum. -/
def keyW (a b c : Int) : Value := .agg #[.int .i64 a, .int .i64 b, .int .i64 c]
def litW (a b c : Int) : Lit := .string (keyBytes [.int .i64 a, .int .i64 b, .int .i64 c])
def KeyOk (a b c : Int) : Prop := (0 ≤ a ∧ a ≤ 1000000) ∧ (0 ≤ b ∧ b ≤ 1000000) ∧ (0 ≤ c ∧ c ≤ 1000000)
theorem keyOf_w {a b c : Int} (h : KeyOk a b c) : keyOf Tryz.prog 155 (keyW a b c) = some (litW a b c) := by
  obtain ⟨⟨a0, a1⟩, ⟨b0, b1⟩, c0, c1⟩ := h
  have ha : (Lit.int .i64 a).wf = true := WalkArith.wf_i64 (by omega)
  have hb : (Lit.int .i64 b).wf = true := WalkArith.wf_i64 (by omega)
  have hc : (Lit.int .i64 c).wf = true := WalkArith.wf_i64 (by omega)
  clear a0 a1 b0 b1 c0 c1
  obtain ⟨n, hn⟩ : ∃ n, Tryz.prog.types.size + 1 = n + 1 + 1 := by
    obtain ⟨m, hm⟩ := Nat.exists_eq_succ_of_ne_zero (Nat.ne_of_gt (Nat.lt_of_le_of_lt (Nat.zero_le _) which_row))
    exact ⟨m, by rw [hm]⟩
  have hl : Tryz.prog.keyLits (n + 1 + 1) 155 [.int .i64 a, .int .i64 b, .int .i64 c] = some [.int .i64 a, .int .i64 b, .int .i64 c] := by
    rw [which_lits, Tryz.underlying155]
    simp [which_cells, int_cells1, int_lits n _ ha, int_lits n _ hb, int_lits n _ hc]
  have hf : (Value.agg #[.int .i64 a, .int .i64 b, .int .i64 c]).formed Tryz.prog 155 = true := by simp [Value.formed, Tryz.underlying155, which_cells]
  unfold keyOf keyW
  rw [Tryz.underlying155]
  dsimp only
  rw [which_type, hf, hn]
  show (if (true && true) = true then Option.map (fun ls => Lit.string (keyBytes ls)) (Tryz.prog.keyLits (n + 1 + 1) 155 [.int .i64 a, .int .i64 b, .int .i64 c]) else none) = _
  rw [hl]
  rfl
theorem litW_key {a b c : Int} (h : KeyOk a b c) : WideAt.IsKeyLit (litW a b c) := which_law.key (keyOf_w h)
/-- How a number in the map reads. -/
def intE (v : Value) : Option (DataW Unit × List MemPlace) := match v with
  | .int .i64 a => some (.lit (.int .i64 a), [])
  | _ => none
def OkC (c : ClT) : Prop := KeyOk c.1 c.2.1 c.2.2.1
def litC (c : ClT) : Lit := litW c.1 c.2.1 c.2.2.1
def putW (D : DataW Unit) (c : ClT) : DataW Unit := D.put (litC c) (.lit (.int .i64 c.2.2.2))
/-- The map of a list of clauses. -/
def mapW (l : List ClT) : DataW Unit := l.foldl putW (.map [])
theorem mapW_snoc (l : List ClT) (c : ClT) : mapW (l ++ [c]) = putW (mapW l) c := by simp [mapW, List.foldl_append]
theorem fold_has_keep {k : Lit} (hk : WideAt.IsKeyLit k) : ∀ (l : List ClT) (D : DataW Unit), IsMap D → (has D k = true ∨ ∃ c ∈ l, k = litC c) → has (l.foldl putW D) k = true
  | [], _, _, h => by
    rcases h with h | ⟨c, hc, _⟩
    · exact h
    · cases hc
  | c :: t, D, hD, h => by
    rw [List.foldl_cons]
    refine fold_has_keep hk t _ (hD.put _ _) ?_
    by_cases e : k = litC c
    · left
      unfold putW
      rw [← e]
      exact has_put_same hD hk _
    · rcases h with h | ⟨d, hd, e'⟩
      · left
        unfold putW
        rw [has_put_other e]
        exact h
      · rcases List.mem_cons.1 hd with rfl | hd
        · exact absurd e' e
        · exact .inr ⟨d, hd, e'⟩
theorem mapW_has {l : List ClT} {c : ClT} (hc : c ∈ l) (ho : OkC c) : has (mapW l) (litC c) = true := fold_has_keep (litW_key ho) l _ isMap_empty (.inr ⟨c, hc, rfl⟩)
theorem mapW_size {l : List ClT} (ho : ∀ c ∈ l, OkC c) : size (mapW l) = 0 ↔ l = [] := by
  constructor
  · intro h
    cases l with
    | nil => rfl
    | cons c t =>
      have h1 := mapW_has (l := c :: t) (c := c) (by simp) (ho c (by simp))
      generalize mapW (c :: t) = D at h h1
      cases D <;> try cases h1
      rename_i es
      have h2 : es = [] := List.length_eq_zero_iff.1 h
      subst h2
      cases h1
  · rintro rfl
    rfl

/-- What each clause is about may be a key. -/
theorem all8_keys {ns : List NodeD} {ps : List PodD} {os : List OwnD} {p : List Int} (hn : ns.length ≤ 1000) (ho : os.length ≤ 1000) (hp : p.length ≤ 1000) : ∀ c ∈ all8 ns ps os p, OkC c := by
  have hB : ∀ c ∈ capsU ns ps p ns.length, 0 ≤ c.2.2.1 ∧ c.2.2.1 ≤ 5 := by
    have : ∀ k, ∀ c ∈ capsU ns ps p k, 0 ≤ c.2.2.1 ∧ c.2.2.1 ≤ 5 := by
      intro k
      induction k with
      | zero => intro c hc; simp [capsU] at hc
      | succ k ih =>
        intro c hc
        rw [capsU, List.mem_append] at hc
        rcases hc with hc | hc
        · exact ih c hc
        · split at hc
          · obtain ⟨q, hq, rfl⟩ := List.mem_map.1 hc
            have := List.mem_range.1 hq
            show (0 : Int) ≤ (q : Int) ∧ (q : Int) ≤ 5
            omega
          · simp at hc
    exact this _
  have hP : ∀ kind k, ∀ c ∈ podsU ns ps os p kind k, c.2.2.1 = 0 := by
    intro kind k
    induction k with
    | zero => intro c hc; simp [podsU] at hc
    | succ k ih =>
      intro c hc
      rw [podsU, List.mem_append] at hc
      rcases hc with hc | hc
      · exact ih c hc
      · unfold podR at hc
        split at hc
        · simp at hc
          subst hc
          rfl
        · simp at hc
  have hK : ∀ k, ∀ c ∈ kindsU ns ps os p k, c.2.2.1 = 0 := by
    intro k
    induction k with
    | zero => intro c hc; simp [kindsU] at hc
    | succ k ih =>
      intro c hc
      rw [kindsU, List.mem_append] at hc
      rcases hc with hc | hc
      · exact ih c hc
      · exact hP _ _ c hc
  have hS : ∀ k, ∀ c ∈ spreadsU ns ps os p k, c.2.2.1 = 0 := by
    intro k
    induction k with
    | zero => intro c hc; simp [spreadsU] at hc
    | succ k ih =>
      intro c hc
      rw [spreadsU, List.mem_append] at hc
      rcases hc with hc | hc
      · exact ih c hc
      · unfold spreadR at hc
        split at hc
        · split at hc
          · simp at hc
          · simp at hc
            subst hc
            rfl
        · simp at hc
  have hM : ∀ k, ∀ c ∈ minsU ns ps os p k, c.2.2.1 = 0 := by
    intro k
    induction k with
    | zero => intro c hc; simp [minsU] at hc
    | succ k ih =>
      intro c hc
      rw [minsU, List.mem_append] at hc
      rcases hc with hc | hc
      · exact ih c hc
      · unfold minR at hc
        split at hc
        · simp at hc
          subst hc
          rfl
        · simp at hc
  intro c hc
  unfold OkC KeyOk
  unfold all8 at hc
  split at hc
  · unfold allU at hc
    simp only [List.mem_append] at hc
    rcases hc with ((hc | hc) | hc) | hc
    · have := caps_kind ns ps p _ c hc
      have := hB c hc
      omega
    · have := kinds_kind ns ps os p _ c hc
      have := hK _ c hc
      omega
    · have := spreads_kind ns ps os p _ c hc
      have := hS _ c hc
      omega
    · have := mins_kind ns ps os p _ c hc
      have := hM _ c hc
      omega
  · simp at hc
theorem all8_fine {w : World} {A B C : Option Addr} {ca cb cc : Nat} {ns : List NodeD} {ps : List PodD} {os : List OwnD} (h : SnapAt w A B C ca cb cc ns ps os) (p : List Int) : (∀ c ∈ all8 ns ps os p, OkC c) ∧ (all8 ns ps os p).length ≤ 12000 := by
  by_cases hE : placeE ns ps os p = 0
  · have hp := placeE_len hE
    have h1 := h.ln
    have h2 := h.lp
    have h3 := h.lo
    exact ⟨all8_keys h1 h3 (by omega), Nat.le_trans (all8_len ns ps os p) (by omega)⟩
  · unfold all8
    rw [if_neg hE]
    simp
end Go.Proofs.YticgcimcebdjlaaGreat

namespace Go.Proofs.YticgcimcebdjlaaGreat
open Go.RowKit Go.Maps Go.Shelf

/-- A store into the map. -/
theorem map_run {w : World} {b n : Nat} {D : DataW Unit} (hown : w.ownsMap Tryz.prog 155 intE b n D) (hn : n < maxLen) {key : Value} {kl : Lit} (hkey : keyOf Tryz.prog 155 key = some kl) (y : Int) :
    ∃ w', (Instr.mapUpdate 104 (.map (some b)) key (.int .i64 y)).run Tryz.prog w = .ok () w' ∧ w'.ownsMap Tryz.prog 155 intE b (n + 1) (D.put kl (.lit (.int .i64 y))) ∧ w.grownBy w' (some b) :=
  hown.update which_law Tryz.underlying104 hn hkey (val := .int .i64 y) (d := .lit (.int .i64 y)) (ps := []) rfl
theorem blk_grown {w w' : World} {b g : Nat} {cs : Array Value} {t : TypeId} (h : Blk w g cs t) (hg : w.grownBy w' (some b)) (hne : g ≠ b) : Blk w' g cs t := (hg.block g h.lt (fun e => hne (Option.some.inj e))).trans h
theorem own_mapB {w w' : World} {b n : Nat} {D : DataW Unit} (h : w.ownsMap Tryz.prog 155 intE b n D) (hb : Below w.heap.size w w') : w'.ownsMap Tryz.prog 155 intE b n D := h.kept (grown_of_below hb none) (by simp)

set_option maxRecDepth 100000 in
set_option maxHeartbeats 1000000 in
theorem whichOf_any (c : ClT) (w : World) : Calls Tryz.prog 93 #[clV c] w fun e w' => e = .returned (keyW c.1 c.2.1 c.2.2.1) ∧ Below w.heap.size w w' := by
  have B0 : Hid (Below w.heap.size w ((w.alloc (.cells #[.int .i64 c.1, .int .i64 c.2.1, .int .i64 c.2.2.1, .int .i64 c.2.2.2] 50)).alloc (.cells #[.int .i64 c.1, .int .i64 c.2.1, .int .i64 c.2.2.1] 155))) := Lib.hid (Qu.below2 w _ _)
  have Q0 : Hid (Blk ((w.alloc (.cells #[.int .i64 c.1, .int .i64 c.2.1, .int .i64 c.2.2.1, .int .i64 c.2.2.2] 50)).alloc (.cells #[.int .i64 c.1, .int .i64 c.2.1, .int .i64 c.2.2.1] 155)) (w.heap.size + 1) #[.int .i64 c.1, .int .i64 c.2.1, .int .i64 c.2.2.1] 155) := Lib.hid (blk2 w _ _ _)
  go_enter Tryz.func93, Tryz.ntmps93
  go_wp2_with fail
  refine bodyPost_row1 Tryz.results93 (w.heap.size + 1) _ _ _ _ (by rfl) (by rfl) Q0.out Tryz.underlying155 rfl (by kernel_rfl) ?_
  exact ⟨rfl, B0.out⟩

/-- The map that brokenBy hands on. -/
def MapAt (B0 : Nat) (w : World) (E : Int) (l : List ClT) (m : Option Nat) : Prop := (E ≠ 0 → m = none) ∧ (E = 0 → ∃ b, m = some b ∧ B0 ≤ b ∧ w.ownsMap Tryz.prog 155 intE b l.length (mapW (l.filter brokC)))

set_option maxRecDepth 100000 in
set_option maxHeartbeats 8000000 in
theorem brokenBy_any (A B C P : Option Addr) (ca cb cc cp : Nat) (ns : List NodeD) (ps : List PodD) (os : List OwnD) (p : List Int) (hk : ∀ c ∈ all8 ns ps os p, OkC c) (hl : (all8 ns ps os p).length ≤ 12000) (w : World) (h : SnapAt w A B C ca cb cc ns ps os) (hp : IntsAt w P cp p) :
    Calls Tryz.prog 53 #[snapV A B C ca cb cc ns ps os, .slice P p.length cp] w fun e w' => ∃ m, e = .returned (.tuple #[.map m, .int .i64 (placeE ns ps os p)]) ∧ MapAt w.heap.size w' (placeE ns ps os p) (all8 ns ps os p) m ∧ Below w.heap.size w w' := by
  have B0 : Hid (Below w.heap.size w (w.alloc (.cells (snapC A B C ca cb cc ns ps os) 26))) := Lib.hid (below1 w _)
  have HA := Lib.hid (allP_any A B C P ca cb cc cp ns ps os p _ (h.below B0.out) (hp.below B0.out))
  have hmm := @run_makeMap Tryz.prog
  generalize all8 ns ps os p = l at HA hl hk ⊢
  generalize placeE ns ps os p = E at HA ⊢
  clear h hp
  go_enter Tryz.func53, Tryz.ntmps53
  go_wp2_with fail
  refine (HA.out).mono ?_
  rintro e w1 ⟨v, rfl, ho, hb⟩
  obtain ⟨G, cg, rfl, _⟩ := La.own_slice ho
  have O1 := Lib.hid (La.own_slat ho)
  have B1 := Lib.hid (B0.out.trans (hb.mono B0.out.size))
  clear ho hb HA B0
  by_cases hE : E = 0
  case neg =>
    have hne : (E != 0) = true := by simpa using hE
    have HE := Lib.hid hE
    clear hE
    go_wp2
    go_ret2
    exact ⟨none, rfl, ⟨fun _ => rfl, fun h => absurd h HE.out⟩, B1.out⟩
  subst hE
  go_wp2_with fail
  go_loopw [23] (fun i wr => ∃ k : Nat, k ≤ l.length ∧ i = .int .i64 k ∧ wr.ownsMap Tryz.prog 155 intE w1.heap.size k (mapW ((l.take k).filter brokC)) ∧ Below w1.heap.size w1 wr) (fun i _ => l.length - (intOf i).toNat)
  case atStart => exact ⟨0, by omega, rfl, World.ownsMap_made _ _ _ _, (Below.refl _ _).alloc (Nat.le_refl _) _⟩
  case round =>
    obtain ⟨k, hk9, rfl, ho, hb⟩ := hrel
    have HO := Lib.hid ho
    have HB := Lib.hid hb
    clear ho hb
    by_cases hlt : k < l.length
    case neg =>
      obtain rfl : k = l.length := by omega
      rw [List.take_length] at HO
      go_wp2
      go_ret2
      exact ⟨some w1.heap.size, rfl, ⟨fun h => absurd rfl h, fun _ => ⟨_, rfl, B1.out.size, HO.out⟩⟩, B1.out.trans (HB.out.mono B1.out.size)⟩
    obtain ⟨y, hy⟩ : ∃ y, l[k]? = some y := ⟨l[k], List.getElem?_eq_getElem hlt⟩
    have Hok := Lib.hid (hk y (List.mem_of_getElem? hy))
    obtain ⟨g, o, hG, hbl, c0, c1, c2, c3⟩ := atC (La.SlAt.below O1.out HB.out) hy
    subst hG
    have k0 : (0 : Int) ≤ (k : Int) := by omega
    have k1 : (k : Int) < (l.length : Int) := by omega
    have HF := Lib.hid (filt_snoc brokC hy)
    have Hy : Hid (brokC y = decide (0 < y.2.2.2)) := Lib.hid rfl
    clear hy
    generalize (l.take k).filter brokC = M at HO HF
    go_upto_region 8 with fail
    have T8 : Hid (Blk (wr.alloc (.cells #[.int .i64 y.1, .int .i64 y.2.1, .int .i64 y.2.2.1, .int .i64 y.2.2.2] 50)) wr.heap.size #[.int .i64 y.1, .int .i64 y.2.1, .int .i64 y.2.2.1, .int .i64 y.2.2.2] 50) := Lib.hid (Blk.new wr _ _)
    have R8 : Hid (Below wr.heap.size wr (wr.alloc (.cells #[.int .i64 y.1, .int .i64 y.2.1, .int .i64 y.2.2.1, .int .i64 y.2.2.2] 50))) := Lib.hid (below1 wr _)
    try change Code.wp _ _ _ _ (wr.alloc (.cells #[.int .i64 y.1, .int .i64 y.2.1, .int .i64 y.2.2.1, .int .i64 y.2.2.2] 50))
    generalize (wr.alloc (.cells #[.int .i64 y.1, .int .i64 y.2.1, .int .i64 y.2.2.1, .int .i64 y.2.2.2] 50)) = W8 at T8 R8 ⊢
    have HO8 := Lib.hid (own_mapB HO.out R8.out)
    have HB8 := Lib.hid (HB.out.trans (R8.out.mono HB.out.size))
    clear c0 c1 c2 c3
    have HC := Lib.hid (fun W' (hb : Below W8.heap.size W8 W') => (show W'.cell? ⟨wr.heap.size, 0, none⟩ = some (.int .i64 y.1) ∧ W'.cell? ⟨wr.heap.size, 1, none⟩ = some (.int .i64 y.2.1) ∧ W'.cell? ⟨wr.heap.size, 2, none⟩ = some (.int .i64 y.2.2.1) ∧ W'.cell? ⟨wr.heap.size, 3, none⟩ = some (.int .i64 y.2.2.2) from ⟨Blk.cell (T8.out.below hb T8.out.lt) 0, Blk.cell (T8.out.below hb T8.out.lt) 1, Blk.cell (T8.out.below hb T8.out.lt) 2, Blk.cell (T8.out.below hb T8.out.lt) 3⟩))
    have HOm := Lib.hid (fun W' (hb : Below W8.heap.size W8 W') => own_mapB HO8.out hb)
    have HBm := Lib.hid (fun W' (hb : Below W8.heap.size W8 W') => HB8.out.trans (hb.mono HB8.out.size))
    have HTm := Lib.hid (fun W' (hb : Below W8.heap.size W8 W') => T8.out.below hb T8.out.lt)
    have hne : Hid (wr.heap.size ≠ w1.heap.size) := Lib.hid (Nat.ne_of_gt HO.out.lt)
    obtain ⟨c0, c1, c2, c3⟩ := HC.out _ (Below.refl _ W8)
    clear R8 HO HB T8
    by_cases h1 : 0 < y.2.2.2
    case neg =>
      have HE : Hid ((l.take (k + 1)).filter brokC = M) := Lib.hid (by rw [HF.out, Hy.out, decide_eq_false h1]; simp)
      clear HF Hy
      go_wp2_with fail
      go_roundw
      case rel => exact ⟨k + 1, by omega, by go_num, by rw [HE.out]; exact HO8.out.mono (by omega), HB8.out⟩
      case measure => simp [intOf]; omega
    have HE : Hid (mapW ((l.take (k + 1)).filter brokC) = (mapW M).put (litW y.1 y.2.1 y.2.2.1) (.lit (.int .i64 y.2.2.2))) := Lib.hid (by rw [HF.out, Hy.out, decide_eq_true h1, if_pos rfl, mapW_snoc]; rfl)
    clear HF Hy
    have KW := Lib.hid (fun W' => whichOf_any y W')
    have hkn : k < maxLen := by unfold maxLen; omega
    have HKO := Lib.hid (keyOf_w Hok.out)
    go_upto_region 9 with fail
    have HD : Hid (Below W8.heap.size W8 W8.drew) := Lib.hid ((Below.refl _ W8).drew)
    clear c0 c1 c2 c3
    obtain ⟨c0, c1, c2, c3⟩ := HC.out _ HD.out
    go_region_held3 (fun w' => w'.cell? ⟨wr.heap.size, 0, none⟩ = some (.int .i64 y.1) ∧ w'.cell? ⟨wr.heap.size, 1, none⟩ = some (.int .i64 y.2.1) ∧ w'.cell? ⟨wr.heap.size, 2, none⟩ = some (.int .i64 y.2.2.1) ∧ w'.cell? ⟨wr.heap.size, 3, none⟩ = some (.int .i64 y.2.2.2))
      (first | exact ⟨c0, c1, c2, c3⟩ | exact ⟨y0, y1, y2, y3⟩ | exact ⟨x0, x1, x2, x3⟩)
      (first
        | (go_at_call 93
           refine (KW.out _).mono ?_
           rintro e wA ⟨rfl, hbA⟩
           have HDA := Lib.hid (HD.out.trans (hbA.mono HD.out.size))
           obtain ⟨y0, y1, y2, y3⟩ := HC.out _ HDA.out
           obtain ⟨wB, hrunB, hownB, hgB⟩ := map_run (HOm.out _ HDA.out) hkn HKO.out y.2.2.2
           have TB := Lib.hid (blk_grown (HTm.out _ HDA.out) hgB hne.out)
           have x0 : wB.cell? ⟨wr.heap.size, 0, none⟩ = some (.int .i64 y.1) := Blk.cell TB.out 0
           have x1 : wB.cell? ⟨wr.heap.size, 1, none⟩ = some (.int .i64 y.2.1) := Blk.cell TB.out 1
           have x2 : wB.cell? ⟨wr.heap.size, 2, none⟩ = some (.int .i64 y.2.2.1) := Blk.cell TB.out 2
           have x3 : wB.cell? ⟨wr.heap.size, 3, none⟩ = some (.int .i64 y.2.2.2) := Blk.cell TB.out 3
           clear hbA))
    all_goals
      have D9 := Lib.hid ((HBm.out _ HDA.out).grown hgB (HBm.out _ HDA.out).size (fun j hj => by cases hj; exact Nat.le_refl _))
      have P9 := Lib.hid hownB
      clear hownB hgB
      (try go_wp2_with fail)
      go_roundw
      case rel => exact ⟨k + 1, by omega, by go_num, by rw [HE.out]; exact P9.out, D9.out⟩
      case measure => simp [intOf]; omega
end Go.Proofs.YticgcimcebdjlaaGreat

namespace Go.Proofs.YticgcimcebdjlaaGreat
open Go.RowKit Go.Maps Go.Shelf

theorem broken_keys {l : List ClT} (h : ∀ c ∈ l, OkC c) : ∀ c ∈ l.filter brokC, OkC c := fun c hc => h c (List.mem_filter.1 hc).1
/-- What Safe tells. -/
def safeB (ns : List NodeD) (ps : List PodD) (os : List OwnD) (p : List Int) : Bool := decide (placeE ns ps os p = 0) && ((all8 ns ps os p).filter brokC).isEmpty
set_option maxRecDepth 100000 in
set_option maxHeartbeats 4000000 in
theorem safe_any (A B C P : Option Addr) (ca cb cc cp : Nat) (ns : List NodeD) (ps : List PodD) (os : List OwnD) (p : List Int) (hk : ∀ c ∈ all8 ns ps os p, OkC c) (hl : (all8 ns ps os p).length ≤ 12000) (w : World) (h : SnapAt w A B C ca cb cc ns ps os) (hp : IntsAt w P cp p) :
    Calls Tryz.prog 18 #[snapV A B C ca cb cc ns ps os, .slice P p.length cp] w fun e w' => e = .returned (.tuple #[.bool (safeB ns ps os p), .int .i64 (placeE ns ps os p)]) ∧ Below w.heap.size w w' := by
  have B0 : Hid (Below w.heap.size w (w.alloc (.cells (snapC A B C ca cb cc ns ps os) 26))) := Lib.hid (below1 w _)
  have HA := Lib.hid (brokenBy_any A B C P ca cb cc cp ns ps os p hk hl _ (h.below B0.out) (hp.below B0.out))
  have HK := Lib.hid hk
  have HS : Hid (safeB ns ps os p = (decide (placeE ns ps os p = 0) && ((all8 ns ps os p).filter brokC).isEmpty)) := Lib.hid rfl
  generalize safeB ns ps os p = R at HS ⊢
  generalize all8 ns ps os p = l at HA HK HS
  generalize placeE ns ps os p = E at HA HS ⊢
  clear h hp hk hl
  go_enter Tryz.func18, Tryz.ntmps18
  go_wp2_with fail
  refine (HA.out).mono ?_
  rintro e w1 ⟨m, rfl, hm, hb⟩
  have HM := Lib.hid hm
  have B1 := Lib.hid (B0.out.trans (hb.mono B0.out.size))
  clear hm hb HA B0
  by_cases hE : E = 0
  case neg =>
    have hne : (E == 0) = false := by simpa using hE
    have hnd : decide (E = 0) = false := decide_eq_false hE
    have hR : R = false := by rw [HS.out, hnd]; rfl
    clear hE HS
    go_wp2
    go_ret2
    subst hR
    exact ⟨rfl, B1.out⟩
  subst hE
  obtain ⟨mb, rfl, _, hmo⟩ := HM.out.2 rfl
  have hln := fun ty => hmo.len Tryz.underlying104 ty
  have hsz := mapW_size (broken_keys HK.out)
  have HSZ : Hid (R = decide (size (mapW (l.filter brokC)) = 0)) := Lib.hid (by
    rw [HS.out]
    by_cases h0 : l.filter brokC = []
    · rw [decide_eq_true (hsz.2 h0), h0]
      rfl
    · rw [decide_eq_false (fun h => h0 (hsz.1 h))]
      cases hf : l.filter brokC with
      | nil => exact absurd hf h0
      | cons a t => rfl)
  clear hsz HS HM hmo
  generalize size (mapW (l.filter brokC)) = z at HSZ hln
  by_cases hz : z = 0
  · have hz1 : (((z : Nat) : Int) == 0) = true := by simpa using hz
    have hz2 : decide (((z : Nat) : Int) = 0) = true := decide_eq_true (by omega)
    have hR : R = true := by rw [HSZ.out]; exact decide_eq_true hz
    clear HSZ hz
    go_wp2
    go_ret2
    subst hR
    exact ⟨rfl, B1.out⟩
  · have hz1 : (((z : Nat) : Int) == 0) = false := by simpa using hz
    have hz2 : decide (((z : Nat) : Int) = 0) = false := decide_eq_false (by omega)
    have hR : R = false := by rw [HSZ.out]; exact decide_eq_false hz
    clear HSZ hz
    go_wp2
    go_ret2
    subst hR
    exact ⟨rfl, B1.out⟩

theorem safe_at (A B C P : Option Addr) (ca cb cc cp : Nat) (ns : List NodeD) (ps : List PodD) (os : List OwnD) (p : List Int) (w : World) (h : SnapAt w A B C ca cb cc ns ps os) (hp : IntsAt w P cp p) :
    Calls Tryz.prog 18 #[snapV A B C ca cb cc ns ps os, .slice P p.length cp] w fun e w' => e = .returned (.tuple #[.bool (safeB ns ps os p), .int .i64 (placeE ns ps os p)]) ∧ Below w.heap.size w w' :=
  safe_any A B C P ca cb cc cp ns ps os p (all8_fine h p).1 (all8_fine h p).2 w h hp
end Go.Proofs.YticgcimcebdjlaaGreat

namespace Go.Proofs.YticgcimcebdjlaaGreat
open Go.RowKit Go.Maps

/-- Whether pod k is crowded where it is. -/
def crP (ns : List NodeD) (ps : List PodD) (os : List OwnD) (p : List Int) (k : Nat) : Bool := crowdF ns ps os (fullL ns ps os p ((all8 ns ps os p).filter brokC)) k ((p[k]?).getD 0)
theorem crowdOk (A B C P G : Option Addr) (ca cb cc cp cg : Nat) (ns : List NodeD) (ps : List PodD) (os : List OwnD) (p : List Int) (g : Pol) : CrowdOk A B C P G ca cb cc cp cg ns ps os p g (crP ns ps os p) := by
  intro _ K X Y F ck cx cy cf k n W' hk _ h
  have e : crP ns ps os p k = crowdF ns ps os (fullL ns ps os p ((all8 ns ps os p).filter brokC)) k n := by
    unfold crP
    rw [hk]
    rfl
  rw [e]
  exact crowd_any (vwMk A B C P G ca cb cc cp cg ns ps os p g K X Y F ck cx cy cf) k n W' h hk (fullL_len _ _ _ _ _)
/-- One that is crowded has an owner whose spread is broken. -/
theorem crowd_spread {ns : List NodeD} {ps : List PodD} {os : List OwnD} {p : List Int} {l : List ClT} {k : Nat} {n : Int} (h : crowdF ns ps os (fullL ns ps os p l) k n = true) : l.any (fun c => decide (c.1 = 7)) = true := by
  unfold crowdF at h
  split at h
  · rename_i x hx
    split at h
    · rename_i ds ow hds how
      split at h
      · cases h
      · split at h
        · cases h
        · rename_i hne
          have hlt : (idxF x.owner (os.map (·.name))).toNat < os.length := (List.getElem?_eq_some_iff.1 how).1
          rw [fullL_at _ _ _ _ _ hlt] at hds
          cases hds
          split at hne
          · rename_i ha
            obtain ⟨c, hc, hd⟩ := List.any_eq_true.1 ha
            exact List.any_eq_true.2 ⟨c, hc, decide_eq_true (of_decide_eq_true hd).1⟩
          · exact absurd rfl hne
    · cases h
  · cases h
/-- A policy that says what is on, and nothing else. -/
def onG (x : Int) : Pol := { l0 := 0, l1 := 0, h0 := 0, h1 := 0, on := x, drain := [], mx := 0, tr := 0, rb := false }
theorem onG_may {x : Int} (h0 : 0 ≤ x) (h1 : x < 16) : checkG (onG x) = 0 := by
  have e : polB (onG x) = true := by
    unfold polB sharesB upB drainB onG
    simp only [Bool.and_eq_true, decide_eq_true_eq]
    refine ⟨⟨⟨⟨⟨⟨⟨?_, ?_⟩, ?_, ?_⟩, ⟨?_, ?_⟩, ?_, ?_⟩, ?_, ?_⟩, ?_, ?_⟩, ?_, ?_⟩, ?_, ?_⟩ <;> first | omega | decide | simp
  unfold checkG
  rw [if_pos e]
theorem high_none {ns : List NodeD} {ps : List PodD} {os : List OwnD} {p : List Int} (x n : Int) : (highF ns ps os p (onG x)).contains n = false := by
  have e : ∀ k, thatU ns (highB ns ps p (onG x)) k = [] := by
    intro k
    induction k with
    | zero => rfl
    | succ k ih =>
      rw [thatU, ih]
      have : highB ns ps p (onG x) k = false := by
        unfold highB onG
        simp
      rw [this]
      simp
  unfold highF
  split
  · unfold pickF
    split
    · rw [e]
      rfl
    · rfl
  · rfl
theorem on_bits (x : Int) (h0 : 0 ≤ x) (h1 : x < 16) : onB x 0 = true ∧ onB x 16 = false ∧ onB x 4 = decide (0 < bits BinOp.and IntKind.i64 x 4) ∧ onB x 2 = decide (0 < bits BinOp.and IntKind.i64 x 2) ∧ onB x 1 = decide (0 < bits BinOp.and IntKind.i64 x 1) ∧ onB x 8 = !decide (bits BinOp.and IntKind.i64 x 8 = 0) := by
  have h : ∀ m : Fin 16, onB (m.val : Int) 0 = true ∧ onB (m.val : Int) 16 = false ∧ onB (m.val : Int) 4 = decide (0 < bits BinOp.and IntKind.i64 (m.val : Int) 4) ∧ onB (m.val : Int) 2 = decide (0 < bits BinOp.and IntKind.i64 (m.val : Int) 2) ∧ onB (m.val : Int) 1 = decide (0 < bits BinOp.and IntKind.i64 (m.val : Int) 1) ∧ onB (m.val : Int) 8 = !decide (bits BinOp.and IntKind.i64 (m.val : Int) 8 = 0) := by decide
  have := h ⟨x.toNat, by omega⟩
  rwa [show ((x.toNat : Nat) : Int) = x by omega] at this
/-- What is told of a pod on node n, by such a policy. -/
theorem on_why {v : VwD} {k : Nat} {n : Int} {cr : Bool} {x : Int} (hd : v.g.drain = []) (ho : v.g.on = x) (h0 : 0 ≤ x) (h1 : x < 16) (hh : v.hs.contains n = false) : firstD (reasL v k n cr) = if v.l.any (podCD (k : Int) [2]) then 2 else if onB x 4 && v.l.any (podCD (k : Int) [3]) then 2 else if onB x 2 && v.l.any (podCD (k : Int) [4, 5]) then 3 else if onB x 1 && v.l.any (podCD (k : Int) [6]) then 4 else if onB x 8 && cr then 5 else 0 := by
  obtain ⟨e0, e16, _⟩ := on_bits x h0 h1
  unfold reasL
  rw [hd, ho, e0, e16, hh]
  simp only [Bool.true_and, Bool.false_and, firstD]
  simp
/-- Is a clause looked for by such a policy? -/
def lookB (x : Int) (c : ClT) : Bool := decide (c.1 = 2) || (decide (c.1 = 3) && onB x 4) || (decide (c.1 = 4 ∨ c.1 = 5) && onB x 2) || (decide (c.1 = 6) && onB x 1)
/-- Is a clause of pod k broken that is looked for? -/
def wrB (x : Int) (l : List ClT) (k : Nat) : Bool := l.any (fun c => lookB x c && decide (c.2.1 = (k : Int)))
def spB (l : List ClT) : Bool := l.any (fun c => decide (c.1 = 7))
theorem wrB_is (x : Int) (l : List ClT) (k : Nat) : wrB x l k = (l.any (podCD (k : Int) [2]) || (onB x 4 && l.any (podCD (k : Int) [3])) || (onB x 2 && l.any (podCD (k : Int) [4, 5])) || (onB x 1 && l.any (podCD (k : Int) [6]))) := by
  rw [Bool.eq_iff_iff]
  unfold wrB lookB podCD
  generalize onB x 4 = a
  generalize onB x 2 = b
  generalize onB x 1 = d
  simp only [Bool.or_eq_true, Bool.and_eq_true, List.any_eq_true, decide_eq_true_eq, List.contains_cons, List.contains_nil, Bool.or_false, beq_iff_eq]
  constructor
  · rintro ⟨c, hc, ((h | ⟨h, ha⟩) | ⟨h, hb⟩) | ⟨h, hd⟩, hk⟩
    · exact .inl (.inl (.inl ⟨c, hc, hk, h⟩))
    · exact .inl (.inl (.inr ⟨ha, c, hc, hk, h⟩))
    · exact .inl (.inr ⟨hb, c, hc, hk, h⟩)
    · exact .inr ⟨hd, c, hc, hk, h⟩
  · rintro (((⟨c, hc, hk, h⟩ | ⟨ha, c, hc, hk, h⟩) | ⟨hb, c, hc, hk, h⟩) | ⟨hd, c, hc, hk, h⟩)
    · exact ⟨c, hc, .inl (.inl (.inl h)), hk⟩
    · exact ⟨c, hc, .inl (.inl (.inr ⟨h, ha⟩)), hk⟩
    · exact ⟨c, hc, .inl (.inr ⟨h, hb⟩), hk⟩
    · exact ⟨c, hc, .inr ⟨h, hd⟩, hk⟩
/-- Where one is wrong, it is told; where none is, only one that is crowded. -/
theorem on_told {ns : List NodeD} {ps : List PodD} {os : List OwnD} {p : List Int} {x : Int} (hE : placeE ns ps os p = 0) (h0 : 0 ≤ x) (h1 : x < 16) {k : Nat} (hk : k < p.length) :
    (wrB x ((all8 ns ps os p).filter brokC) k = true ∧ whyF ns ps os p (onG x) (crP ns ps os p) (k : Int) ≠ 0) ∨ (wrB x ((all8 ns ps os p).filter brokC) k = false ∧ (whyF ns ps os p (onG x) (crP ns ps os p) (k : Int) = 0 ∨ (whyF ns ps os p (onG x) (crP ns ps os p) (k : Int) = 5 ∧ spB ((all8 ns ps os p).filter brokC) = true ∧ onB x 8 = true))) := by
  obtain ⟨n, hn⟩ : ∃ n, p[k]? = some n := ⟨p[k], List.getElem?_eq_getElem hk⟩
  have e : whyF ns ps os p (onG x) (crP ns ps os p) (k : Int) = whyK ns ps os p (onG x) (crP ns ps os p) k n := by
    unfold whyF
    rw [if_pos ⟨onG_may h0 h1, hE⟩, if_pos (by omega), Int.toNat_natCast, hn]
  rw [e]
  unfold whyK whyD
  by_cases hw : n = -1
  · subst hw
    right
    refine ⟨?_, .inl (if_pos rfl)⟩
    rw [Bool.eq_false_iff]
    intro ha
    unfold wrB at ha
    obtain ⟨c, hc, hd⟩ := List.any_eq_true.1 ha
    simp only [Bool.and_eq_true, decide_eq_true_eq] at hd
    have hkd : 2 ≤ c.1 ∧ c.1 ≤ 6 := by
      have := hd.1
      unfold lookB at this
      simp only [Bool.or_eq_true, Bool.and_eq_true, decide_eq_true_eq] at this
      omega
    obtain ⟨_, i, kind, h3, b, hb⟩ := all8_pods (List.mem_filter.1 hc).1 hkd.1 hkd.2
    have : i = k := by omega
    subst this
    rw [ofU_wait hn] at hb
    cases hb
  · rw [if_neg hw, on_why (x := x) rfl rfl h0 h1 (high_none x n), wrB_is]
    show (((((all8 ns ps os p).filter brokC).any (podCD (k : Int) [2]) || _) || _) || _) = true ∧ (if ((all8 ns ps os p).filter brokC).any (podCD (k : Int) [2]) = true then _ else _) ≠ _ ∨ _
    have hcr : crP ns ps os p k = true → spB ((all8 ns ps os p).filter brokC) = true := fun h => crowd_spread h
    generalize crP ns ps os p k = cr at hcr ⊢
    generalize spB ((all8 ns ps os p).filter brokC) = sp at hcr ⊢
    generalize ((all8 ns ps os p).filter brokC).any (podCD (k : Int) [2]) = b2
    generalize ((all8 ns ps os p).filter brokC).any (podCD (k : Int) [3]) = b3
    generalize ((all8 ns ps os p).filter brokC).any (podCD (k : Int) [4, 5]) = b4
    generalize ((all8 ns ps os p).filter brokC).any (podCD (k : Int) [6]) = b6
    generalize onB x 4 = o4
    generalize onB x 2 = o2
    generalize onB x 1 = o1
    generalize onB x 8 = o8
    cases b2 <;> cases b3 <;> cases b4 <;> cases b6 <;> cases o4 <;> cases o2 <;> cases o1 <;> cases o8 <;> cases cr <;> simp at hcr ⊢ <;> try exact hcr
theorem safe_isD {ns : List NodeD} {ps : List PodD} {os : List OwnD} {p : List Int} (hE : placeE ns ps os p = 0) : safeB ns ps os p = true ↔ (all8 ns ps os p).filter brokC = [] := by
  unfold safeB
  rw [decide_eq_true hE, Bool.true_and, List.isEmpty_iff]
/-- Of a safe placement none is to go. -/
theorem safe_none {ns : List NodeD} {ps : List PodD} {os : List OwnD} {p : List Int} {x : Int} (hE : placeE ns ps os p = 0) (h0 : 0 ≤ x) (h1 : x < 16) (hs : safeB ns ps os p = true) : wrongF ns ps os p (onG x) (crP ns ps os p) = [] := by
  have hL := (safe_isD hE).1 hs
  unfold wrongF
  rw [if_pos ⟨onG_may h0 h1, hE⟩]
  rw [List.eq_nil_iff_forall_not_mem]
  intro y hy
  obtain ⟨i, n, hi, hn, h3, _⟩ := (wrongK_mem p _ p.length y).1 hy
  have e : whyF ns ps os p (onG x) (crP ns ps os p) (i : Int) = whyK ns ps os p (onG x) (crP ns ps os p) i n := by
    unfold whyF
    rw [if_pos ⟨onG_may h0 h1, hE⟩, if_pos (by omega), Int.toNat_natCast, hn]
  rcases on_told hE h0 h1 hi with ⟨h, _⟩ | ⟨_, h | ⟨_, h, _⟩⟩
  · rw [hL] at h
    cases h
  · rw [e] at h
    exact h3 h
  · rw [hL] at h
    cases h
end Go.Proofs.YticgcimcebdjlaaGreat
