/- Whether there is an owner at a place, of a placement that may be; the value of a node for a key. Condition: the cluster and the numbers lie in memory. Pods that are to go, as rows of three numbers: in which order they are told. Numbers alone. No conditions. Is a pod where its owner, whose skew is too great, has most: the contract of isCrowded. Condition: what detect keeps lies in memory. A policy that says only what is on: why a pod is to go by it, of a safe placement and of any. Numbers alone. Conditions: what they say. Each pod that is to go is told once, where it is, in order. Numbers alone. Conditions: what they say. -/
import Derived.Test.YticgcimcebdjlaaGreatA14
import Derived.Shelf.SlSortCmp.NoneTotal
import Derived.Handy

namespace Go.Proofs.YticgcimcebdjlaaGreat
open Go.RowKit

/-- What Domain tells. -/
def domE (ns : List NodeD) (ps : List PodD) (os : List OwnD) (k : Int) (key : List UInt8) : Option (List UInt8) := if checkS ns ps os = 0 then domF ns k key else none

set_option maxRecDepth 100000 in
set_option maxHeartbeats 1000000 in
theorem domain_any (A B C : Option Addr) (ca cb cc : Nat) (ns : List NodeD) (ps : List PodD) (os : List OwnD) (k : Int) (key : List UInt8) (w : World) (h : SnapAt w A B C ca cb cc ns ps os) (hsh : checkS ns ps os = 0 → Short ns) :
    Calls Tryz.prog 203 #[snapV A B C ca cb cc ns ps os, .int .i64 k, strV key] w fun e w' => e = .returned (.tuple #[strV ((domE ns ps os k key).getD []), .bool (domE ns ps os k key).isSome]) ∧ Below w.heap.size w w' := by
  have H := Lib.hid h
  have B0 : Hid (Below w.heap.size w (w.alloc (.cells (snapC A B C ca cb cc ns ps os) 26))) := Lib.hid (below1 w _)
  have S0 : Hid (Blk (w.alloc (.cells (snapC A B C ca cb cc ns ps os) 26)) w.heap.size (snapC A B C ca cb cc ns ps os) 26) := Lib.hid (Blk.new w _ _)
  have KC := Lib.hid (check_any A B C ca cb cc ns ps os _ (h.below B0.out))
  have hl0 := Blk.lt S0.out
  have E : Hid (domE ns ps os k key = if checkS ns ps os = 0 then domF ns k key else none) := Lib.hid rfl
  generalize domE ns ps os k key = R at E ⊢
  have KD := Lib.hid (fun (hc : checkS ns ps os = 0) w1 (hb : Below w.heap.size w w1) => domainOf_any A B C ca cb cc ps.length os.length ns k key w1 (h.below hb).n (hsh hc))
  generalize checkS ns ps os = v0 at KC E KD
  generalize domF ns k key = D at KD E
  clear h hsh
  go_enter Tryz.func203, Tryz.ntmps203
  go_wp2_with fail
  refine (KC.out).mono ?_
  rintro e w1 ⟨rfl, hb⟩
  clear KC
  have S1 := Lib.hid (S0.out.below hb (by omega))
  have B1 := Lib.hid (B0.out.trans (hb.mono (by omega)))
  clear hb S0 B0 hl0
  have s0 : w1.cell? ⟨w.heap.size, 0, none⟩ = some (.slice A ns.length ca) := Blk.cell S1.out 0
  have s1 : w1.cell? ⟨w.heap.size, 1, none⟩ = some (.slice B ps.length cb) := Blk.cell S1.out 1
  have s2 : w1.cell? ⟨w.heap.size, 2, none⟩ = some (.slice C os.length cc) := Blk.cell S1.out 2
  by_cases hv : v0 = 0
  · subst hv
    have HE : Hid (R = D) := Lib.hid (by rw [E.out, if_pos rfl])
    have K1 := Lib.hid (KD.out rfl w1 B1.out)
    clear E KD
    go_wp2_with fail
    refine (K1.out).mono ?_
    rintro e w2 ⟨rfl, hb⟩
    have B2 := Lib.hid (B1.out.trans (hb.mono B1.out.size))
    clear hb K1
    go_wp2
    go_ret2
    rw [HE.out]
    exact ⟨rfl, B2.out⟩
  · have HE : Hid (R = none) := Lib.hid (by rw [E.out, if_neg hv])
    have hvb : (v0 != 0) = true := by simpa using hv
    clear E KD
    go_wp2
    go_ret2
    rw [HE.out]
    exact ⟨rfl, B1.out⟩
end Go.Proofs.YticgcimcebdjlaaGreat

namespace Go.Proofs.YticgcimcebdjlaaGreat
open Go.RowKit Go.Lib Go.Sort

theorem sortW_rises (l : List W3T) : (sortW l).Pairwise (fun x y => ¬ ltW y x) := by
  have h := List.pairwise_mergeSort (le := fun x y => !(ltOf cmpW) y x) (fun a b c h1 h2 => by
    simp only [Bool.not_eq_true', ltW_of, decide_eq_false_iff_not] at *
    unfold ltW at *
    omega) (fun a b => by
    simp only [Bool.or_eq_true, Bool.not_eq_true', ltW_of, decide_eq_false_iff_not]
    unfold ltW
    omega) l
  refine h.imp ?_
  intro a b h
  rw [ltW_of] at h
  simpa only [Bool.not_eq_true', decide_eq_false_iff_not] using h
theorem wrongK_mem (p : List Int) (F : Nat → Int → Int) : ∀ k, ∀ x, x ∈ wrongK p F k ↔ ∃ (i : Nat) (n : Int), i < k ∧ p[i]? = some n ∧ F i n ≠ 0 ∧ x = (F i n, (i : Int), n)
  | 0, x => by simp [wrongK]
  | k + 1, x => by
    rw [wrongK, List.mem_append, wrongK_mem p F k]
    constructor
    · rintro (⟨i, n, h1, h2⟩ | h)
      · exact ⟨i, n, by omega, h2⟩
      · split at h
        · rename_i n hn
          split at h
          · cases h
          · rename_i h0
            simp at h
            exact ⟨k, n, by omega, hn, h0, h⟩
        · cases h
    · rintro ⟨i, n, h1, h2, h3, rfl⟩
      by_cases hik : i < k
      · exact .inl ⟨i, n, hik, h2, h3, rfl⟩
      · obtain rfl : i = k := by omega
        right
        rw [h2]
        dsimp only
        rw [if_neg h3]
        exact List.mem_singleton.2 rfl
theorem wrongK_rises (p : List Int) (F : Nat → Int → Int) : ∀ k, (wrongK p F k).Pairwise (fun x y => x.2.1 < y.2.1)
  | 0 => List.Pairwise.nil
  | k + 1 => by
    rw [wrongK, List.pairwise_append]
    refine ⟨wrongK_rises p F k, ?_, ?_⟩
    · split
      · split
        · exact List.Pairwise.nil
        · exact List.pairwise_singleton _ _
      · exact List.Pairwise.nil
    · intro c hc d hd
      obtain ⟨i, n, h1, _, _, rfl⟩ := (wrongK_mem p F k c).1 hc
      split at hd
      · split at hd
        · cases hd
        · simp at hd
          subst hd
          show (i : Int) < (k : Int)
          omega
      · cases hd
end Go.Proofs.YticgcimcebdjlaaGreat

namespace Go.Proofs.YticgcimcebdjlaaGreat
open Go.RowKit Go.Maps

/-- Is pod k, on node n, crowded? -/
def crowdF (ns : List NodeD) (ps : List PodD) (os : List OwnD) (full : List (List (List UInt8))) (k : Nat) (n : Int) : Bool := match ps[k]? with
  | some x => (match full[(idxF x.owner (os.map (·.name))).toNat]?, os[(idxF x.owner (os.map (·.name))).toNat]? with
    | some ds, some ow => if idxF x.owner (os.map (·.name)) < 0 then false else if ds = [] then false else (match domE ns ps os n ow.topo with
      | some d => decide (d ∈ ds)
      | none => false)
    | _, _ => false)
  | none => false

set_option maxRecDepth 100000 in
set_option maxHeartbeats 1000000 in
theorem own1_any (Vb Qb k cb : Nat) (B : Option Addr) (ps : List PodD) (x : OwnD) (y : PodD) (w : World) (hV : w.cell? ⟨Vb, 1, none⟩ = some (.slice B ps.length cb)) (hQ : w.cell? ⟨Qb, 0, none⟩ = some (.int .i64 (k : Int))) (hp : La.SlAt w B (cellsP ps)) (hy : ps[k]? = some y) :
    Calls Tryz.prog 202 #[valO x, .pointer (some ⟨Vb, 0, none⟩), .pointer (some ⟨Qb, 0, none⟩)] w fun e w' => e = .returned (.bool (decide (x.name = y.owner))) ∧ Below w.heap.size w w' := by
  have hkl := (List.getElem?_eq_some_iff.1 hy).1
  have k0 : (0 : Int) ≤ (k : Int) := by omega
  have k1 : (k : Int) < (ps.length : Int) := by omega
  have hvl := World.block_lt_of_cell? w _ hV
  have hql := World.block_lt_of_cell? w _ hQ
  obtain ⟨b, o, hB, hbl, c0, c1, _⟩ := atP hp hy
  subst hB
  have B0 := Lib.hid (below1 w (.cells #[strV x.name, .int .i64 x.min, strV x.topo, .int .i64 x.skew, .bool x.single] 191))
  have Q0 := Lib.hid (Blk.new w #[strV x.name, .int .i64 x.min, strV x.topo, .int .i64 x.skew, .bool x.single] 191)
  have V1 := Lib.hid ((B0.out.cell (p := ⟨Vb, 1, none⟩) hvl).trans hV)
  have P1 := Lib.hid ((B0.out.cell (p := ⟨Qb, 0, none⟩) hql).trans hQ)
  have D1 := Lib.hid ((B0.out.cell (p := ⟨b, o + k * 15 + 1, none⟩) hbl).trans c1)
  have hk15 : 15 * k = k * 15 := Nat.mul_comm _ _
  obtain ⟨bb, hbb⟩ : ∃ bb, decide (x.name = y.owner) = bb := ⟨_, rfl⟩
  have HBB := Lib.hid hbb
  rw [hbb]
  clear hp hy hV hQ c0 c1 hbb
  go_enter Tryz.func202, Tryz.ntmps202
  go_upto_region 1 with fail
  try change Code.wp _ _ _ _ (w.alloc (.cells #[strV x.name, .int .i64 x.min, strV x.topo, .int .i64 x.skew, .bool x.single] 191))
  generalize (w.alloc (.cells #[strV x.name, .int .i64 x.min, strV x.topo, .int .i64 x.skew, .bool x.single] 191)) = W at B0 Q0 V1 P1 D1 ⊢
  have e0 : W.cell? ⟨w.heap.size, 0, none⟩ = some (strV x.name) := Blk.cell Q0.out 0
  have e1 : W.cell? ⟨Vb, 1, none⟩ = some (.slice (some ⟨b, o, none⟩) ps.length cb) := V1.out
  have e2 : W.cell? ⟨Qb, 0, none⟩ = some (.int .i64 (k : Int)) := P1.out
  have e3 : W.cell? ⟨b, o + k * 15 + 1, none⟩ = some (strV y.owner) := D1.out
  go_quiet (fail)
  have D := Lib.hid (belowN B0.out nq)
  go_wp2_with fail
  go_ret
  refine ⟨La.retB ?_, D.out⟩
  rw [← HBB.out]
  first | rfl | (rw [Bool.eq_iff_iff]; simp)
set_option maxRecDepth 100000 in
set_option maxHeartbeats 2000000 in
theorem index_own (Vb Qb k cb cc : Nat) (B C : Option Addr) (ps : List PodD) (l : List OwnD) (y : PodD) (w : World) (hV : w.cell? ⟨Vb, 1, none⟩ = some (.slice B ps.length cb)) (hQ : w.cell? ⟨Qb, 0, none⟩ = some (.int .i64 (k : Int))) (hp : La.SlAt w B (cellsP ps)) (hy : ps[k]? = some y) (hl : l.length ≤ 1000) (hs : La.SlAt w C (cellsO l)) :
    Calls Tryz.prog 201 #[.slice C l.length cc, .func (Fn.func 202) #[] #[.pointer (some ⟨Vb, 0, none⟩), .pointer (some ⟨Qb, 0, none⟩)]] w fun e w' => e = .returned (.int .i64 (idxF y.owner (l.map (·.name)))) ∧ Below w.heap.size w w' := by
  have HS := Lib.hid hs
  have hvl := World.block_lt_of_cell? w _ hV
  have hql := World.block_lt_of_cell? w _ hQ
  have K1 := Lib.hid (fun (x : OwnD) W' (hb : Below w.heap.size w W') => own1_any Vb Qb k cb B ps x y W' ((hb.cell (p := ⟨Vb, 1, none⟩) hvl).trans hV) ((hb.cell (p := ⟨Qb, 0, none⟩) hql).trans hQ) (hp.below hb) hy)
  have hg : ∀ (args : Array Value) (w : World), (callFunc 202 args).run Tryz.prog w = .ok (.enter 202 args) w := fun _ _ => by kernel_rfl
  generalize y.owner = name at K1 ⊢
  obtain ⟨R, hR⟩ : ∃ R, idxF name (l.map (·.name)) = R := ⟨_, rfl⟩
  have HR := Lib.hid hR
  rw [hR]
  clear hs hV hQ hp hy hR
  go_enter Tryz.func201, Tryz.ntmps201
  go_wp2_with fail
  go_loopw [8] (fun i wr => ∃ k : Nat, k ≤ l.length ∧ i = .int .i64 k ∧ (∀ j x, j < k → (l.map (·.name))[j]? = some x → x ≠ name) ∧ Below w.heap.size w wr) (fun i _ => l.length - (RowKit.intOf i).toNat)
  case atStart => exact ⟨0, by omega, rfl, fun j x h => by omega, Below.refl _ _⟩
  case round =>
    obtain ⟨k, hk, rfl, hn, hb⟩ := hrel
    have HN := Lib.hid hn
    have HB := Lib.hid hb
    clear hn hb
    by_cases hlt : k < l.length
    · obtain ⟨x, hx⟩ : ∃ x, l[k]? = some x := ⟨l[k], List.getElem?_eq_getElem hlt⟩
      obtain ⟨b, o, hA, hbl, c0, c1, c2, c3, c4⟩ := atO (HS.out.below HB.out) hx
      subst hA
      have hxn : (l.map (·.name))[k]? = some x.name := by simp [hx]
      have HX := Lib.hid hxn
      have k0 : (0 : Int) ≤ (k : Int) := by omega
      have k1 : (k : Int) < (l.length : Int) := by omega
      have KI := Lib.hid (K1.out x wr HB.out)
      clear hx hxn
      go_wp2_with fail
      refine (KI.out).mono ?_
      rintro e w3 ⟨rfl, hb3⟩
      have B3 := Lib.hid (HB.out.trans (hb3.mono HB.out.size))
      clear hb3 KI c0 c1 c2 c3 c4
      by_cases he : x.name = name
      · have hd : decide (x.name = name) = true := by simpa using he
        have HE : Hid ((k : Int) = R) := Lib.hid (by rw [← HR.out]; exact (idx_hit name _ k (by rw [HX.out, he]) HN.out).symm)
        have He := Lib.hid he
        clear he
        go_wp2
        go_ret
        exact ⟨La.retI HE.out, B3.out⟩
      · have hd : decide (x.name = name) = false := by simpa using he
        have He := Lib.hid he
        clear he
        go_wp2
        go_roundw
        case rel =>
          refine ⟨k + 1, by omega, by go_num, fun j y hj hy => ?_, B3.out⟩
          by_cases hjk : j = k
          · subst hjk
            rw [HX.out] at hy
            cases hy
            exact He.out
          · exact HN.out j y (by omega) hy
        case measure => simp [RowKit.intOf]; omega
    · obtain rfl : k = l.length := by omega
      have HE : Hid ((-1 : Int) = R) := Lib.hid (by
        rw [← HR.out]
        refine (idx_miss name _ (fun j y hy => HN.out j y ?_ hy)).symm
        rcases Nat.lt_or_ge j l.length with h | h
        · exact h
        · rw [List.getElem?_eq_none (by simpa using h)] at hy
          cases hy)
      go_wp2
      go_ret
      exact ⟨La.retI HE.out, HB.out⟩

theorem idx_lt9 (name : List UInt8) : ∀ l : List (List UInt8), idxF name l < (l.length : Int)
  | [] => by simp [idxF]
  | x :: t => by
    have ih := idx_lt9 name t
    rw [idxF]
    split
    · simp <;> omega
    · split
      · simp <;> omega
      · simp <;> omega
set_option maxRecDepth 100000 in
set_option maxHeartbeats 4000000 in
theorem crowd_any (v : VwD) (k : Nat) (n : Int) (w : World) (h : VwAt w v) (hk : v.p[k]? = some n) (hfl : v.full.length = v.os.length) :
    Calls Tryz.prog 145 #[.agg (cellsVw v), .int .i64 (k : Int)] w fun e w' => e = .returned (.bool (crowdF v.ns v.ps v.os v.full k n)) ∧ Below w.heap.size w w' := by
  have hfw := placeE_few h.e
  have hkl := (List.getElem?_eq_some_iff.1 hk).1
  have hkp : k < v.ps.length := by rw [← placeE_len h.e]; exact hkl
  obtain ⟨y, hy⟩ : ∃ y, v.ps[k]? = some y := ⟨v.ps[k], List.getElem?_eq_getElem hkp⟩
  have hos := hfw.2.2
  have W0d : Hid (Below w.heap.size w ((w.alloc (.cells (cellsVw v) 92)).alloc (.cells #[.int .i64 (k : Int)] 3))) := Lib.hid (Qu.below2 w _ _)
  have Q0 : Hid (Blk ((w.alloc (.cells (cellsVw v) 92)).alloc (.cells #[.int .i64 (k : Int)] 3)) w.heap.size (cellsVw v) 92) := Lib.hid (Blk.alloc (Blk.new w _ _) _)
  have P0 : Hid (Blk ((w.alloc (.cells (cellsVw v) 92)).alloc (.cells #[.int .i64 (k : Int)] 3)) (w.heap.size + 1) #[.int .i64 (k : Int)] 3) := Lib.hid (blk2 w _ _ _)
  have H := Lib.hid h
  have HK := Lib.hid hk
  have HY := Lib.hid hy
  have k0 : (0 : Int) ≤ (k : Int) := by omega
  have k1 : (k : Int) < (v.p.length : Int) := by omega
  have CF : Hid (crowdF v.ns v.ps v.os v.full k n = (match v.full[(idxF y.owner (v.os.map (·.name))).toNat]?, v.os[(idxF y.owner (v.os.map (·.name))).toNat]? with
    | some ds, some ow => if idxF y.owner (v.os.map (·.name)) < 0 then false else if ds = [] then false else (match domE v.ns v.ps v.os n ow.topo with
      | some d => decide (d ∈ ds)
      | none => false)
    | _, _ => false)) := Lib.hid (by
    unfold crowdF
    rw [hy])
  obtain ⟨R, hR⟩ : ∃ R, crowdF v.ns v.ps v.os v.full k n = R := ⟨_, rfl⟩
  rw [hR] at CF ⊢
  have hix := idx_range y.owner (v.os.map (·.name))
  have hil := idx_lt9 y.owner (v.os.map (·.name))
  rw [List.length_map] at hil
  have KD := Lib.hid (fun (key : List UInt8) W' (hb : Below w.heap.size w W') => domain_any v.A v.B v.C v.ca v.cb v.cc v.ns v.ps v.os n key W' ((h.s.low hb).at hfw) (fun hc => short_of hc))
  clear h hk hy hR hfw
  go_enter Tryz.func145, Tryz.ntmps145
  go_upto_region 1 with fail
  try change Code.wp _ _ _ _ ((w.alloc (.cells (cellsVw v) 92)).alloc (.cells #[.int .i64 (k : Int)] 3))
  generalize ((w.alloc (.cells (cellsVw v) 92)).alloc (.cells #[.int .i64 (k : Int)] 3)) = W at W0d Q0 P0 ⊢
  obtain ⟨Qb, hQb⟩ : ∃ b, w.heap.size + 1 = b := ⟨_, rfl⟩
  rw [hQb] at P0 ⊢
  clear hQb
  have m1 : W.cell? ⟨w.heap.size, 1, none⟩ = some (.slice v.B v.ps.length v.cb) := Blk.cell Q0.out 1
  have m2 : W.cell? ⟨w.heap.size, 2, none⟩ = some (.slice v.C v.os.length v.cc) := Blk.cell Q0.out 2
  have KI := Lib.hid (index_own w.heap.size Qb k v.cb v.cc v.B v.C v.ps v.os y W m1 (Blk.cell P0.out 0) (H.out.s.p.cells.below W0d.out) HY.out (by omega) (H.out.s.o.below W0d.out))
  obtain ⟨i, hi⟩ : ∃ i, idxF y.owner (v.os.map (·.name)) = i := ⟨_, rfl⟩
  rw [hi] at KI CF hix hil
  clear hi
  go_wp2_with fail
  refine (KI.out).mono ?_
  rintro e W1 ⟨rfl, hb⟩
  have HB1 := Lib.hid (W0d.out.trans (hb.mono W0d.out.size))
  have Q1 := Lib.hid (Q0.out.below hb Q0.out.lt)
  have P1 := Lib.hid (P0.out.below hb P0.out.lt)
  clear hb m1 m2 KI Q0 P0 W0d
  by_cases h0 : i < 0
  · have h0d : decide (i < 0) = true := decide_eq_true h0
    have HE : Hid (R = false) := Lib.hid (by
      rw [CF.out]
      split
      · rw [if_pos h0]
      · rfl)
    clear CF
    go_wp2
    go_ret
    exact ⟨La.retB HE.out.symm, HB1.out⟩
  have h0d : decide (i < 0) = false := decide_eq_false h0
  obtain ⟨t, rfl⟩ : ∃ t : Nat, i = (t : Int) := ⟨i.toNat, by omega⟩
  have htl : t < v.os.length := by omega
  obtain ⟨ow, how⟩ : ∃ ow, v.os[t]? = some ow := ⟨v.os[t], List.getElem?_eq_getElem htl⟩
  obtain ⟨ds, hds⟩ : ∃ ds, v.full[t]? = some ds := ⟨v.full[t]'(by omega), List.getElem?_eq_getElem (by omega)⟩
  have CF2 : Hid (R = if ds = [] then false else (match domE v.ns v.ps v.os n ow.topo with
      | some d => decide (d ∈ ds)
      | none => false)) := Lib.hid (by
    rw [CF.out, Int.toNat_natCast, hds, how]
    dsimp only
    rw [if_neg h0])
  obtain ⟨fb, fo, D, cd, hF, hfbl, hfc, hfn⟩ := H.out.f t ds hds
  have HFN := Lib.hid (fun W' (hb : Below w.heap.size w W') => hfn.below hb)
  have HFC := Lib.hid (fun W' (hb : Below w.heap.size w W') => (hb.cell (p := ⟨fb, fo + t, none⟩) hfbl).trans hfc)
  have t0 : (0 : Int) ≤ (t : Int) := by omega
  have t1 : (t : Int) < (v.full.length : Int) := by omega
  have t2 : (t : Int) < (v.os.length : Int) := by omega
  obtain ⟨ob, oo, hC, hobl, o0, o1, o2, _⟩ := atO (H.out.s.o) how
  have HOC := Lib.hid (fun W' (hb : Below w.heap.size w W') => (hb.cell (p := ⟨ob, oo + t * 5 + 2, none⟩) hobl).trans o2)
  obtain ⟨pb, po, hP, hpbl, p0⟩ := atI H.out.p.cells HK.out
  have HPC := Lib.hid (fun W' (hb : Below w.heap.size w W') => (hb.cell (p := ⟨pb, po + k, none⟩) hpbl).trans p0)
  have HMV : Hid (∀ W', Below W1.heap.size W1 W' → (W'.cell? ⟨w.heap.size, 0, none⟩ = some (.slice v.A v.ns.length v.ca) ∧ W'.cell? ⟨w.heap.size, 1, none⟩ = some (.slice v.B v.ps.length v.cb) ∧ W'.cell? ⟨w.heap.size, 2, none⟩ = some (.slice (some ⟨ob, oo, none⟩) v.os.length v.cc)) ∧ W'.cell? ⟨w.heap.size, 3, none⟩ = some (.slice (some ⟨pb, po, none⟩) v.p.length v.cp) ∧ W'.cell? ⟨w.heap.size, 16, none⟩ = some (.slice (some ⟨fb, fo, none⟩) v.full.length v.cf) ∧ W'.cell? ⟨Qb, 0, none⟩ = some (.int .i64 (k : Int)) ∧ W'.cell? ⟨pb, po + k, none⟩ = some (.int .i64 n) ∧ W'.cell? ⟨ob, oo + t * 5 + 2, none⟩ = some (strV ow.topo)) := Lib.hid (fun W' hb => by
    have h1 := Q1.out.below hb Q1.out.lt
    have h2 := P1.out.below hb P1.out.lt
    have h3 := HB1.out.trans (hb.mono HB1.out.size)
    refine ⟨⟨Blk.cell h1 0, Blk.cell h1 1, ?_⟩, ?_, ?_, Blk.cell h2 0, HPC.out _ h3, HOC.out _ h3⟩
    · rw [← hC]; exact Blk.cell h1 2
    · rw [← hP]; exact Blk.cell h1 3
    · rw [← hF]; exact Blk.cell h1 16)
  have KD1 := Lib.hid (KD.out ow.topo)
  have HCC := Lib.hid hC
  clear hds how CF h0 hfn hfc o0 o1 o2 p0 KD hC hP hF
  obtain ⟨⟨m0, m1, m2⟩, m3, m16, q0, p0, o2⟩ := HMV.out _ (Below.refl _ _)
  have f0 := HFC.out _ HB1.out
  by_cases hd0 : ds = []
  · subst hd0
    have HE : Hid (R = false) := Lib.hid (by rw [CF2.out, if_pos rfl])
    clear CF2
    go_wp2
    go_ret
    exact ⟨La.retB HE.out.symm, HB1.out⟩
  have hdl : ¬ ds.length = 0 := fun e => hd0 (List.length_eq_zero_iff.1 e)
  have hdl1 : ((ds.length : Int) == 0) = false := by simpa using hdl
  have hdl2 : decide ((ds.length : Int) = 0) = false := decide_eq_false (by omega)
  have hdl3 : decide (ds.length = 0) = false := decide_eq_false hdl
  have CF3 : Hid (R = (match domE v.ns v.ps v.os n ow.topo with
      | some d => decide (d ∈ ds)
      | none => false)) := Lib.hid (by rw [CF2.out, if_neg hd0])
  clear CF2 hd0
  obtain ⟨de, hde⟩ : ∃ de, domE v.ns v.ps v.os n ow.topo = de := ⟨_, rfl⟩
  have HDB : Hid (∀ d, de = some d → d.length ≤ 9223372036854775807) := Lib.hid (fun d hd => by
    subst hd
    unfold domE at hde
    split at hde
    · exact dom_big H.out.s.n hde
    · cases hde)
  rw [hde] at CF3
  have KD2 : Hid (∀ W', Below w.heap.size w W' → Calls Tryz.prog 203 #[.agg #[.slice v.A v.ns.length v.ca, .slice v.B v.ps.length v.cb, .slice (some ⟨ob, oo, none⟩) v.os.length v.cc], .int .i64 n, strV ow.topo] W' fun e w' => e = .returned (.tuple #[strV (de.getD []), .bool de.isSome]) ∧ Below W'.heap.size W' w') := Lib.hid (fun W' hb => by
    have := KD1.out W' hb
    rw [hde] at this
    rw [← HCC.out]
    exact this)
  clear hde KD1
  go_upto_region 4 with fail
  clear m0 m1 m2 m3 m16 q0 p0 o2 f0 hdl hdl1 hdl2 hdl3
  have D0 : Hid (Below W1.heap.size W1 W1.drew) := Lib.hid (Below.refl _ W1).drew
  have T0 := HMV.out _ D0.out
  go_cut [6, 7] (fun u z wc => u = strV (de.getD []) ∧ z = .bool de.isSome ∧ Below W1.heap.size W1 wc)
  case first =>
    go_region_held3 (fun w' => (w'.cell? ⟨w.heap.size, 0, none⟩ = some (.slice v.A v.ns.length v.ca) ∧ w'.cell? ⟨w.heap.size, 1, none⟩ = some (.slice v.B v.ps.length v.cb) ∧ w'.cell? ⟨w.heap.size, 2, none⟩ = some (.slice (some ⟨ob, oo, none⟩) v.os.length v.cc)) ∧ w'.cell? ⟨w.heap.size, 3, none⟩ = some (.slice (some ⟨pb, po, none⟩) v.p.length v.cp) ∧ w'.cell? ⟨w.heap.size, 16, none⟩ = some (.slice (some ⟨fb, fo, none⟩) v.full.length v.cf) ∧ w'.cell? ⟨Qb, 0, none⟩ = some (.int .i64 (k : Int)) ∧ w'.cell? ⟨pb, po + k, none⟩ = some (.int .i64 n) ∧ w'.cell? ⟨ob, oo + t * 5 + 2, none⟩ = some (strV ow.topo))
      (first | (with_reducible exact T0) | (with_reducible exact T1))
      (first
        | (go_at_call 203
           with_reducible refine (KD2.out _ (HB1.out.trans (D0.out.mono HB1.out.size))).mono ?_
           rintro e wD ⟨rfl, hb⟩
           have D1 := Lib.hid (D0.out.trans (hb.mono D0.out.size))
           have T1 := HMV.out _ D1.out
           clear hb))
    all_goals
      (try go_wp2_with fail)
      go_meet
      exact ⟨by first | rfl | trivial, by first | rfl | trivial, D1.out⟩
  case' rest => obtain ⟨rfl, rfl, hb⟩ := hcut
  have HB2 : Hid (Below w.heap.size w wc) := Lib.hid (HB1.out.trans (hb.mono HB1.out.size))
  obtain ⟨_, _, m16, _, _, _⟩ := HMV.out _ hb
  have f0 := HFC.out _ HB2.out
  clear hb T0 D0 KD2
  cases de with
  | none =>
    have HE : Hid (R = false) := Lib.hid CF3.out
    clear CF3
    go_wp2
    go_ret
    exact ⟨La.retB HE.out.symm, HB2.out⟩
  | some d =>
    have KC := Lib.hid (contains_any D cd ds d wc (HFN.out _ HB2.out) (HDB.out d rfl))
    have HE : Hid (R = decide (d ∈ ds)) := Lib.hid CF3.out
    clear CF3
    go_wp2_with fail
    refine (KC.out).mono ?_
    rintro e W3 ⟨rfl, hb⟩
    have D := Lib.hid (HB2.out.trans (hb.mono HB2.out.size))
    clear hb
    go_wp2
    go_ret
    exact ⟨La.retB HE.out.symm, D.out⟩
end Go.Proofs.YticgcimcebdjlaaGreat

namespace Go.Proofs.YticgcimcebdjlaaGreat
open Go.RowKit Go.Maps

/-- Whether pod k is crowded where it is. -/
def crP (ns : List NodeD) (ps : List PodD) (os : List OwnD) (p : List Int) (k : Nat) : Bool := crowdF ns ps os (fullL ns ps os p ((all8 ns ps os p).filter brokC)) k ((p[k]?).getD 0)
theorem crowdOk (A B C P G : Option Addr) (ca cb cc cp cg : Nat) (ns : List NodeD) (ps : List PodD) (os : List OwnD) (p : List Int) (g : Pol) : CrowdOk A B C P G ca cb cc cp cg ns ps os p g (crP ns ps os p) := by
  intro _ K X Y F ck cx cy cf k n W' hk _ h
  have e : crP ns ps os p k = crowdF ns ps os (fullL ns ps os p ((all8 ns ps os p).filter brokC)) k n := by
    unfold crP
    rw [hk]
    rfl
  rw [e]
  exact crowd_any (vwMk A B C P G ca cb cc cp cg ns ps os p g K X Y F ck cx cy cf) k n W' h hk (fullL_len _ _ _ _ _)
end Go.Proofs.YticgcimcebdjlaaGreat

namespace Go.Proofs.YticgcimcebdjlaaGreat
open Go.RowKit Go.Maps

theorem firstD_range : ∀ l : List (Int × Bool), (∀ x ∈ l, 1 ≤ x.1 ∧ x.1 ≤ 7) → 0 ≤ firstD l ∧ firstD l ≤ 7
  | [], _ => ⟨Int.le_refl _, by decide⟩
  | (y, b) :: t, h => by
    have h1 := h (y, b) List.mem_cons_self
    have h2 := firstD_range t (fun x hx => h x (List.mem_cons_of_mem _ hx))
    rw [firstD]
    split
    · dsimp only at h1
      omega
    · exact h2
theorem whyK_range (ns : List NodeD) (ps : List PodD) (os : List OwnD) (p : List Int) (g : Pol) (cr : Nat → Bool) (k : Nat) (n : Int) : 0 ≤ whyK ns ps os p g cr k n ∧ whyK ns ps os p g cr k n ≤ 7 ∧ (n = -1 → whyK ns ps os p g cr k n = 0) := by
  unfold whyK whyD
  by_cases hn : n = -1
  · rw [if_pos hn]
    exact ⟨by omega, by omega, fun _ => rfl⟩
  · rw [if_neg hn]
    have h := firstD_range (reasL (pureV ns ps os p g) k n (cr k)) (fun x hx => by
      unfold reasL at hx
      simp only [List.mem_cons, List.not_mem_nil, or_false] at hx
      rcases hx with rfl | rfl | rfl | rfl | rfl | rfl | rfl | rfl <;> refine ⟨?_, ?_⟩ <;> (dsimp only; omega))
    exact ⟨h.1, h.2, fun e => absurd e hn⟩
/-- What one that is told is. -/
theorem told_is {ns : List NodeD} {ps : List PodD} {os : List OwnD} {p : List Int} {g : Pol} {cr : Nat → Bool} (hE : placeE ns ps os p = 0) (hG : checkG g = 0) {y : W3T} (hy : y ∈ sortW (wrongF ns ps os p g cr)) :
    ∃ (k n : Nat), k < p.length ∧ p[k]? = some (n : Int) ∧ n < 8 ∧ y.2.1 = (k : Int) ∧ y.2.2 = (n : Int) ∧ 1 ≤ y.1 ∧ y.1 ≤ 7 ∧ whyF ns ps os p g cr (k : Int) = y.1 := by
  have hm := (sortW_perm _).mem_iff.1 hy
  unfold wrongF at hm
  rw [if_pos ⟨hG, hE⟩] at hm
  obtain ⟨k, n, hk, hn, h0, rfl⟩ := (wrongK_mem p _ p.length y).1 hm
  obtain ⟨r0, r7, rw1⟩ := whyK_range ns ps os p g cr k n
  have hok := (placeE_zero hE).2.2 n (List.mem_of_getElem? hn)
  have hn1 : n ≠ -1 := fun e => h0 (rw1 e)
  have hnn : 0 ≤ n ∧ n < (ns.length : Int) := by
    unfold okB tpB at hok
    rw [Bool.or_eq_true, decide_eq_true_eq, Bool.and_eq_true, decide_eq_true_eq] at hok
    rcases hok with hok | ⟨hok, hm2⟩
    · exact absurd hok hn1
    · refine ⟨hok, ?_⟩
      cases hx : ns[n.toNat]? with
      | none =>
        rw [hx] at hm2
        cases hm2
      | some x =>
        have := (List.getElem?_eq_some_iff.1 hx).1
        omega
  have h8 := (placeE_few hE).1
  have e : whyF ns ps os p g cr (k : Int) = whyK ns ps os p g cr k n := by
    unfold whyF
    rw [if_pos ⟨hG, hE⟩, if_pos (by omega), Int.toNat_natCast, hn]
  refine ⟨k, n.toNat, hk, by rw [hn]; congr 1; omega, by omega, rfl, ?_, ?_, r7, e⟩
  · show n = ((n.toNat : Nat) : Int)
    omega
  · show 1 ≤ whyK ns ps os p g cr k n
    have h0' : whyK ns ps os p g cr k n ≠ 0 := h0
    omega
/-- The pods that are told are told once. -/
theorem told_once (ns : List NodeD) (ps : List PodD) (os : List OwnD) (p : List Int) (g : Pol) (cr : Nat → Bool) : (sortW (wrongF ns ps os p g cr)).Pairwise (fun x y => x.2.1 ≠ y.2.1) := by
  have h : (wrongF ns ps os p g cr).Pairwise (fun x y => x.2.1 ≠ y.2.1) := by
    unfold wrongF
    split
    · exact (wrongK_rises _ _ _).imp (fun h => by omega)
    · exact List.Pairwise.nil
  exact (sortW_perm _).symm.pairwise h (fun h => h.symm)
/-- They rise. -/
theorem told_rise (ns : List NodeD) (ps : List PodD) (os : List OwnD) (p : List Int) (g : Pol) (cr : Nat → Bool) : (sortW (wrongF ns ps os p g cr)).Pairwise ltW := by
  refine (List.pairwise_and_iff.2 ⟨sortW_rises (wrongF ns ps os p g cr), told_once ns ps os p g cr⟩).imp ?_
  rintro x y ⟨h1, h2⟩
  unfold ltW at h1 ⊢
  omega
/-- Who is not told is not to go. -/
theorem not_told {ns : List NodeD} {ps : List PodD} {os : List OwnD} {p : List Int} {g : Pol} {cr : Nat → Bool} (hE : placeE ns ps os p = 0) (hG : checkG g = 0) {k : Nat} (hk : k < p.length) (h : (sortW (wrongF ns ps os p g cr)).any (fun y => decide (y.2.1 = (k : Int))) = false) : whyF ns ps os p g cr (k : Int) = 0 := by
  obtain ⟨n, hn⟩ : ∃ n, p[k]? = some n := ⟨p[k], List.getElem?_eq_getElem hk⟩
  have e : whyF ns ps os p g cr (k : Int) = whyK ns ps os p g cr k n := by
    unfold whyF
    rw [if_pos ⟨hG, hE⟩, if_pos (by omega), Int.toNat_natCast, hn]
  rw [e]
  by_cases h0 : whyK ns ps os p g cr k n = 0
  · exact h0
  · have hm : ((whyK ns ps os p g cr k n, (k : Int), n) : W3T) ∈ wrongF ns ps os p g cr := by
      unfold wrongF
      rw [if_pos ⟨hG, hE⟩]
      exact (wrongK_mem p _ p.length _).2 ⟨k, n, hk, hn, h0, rfl⟩
    have hm2 := (sortW_perm _).mem_iff.2 hm
    rw [List.any_eq_false] at h
    exact absurd (decide_eq_true rfl) (h _ hm2)
theorem sort_empty (l : List W3T) : (sortW l).length = 0 ↔ l = [] := by
  rw [sortW_len]
  exact List.length_eq_zero_iff
end Go.Proofs.YticgcimcebdjlaaGreat
