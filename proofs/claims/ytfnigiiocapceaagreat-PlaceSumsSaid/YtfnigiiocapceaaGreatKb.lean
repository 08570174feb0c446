/- Whose a pod is; which value a node has for a key: the contracts of Members and domainOf. Condition: the cluster lies in memory. Which value a node has for a key: the contract of domainOf. Condition: the cluster lies in memory. Whether there is an owner at a place, of a placement that may be; the value of a node for a key. Condition: the cluster and the numbers lie in memory. -/
import Derived.Test.YtfnigiiocapceaaGreatKa

namespace Go.Proofs.YtfnigiiocapceaaGreat
open Go.RowKit

/-- The places of the first k pods that are of that owner. -/
def membersU (ps : List PodD) (name : List UInt8) : Nat → List Int
  | 0 => []
  | k + 1 => membersU ps name k ++ (match ps[k]? with
    | some x => if x.owner = name then [(k : Int)] else []
    | none => [])
theorem membersU_len (ps : List PodD) (name : List UInt8) : ∀ k, (membersU ps name k).length ≤ k
  | 0 => Nat.le_refl _
  | k + 1 => by
    have := membersU_len ps name k
    rw [membersU, List.length_append]
    split
    · split <;> simp <;> omega
    · simp; omega
/-- What Members tells of an owner that there is. -/
def membersF (ps : List PodD) (name : List UInt8) : List Int := membersU ps name ps.length

set_option maxRecDepth 100000 in
set_option maxHeartbeats 4000000 in
theorem members_any (A B C : Option Addr) (ca cb cc : Nat) (ns : List NodeD) (ps : List PodD) (os : List OwnD) (k : Nat) (x : OwnD) (w : World) (h : SnapAt w A B C ca cb cc ns ps os) (hx : os[k]? = some x) :
    Calls Tryz.prog 67 #[snapV A B C ca cb cc ns ps os, .int .i64 (k : Int)] w fun e w' => ∃ v, e = .returned v ∧ w'.ownsRow w.heap.size 3 1 v (membersF ps x.name).length (intsC (membersF ps x.name)) ∧ Below w.heap.size w w' := by
  have H := Lib.hid h
  have HX := Lib.hid hx
  have B0 : Hid (Below w.heap.size w (w.alloc (.cells (snapC A B C ca cb cc ns ps os) 26))) := Lib.hid (below1 w _)
  have S0 : Hid (Blk (w.alloc (.cells (snapC A B C ca cb cc ns ps os) 26)) w.heap.size (snapC A B C ca cb cc ns ps os) 26) := Lib.hid (Blk.new w _ _)
  have hko : k < os.length := (List.getElem?_eq_some_iff.1 hx).1
  have k0 : (0 : Int) ≤ (k : Int) := by omega
  have k0' : ¬ (k : Int) < 0 := by omega
  have k1 : (k : Int) < (os.length : Int) := by omega
  have k1' : ¬ (os.length : Int) ≤ (k : Int) := by omega
  have hlp := h.lp
  have hlo := h.lo
  clear h hx
  obtain ⟨i0, hi0, hz0, hz1, hz2⟩ := info_parts Qu.int_info
  go_enter Tryz.func67, Tryz.ntmps67
  go_wp2_with fail
  go_loopw [20, 5] (fun i v wr => ∃ j : Nat, j ≤ ps.length ∧ i = .int .i64 j ∧ wr.ownsRow w.heap.size 3 1 v (membersU ps x.name j).length (intsC (membersU ps x.name j)) ∧ Below w.heap.size w wr ∧ Blk wr w.heap.size (snapC A B C ca cb cc ns ps os) 26) (fun i _ _ => ps.length - (intOf i).toNat)
  case atStart => exact ⟨0, by omega, rfl, World.ownsRow_nil _ _ _ _, B0.out, S0.out⟩
  case round =>
    obtain ⟨j, hj, rfl, hown, hbw, hsk⟩ := hrel
    have HO := Lib.hid hown
    have HW := Lib.hid hbw
    have HS := Lib.hid hsk
    clear hown hbw hsk
    by_cases hlt : j < ps.length
    · obtain ⟨y, hy⟩ : ∃ y, ps[j]? = some y := ⟨ps[j], List.getElem?_eq_getElem hlt⟩
      obtain ⟨b, o, hA, hbl, c0, c1, c2, c3, c4, c5, c6, c7, c8, c9, c10, c11, c12, c13, c14⟩ := atP (H.out.below HW.out).p.cells hy
      subst hA
      have hstep : membersU ps x.name (j + 1) = membersU ps x.name j ++ (if y.owner = x.name then [(j : Int)] else []) := by rw [membersU, hy]
      have HT := Lib.hid hstep
      have hml := membersU_len ps x.name j
      have j0 : (0 : Int) ≤ (j : Int) := by omega
      have j1 : (j : Int) < (ps.length : Int) := by omega
      have B2 := Lib.hid (HW.out.alloc HW.out.size (.cells (cellsP [y]).toArray 62))
      have P2 : Hid (Blk (wr.alloc (.cells (cellsP [y]).toArray 62)) wr.heap.size (cellsP [y]).toArray 62) := Lib.hid (Blk.new wr _ _)
      have S2 := Lib.hid (Blk.alloc HS.out (.cells (cellsP [y]).toArray 62))
      have O2 := Lib.hid (show World.ownsRow _ _ _ _ _ _ _ from HO.out.alloc (.cells (cellsP [y]).toArray 62))
      obtain ⟨b2, o2, hA2, hbl2, d0, d1, d2, d3, d4⟩ := atO (H.out.below B2.out).o HX.out
      subst hA2
      clear hy hstep d1 d2 d3 d4
      go_wp2_with fail
      change Code.wp _ _ _ _ (wr.alloc (.cells (cellsP [y]).toArray 62))
      generalize hW2 : (wr.alloc (.cells (cellsP [y]).toArray 62)) = W2 at B2 P2 S2 O2 d0 hbl2 ⊢
      have p1 : W2.cell? ⟨wr.heap.size, 1, none⟩ = some (strV y.owner) := Blk.cell P2.out 1
      have z2 : W2.cell? ⟨w.heap.size, 2, none⟩ = some (.slice (some ⟨b2, o2, none⟩) os.length cc) := Blk.cell S2.out 2
      clear hW2 c0 c1 c2 c3 c4 c5 c6 c7 c8 c9 c10 c11 c12 c13 c14
      by_cases hxy : y.owner = x.name
      · go_region
        go_wp2_with (at_builtin; refine wpList_append_own _ rfl _ _ 27 rfl w.heap.size 3 i0 (.int .i64 0) 1 8 Tryz.underlying27 hi0 hz0 hz1 hz2 rfl (by decide) _ _ _ rfl (show World.ownsRow _ _ _ _ _ _ _ from O2.out.alloc _) ⟨W2.heap.size, 0, none⟩ 1 1 [.int .i64 (j : Int)] rfl rfl ?c1 ?c2 ?c3 ?c4 ?c5 ?_)
        case c1 =>
          intro j u hj
          match j, hj with
          | 0, hj => simp at hj; subst hj; simp [Addr.add]
        case c2 => first | rfl | (intro u hu; simp at hu; subst hu; rfl)
        case c3 => unfold maxLen; omega
        case c4 => omega
        case c5 => have := B2.out.size; simp; omega
        intro v' w2 hown' hgrow' _
        have hwz : w.heap.size < W2.heap.size := Blk.lt S2.out
        have HO2 := Lib.hid hown'
        have HW2 := Lib.hid ((B2.out.drew.alloc B2.out.size (.cells #[.int .i64 (j : Int)] 3)).grown hgrow' (by have := B2.out.size; simp; omega) (fun j hj => own_gem O2.out hj))
        have HS2 : Hid (Blk w2 w.heap.size (snapC A (some ⟨b, o, none⟩) (some ⟨b2, o2, none⟩) ca cb cc ns ps os) 26) := Lib.hid (Blk.kept (Blk.alloc (show Blk W2.drew _ _ _ from S2.out) (.cells #[.int .i64 (j : Int)] 3)) hgrow' (fun e => by
          have he := e.symm
          rcases O2.out.2 with ⟨hv, _⟩ | ⟨g, cap, cur, hv, hbg, hg, _⟩
          · rw [hv] at he; cases he
          · rw [hv] at he
            simp only [Value.ownBlock, Option.some.injEq] at he
            subst he
            have h1 := S2.out
            unfold Blk at h1
            rw [hg] at h1
            cases h1))
        clear hown' hgrow'
        go_wp2
        go_roundw
        case rel =>
          refine ⟨j + 1, by omega, by go_num, ?_, HW2.out, HS2.out⟩
          rw [HT.out, if_pos hxy, List.length_append]
          simpa [intsC] using HO2.out
        case measure => simp [intOf]; omega
      · go_region
        rw [show (y.owner == x.name) = false from beq_eq_false_iff_ne.2 hxy]
        go_wp2_with fail
        go_roundw
        case rel =>
          refine ⟨j + 1, by omega, by go_num, ?_, B2.out.drew, (show Blk W2.drew _ _ _ from S2.out)⟩
          rw [HT.out, if_neg hxy, List.append_nil]
          exact (show World.ownsRow W2.drew _ _ _ _ _ _ from O2.out)
        case measure => simp [intOf]; omega
    · obtain rfl : j = ps.length := by omega
      go_wp2
      go_ret
      exact ⟨_, rfl, HO.out, HW.out⟩

end Go.Proofs.YtfnigiiocapceaaGreat

namespace Go.Proofs.YtfnigiiocapceaaGreat
open Go.RowKit

theorem size_of (t : List UInt8) : ((⟨t.toArray⟩ : ByteArray).size) = t.length := by simp [ByteArray.size]
set_option maxHeartbeats 1000000 in
theorem clone_any (t : List UInt8) (w : World) (h : t.length ≤ 281474976710656) :
    Calls Tryz.prog 68 #[strV t] w fun e w' => e = .returned (strV t) ∧ Below w.heap.size w w' := by
  have K := Lib.hid (Tryz.stringslite_Clone ⟨t.toArray⟩ w (by rw [size_of]; exact h))
  go_enter Tryz.func68, Tryz.ntmps68
  go_wp2_with fail
  refine K.out.mono ?_
  rintro e w1 ⟨rfl, hb⟩
  have HB := Lib.hid hb
  clear hb K
  go_wp2
  go_ret
  exact ⟨rfl, HB.out⟩

set_option maxRecDepth 100000 in
set_option maxHeartbeats 4000000 in
/-- Which value has a node that is not lost for a key? -/
def domF (ns : List NodeD) (k : Int) (key : List UInt8) : Option (List UInt8) := if tpB ns k then (match ns[k.toNat]? with
  | some x => (x.labels.find? (fun y => decide (y.1 = key))).map (·.2)
  | none => none) else none
theorem domainOf_any (A B C : Option Addr) (ca cb cc lb lc : Nat) (ns : List NodeD) (k : Int) (key : List UInt8) (w : World) (h : NodesAt w A ns) (hval : ∀ x ∈ ns, ∀ y ∈ x.labels, y.2.length ≤ 281474976710656) :
    Calls Tryz.prog 47 #[.agg #[.slice A ns.length ca, .slice B lb cb, .slice C lc cc], .int .i64 k, strV key] w fun e w' => e = .returned (.tuple #[strV ((domF ns k key).getD []), .bool (domF ns k key).isSome]) ∧ Below w.heap.size w w' := by
  have H := Lib.hid h
  have B0 := Lib.hid (below1 w (.cells #[.slice A ns.length ca, .slice B lb cb, .slice C lc cc] 26))
  have S0 : Hid (Blk (w.alloc (.cells #[.slice A ns.length ca, .slice B lb cb, .slice C lc cc] 26)) w.heap.size #[.slice A ns.length ca, .slice B lb cb, .slice C lc cc] 26) := Lib.hid (Blk.new w _ _)
  have KT := Lib.hid (ptakes_any A B C ca cb cc lb lc ns k _ (h.below B0.out).cells)
  have E0 : Hid (domF ns k key = if tpB ns k then (match ns[k.toNat]? with
    | some x => (x.labels.find? (fun y => decide (y.1 = key))).map (·.2)
    | none => none) else none) := Lib.hid rfl
  generalize domF ns k key = R at E0 ⊢
  obtain ⟨r, hr⟩ : ∃ r, tpB ns k = r := ⟨_, rfl⟩
  rw [hr] at E0 KT
  have HR := Lib.hid hr
  clear h hr
  have hlt0 := Blk.lt S0.out
  go_enter Tryz.func47, Tryz.ntmps47
  go_wp2_with fail
  refine (KT.out).mono ?_
  rintro e w1 ⟨rfl, hb⟩
  clear KT
  have S1 := Lib.hid (S0.out.below hb hlt0)
  have B1 := Lib.hid (B0.out.trans (hb.mono (Nat.le_of_lt hlt0)))
  clear hb
  cases r
  · have HE : Hid (R = none) := Lib.hid (by rw [E0.out]; rfl)
    clear E0
    go_wp2
    go_ret2
    rw [HE.out]
    exact ⟨rfl, B1.out⟩
  obtain ⟨n, rfl⟩ : ∃ n : Nat, k = (n : Int) := ⟨k.toNat, by
    have := HR.out
    unfold tpB at this
    simp only [Bool.and_eq_true, decide_eq_true_eq] at this
    omega⟩
  obtain ⟨x, hx⟩ : ∃ x, ns[n]? = some x := by
    have := HR.out
    unfold tpB at this
    rw [Int.toNat_natCast] at this
    cases hq : ns[n]? with
    | none => rw [hq] at this; simp at this
    | some x => exact ⟨x, rfl⟩
  have hnl : n < ns.length := (List.getElem?_eq_some_iff.1 hx).1
  have n0 : (0 : Int) ≤ (n : Int) := by omega
  have n1 : (n : Int) < (ns.length : Int) := by omega
  have HE : Hid (R = (x.labels.find? (fun y => decide (y.1 = key))).map (·.2)) := Lib.hid (by rw [E0.out, Int.toNat_natCast, hx]; rfl)
  have HF := Lib.hid ((H.out.below B1.out).fit x (List.mem_of_getElem? hx))
  have HM := Lib.hid (List.mem_of_getElem? hx)
  obtain ⟨b, o, hA, hbl, c0, c1, c2, c3, c4, c5, c6, c7, c8, c9⟩ := atN (H.out.below B1.out).cells hx
  subst hA
  have s0 : w1.cell? ⟨w.heap.size, 0, none⟩ = some (.slice (some ⟨b, o, none⟩) ns.length ca) := Blk.cell S1.out 0
  clear c0 c1 c2 c3 c4 c5 c7 c8 c9 E0 hx
  obtain ⟨L, hL⟩ : ∃ L, L = x.labels := ⟨_, rfl⟩
  obtain ⟨al, hal⟩ : ∃ al, al = x.al := ⟨_, rfl⟩
  obtain ⟨cl, hcl⟩ : ∃ cl, cl = x.cl := ⟨_, rfl⟩
  have HV : Hid (∀ y ∈ L, y.2.length ≤ 281474976710656) := Lib.hid (by rw [hL]; exact hval x HM.out)
  have HL : Hid (ListL w1 al cl L) := Lib.hid (by rw [hL, hal, hcl]; exact HF.out.l)
  have HE2 : Hid (R = (L.find? (fun y => decide (y.1 = key))).map (·.2)) := Lib.hid (by rw [hL]; exact HE.out)
  rw [← hL, ← hal, ← hcl] at c6
  clear hval HE HF hL hal hcl
  have hLm : L.length ≤ 9223372036854775807 := Nat.le_trans HL.out.le HL.out.most
  go_wp2_with fail
  go_loopw [21] (fun i wr => ∃ k : Nat, k ≤ L.length ∧ i = .int .i64 k ∧ (∀ j y, j < k → L[j]? = some y → y.1 ≠ key) ∧ Below w.heap.size w wr ∧ Below w1.heap.size w1 wr) (fun i _ => L.length - (intOf i).toNat)
  case atStart => exact ⟨0, by omega, rfl, fun j x h => by omega, B1.out, Below.refl _ _⟩
  case round =>
    obtain ⟨k, hk, rfl, hnk, hbw, hb1⟩ := hrel
    have HN := Lib.hid hnk
    have HW := Lib.hid hbw
    have HW1 := Lib.hid hb1
    clear hnk hbw hb1
    by_cases hlt : k < L.length
    · obtain ⟨y, hy⟩ : ∃ y, L[k]? = some y := ⟨L[k], List.getElem?_eq_getElem hlt⟩
      obtain ⟨b0, o0, hA, hb0, hc⟩ := La.SlAt.lab (HL.out.cells.below HW1.out) hy
      subst hA
      have hx0 : wr.cell? ⟨b0, o0 + k * 2, none⟩ = some (strV y.1) := hc.1
      have hx1 : wr.cell? ⟨b0, o0 + k * 2 + 1, none⟩ = some (strV y.2) := hc.2
      have HY := Lib.hid hy
      have k0 : (0 : Int) ≤ (k : Int) := by omega
      have k1 : (k : Int) < (L.length : Int) := by omega
      have B2 := Lib.hid (HW.out.alloc HW.out.size (.cells #[strV y.1, strV y.2] 91))
      have B3 := Lib.hid (HW1.out.alloc HW1.out.size (.cells #[strV y.1, strV y.2] 91))
      have KC := Lib.hid (clone_any y.2 (wr.alloc (.cells #[strV y.1, strV y.2] 91)) (HV.out y (List.mem_of_getElem? hy)))
      clear hy hc
      by_cases hkey : y.1 = key
      · have HR2 : Hid (R = some y.2) := Lib.hid (by
          rw [HE2.out]
          have : L.find? (fun y => decide (y.1 = key)) = some y := by
            rw [List.find?_eq_some_iff_getElem]
            refine ⟨by simpa using hkey, k, hlt, (List.getElem?_eq_some_iff.1 HY.out).2, fun j hj => ?_⟩
            have := HN.out j _ hj (List.getElem?_eq_getElem (by omega))
            simpa using this
          rw [this]
          rfl)
        subst hkey
        go_wp2_with fail
        refine (KC.out).mono ?_
        rintro e w3 ⟨rfl, hb3⟩
        have B4 := Lib.hid (B2.out.trans (hb3.mono B2.out.size))
        clear hb3 KC
        go_wp2
        go_ret2
        rw [HR2.out]
        exact ⟨rfl, B4.out⟩
      · have hkb : (y.1 == key) = false := beq_eq_false_iff_ne.2 hkey
        go_wp2_with fail
        go_roundw
        case rel =>
          refine ⟨k + 1, by omega, by go_num, fun j z hj hz => ?_, B2.out, B3.out⟩
          by_cases hjk : j = k
          · subst hjk
            rw [HY.out] at hz
            cases hz
            exact hkey
          · exact HN.out j z (by omega) hz
        case measure => simp [intOf]; omega
    · obtain rfl : k = L.length := by omega
      have HR2 : Hid (R = none) := Lib.hid (by
        rw [HE2.out]
        have : L.find? (fun y => decide (y.1 = key)) = none := by
          rw [List.find?_eq_none]
          intro y hy
          obtain ⟨j, hj⟩ := List.mem_iff_getElem?.1 hy
          have := HN.out j y (List.getElem?_eq_some_iff.1 hj).1 hj
          simpa using this
        rw [this]
        rfl)
      go_wp2
      go_ret2
      rw [HR2.out]
      exact ⟨rfl, HW.out⟩
end Go.Proofs.YtfnigiiocapceaaGreat

namespace Go.Proofs.YtfnigiiocapceaaGreat
open Go.RowKit

/-- What isOwner tells. -/
def ownerB (ns : List NodeD) (ps : List PodD) (os : List OwnD) (p : List Int) (k : Int) : Bool := decide (placeE ns ps os p = 0) && decide (0 ≤ k ∧ k < (os.length : Int))

set_option maxRecDepth 100000 in
set_option maxHeartbeats 1000000 in
theorem isOwner_any (A B C P : Option Addr) (ca cb cc cp : Nat) (ns : List NodeD) (ps : List PodD) (os : List OwnD) (p : List Int) (k : Int) (w : World) (h : SnapAt w A B C ca cb cc ns ps os) (hp : IntsAt w P cp p) :
    Calls Tryz.prog 42 #[snapV A B C ca cb cc ns ps os, .slice P p.length cp, .int .i64 k] w fun e w' => e = .returned (.bool (ownerB ns ps os p k)) ∧ Below w.heap.size w w' := by
  have B0 : Hid (Below w.heap.size w (w.alloc (.cells (snapC A B C ca cb cc ns ps os) 26))) := Lib.hid (below1 w _)
  have S0 : Hid (Blk (w.alloc (.cells (snapC A B C ca cb cc ns ps os) 26)) w.heap.size (snapC A B C ca cb cc ns ps os) 26) := Lib.hid (Blk.new w _ _)
  have KC := Lib.hid (pcheck_any A B C P ca cb cc cp ns ps os p _ (h.below B0.out) (hp.below B0.out))
  have hl0 := Blk.lt S0.out
  have KP : Hid (∀ w', Calls Tryz.prog 39 #[.int .i64 k, .int .i64 (os.length : Int)] w' fun e w'' => e = .returned (.bool (decide (0 ≤ k ∧ k < (os.length : Int)))) ∧ w'' = w') := Lib.hid (fun w' => isPlace_any k os.length w')
  have E : Hid (ownerB ns ps os p k = (decide (placeE ns ps os p = 0) && decide (0 ≤ k ∧ k < (os.length : Int)))) := Lib.hid rfl
  generalize ownerB ns ps os p k = R at E ⊢
  generalize decide (0 ≤ k ∧ k < (os.length : Int)) = D at E KP
  generalize placeE ns ps os p = v0 at KC E
  clear h hp
  go_enter Tryz.func42, Tryz.ntmps42
  go_wp2_with fail
  refine (KC.out).mono ?_
  rintro e w1 ⟨rfl, hb⟩
  clear KC
  have S1 := Lib.hid (S0.out.below hb (by omega))
  have B1 := Lib.hid (B0.out.trans (hb.mono (by omega)))
  clear hb S0 B0 hl0
  have s2 : w1.cell? ⟨w.heap.size, 2, none⟩ = some (.slice C os.length cc) := Blk.cell S1.out 2
  by_cases hv : v0 = 0
  · subst hv
    have HE : Hid (R = D) := Lib.hid (by rw [E.out]; simp)
    clear E
    go_wp2_with fail
    refine (KP.out _).mono ?_
    rintro e w2 ⟨rfl, rfl⟩
    go_wp2
    go_ret
    exact ⟨La.retB HE.out.symm, B1.out⟩
  · have HE : Hid (R = false) := Lib.hid (by rw [E.out, decide_eq_false hv]; rfl)
    have hvb : (v0 == 0) = false := by simpa using hv
    clear E
    go_wp2
    go_ret
    exact ⟨La.retB HE.out.symm, B1.out⟩

/-- What Domain tells. -/
def domE (ns : List NodeD) (ps : List PodD) (os : List OwnD) (k : Int) (key : List UInt8) : Option (List UInt8) := if checkS ns ps os = 0 then domF ns k key else none

/-- Values of labels of a cluster that may be are short. -/
def Short (ns : List NodeD) : Prop := ∀ x ∈ ns, ∀ y ∈ x.labels, y.2.length ≤ 281474976710656

set_option maxRecDepth 100000 in
set_option maxHeartbeats 1000000 in
theorem domain_any (A B C : Option Addr) (ca cb cc : Nat) (ns : List NodeD) (ps : List PodD) (os : List OwnD) (k : Int) (key : List UInt8) (w : World) (h : SnapAt w A B C ca cb cc ns ps os) (hsh : checkS ns ps os = 0 → Short ns) :
    Calls Tryz.prog 23 #[snapV A B C ca cb cc ns ps os, .int .i64 k, strV key] w fun e w' => e = .returned (.tuple #[strV ((domE ns ps os k key).getD []), .bool (domE ns ps os k key).isSome]) ∧ Below w.heap.size w w' := by
  have H := Lib.hid h
  have B0 : Hid (Below w.heap.size w (w.alloc (.cells (snapC A B C ca cb cc ns ps os) 26))) := Lib.hid (below1 w _)
  have S0 : Hid (Blk (w.alloc (.cells (snapC A B C ca cb cc ns ps os) 26)) w.heap.size (snapC A B C ca cb cc ns ps os) 26) := Lib.hid (Blk.new w _ _)
  have KC := Lib.hid (check_any A B C ca cb cc ns ps os _ (h.below B0.out))
  have hl0 := Blk.lt S0.out
  have E : Hid (domE ns ps os k key = if checkS ns ps os = 0 then domF ns k key else none) := Lib.hid rfl
  generalize domE ns ps os k key = R at E ⊢
  have KD := Lib.hid (fun (hc : checkS ns ps os = 0) w1 (hb : Below w.heap.size w w1) => domainOf_any A B C ca cb cc ps.length os.length ns k key w1 (h.below hb).n (hsh hc))
  generalize checkS ns ps os = v0 at KC E KD
  generalize domF ns k key = D at KD E
  clear h hsh
  go_enter Tryz.func23, Tryz.ntmps23
  go_wp2_with fail
  refine (KC.out).mono ?_
  rintro e w1 ⟨rfl, hb⟩
  clear KC
  have S1 := Lib.hid (S0.out.below hb (by omega))
  have B1 := Lib.hid (B0.out.trans (hb.mono (by omega)))
  clear hb S0 B0 hl0
  have s0 : w1.cell? ⟨w.heap.size, 0, none⟩ = some (.slice A ns.length ca) := Blk.cell S1.out 0
  have s1 : w1.cell? ⟨w.heap.size, 1, none⟩ = some (.slice B ps.length cb) := Blk.cell S1.out 1
  have s2 : w1.cell? ⟨w.heap.size, 2, none⟩ = some (.slice C os.length cc) := Blk.cell S1.out 2
  by_cases hv : v0 = 0
  · subst hv
    have HE : Hid (R = D) := Lib.hid (by rw [E.out, if_pos rfl])
    have K1 := Lib.hid (KD.out rfl w1 B1.out)
    clear E KD
    go_wp2_with fail
    refine (K1.out).mono ?_
    rintro e w2 ⟨rfl, hb⟩
    have B2 := Lib.hid (B1.out.trans (hb.mono B1.out.size))
    clear hb K1
    go_wp2
    go_ret2
    rw [HE.out]
    exact ⟨rfl, B2.out⟩
  · have HE : Hid (R = none) := Lib.hid (by rw [E.out, if_neg hv])
    have hvb : (v0 != 0) = true := by simpa using hv
    clear E KD
    go_wp2
    go_ret2
    rw [HE.out]
    exact ⟨rfl, B1.out⟩
end Go.Proofs.YtfnigiiocapceaaGreat
