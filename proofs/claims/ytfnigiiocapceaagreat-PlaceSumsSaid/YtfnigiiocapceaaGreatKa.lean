/- Lists of numbers in memory; whether a place is one, whether a node takes pods. No conditions but that what is read lies in memory. May a placement be? The contract of Check. Condition: the cluster and the numbers lie in memory. A placement in which one pod is elsewhere; what evict and bind answer. Condition: the numbers lie in memory. What a step makes of a placement: the contracts of evict, bind and Apply. Condition: the cluster and the numbers lie in memory. Lists of numbers held against each other; what is unlike in two of them. Condition: they lie in memory. -/
import Derived.Test.YtfnigiiocapceaaGreatNa
import Derived.Test.YtfnigiiocapceaaGreatShelf

namespace Go.Proofs.YtfnigiiocapceaaGreat
open Go.RowKit

abbrev intsC (l : List Int) : List Value := l.map (Value.int .i64)
theorem atI {w : World} {A : Option Addr} {l : List Int} (h : La.SlAt w A (intsC l)) {k : Nat} {x : Int} (hk : l[k]? = some x) :
    ∃ b o, A = some ⟨b, o, none⟩ ∧ b < w.heap.size ∧ w.cell? ⟨b, o + k, none⟩ = some (.int .i64 x) := by
  obtain ⟨b, o, hA, h0⟩ := h k (.int .i64 x) (by simp [intsC, hk])
  exact ⟨b, o, hA, World.block_lt_of_cell? w _ h0, h0⟩
/-- A list of numbers as a value. -/
structure IntsAt (w : World) (A : Option Addr) (c : Nat) (l : List Int) : Prop where
  cells : La.SlAt w A (intsC l)
  le : l.length ≤ c
  most : c ≤ 9223372036854775807
theorem IntsAt.below {w w' : World} {A : Option Addr} {c : Nat} {l : List Int} (h : IntsAt w A c l) (hb : Below w.heap.size w w') : IntsAt w' A c l := ⟨h.cells.below hb, h.le, h.most⟩
theorem IntsAt.own {w : World} {base : Nat} {A : Option Addr} {c : Nat} {l : List Int} (h : w.ownsRow base 3 1 (.slice A l.length c) l.length (intsC l)) : IntsAt w A c l := by
  have hc := capOwn h
  have hm : maxLen ≤ 9223372036854775807 := by unfold maxLen; omega
  exact ⟨La.own_slat h, hc.1, Nat.le_trans hc.2 hm⟩
theorem IntsAt.nil (w : World) : IntsAt w none 0 [] := ⟨fun j y h => by simp at h, Nat.le_refl _, by omega⟩

set_option maxHeartbeats 400000 in
theorem isPlace_any (i c : Int) (w : World) :
    Calls Tryz.prog 39 #[.int .i64 i, .int .i64 c] w fun e w' => e = .returned (.bool (decide (0 ≤ i ∧ i < c))) ∧ w' = w := by
  by_cases h0 : 0 ≤ i
  · go_enter Tryz.func39, Tryz.ntmps39
    go_wp2
    go_ret
    exact ⟨La.retB (by simp [h0]), rfl⟩
  · go_enter Tryz.func39, Tryz.ntmps39
    go_wp2
    go_ret
    exact ⟨La.retB (by symm; simp; omega), rfl⟩

set_option maxHeartbeats 1000000 in
theorem ptakes_any (A B C : Option Addr) (ca cb cc lb lc : Nat) (l : List NodeD) (k : Int) (w : World) (hs : La.SlAt w A (cellsN l)) :
    Calls Tryz.prog 37 #[.agg #[.slice A l.length ca, .slice B lb cb, .slice C lc cc], .int .i64 k] w fun e w' => e = .returned (.bool (tpB l k)) ∧ Below w.heap.size w w' := by
  have B0 := Lib.hid (below1 w (.cells #[.slice A l.length ca, .slice B lb cb, .slice C lc cc] 26))
  by_cases h0 : 0 ≤ k ∧ k < (l.length : Int)
  · have KP : Hid (∀ w', Calls Tryz.prog 39 #[.int .i64 k, .int .i64 (l.length : Int)] w' fun e w'' => e = .returned (.bool true) ∧ w'' = w') := Lib.hid (fun w' => by
      have := isPlace_any k l.length w'
      rwa [decide_eq_true h0] at this)
    obtain ⟨n, rfl⟩ : ∃ n : Nat, k = (n : Int) := ⟨k.toNat, by omega⟩
    have hn : n < l.length := by omega
    obtain ⟨x, hx⟩ : ∃ x, l[n]? = some x := ⟨l[n], List.getElem?_eq_getElem hn⟩
    obtain ⟨b, o, hA, hbl, c0, c1, c2, c3, c4, c5, c6, c7, c8, c9⟩ := atN (hs.below B0.out) hx
    subst hA
    have E : Hid (tpB l (n : Int) = !x.lost) := Lib.hid (by unfold tpB; rw [Int.toNat_natCast, hx]; simp)
    have n0 : (0 : Int) ≤ (n : Int) := by omega
    have n1 : (n : Int) < (l.length : Int) := by omega
    have hnot : ∀ (x : Bool) (w : World), (Op.unary .not (.bool x)).run Tryz.prog w = .ok (.bool (!x)) w := fun _ _ => rfl
    clear hs hx h0 c0 c1 c2 c3 c4 c5 c6 c7 c8
    go_enter Tryz.func37, Tryz.ntmps37
    go_wp2_with fail
    refine (KP.out _).mono ?_
    rintro e w1 ⟨rfl, rfl⟩
    go_wp2
    all_goals
      go_ret
      first
        | exact ⟨La.retB E.out.symm, B0.out⟩
        | exact ⟨La.retB (by rw [E.out]; simp_all), B0.out⟩
  · have KP : Hid (∀ w', Calls Tryz.prog 39 #[.int .i64 k, .int .i64 (l.length : Int)] w' fun e w'' => e = .returned (.bool false) ∧ w'' = w') := Lib.hid (fun w' => by
      have := isPlace_any k l.length w'
      rwa [decide_eq_false h0] at this)
    have E : Hid (tpB l k = false) := Lib.hid (by
      unfold tpB
      by_cases hk : 0 ≤ k
      · rw [List.getElem?_eq_none (by omega)]
        simp
      · rw [decide_eq_false hk]
        rfl)
    clear hs h0
    go_enter Tryz.func37, Tryz.ntmps37
    go_wp2_with fail
    refine (KP.out _).mono ?_
    rintro e w1 ⟨rfl, rfl⟩
    go_wp2
    go_ret
    exact ⟨La.retB E.out.symm, B0.out⟩
end Go.Proofs.YtfnigiiocapceaaGreat

namespace Go.Proofs.YtfnigiiocapceaaGreat
open Go.RowKit

/-- A number that a placement may have. -/
def okB (ns : List NodeD) (k : Int) : Bool := decide (k = -1) || tpB ns k
/-- What Check tells. -/
def placeE (ns : List NodeD) (ps : List PodD) (os : List OwnD) (p : List Int) : Int := if checkS ns ps os = 0 then (if p.length = ps.length then (if p.all (okB ns) then 0 else 2) else 2) else checkS ns ps os

set_option maxRecDepth 100000 in
set_option maxHeartbeats 4000000 in
theorem pcheck_any (A B C P : Option Addr) (ca cb cc cp : Nat) (ns : List NodeD) (ps : List PodD) (os : List OwnD) (p : List Int) (w : World) (h : SnapAt w A B C ca cb cc ns ps os) (hp : IntsAt w P cp p) :
    Calls Tryz.prog 11 #[snapV A B C ca cb cc ns ps os, .slice P p.length cp] w fun e w' => e = .returned (.int .i64 (placeE ns ps os p)) ∧ Below w.heap.size w w' := by
  have H := Lib.hid h
  have HP := Lib.hid hp
  have B0 : Hid (Below w.heap.size w (w.alloc (.cells (snapC A B C ca cb cc ns ps os) 26))) := Lib.hid (below1 w _)
  have S0 : Hid (Blk (w.alloc (.cells (snapC A B C ca cb cc ns ps os) 26)) w.heap.size (snapC A B C ca cb cc ns ps os) 26) := Lib.hid (Blk.new w _ _)
  have hlp := H.out.lp
  have KC := Lib.hid (check_any A B C ca cb cc ns ps os (w.alloc (.cells (snapC A B C ca cb cc ns ps os) 26)) (H.out.below B0.out))
  have E : Hid (placeE ns ps os p = if checkS ns ps os = 0 then (if p.length = ps.length then (if p.all (okB ns) then 0 else 2) else 2) else checkS ns ps os) := Lib.hid rfl
  have KT := Lib.hid (fun k w' (hb : Below w.heap.size w w') => ptakes_any A B C ca cb cc ps.length os.length ns k w' (H.out.below hb).n.cells)
  generalize placeE ns ps os p = R at E ⊢
  generalize checkS ns ps os = v0 at KC E
  clear h H hp
  have hlt0 : w.heap.size < (w.alloc (.cells (snapC A B C ca cb cc ns ps os) 26)).heap.size := Blk.lt S0.out
  go_enter Tryz.func11, Tryz.ntmps11
  go_wp2_with fail
  refine (KC.out).mono ?_
  rintro e w1 ⟨rfl, hb⟩
  clear KC
  have S1 := Lib.hid (S0.out.below hb hlt0)
  have B1 := Lib.hid (B0.out.trans (hb.mono (Nat.le_of_lt hlt0)))
  clear hb
  have hl1 := Blk.lt S1.out
  have s0 : w1.cell? ⟨w.heap.size, 0, none⟩ = some (.slice A ns.length ca) := Blk.cell S1.out 0
  have s1 : w1.cell? ⟨w.heap.size, 1, none⟩ = some (.slice B ps.length cb) := Blk.cell S1.out 1
  have s2 : w1.cell? ⟨w.heap.size, 2, none⟩ = some (.slice C os.length cc) := Blk.cell S1.out 2
  by_cases hv : v0 = 0
  case neg =>
    have HE : Hid (R = v0) := Lib.hid (by rw [E.out, if_neg hv])
    have hvb : (v0 == 0) = false := by simpa using hv
    go_wp2
    go_ret
    exact ⟨La.retI HE.out.symm, B1.out⟩
  subst hv
  by_cases hn : p.length = ps.length
  case neg =>
    have HE : Hid (R = 2) := Lib.hid (by rw [E.out, if_pos rfl, if_neg hn])
    have hnb : ((p.length : Int) == (ps.length : Int)) = false := by simp; omega
    have hni : ¬ ((p.length : Int) = (ps.length : Int)) := by omega
    go_wp2
    go_ret
    exact ⟨La.retI HE.out.symm, B1.out⟩
  have E2 : Hid (R = if p.all (okB ns) then 0 else 2) := Lib.hid (by rw [E.out, if_pos rfl, if_pos hn])
  have hnb : ((p.length : Int) == (ps.length : Int)) = true := by simp; omega
  have hni : (p.length : Int) = (ps.length : Int) := by omega
  clear E
  go_wp2_with fail
  go_loopw [21] (fun i wr => ∃ k : Nat, k ≤ ps.length ∧ i = .int .i64 k ∧ (∀ j x, j < k → p[j]? = some x → okB ns x = true) ∧ Below w.heap.size w wr ∧ Blk wr w.heap.size (snapC A B C ca cb cc ns ps os) 26) (fun i _ => ps.length - (intOf i).toNat)
  case atStart => exact ⟨0, by omega, rfl, fun j x h => by omega, B1.out, S1.out⟩
  case round =>
    clear s0 s1 s2 B1 S1 hl1
    obtain ⟨k, hk, rfl, hnk, hb, hsk⟩ := hrel
    have HN := Lib.hid hnk
    have HB := Lib.hid hb
    have HS := Lib.hid hsk
    clear hnk hb hsk
    have s0 : wr.cell? ⟨w.heap.size, 0, none⟩ = some (.slice A ns.length ca) := Blk.cell HS.out 0
    have s1 : wr.cell? ⟨w.heap.size, 1, none⟩ = some (.slice B ps.length cb) := Blk.cell HS.out 1
    have s2 : wr.cell? ⟨w.heap.size, 2, none⟩ = some (.slice C os.length cc) := Blk.cell HS.out 2
    by_cases hlt : k < ps.length
    · obtain ⟨x, hx⟩ : ∃ x, p[k]? = some x := ⟨p[k]'(by omega), List.getElem?_eq_getElem (by omega)⟩
      obtain ⟨b, o, hA, hbl, c0⟩ := atI (HP.out.below HB.out).cells hx
      subst hA
      have HX := Lib.hid hx
      have k0 : (0 : Int) ≤ (k : Int) := by omega
      have k1 : (k : Int) < (ps.length : Int) := by omega
      clear hx
      by_cases hm : x = -1
      · subst hm
        go_wp2_with fail
        go_roundw
        case rel =>
          refine ⟨k + 1, by omega, by go_num, fun j y hj hy => ?_, HB.out, HS.out⟩
          by_cases hjk : j = k
          · subst hjk
            rw [HX.out] at hy
            cases hy
            rfl
          · exact HN.out j y (by omega) hy
        case measure => simp [intOf]; omega
      · have hmb : (x != -1) = true := by simpa using hm
        have KI := Lib.hid (KT.out x wr HB.out)
        obtain ⟨r, hr⟩ : ∃ r, tpB ns x = r := ⟨_, rfl⟩
        have Hr := Lib.hid hr
        rw [hr] at KI
        clear hr
        have Hm := Lib.hid hm
        clear hm
        go_wp2_with fail
        refine (KI.out).mono ?_
        rintro e w3 ⟨rfl, hb3⟩
        have hlw : w.heap.size < wr.heap.size := Blk.lt HS.out
        have B3 := Lib.hid (HB.out.trans (hb3.mono HB.out.size))
        have S3 := Lib.hid (HS.out.below hb3 hlw)
        clear hb3 KI c0 s0 s1 s2
        cases r
        · have HE : Hid (2 = R) := Lib.hid (by
            rw [E2.out, if_neg]
            rw [List.all_eq_true]
            intro hall
            have := hall x (List.mem_of_getElem? HX.out)
            unfold okB at this
            rw [Hr.out, decide_eq_false Hm.out] at this
            cases this)
          go_wp2
          go_ret
          exact ⟨La.retI HE.out, B3.out⟩
        · go_wp2
          go_roundw
          case rel =>
            refine ⟨k + 1, by omega, by go_num, fun j y hj hy => ?_, B3.out, S3.out⟩
            by_cases hjk : j = k
            · subst hjk
              rw [HX.out] at hy
              cases hy
              unfold okB
              rw [Hr.out, Bool.or_true]
            · exact HN.out j y (by omega) hy
          case measure => simp [intOf]; omega
    · obtain rfl : k = ps.length := by omega
      have HE : Hid (0 = R) := Lib.hid (by
        rw [E2.out, if_pos]
        rw [List.all_eq_true]
        intro y hy
        obtain ⟨j, hj⟩ := List.mem_iff_getElem?.1 hy
        refine HN.out j y ?_ hj
        have := (List.getElem?_eq_some_iff.1 hj).1
        omega)
      go_wp2
      go_ret
      exact ⟨La.retI HE.out, HB.out⟩
end Go.Proofs.YtfnigiiocapceaaGreat

namespace Go.Proofs.YtfnigiiocapceaaGreat
open Go.RowKit

theorem own_base {w : World} {base base' : Nat} {e : TypeId} {size : Nat} {v : Value} {k : Nat} {xs : List Value} (h : w.ownsRow base e size v k xs) (hb : base' ≤ base) : w.ownsRow base' e size v k xs := by
  obtain ⟨hl, h1 | ⟨g, cap, cur, hv, h0, hr⟩⟩ := h
  · exact ⟨hl, .inl h1⟩
  · exact ⟨hl, .inr ⟨g, cap, cur, hv, Nat.le_trans hb h0, hr⟩⟩
theorem own_put {w : World} {base : Nat} {e : TypeId} {g n cap : Nat} {xs : List Value} (h : w.ownsRow base e 1 (.slice (some ⟨g, 0, none⟩) n cap) n xs) (k : Nat) (v : Value) :
    (w.setCell ⟨g, k, none⟩ v).ownsRow base e 1 (.slice (some ⟨g, 0, none⟩) n cap) n (xs.set k v) := by
  obtain ⟨hl, h1 | ⟨g', cap', cur, hv, hb, hg, h1, h2, h3, h4⟩⟩ := h
  · cases h1.1
  · cases hv
    refine ⟨by simpa using hl, .inr ⟨g, cap, cur.setIfInBounds k v, rfl, hb, heap_setCell_same _ g _ _ _ _ hg, h1, h2, by simpa using h3, ?_⟩⟩
    rw [Array.toList_setIfInBounds, List.take_set, h4]
theorem own_free {w : World} {base : Nat} {e : TypeId} {g n cap : Nat} {xs : List Value} (h : w.ownsRow base e 1 (.slice (some ⟨g, 0, none⟩) n cap) n xs) (k : Nat) :
    w.frozen? ⟨g, k, none⟩ = false := by
  obtain ⟨hl, h1 | ⟨g', cap', cur, hv, hb, hg, h1, h2, h3, h4⟩⟩ := h
  · cases h1.1
  · cases hv
    exact Blk.free hg k
theorem ints_set (l : List Int) (k : Nat) (x : Int) : (intsC l).set k (.int .i64 x) = intsC (l.set k x) := by simp [intsC, List.map_set]

set_option maxHeartbeats 1000000 in
theorem with_any (P : Option Addr) (cp : Nat) (p : List Int) (k : Nat) (node : Int) (w : World) (hp : IntsAt w P cp p) (hk : k < p.length) (hfew : p.length ≤ 1000) :
    Calls Tryz.prog 72 #[.slice P p.length cp, .int .i64 (k : Int), .int .i64 node] w fun e w' => ∃ v, e = .returned v ∧ w'.ownsRow w.heap.size 3 1 v (p.set k node).length (intsC (p.set k node)) ∧ Below w.heap.size w w' := by
  obtain ⟨x, hx⟩ : ∃ x, p[k]? = some x := ⟨p[k], List.getElem?_eq_getElem hk⟩
  obtain ⟨b, o, hA, hbl, _⟩ := atI hp.cells hx
  subst hA
  have KC := Lib.hid (Tryz.slices_Clone_int b o p.length cp p w (Nat.le_refl _) (by omega) (fun j hj => by
    obtain ⟨b', o', hA', _, hc⟩ := atI hp.cells (k := j) (x := p[j]) (List.getElem?_eq_getElem hj)
    cases hA'
    rw [hc]
    congr 2
    rw [List.getD_eq_getElem?_getD, List.getElem?_eq_getElem hj]
    rfl))
  have k0 : (0 : Int) ≤ (k : Int) := by omega
  have k1 : (k : Int) < (p.length : Int) := by omega
  have HX := Lib.hid hx
  clear hp hx
  go_enter Tryz.func72, Tryz.ntmps72
  go_wp2_with fail
  refine (KC.out).mono ?_
  rintro e w1 ⟨v, rfl, ho, hn, hb⟩
  rw [List.take_length] at ho
  obtain ⟨A1, c1, rfl, hm⟩ := La.own_slice ho
  cases A1 with
  | none =>
    rcases ho.2 with ⟨_, h⟩ | ⟨g, cap, cur, hv, _⟩
    · omega
    · cases hv
  | some a =>
    obtain ⟨g, hg⟩ : ∃ g, a = ⟨g, 0, none⟩ := by
      rcases ho.2 with ⟨_, h⟩ | ⟨g, cap, cur, hv, _⟩
      · omega
      · exact ⟨g, by cases hv; rfl⟩
    subst hg
    have hfr := own_free ho k
    obtain ⟨b2, o2, hA2, hbl2, hcur⟩ := atI (La.own_slat ho) HX.out
    cases hA2
    rw [Nat.zero_add] at hcur
    have hgb : w.heap.size ≤ g := by
      rcases ho.2 with ⟨_, h⟩ | ⟨g', cap, cur, hv, hb', _⟩
      · omega
      · cases hv; exact hb'
    have HO := Lib.hid (own_put ho k (.int .i64 node))
    have HB := Lib.hid (hb.setCell (p := ⟨g, k, none⟩) hgb (.int .i64 node))
    clear ho hb hn KC
    go_wp2
    go_ret
    refine ⟨_, rfl, ?_, HB.out⟩
    have := HO.out
    rw [ints_set] at this
    rw [List.length_set]
    exact this
end Go.Proofs.YtfnigiiocapceaaGreat

namespace Go.Proofs.YtfnigiiocapceaaGreat
open Go.RowKit

def evictF (p : List Int) (pd nd : Int) : List Int × Int :=
  if 0 ≤ pd ∧ pd < (p.length : Int) then (if nd = 0 then (if p[pd.toNat]? = some (-1) then ([], 110) else (p.set pd.toNat (-1), 0)) else ([], 9)) else ([], 9)
/-- Is that node lost? -/
def lostB (ns : List NodeD) (k : Nat) : Bool := match ns[k]? with
  | none => false
  | some x => x.lost
def bindF (ns : List NodeD) (p : List Int) (pd nd : Int) : List Int × Int :=
  if 0 ≤ pd ∧ pd < (p.length : Int) then (if 0 ≤ nd ∧ nd < (ns.length : Int) then (if p[pd.toNat]? = some (-1) then (if lostB ns nd.toNat then ([], 110) else (p.set pd.toNat nd, 0)) else ([], 110)) else ([], 9)) else ([], 9)
/-- What Apply answers. -/
def applyF (ns : List NodeD) (ps : List PodD) (os : List OwnD) (p : List Int) (kd pd nd : Int) : List Int × Int :=
  if placeE ns ps os p = 0 then (if kd = 1 then evictF p pd nd else if kd = 2 then bindF ns p pd nd else ([], 2)) else ([], placeE ns ps os p)
abbrev stepV (kd pd nd : Int) : Value := .agg #[.int .i64 kd, .int .i64 pd, .int .i64 nd]
/-- What it is to answer a row and a number. -/
abbrev RowNo (w : World) (F : List Int × Int) (e : Ending) (w' : World) : Prop := ∃ v, e = .returned (.tuple #[v, .int .i64 F.2]) ∧ w'.ownsRow w.heap.size 3 1 v F.1.length (intsC F.1) ∧ Below w.heap.size w w'
theorem nil_post {w w' : World} {c : Int} {F : List Int × Int} (hF : F = ([], c)) (hb : Below w.heap.size w w') : RowNo w F (.returned (.tuple #[.slice none 0 0, .int .i64 c])) w' := by
  subst hF
  exact ⟨_, rfl, World.ownsRow_nil _ _ _ _, hb⟩

set_option maxHeartbeats 1000000 in
theorem evict_any (P : Option Addr) (cp : Nat) (p : List Int) (kd pd nd : Int) (w : World) (hp : IntsAt w P cp p) (hfew : p.length ≤ 1000) :
    Calls Tryz.prog 54 #[.slice P p.length cp, stepV kd pd nd] w fun e w' => RowNo w (evictF p pd nd) e w' := by
  have B0 := Lib.hid (below1 w (.cells #[.int .i64 kd, .int .i64 pd, .int .i64 nd] 50))
  have S0 : Hid (Blk (w.alloc (.cells #[.int .i64 kd, .int .i64 pd, .int .i64 nd] 50)) w.heap.size #[.int .i64 kd, .int .i64 pd, .int .i64 nd] 50) := Lib.hid (Blk.new w _ _)
  by_cases h0 : 0 ≤ pd ∧ pd < (p.length : Int)
  case neg =>
    have KP : Hid (∀ w', Calls Tryz.prog 39 #[.int .i64 pd, .int .i64 (p.length : Int)] w' fun e w'' => e = .returned (.bool false) ∧ w'' = w') := Lib.hid (fun w' => by
      have := isPlace_any pd p.length w'
      rwa [decide_eq_false h0] at this)
    have E : Hid (evictF p pd nd = ([], 9)) := Lib.hid (by unfold evictF; rw [if_neg h0])
    clear hp h0
    go_enter Tryz.func54, Tryz.ntmps54
    go_wp2_with fail
    refine (KP.out _).mono ?_
    rintro e w1 ⟨rfl, rfl⟩
    go_wp2
    go_ret2
    exact nil_post E.out B0.out
  have KP : Hid (∀ w', Calls Tryz.prog 39 #[.int .i64 pd, .int .i64 (p.length : Int)] w' fun e w'' => e = .returned (.bool true) ∧ w'' = w') := Lib.hid (fun w' => by
    have := isPlace_any pd p.length w'
    rwa [decide_eq_true h0] at this)
  obtain ⟨n, rfl⟩ : ∃ n : Nat, pd = (n : Int) := ⟨pd.toNat, by omega⟩
  have hn : n < p.length := by omega
  have n0 : (0 : Int) ≤ (n : Int) := by omega
  have n1 : (n : Int) < (p.length : Int) := by omega
  have E1 : Hid (evictF p (n : Int) nd = if nd = 0 then (if p[n]? = some (-1) then ([], 110) else (p.set n (-1), 0)) else ([], 9)) := Lib.hid (by unfold evictF; rw [if_pos h0, Int.toNat_natCast])
  clear h0
  have s0 := Blk.cell S0.out 0
  have s1 := Blk.cell S0.out 1
  have s2 := Blk.cell S0.out 2
  by_cases hd : nd = 0
  case neg =>
    have E : Hid (evictF p (n : Int) nd = ([], 9)) := Lib.hid (by rw [E1.out, if_neg hd])
    have hdb : (nd != 0) = true := by simpa using hd
    clear hp E1
    go_enter Tryz.func54, Tryz.ntmps54
    go_wp2_with fail
    refine (KP.out _).mono ?_
    rintro e w1 ⟨rfl, rfl⟩
    go_wp2
    go_ret2
    exact nil_post E.out B0.out
  subst hd
  obtain ⟨x, hx⟩ : ∃ x, p[n]? = some x := ⟨p[n], List.getElem?_eq_getElem hn⟩
  have KW := Lib.hid (with_any P cp p n (-1) (w.alloc (.cells #[.int .i64 kd, .int .i64 (n : Int), .int .i64 0] 50)) (hp.below B0.out) hn hfew)
  obtain ⟨b, o, hA, hbl, c0⟩ := atI (hp.below B0.out).cells hx
  subst hA
  by_cases hm : x = -1
  case pos =>
    subst hm
    have E : Hid (evictF p (n : Int) 0 = ([], 110)) := Lib.hid (by rw [E1.out, if_pos rfl, if_pos hx])
    clear hp E1 hx KW
    go_enter Tryz.func54, Tryz.ntmps54
    go_wp2_with fail
    refine (KP.out _).mono ?_
    rintro e w1 ⟨rfl, rfl⟩
    go_wp2
    go_ret2
    exact nil_post E.out B0.out
  have E : Hid (evictF p (n : Int) 0 = (p.set n (-1), 0)) := Lib.hid (by rw [E1.out, if_pos rfl, if_neg (by rw [hx]; simpa using hm)])
  have hmb : (x == -1) = false := by simpa using hm
  clear hp E1 hx
  go_enter Tryz.func54, Tryz.ntmps54
  go_wp2_with fail
  refine (KP.out _).mono ?_
  rintro e w1 ⟨rfl, rfl⟩
  go_wp2_with fail
  refine (KW.out).mono ?_
  rintro e w2 ⟨v, rfl, ho, hb⟩
  have HO := Lib.hid (own_base ho B0.out.size)
  have HB := Lib.hid (B0.out.trans (hb.mono B0.out.size))
  clear ho hb KW
  go_wp2
  go_ret2
  rw [E.out]
  exact ⟨_, rfl, HO.out, HB.out⟩

set_option maxHeartbeats 1000000 in
theorem bind_any (A B C P : Option Addr) (ca cb cc cp lb lc : Nat) (ns : List NodeD) (p : List Int) (kd pd nd : Int) (w : World) (hs : La.SlAt w A (cellsN ns)) (hp : IntsAt w P cp p) (hfew : p.length ≤ 1000) :
    Calls Tryz.prog 55 #[.agg #[.slice A ns.length ca, .slice B lb cb, .slice C lc cc], .slice P p.length cp, stepV kd pd nd] w fun e w' => RowNo w (bindF ns p pd nd) e w' := by
  have B0 := Lib.hid (Qu.below2 w (.cells #[.slice A ns.length ca, .slice B lb cb, .slice C lc cc] 26) (.cells #[.int .i64 kd, .int .i64 pd, .int .i64 nd] 50))
  by_cases h0 : 0 ≤ pd ∧ pd < (p.length : Int)
  case neg =>
    have KP : Hid (∀ w', Calls Tryz.prog 39 #[.int .i64 pd, .int .i64 (p.length : Int)] w' fun e w'' => e = .returned (.bool false) ∧ w'' = w') := Lib.hid (fun w' => by
      have := isPlace_any pd p.length w'
      rwa [decide_eq_false h0] at this)
    have E : Hid (bindF ns p pd nd = ([], 9)) := Lib.hid (by unfold bindF; rw [if_neg h0])
    clear hp h0 hs
    go_enter Tryz.func55, Tryz.ntmps55
    go_wp2_with fail
    refine (KP.out _).mono ?_
    rintro e w1 ⟨rfl, rfl⟩
    go_wp2
    go_ret2
    exact nil_post E.out B0.out
  have KP : Hid (∀ w', Calls Tryz.prog 39 #[.int .i64 pd, .int .i64 (p.length : Int)] w' fun e w'' => e = .returned (.bool true) ∧ w'' = w') := Lib.hid (fun w' => by
    have := isPlace_any pd p.length w'
    rwa [decide_eq_true h0] at this)
  obtain ⟨n, rfl⟩ : ∃ n : Nat, pd = (n : Int) := ⟨pd.toNat, by omega⟩
  have hn : n < p.length := by omega
  have n0 : (0 : Int) ≤ (n : Int) := by omega
  have n1 : (n : Int) < (p.length : Int) := by omega
  have E1 : Hid (bindF ns p (n : Int) nd = if 0 ≤ nd ∧ nd < (ns.length : Int) then (if p[n]? = some (-1) then (if lostB ns nd.toNat then ([], 110) else (p.set n nd, 0)) else ([], 110)) else ([], 9)) := Lib.hid (by unfold bindF; rw [if_pos h0, Int.toNat_natCast])
  clear h0
  by_cases hd : 0 ≤ nd ∧ nd < (ns.length : Int)
  case neg =>
    have E : Hid (bindF ns p (n : Int) nd = ([], 9)) := Lib.hid (by rw [E1.out, if_neg hd])
    have KQ : Hid (∀ w', Calls Tryz.prog 39 #[.int .i64 nd, .int .i64 (ns.length : Int)] w' fun e w'' => e = .returned (.bool false) ∧ w'' = w') := Lib.hid (fun w' => by
      have := isPlace_any nd ns.length w'
      rwa [decide_eq_false hd] at this)
    clear hp E1 hs hd
    go_enter Tryz.func55, Tryz.ntmps55
    go_wp2_with fail
    refine (KP.out _).mono ?_
    rintro e w1 ⟨rfl, rfl⟩
    go_wp2_with fail
    refine (KQ.out _).mono ?_
    rintro e w1 ⟨rfl, rfl⟩
    go_wp2
    go_ret2
    exact nil_post E.out B0.out
  have KQ : Hid (∀ w', Calls Tryz.prog 39 #[.int .i64 nd, .int .i64 (ns.length : Int)] w' fun e w'' => e = .returned (.bool true) ∧ w'' = w') := Lib.hid (fun w' => by
    have := isPlace_any nd ns.length w'
    rwa [decide_eq_true hd] at this)
  obtain ⟨m, rfl⟩ : ∃ m : Nat, nd = (m : Int) := ⟨nd.toNat, by omega⟩
  have hm : m < ns.length := by omega
  have m0 : (0 : Int) ≤ (m : Int) := by omega
  have m1 : (m : Int) < (ns.length : Int) := by omega
  have E2 : Hid (bindF ns p (n : Int) (m : Int) = if p[n]? = some (-1) then (if lostB ns m then ([], 110) else (p.set n (m : Int), 0)) else ([], 110)) := Lib.hid (by rw [E1.out, if_pos hd, Int.toNat_natCast])
  clear E1 hd
  obtain ⟨x, hx⟩ : ∃ x, p[n]? = some x := ⟨p[n], List.getElem?_eq_getElem hn⟩
  obtain ⟨y, hy⟩ : ∃ y, ns[m]? = some y := ⟨ns[m], List.getElem?_eq_getElem hm⟩
  have KW := Lib.hid (with_any P cp p n (m : Int) _ (hp.below B0.out) hn hfew)
  obtain ⟨b, o, hA, hbl, q0⟩ := atI (hp.below B0.out).cells hx
  subst hA
  obtain ⟨b', o', hA', hbl', c0, c1, c2, c3, c4, c5, c6, c7, c8, c9⟩ := atN (hs.below B0.out) hy
  subst hA'
  have hlost : lostB ns m = y.lost := by unfold lostB; rw [hy]
  clear hs hp hy c0 c1 c2 c3 c4 c5 c6 c7 c8
  by_cases hm1 : x = -1
  case neg =>
    have E : Hid (bindF ns p (n : Int) (m : Int) = ([], 110)) := Lib.hid (by rw [E2.out, if_neg (by rw [hx]; simpa using hm1)])
    have hmb : (x != -1) = true := by simpa using hm1
    clear E2 hx KW hlost
    go_enter Tryz.func55, Tryz.ntmps55
    go_wp2_with fail
    refine (KP.out _).mono ?_
    rintro e w1 ⟨rfl, rfl⟩
    go_wp2_with fail
    refine (KQ.out _).mono ?_
    rintro e w1 ⟨rfl, rfl⟩
    go_wp2
    go_ret2
    exact nil_post E.out B0.out
  subst hm1
  obtain ⟨l, hl⟩ : ∃ l, y.lost = l := ⟨_, rfl⟩
  rw [hl] at hlost c9
  clear hl
  cases l
  case true =>
    have E : Hid (bindF ns p (n : Int) (m : Int) = ([], 110)) := Lib.hid (by rw [E2.out, if_pos hx, hlost, if_pos rfl])
    clear E2 hx KW hlost
    go_enter Tryz.func55, Tryz.ntmps55
    go_wp2_with fail
    refine (KP.out _).mono ?_
    rintro e w1 ⟨rfl, rfl⟩
    go_wp2_with fail
    refine (KQ.out _).mono ?_
    rintro e w1 ⟨rfl, rfl⟩
    go_wp2
    go_ret2
    exact nil_post E.out B0.out
  have E : Hid (bindF ns p (n : Int) (m : Int) = (p.set n (m : Int), 0)) := Lib.hid (by rw [E2.out, if_pos hx, hlost, if_neg (by simp)])
  clear E2 hx hlost
  go_enter Tryz.func55, Tryz.ntmps55
  go_wp2_with fail
  refine (KP.out _).mono ?_
  rintro e w1 ⟨rfl, rfl⟩
  go_wp2_with fail
  refine (KQ.out _).mono ?_
  rintro e w1 ⟨rfl, rfl⟩
  go_wp2_with fail
  refine (KW.out).mono ?_
  rintro e w2 ⟨v, rfl, ho, hb⟩
  have HO := Lib.hid (own_base ho B0.out.size)
  have HB := Lib.hid (B0.out.trans (hb.mono B0.out.size))
  clear ho hb KW
  go_wp2
  go_ret2
  rw [E.out]
  exact ⟨_, rfl, HO.out, HB.out⟩

set_option maxHeartbeats 1000000 in
theorem apply_any (A B C P : Option Addr) (ca cb cc cp : Nat) (ns : List NodeD) (ps : List PodD) (os : List OwnD) (p : List Int) (kd pd nd : Int) (w : World) (h : SnapAt w A B C ca cb cc ns ps os) (hp : IntsAt w P cp p) :
    Calls Tryz.prog 28 #[snapV A B C ca cb cc ns ps os, .slice P p.length cp, stepV kd pd nd] w fun e w' => RowNo w (applyF ns ps os p kd pd nd) e w' := by
  have B0 := Lib.hid (Qu.below2 w (.cells (snapC A B C ca cb cc ns ps os) 26) (.cells #[.int .i64 kd, .int .i64 pd, .int .i64 nd] 50))
  have S0 : Hid (Blk ((w.alloc (.cells (snapC A B C ca cb cc ns ps os) 26)).alloc (.cells #[.int .i64 kd, .int .i64 pd, .int .i64 nd] 50)) (w.heap.size + 1) #[.int .i64 kd, .int .i64 pd, .int .i64 nd] 50) := Lib.hid (blk2 w _ _ _)
  have Z0 : Hid (Blk ((w.alloc (.cells (snapC A B C ca cb cc ns ps os) 26)).alloc (.cells #[.int .i64 kd, .int .i64 pd, .int .i64 nd] 50)) w.heap.size (snapC A B C ca cb cc ns ps os) 26) := Lib.hid (Blk.alloc (Blk.new w _ _) _)
  have hlt0 := Blk.lt S0.out
  have KC := Lib.hid (pcheck_any A B C P ca cb cc cp ns ps os p _ (h.below B0.out) (hp.below B0.out))
  have hlen : placeE ns ps os p = 0 → p.length = ps.length := by
    intro hE
    unfold placeE at hE
    split at hE
    · split at hE
      · assumption
      · cases hE
    · rename_i hne
      exact absurd hE hne
  have E0 : Hid (applyF ns ps os p kd pd nd = if placeE ns ps os p = 0 then (if kd = 1 then evictF p pd nd else if kd = 2 then bindF ns p pd nd else ([], 2)) else ([], placeE ns ps os p)) := Lib.hid rfl
  have hlp := h.lp
  have H := Lib.hid h
  have HP := Lib.hid hp
  clear h hp
  generalize placeE ns ps os p = v0 at KC E0 hlen
  by_cases hv : v0 = 0
  case neg =>
    have E : Hid (applyF ns ps os p kd pd nd = ([], v0)) := Lib.hid (by rw [E0.out, if_neg hv])
    have hvb : (v0 != 0) = true := by simpa using hv
    clear E0 hlen
    go_enter Tryz.func28, Tryz.ntmps28
    go_wp2_with fail
    refine (KC.out).mono ?_
    rintro e w1 ⟨rfl, hb⟩
    have B1 := Lib.hid (B0.out.trans (hb.mono B0.out.size))
    clear hb
    go_wp2
    go_ret2
    exact nil_post E.out B1.out
  subst hv
  have hfew : p.length ≤ 1000 := by rw [hlen rfl]; exact hlp
  have E1 : Hid (applyF ns ps os p kd pd nd = if kd = 1 then evictF p pd nd else if kd = 2 then bindF ns p pd nd else ([], 2)) := Lib.hid (by rw [E0.out, if_pos rfl])
  clear E0 hlen
  go_enter Tryz.func28, Tryz.ntmps28
  go_wp2_with fail
  refine (KC.out).mono ?_
  rintro e w1 ⟨rfl, hb⟩
  have B1 := Lib.hid (B0.out.trans (hb.mono B0.out.size))
  have S1 := Lib.hid (S0.out.below hb hlt0)
  have Z1 := Lib.hid (Z0.out.below hb (Nat.lt_trans (Nat.lt_succ_self _) hlt0))
  clear hb KC
  have s0 : w1.cell? ⟨w.heap.size + 1, 0, none⟩ = some (.int .i64 kd) := Blk.cell S1.out 0
  have s1 : w1.cell? ⟨w.heap.size + 1, 1, none⟩ = some (.int .i64 pd) := Blk.cell S1.out 1
  have s2 : w1.cell? ⟨w.heap.size + 1, 2, none⟩ = some (.int .i64 nd) := Blk.cell S1.out 2
  have z0 : w1.cell? ⟨w.heap.size, 0, none⟩ = some (.slice A ns.length ca) := Blk.cell Z1.out 0
  have z1 : w1.cell? ⟨w.heap.size, 1, none⟩ = some (.slice B ps.length cb) := Blk.cell Z1.out 1
  have z2 : w1.cell? ⟨w.heap.size, 2, none⟩ = some (.slice C os.length cc) := Blk.cell Z1.out 2
  by_cases h1 : kd = 1
  · subst h1
    have KE := Lib.hid (evict_any P cp p 1 pd nd w1 (HP.out.below B1.out) hfew)
    have E2 : Hid (applyF ns ps os p 1 pd nd = evictF p pd nd) := Lib.hid (by rw [E1.out, if_pos rfl])
    clear E1
    go_wp2_with fail
    refine (KE.out).mono ?_
    rintro e w2 ⟨v, rfl, ho, hb⟩
    have HO := Lib.hid (own_base ho B1.out.size)
    have HB := Lib.hid (B1.out.trans (hb.mono B1.out.size))
    clear ho hb KE
    go_wp2
    go_ret2
    rw [E2.out]
    exact ⟨_, rfl, HO.out, HB.out⟩
  · have h1b : (kd == 1) = false := by simpa using h1
    by_cases h2 : kd = 2
    · subst h2
      have KE := Lib.hid (bind_any A B C P ca cb cc cp ps.length os.length ns p 2 pd nd w1 (H.out.below B1.out).n.cells (HP.out.below B1.out) hfew)
      have E2 : Hid (applyF ns ps os p 2 pd nd = bindF ns p pd nd) := Lib.hid (by rw [E1.out, if_neg h1, if_pos rfl])
      clear E1
      go_wp2_with fail
      refine (KE.out).mono ?_
      rintro e w2 ⟨v, rfl, ho, hb⟩
      have HO := Lib.hid (own_base ho B1.out.size)
      have HB := Lib.hid (B1.out.trans (hb.mono B1.out.size))
      clear ho hb KE
      go_wp2
      go_ret2
      rw [E2.out]
      exact ⟨_, rfl, HO.out, HB.out⟩
    · have h2b : (kd == 2) = false := by simpa using h2
      have E2 : Hid (applyF ns ps os p kd pd nd = ([], 2)) := Lib.hid (by rw [E1.out, if_neg h1, if_neg h2])
      clear E1
      go_wp2
      go_ret2
      exact nil_post E2.out B1.out
end Go.Proofs.YtfnigiiocapceaaGreat

namespace Go.Proofs.YtfnigiiocapceaaGreat
open Go.RowKit

theorem own_gem {w : World} {base : Nat} {e : TypeId} {size : Nat} {v : Value} {n : Nat} {xs : List Value} (h : w.ownsRow base e size v n xs) {j : Nat} (hj : v.ownBlock = some j) : base ≤ j := (h.lt j hj).1
theorem mov_info : (Tryz.prog.info? 67).map (fun i => (i.zero, i.size, i.bytes)) = some (some (.agg #[.int .i64 0, .int .i64 0]), 2, 16) := by kernel_rfl

/-- What is unlike at the first k places. -/
def movesU (p q : List Int) : Nat → List (Int × Int)
  | 0 => []
  | k + 1 => movesU p q k ++ (if p.getD k 0 = q.getD k 0 then [] else [((k : Int), q.getD k 0)])
/-- What Moves tells. -/
def movesF (p q : List Int) : List (Int × Int) := movesU p q (min p.length q.length)
def cells2 (l : List (Int × Int)) : List Value := l.flatMap fun x => [.int .i64 x.1, .int .i64 x.2]
theorem cells2_len : ∀ l, (cells2 l).length = l.length * 2
  | [] => rfl
  | x :: t => by
    have := cells2_len t
    simp only [cells2, List.flatMap_cons, List.length_append, List.length_cons, List.length_nil] at this ⊢
    omega
theorem cells2_snoc (l : List (Int × Int)) (x : Int × Int) : cells2 (l ++ [x]) = cells2 l ++ [.int .i64 x.1, .int .i64 x.2] := by simp [cells2]
theorem movesU_len (p q : List Int) : ∀ k, (movesU p q k).length ≤ k
  | 0 => Nat.le_refl _
  | k + 1 => by
    have := movesU_len p q k
    rw [movesU, List.length_append]
    split <;> simp <;> omega

set_option maxRecDepth 100000 in
set_option maxHeartbeats 2000000 in
theorem eqInts_any (A B : Option Addr) (ca cb : Nat) (l m : List Int) (w : World) (hl : l.length ≤ 1000) (ha : IntsAt w A ca l) (hb : IntsAt w B cb m) :
    Calls Tryz.prog 15 #[.slice A l.length ca, .slice B m.length cb] w fun e w' => e = .returned (.bool (decide (l = m))) ∧ Below w.heap.size w w' := by
  by_cases hn : l.length = m.length
  case neg =>
    have hni : ¬ (l.length : Int) = (m.length : Int) := by omega
    have hnb : ((l.length : Int) != (m.length : Int)) = true := by simpa using hni
    have hne : decide (l = m) = false := decide_eq_false (fun e => hn (by rw [e]))
    rw [hne]
    clear ha hb
    go_enter Tryz.func15, Tryz.ntmps15
    go_wp2
    go_ret
    exact ⟨rfl, Below.refl _ _⟩
  have hni : (l.length : Int) = (m.length : Int) := by omega
  have hnb : ((l.length : Int) != (m.length : Int)) = false := by simpa using hni
  have HA := Lib.hid ha
  have HB := Lib.hid hb
  clear ha hb
  obtain ⟨R, hR⟩ : ∃ R, decide (l = m) = R := ⟨_, rfl⟩
  have HR := Lib.hid hR
  rw [hR]
  clear hR
  go_enter Tryz.func15, Tryz.ntmps15
  go_wp2_with fail
  go_loopw [5] (fun i wr => ∃ k : Nat, k ≤ l.length ∧ i = .int .i64 k ∧ (∀ j, j < k → l[j]? = m[j]?) ∧ Below w.heap.size w wr) (fun i _ => l.length - (intOf i).toNat)
  case atStart => exact ⟨0, by omega, rfl, fun j h => by omega, Below.refl _ _⟩
  case round =>
    obtain ⟨k, hk, rfl, hnk, hbw⟩ := hrel
    have HN := Lib.hid hnk
    have HW := Lib.hid hbw
    clear hnk hbw
    by_cases hlt : k < l.length
    · obtain ⟨x, hx⟩ : ∃ x, l[k]? = some x := ⟨l[k], List.getElem?_eq_getElem hlt⟩
      obtain ⟨y, hy⟩ : ∃ y, m[k]? = some y := ⟨m[k]'(by omega), List.getElem?_eq_getElem (by omega)⟩
      obtain ⟨b1, o1, hA1, hbl1, c1⟩ := atI (HA.out.below HW.out).cells hx
      obtain ⟨b2, o2, hA2, hbl2, c2⟩ := atI (HB.out.below HW.out).cells hy
      subst hA1 hA2
      have HX := Lib.hid hx
      have HY := Lib.hid hy
      have k0 : (0 : Int) ≤ (k : Int) := by omega
      have k1 : (k : Int) < (l.length : Int) := by omega
      have k2 : (k : Int) < (m.length : Int) := by omega
      clear hx hy
      by_cases hxy : x = y
      · subst hxy
        have hxb : (x != x) = false := by simp
        go_wp2_with fail
        go_region
        go_wp2
        go_roundw
        case rel =>
          refine ⟨k + 1, by omega, by go_num, fun j hj => ?_, by first | exact HW.out | exact HW.out.drew | exact La.belowN HW.out _⟩
          by_cases hjk : j = k
          · subst hjk
            rw [HX.out, HY.out]
          · exact HN.out j (by omega)
        case measure => simp [intOf]; omega
      · have hxb : (x != y) = true := by simpa using hxy
        have HE : Hid (false = R) := Lib.hid (by
          rw [← HR.out]
          symm
          refine decide_eq_false (fun e => hxy ?_)
          have h1 := HX.out
          rw [e, HY.out] at h1
          exact (Option.some.inj h1).symm)
        go_wp2_with fail
        go_region
        go_wp2
        go_ret
        exact ⟨La.retB HE.out, by first | exact HW.out | exact HW.out.drew | exact La.belowN HW.out _⟩
    · obtain rfl : k = l.length := by omega
      have HE : Hid (true = R) := Lib.hid (by
        rw [← HR.out]
        symm
        refine decide_eq_true (List.ext_getElem? fun j => ?_)
        by_cases hj : j < l.length
        · exact HN.out j hj
        · rw [List.getElem?_eq_none (by omega), List.getElem?_eq_none (by omega)])
      go_wp2
      go_ret
      exact ⟨La.retB HE.out, HW.out⟩

set_option maxRecDepth 100000 in
set_option maxHeartbeats 2000000 in
theorem moves_any (A B : Option Addr) (ca cb : Nat) (p q : List Int) (w : World) (hl : p.length ≤ 1000) (ha : IntsAt w A ca p) (hb : IntsAt w B cb q) :
    Calls Tryz.prog 31 #[.slice A p.length ca, .slice B q.length cb] w fun e w' => ∃ v, e = .returned v ∧ w'.ownsRow w.heap.size 67 2 v (movesF p q).length (cells2 (movesF p q)) ∧ Below w.heap.size w w' := by
  have HA := Lib.hid ha
  have HB := Lib.hid hb
  obtain ⟨M, hM⟩ : ∃ M : Nat, M = min p.length q.length := ⟨_, rfl⟩
  have hMi : (min (p.length : Int) (q.length : Int)) = (M : Int) := by omega
  have hMl : M ≤ 1000 := by omega
  have hMp : M ≤ p.length := by omega
  have hMq : M ≤ q.length := by omega
  have HE : Hid (movesF p q = movesU p q M) := Lib.hid (by rw [hM]; rfl)
  obtain ⟨i0, hi0, hz0, hz1, hz2⟩ := info_parts mov_info
  clear ha hb hM
  go_enter Tryz.func31, Tryz.ntmps31
  go_wp2_with fail
  clear hMi
  go_loopw [12, 5] (fun i v wr => ∃ k : Nat, k ≤ M ∧ i = .int .i64 k ∧ wr.ownsRow w.heap.size 67 2 v (movesU p q k).length (cells2 (movesU p q k)) ∧ Below w.heap.size w wr) (fun i _ _ => M - (intOf i).toNat)
  case atStart => exact ⟨0, by omega, rfl, World.ownsRow_nil _ _ _ _, Below.refl _ _⟩
  case round =>
    obtain ⟨k, hk, rfl, hown, hbw⟩ := hrel
    have HO := Lib.hid hown
    have HW := Lib.hid hbw
    clear hown hbw
    by_cases hlt : k < M
    · obtain ⟨x, hx⟩ : ∃ x, p[k]? = some x := ⟨p[k]'(by omega), List.getElem?_eq_getElem (by omega)⟩
      obtain ⟨y, hy⟩ : ∃ y, q[k]? = some y := ⟨q[k]'(by omega), List.getElem?_eq_getElem (by omega)⟩
      obtain ⟨b1, o1, hA1, hbl1, c1⟩ := atI (HA.out.below HW.out).cells hx
      obtain ⟨b2, o2, hA2, hbl2, c2⟩ := atI (HB.out.below HW.out).cells hy
      subst hA1 hA2
      have hstep : movesU p q (k + 1) = movesU p q k ++ (if x = y then [] else [((k : Int), y)]) := by
        rw [movesU, List.getD_eq_getElem?_getD, List.getD_eq_getElem?_getD, hx, hy]
        rfl
      have HX := Lib.hid hstep
      have hml := movesU_len p q k
      have k0 : (0 : Int) ≤ (k : Int) := by omega
      have k1 : (k : Int) < (p.length : Int) := by omega
      have k2 : (k : Int) < (q.length : Int) := by omega
      have k3 : (k : Int) < (M : Int) := by omega
      clear hx hy hstep
      by_cases hxy : x = y
      · subst hxy
        have hxb : (x != x) = false := by simp
        go_wp2_with fail
        go_region
        go_wp2
        go_roundw
        case rel =>
          refine ⟨k + 1, by omega, by go_num, ?_, by first | exact HW.out | exact HW.out.drew | exact La.belowN HW.out _⟩
          rw [HX.out]
          simp only [if_true, List.append_nil]
          exact HO.out
        case measure => simp [intOf]; omega
      · have hxb : (x != y) = true := by simpa using hxy
        go_wp2_with fail
        go_region
        go_wp2_with (at_builtin; refine wpList_append_own _ rfl _ _ 52 rfl w.heap.size 67 i0 (.agg #[.int .i64 0, .int .i64 0]) 2 16 Tryz.underlying52 hi0 hz0 hz1 hz2 rfl (by decide) _ _ _ rfl (show World.ownsRow _ _ _ _ _ _ _ from HO.out.alloc _) ⟨wr.heap.size, 0, none⟩ 1 1 [.int .i64 (k : Int), .int .i64 y] rfl rfl ?c1 ?c2 ?c3 ?c4 ?c5 ?_)
        case c1 =>
          intro j u hj
          match j, hj with
          | 0, hj => simp at hj; subst hj; simp [Addr.add]
          | 1, hj => simp at hj; subst hj; simp [Addr.add]
        case c2 => first | rfl | (intro u hu; simp at hu; rcases hu with rfl | rfl <;> rfl)
        case c3 => unfold maxLen; omega
        case c4 => omega
        case c5 => have := HW.out.size; simp; omega
        intro v' w2 hown' hgrow' _
        have HO2 := Lib.hid hown'
        have HW2 := Lib.hid ((HW.out.drew.alloc HW.out.size (.cells #[.int .i64 (k : Int), .int .i64 y] 67)).grown hgrow' (by have := HW.out.size; simp; omega) (fun j hj => own_gem HO.out hj))
        clear hown' hgrow'
        go_wp2
        go_roundw
        case rel =>
          refine ⟨k + 1, by omega, by go_num, ?_, HW2.out⟩
          rw [HX.out, if_neg hxy, List.length_append, cells2_snoc]
          exact HO2.out
        case measure => simp [intOf]; omega
    · obtain rfl : k = M := by omega
      go_wp2
      go_ret
      rw [HE.out]
      exact ⟨_, rfl, HO.out, HW.out⟩
end Go.Proofs.YtfnigiiocapceaaGreat
