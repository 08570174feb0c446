/- May a node, an owner, a Near be, each by itself? Contracts. Condition: its lists lie in memory. -/
import Derived.Test.YtfnigiiocapceaaGreatNRise
namespace Go.Proofs.YtfnigiiocapceaaGreat
open Go.RowKit

def nodeB (x : NodeD) : Bool := (Qu.chkV x.cap == 0) && (La.chkA La.labB La.keyR x.labels == 0) && (La.chkA La.labB La.keyR x.taints == 0)
set_option maxHeartbeats 1000000 in
theorem mayBeNode_any (x : NodeD) (w : World) (hx : x.fit w) :
    Calls Tryz.prog 81 #[valN x] w fun e w' => e = .returned (.bool (nodeB x)) ∧ Below w.heap.size w w' := by
  have KV := Lib.hid (fun w => Qu.vcheck_any x.cap w)
  have HX := Lib.hid hx
  have K1 : Hid (∀ w', Below w.heap.size w w' → Calls Tryz.prog 102 #[.slice x.al x.labels.length x.cl] w' fun e w'' => e = .returned (.int .i64 (La.chkA La.labB La.keyR x.labels)) ∧ Below w'.heap.size w' w'') := Lib.hid (fun w' hb => by
    have h := hx.l.below hb
    exact La.check_anyW x.al x.cl x.labels w' h.le h.most h.cells h.big)
  have K2 : Hid (∀ w', Below w.heap.size w w' → Calls Tryz.prog 102 #[.slice x.at_ x.taints.length x.ct] w' fun e w'' => e = .returned (.int .i64 (La.chkA La.labB La.keyR x.taints)) ∧ Below w'.heap.size w' w'') := Lib.hid (fun w' hb => by
    have h := hx.t.below hb
    exact La.check_anyW x.at_ x.ct x.taints w' h.le h.most h.cells h.big)
  have B0 : Hid (Below w.heap.size w (w.alloc (.cells (cellsN [x]).toArray 73))) := Lib.hid (below1 w _)
  have Q0 : Hid (Blk (w.alloc (.cells (cellsN [x]).toArray 73)) w.heap.size (cellsN [x]).toArray 73) := Lib.hid (Blk.new w _ _)
  have hlt0 : w.heap.size < (w.alloc (.cells (cellsN [x]).toArray 73)).heap.size := Blk.lt Q0.out
  have E : Hid (nodeB x = ((Qu.chkV x.cap == 0) && (La.chkA La.labB La.keyR x.labels == 0) && (La.chkA La.labB La.keyR x.taints == 0))) := Lib.hid rfl
  generalize nodeB x = R at E ⊢
  generalize Qu.chkV x.cap = v1 at KV E
  generalize La.chkA La.labB La.keyR x.labels = v2 at K1 E
  generalize La.chkA La.labB La.keyR x.taints = v3 at K2 E
  clear hx
  go_enter Tryz.func81, Tryz.ntmps81
  go_wp2_with fail
  refine (KV.out _).mono ?_
  rintro e w2 ⟨rfl, hb⟩
  have Q2 := Lib.hid (Q0.out.below hb hlt0)
  have B2 := Lib.hid (B0.out.trans (hb.mono (Nat.le_of_lt hlt0)))
  clear hb KV
  have hl2 := Blk.lt Q2.out
  have c6 : w2.cell? ⟨w.heap.size, 6, none⟩ = some (.slice x.al x.labels.length x.cl) := Blk.cell Q2.out 6
  cases h1 : (v1 == 0)
  · have HE : Hid (R = false) := Lib.hid (by rw [E.out, h1]; rfl)
    have h1' : (v1 != 0) = true := by simpa using h1
    go_wp2
    go_ret
    exact ⟨La.retB HE.out.symm, B2.out⟩
  · have h1' : (v1 != 0) = false := by simpa using h1
    go_wp2_with fail
    refine (K1.out _ B2.out).mono ?_
    rintro e w3 ⟨rfl, hb⟩
    have Q3 := Lib.hid (Q2.out.below hb hl2)
    have B3 := Lib.hid (B2.out.trans (hb.mono (Nat.le_of_lt hl2)))
    clear hb K1 c6
    have hl3 := Blk.lt Q3.out
    have c7 : w3.cell? ⟨w.heap.size, 7, none⟩ = some (.slice x.at_ x.taints.length x.ct) := Blk.cell Q3.out 7
    cases h2 : (v2 == 0)
    · have HE : Hid (R = false) := Lib.hid (by rw [E.out, h1, h2]; rfl)
      have h2' : (v2 != 0) = true := by simpa using h2
      go_wp2
      go_ret
      exact ⟨La.retB HE.out.symm, B3.out⟩
    · have h2' : (v2 != 0) = false := by simpa using h2
      go_wp2_with fail
      refine (K2.out _ B3.out).mono ?_
      rintro e w4 ⟨rfl, hb⟩
      have B4 := Lib.hid (B3.out.trans (hb.mono (Nat.le_of_lt hl3)))
      clear hb K2 c7
      have HE : Hid (R = (v3 == 0)) := Lib.hid (by rw [E.out, h1, h2]; rfl)
      clear h1 h1' h2 h2'
      go_wp2
      go_ret
      exact ⟨La.retB HE.out.symm, B4.out⟩

def nearB (topo : List UInt8) (l : List T3) : Bool := if topo = [] then decide (l.length = 0) else La.nameB topo && (La.chkA La.terB La.anyR l == 0)
abbrev valNear (topo : List UInt8) (l : List T3) (a : Option Addr) (c : Nat) : Value := .agg #[strV topo, .slice a l.length c]
set_option maxHeartbeats 1000000 in
theorem mayBeNear_any (topo : List UInt8) (l : List T3) (a : Option Addr) (c : Nat) (w : World) (h : ListT w a c l) (ht : topo.length ≤ 9223372036854775807) :
    Calls Tryz.prog 105 #[valNear topo l a c] w fun e w' => e = .returned (.bool (nearB topo l)) ∧ Below w.heap.size w w' := by
  have KN := Lib.hid (fun w => La.nameB_any topo w ht)
  have K1 : Hid (∀ w', Below w.heap.size w w' → Calls Tryz.prog 103 #[.slice a l.length c] w' fun e w'' => e = .returned (.int .i64 (La.chkA La.terB La.anyR l)) ∧ Below w'.heap.size w' w'') := Lib.hid (fun w' hb => by
    have h := h.below hb
    exact La.checkTerms_anyW a c l w' h.le h.most h.cells h.big)
  have B0 : Hid (Below w.heap.size w (w.alloc (.cells #[strV topo, .slice a l.length c] 60))) := Lib.hid (below1 w _)
  have Q0 : Hid (Blk (w.alloc (.cells #[strV topo, .slice a l.length c] 60)) w.heap.size #[strV topo, .slice a l.length c] 60) := Lib.hid (Blk.new w _ _)
  have hlt0 : w.heap.size < (w.alloc (.cells #[strV topo, .slice a l.length c] 60)).heap.size := Blk.lt Q0.out
  have E : Hid (nearB topo l = (if topo = [] then decide (l.length = 0) else La.nameB topo && (La.chkA La.terB La.anyR l == 0))) := Lib.hid rfl
  generalize nearB topo l = R at E ⊢
  generalize La.chkA La.terB La.anyR l = v1 at K1 E
  generalize La.nameB topo = v0 at KN E
  clear h
  by_cases htp : topo = []
  · subst htp
    have HE : Hid (R = decide (l.length = 0)) := Lib.hid (by rw [E.out, if_pos rfl])
    clear KN K1 E
    go_enter Tryz.func105, Tryz.ntmps105
    go_wp2
    go_ret
    refine ⟨La.retB ?_, B0.out⟩
    rw [HE.out, Bool.eq_iff_iff]
    simp
  · have HE : Hid (R = (v0 && (v1 == 0))) := Lib.hid (by rw [E.out, if_neg htp])
    have h1 : topo.isEmpty = false := by simpa using htp
    have h2 : (!topo.isEmpty) = true := by simpa using htp
    have HT := Lib.hid htp
    clear htp E
    go_enter Tryz.func105, Tryz.ntmps105
    go_wp2_with fail
    refine (KN.out _).mono ?_
    rintro e w2 ⟨rfl, hb⟩
    have Q2 := Lib.hid (Q0.out.below hb hlt0)
    have B2 := Lib.hid (B0.out.trans (hb.mono (Nat.le_of_lt hlt0)))
    clear hb KN
    have c1 : w2.cell? ⟨w.heap.size, 1, none⟩ = some (.slice a l.length c) := Blk.cell Q2.out 1
    have hl2 := Blk.lt Q2.out
    cases v0
    · go_wp2
      go_ret
      exact ⟨La.retB (by rw [HE.out]; rfl), B2.out⟩
    · go_wp2_with fail
      refine (K1.out _ B2.out).mono ?_
      rintro e w3 ⟨rfl, hb⟩
      have B3 := Lib.hid (B2.out.trans (hb.mono (Nat.le_of_lt hl2)))
      clear hb K1 c1
      go_wp2
      go_ret
      exact ⟨La.retB (by rw [HE.out]; rfl), B3.out⟩

def ownB (x : OwnD) : Bool := if x.min < 0 ∨ 24 < x.min then false else if x.topo = [] then decide (x.skew = 0) else La.nameB x.topo && decide (1 ≤ x.skew ∧ x.skew ≤ 24)
set_option maxHeartbeats 1000000 in
theorem mayBeOwner_any (x : OwnD) (w : World) (hx : x.fit) :
    Calls Tryz.prog 87 #[valO x] w fun e w' => e = .returned (.bool (ownB x)) ∧ Below w.heap.size w w' := by
  have KN := Lib.hid (fun w => La.nameB_any x.topo w hx.t)
  have B0 : Hid (Below w.heap.size w (w.alloc (.cells (cellsO [x]).toArray 64))) := Lib.hid (below1 w _)
  have Q0 : Hid (Blk (w.alloc (.cells (cellsO [x]).toArray 64)) w.heap.size (cellsO [x]).toArray 64) := Lib.hid (Blk.new w _ _)
  have hlt0 : w.heap.size < (w.alloc (.cells (cellsO [x]).toArray 64)).heap.size := Blk.lt Q0.out
  obtain ⟨nm, mn, tp, sk, sg⟩ := x
  have E : Hid (ownB ⟨nm, mn, tp, sk, sg⟩ = (if mn < 0 ∨ 24 < mn then false else if tp = [] then decide (sk = 0) else La.nameB tp && decide (1 ≤ sk ∧ sk ≤ 24))) := Lib.hid rfl
  generalize ownB ⟨nm, mn, tp, sk, sg⟩ = R at E ⊢
  simp only at KN
  generalize La.nameB tp = v0 at KN E
  clear hx
  by_cases h1 : mn < 0
  · have HE : Hid (R = false) := Lib.hid (by rw [E.out, if_pos (.inl h1)])
    clear E KN
    go_enter Tryz.func87, Tryz.ntmps87
    go_wp2
    go_ret
    exact ⟨La.retB HE.out.symm, B0.out⟩
  by_cases h2 : 24 < mn
  · have HE : Hid (R = false) := Lib.hid (by rw [E.out, if_pos (.inr h2)])
    clear E KN
    go_enter Tryz.func87, Tryz.ntmps87
    go_wp2
    go_ret
    exact ⟨La.retB HE.out.symm, B0.out⟩
  by_cases htp : tp = []
  · subst htp
    have HE : Hid (R = decide (sk = 0)) := Lib.hid (by rw [E.out, if_neg (by omega), if_pos rfl])
    clear E KN
    go_enter Tryz.func87, Tryz.ntmps87
    go_wp2
    go_ret
    refine ⟨La.retB ?_, B0.out⟩
    rw [HE.out, Bool.eq_iff_iff]
    simp
  · have HE : Hid (R = (v0 && decide (1 ≤ sk ∧ sk ≤ 24))) := Lib.hid (by rw [E.out, if_neg (by omega), if_neg htp])
    have h3 : tp.isEmpty = false := by simpa using htp
    have h4 : (!tp.isEmpty) = true := by simpa using htp
    have HT := Lib.hid htp
    clear htp E
    go_enter Tryz.func87, Tryz.ntmps87
    go_wp2_with fail
    refine (KN.out _).mono ?_
    rintro e w2 ⟨rfl, hb⟩
    have Q2 := Lib.hid (Q0.out.below hb hlt0)
    have B2 := Lib.hid (B0.out.trans (hb.mono (Nat.le_of_lt hlt0)))
    clear hb KN
    have c3 : w2.cell? ⟨w.heap.size, 3, none⟩ = some (.int .i64 sk) := Blk.cell Q2.out 3
    cases v0
    · go_wp2
      go_ret
      exact ⟨La.retB (by rw [HE.out]; rfl), B2.out⟩
    · go_wp2
      all_goals
        go_ret
        refine ⟨La.retB ?_, B2.out⟩
        rw [HE.out, Bool.eq_iff_iff]
        simp
        try omega
end Go.Proofs.YtfnigiiocapceaaGreat
