/- One clause of a list, by the document's words: Of, out of what All tells. A contract. Condition: the cluster and the numbers lie in memory. The clauses of a placement stand in order, each once; none is broken by less than nothing; how many are about pods. In numbers only. What is against a step, as a value of any type: the program's try, clauseOf, errorOf, Step, May. Contracts. Condition: the cluster and the numbers lie in memory. What a step makes, or why it may not be done; whether it may be: the program's Step, May, and the document's. Contracts. Condition: the cluster and the numbers lie in memory. No clause is broken by more than at first: how that goes on from one placement to the next. Numbers alone. No conditions but these. A pod that lies somewhere has no ways; one that was bound in a safe placement may be taken off again: numbers alone. No conditions but these. What Pack does, pod by pod: each is bound where it may be, nothing is worse by it, and who isn't bound waits. Numbers alone. Condition: the placement may be. Contracts with the length of a row named apart: Pack, Ways, Step, Worse, EqInts, in. Condition: the arguments lie in memory. What both ends of layer 14 want: the chapter's cluster with a pod that asks more; Pack where it doesn't pack. Condition: the arguments lie in memory. -/
import Derived.Test.YtmmokiaipfalmaaGreatA14

namespace Go.Proofs.YtmmokiaipfalmaaGreat
open Go.RowKit

theorem findC_at {l : List ClT} {kd a b : Int} {k : Nat} {y : ClT} (hk : l[k]? = some y) (hy : isC kd a b y = true) (hn : ∀ (j : Nat) (z : ClT), j < k → l[j]? = some z → isC kd a b z = false) : findC l kd a b = some y.2.2.2 := by
  unfold findC
  induction l generalizing k with
  | nil => simp at hk
  | cons c t ih =>
    cases k with
    | zero =>
      simp only [List.getElem?_cons_zero, Option.some.injEq] at hk
      subst hk
      rw [List.find?_cons_of_pos hy]
      rfl
    | succ k =>
      rw [List.find?_cons_of_neg (by rw [hn 0 c (by omega) rfl]; simp)]
      exact ih (k := k) (by simpa using hk) (fun j z hj hz => hn (j + 1) z (by omega) (by simpa using hz))
end Go.Proofs.YtmmokiaipfalmaaGreat

namespace Go.Proofs.YtmmokiaipfalmaaGreat
open Go.RowKit

theorem rise_at {l : List ClT} (h : l.Pairwise Rise3) {i j : Nat} {c d : ClT} (hi : l[i]? = some c) (hj : l[j]? = some d) (hij : i < j) : Rise3 c d := by
  obtain ⟨h1, rfl⟩ := List.getElem?_eq_some_iff.1 hi
  obtain ⟨h2, rfl⟩ := List.getElem?_eq_some_iff.1 hj
  exact List.pairwise_iff_getElem.1 h i j h1 h2 hij
/-- Each clause is found by what it is about. -/
theorem find_rise {l : List ClT} (h : l.Pairwise Rise3) {c : ClT} (hc : c ∈ l) : findC l c.1 c.2.1 c.2.2.1 = some c.2.2.2 := by
  obtain ⟨k, hk⟩ := List.mem_iff_getElem?.1 hc
  refine findC_at hk (by simp [isC]) ?_
  intro j z hj hz
  have hr := rise_at h hz hk hj
  unfold isC
  refine decide_eq_false ?_
  rintro ⟨e1, e2, e3⟩
  unfold Rise3 at hr
  omega
end Go.Proofs.YtmmokiaipfalmaaGreat

namespace Go.Proofs.YtmmokiaipfalmaaGreat
open Go.RowKit Go.Maps Go.Shelf

set_option maxRecDepth 100000 in
set_option maxHeartbeats 1000000 in
theorem clauseOf_any (a : Ag) (w : World) : Calls Tryz.prog 94 #[a.v] w fun e w' => e = .returned (clV a.c) ∧ Below w.heap.size w w' := by
  cases a with
  | no =>
    have hta : ∀ w : World, (Instr.typeAssert .nilIface 20 62 true).run Tryz.prog w = .ok (.tuple #[.agg #[.int .i64 0, .int .i64 0, .int .i64 0, .int .i64 0], .bool false]) w := fun w => by kernel_rfl
    have B0 : Hid (Below w.heap.size w ((w.alloc (.cells #[.int .i64 0, .int .i64 0, .int .i64 0, .int .i64 0] 62)).alloc (.cells #[.int .i64 0, .int .i64 0, .int .i64 0, .int .i64 0] 62))) := Lib.hid (Qu.below2 w _ _)
    have Q0 : Hid (Blk ((w.alloc (.cells #[.int .i64 0, .int .i64 0, .int .i64 0, .int .i64 0] 62)).alloc (.cells #[.int .i64 0, .int .i64 0, .int .i64 0, .int .i64 0] 62)) w.heap.size #[.int .i64 0, .int .i64 0, .int .i64 0, .int .i64 0] 62) := Lib.hid (Blk.alloc (Blk.new w _ _) _)
    have R0 : Hid (Blk ((w.alloc (.cells #[.int .i64 0, .int .i64 0, .int .i64 0, .int .i64 0] 62)).alloc (.cells #[.int .i64 0, .int .i64 0, .int .i64 0, .int .i64 0] 62)) (w.heap.size + 1) #[.int .i64 0, .int .i64 0, .int .i64 0, .int .i64 0] 62) := Lib.hid (blk2 w _ _ _)
    show Calls Tryz.prog 94 #[.nilIface] w _
    go_enter Tryz.func94, Tryz.ntmps94
    go_upto_region 4 with fail
    try change Code.wp _ _ _ _ ((w.alloc (.cells #[.int .i64 0, .int .i64 0, .int .i64 0, .int .i64 0] 62)).alloc (.cells #[.int .i64 0, .int .i64 0, .int .i64 0, .int .i64 0] 62))
    generalize ((w.alloc (.cells #[.int .i64 0, .int .i64 0, .int .i64 0, .int .i64 0] 62)).alloc (.cells #[.int .i64 0, .int .i64 0, .int .i64 0, .int .i64 0] 62)) = W at B0 Q0 R0 ⊢
    have z0 : W.cell? ⟨w.heap.size, 0, none⟩ = some (.int .i64 0) := Blk.cell Q0.out 0
    have z1 : W.cell? ⟨w.heap.size, 1, none⟩ = some (.int .i64 0) := Blk.cell Q0.out 1
    have z2 : W.cell? ⟨w.heap.size, 2, none⟩ = some (.int .i64 0) := Blk.cell Q0.out 2
    have z3 : W.cell? ⟨w.heap.size, 3, none⟩ = some (.int .i64 0) := Blk.cell Q0.out 3
    have g0 := Blk.free Q0.out 0
    have g1 := Blk.free Q0.out 1
    have g2 := Blk.free Q0.out 2
    have g3 := Blk.free Q0.out 3
    have y0 : W.cell? ⟨w.heap.size + 1, 0, none⟩ = some (.int .i64 0) := Blk.cell R0.out 0
    have y1 : W.cell? ⟨w.heap.size + 1, 1, none⟩ = some (.int .i64 0) := Blk.cell R0.out 1
    have y2 : W.cell? ⟨w.heap.size + 1, 2, none⟩ = some (.int .i64 0) := Blk.cell R0.out 2
    have y3 : W.cell? ⟨w.heap.size + 1, 3, none⟩ = some (.int .i64 0) := Blk.cell R0.out 3
    have Q4 := Lib.hid ((((Q0.out.set 0 (.int .i64 0)).set 1 (.int .i64 0)).set 2 (.int .i64 0)).set 3 (.int .i64 0))
    have B4 := Lib.hid ((((B0.out.setCell (p := ⟨w.heap.size, 0, none⟩) (Nat.le_refl _) (.int .i64 0)).setCell (p := ⟨w.heap.size, 1, none⟩) (Nat.le_refl _) (.int .i64 0)).setCell (p := ⟨w.heap.size, 2, none⟩) (Nat.le_refl _) (.int .i64 0)).setCell (p := ⟨w.heap.size, 3, none⟩) (Nat.le_refl _) (.int .i64 0))
    go_wp2
    refine bodyPost_row1 Tryz.results94 w.heap.size _ _ _ _ (by rfl) (by rfl) Q4.out Tryz.underlying62 rfl (by kernel_rfl) ?_
    exact ⟨rfl, B4.out⟩
  | err e =>
    have hta : ∀ w : World, (Instr.typeAssert (.iface 30 (.int .i64 e)) 20 62 true).run Tryz.prog w = .ok (.tuple #[.agg #[.int .i64 0, .int .i64 0, .int .i64 0, .int .i64 0], .bool false]) w := fun w => by kernel_rfl
    have B0 : Hid (Below w.heap.size w ((w.alloc (.cells #[.int .i64 0, .int .i64 0, .int .i64 0, .int .i64 0] 62)).alloc (.cells #[.int .i64 0, .int .i64 0, .int .i64 0, .int .i64 0] 62))) := Lib.hid (Qu.below2 w _ _)
    have Q0 : Hid (Blk ((w.alloc (.cells #[.int .i64 0, .int .i64 0, .int .i64 0, .int .i64 0] 62)).alloc (.cells #[.int .i64 0, .int .i64 0, .int .i64 0, .int .i64 0] 62)) w.heap.size #[.int .i64 0, .int .i64 0, .int .i64 0, .int .i64 0] 62) := Lib.hid (Blk.alloc (Blk.new w _ _) _)
    have R0 : Hid (Blk ((w.alloc (.cells #[.int .i64 0, .int .i64 0, .int .i64 0, .int .i64 0] 62)).alloc (.cells #[.int .i64 0, .int .i64 0, .int .i64 0, .int .i64 0] 62)) (w.heap.size + 1) #[.int .i64 0, .int .i64 0, .int .i64 0, .int .i64 0] 62) := Lib.hid (blk2 w _ _ _)
    show Calls Tryz.prog 94 #[(.iface 30 (.int .i64 e))] w _
    go_enter Tryz.func94, Tryz.ntmps94
    go_upto_region 4 with fail
    try change Code.wp _ _ _ _ ((w.alloc (.cells #[.int .i64 0, .int .i64 0, .int .i64 0, .int .i64 0] 62)).alloc (.cells #[.int .i64 0, .int .i64 0, .int .i64 0, .int .i64 0] 62))
    generalize ((w.alloc (.cells #[.int .i64 0, .int .i64 0, .int .i64 0, .int .i64 0] 62)).alloc (.cells #[.int .i64 0, .int .i64 0, .int .i64 0, .int .i64 0] 62)) = W at B0 Q0 R0 ⊢
    have z0 : W.cell? ⟨w.heap.size, 0, none⟩ = some (.int .i64 0) := Blk.cell Q0.out 0
    have z1 : W.cell? ⟨w.heap.size, 1, none⟩ = some (.int .i64 0) := Blk.cell Q0.out 1
    have z2 : W.cell? ⟨w.heap.size, 2, none⟩ = some (.int .i64 0) := Blk.cell Q0.out 2
    have z3 : W.cell? ⟨w.heap.size, 3, none⟩ = some (.int .i64 0) := Blk.cell Q0.out 3
    have g0 := Blk.free Q0.out 0
    have g1 := Blk.free Q0.out 1
    have g2 := Blk.free Q0.out 2
    have g3 := Blk.free Q0.out 3
    have y0 : W.cell? ⟨w.heap.size + 1, 0, none⟩ = some (.int .i64 0) := Blk.cell R0.out 0
    have y1 : W.cell? ⟨w.heap.size + 1, 1, none⟩ = some (.int .i64 0) := Blk.cell R0.out 1
    have y2 : W.cell? ⟨w.heap.size + 1, 2, none⟩ = some (.int .i64 0) := Blk.cell R0.out 2
    have y3 : W.cell? ⟨w.heap.size + 1, 3, none⟩ = some (.int .i64 0) := Blk.cell R0.out 3
    have Q4 := Lib.hid ((((Q0.out.set 0 (.int .i64 0)).set 1 (.int .i64 0)).set 2 (.int .i64 0)).set 3 (.int .i64 0))
    have B4 := Lib.hid ((((B0.out.setCell (p := ⟨w.heap.size, 0, none⟩) (Nat.le_refl _) (.int .i64 0)).setCell (p := ⟨w.heap.size, 1, none⟩) (Nat.le_refl _) (.int .i64 0)).setCell (p := ⟨w.heap.size, 2, none⟩) (Nat.le_refl _) (.int .i64 0)).setCell (p := ⟨w.heap.size, 3, none⟩) (Nat.le_refl _) (.int .i64 0))
    go_wp2
    refine bodyPost_row1 Tryz.results94 w.heap.size _ _ _ _ (by rfl) (by rfl) Q4.out Tryz.underlying62 rfl (by kernel_rfl) ?_
    exact ⟨rfl, B4.out⟩
  | cl c =>
    have hta : ∀ w : World, (Instr.typeAssert (.iface 62 (clV c)) 20 62 true).run Tryz.prog w = .ok (.tuple #[clV c, .bool true]) w := fun w => by kernel_rfl
    have B0 : Hid (Below w.heap.size w ((w.alloc (.cells #[.int .i64 0, .int .i64 0, .int .i64 0, .int .i64 0] 62)).alloc (.cells #[.int .i64 c.1, .int .i64 c.2.1, .int .i64 c.2.2.1, .int .i64 c.2.2.2] 62))) := Lib.hid (Qu.below2 w _ _)
    have Q0 : Hid (Blk ((w.alloc (.cells #[.int .i64 0, .int .i64 0, .int .i64 0, .int .i64 0] 62)).alloc (.cells #[.int .i64 c.1, .int .i64 c.2.1, .int .i64 c.2.2.1, .int .i64 c.2.2.2] 62)) w.heap.size #[.int .i64 0, .int .i64 0, .int .i64 0, .int .i64 0] 62) := Lib.hid (Blk.alloc (Blk.new w _ _) _)
    have R0 : Hid (Blk ((w.alloc (.cells #[.int .i64 0, .int .i64 0, .int .i64 0, .int .i64 0] 62)).alloc (.cells #[.int .i64 c.1, .int .i64 c.2.1, .int .i64 c.2.2.1, .int .i64 c.2.2.2] 62)) (w.heap.size + 1) #[.int .i64 c.1, .int .i64 c.2.1, .int .i64 c.2.2.1, .int .i64 c.2.2.2] 62) := Lib.hid (blk2 w _ _ _)
    show Calls Tryz.prog 94 #[(.iface 62 (clV c))] w _
    go_enter Tryz.func94, Tryz.ntmps94
    go_upto_region 3 with fail
    try change Code.wp _ _ _ _ ((w.alloc (.cells #[.int .i64 0, .int .i64 0, .int .i64 0, .int .i64 0] 62)).alloc (.cells #[.int .i64 c.1, .int .i64 c.2.1, .int .i64 c.2.2.1, .int .i64 c.2.2.2] 62))
    generalize ((w.alloc (.cells #[.int .i64 0, .int .i64 0, .int .i64 0, .int .i64 0] 62)).alloc (.cells #[.int .i64 c.1, .int .i64 c.2.1, .int .i64 c.2.2.1, .int .i64 c.2.2.2] 62)) = W at B0 Q0 R0 ⊢
    have z0 : W.cell? ⟨w.heap.size, 0, none⟩ = some (.int .i64 0) := Blk.cell Q0.out 0
    have z1 : W.cell? ⟨w.heap.size, 1, none⟩ = some (.int .i64 0) := Blk.cell Q0.out 1
    have z2 : W.cell? ⟨w.heap.size, 2, none⟩ = some (.int .i64 0) := Blk.cell Q0.out 2
    have z3 : W.cell? ⟨w.heap.size, 3, none⟩ = some (.int .i64 0) := Blk.cell Q0.out 3
    have g0 := Blk.free Q0.out 0
    have g1 := Blk.free Q0.out 1
    have g2 := Blk.free Q0.out 2
    have g3 := Blk.free Q0.out 3
    have y0 : W.cell? ⟨w.heap.size + 1, 0, none⟩ = some (.int .i64 c.1) := Blk.cell R0.out 0
    have y1 : W.cell? ⟨w.heap.size + 1, 1, none⟩ = some (.int .i64 c.2.1) := Blk.cell R0.out 1
    have y2 : W.cell? ⟨w.heap.size + 1, 2, none⟩ = some (.int .i64 c.2.2.1) := Blk.cell R0.out 2
    have y3 : W.cell? ⟨w.heap.size + 1, 3, none⟩ = some (.int .i64 c.2.2.2) := Blk.cell R0.out 3
    have Q4 := Lib.hid ((((Q0.out.set 0 (.int .i64 c.1)).set 1 (.int .i64 c.2.1)).set 2 (.int .i64 c.2.2.1)).set 3 (.int .i64 c.2.2.2))
    have B4 := Lib.hid ((((B0.out.setCell (p := ⟨w.heap.size, 0, none⟩) (Nat.le_refl _) (.int .i64 c.1)).setCell (p := ⟨w.heap.size, 1, none⟩) (Nat.le_refl _) (.int .i64 c.2.1)).setCell (p := ⟨w.heap.size, 2, none⟩) (Nat.le_refl _) (.int .i64 c.2.2.1)).setCell (p := ⟨w.heap.size, 3, none⟩) (Nat.le_refl _) (.int .i64 c.2.2.2))
    go_wp2
    refine bodyPost_row1 Tryz.results94 w.heap.size _ _ _ _ (by rfl) (by rfl) Q4.out Tryz.underlying62 rfl (by kernel_rfl) ?_
    exact ⟨rfl, B4.out⟩

end Go.Proofs.YtmmokiaipfalmaaGreat

namespace Go.Proofs.YtmmokiaipfalmaaGreat
open Go.RowKit Go.Maps Go.Shelf

theorem results_mid {P : Program} {fn : Func} {p s u : Tmp} {ty : TypeId} (h : fn.results = #[.tmp s, .cell p ty, .tmp u]) (tmps : Array Value) (w : World) (g : Nat) (t : TypeId) (cs : Array Value) (fr : Nat × Nat) (d : TypeDesc) (v v2 : Value)
    (hp : tmps.getD p undef = .pointer (some ⟨g, 0, none⟩)) (hs : tmps.getD s undef = v) (hu2 : tmps.getD u undef = v2) (hg : w.heap[g]? = some (.cells cs t fr))
    (hu : P.underlying ty = some d) (hd : (match d with | .struct _ | .array _ _ => true | _ => false) = true) (hi : (P.info? ty).map (·.size) = some cs.size) :
    (results fn tmps).run P w = .ok (.tuple #[v, .agg cs, v2]) w := by
  have hp' : tmps[p]?.getD undef = .pointer (some ⟨g, 0, none⟩) := by simpa using hp
  have hs' : tmps[s]?.getD undef = v := by simpa using hs
  have hu' : tmps[u]?.getD undef = v2 := by simpa using hu2
  simp [results, h, hp', hs', hu', asAddr, run_loadVar_row w g t ty cs fr d hg hu hd hi]
theorem bodyPost_mid {P : Program} {fn : Func} {p s u : Tmp} {ty : TypeId} {R : Ending → World → Prop} {a : Act} {w : World} (h : fn.results = #[.tmp s, .cell p ty, .tmp u]) (g : Nat) (t : TypeId) (cs : Array Value) (fr : Nat × Nat) (d : TypeDesc) (v v2 : Value)
    (hd0 : a.defers = []) (hp : a.tmps.getD p undef = .pointer (some ⟨g, 0, none⟩)) (hs : a.tmps.getD s undef = v) (hu2 : a.tmps.getD u undef = v2) (hg : w.heap[g]? = some (.cells cs t fr))
    (hu : P.underlying ty = some d) (hd : (match d with | .struct _ | .array _ _ => true | _ => false) = true) (hi : (P.info? ty).map (·.size) = some cs.size)
    (hR : R (.returned (.tuple #[v, .agg cs, v2])) w) : bodyPost P fn R .ret a w :=
  bodyPost_ret (results_mid h a.tmps w g t cs fr d v v2 hp hs hu2 hg hu hd hi) hd0 hR
/-- What it is to answer a row, a clause, a number. -/
abbrev StepNo (w : World) (q : List Int) (c : ClT) (x : Int) (e : Ending) (w' : World) : Prop := ∃ v, e = .returned (.tuple #[v, clV c, .int .i64 x]) ∧ w'.ownsRow w.heap.size 3 1 v q.length (intsC q) ∧ Below w.heap.size w w'
/-- Four cells of a clause are written. -/
abbrev set4 (W : World) (b : Nat) (c : ClT) : World := (((W.setCell ⟨b, 0, none⟩ (.int .i64 c.1)).setCell ⟨b, 1, none⟩ (.int .i64 c.2.1)).setCell ⟨b, 2, none⟩ (.int .i64 c.2.2.1)).setCell ⟨b, 3, none⟩ (.int .i64 c.2.2.2)
abbrev clC (c : ClT) : Array Value := #[.int .i64 c.1, .int .i64 c.2.1, .int .i64 c.2.2.1, .int .i64 c.2.2.2]
theorem blk4 {W : World} {b : Nat} {t : TypeId} {c0 : ClT} (h : Blk W b (clC c0) t) (c : ClT) : Blk (set4 W b c) b (clC c) t := (((h.set 0 _).set 1 _).set 2 _).set 3 _
theorem below4 {w W : World} {B b : Nat} (h : Below B w W) (hb : B ≤ b) (c : ClT) : Below B w (set4 W b c) := (((h.setCell (p := ⟨b, 0, none⟩) hb _).setCell (p := ⟨b, 1, none⟩) hb _).setCell (p := ⟨b, 2, none⟩) hb _).setCell (p := ⟨b, 3, none⟩) hb _
theorem own4 {w : World} {base n : Nat} {v : Value} {xs : List Value} (h : w.ownsRow base 3 1 v n xs) {b : Nat} {c0 : ClT} (hb : Blk w b (clC c0) 62) (c : ClT) : (set4 w b c).ownsRow base 3 1 v n xs := by
  have h1 := ch_set h hb (by decide) 0 (.int .i64 c.1)
  have b1 := hb.set 0 (.int .i64 c.1)
  have h2 := ch_set h1 b1 (by decide) 1 (.int .i64 c.2.1)
  have b2 := b1.set 1 (.int .i64 c.2.1)
  have h3 := ch_set h2 b2 (by decide) 2 (.int .i64 c.2.2.1)
  have b3 := b2.set 2 (.int .i64 c.2.2.1)
  exact ch_set h3 b3 (by decide) 3 (.int .i64 c.2.2.2)
theorem cells_of4 {W : World} {b : Nat} {c : ClT} (h : Blk W b (clC c) 62) : (W.cell? ⟨b, 0, none⟩ = some (.int .i64 c.1) ∧ W.cell? ⟨b, 1, none⟩ = some (.int .i64 c.2.1) ∧ W.cell? ⟨b, 2, none⟩ = some (.int .i64 c.2.2.1) ∧ W.cell? ⟨b, 3, none⟩ = some (.int .i64 c.2.2.2)) ∧ W.frozen? ⟨b, 0, none⟩ = false ∧ W.frozen? ⟨b, 1, none⟩ = false ∧ W.frozen? ⟨b, 2, none⟩ = false ∧ W.frozen? ⟨b, 3, none⟩ = false :=
  ⟨⟨Blk.cell h 0, Blk.cell h 1, Blk.cell h 2, Blk.cell h 3⟩, Blk.free h 0, Blk.free h 1, Blk.free h 2, Blk.free h 3⟩
set_option maxRecDepth 100000 in
set_option maxHeartbeats 4000000 in
theorem step_any (A B C P : Option Addr) (ca cb cc cp : Nat) (ns : List NodeD) (ps : List PodD) (os : List OwnD) (p : List Int) (kd pd nd : Int) (w : World) (h : SnapAt w A B C ca cb cc ns ps os) (hp : IntsAt w P cp p) :
    Calls Tryz.prog 37 #[snapV A B C ca cb cc ns ps os, .slice P p.length cp, stepV kd pd nd] w fun e w' => StepNo w (stepF ns ps os p (kd, pd, nd)).1 (stepF ns ps os p (kd, pd, nd)).2.1 (stepF ns ps os p (kd, pd, nd)).2.2 e w' := by
  have B0 : Hid (Below w.heap.size w (((w.alloc (.cells (snapC A B C ca cb cc ns ps os) 26)).alloc (.cells #[.int .i64 kd, .int .i64 pd, .int .i64 nd] 39)).alloc (.cells (clC z4) 62))) := Lib.hid ((Qu.below2 w _ _).alloc (by simp; omega) _)
  have Z0 : Hid (Blk (((w.alloc (.cells (snapC A B C ca cb cc ns ps os) 26)).alloc (.cells #[.int .i64 kd, .int .i64 pd, .int .i64 nd] 39)).alloc (.cells (clC z4) 62)) w.heap.size (snapC A B C ca cb cc ns ps os) 26) := Lib.hid (Blk.alloc (Blk.alloc (Blk.new w _ _) _) _)
  have S0 : Hid (Blk (((w.alloc (.cells (snapC A B C ca cb cc ns ps os) 26)).alloc (.cells #[.int .i64 kd, .int .i64 pd, .int .i64 nd] 39)).alloc (.cells (clC z4) 62)) (w.heap.size + 1) #[.int .i64 kd, .int .i64 pd, .int .i64 nd] 39) := Lib.hid (Blk.alloc (blk2 w _ _ _) _)
  have C0 : Hid (Blk (((w.alloc (.cells (snapC A B C ca cb cc ns ps os) 26)).alloc (.cells #[.int .i64 kd, .int .i64 pd, .int .i64 nd] 39)).alloc (.cells (clC z4) 62)) (w.heap.size + 1 + 1) (clC z4) 62) := Lib.hid (by
    have := Blk.new ((w.alloc (.cells (snapC A B C ca cb cc ns ps os) 26)).alloc (.cells #[.int .i64 kd, .int .i64 pd, .int .i64 nd] 39)) (clC z4) 62
    rw [World.size_alloc, World.size_alloc] at this
    exact this)
  have KT := Lib.hid (try_any A B C P ca cb cc cp ns ps os p kd pd nd _ (h.below B0.out) (hp.below B0.out))
  have HS : Hid (stepF ns ps os p (kd, pd, nd) = ((tryF ns ps os p kd pd nd).1, (tryF ns ps os p kd pd nd).2.c, (tryF ns ps os p kd pd nd).2.e)) := Lib.hid rfl
  generalize stepF ns ps os p (kd, pd, nd) = R at HS ⊢
  generalize tryF ns ps os p kd pd nd = T at KT HS
  obtain ⟨q, ag⟩ := T
  dsimp only at KT HS
  have hR := HS.out
  clear h hp HS
  subst hR
  show Calls Tryz.prog 37 #[snapV A B C ca cb cc ns ps os, .slice P p.length cp, stepV kd pd nd] w fun e w' => StepNo w q ag.c ag.e e w'
  have KC := Lib.hid (fun W' => clauseOf_any ag W')
  have KE := Lib.hid (fun W' => errorOf_any ag W')
  generalize ag.c = c at KC ⊢
  generalize ag.e = x at KE ⊢
  generalize ag.v = av at KC KE KT ⊢
  go_enter Tryz.func37, Tryz.ntmps37
  go_upto_region 1 with fail
  try change Code.wp _ _ _ _ (((w.alloc (.cells (snapC A B C ca cb cc ns ps os) 26)).alloc (.cells #[.int .i64 kd, .int .i64 pd, .int .i64 nd] 39)).alloc (.cells (clC z4) 62))
  generalize (((w.alloc (.cells (snapC A B C ca cb cc ns ps os) 26)).alloc (.cells #[.int .i64 kd, .int .i64 pd, .int .i64 nd] 39)).alloc (.cells (clC z4) 62)) = W at B0 Z0 S0 C0 KT ⊢
  have z0 : W.cell? ⟨w.heap.size, 0, none⟩ = some (.slice A ns.length ca) := Blk.cell Z0.out 0
  have z1 : W.cell? ⟨w.heap.size, 1, none⟩ = some (.slice B ps.length cb) := Blk.cell Z0.out 1
  have z2 : W.cell? ⟨w.heap.size, 2, none⟩ = some (.slice C os.length cc) := Blk.cell Z0.out 2
  have s0 : W.cell? ⟨w.heap.size + 1, 0, none⟩ = some (.int .i64 kd) := Blk.cell S0.out 0
  have s1 : W.cell? ⟨w.heap.size + 1, 1, none⟩ = some (.int .i64 pd) := Blk.cell S0.out 1
  have s2 : W.cell? ⟨w.heap.size + 1, 2, none⟩ = some (.int .i64 nd) := Blk.cell S0.out 2
  go_wp2_with fail
  refine (KT.out).mono ?_
  rintro e w1 ⟨v, rfl, ho, hb⟩
  have O1 := Lib.hid ho
  have C1 := Lib.hid (C0.out.below hb C0.out.lt)
  have B1 := Lib.hid (B0.out.trans (hb.mono B0.out.size))
  have hb0 := Lib.hid B0.out.size
  clear ho hb KT z0 z1 z2 s0 s1 s2 Z0 S0 C0 B0
  go_wp2_with fail
  refine (KC.out _).mono ?_
  rintro e w2 ⟨rfl, hb⟩
  have O2 := Lib.hid (La.own_below O1.out hb)
  have C2 := Lib.hid (C1.out.below hb C1.out.lt)
  have B2 := Lib.hid (B1.out.trans (hb.mono B1.out.size))
  clear hb KC O1 C1 B1
  go_wp2_with fail
  refine (KE.out _).mono ?_
  rintro e w3 ⟨rfl, hb⟩
  have O3 := Lib.hid (La.own_below O2.out hb)
  have C3 := Lib.hid (C2.out.below hb C2.out.lt)
  have B3 := Lib.hid (B2.out.trans (hb.mono B2.out.size))
  clear hb KE O2 C2 B2
  obtain ⟨⟨y0, y1, y2, y3⟩, g0, g1, g2, g3⟩ := cells_of4 C3.out
  have O4 := Lib.hid (own_base (own4 O3.out C3.out c) hb0.out)
  have C4 := Lib.hid (blk4 C3.out c)
  have B4 := Lib.hid (below4 B3.out (show w.heap.size ≤ w.heap.size + 1 + 1 by omega) c)
  go_wp2
  refine bodyPost_mid Tryz.results37 (w.heap.size + 1 + 1) _ _ _ _ v (.int .i64 x) (by rfl) (by rfl) (by rfl) (by rfl) C4.out Tryz.underlying62 rfl (by kernel_rfl) ?_
  exact ⟨_, rfl, O4.out, B4.out⟩

end Go.Proofs.YtmmokiaipfalmaaGreat

namespace Go.Proofs.YtmmokiaipfalmaaGreat
open Go.RowKit Go.Maps

theorem was_trans {L0 L1 : List ClT} (h0 : ∀ c ∈ L0, 0 ≤ c.2.2.2) (h1 : ∀ c ∈ L1, c.2.2.2 ≤ was9 L0 c) (c : ClT) : was9 L1 c ≤ was9 L0 c := by
  unfold was9 findC
  cases hq : L1.find? (isC c.1 c.2.1 c.2.2.1) with
  | none =>
    cases hr : L0.find? (isC c.1 c.2.1 c.2.2.1) with
    | none => exact Int.le_refl _
    | some d => exact h0 d (List.mem_of_find?_eq_some hr)
  | some d =>
    have hd := h1 d (List.mem_of_find?_eq_some hq)
    have hi : isC c.1 c.2.1 c.2.2.1 d = true := List.find?_some hq
    have hi := of_decide_eq_true hi
    unfold was9 findC at hd
    rw [hi.1, hi.2.1, hi.2.2] at hd
    exact hd
theorem worse_none {L0 L1 : List ClT} (h : L1.filter (worC L0) = []) : ∀ c ∈ L1, c.2.2.2 ≤ was9 L0 c := by
  intro c hc
  rw [List.filter_eq_nil_iff] at h
  have h1 := h c hc
  unfold worC at h1
  have h2 : ¬ was9 L0 c < c.2.2.2 := fun h3 => h1 (decide_eq_true h3)
  omega
/-- No clause of q is broken by more than in L0. -/
def Keeps (L0 L : List ClT) : Prop := ∀ c ∈ L, c.2.2.2 ≤ was9 L0 c
theorem Keeps.self {ns : List NodeD} {ps : List PodD} {os : List OwnD} {p : List Int} : Keeps (all8 ns ps os p) (all8 ns ps os p) := by
  intro c hc
  unfold was9
  rw [find_rise (all8_rise ns ps os p) hc]
  exact Int.le_refl _
theorem Keeps.on {L0 L1 L2 : List ClT} (h0 : ∀ c ∈ L0, 0 ≤ c.2.2.2) (h1 : Keeps L0 L1) (h2 : Keeps L1 L2) : Keeps L0 L2 := fun c hc => Int.le_trans (h2 c hc) (was_trans h0 h1 c)
theorem place_none {ns : List NodeD} {ps : List PodD} {os : List OwnD} {p : List Int} (hE : placeE ns ps os p = 0) {i : Nat} {v : Int} (hv : p[i]? = some v) (h0 : v < 0) : v = -1 := by
  have h := (placeE_zero hE).2.2 v (List.mem_of_getElem? hv)
  unfold okB tpB at h
  simp at h
  omega
end Go.Proofs.YtmmokiaipfalmaaGreat

namespace Go.Proofs.YtmmokiaipfalmaaGreat
open Go.RowKit Go.Maps

theorem ways_in {ns : List NodeD} {ps : List PodD} {os : List OwnD} {p : List Int} {pd x : Int} : ∀ k, x ∈ waysU ns ps os p pd k → mayB ns ps os p (2, pd, x) = true
  | 0, h => by cases h
  | k + 1, h => by
    rw [waysU, List.mem_append] at h
    rcases h with h | h
    · exact ways_in k h
    · split at h
      · rename_i hm
        rw [List.mem_singleton] at h
        rw [h]
        exact hm
      · cases h
end Go.Proofs.YtmmokiaipfalmaaGreat

namespace Go.Proofs.YtmmokiaipfalmaaGreat
open Go.RowKit Go.Maps

theorem bind_step {ns : List NodeD} {ps : List PodD} {os : List OwnD} {p : List Int} {i : Nat} {nd : Int} (hm : mayB ns ps os p (2, (i : Int), nd) = true) :
    p[i]? = some (-1) ∧ 0 ≤ nd ∧ stepF ns ps os p (2, (i : Int), nd) = (p.set i nd, z4, 0) ∧ placeE ns ps os (p.set i nd) = 0 ∧ Keeps (all8 ns ps os p) (all8 ns ps os (p.set i nd)) := by
  have hm := of_decide_eq_true hm
  unfold stepF tryF at hm
  dsimp only at hm
  by_cases ha : (applyF ns ps os p 2 (i : Int) nd).2 = 0
  case neg =>
    rw [if_pos ha] at hm
    exact absurd hm ha
  have hok := apply_ok ha
  have hA : p[i]? = some (-1) ∧ 0 ≤ nd ∧ (applyF ns ps os p 2 (i : Int) nd) = (p.set i nd, 0) := by
    unfold applyF at ha ⊢
    rw [if_pos hok.1] at ha ⊢
    rw [if_neg (by decide), if_pos rfl] at ha ⊢
    unfold bindF at ha ⊢
    split at ha
    · rename_i h1
      rw [if_pos h1]
      split at ha
      · rename_i h2
        rw [if_pos h2]
        split at ha
        · rename_i h3
          rw [if_pos h3]
          split at ha
          · simp at ha
          · rename_i h4
            rw [if_neg h4]
            rw [Int.toNat_natCast] at h3 ⊢
            exact ⟨h3, h2.1, rfl⟩
        · simp at ha
      · simp at ha
    · simp at ha
  obtain ⟨hp, hn, hA⟩ := hA
  rw [hA] at hok hm
  have hE := hok.2.1
  dsimp only at hE hm
  rw [if_neg (by decide)] at hm
  split at hm
  · simp [Ag.e] at hm
  · rename_i hc
    split at hm
    · simp [Ag.e] at hm
    · rename_i hw
      refine ⟨hp, hn, ?_, hE, worse_none hw⟩
      unfold stepF tryF
      dsimp only
      rw [hA]
      dsimp only
      rw [if_neg (by decide), if_neg hc, hw]
      rfl
/-- How Pack stands behind the pods of S. -/
structure PackI (ns : List NodeD) (ps : List PodD) (os : List OwnD) (p : List Int) (S : List Nat) (x : List Int × List Int) : Prop where
  l : x.1.length = p.length
  e : placeE ns ps os x.1 = 0
  k : Keeps (all8 ns ps os p) (all8 ns ps os x.1)
  s : ∀ i, (i ∉ S ∨ p[i]? ≠ some (-1)) → x.1[i]? = p[i]?
  w : ∀ i : Nat, (i : Int) ∈ x.2 ↔ i ∈ S ∧ x.1[i]? = some (-1)
/-- What becomes of one pod. -/
def StepI (ns : List NodeD) (ps : List PodD) (os : List OwnD) (a b : List Int) (k : Nat) (v z : Int) : Prop :=
  a[k]? = some v ∧ b[k]? = some z ∧ ((0 ≤ v ∧ b = a) ∨ (v = -1 ∧ z = -1 ∧ waysU ns ps os a (k : Int) ns.length = [] ∧ b = a) ∨ (v = -1 ∧ 0 ≤ z ∧ (waysU ns ps os a (k : Int) ns.length).contains z = true ∧ stepF ns ps os a (2, (k : Int), z) = (a.set k z, z4, 0) ∧ b = a.set k z))
theorem pack_one {ns : List NodeD} {ps : List PodD} {os : List OwnD} {p : List Int} {S : List Nat} {x : List Int × List Int} {k : Nat} (h : PackI ns ps os p S x) (hk : k ∉ S) (hl : k < p.length) :
    PackI ns ps os p (S ++ [k]) (packS ns ps os x k) ∧ ∃ v z, StepI ns ps os x.1 (packS ns ps os x k).1 k v z := by
  have hg : ∀ q : List Int, ∀ c ∈ all8 ns ps os q, 0 ≤ c.2.2.2 := fun q c hc => (all8_good ns ps os q c hc).1
  have hkl : k < x.1.length := by rw [h.l]; exact hl
  obtain ⟨v, hv⟩ : ∃ v, x.1[k]? = some v := ⟨x.1[k], List.getElem?_eq_getElem hkl⟩
  have hpk : x.1[k]? = p[k]? := h.s k (.inl hk)
  have hwk : (k : Int) ∉ x.2 := fun e => hk ((h.w k).1 e).1
  unfold packS
  by_cases hm : x.1[k]? = some (-1)
  · rw [if_pos hm]
    rw [hm] at hv
    cases hv
    cases hr : rankU ns ps os x.1 (k : Int) with
    | nil =>
      dsimp only
      have hw : waysU ns ps os x.1 (k : Int) ns.length = [] := List.length_eq_zero_iff.1 (by rw [rank_ok.1.length_eq.symm, hr]; rfl)
      refine ⟨⟨h.l, h.e, h.k, fun i hi => h.s i ?_, fun i => ?_⟩, -1, -1, hm, hm, .inr (.inl ⟨rfl, rfl, hw, rfl⟩)⟩
      · rcases hi with hi | hi
        · exact .inl (fun e => hi (List.mem_append_left _ e))
        · exact .inr hi
      · show (i : Int) ∈ x.2 ++ [(k : Int)] ↔ i ∈ S ++ [k] ∧ x.1[i]? = some (-1)
        rw [List.mem_append, List.mem_append, List.mem_singleton, List.mem_singleton, h.w i]
        constructor
        · rintro (⟨h1, h2⟩ | h1)
          · exact ⟨.inl h1, h2⟩
          · have : i = k := by omega
            subst this
            exact ⟨.inr rfl, hm⟩
        · rintro ⟨h1 | h1, h2⟩
          · exact .inl ⟨h1, h2⟩
          · exact .inr (by rw [h1])
    | cons y t =>
      dsimp only
      have hy : y ∈ rankU ns ps os x.1 (k : Int) := by rw [hr]; exact List.mem_cons_self
      have hyw : y ∈ waysU ns ps os x.1 (k : Int) ns.length := rank_ok.1.mem_iff.1 hy
      obtain ⟨_, hy0, hst, hE, hK⟩ := bind_step (ways_in _ hyw)
      have hset : (x.1.set k y)[k]? = some y := List.getElem?_set_self hkl
      refine ⟨⟨by simpa using h.l, hE, Keeps.on (hg _) h.k hK, fun i hi => ?_, fun i => ?_⟩, -1, y, hm, hset, .inr (.inr ⟨rfl, hy0, List.contains_iff_mem.2 hyw, hst, rfl⟩)⟩
      · have hik : i ≠ k := by
          rintro rfl
          rcases hi with hi | hi
          · exact hi (List.mem_append_right _ (List.mem_singleton.2 rfl))
          · exact hi (hpk.symm.trans hm)
        rw [List.getElem?_set_ne (Ne.symm hik)]
        refine h.s i ?_
        rcases hi with hi | hi
        · exact .inl (fun e => hi (List.mem_append_left _ e))
        · exact .inr hi
      · show (i : Int) ∈ x.2 ↔ i ∈ S ++ [k] ∧ (x.1.set k y)[i]? = some (-1)
        by_cases hik : i = k
        · subst hik
          rw [hset]
          constructor
          · intro e
            exact absurd e hwk
          · rintro ⟨_, e⟩
            cases e
            omega
        · rw [List.getElem?_set_ne (Ne.symm hik), h.w i, List.mem_append, List.mem_singleton]
          constructor
          · rintro ⟨h1, h2⟩
            exact ⟨.inl h1, h2⟩
          · rintro ⟨h1 | h1, h2⟩
            · exact ⟨h1, h2⟩
            · exact absurd h1 hik
  · rw [if_neg hm]
    have hv0 : 0 ≤ v := by
      by_cases h0 : v < 0
      · have := place_none h.e hv h0
        subst this
        exact absurd hv hm
      · omega
    refine ⟨⟨h.l, h.e, h.k, fun i hi => h.s i ?_, fun i => ?_⟩, v, v, hv, hv, .inl ⟨hv0, rfl⟩⟩
    · rcases hi with hi | hi
      · exact .inl (fun e => hi (List.mem_append_left _ e))
      · exact .inr hi
    · rw [h.w i, List.mem_append, List.mem_singleton]
      constructor
      · rintro ⟨h1, h2⟩
        exact ⟨.inl h1, h2⟩
      · rintro ⟨h1 | h1, h2⟩
        · exact ⟨h1, h2⟩
        · subst h1
          exact absurd h2 hm
theorem pack_start {ns : List NodeD} {ps : List PodD} {os : List OwnD} {p : List Int} (hE : placeE ns ps os p = 0) : PackI ns ps os p [] (p, []) := ⟨rfl, hE, Keeps.self, fun _ _ => rfl, fun i => by simp⟩
theorem pack_upto {ns : List NodeD} {ps : List PodD} {os : List OwnD} {p : List Int} (hE : placeE ns ps os p = 0) {L : List Nat} (hn : L.Nodup) (hl : ∀ k ∈ L, k < p.length) : ∀ m, m ≤ L.length → PackI ns ps os p (L.take m) (packF ns ps os p (L.take m))
  | 0, _ => by
    rw [List.take_zero]
    exact pack_start hE
  | m + 1, h => by
    have hm : L[m]? = some L[m] := List.getElem?_eq_getElem (by omega)
    have h1 := pack_upto hE hn hl m (by omega)
    have hnot : L[m] ∉ L.take m := by
      intro e
      obtain ⟨j, hj, he⟩ := List.getElem_of_mem e
      rw [List.length_take] at hj
      rw [List.getElem_take] at he
      have := (List.getElem_inj hn).1 he
      omega
    rw [packF_snoc hm, List.take_add_one, hm]
    exact (pack_one h1 hnot (hl _ (List.getElem_mem _))).1
theorem pack_later {ns : List NodeD} {ps : List PodD} {os : List OwnD} {k : Nat} : ∀ (M : List Nat) (x : List Int × List Int), k ∉ M → (M.foldl (packS ns ps os) x).1[k]? = x.1[k]?
  | [], _, _ => rfl
  | a :: M, x, h => by
    rw [List.foldl_cons, pack_later M _ (fun e => h (List.mem_cons_of_mem _ e))]
    have hak : a ≠ k := fun e => h (by rw [e]; exact List.mem_cons_self)
    unfold packS
    split
    · split
      · rfl
      · exact List.getElem?_set_ne hak
    · rfl
theorem pack_steps {ns : List NodeD} {ps : List PodD} {os : List OwnD} {p : List Int} (hE : placeE ns ps os p = 0) {L : List Nat} (hn : L.Nodup) (hl : ∀ k ∈ L, k < p.length) {m k : Nat} (hk : L[m]? = some k) :
    ∃ v z, StepI ns ps os (packF ns ps os p (L.take m)).1 (packF ns ps os p (L.take (m + 1))).1 k v z ∧ (packF ns ps os p L).1[k]? = some z := by
  obtain ⟨hml, rfl⟩ := List.getElem?_eq_some_iff.1 hk
  have h1 := pack_upto hE hn hl m (by omega)
  have hnot : L[m] ∉ L.take m := by
    intro e
    obtain ⟨j, hj, he⟩ := List.getElem_of_mem e
    rw [List.length_take] at hj
    rw [List.getElem_take] at he
    have := (List.getElem_inj hn).1 he
    omega
  have hnot2 : L[m] ∉ L.drop (m + 1) := by
    intro e
    obtain ⟨j, hj, he⟩ := List.getElem_of_mem e
    rw [List.length_drop] at hj
    rw [List.getElem_drop] at he
    have := (List.getElem_inj hn).1 he
    omega
  obtain ⟨_, v, z, hs⟩ := pack_one h1 hnot (hl _ (List.getElem_mem _))
  rw [← packF_snoc hk] at hs
  refine ⟨v, z, hs, ?_⟩
  have e : packF ns ps os p L = (L.drop (m + 1)).foldl (packS ns ps os) (packF ns ps os p (L.take (m + 1))) := by
    unfold packF
    rw [← List.foldl_append, List.take_append_drop]
  rw [e, pack_later _ _ hnot2]
  exact hs.2.1
theorem order_nodup {ns : List NodeD} {ps : List PodD} {pods : List Int} : (orderU ns ps pods).Nodup := (orderU_perm ns ps pods).nodup_iff.2 ((amongL_rise pods ps.length).imp (fun {a b} h => by omega))
theorem order_has {ns : List NodeD} {ps : List PodD} {pods : List Int} {i : Nat} (h24 : i < 24) (hl : i < ps.length) : i ∈ orderU ns ps pods ↔ pods.contains (i : Int) = true := by
  rw [(orderU_perm ns ps pods).mem_iff]
  unfold amongL
  rw [List.mem_filter, List.mem_range, Bool.and_eq_true, decide_eq_true_eq]
  exact ⟨fun h => h.2.2, fun h => ⟨h24, hl, h⟩⟩
/-- What holds of the whole. -/
structure PackE (ns : List NodeD) (ps : List PodD) (os : List OwnD) (p pods q W : List Int) : Prop where
  l : q.length = p.length
  e : placeE ns ps os q = 0
  w : worseU ns ps os p q = []
  s : ∀ (i : Nat) (x y : Int), p[i]? = some x → q[i]? = some y → (y = x ∨ (x = -1 ∧ pods.contains (i : Int) = true)) ∧ W.contains (i : Int) = (pods.contains (i : Int) && decide (y < 0))
theorem pack_ends {ns : List NodeD} {ps : List PodD} {os : List OwnD} {p pods : List Int} (hE : placeE ns ps os p = 0) :
    PackE ns ps os p pods (packF ns ps os p (orderU ns ps pods)).1 ((packF ns ps os p (orderU ns ps pods)).2.mergeSort (fun x y => decide (x ≤ y))) := by
  have hpl := placeE_len hE
  have hp24 : p.length ≤ 24 := by have := (placeE_few hE).2.1; omega
  have h := pack_upto hE (order_nodup (ns := ns) (ps := ps) (pods := pods)) (fun k hk => by have := (orderU_lt hk).2.1; omega) _ (Nat.le_refl _)
  rw [List.take_length] at h
  refine ⟨h.l, h.e, ?_, fun i x y hx hy => ?_⟩
  · unfold worseU
    rw [List.filter_eq_nil_iff]
    intro c hc hb
    have h1 := h.k c hc
    unfold worC at hb
    have := of_decide_eq_true hb
    omega
  · have hil : i < p.length := (List.getElem?_eq_some_iff.1 hx).1
    have hh := order_has (ns := ns) (ps := ps) (pods := pods) (i := i) (by omega) (by omega)
    constructor
    · by_cases hc : i ∉ orderU ns ps pods ∨ p[i]? ≠ some (-1)
      · have := h.s i hc
        rw [hx, hy] at this
        cases this
        exact .inl rfl
      · rw [not_or] at hc
        obtain ⟨h1, h2⟩ := hc
        have h1 := Classical.not_not.1 h1
        have h2 := Classical.not_not.1 h2
        rw [hx] at h2
        cases h2
        exact .inr ⟨rfl, hh.1 h1⟩
    · rw [Bool.eq_iff_iff, List.contains_iff_mem, (List.mergeSort_perm _ _).mem_iff, h.w i, Bool.and_eq_true, decide_eq_true_eq, hh, hy]
      constructor
      · rintro ⟨h1, h2⟩
        cases h2
        exact ⟨h1, by omega⟩
      · rintro ⟨h1, h2⟩
        rw [place_none h.e hy h2]
        exact ⟨h1, rfl⟩
end Go.Proofs.YtmmokiaipfalmaaGreat

namespace Go.Proofs.YtmmokiaipfalmaaGreat
open Go.RowKit Go.Maps

theorem fitted14_own (A B C P : Option Addr) (ca cb cc cp : Nat) (ns : List NodeD) (ps : List PodD) (os : List OwnD) (l : List Int) (w : World) (h : SnapAt w A B C ca cb cc ns ps os) (hp : IntsAt w P cp l) :
    Calls Tryz.prog 17 #[snapV A B C ca cb cc ns ps os, .slice P l.length cp] w fun e w' => ∃ Q c, e = .returned (.slice Q (fitU ns l ps.length).length c) ∧ IntsAt w' Q c (fitU ns l ps.length) ∧ (∀ a, Q = some a → ∃ b o, a = ⟨b, o, none⟩) ∧ Below w.heap.size w w' := by
  refine (fitted14_any A B C P ca cb cc cp ns ps os l w h hp).mono ?_
  rintro e w' ⟨v, rfl, ho, hb⟩
  obtain ⟨g, c, rfl, _⟩ := La.own_slice ho
  have e := fitU_len ns l ps.length
  refine ⟨g, c, by rw [e], IntsAt.own (base := w.heap.size) (by rw [e]; exact ho), ?_, hb⟩
  intro a ha
  rcases ho.2 with ⟨hv, _⟩ | ⟨g', cap, cur, hv, _⟩
  · simp only [Value.slice.injEq] at hv
    rw [hv.1] at ha
    cases ha
  · simp only [Value.slice.injEq] at hv
    rw [hv.1] at ha
    cases ha
    exact ⟨g', 0, rfl⟩
theorem eq_len (A B : Option Addr) (ca cb n : Nat) (l m : List Int) (w : World) (hn : l.length = n) (he : l = m) (hl : n ≤ 9223372036854775807) (ha : IntsAt w A ca l) (hb : IntsAt w B cb m) :
    Calls Tryz.prog 28 #[.slice A n ca, .slice B n cb] w fun e w' => e = .returned (.bool true) ∧ Below w.heap.size w w' := by
  subst he hn
  have q := eqInts_anyL A B ca cb l l w hl ha hb
  rwa [decide_eq_true (rfl : l = l)] at q
theorem in_val (A : Option Addr) (c n : Nat) (l : List Int) (x : Int) (b : Bool) (w : World) (hl : l.length = n) (hc : l.contains x = b) (h : IntsAt w A c l) :
    Calls Tryz.prog 25 #[.slice A n c, .int .i64 x] w fun e w' => e = .returned (.bool b) ∧ w' = w := by
  have q := in14_any A c l x w h
  rwa [hc, hl] at q
theorem ways_len (A B C P : Option Addr) (ca cb cc cp n : Nat) (ns : List NodeD) (ps : List PodD) (os : List OwnD) (p Wl : List Int) (pd : Int) (hn : p.length = n) (hw : waysU ns ps os p pd ns.length = Wl) (w : World) (h : SnapAt w A B C ca cb cc ns ps os) (hp : IntsAt w P cp p) :
    Calls Tryz.prog 21 #[snapV A B C ca cb cc ns ps os, .slice P n cp, .int .i64 pd] w fun e w' => ∃ X cx, e = .returned (.slice X Wl.length cx) ∧ IntsAt w' X cx Wl ∧ Below w.heap.size w w' := by
  subst hn hw
  refine (ways_anyA A B C P ca cb cc cp ns ps os p pd w h hp).mono ?_
  rintro e w' ⟨v, rfl, ho, hb⟩
  obtain ⟨g, c, rfl, _⟩ := La.own_slice ho
  exact ⟨g, c, rfl, IntsAt.own ho, hb⟩
theorem step_len (A B C P : Option Addr) (ca cb cc cp n : Nat) (ns : List NodeD) (ps : List PodD) (os : List OwnD) (p q : List Int) (pd nd : Int) (hn : p.length = n) (hq : q.length = n) (hs : stepF ns ps os p (2, pd, nd) = (q, z4, 0)) (w : World) (h : SnapAt w A B C ca cb cc ns ps os) (hp : IntsAt w P cp p) :
    Calls Tryz.prog 37 #[snapV A B C ca cb cc ns ps os, .slice P n cp, stepV 2 pd nd] w fun e w' => ∃ X cx, e = .returned (.tuple #[.slice X n cx, clV z4, .int .i64 0]) ∧ w'.ownsRow w.heap.size 3 1 (.slice X n cx) n (intsC q) ∧ Below w.heap.size w w' := by
  subst hn
  refine (step_any A B C P ca cb cc cp ns ps os p 2 pd nd w h hp).mono ?_
  rw [hs]
  rintro e w' ⟨v, rfl, ho, hb⟩
  dsimp only at ho
  rw [hq] at ho
  obtain ⟨g, c, rfl, _⟩ := La.own_slice ho
  exact ⟨g, c, rfl, ho, hb⟩
theorem worse_no (A B C P Q : Option Addr) (ca cb cc cp cq n : Nat) (ns : List NodeD) (ps : List PodD) (os : List OwnD) (p q : List Int) (hn : p.length = n) (hq : q.length = n) (hE : placeE ns ps os p = 0) (hE2 : placeE ns ps os q = 0) (hw : worseU ns ps os p q = []) (w : World) (h : SnapAt w A B C ca cb cc ns ps os) (hp : IntsAt w P cp p) (hqq : IntsAt w Q cq q) :
    Calls Tryz.prog 36 #[snapV A B C ca cb cc ns ps os, .slice P n cp, .slice Q n cq] w fun e w' => ∃ X cx, e = .returned (.tuple #[.slice X 0 cx, .int .i64 0]) ∧ Below w.heap.size w w' := by
  have k := worse_at A B C P Q ca cb cc cp cq ns ps os p q w h hp hqq
  rw [hn, hq] at k
  have e1 : worseF ns ps os p q = [] := by
    unfold worseF
    rw [if_pos hE, hw]
  have e2 : worseE ns ps os p q = 0 := by
    unfold worseE
    rw [if_pos hE, hE2]
  rw [e1, e2] at k
  refine k.mono ?_
  rintro e w' ⟨v, rfl, ho, hb⟩
  obtain ⟨g, c, rfl, _⟩ := La.own_slice ho
  exact ⟨g, c, rfl, hb⟩
end Go.Proofs.YtmmokiaipfalmaaGreat

namespace Go.Proofs.YtmmokiaipfalmaaGreat
open Go.RowKit

set_option maxRecDepth 100000 in
set_option maxHeartbeats 4000000 in
theorem pack_bad (A B C P D : Option Addr) (ca cb cc cp cd : Nat) (ns : List NodeD) (ps : List PodD) (os : List OwnD) (p pods : List Int) (hE : placeE ns ps os p ≠ 0) (w : World) (h : SnapIn w A B C ca cb cc ns ps os) (hp : IntsAt w P cp p) :
    Calls Tryz.prog 27 #[snapV A B C ca cb cc ns ps os, .slice P p.length cp, .slice D pods.length cd] w fun e w' => e = .returned (.tuple #[.slice none 0 0, .slice none 0 0, .int .i64 (placeE ns ps os p)]) ∧ Below w.heap.size w w' := by
  have B0 : Hid (Below w.heap.size w (w.alloc (.cells (snapC A B C ca cb cc ns ps os) 26))) := Lib.hid (below1 w _)
  have S0 : Hid (Blk (w.alloc (.cells (snapC A B C ca cb cc ns ps os) 26)) w.heap.size (snapC A B C ca cb cc ns ps os) 26) := Lib.hid (Blk.new w _ _)
  have KE := Lib.hid (pcheck_in A B C P ca cb cc cp ns ps os p _ (h.low B0.out) (hp.below B0.out))
  clear h hp
  generalize placeE ns ps os p = E at KE hE ⊢
  have hE1 : (E == 0) = false := by simpa using hE
  have hE2 : decide (E = 0) = false := decide_eq_false hE
  clear hE
  go_enter Tryz.func27, Tryz.ntmps27
  go_upto_region 1 with fail
  try change Code.wp _ _ _ _ (w.alloc (.cells (snapC A B C ca cb cc ns ps os) 26))
  generalize (w.alloc (.cells (snapC A B C ca cb cc ns ps os) 26)) = W0 at B0 S0 KE ⊢
  go_step3
  have z0 : W0.cell? ⟨w.heap.size, 0, none⟩ = some (.slice A ns.length ca) := Blk.cell S0.out 0
  have z1 : W0.cell? ⟨w.heap.size, 1, none⟩ = some (.slice B ps.length cb) := Blk.cell S0.out 1
  have z2 : W0.cell? ⟨w.heap.size, 2, none⟩ = some (.slice C os.length cc) := Blk.cell S0.out 2
  go_wp2_with fail
  refine (KE.out).mono ?_
  rintro e W1 ⟨rfl, hb⟩
  have D := Lib.hid (B0.out.trans (hb.mono B0.out.size))
  clear hb KE z0 z1 z2 S0 B0
  go_wp2
  dsimp only [Exit.noGoto]
  go_ret3
  exact ⟨rfl, D.out⟩
end Go.Proofs.YtmmokiaipfalmaaGreat
