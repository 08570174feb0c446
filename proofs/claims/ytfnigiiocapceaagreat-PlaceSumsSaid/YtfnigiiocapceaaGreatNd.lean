/- What a cluster is in memory: its nodes, pods and owners, and the lists within them. No conditions. Names and rows of a cluster's parts: contracts of the small functions. No conditions. -/
import Derived.Test.YtfnigiiocapceaaGreatNb
import Derived.Test.YtfnigiiocapceaaGreatVecPlus

namespace Go.Proofs.YtfnigiiocapceaaGreat
open Go.RowKit

abbrev L2 := List UInt8 × List UInt8
abbrev T3 := Int × List UInt8 × List UInt8
/-- A list of labels, of terms, as a value. -/
structure ListL (w : World) (A : Option Addr) (c : Nat) (l : List L2) : Prop where
  le : l.length ≤ c
  most : c ≤ 9223372036854775807
  cells : La.SlAt w A (La.cellsL l)
  big : ∀ x ∈ l, x.1.length ≤ 9223372036854775807 ∧ x.2.length ≤ 9223372036854775807
structure ListT (w : World) (A : Option Addr) (c : Nat) (l : List T3) : Prop where
  le : l.length ≤ c
  most : c ≤ 9223372036854775807
  cells : La.SlAt w A (La.cellsT l)
  big : ∀ x ∈ l, x.2.1.length ≤ 9223372036854775807 ∧ x.2.2.length ≤ 9223372036854775807
theorem ListL.below {w w' : World} {A : Option Addr} {c : Nat} {l : List L2} (h : ListL w A c l) (hb : Below w.heap.size w w') : ListL w' A c l := ⟨h.le, h.most, h.cells.below hb, h.big⟩
theorem ListT.below {w w' : World} {A : Option Addr} {c : Nat} {l : List T3} (h : ListT w A c l) (hb : Below w.heap.size w w') : ListT w' A c l := ⟨h.le, h.most, h.cells.below hb, h.big⟩

/-- A node, a pod, an owner; beside each list its value. -/
structure NodeD where
  name : List UInt8
  cap : Nat → Int
  labels : List L2
  taints : List L2
  cordon : Bool
  lost : Bool
  al : Option Addr
  cl : Nat
  at_ : Option Addr
  ct : Nat
structure PodD where
  name : List UInt8
  owner : List UInt8
  req : Nat → Int
  labels : List L2
  whr : List T3
  bears : List L2
  wt : List UInt8
  wtm : List T3
  ap : List UInt8
  apm : List T3
  on : List UInt8
  al : Option Addr
  cl : Nat
  aw : Option Addr
  cw : Nat
  ab : Option Addr
  cb : Nat
  awt : Option Addr
  cwt : Nat
  aap : Option Addr
  cap : Nat
structure OwnD where
  name : List UInt8
  min : Int
  topo : List UInt8
  skew : Int
  single : Bool

structure NodeD.fit (w : World) (x : NodeD) : Prop where
  l : ListL w x.al x.cl x.labels
  t : ListL w x.at_ x.ct x.taints
  n : x.name.length ≤ 9223372036854775807
structure PodD.fit (w : World) (x : PodD) : Prop where
  l : ListL w x.al x.cl x.labels
  wh : ListT w x.aw x.cw x.whr
  b : ListL w x.ab x.cb x.bears
  wt : ListT w x.awt x.cwt x.wtm
  ap : ListT w x.aap x.cap x.apm
  n : x.name.length ≤ 9223372036854775807 ∧ x.owner.length ≤ 9223372036854775807 ∧ x.wt.length ≤ 9223372036854775807 ∧ x.ap.length ≤ 9223372036854775807 ∧ x.on.length ≤ 9223372036854775807
structure OwnD.fit (x : OwnD) : Prop where
  n : x.name.length ≤ 9223372036854775807
  t : x.topo.length ≤ 9223372036854775807
theorem NodeD.fit.below {w w' : World} {x : NodeD} (h : x.fit w) (hb : Below w.heap.size w w') : x.fit w' := ⟨h.l.below hb, h.t.below hb, h.n⟩
theorem PodD.fit.below {w w' : World} {x : PodD} (h : x.fit w) (hb : Below w.heap.size w w') : x.fit w' := ⟨h.l.below hb, h.wh.below hb, h.b.below hb, h.wt.below hb, h.ap.below hb, h.n⟩

abbrev valN (x : NodeD) : Value := .agg #[strV x.name, .int .i64 (x.cap 0), .int .i64 (x.cap 1), .int .i64 (x.cap 2), .int .i64 (x.cap 3), .int .i64 (x.cap 4), .slice x.al x.labels.length x.cl, .slice x.at_ x.taints.length x.ct, .bool x.cordon, .bool x.lost]
def cellsN (l : List NodeD) : List Value := l.flatMap fun x => [strV x.name, .int .i64 (x.cap 0), .int .i64 (x.cap 1), .int .i64 (x.cap 2), .int .i64 (x.cap 3), .int .i64 (x.cap 4), .slice x.al x.labels.length x.cl, .slice x.at_ x.taints.length x.ct, .bool x.cordon, .bool x.lost]
theorem cellsN_len : ∀ l, (cellsN l).length = l.length * 10
  | [] => rfl
  | x :: t => by
    have := cellsN_len t
    simp only [cellsN, List.flatMap_cons, List.length_append, List.length_cons, List.length_nil] at this ⊢
    omega
theorem cellsN_at : ∀ (l : List NodeD) (k : Nat) (x : NodeD), l[k]? = some x → ∀ i : Nat, i < 10 → (cellsN l)[k * 10 + i]? = [strV x.name, .int .i64 (x.cap 0), .int .i64 (x.cap 1), .int .i64 (x.cap 2), .int .i64 (x.cap 3), .int .i64 (x.cap 4), .slice x.al x.labels.length x.cl, .slice x.at_ x.taints.length x.ct, .bool x.cordon, .bool x.lost][i]?
  | [], k, x, h, i, hi => by simp at h
  | y :: t, 0, x, h, i, hi => by
    simp only [List.getElem?_cons_zero, Option.some.injEq] at h
    subst h
    show ([strV y.name, .int .i64 (y.cap 0), .int .i64 (y.cap 1), .int .i64 (y.cap 2), .int .i64 (y.cap 3), .int .i64 (y.cap 4), .slice y.al y.labels.length y.cl, .slice y.at_ y.taints.length y.ct, .bool y.cordon, .bool y.lost] ++ cellsN t)[0 * 10 + i]? = _
    rw [Nat.zero_mul, Nat.zero_add, List.getElem?_append_left (by simpa using hi)]
  | y :: t, k + 1, x, h, i, hi => by
    have := cellsN_at t k x (by simpa using h) i hi
    show ([strV y.name, .int .i64 (y.cap 0), .int .i64 (y.cap 1), .int .i64 (y.cap 2), .int .i64 (y.cap 3), .int .i64 (y.cap 4), .slice y.al y.labels.length y.cl, .slice y.at_ y.taints.length y.ct, .bool y.cordon, .bool y.lost] ++ cellsN t)[(k + 1) * 10 + i]? = _
    rw [List.getElem?_append_right (by simp; omega), ← this]
    congr 1
    simp
    omega

theorem atN {w : World} {A : Option Addr} {l : List NodeD} (h : La.SlAt w A (cellsN l)) {k : Nat} {x : NodeD} (hk : l[k]? = some x) :
    ∃ b o, A = some ⟨b, o, none⟩ ∧ b < w.heap.size ∧ w.cell? ⟨b, o + k * 10, none⟩ = some (strV x.name) ∧ w.cell? ⟨b, o + k * 10 + 1, none⟩ = some (.int .i64 (x.cap 0)) ∧ w.cell? ⟨b, o + k * 10 + 2, none⟩ = some (.int .i64 (x.cap 1)) ∧ w.cell? ⟨b, o + k * 10 + 3, none⟩ = some (.int .i64 (x.cap 2)) ∧ w.cell? ⟨b, o + k * 10 + 4, none⟩ = some (.int .i64 (x.cap 3)) ∧ w.cell? ⟨b, o + k * 10 + 5, none⟩ = some (.int .i64 (x.cap 4)) ∧ w.cell? ⟨b, o + k * 10 + 6, none⟩ = some (.slice x.al x.labels.length x.cl) ∧ w.cell? ⟨b, o + k * 10 + 7, none⟩ = some (.slice x.at_ x.taints.length x.ct) ∧ w.cell? ⟨b, o + k * 10 + 8, none⟩ = some (.bool x.cordon) ∧ w.cell? ⟨b, o + k * 10 + 9, none⟩ = some (.bool x.lost) := by
  have hc := cellsN_at l k x hk
  obtain ⟨b, o, hA, h0⟩ := h (k * 10 + 0) _ (hc 0 (by omega))
  have key : ∀ i v, (cellsN l)[k * 10 + i]? = some v → w.cell? ⟨b, o + k * 10 + i, none⟩ = some v := by
    intro i v hv
    obtain ⟨b', o', hA', h1⟩ := h _ _ hv
    rw [hA] at hA'
    cases hA'
    rw [Nat.add_assoc]
    exact h1
  exact ⟨b, o, hA, World.block_lt_of_cell? w _ h0, key 0 _ (hc 0 (by omega)), key 1 _ (hc 1 (by omega)), key 2 _ (hc 2 (by omega)), key 3 _ (hc 3 (by omega)), key 4 _ (hc 4 (by omega)), key 5 _ (hc 5 (by omega)), key 6 _ (hc 6 (by omega)), key 7 _ (hc 7 (by omega)), key 8 _ (hc 8 (by omega)), key 9 _ (hc 9 (by omega))⟩

abbrev valP (x : PodD) : Value := .agg #[strV x.name, strV x.owner, .int .i64 (x.req 0), .int .i64 (x.req 1), .int .i64 (x.req 2), .int .i64 (x.req 3), .int .i64 (x.req 4), .slice x.al x.labels.length x.cl, .slice x.aw x.whr.length x.cw, .slice x.ab x.bears.length x.cb, strV x.wt, .slice x.awt x.wtm.length x.cwt, strV x.ap, .slice x.aap x.apm.length x.cap, strV x.on]
def cellsP (l : List PodD) : List Value := l.flatMap fun x => [strV x.name, strV x.owner, .int .i64 (x.req 0), .int .i64 (x.req 1), .int .i64 (x.req 2), .int .i64 (x.req 3), .int .i64 (x.req 4), .slice x.al x.labels.length x.cl, .slice x.aw x.whr.length x.cw, .slice x.ab x.bears.length x.cb, strV x.wt, .slice x.awt x.wtm.length x.cwt, strV x.ap, .slice x.aap x.apm.length x.cap, strV x.on]
theorem cellsP_len : ∀ l, (cellsP l).length = l.length * 15
  | [] => rfl
  | x :: t => by
    have := cellsP_len t
    simp only [cellsP, List.flatMap_cons, List.length_append, List.length_cons, List.length_nil] at this ⊢
    omega
theorem cellsP_at : ∀ (l : List PodD) (k : Nat) (x : PodD), l[k]? = some x → ∀ i : Nat, i < 15 → (cellsP l)[k * 15 + i]? = [strV x.name, strV x.owner, .int .i64 (x.req 0), .int .i64 (x.req 1), .int .i64 (x.req 2), .int .i64 (x.req 3), .int .i64 (x.req 4), .slice x.al x.labels.length x.cl, .slice x.aw x.whr.length x.cw, .slice x.ab x.bears.length x.cb, strV x.wt, .slice x.awt x.wtm.length x.cwt, strV x.ap, .slice x.aap x.apm.length x.cap, strV x.on][i]?
  | [], k, x, h, i, hi => by simp at h
  | y :: t, 0, x, h, i, hi => by
    simp only [List.getElem?_cons_zero, Option.some.injEq] at h
    subst h
    show ([strV y.name, strV y.owner, .int .i64 (y.req 0), .int .i64 (y.req 1), .int .i64 (y.req 2), .int .i64 (y.req 3), .int .i64 (y.req 4), .slice y.al y.labels.length y.cl, .slice y.aw y.whr.length y.cw, .slice y.ab y.bears.length y.cb, strV y.wt, .slice y.awt y.wtm.length y.cwt, strV y.ap, .slice y.aap y.apm.length y.cap, strV y.on] ++ cellsP t)[0 * 15 + i]? = _
    rw [Nat.zero_mul, Nat.zero_add, List.getElem?_append_left (by simpa using hi)]
  | y :: t, k + 1, x, h, i, hi => by
    have := cellsP_at t k x (by simpa using h) i hi
    show ([strV y.name, strV y.owner, .int .i64 (y.req 0), .int .i64 (y.req 1), .int .i64 (y.req 2), .int .i64 (y.req 3), .int .i64 (y.req 4), .slice y.al y.labels.length y.cl, .slice y.aw y.whr.length y.cw, .slice y.ab y.bears.length y.cb, strV y.wt, .slice y.awt y.wtm.length y.cwt, strV y.ap, .slice y.aap y.apm.length y.cap, strV y.on] ++ cellsP t)[(k + 1) * 15 + i]? = _
    rw [List.getElem?_append_right (by simp; omega), ← this]
    congr 1
    simp
    omega

theorem atP {w : World} {A : Option Addr} {l : List PodD} (h : La.SlAt w A (cellsP l)) {k : Nat} {x : PodD} (hk : l[k]? = some x) :
    ∃ b o, A = some ⟨b, o, none⟩ ∧ b < w.heap.size ∧ w.cell? ⟨b, o + k * 15, none⟩ = some (strV x.name) ∧ w.cell? ⟨b, o + k * 15 + 1, none⟩ = some (strV x.owner) ∧ w.cell? ⟨b, o + k * 15 + 2, none⟩ = some (.int .i64 (x.req 0)) ∧ w.cell? ⟨b, o + k * 15 + 3, none⟩ = some (.int .i64 (x.req 1)) ∧ w.cell? ⟨b, o + k * 15 + 4, none⟩ = some (.int .i64 (x.req 2)) ∧ w.cell? ⟨b, o + k * 15 + 5, none⟩ = some (.int .i64 (x.req 3)) ∧ w.cell? ⟨b, o + k * 15 + 6, none⟩ = some (.int .i64 (x.req 4)) ∧ w.cell? ⟨b, o + k * 15 + 7, none⟩ = some (.slice x.al x.labels.length x.cl) ∧ w.cell? ⟨b, o + k * 15 + 8, none⟩ = some (.slice x.aw x.whr.length x.cw) ∧ w.cell? ⟨b, o + k * 15 + 9, none⟩ = some (.slice x.ab x.bears.length x.cb) ∧ w.cell? ⟨b, o + k * 15 + 10, none⟩ = some (strV x.wt) ∧ w.cell? ⟨b, o + k * 15 + 11, none⟩ = some (.slice x.awt x.wtm.length x.cwt) ∧ w.cell? ⟨b, o + k * 15 + 12, none⟩ = some (strV x.ap) ∧ w.cell? ⟨b, o + k * 15 + 13, none⟩ = some (.slice x.aap x.apm.length x.cap) ∧ w.cell? ⟨b, o + k * 15 + 14, none⟩ = some (strV x.on) := by
  have hc := cellsP_at l k x hk
  obtain ⟨b, o, hA, h0⟩ := h (k * 15 + 0) _ (hc 0 (by omega))
  have key : ∀ i v, (cellsP l)[k * 15 + i]? = some v → w.cell? ⟨b, o + k * 15 + i, none⟩ = some v := by
    intro i v hv
    obtain ⟨b', o', hA', h1⟩ := h _ _ hv
    rw [hA] at hA'
    cases hA'
    rw [Nat.add_assoc]
    exact h1
  exact ⟨b, o, hA, World.block_lt_of_cell? w _ h0, key 0 _ (hc 0 (by omega)), key 1 _ (hc 1 (by omega)), key 2 _ (hc 2 (by omega)), key 3 _ (hc 3 (by omega)), key 4 _ (hc 4 (by omega)), key 5 _ (hc 5 (by omega)), key 6 _ (hc 6 (by omega)), key 7 _ (hc 7 (by omega)), key 8 _ (hc 8 (by omega)), key 9 _ (hc 9 (by omega)), key 10 _ (hc 10 (by omega)), key 11 _ (hc 11 (by omega)), key 12 _ (hc 12 (by omega)), key 13 _ (hc 13 (by omega)), key 14 _ (hc 14 (by omega))⟩

abbrev valO (x : OwnD) : Value := .agg #[strV x.name, .int .i64 x.min, strV x.topo, .int .i64 x.skew, .bool x.single]
def cellsO (l : List OwnD) : List Value := l.flatMap fun x => [strV x.name, .int .i64 x.min, strV x.topo, .int .i64 x.skew, .bool x.single]
theorem cellsO_len : ∀ l, (cellsO l).length = l.length * 5
  | [] => rfl
  | x :: t => by
    have := cellsO_len t
    simp only [cellsO, List.flatMap_cons, List.length_append, List.length_cons, List.length_nil] at this ⊢
    omega
theorem cellsO_at : ∀ (l : List OwnD) (k : Nat) (x : OwnD), l[k]? = some x → ∀ i : Nat, i < 5 → (cellsO l)[k * 5 + i]? = [strV x.name, .int .i64 x.min, strV x.topo, .int .i64 x.skew, .bool x.single][i]?
  | [], k, x, h, i, hi => by simp at h
  | y :: t, 0, x, h, i, hi => by
    simp only [List.getElem?_cons_zero, Option.some.injEq] at h
    subst h
    show ([strV y.name, .int .i64 y.min, strV y.topo, .int .i64 y.skew, .bool y.single] ++ cellsO t)[0 * 5 + i]? = _
    rw [Nat.zero_mul, Nat.zero_add, List.getElem?_append_left (by simpa using hi)]
  | y :: t, k + 1, x, h, i, hi => by
    have := cellsO_at t k x (by simpa using h) i hi
    show ([strV y.name, .int .i64 y.min, strV y.topo, .int .i64 y.skew, .bool y.single] ++ cellsO t)[(k + 1) * 5 + i]? = _
    rw [List.getElem?_append_right (by simp; omega), ← this]
    congr 1
    simp
    omega

theorem atO {w : World} {A : Option Addr} {l : List OwnD} (h : La.SlAt w A (cellsO l)) {k : Nat} {x : OwnD} (hk : l[k]? = some x) :
    ∃ b o, A = some ⟨b, o, none⟩ ∧ b < w.heap.size ∧ w.cell? ⟨b, o + k * 5, none⟩ = some (strV x.name) ∧ w.cell? ⟨b, o + k * 5 + 1, none⟩ = some (.int .i64 x.min) ∧ w.cell? ⟨b, o + k * 5 + 2, none⟩ = some (strV x.topo) ∧ w.cell? ⟨b, o + k * 5 + 3, none⟩ = some (.int .i64 x.skew) ∧ w.cell? ⟨b, o + k * 5 + 4, none⟩ = some (.bool x.single) := by
  have hc := cellsO_at l k x hk
  obtain ⟨b, o, hA, h0⟩ := h (k * 5 + 0) _ (hc 0 (by omega))
  have key : ∀ i v, (cellsO l)[k * 5 + i]? = some v → w.cell? ⟨b, o + k * 5 + i, none⟩ = some v := by
    intro i v hv
    obtain ⟨b', o', hA', h1⟩ := h _ _ hv
    rw [hA] at hA'
    cases hA'
    rw [Nat.add_assoc]
    exact h1
  exact ⟨b, o, hA, World.block_lt_of_cell? w _ h0, key 0 _ (hc 0 (by omega)), key 1 _ (hc 1 (by omega)), key 2 _ (hc 2 (by omega)), key 3 _ (hc 3 (by omega)), key 4 _ (hc 4 (by omega))⟩

/-- The lists of a cluster. -/
structure NodesAt (w : World) (A : Option Addr) (l : List NodeD) : Prop where
  cells : La.SlAt w A (cellsN l)
  fit : ∀ x ∈ l, x.fit w
structure PodsAt (w : World) (A : Option Addr) (l : List PodD) : Prop where
  cells : La.SlAt w A (cellsP l)
  fit : ∀ x ∈ l, x.fit w
theorem NodesAt.below {w w' : World} {A : Option Addr} {l : List NodeD} (h : NodesAt w A l) (hb : Below w.heap.size w w') : NodesAt w' A l := ⟨h.cells.below hb, fun x hx => (h.fit x hx).below hb⟩
theorem PodsAt.below {w w' : World} {A : Option Addr} {l : List PodD} (h : PodsAt w A l) (hb : Below w.heap.size w w') : PodsAt w' A l := ⟨h.cells.below hb, fun x hx => (h.fit x hx).below hb⟩
end Go.Proofs.YtfnigiiocapceaaGreat

namespace Go.Proofs.YtfnigiiocapceaaGreat
open Go.RowKit

set_option maxHeartbeats 400000 in
theorem nodeName_any (x : NodeD) (w : World) : Calls Tryz.prog 75 #[valN x] w fun e w' => e = .returned (strV x.name) ∧ Below w.heap.size w w' := by
  go_enter Tryz.func75, Tryz.ntmps75
  go_wp2
  go_ret
  exact ⟨rfl, by first | exact Below.refl _ _ | exact (Below.refl _ _).alloc (Nat.le_refl _) _⟩
set_option maxHeartbeats 400000 in
theorem podName_any (x : PodD) (w : World) : Calls Tryz.prog 77 #[valP x] w fun e w' => e = .returned (strV x.name) ∧ Below w.heap.size w w' := by
  go_enter Tryz.func77, Tryz.ntmps77
  go_wp2
  go_ret
  exact ⟨rfl, by first | exact Below.refl _ _ | exact (Below.refl _ _).alloc (Nat.le_refl _) _⟩
set_option maxHeartbeats 400000 in
theorem ownerName_any (x : OwnD) (w : World) : Calls Tryz.prog 79 #[valO x] w fun e w' => e = .returned (strV x.name) ∧ Below w.heap.size w w' := by
  go_enter Tryz.func79, Tryz.ntmps79
  go_wp2
  go_ret
  exact ⟨rfl, by first | exact Below.refl _ _ | exact (Below.refl _ _).alloc (Nat.le_refl _) _⟩
theorem results_row1 {P : Program} {fn : Func} {p : Tmp} {ty : TypeId} (h : fn.results = #[.cell p ty]) (tmps : Array Value) (w : World) (g : Nat) (t : TypeId) (cs : Array Value) (fr : Nat × Nat) (d : TypeDesc)
    (hp : tmps.getD p undef = .pointer (some ⟨g, 0, none⟩)) (hg : w.heap[g]? = some (.cells cs t fr))
    (hu : P.underlying ty = some d) (hd : (match d with | .struct _ | .array _ _ => true | _ => false) = true) (hi : (P.info? ty).map (·.size) = some cs.size) :
    (results fn tmps).run P w = .ok (.agg cs) w := by
  have hp' : tmps[p]?.getD undef = .pointer (some ⟨g, 0, none⟩) := by simpa using hp
  simp [results, h, hp', asAddr, run_loadVar_row w g t ty cs fr d hg hu hd hi]
theorem bodyPost_row1 {P : Program} {fn : Func} {p : Tmp} {ty : TypeId} {R : Ending → World → Prop} {a : Act} {w : World} (h : fn.results = #[.cell p ty]) (g : Nat) (t : TypeId) (cs : Array Value) (fr : Nat × Nat) (d : TypeDesc)
    (hd0 : a.defers = []) (hp : a.tmps.getD p undef = .pointer (some ⟨g, 0, none⟩)) (hg : w.heap[g]? = some (.cells cs t fr))
    (hu : P.underlying ty = some d) (hd : (match d with | .struct _ | .array _ _ => true | _ => false) = true) (hi : (P.info? ty).map (·.size) = some cs.size)
    (hR : R (.returned (.agg cs)) w) : bodyPost P fn R .ret a w :=
  bodyPost_ret (results_row1 h a.tmps w g t cs fr d hp hg hu hd hi) hd0 hR
theorem blk2 (w : World) (o : Obj) (cs : Array Value) (t : TypeId) : ((w.alloc o).alloc (.cells cs t)).heap[w.heap.size + 1]? = some (.cells cs t (0, 0)) := by
  have h := heap_alloc_new (w.alloc o) (.cells cs t)
  rw [show (w.alloc o).heap.size = w.heap.size + 1 by simp] at h
  exact h
theorem vec_size : (Tryz.prog.info? 33).map (·.size) = some 5 := by kernel_rfl
abbrev rowV (x : Nat → Int) : Value := .agg #[.int .i64 (x 0), .int .i64 (x 1), .int .i64 (x 2), .int .i64 (x 3), .int .i64 (x 4)]
set_option maxHeartbeats 400000 in
theorem capOf_any (x : NodeD) (w : World) : Calls Tryz.prog 60 #[valN x] w fun e w' => e = .returned (rowV x.cap) ∧ Below w.heap.size w w' := by
  go_enter Tryz.func60, Tryz.ntmps60
  go_wp2
  refine bodyPost_row1 Tryz.results60 (w.heap.size + 1) _ _ _ _ ?d1 ?p1 (blk2 w _ _ _) Tryz.underlying33 rfl vec_size ?_
  case d1 => rfl
  case p1 => rfl
  exact ⟨rfl, Qu.below2 _ _ _⟩
set_option maxHeartbeats 400000 in
theorem reqOf_any (x : PodD) (w : World) : Calls Tryz.prog 62 #[valP x] w fun e w' => e = .returned (rowV x.req) ∧ Below w.heap.size w w' := by
  go_enter Tryz.func62, Tryz.ntmps62
  go_wp2
  refine bodyPost_row1 Tryz.results62 (w.heap.size + 1) _ _ _ _ ?d1 ?p1 (blk2 w _ _ _) Tryz.underlying33 rfl vec_size ?_
  case d1 => rfl
  case p1 => rfl
  exact ⟨rfl, Qu.below2 _ _ _⟩
end Go.Proofs.YtfnigiiocapceaaGreat
