/- The chapter's cluster. No conditions. Who goes through the pods of a node: the contracts of podsOn and of what it hands back. Condition: the numbers lie in memory. Who goes through the pods of an owner that do not wait: the contracts of podsOf and of what it hands back. Condition: the cluster and the numbers lie in memory. What the pods of a node ask for: the contract of Used. Condition: the cluster and the numbers lie in memory. What the pods of a node ask for: the contract of Used where there is the node. Condition: the cluster and the numbers lie in memory. How many pods of an owner do not wait: the contract of Placed. Condition: the cluster and the numbers lie in memory. Of each node how many of an owner's pods are on it: the contract of Counts. Condition: the cluster and the numbers lie in memory. The sorted keys of a map: the library's contracts, at this program. No conditions but what they say. The domains of a key: the contracts of emptyDomains and of Domains. Condition: the cluster lies in memory. The domains of a key, sorted: the contract of Domains. Condition: the cluster lies in memory. -/
import Derived.Test.YtoankplhahbgkaaGreatC05
import Derived.Deep.RegionLawGrows
import Derived.RangeFuncNested
import Derived.RangeFuncBound
import Derived.RangeFuncCalls
import Derived.RangeFuncLeaves
import Derived.RangeFuncBox
import Derived.Shelf.Abstract
import Derived.Shelf.RegionOpen
import Derived.WalkKit
import Derived.OwnWalkIn
import Derived.TacticsInMore
import Derived.LoopNIn
import Derived.LoopIn
import Derived.Laws.OwnMore
import Derived.Test.YtoankplhahbgkaaGreatShelfIter
import Derived.Maps.OwnIn
import Derived.Maps.Views

namespace Go.Proofs.YtoankplhahbgkaaGreat
open Go.RowKit

abbrev bZone : List UInt8 := [122, 111, 110, 101]
abbrev zer5F : Nat → Int := fun _ => 0
abbrev ten5 : Nat → Int := fun k => if k = 0 then 10 else 0
/-- The chapter's cluster: a name and a mark of its second node are letters. -/
def chN (N : Nat) (nm : List UInt8) (lost : Bool) : List NodeD := [
  { name := [97], cap := zer5F, labels := [(bZone, [120])], taints := [], cordon := false, lost := false, al := some ⟨N + 1, 0, none⟩, cl := 1, at_ := none, ct := 0 },
  { name := nm, cap := zer5F, labels := [(bZone, [121])], taints := [], cordon := false, lost := lost, al := some ⟨N + 2, 0, none⟩, cl := 1, at_ := none, ct := 0 },
  { name := [99], cap := zer5F, labels := [], taints := [], cordon := false, lost := false, al := none, cl := 0, at_ := none, ct := 0 }]
def chPod (c : UInt8) : PodD := { name := [c], owner := [111], req := ten5, labels := [], whr := [], bears := [], wt := [], wtm := [], ap := [], apm := [], on := [], al := none, cl := 0, aw := none, cw := 0, ab := none, cb := 0, awt := none, cwt := 0, aap := none, cap := 0 }
def chP : List PodD := [chPod 112, chPod 113, chPod 114]
def chO : List OwnD := [{ name := [111], min := 0, topo := bZone, skew := 1, single := false }]

theorem pod_info : (Tryz.prog.info? 62).map (fun i => (i.zero, i.size, i.bytes)) = some (some (.agg #[.string ⟨#[]⟩, .string ⟨#[]⟩, .int .i64 0, .int .i64 0, .int .i64 0, .int .i64 0, .int .i64 0, .slice none 0 0, .slice none 0 0, .slice none 0 0, .string ⟨#[]⟩, .slice none 0 0, .string ⟨#[]⟩, .slice none 0 0, .string ⟨#[]⟩]), 15, 240) := by kernel_rfl
/-- The chapter's cluster lies in memory, from block N on; its pods in a row of their own. -/
structure ChapAt (w : World) (N : Nat) (v : Value) (k : Nat) (nm : List UInt8) (lost : Bool) : Prop where
  l1 : Blk w (N + 1) #[strV bZone, strV [120]] 81
  l2 : Blk w (N + 2) #[strV bZone, strV [121]] 81
  n : Blk w (N + 3) (cellsN (chN N nm lost)).toArray 83
  o : Blk w (N + 4) (cellsO chO).toArray 64
  p : w.ownsRow N 62 15 v k (cellsP (chP.take k))
theorem ChapAt.kept {w w' : World} {N k : Nat} {v : Value} {nm : List UInt8} {lost : Bool} (h : ChapAt w N v k nm lost) (hb : Below w.heap.size w w') : ChapAt w' N v k nm lost :=
  ⟨h.l1.below hb h.l1.lt, h.l2.below hb h.l2.lt, h.n.below hb h.n.lt, h.o.below hb h.o.lt, by
    refine h.p.kept (grown_of_below hb none) ?_
    rcases h.p.2 with ⟨rfl, _⟩ | ⟨g, cap, cur, rfl, _⟩
    · exact .inl rfl
    · exact .inr (by simp [Value.ownBlock])⟩

theorem ch_other {w w' : World} {base : Nat} {e : TypeId} {sz n : Nat} {v : Value} {xs : List Value} (ho : w.ownsRow base e sz v n xs) (hg : w.grownBy w' v.ownBlock) {j : Nat} {cs : Array Value} {t : TypeId} (hj : Blk w j cs t) (hne : t ≠ e) : Blk w' j cs t := by
  refine (hg.block j hj.lt ?_).trans hj
  rcases ho.2 with ⟨rfl, _⟩ | ⟨g, cap, cur, rfl, _, hgb, _⟩
  · intro e'; cases e'
  · intro e'
    simp only [Value.ownBlock, Option.some.injEq] at e'
    subst e'
    unfold Blk at hj
    rw [hgb] at hj
    cases hj
    exact hne rfl
theorem ch_set {w : World} {base : Nat} {e : TypeId} {sz n : Nat} {v : Value} {xs : List Value} (ho : w.ownsRow base e sz v n xs) {j : Nat} {cs : Array Value} {t : TypeId} (hj : Blk w j cs t) (hne : t ≠ e) (i : Nat) (u : Value) : (w.setCell ⟨j, i, none⟩ u).ownsRow base e sz v n xs := by
  obtain ⟨hl, h1 | ⟨g, cap, cur, hv, hb, hg, r⟩⟩ := ho
  · exact ⟨hl, .inl h1⟩
  · refine ⟨hl, .inr ⟨g, cap, cur, hv, hb, (Below.heap_setCell w ⟨j, i, none⟩ u g ?_).trans hg, r⟩⟩
    intro e'
    subst e'
    unfold Blk at hj
    rw [hg] at hj
    cases hj
    exact hne rfl

/-- An append onto a row of one's own, as one step of a region that draws its order. -/
theorem step_append_own {P : Program} {ops : Array Oper} {o : Oper} {a : Act} {w : World} {K : Act → World → Prop} {Q : Exit → Act → World → Prop} {E : Prop}
    (hg : o.guard = none) (s x : Operand) (t : TypeId) (hop : o.op = Op.call { callee := Callee.builtin Builtin.append, args := #[s, x], argTypes := #[t, t] })
    (base : Nat) (e : TypeId) (i : TypeInfo) (z : Value) (size bytes : Nat) (h1 : P.underlying t = some (.slice e)) (h2 : P.info? e = some i) (h3 : i.zero = some z) (h4 : i.size = size) (h5 : i.bytes = bytes) (h6 : z.cells.size = size) (h7 : 0 < size)
    (v : Value) (n : Nat) (xs : List Value) (hs : a.eval s = v) (hown : w.ownsRow base e size v n xs)
    (ad : Addr) (m c : Nat) (news : List Value) (hx : a.eval x = .slice (some ad) m c) (hn : news.length = m * size) (hc : ∀ j u, news[j]? = some u → w.cell? (ad.add j) = some u) (h1c : ∀ u ∈ news, u.oneCell' = true)
    (b1 : n + m ≤ maxLen) (b2 : (n + m) * bytes ≤ 140737488355328) (hbase : base ≤ w.heap.size)
    (hK : ∀ v' w', w'.ownsRow base e size v' (n + m) (xs ++ news) → w.grownBy w' v.ownBlock → K (a.put o.dst v') w') :
    if Region.wanted o (yielded ops a.tmps) = true then Oper.wp P o a w K Q else E := by
  have hw : Region.wanted o (yielded ops a.tmps) = true := by simp [Region.wanted, hg]
  rw [if_pos hw]
  obtain ⟨v', w', hrun, r1, r2, _⟩ := run_append_own (P := P) w base t o.type e i z size bytes h1 h2 h3 h4 h5 h6 h7 v n xs hown ad m c news hn hc h1c b1 b2 hbase
  unfold Oper.wp
  simp [execOp, hop, resolve, invoke, builtin, hs, hx, hrun, Result.andThen]
  exact hK v' w' r1 r2

theorem ChapAt.set {w : World} {N k : Nat} {v : Value} {nm : List UInt8} {lost : Bool} (h : ChapAt w N v k nm lost) {b : Nat} {cs : Array Value} {t : TypeId} (hb : Blk w b cs t) (h1 : b ≠ N + 1 ∧ b ≠ N + 2 ∧ b ≠ N + 3 ∧ b ≠ N + 4) (ht : t ≠ 62) (i : Nat) (u : Value) : ChapAt (w.setCell ⟨b, i, none⟩ u) N v k nm lost :=
  ⟨h.l1.oth (Ne.symm h1.1) i u, h.l2.oth (Ne.symm h1.2.1) i u, h.n.oth (Ne.symm h1.2.2.1) i u, h.o.oth (Ne.symm h1.2.2.2) i u, ch_set h.p hb ht i u⟩
theorem ChapAt.step {w W w' : World} {N k k' : Nat} {v v' : Value} {nm : List UInt8} {lost : Bool} (h : ChapAt w N v k nm lost) (hW : Below w.heap.size w W) {n : Nat} {xs : List Value} (ho : W.ownsRow N 62 15 v n xs) (hg : W.grownBy w' v.ownBlock) (hn : w'.ownsRow N 62 15 v' k' (cellsP (chP.take k'))) : ChapAt w' N v' k' nm lost :=
  ⟨ch_other ho hg (h.l1.below hW h.l1.lt) (by decide), ch_other ho hg (h.l2.below hW h.l2.lt) (by decide), ch_other ho hg (h.n.below hW h.n.lt) (by decide), ch_other ho hg (h.o.below hW h.o.lt) (by decide), hn⟩

set_option maxRecDepth 100000 in
set_option maxHeartbeats 4000000 in
theorem chapter_any (w : World) :
    Calls Tryz.prog 83 #[] w fun e w' => ∃ B cb, e = .returned (.agg #[.slice (some ⟨w.heap.size + 3, 0, none⟩) 3 3, .slice B 3 cb, .slice (some ⟨w.heap.size + 4, 0, none⟩) 1 1]) ∧ ChapAt w' w.heap.size (.slice B 3 cb) 3 [98] false ∧ Below w.heap.size w w' := by
  obtain ⟨i0, hi0, hz0, hz1, hz2⟩ := info_parts pod_info
  go_enter Tryz.func83, Tryz.ntmps83
  go_wp2_with fail
  have B0 : Hid (Below w.heap.size w ((((((w.alloc (Obj.cells #[Value.slice none 0 0, Value.slice none 0 0, Value.slice none 0 0] 26)).alloc (Obj.cells #[strV bZone, strV [120]] 81)).alloc (Obj.cells #[strV bZone, strV [121]] 81)).alloc (Obj.cells (cellsN (chN w.heap.size [98] false)).toArray 83)).alloc (Obj.cells (cellsO chO).toArray 64)).alloc (Obj.cells #[Value.slice (some { block := w.heap.size + 3, off := 0 }) 3 3, Value.slice none 0 0, Value.slice (some { block := w.heap.size + 4, off := 0 }) 1 1] 26))) := Lib.hid ((((((Qu.below2 w _ _).alloc (by simp; omega) _).alloc (by simp; omega) _).alloc (by simp; omega) _).alloc (by simp; omega) _))
  have C0 : Hid (ChapAt ((((((w.alloc (Obj.cells #[Value.slice none 0 0, Value.slice none 0 0, Value.slice none 0 0] 26)).alloc (Obj.cells #[strV bZone, strV [120]] 81)).alloc (Obj.cells #[strV bZone, strV [121]] 81)).alloc (Obj.cells (cellsN (chN w.heap.size [98] false)).toArray 83)).alloc (Obj.cells (cellsO chO).toArray 64)).alloc (Obj.cells #[Value.slice (some { block := w.heap.size + 3, off := 0 }) 3 3, Value.slice none 0 0, Value.slice (some { block := w.heap.size + 4, off := 0 }) 1 1] 26)) w.heap.size (.slice none 0 0) 0 [98] false) := Lib.hid (by
    have hs1 : ∀ (w : World) (o : Obj), (w.alloc o).heap.size = w.heap.size + 1 := World.size_alloc
    constructor
    · exact Blk.alloc (Blk.alloc (Blk.alloc (Blk.alloc (by have := Blk.new (w.alloc (Obj.cells #[Value.slice none 0 0, Value.slice none 0 0, Value.slice none 0 0] 26)) #[strV bZone, strV [120]] 81; rw [hs1] at this; exact this) _) _) _) _
    · exact Blk.alloc (Blk.alloc (Blk.alloc (by have := Blk.new ((w.alloc (Obj.cells #[Value.slice none 0 0, Value.slice none 0 0, Value.slice none 0 0] 26)).alloc (Obj.cells #[strV bZone, strV [120]] 81)) #[strV bZone, strV [121]] 81; rw [hs1, hs1] at this; exact this) _) _) _
    · exact Blk.alloc (Blk.alloc (by have := Blk.new (((w.alloc (Obj.cells #[Value.slice none 0 0, Value.slice none 0 0, Value.slice none 0 0] 26)).alloc (Obj.cells #[strV bZone, strV [120]] 81)).alloc (Obj.cells #[strV bZone, strV [121]] 81)) (cellsN (chN w.heap.size [98] false)).toArray 83; rw [hs1, hs1, hs1] at this; exact this) _) _
    · exact Blk.alloc (by have := Blk.new ((((w.alloc (Obj.cells #[Value.slice none 0 0, Value.slice none 0 0, Value.slice none 0 0] 26)).alloc (Obj.cells #[strV bZone, strV [120]] 81)).alloc (Obj.cells #[strV bZone, strV [121]] 81)).alloc (Obj.cells (cellsN (chN w.heap.size [98] false)).toArray 83)) (cellsO chO).toArray 64; rw [hs1, hs1, hs1, hs1] at this; exact this) _
    · exact World.ownsRow_nil _ _ _ _)
  have S0 : Hid (Blk ((((((w.alloc (Obj.cells #[Value.slice none 0 0, Value.slice none 0 0, Value.slice none 0 0] 26)).alloc (Obj.cells #[strV bZone, strV [120]] 81)).alloc (Obj.cells #[strV bZone, strV [121]] 81)).alloc (Obj.cells (cellsN (chN w.heap.size [98] false)).toArray 83)).alloc (Obj.cells (cellsO chO).toArray 64)).alloc (Obj.cells #[Value.slice (some { block := w.heap.size + 3, off := 0 }) 3 3, Value.slice none 0 0, Value.slice (some { block := w.heap.size + 4, off := 0 }) 1 1] 26)) (w.heap.size + 5) #[Value.slice (some { block := w.heap.size + 3, off := 0 }) 3 3, Value.slice none 0 0, Value.slice (some { block := w.heap.size + 4, off := 0 }) 1 1] 26) := Lib.hid (by
    have hs1 : ∀ (w : World) (o : Obj), (w.alloc o).heap.size = w.heap.size + 1 := World.size_alloc
    have := Blk.new (((((w.alloc (Obj.cells #[Value.slice none 0 0, Value.slice none 0 0, Value.slice none 0 0] 26)).alloc (Obj.cells #[strV bZone, strV [120]] 81)).alloc (Obj.cells #[strV bZone, strV [121]] 81)).alloc (Obj.cells (cellsN (chN w.heap.size [98] false)).toArray 83)).alloc (Obj.cells (cellsO chO).toArray 64)) #[Value.slice (some { block := w.heap.size + 3, off := 0 }) 3 3, Value.slice none 0 0, Value.slice (some { block := w.heap.size + 4, off := 0 }) 1 1] 26
    rw [hs1, hs1, hs1, hs1, hs1] at this
    exact this)
  have Z0 : Hid (Blk ((((((w.alloc (Obj.cells #[Value.slice none 0 0, Value.slice none 0 0, Value.slice none 0 0] 26)).alloc (Obj.cells #[strV bZone, strV [120]] 81)).alloc (Obj.cells #[strV bZone, strV [121]] 81)).alloc (Obj.cells (cellsN (chN w.heap.size [98] false)).toArray 83)).alloc (Obj.cells (cellsO chO).toArray 64)).alloc (Obj.cells #[Value.slice (some { block := w.heap.size + 3, off := 0 }) 3 3, Value.slice none 0 0, Value.slice (some { block := w.heap.size + 4, off := 0 }) 1 1] 26)) w.heap.size #[Value.slice none 0 0, Value.slice none 0 0, Value.slice none 0 0] 26) := Lib.hid (Blk.alloc (Blk.alloc (Blk.alloc (Blk.alloc (Blk.alloc (Blk.new w _ _) _) _) _) _) _)
  change Code.wp _ _ _ _ ((((((w.alloc (Obj.cells #[Value.slice none 0 0, Value.slice none 0 0, Value.slice none 0 0] 26)).alloc (Obj.cells #[strV bZone, strV [120]] 81)).alloc (Obj.cells #[strV bZone, strV [121]] 81)).alloc (Obj.cells (cellsN (chN w.heap.size [98] false)).toArray 83)).alloc (Obj.cells (cellsO chO).toArray 64)).alloc (Obj.cells #[Value.slice (some { block := w.heap.size + 3, off := 0 }) 3 3, Value.slice none 0 0, Value.slice (some { block := w.heap.size + 4, off := 0 }) 1 1] 26))
  generalize ((((((w.alloc (Obj.cells #[Value.slice none 0 0, Value.slice none 0 0, Value.slice none 0 0] 26)).alloc (Obj.cells #[strV bZone, strV [120]] 81)).alloc (Obj.cells #[strV bZone, strV [121]] 81)).alloc (Obj.cells (cellsN (chN w.heap.size [98] false)).toArray 83)).alloc (Obj.cells (cellsO chO).toArray 64)).alloc (Obj.cells #[Value.slice (some { block := w.heap.size + 3, off := 0 }) 3 3, Value.slice none 0 0, Value.slice (some { block := w.heap.size + 4, off := 0 }) 1 1] 26)) = W0 at B0 C0 S0 Z0 ⊢
  rw [show w.heap.size + 1 + 1 + 1 + 1 + 1 = w.heap.size + 5 from rfl]
  obtain ⟨Sb, hSb⟩ : ∃ Sb, w.heap.size + 5 = Sb := ⟨_, rfl⟩
  rw [hSb] at S0 ⊢
  have HSb := Lib.hid hSb
  clear hSb
  go_loopw [2] (fun i wr => ∃ (k : Nat) (B : Option Addr) (cb : Nat), k ≤ 3 ∧ i = .int .i64 k ∧ ChapAt wr w.heap.size (.slice B k cb) k [98] false ∧ Blk wr Sb #[Value.slice (some { block := w.heap.size + 3, off := 0 }) 3 3, .slice B k cb, Value.slice (some { block := w.heap.size + 4, off := 0 }) 1 1] 26 ∧ Blk wr w.heap.size #[Value.slice none 0 0, Value.slice none 0 0, Value.slice none 0 0] 26 ∧ Below w.heap.size w wr) (fun i _ => 3 - (intOf i).toNat)
  case atStart => exact ⟨0, none, 0, by omega, rfl, C0.out, S0.out, Z0.out, B0.out⟩
  case round =>
    clear B0 C0 S0 Z0
    obtain ⟨k, B, cb, hk, rfl, hc, hs, hz, hb⟩ := hrel
    have HC := Lib.hid hc
    have HS := Lib.hid hs
    have HZ := Lib.hid hz
    have HB := Lib.hid hb
    have s0 : wr.cell? ⟨Sb, 0, none⟩ = some (Value.slice (some { block := w.heap.size + 3, off := 0 }) 3 3) := Blk.cell hs 0
    have s1 : wr.cell? ⟨Sb, 1, none⟩ = some (.slice B k cb) := Blk.cell hs 1
    have s2 : wr.cell? ⟨Sb, 2, none⟩ = some (Value.slice (some { block := w.heap.size + 4, off := 0 }) 1 1) := Blk.cell hs 2
    have f1 := Blk.free hs 1
    clear hc hs hz hb
    have hk4 : k = 0 ∨ k = 1 ∨ k = 2 ∨ k = 3 := by omega
    rcases hk4 with rfl | rfl | rfl | rfl
    · have hnb : Hid (w.heap.size ≤ wr.heap.size) := Lib.hid HB.out.size
      have s1a : ∀ o, (wr.alloc o).cell? ⟨Sb, 1, none⟩ = some (.slice B 0 cb) := fun o => Blk.cell (Blk.alloc HS.out o) 1
      have hdec : 26 ≠ 62 := by decide
      have h1c : Hid (∀ u ∈ cellsP [chPod 112], u.oneCell' = true) := Lib.hid (by
        intro u hu
        simp [cellsP, chPod] at hu
        rcases hu with rfl | rfl | rfl | rfl | rfl | rfl | rfl | rfl | rfl | rfl | rfl | rfl | rfl <;> rfl)
      have hbW : Hid (Below wr.heap.size wr ((wr.alloc (.cells (cellsP [chPod 112]).toArray 62)).drew)) := Lib.hid (((Below.refl _ _).alloc (Nat.le_refl _) _).drew)
      have hcl : Hid (∀ j u, (cellsP [chPod 112])[j]? = some u → World.cell? ((wr.alloc (.cells (cellsP [chPod 112]).toArray 62)).drew) ((⟨wr.heap.size, 0, none⟩ : Addr).add j) = some u) := Lib.hid (by
        intro j u hj
        rw [WideShapes.add_plain, Nat.zero_add, ← hj, ← List.getElem?_toArray]
        exact Blk.cell (Blk.new wr _ _) j)
      have hon : Hid (World.ownsRow ((wr.alloc (.cells (cellsP [chPod 112]).toArray 62)).drew) w.heap.size 62 15 (.slice B 0 cb) 0 (cellsP (chP.take 0))) := Lib.hid (show World.ownsRow _ _ _ _ _ _ _ from HC.out.p.alloc _)
      have hS9 : Hid (Blk ((wr.alloc (.cells (cellsP [chPod 112]).toArray 62)).drew) Sb #[Value.slice (some { block := w.heap.size + 3, off := 0 }) 3 3, .slice B 0 cb, Value.slice (some { block := w.heap.size + 4, off := 0 }) 1 1] 26) := Lib.hid (Blk.alloc HS.out _)
      have hb9 : Hid (w.heap.size ≤ ((wr.alloc (.cells (cellsP [chPod 112]).toArray 62)).drew).heap.size) := Lib.hid (by have := hnb.out; show w.heap.size ≤ (wr.alloc _).heap.size; simp; omega)
      have hmx9 : Hid (0 + 1 ≤ maxLen) := Lib.hid (by unfold maxLen; omega)
      have hw1 : IntKind.i64.wrap 1 = 1 := by decide
      have hw2 : IntKind.i64.wrap 2 = 2 := by decide
      have hw3 : IntKind.i64.wrap 3 = 3 := by decide
      have he0 : (⟨#[112, 113, 114]⟩ : ByteArray).extract 0 1 = ⟨#[112]⟩ := by decide
      have he1 : (⟨#[112, 113, 114]⟩ : ByteArray).extract 1 2 = ⟨#[113]⟩ := by decide
      have he2 : (⟨#[112, 113, 114]⟩ : ByteArray).extract 2 3 = ⟨#[114]⟩ := by decide
      clear hk
      go_wp2_with fail
      go_region_law (refine step_append_own rfl (.tmp 19) (.tmp 26) 23 rfl w.heap.size 62 i0 (.agg #[.string ⟨#[]⟩, .string ⟨#[]⟩, .int .i64 0, .int .i64 0, .int .i64 0, .int .i64 0, .int .i64 0, .slice none 0 0, .slice none 0 0, .slice none 0 0, .string ⟨#[]⟩, .slice none 0 0, .string ⟨#[]⟩, .slice none 0 0, .string ⟨#[]⟩]) 15 240 Tryz.underlying23 hi0 hz0 hz1 hz2 rfl (by decide) (.slice B 0 cb) 0 (cellsP (chP.take 0)) rfl hon.out ⟨wr.heap.size, 0, none⟩ 1 1 (cellsP [chPod 112]) rfl rfl hcl.out h1c.out hmx9.out (by decide) hb9.out (fun v' w' hown' hgrow' => ?_); obtain ⟨B', cb', rfl, hm'⟩ := La.own_slice hown'; have S3 := Lib.hid (ch_other hon.out hgrow' hS9.out hdec); have q1 := Blk.cell S3.out 1; have q2 := Blk.free S3.out 1)
      all_goals
        have HSQ := HSb.out
        have hc3 : Hid (ChapAt w' w.heap.size (.slice B' 1 cb') 1 [98] false) := Lib.hid (HC.out.step hbW.out hon.out hgrow' (show World.ownsRow _ _ _ _ _ _ _ from hown'))
        have hc4 : Hid (ChapAt (w'.setCell ⟨Sb, 1, none⟩ (.slice B' 1 cb')) w.heap.size (.slice B' 1 cb') 1 [98] false) := Lib.hid (hc3.out.set S3.out (by omega) hdec 1 _)
        have hs4 : Hid (Blk (w'.setCell ⟨Sb, 1, none⟩ (.slice B' 1 cb')) Sb #[Value.slice (some { block := w.heap.size + 3, off := 0 }) 3 3, .slice B' 1 cb', Value.slice (some { block := w.heap.size + 4, off := 0 }) 1 1] 26) := Lib.hid (S3.out.set 1 _)
        have hz4 : Hid (Blk (w'.setCell ⟨Sb, 1, none⟩ (.slice B' 1 cb')) w.heap.size #[Value.slice none 0 0, Value.slice none 0 0, Value.slice none 0 0] 26) := Lib.hid (Blk.oth (ch_other hon.out hgrow' (HZ.out.below hbW.out HZ.out.lt) hdec) (by omega) 1 _)
        have hb4 : Hid (Below w.heap.size w (w'.setCell ⟨Sb, 1, none⟩ (.slice B' 1 cb'))) := Lib.hid ((((HB.out.trans (hbW.out.mono hnb.out)).grown hgrow' hb9.out (fun j hj => (hon.out.lt j hj).1))).setCell (p := ⟨Sb, 1, none⟩) (by show w.heap.size ≤ Sb; omega) _)
        clear hown' hgrow' S3 q1 q2 HSQ hcl h1c hon hS9 hb9 hmx9 s0 s1 s2 f1 s1a HC HS HZ HB hbW hc3
        go_wp2
        go_roundw
        case rel => exact ⟨1, B', cb', by omega, by go_num, hc4.out, hs4.out, hz4.out, hb4.out⟩
        case measure => simp [intOf]
    · have hnb : Hid (w.heap.size ≤ wr.heap.size) := Lib.hid HB.out.size
      have s1a : ∀ o, (wr.alloc o).cell? ⟨Sb, 1, none⟩ = some (.slice B 1 cb) := fun o => Blk.cell (Blk.alloc HS.out o) 1
      have hdec : 26 ≠ 62 := by decide
      have h1c : Hid (∀ u ∈ cellsP [chPod 113], u.oneCell' = true) := Lib.hid (by
        intro u hu
        simp [cellsP, chPod] at hu
        rcases hu with rfl | rfl | rfl | rfl | rfl | rfl | rfl | rfl | rfl | rfl | rfl | rfl | rfl <;> rfl)
      have hbW : Hid (Below wr.heap.size wr ((wr.alloc (.cells (cellsP [chPod 113]).toArray 62)).drew)) := Lib.hid (((Below.refl _ _).alloc (Nat.le_refl _) _).drew)
      have hcl : Hid (∀ j u, (cellsP [chPod 113])[j]? = some u → World.cell? ((wr.alloc (.cells (cellsP [chPod 113]).toArray 62)).drew) ((⟨wr.heap.size, 0, none⟩ : Addr).add j) = some u) := Lib.hid (by
        intro j u hj
        rw [WideShapes.add_plain, Nat.zero_add, ← hj, ← List.getElem?_toArray]
        exact Blk.cell (Blk.new wr _ _) j)
      have hon : Hid (World.ownsRow ((wr.alloc (.cells (cellsP [chPod 113]).toArray 62)).drew) w.heap.size 62 15 (.slice B 1 cb) 1 (cellsP (chP.take 1))) := Lib.hid (show World.ownsRow _ _ _ _ _ _ _ from HC.out.p.alloc _)
      have hS9 : Hid (Blk ((wr.alloc (.cells (cellsP [chPod 113]).toArray 62)).drew) Sb #[Value.slice (some { block := w.heap.size + 3, off := 0 }) 3 3, .slice B 1 cb, Value.slice (some { block := w.heap.size + 4, off := 0 }) 1 1] 26) := Lib.hid (Blk.alloc HS.out _)
      have hb9 : Hid (w.heap.size ≤ ((wr.alloc (.cells (cellsP [chPod 113]).toArray 62)).drew).heap.size) := Lib.hid (by have := hnb.out; show w.heap.size ≤ (wr.alloc _).heap.size; simp; omega)
      have hmx9 : Hid (1 + 1 ≤ maxLen) := Lib.hid (by unfold maxLen; omega)
      have hw1 : IntKind.i64.wrap 1 = 1 := by decide
      have hw2 : IntKind.i64.wrap 2 = 2 := by decide
      have hw3 : IntKind.i64.wrap 3 = 3 := by decide
      have he0 : (⟨#[112, 113, 114]⟩ : ByteArray).extract 0 1 = ⟨#[112]⟩ := by decide
      have he1 : (⟨#[112, 113, 114]⟩ : ByteArray).extract 1 2 = ⟨#[113]⟩ := by decide
      have he2 : (⟨#[112, 113, 114]⟩ : ByteArray).extract 2 3 = ⟨#[114]⟩ := by decide
      clear hk
      go_wp2_with fail
      go_region_law (refine step_append_own rfl (.tmp 19) (.tmp 26) 23 rfl w.heap.size 62 i0 (.agg #[.string ⟨#[]⟩, .string ⟨#[]⟩, .int .i64 0, .int .i64 0, .int .i64 0, .int .i64 0, .int .i64 0, .slice none 0 0, .slice none 0 0, .slice none 0 0, .string ⟨#[]⟩, .slice none 0 0, .string ⟨#[]⟩, .slice none 0 0, .string ⟨#[]⟩]) 15 240 Tryz.underlying23 hi0 hz0 hz1 hz2 rfl (by decide) (.slice B 1 cb) 1 (cellsP (chP.take 1)) rfl hon.out ⟨wr.heap.size, 0, none⟩ 1 1 (cellsP [chPod 113]) rfl rfl hcl.out h1c.out hmx9.out (by decide) hb9.out (fun v' w' hown' hgrow' => ?_); obtain ⟨B', cb', rfl, hm'⟩ := La.own_slice hown'; have S3 := Lib.hid (ch_other hon.out hgrow' hS9.out hdec); have q1 := Blk.cell S3.out 1; have q2 := Blk.free S3.out 1)
      all_goals
        have HSQ := HSb.out
        have hc3 : Hid (ChapAt w' w.heap.size (.slice B' 2 cb') 2 [98] false) := Lib.hid (HC.out.step hbW.out hon.out hgrow' (show World.ownsRow _ _ _ _ _ _ _ from hown'))
        have hc4 : Hid (ChapAt (w'.setCell ⟨Sb, 1, none⟩ (.slice B' 2 cb')) w.heap.size (.slice B' 2 cb') 2 [98] false) := Lib.hid (hc3.out.set S3.out (by omega) hdec 1 _)
        have hs4 : Hid (Blk (w'.setCell ⟨Sb, 1, none⟩ (.slice B' 2 cb')) Sb #[Value.slice (some { block := w.heap.size + 3, off := 0 }) 3 3, .slice B' 2 cb', Value.slice (some { block := w.heap.size + 4, off := 0 }) 1 1] 26) := Lib.hid (S3.out.set 1 _)
        have hz4 : Hid (Blk (w'.setCell ⟨Sb, 1, none⟩ (.slice B' 2 cb')) w.heap.size #[Value.slice none 0 0, Value.slice none 0 0, Value.slice none 0 0] 26) := Lib.hid (Blk.oth (ch_other hon.out hgrow' (HZ.out.below hbW.out HZ.out.lt) hdec) (by omega) 1 _)
        have hb4 : Hid (Below w.heap.size w (w'.setCell ⟨Sb, 1, none⟩ (.slice B' 2 cb'))) := Lib.hid ((((HB.out.trans (hbW.out.mono hnb.out)).grown hgrow' hb9.out (fun j hj => (hon.out.lt j hj).1))).setCell (p := ⟨Sb, 1, none⟩) (by show w.heap.size ≤ Sb; omega) _)
        clear hown' hgrow' S3 q1 q2 HSQ hcl h1c hon hS9 hb9 hmx9 s0 s1 s2 f1 s1a HC HS HZ HB hbW hc3
        go_wp2
        go_roundw
        case rel => exact ⟨2, B', cb', by omega, by go_num, hc4.out, hs4.out, hz4.out, hb4.out⟩
        case measure => simp [intOf]
    · have hnb : Hid (w.heap.size ≤ wr.heap.size) := Lib.hid HB.out.size
      have s1a : ∀ o, (wr.alloc o).cell? ⟨Sb, 1, none⟩ = some (.slice B 2 cb) := fun o => Blk.cell (Blk.alloc HS.out o) 1
      have hdec : 26 ≠ 62 := by decide
      have h1c : Hid (∀ u ∈ cellsP [chPod 114], u.oneCell' = true) := Lib.hid (by
        intro u hu
        simp [cellsP, chPod] at hu
        rcases hu with rfl | rfl | rfl | rfl | rfl | rfl | rfl | rfl | rfl | rfl | rfl | rfl | rfl <;> rfl)
      have hbW : Hid (Below wr.heap.size wr ((wr.alloc (.cells (cellsP [chPod 114]).toArray 62)).drew)) := Lib.hid (((Below.refl _ _).alloc (Nat.le_refl _) _).drew)
      have hcl : Hid (∀ j u, (cellsP [chPod 114])[j]? = some u → World.cell? ((wr.alloc (.cells (cellsP [chPod 114]).toArray 62)).drew) ((⟨wr.heap.size, 0, none⟩ : Addr).add j) = some u) := Lib.hid (by
        intro j u hj
        rw [WideShapes.add_plain, Nat.zero_add, ← hj, ← List.getElem?_toArray]
        exact Blk.cell (Blk.new wr _ _) j)
      have hon : Hid (World.ownsRow ((wr.alloc (.cells (cellsP [chPod 114]).toArray 62)).drew) w.heap.size 62 15 (.slice B 2 cb) 2 (cellsP (chP.take 2))) := Lib.hid (show World.ownsRow _ _ _ _ _ _ _ from HC.out.p.alloc _)
      have hS9 : Hid (Blk ((wr.alloc (.cells (cellsP [chPod 114]).toArray 62)).drew) Sb #[Value.slice (some { block := w.heap.size + 3, off := 0 }) 3 3, .slice B 2 cb, Value.slice (some { block := w.heap.size + 4, off := 0 }) 1 1] 26) := Lib.hid (Blk.alloc HS.out _)
      have hb9 : Hid (w.heap.size ≤ ((wr.alloc (.cells (cellsP [chPod 114]).toArray 62)).drew).heap.size) := Lib.hid (by have := hnb.out; show w.heap.size ≤ (wr.alloc _).heap.size; simp; omega)
      have hmx9 : Hid (2 + 1 ≤ maxLen) := Lib.hid (by unfold maxLen; omega)
      have hw1 : IntKind.i64.wrap 1 = 1 := by decide
      have hw2 : IntKind.i64.wrap 2 = 2 := by decide
      have hw3 : IntKind.i64.wrap 3 = 3 := by decide
      have he0 : (⟨#[112, 113, 114]⟩ : ByteArray).extract 0 1 = ⟨#[112]⟩ := by decide
      have he1 : (⟨#[112, 113, 114]⟩ : ByteArray).extract 1 2 = ⟨#[113]⟩ := by decide
      have he2 : (⟨#[112, 113, 114]⟩ : ByteArray).extract 2 3 = ⟨#[114]⟩ := by decide
      clear hk
      go_wp2_with fail
      go_region_law (refine step_append_own rfl (.tmp 19) (.tmp 26) 23 rfl w.heap.size 62 i0 (.agg #[.string ⟨#[]⟩, .string ⟨#[]⟩, .int .i64 0, .int .i64 0, .int .i64 0, .int .i64 0, .int .i64 0, .slice none 0 0, .slice none 0 0, .slice none 0 0, .string ⟨#[]⟩, .slice none 0 0, .string ⟨#[]⟩, .slice none 0 0, .string ⟨#[]⟩]) 15 240 Tryz.underlying23 hi0 hz0 hz1 hz2 rfl (by decide) (.slice B 2 cb) 2 (cellsP (chP.take 2)) rfl hon.out ⟨wr.heap.size, 0, none⟩ 1 1 (cellsP [chPod 114]) rfl rfl hcl.out h1c.out hmx9.out (by decide) hb9.out (fun v' w' hown' hgrow' => ?_); obtain ⟨B', cb', rfl, hm'⟩ := La.own_slice hown'; have S3 := Lib.hid (ch_other hon.out hgrow' hS9.out hdec); have q1 := Blk.cell S3.out 1; have q2 := Blk.free S3.out 1)
      all_goals
        have HSQ := HSb.out
        have hc3 : Hid (ChapAt w' w.heap.size (.slice B' 3 cb') 3 [98] false) := Lib.hid (HC.out.step hbW.out hon.out hgrow' (show World.ownsRow _ _ _ _ _ _ _ from hown'))
        have hc4 : Hid (ChapAt (w'.setCell ⟨Sb, 1, none⟩ (.slice B' 3 cb')) w.heap.size (.slice B' 3 cb') 3 [98] false) := Lib.hid (hc3.out.set S3.out (by omega) hdec 1 _)
        have hs4 : Hid (Blk (w'.setCell ⟨Sb, 1, none⟩ (.slice B' 3 cb')) Sb #[Value.slice (some { block := w.heap.size + 3, off := 0 }) 3 3, .slice B' 3 cb', Value.slice (some { block := w.heap.size + 4, off := 0 }) 1 1] 26) := Lib.hid (S3.out.set 1 _)
        have hz4 : Hid (Blk (w'.setCell ⟨Sb, 1, none⟩ (.slice B' 3 cb')) w.heap.size #[Value.slice none 0 0, Value.slice none 0 0, Value.slice none 0 0] 26) := Lib.hid (Blk.oth (ch_other hon.out hgrow' (HZ.out.below hbW.out HZ.out.lt) hdec) (by omega) 1 _)
        have hb4 : Hid (Below w.heap.size w (w'.setCell ⟨Sb, 1, none⟩ (.slice B' 3 cb'))) := Lib.hid ((((HB.out.trans (hbW.out.mono hnb.out)).grown hgrow' hb9.out (fun j hj => (hon.out.lt j hj).1))).setCell (p := ⟨Sb, 1, none⟩) (by show w.heap.size ≤ Sb; omega) _)
        clear hown' hgrow' S3 q1 q2 HSQ hcl h1c hon hS9 hb9 hmx9 s0 s1 s2 f1 s1a HC HS HZ HB hbW hc3
        go_wp2
        go_roundw
        case rel => exact ⟨3, B', cb', by omega, by go_num, hc4.out, hs4.out, hz4.out, hb4.out⟩
        case measure => simp [intOf]
    · have z0 : wr.cell? ⟨w.heap.size, 0, none⟩ = some (Value.slice none 0 0) := Blk.cell HZ.out 0
      have z1 : wr.cell? ⟨w.heap.size, 1, none⟩ = some (Value.slice none 0 0) := Blk.cell HZ.out 1
      have z2 : wr.cell? ⟨w.heap.size, 2, none⟩ = some (Value.slice none 0 0) := Blk.cell HZ.out 2
      have g0 := Blk.free HZ.out 0
      have g1 := Blk.free HZ.out 1
      have g2 := Blk.free HZ.out 2
      clear hk
      have HSQ := HSb.out
      have hd1 : 26 ≠ 62 := by decide
      have HZ1 := Lib.hid (HZ.out.set 0 (Value.slice (some { block := w.heap.size + 3, off := 0 }) 3 3))
      have HC1 := Lib.hid (HC.out.set HZ.out (by omega) hd1 0 (Value.slice (some { block := w.heap.size + 3, off := 0 }) 3 3))
      have HZ2 := Lib.hid (HZ1.out.set 1 (.slice B 3 cb))
      have HC2 := Lib.hid (HC1.out.set HZ1.out (by omega) hd1 1 (.slice B 3 cb))
      have HZ3 := Lib.hid (HZ2.out.set 2 (Value.slice (some { block := w.heap.size + 4, off := 0 }) 1 1))
      have HC3 := Lib.hid (HC2.out.set HZ2.out (by omega) hd1 2 (Value.slice (some { block := w.heap.size + 4, off := 0 }) 1 1))
      have HB3 := Lib.hid (((HB.out.setCell (p := ⟨w.heap.size, 0, none⟩) (Nat.le_refl _) (Value.slice (some { block := w.heap.size + 3, off := 0 }) 3 3)).setCell (p := ⟨w.heap.size, 1, none⟩) (Nat.le_refl _) (.slice B 3 cb)).setCell (p := ⟨w.heap.size, 2, none⟩) (Nat.le_refl _) (Value.slice (some { block := w.heap.size + 4, off := 0 }) 1 1))
      clear HSQ hd1
      go_wp2
      refine bodyPost_row1 Tryz.results83 w.heap.size _ _ _ _ (by rfl) (by rfl) HZ3.out Tryz.underlying26 rfl (by kernel_rfl) ?_
      exact ⟨B, cb, rfl, HC3.out, HB3.out⟩

/-- The chapter's cluster as a cluster. -/
theorem ChapAt.snap {w : World} {N : Nat} {B : Option Addr} {cb : Nat} {nm : List UInt8} {lost : Bool} (h : ChapAt w N (.slice B 3 cb) 3 nm lost) (hnm : nm.length ≤ 1000) : SnapAt w (some ⟨N + 3, 0, none⟩) B (some ⟨N + 4, 0, none⟩) 3 cb 1 (chN N nm lost) chP chO := by
  have lab : ∀ (b : Nat) (v : UInt8), Blk w b #[strV bZone, strV [v]] 81 → ListL w (some ⟨b, 0, none⟩) 1 [(bZone, [v])] := fun b v hb => by
    refine ⟨by simp, by omega, fun j y hj => ⟨b, 0, rfl, ?_⟩, fun x hx => ?_⟩
    · rw [Nat.zero_add, Blk.cell hb j, ← hj, ← List.getElem?_toArray]
      rfl
    · simp only [List.mem_singleton] at hx
      subst hx
      exact ⟨by simp, by simp⟩
  have nolab : ListL w none 0 [] := ⟨by simp, by omega, fun j y hj => by simp [La.cellsL] at hj, fun x hx => by cases hx⟩
  have noter : ListT w none 0 [] := ⟨by simp, by omega, fun j y hj => by simp [La.cellsT] at hj, fun x hx => by cases hx⟩
  have hcap : 3 ≤ cb ∧ cb ≤ maxLen := by
    rcases h.p.2 with ⟨e, _⟩ | ⟨g, cap, cur, e, _, _, h1, h2, _⟩
    · cases e
    · cases e
      exact ⟨h1, h2⟩
  have hpod : ∀ c, (chPod c).fit w := fun c => ⟨nolab, noter, nolab, noter, noter, by simp [chPod]⟩
  constructor
  · constructor
    · intro j y hj
      refine ⟨N + 3, 0, rfl, ?_⟩
      rw [Nat.zero_add, Blk.cell h.n j, ← hj, ← List.getElem?_toArray]
    · intro x hx
      simp only [chN, List.mem_cons, List.not_mem_nil, or_false] at hx
      rcases hx with rfl | rfl | rfl
      · exact ⟨lab _ _ h.l1, nolab, by simp⟩
      · exact ⟨lab _ _ h.l2, nolab, by show nm.length ≤ _; omega⟩
      · exact ⟨nolab, nolab, by simp⟩
  · constructor
    · exact La.own_slat h.p
    · intro x hx
      simp only [chP, List.mem_cons, List.not_mem_nil, or_false] at hx
      rcases hx with rfl | rfl | rfl <;> exact hpod _
  · intro j y hj
    refine ⟨N + 4, 0, rfl, ?_⟩
    rw [Nat.zero_add, Blk.cell h.o j, ← hj, ← List.getElem?_toArray]
  · intro x hx
    simp only [chO, List.mem_singleton] at hx
    subst hx
    exact ⟨by simp, by simp⟩
  · simp [chN]
  · simp [chP]
  · simp [chO]
  · exact ⟨by simp [chN], by omega⟩
  · refine ⟨by simp [chP]; omega, ?_⟩
    have := hcap.2
    unfold maxLen at this
    omega
  · exact ⟨by simp [chO], by omega⟩
end Go.Proofs.YtoankplhahbgkaaGreat

namespace Go.Proofs.YtoankplhahbgkaaGreat
open Go.RowKit Go.Shelf
attribute [local go_sem] Oper.semAt_some

/-- All that lay below n₀ lies as it lay, and so does each block of cells but those named. -/
def KeepU (n₀ : Nat) (us : List Nat) (W W' : World) : Prop := Below n₀ W W' ∧ ∀ (b : Nat) (cs : Array Value) (t : TypeId), b ∉ us → Blk W b cs t → Blk W' b cs t
theorem KeepU.refl (n₀ : Nat) (us : List Nat) (W : World) : KeepU n₀ us W W := ⟨Below.refl _ _, fun _ _ _ _ h => h⟩
theorem KeepU.trans {n₀ : Nat} {us : List Nat} {A B C : World} (h : KeepU n₀ us A B) (k : KeepU n₀ us B C) : KeepU n₀ us A C := ⟨h.1.trans k.1, fun b cs t hb h1 => k.2 b cs t hb (h.2 b cs t hb h1)⟩
theorem KeepU.below {n₀ : Nat} {us : List Nat} {A B : World} (h : Below A.heap.size A B) (hn : n₀ ≤ A.heap.size) : KeepU n₀ us A B := ⟨h.mono hn, fun _ _ _ _ h1 => h1.below h h1.lt⟩
theorem KeepU.set {n₀ : Nat} {us : List Nat} (A : World) {u : Nat} (hu : u ∈ us) (hn : n₀ ≤ u) (i : Nat) (v : Value) : KeepU n₀ us A (A.setCell ⟨u, i, none⟩ v) :=
  ⟨(Below.refl _ _).setCell (p := ⟨u, i, none⟩) hn v, fun _ _ _ hb h1 => h1.oth (fun e => hb (e ▸ hu)) i v⟩
theorem keepU_t {n₀ : Nat} {us : List Nat} : ∀ {A B C : World}, KeepU n₀ us A B → KeepU n₀ us B C → KeepU n₀ us A C := fun h k => h.trans k
theorem blk_nc {w w' : World} {b : Nat} {cs : Array Value} {t : TypeId} {row : Option Nat} (h : Blk w b cs t) (hg : w.grownBy w' row) (hr : ∀ r, row = some r → ∃ o : Obj, w.heap[r]? = some o ∧ o.isCells = false) : Blk w' b cs t :=
  Blk.kept h hg (fun e => by
    obtain ⟨o, ho, hc⟩ := hr b e.symm
    unfold Blk at h
    rw [h] at ho
    cases ho
    cases hc)
theorem keepU_b {n₀ : Nat} {us : List Nat} {w : World} (hB : n₀ ≤ w.heap.size) : ∀ (W : World) (l : Nat) (o o' : Obj), w.heap.size ≤ l → W.heap[l]? = some o → o.isCells = false → o.isWalk = false → KeepU n₀ us W (W.putObj l o') := fun W l o o' hl ho hc hw =>
  ⟨belowK_b (w := w) hB W l o o' hl ho hc hw, fun b cs t _ h1 => blk_nc h1 (grownBy_putObj' W l o') (fun r e => by cases e; exact ⟨o, ho, hc⟩)⟩

/-- The places below k at which that number stands. -/
def onU (p : List Int) (node : Int) : Nat → List Nat
  | 0 => []
  | k + 1 => onU p node k ++ (if p[k]? = some node then [k] else [])
theorem onU_len (p : List Int) (node : Int) : ∀ k, (onU p node k).length ≤ k
  | 0 => Nat.le_refl _
  | k + 1 => by
    have := onU_len p node k
    rw [onU, List.length_append]
    split <;> simp <;> omega
/-- A place at which that number stands. -/
abbrev AtNo (p : List Int) (node : Int) := { k : Nat // p[k]? = some node }

set_option maxRecDepth 100000 in
set_option maxHeartbeats 2000000 in
theorem on1_in (n : Nat) (hn : 1 ≤ n) (l Bp Bn n₀ cp : Nat) (us : List Nat) (P : Option Addr) (p : List Int) (node : Int) (hfew : p.length ≤ 1000) (J Jx : List (AtNo p node) → World → Prop)
    (hY : ∀ pre (x : AtNo p node) W, J pre W → pre.length < p.length → YieldAt Fence.wide (n - 1) Tryz.prog l #[.int .i64 (x.1 : Int)] W fun e W' =>
      (e = .returned (.bool true) ∧ J (pre ++ [x]) W' ∧ KeepU n₀ us W W') ∨ (e = .returned (.bool false) ∧ Jx (pre ++ [x]) W'))
    (W : World) (hBp : W.cell? ⟨Bp, 0, none⟩ = some (.slice P p.length cp)) (hBn : Blk W Bn #[.int .i64 node] 3) (hus : Bn ∉ us)
    (hp : ∀ k x, p[k]? = some x → ∃ b o, P = some ⟨b, o, none⟩ ∧ b < n₀ ∧ W.cell? ⟨b, o + k, none⟩ = some (.int .i64 x)) (h0 : J [] W) :
    CallsIn Fence.wide n Tryz.prog 108 #[.func (.yield l) #[] #[], .pointer (some ⟨Bp, 0, none⟩), .pointer (some ⟨Bn, 0, none⟩)] W fun e W' => (∃ v, e = .returned v) ∧
      ((∃ ys : List (AtNo p node), ys.map (·.1) = onU p node p.length ∧ J ys W') ∨ (∃ pre : List (AtNo p node), True ∧ Jx pre W')) := by
  refine callsIn_of_wp Tryz.func108 rfl trivial ?_ rfl
  simp only [Tryz.ntmps108, List.size_toArray, List.length_cons, List.length_nil, Nat.reduceAdd, Nat.reduceSub, Array.replicate_succ, Array.replicate_zero, List.push_toArray, List.append_toArray, List.nil_append, List.cons_append]
  have HBn := Lib.hid hBn
  clear hBn
  gi_wp2
  gi_loopw [8] (fun i wr => ∃ (k : Nat) (pre : List (AtNo p node)), k ≤ p.length ∧ i = .int .i64 k ∧ pre.map (·.1) = onU p node k ∧ J pre wr ∧ KeepU n₀ us W wr) (fun i _ => p.length - (intOf i).toNat)
  case atStart => exact ⟨0, [], Nat.zero_le _, rfl, rfl, h0, KeepU.refl _ _ _⟩
  case round =>
    obtain ⟨k, pre, hk, rfl, hpre, hJs, hnx⟩ := hrel
    by_cases hlt : k < p.length
    · obtain ⟨x, hx⟩ : ∃ x, p[k]? = some x := ⟨p[k], List.getElem?_eq_getElem hlt⟩
      obtain ⟨b, o, hA, hb, hc⟩ := hp k x hx
      subst hA
      have hcx : wr.cell? ⟨b, o + k, none⟩ = some (.int .i64 x) := (hnx.1.cell (p := ⟨b, o + k, none⟩) hb).trans hc
      have hnn : wr.cell? ⟨Bn, 0, none⟩ = some (.int .i64 node) := Blk.cell (hnx.2 Bn _ _ hus HBn.out) 0
      have k0 : (0 : Int) ≤ (k : Int) := by omega
      have k1 : (k : Int) < (p.length : Int) := by omega
      have hlen : pre.length < p.length := by
        have h1 := onU_len p node k
        have h2 : pre.length = (onU p node k).length := by rw [← hpre, List.length_map]
        omega
      have hstep : onU p node (k + 1) = onU p node k ++ (if x = node then [k] else []) := by
        rw [onU, hx]
        simp only [Option.some.injEq]
      by_cases hxn : x = node
      · subst hxn
        obtain ⟨fn, tmps, assign, body, hy, hR⟩ := hY pre ⟨k, hx⟩ wr hJs hlen
        dsimp only at hy
        rw [if_pos rfl] at hstep
        gi_wp2
        refine hR.mono ?_
        rintro e W3 (⟨rfl, hJ3, hk3⟩ | ⟨rfl, hJx3⟩)
        · gi_wp2
          go_roundw
          case rel => exact ⟨k + 1, pre ++ [⟨k, hx⟩], by omega, by go_num, by rw [hstep, List.map_append, hpre]; rfl, hJ3, hnx.trans hk3⟩
          case measure => simp [intOf]; omega
        · gi_wp2
          refine bodyPost_ret (results_none rfl _ _ _) rfl ?_
          exact ⟨⟨_, rfl⟩, .inr ⟨pre ++ [⟨k, hx⟩], trivial, hJx3⟩⟩
      · rw [if_neg hxn, List.append_nil] at hstep
        have hxb : (x == node) = false := by simpa using hxn
        gi_wp2
        refine ⟨fun _ h => (by cases h), ?_⟩
        gi_wp2
        go_roundw
        case rel => exact ⟨k + 1, pre, by omega, by go_num, by rw [hstep, hpre], hJs, hnx⟩
        case measure => simp [intOf]; omega
    · obtain rfl : k = p.length := by omega
      gi_wp2
      go_end0
      exact ⟨⟨_, rfl⟩, .inl ⟨pre, hpre, hJs⟩⟩
end Go.Proofs.YtoankplhahbgkaaGreat

namespace Go.Proofs.YtoankplhahbgkaaGreat
open Go.RowKit Go.Shelf
attribute [local go_sem] Oper.semAt_some

/-- A pod that does not wait. -/
abbrev OffNo (p : List Int) := { k : Nat // ∃ x : Int, p[k]? = some x ∧ x ≠ -1 }
/-- Those of a list of places whose pods do not wait. -/
def offL (p : List Int) (M : List Int) : List Nat := (M.map Int.toNat).filter (fun k => decide (p[k]? ≠ some (-1)))
theorem offL_len (p M : List Int) : (offL p M).length ≤ M.length := by
  unfold offL
  exact Nat.le_trans (List.length_filter_le _ _) (by simp)
theorem offL_step (p M : List Int) (k m : Nat) (h : M[k]? = some (m : Int)) : offL p (M.take (k + 1)) = offL p (M.take k) ++ (if p[m]? = some (-1) then [] else [m]) := by
  have h1 : M.take (k + 1) = M.take k ++ [(m : Int)] := by
    obtain ⟨hk, he⟩ := List.getElem?_eq_some_iff.1 h
    rw [List.take_succ_eq_append_getElem hk, he]
  unfold offL
  rw [h1, List.map_append, List.filter_append]
  congr 1
  by_cases hq : p[m]? = some (-1)
  · simp [hq]
  · simp [hq]

theorem membersU_mem (ps : List PodD) (name : List UInt8) : ∀ (k : Nat) (y : Int), y ∈ membersU ps name k → ∃ m : Nat, y = (m : Int) ∧ m < k ∧ ∃ x, ps[m]? = some x ∧ x.owner = name
  | 0, y, h => by simp [membersU] at h
  | k + 1, y, h => by
    rw [membersU, List.mem_append] at h
    rcases h with h | h
    · obtain ⟨m, h1, h2, h3⟩ := membersU_mem ps name k y h
      exact ⟨m, h1, by omega, h3⟩
    · cases hx : ps[k]? with
      | none => rw [hx] at h; simp at h
      | some x =>
        rw [hx] at h
        dsimp only at h
        by_cases hn : x.owner = name
        · rw [if_pos hn] at h
          simp at h
          exact ⟨k, h, by omega, x, hx, hn⟩
        · rw [if_neg hn] at h
          simp at h
theorem own_blk {w : World} {base : Nat} {e : TypeId} {A : Option Addr} {c n : Nat} {xs : List Value} (h : w.ownsRow base e 1 (.slice A n c) n xs) {k : Nat} {y : Value} (hk : xs[k]? = some y) :
    ∃ g cur, A = some ⟨g, 0, none⟩ ∧ base ≤ g ∧ Blk w g cur e ∧ cur[k]? = some y := by
  have hlt := (List.getElem?_eq_some_iff.1 hk).1
  obtain ⟨hl, h1 | ⟨g, cap, cur, hv, hb, hg, h1, h2, h3, h4⟩⟩ := h
  · omega
  · cases hv
    refine ⟨g, cur, rfl, hb, hg, ?_⟩
    rw [← h4, List.getElem?_take, if_pos (by omega)] at hk
    simpa using hk

set_option maxRecDepth 100000 in
set_option maxHeartbeats 2000000 in
theorem of1_in (n : Nat) (hn : 1 ≤ n) (l Bs Bo Bp n₀ ca cb cc cp : Nat) (us : List Nat) (A B C P : Option Addr) (ns : List NodeD) (ps : List PodD) (os : List OwnD) (p : List Int) (ko : Nat) (xo : OwnD) (hxo : os[ko]? = some xo) (hpl : p.length = ps.length) (J Jx : List (OffNo p) → World → Prop)
    (hY : ∀ pre (x : OffNo p) W, J pre W → pre.length < p.length → YieldAt Fence.wide (n - 1) Tryz.prog l #[.int .i64 (x.1 : Int)] W fun e W' =>
      (e = .returned (.bool true) ∧ J (pre ++ [x]) W' ∧ KeepU n₀ us W W') ∨ (e = .returned (.bool false) ∧ Jx (pre ++ [x]) W'))
    (W : World) (hJ : AbidesFrom W.heap.size J) (hBs : Blk W Bs (snapC A B C ca cb cc ns ps os) 26) (hBo : Blk W Bo #[.int .i64 (ko : Int)] 3) (hBp : Blk W Bp #[.slice P p.length cp] 27) (husp : Bp ∉ us) (hus : ∀ u ∈ us, u < W.heap.size)
    (hs : SnapAt W A B C ca cb cc ns ps os)
    (hp : ∀ k x, p[k]? = some x → ∃ b o, P = some ⟨b, o, none⟩ ∧ b < n₀ ∧ W.cell? ⟨b, o + k, none⟩ = some (.int .i64 x)) (hn₀ : n₀ ≤ W.heap.size) (h0 : J [] W) :
    CallsIn Fence.wide n Tryz.prog 109 #[.func (.yield l) #[] #[], .pointer (some ⟨Bs, 0, none⟩), .pointer (some ⟨Bo, 0, none⟩), .pointer (some ⟨Bp, 0, none⟩)] W fun e W' => (∃ v, e = .returned v) ∧
      ((∃ ys : List (OffNo p), ys.map (·.1) = offL p (membersF ps xo.name) ∧ J ys W') ∨ (∃ pre : List (OffNo p), True ∧ Jx pre W')) := by
  have KM := Lib.hid ((callsIn_wide (n := n - 1)).2 (members_any A B C ca cb cc ns ps os ko xo W hs hxo))
  have HBp := Lib.hid hBp
  have HP := Lib.hid hp
  have hlp := hs.lp
  have s0 : W.cell? ⟨Bs, 0, none⟩ = some (.slice A ns.length ca) := Blk.cell hBs 0
  have s1 : W.cell? ⟨Bs, 1, none⟩ = some (.slice B ps.length cb) := Blk.cell hBs 1
  have s2 : W.cell? ⟨Bs, 2, none⟩ = some (.slice C os.length cc) := Blk.cell hBs 2
  have b0 : W.cell? ⟨Bo, 0, none⟩ = some (.int .i64 (ko : Int)) := Blk.cell hBo 0
  have HM : Hid (∀ k y, (membersF ps xo.name)[k]? = some y → ∃ m : Nat, y = (m : Int) ∧ m < p.length) := Lib.hid (fun k y h => by
    obtain ⟨m, h1, h2, _⟩ := membersU_mem ps xo.name _ y (List.mem_of_getElem? h)
    exact ⟨m, h1, by omega⟩)
  have hML : (membersF ps xo.name).length ≤ p.length := by rw [hpl]; exact membersU_len ps xo.name _
  clear hBp hp hs hBs hBo
  generalize membersF ps xo.name = M at KM HM hML ⊢
  refine callsIn_of_wp Tryz.func109 rfl trivial ?_ rfl
  simp only [Tryz.ntmps109, List.size_toArray, List.length_cons, List.length_nil, Nat.reduceAdd, Nat.reduceSub, Array.replicate_succ, Array.replicate_zero, List.push_toArray, List.append_toArray, List.nil_append, List.cons_append]
  gi_wp2_with fail
  refine ⟨trivial, ?_⟩
  refine (KM.out).mono ?_
  rintro e W1 ⟨v, rfl, ho, hb⟩
  clear KM
  obtain ⟨A1, c1, rfl, hcm⟩ := La.own_slice ho
  have HO := Lib.hid ho
  have HB := Lib.hid hb
  have HP1 : Hid (Blk W1 Bp #[.slice P p.length cp] 27) := Lib.hid (HBp.out.below hb HBp.out.lt)
  have HJ1 : Hid (J [] W1) := Lib.hid (hJ [] W W1 none h0 (grown_of_below hb none) (fun r e => by cases e))
  clear s0 s1 s2 b0 ho hb hJ h0
  gi_wp2
  gi_loopw [11] (fun i wr => ∃ (k : Nat) (pre : List (OffNo p)), k ≤ M.length ∧ i = .int .i64 k ∧ pre.map (·.1) = offL p (M.take k) ∧ J pre wr ∧ KeepU n₀ us W1 wr) (fun i _ => M.length - (intOf i).toNat)
  case atStart => exact ⟨0, [], Nat.zero_le _, rfl, rfl, HJ1.out, KeepU.refl _ _ _⟩
  case round =>
    obtain ⟨k, pre, hk, rfl, hpre, hJs, hnx⟩ := hrel
    by_cases hlt : k < M.length
    · obtain ⟨y, hy⟩ : ∃ y, M[k]? = some y := ⟨M[k], List.getElem?_eq_getElem hlt⟩
      obtain ⟨m, rfl, hm⟩ := HM.out k y hy
      obtain ⟨g, cur, hA1, hg, hgb, hgc⟩ := own_blk HO.out (k := k) (y := .int .i64 (m : Int)) (by simp [intsC, hy])
      subst hA1
      have hgu : g ∉ us := fun h => by have := hus g h; omega
      have hc1 : wr.cell? ⟨g, k, none⟩ = some (.int .i64 (m : Int)) := (Blk.cell (hnx.2 g _ _ hgu hgb) k).trans hgc
      obtain ⟨x, hx⟩ : ∃ x, p[m]? = some x := ⟨p[m], List.getElem?_eq_getElem hm⟩
      obtain ⟨b, o, hA, hb, hc⟩ := HP.out m x hx
      subst hA
      have hpp : wr.cell? ⟨Bp, 0, none⟩ = some (.slice (some ⟨b, o, none⟩) p.length cp) := Blk.cell (hnx.2 Bp _ _ husp HP1.out) 0
      have hcx : wr.cell? ⟨b, o + m, none⟩ = some (.int .i64 x) := (hnx.1.cell (p := ⟨b, o + m, none⟩) hb).trans ((HB.out.cell (p := ⟨b, o + m, none⟩) (Nat.lt_of_lt_of_le hb hn₀)).trans hc)
      have k0 : (0 : Int) ≤ (k : Int) := by omega
      have k1 : (k : Int) < (M.length : Int) := by omega
      have m0 : (0 : Int) ≤ (m : Int) := by omega
      have m1 : (m : Int) < (p.length : Int) := by omega
      have hlen : pre.length < p.length := by
        have h1 := offL_len p (M.take k)
        have h2 : pre.length = (offL p (M.take k)).length := by rw [← hpre, List.length_map]
        have h3 : (M.take k).length = k := by rw [List.length_take]; omega
        omega
      have hstep := offL_step p M k m hy
      by_cases hxn : x = -1
      · subst hxn
        rw [if_pos hx, List.append_nil] at hstep
        have hxb : ((-1 : Int) != -1) = false := by decide
        gi_wp2
        refine ⟨fun _ h => (by cases h), ?_⟩
        gi_wp2
        go_roundw
        case rel => exact ⟨k + 1, pre, by omega, by go_num, by rw [hstep, hpre], hJs, hnx⟩
        case measure => simp [intOf]; omega
      · have hxb : (x != -1) = true := by simpa using hxn
        rw [if_neg (by rw [hx]; simpa using hxn)] at hstep
        obtain ⟨fn, tmps, assign, body, hy, hR⟩ := hY pre ⟨m, x, hx, hxn⟩ wr hJs hlen
        dsimp only at hy
        gi_wp2
        refine hR.mono ?_
        rintro e W3 (⟨rfl, hJ3, hk3⟩ | ⟨rfl, hJx3⟩)
        · gi_wp2
          go_roundw
          case rel => exact ⟨k + 1, pre ++ [⟨m, x, hx, hxn⟩], by omega, by go_num, by rw [hstep, List.map_append, hpre]; rfl, hJ3, hnx.trans hk3⟩
          case measure => simp [intOf]; omega
        · gi_wp2
          refine bodyPost_ret (results_none rfl _ _ _) rfl ?_
          exact ⟨⟨_, rfl⟩, .inr ⟨pre ++ [⟨m, x, hx, hxn⟩], trivial, hJx3⟩⟩
    · obtain rfl : k = M.length := by omega
      rw [List.take_length] at hpre
      gi_wp2
      go_end0
      exact ⟨⟨_, rfl⟩, .inl ⟨pre, hpre, hJs⟩⟩

set_option maxHeartbeats 1000000 in
theorem of_any (n : Nat) (A B C P : Option Addr) (ca cb cc cp : Nat) (ns : List NodeD) (ps : List PodD) (os : List OwnD) (len : Nat) (ko : Int) (w : World) :
    CallsIn Fence.wide n Tryz.prog 74 #[snapV A B C ca cb cc ns ps os, .slice P len cp, .int .i64 ko] w fun e w' => e = .returned (.func (.func 109) #[] #[.pointer (some ⟨w.heap.size, 0, none⟩), .pointer (some ⟨w.heap.size + 1 + 1, 0, none⟩), .pointer (some ⟨w.heap.size + 1, 0, none⟩)]) ∧ w' = ((w.alloc (.cells (snapC A B C ca cb cc ns ps os) 26)).alloc (.cells #[.slice P len cp] 27)).alloc (.cells #[.int .i64 ko] 3) := by
  refine callsIn_of_wp Tryz.func74 rfl trivial ?_ rfl
  simp only [Tryz.ntmps74, List.size_toArray, List.length_cons, List.length_nil, Nat.reduceAdd, Nat.reduceSub, Array.replicate_succ, Array.replicate_zero, List.push_toArray, List.append_toArray, List.nil_append, List.cons_append]
  gi_wp2
  go_ret
  exact ⟨rfl, rfl⟩

theorem of_stops (n : Nat) (hn : 1 ≤ n) (Bs Bo Bp n₀ ca cb cc cp : Nat) (us : List Nat) (A B C P : Option Addr) (ns : List NodeD) (ps : List PodD) (os : List OwnD) (p : List Int) (ko : Nat) (xo : OwnD) (hxo : os[ko]? = some xo) (hpl : p.length = ps.length) (w : World) (hn₀ : n₀ ≤ w.heap.size)
    (hBs : Blk w Bs (snapC A B C ca cb cc ns ps os) 26) (hBo : Blk w Bo #[.int .i64 (ko : Int)] 3) (hBp : Blk w Bp #[.slice P p.length cp] 27) (husp : Bp ∉ us) (hus : ∀ u ∈ us, u < w.heap.size)
    (hs : SnapAt w A B C ca cb cc ns ps os)
    (hp : ∀ k x, p[k]? = some x → ∃ b o, P = some ⟨b, o, none⟩ ∧ b < n₀ ∧ w.cell? ⟨b, o + k, none⟩ = some (.int .i64 x)) :
    SeqStopsK Fence.wide n Tryz.prog 109 #[.pointer (some ⟨Bs, 0, none⟩), .pointer (some ⟨Bo, 0, none⟩), .pointer (some ⟨Bp, 0, none⟩)] (fun x : OffNo p => #[Value.int .i64 (x.1 : Int)]) (KeepU n₀ us) (fun ys => ys.map (·.1) = offL p (membersF ps xo.name)) (fun _ => True) p.length w := fun l J Jx W hW hJ _ hY h0 => by
  refine of1_in n hn l Bs Bo Bp n₀ ca cb cc cp us A B C P ns ps os p ko xo hxo hpl J Jx hY W hJ (hBs.below hW hBs.lt) (hBo.below hW hBo.lt) (hBp.below hW hBp.lt) husp (fun u hu => Nat.lt_of_lt_of_le (hus u hu) hW.size) (hs.below hW) ?_ (Nat.le_trans hn₀ hW.size) h0
  intro k x hx
  obtain ⟨b, o, hA, hb, hc⟩ := hp k x hx
  exact ⟨b, o, hA, hb, (hW.cell (p := ⟨b, o + k, none⟩) (Nat.lt_of_lt_of_le hb hn₀)).trans hc⟩

abbrev ofWorld (W : World) (A B C P : Option Addr) (ca cb cc cp : Nat) (ns : List NodeD) (ps : List PodD) (os : List OwnD) (len : Nat) (ko : Int) : World := ((W.alloc (.cells (snapC A B C ca cb cc ns ps os) 26)).alloc (.cells #[.slice P len cp] 27)).alloc (.cells #[.int .i64 ko] 3)
theorem of_at (n : Nat) (hn : 1 ≤ n) (ca cb cc cp : Nat) (us : List Nat) (A B C P : Option Addr) (ns : List NodeD) (ps : List PodD) (os : List OwnD) (p : List Int) (ko : Nat) (xo : OwnD) (hxo : os[ko]? = some xo) (hpl : p.length = ps.length) (w W : World) (hB : Below w.heap.size w W)
    (hs : SnapAt w A B C ca cb cc ns ps os) (hp : IntsAt w P cp p) (hus : ∀ u ∈ us, u < W.heap.size) :
    SeqStopsK Fence.wide n Tryz.prog 109 #[.pointer (some ⟨W.heap.size, 0, none⟩), .pointer (some ⟨W.heap.size + 1 + 1, 0, none⟩), .pointer (some ⟨W.heap.size + 1, 0, none⟩)] (fun x : OffNo p => #[Value.int .i64 (x.1 : Int)]) (KeepU w.heap.size us) (fun ys => ys.map (·.1) = offL p (membersF ps xo.name)) (fun _ => True) p.length (ofWorld W A B C P ca cb cc cp ns ps os p.length (ko : Int)) := by
  have hb : Below W.heap.size W (ofWorld W A B C P ca cb cc cp ns ps os p.length (ko : Int)) := (Qu.below2 W _ _).alloc (by simp; omega) _
  have hsz : (ofWorld W A B C P ca cb cc cp ns ps os p.length (ko : Int)).heap.size = W.heap.size + 3 := by simp [ofWorld]
  have hbw := hB.trans (hb.mono hB.size)
  refine of_stops n hn W.heap.size (W.heap.size + 1 + 1) (W.heap.size + 1) w.heap.size ca cb cc cp us A B C P ns ps os p ko xo hxo hpl _ hbw.size ?_ ?_ ?_ ?_ ?_ (hs.below hbw) ?_
  · exact Blk.alloc (Blk.alloc (Blk.new W _ _) _) _
  · have := Blk.new ((W.alloc (.cells (snapC A B C ca cb cc ns ps os) 26)).alloc (.cells #[.slice P p.length cp] 27)) #[.int .i64 (ko : Int)] 3
    rwa [World.size_alloc, World.size_alloc] at this
  · exact Blk.alloc (blk2 W (.cells (snapC A B C ca cb cc ns ps os) 26) #[.slice P p.length cp] 27) _
  · intro h
    have := hus _ h
    omega
  · intro u hu
    have := hus u hu
    omega
  · intro k x hx
    obtain ⟨b, o, hA, hb0, _⟩ := atI hp.cells hx
    obtain ⟨b', o', hA', _, hc⟩ := atI (hp.below hbw).cells hx
    rw [hA] at hA'
    cases hA'
    exact ⟨b, o, hA, hb0, hc⟩
end Go.Proofs.YtoankplhahbgkaaGreat

namespace Go.Proofs.YtoankplhahbgkaaGreat
open Go.RowKit Go.Shelf
attribute [local go_sem] Oper.semAt_some

set_option maxHeartbeats 1000000 in
theorem on_any (n : Nat) (P : Option Addr) (len cp : Nat) (node : Int) (w : World) :
    CallsIn Fence.wide n Tryz.prog 71 #[.slice P len cp, .int .i64 node] w fun e w' => e = .returned (.func (.func 108) #[] #[.pointer (some ⟨w.heap.size, 0, none⟩), .pointer (some ⟨w.heap.size + 1, 0, none⟩)]) ∧ w' = (w.alloc (.cells #[.slice P len cp] 27)).alloc (.cells #[.int .i64 node] 3) := by
  refine callsIn_of_wp Tryz.func71 rfl trivial ?_ rfl
  simp only [Tryz.ntmps71, List.size_toArray, List.length_cons, List.length_nil, Nat.reduceAdd, Nat.reduceSub, Array.replicate_succ, Array.replicate_zero, List.push_toArray, List.append_toArray, List.nil_append, List.cons_append]
  gi_wp2
  go_ret
  exact ⟨rfl, rfl⟩

theorem on_stops (n : Nat) (hn : 1 ≤ n) (Bp Bn n₀ cp : Nat) (us : List Nat) (P : Option Addr) (p : List Int) (node : Int) (hfew : p.length ≤ 1000) (w : World) (hn₀ : n₀ ≤ w.heap.size) (hus : Bn ∉ us)
    (hBp : Blk w Bp #[.slice P p.length cp] 27) (hBn : Blk w Bn #[.int .i64 node] 3)
    (hp : ∀ k x, p[k]? = some x → ∃ b o, P = some ⟨b, o, none⟩ ∧ b < n₀ ∧ w.cell? ⟨b, o + k, none⟩ = some (.int .i64 x)) :
    SeqStopsK Fence.wide n Tryz.prog 108 #[.pointer (some ⟨Bp, 0, none⟩), .pointer (some ⟨Bn, 0, none⟩)] (fun x : AtNo p node => #[Value.int .i64 (x.1 : Int)]) (KeepU n₀ us) (fun ys => ys.map (·.1) = onU p node p.length) (fun _ => True) p.length w := fun l J Jx W hW _ _ hY h0 => by
  refine on1_in n hn l Bp Bn n₀ cp us P p node hfew J Jx hY W (Blk.cell (hBp.below hW hBp.lt) 0) (hBn.below hW hBn.lt) hus ?_ h0
  intro k x hx
  obtain ⟨b, o, hA, hb, hc⟩ := hp k x hx
  exact ⟨b, o, hA, hb, (hW.cell (p := ⟨b, o + k, none⟩) (Nat.lt_of_lt_of_le hb hn₀)).trans hc⟩

/-- What pods ask for together, as a machine adds. -/
def addW (ps : List PodD) (ys : List Nat) (k : Nat) : Int := ys.foldl (fun a y => wrap64 (a + (match ps[y]? with | some x => x.req k | none => 0))) 0
/-- What Used tells. -/
def usedF (ns : List NodeD) (ps : List PodD) (os : List OwnD) (p : List Int) (node : Int) (k : Nat) : Int :=
  if placeE ns ps os p = 0 ∧ 0 ≤ node ∧ node < (ns.length : Int) then addW ps (onU p node p.length) k else 0

theorem placeE_len {ns : List NodeD} {ps : List PodD} {os : List OwnD} {p : List Int} (hE : placeE ns ps os p = 0) : p.length = ps.length := by
  unfold placeE at hE
  split at hE
  · split at hE
    · assumption
    · cases hE
  · rename_i hne
    exact absurd hE hne
abbrev zer5 : Array Value := #[.int .i64 0, .int .i64 0, .int .i64 0, .int .i64 0, .int .i64 0]
theorem blk3 (w : World) (o o' : Obj) (cs : Array Value) (t : TypeId) : Blk (((w.alloc o).alloc o').alloc (.cells cs t)) (w.heap.size + 2) cs t := by
  have := Blk.new ((w.alloc o).alloc o') cs t
  rwa [World.size_alloc, World.size_alloc] at this

set_option maxRecDepth 100000 in
set_option maxHeartbeats 400000 in
theorem used_no (A B C P : Option Addr) (ca cb cc cp : Nat) (ns : List NodeD) (ps : List PodD) (os : List OwnD) (p : List Int) (node : Int) (w : World) (h : SnapAt w A B C ca cb cc ns ps os) (hp : IntsAt w P cp p) (hok : ¬ (placeE ns ps os p = 0 ∧ 0 ≤ node ∧ node < (ns.length : Int))) :
    Calls Tryz.prog 20 #[snapV A B C ca cb cc ns ps os, .slice P p.length cp, .int .i64 node] w fun e w' => e = .returned (rowV (fun _ => 0)) ∧ Below w.heap.size w w' := by
  have B0 : Hid (Below w.heap.size w (((w.alloc (.cells (snapC A B C ca cb cc ns ps os) 26)).alloc (.cells zer5 33)).alloc (.cells zer5 33))) := Lib.hid ((Qu.below2 w _ _).alloc (by simp; omega) _)
  have S0 : Hid (Blk (((w.alloc (.cells (snapC A B C ca cb cc ns ps os) 26)).alloc (.cells zer5 33)).alloc (.cells zer5 33)) w.heap.size (snapC A B C ca cb cc ns ps os) 26) := Lib.hid (Blk.alloc (Blk.alloc (Blk.new w _ _) _) _)
  have R0 : Hid (Blk (((w.alloc (.cells (snapC A B C ca cb cc ns ps os) 26)).alloc (.cells zer5 33)).alloc (.cells zer5 33)) (w.heap.size + 1) zer5 33) := Lib.hid (Blk.alloc (blk2 w _ _ _) _)
  have U0 : Hid (Blk (((w.alloc (.cells (snapC A B C ca cb cc ns ps os) 26)).alloc (.cells zer5 33)).alloc (.cells zer5 33)) (w.heap.size + 2) zer5 33) := Lib.hid (blk3 w _ _ _ _)
  have KC := Lib.hid (pcheck_any A B C P ca cb cc cp ns ps os p _ (h.below B0.out) (hp.below B0.out))
  have hl0 := Blk.lt U0.out
  generalize placeE ns ps os p = v0 at KC hok
  have KP : Hid (v0 = 0 → ∀ w', Calls Tryz.prog 70 #[.int .i64 node, .int .i64 (ns.length : Int)] w' fun e w'' => e = .returned (.bool false) ∧ w'' = w') := Lib.hid (fun hv w' => by
    have := isPlace_any node ns.length w'
    rwa [decide_eq_false (fun h => hok ⟨hv, h⟩)] at this)
  clear hok h hp
  go_enter Tryz.func20, Tryz.ntmps20
  go_wp2_with fail
  refine (KC.out).mono ?_
  rintro e w1 ⟨rfl, hb⟩
  clear KC
  have S1 := Lib.hid (S0.out.below hb (by omega))
  have R1 := Lib.hid (R0.out.below hb (by omega))
  have U1 := Lib.hid (U0.out.below hb (by omega))
  have B1 := Lib.hid (B0.out.trans (hb.mono (by omega)))
  clear hb S0 R0 U0 B0 hl0
  have s0 : w1.cell? ⟨w.heap.size, 0, none⟩ = some (.slice A ns.length ca) := Blk.cell S1.out 0
  have u0 : w1.cell? ⟨w.heap.size + 2, 0, none⟩ = some (.int .i64 0) := Blk.cell U1.out 0
  have u1 : w1.cell? ⟨w.heap.size + 2, 1, none⟩ = some (.int .i64 0) := Blk.cell U1.out 1
  have u2 : w1.cell? ⟨w.heap.size + 2, 2, none⟩ = some (.int .i64 0) := Blk.cell U1.out 2
  have u3 : w1.cell? ⟨w.heap.size + 2, 3, none⟩ = some (.int .i64 0) := Blk.cell U1.out 3
  have u4 : w1.cell? ⟨w.heap.size + 2, 4, none⟩ = some (.int .i64 0) := Blk.cell U1.out 4
  by_cases hvz : v0 = 0
  · subst hvz
    have KQ := Lib.hid (KP.out rfl)
    go_wp2_with fail
    refine (KQ.out _).mono ?_
    rintro e w2 ⟨rfl, rfl⟩
    go_wp2_with (refine wpList_store_row rfl 33 (.tmp 6) (.tmp 23) rfl (w.heap.size + 1) zer5 rfl rfl 33 _ R1.out Qu.vec_size (by kernel_rfl) (by kernel_rfl) ?_)
    refine bodyPost_row1 Tryz.results20 (w.heap.size + 1) _ _ _ _ (by rfl) (by rfl) (Blk.put R1.out zer5) Tryz.underlying33 rfl Qu.vec_size ?_
    exact ⟨rfl, below_setRow B1.out (by omega) _⟩
  · have hvb : (v0 != 0) = true := by simpa using hvz
    clear KP
    go_wp2_with (refine wpList_store_row rfl 33 (.tmp 6) (.tmp 23) rfl (w.heap.size + 1) zer5 rfl rfl 33 _ R1.out Qu.vec_size (by kernel_rfl) (by kernel_rfl) ?_)
    refine bodyPost_row1 Tryz.results20 (w.heap.size + 1) _ _ _ _ (by rfl) (by rfl) (Blk.put R1.out zer5) Tryz.underlying33 rfl Qu.vec_size ?_
    exact ⟨rfl, below_setRow B1.out (by omega) _⟩

/-- One pod more. -/
def addR (a r : Nat → Int) (j : Nat) (k : Nat) : Int := if k < j then wrap64 (a k + r k) else a k

end Go.Proofs.YtoankplhahbgkaaGreat

namespace Go.Proofs.YtoankplhahbgkaaGreat
open Go.RowKit Go.Shelf
attribute [local go_sem] Oper.semAt_some

/-- The first five of two rows are the same. -/
theorem RowAt_congr {w : World} {b : Nat} {x y : Nat → Int} (h : Qu.RowAt w b x) (he : ∀ k, k < 5 → x k = y k) : Qu.RowAt w b y := by
  unfold Qu.RowAt at h ⊢
  rw [h, he 0 (by omega), he 1 (by omega), he 2 (by omega), he 3 (by omega), he 4 (by omega)]
theorem addR_zero (a r : Nat → Int) : addR a r 0 = a := by
  funext k
  unfold addR
  rw [if_neg (by omega)]
theorem addR_at (a r : Nat → Int) (j : Nat) : addR a r j j = a j := by
  unfold addR
  rw [if_neg (by omega)]
theorem addR_step (a r : Nat → Int) (j : Nat) : Qu.upd (addR a r j) j (wrap64 (a j + r j)) = addR a r (j + 1) := by
  funext k
  unfold Qu.upd addR
  by_cases h : k = j
  · subst h
    rw [if_pos rfl, if_pos (by omega)]
  · rw [if_neg h]
    by_cases h2 : k < j
    · rw [if_pos h2, if_pos (by omega)]
    · rw [if_neg h2, if_neg (by omega)]
theorem addW_snoc (ps : List PodD) (ys : List Nat) (m : Nat) (x : PodD) (hx : ps[m]? = some x) (k : Nat) : addW ps (ys ++ [m]) k = wrap64 (addW ps ys k + x.req k) := by
  unfold addW
  rw [List.foldl_append]
  simp [hx]
theorem rowAt_nc {w w' : World} {b : Nat} {x : Nat → Int} {row : Option Nat} (h : Qu.RowAt w b x) (hg : w.grownBy w' row) (hr : ∀ r, row = some r → ∃ o : Obj, w.heap[r]? = some o ∧ o.isCells = false) : Qu.RowAt w' b x := blk_nc (cs := #[.int .i64 (x 0), .int .i64 (x 1), .int .i64 (x 2), .int .i64 (x 3), .int .i64 (x 4)]) (t := 33) h hg hr
theorem addW_nil (ps : List PodD) : addW ps [] = fun _ => 0 := rfl

set_option maxRecDepth 100000 in
set_option maxHeartbeats 2000000 in
theorem used_ok (A B C P : Option Addr) (ca cb cc cp : Nat) (ns : List NodeD) (ps : List PodD) (os : List OwnD) (p : List Int) (node : Int) (w : World) (h : SnapAt w A B C ca cb cc ns ps os) (hp : IntsAt w P cp p) (hok : placeE ns ps os p = 0 ∧ 0 ≤ node ∧ node < (ns.length : Int)) :
    Calls Tryz.prog 20 #[snapV A B C ca cb cc ns ps os, .slice P p.length cp, .int .i64 node] w fun e w' => e = .returned (rowV (addW ps (onU p node p.length))) ∧ Below w.heap.size w w' := by
  have hlp := Lib.hid h.lp
  have hpl := Lib.hid (placeE_len hok.1)
  have H := Lib.hid h
  have HP := Lib.hid hp
  have B0 : Hid (Below w.heap.size w (((w.alloc (.cells (snapC A B C ca cb cc ns ps os) 26)).alloc (.cells zer5 33)).alloc (.cells zer5 33))) := Lib.hid ((Qu.below2 w _ _).alloc (by simp; omega) _)
  have S0 : Hid (Blk (((w.alloc (.cells (snapC A B C ca cb cc ns ps os) 26)).alloc (.cells zer5 33)).alloc (.cells zer5 33)) w.heap.size (snapC A B C ca cb cc ns ps os) 26) := Lib.hid (Blk.alloc (Blk.alloc (Blk.new w _ _) _) _)
  have R0 : Hid (Blk (((w.alloc (.cells (snapC A B C ca cb cc ns ps os) 26)).alloc (.cells zer5 33)).alloc (.cells zer5 33)) (w.heap.size + 1) zer5 33) := Lib.hid (Blk.alloc (blk2 w _ _ _) _)
  have U0 : Hid (Blk (((w.alloc (.cells (snapC A B C ca cb cc ns ps os) 26)).alloc (.cells zer5 33)).alloc (.cells zer5 33)) (w.heap.size + 2) zer5 33) := Lib.hid (blk3 w _ _ _ _)
  have KC := Lib.hid ((callsIn_wide (n := 7)).2 (pcheck_any A B C P ca cb cc cp ns ps os p _ (h.below B0.out) (hp.below B0.out)))
  have hl0 := Blk.lt U0.out
  have KP : Hid (∀ w', CallsIn Fence.wide 7 Tryz.prog 70 #[.int .i64 node, .int .i64 (ns.length : Int)] w' fun e w'' => e = .returned (.bool true) ∧ w'' = w') := Lib.hid (fun w' => (callsIn_wide (n := 7)).2 (by
    have := isPlace_any node ns.length w'
    rwa [decide_eq_true hok.2] at this))
  rw [hok.1] at KC
  clear h hp hok
  refine (callsIn_wide (n := 8)).1 ?_
  refine callsIn_of_wp_marks Tryz.func20 rfl trivial ?_ rfl
  simp only [Tryz.ntmps20, List.size_toArray, List.length_cons, List.length_nil, Nat.reduceAdd, Nat.reduceSub, Array.replicate_succ, Array.replicate_zero, List.push_toArray, List.append_toArray, List.nil_append, List.cons_append]
  gi_wp2_with fail
  refine ⟨trivial, ?_⟩
  refine (KC.out).mono ?_
  rintro e w1 ⟨rfl, hb⟩
  clear KC
  have S1 := Lib.hid (S0.out.below hb (by omega))
  have R1 := Lib.hid (R0.out.below hb (by omega))
  have U1 := Lib.hid (U0.out.below hb (by omega))
  have B1 := Lib.hid (B0.out.trans (hb.mono (by omega)))
  clear hb S0 R0 U0 B0 hl0
  have s0 : w1.cell? ⟨w.heap.size, 0, none⟩ = some (.slice A ns.length ca) := Blk.cell S1.out 0
  gi_wp2_with fail
  refine ⟨trivial, ?_⟩
  refine (KP.out _).mono ?_
  rintro e w2 ⟨rfl, rfl⟩
  gi_wp2_with fail
  refine ⟨trivial, ?_⟩
  refine (on_any _ P p.length cp node _).mono ?_
  rintro e w3 ⟨rfl, rfl⟩
  have S2 := Lib.hid (Blk.alloc (Blk.alloc S1.out (.cells #[.slice P p.length cp] 27)) (.cells #[.int .i64 node] 3))
  have R2 := Lib.hid (Blk.alloc (Blk.alloc R1.out (.cells #[.slice P p.length cp] 27)) (.cells #[.int .i64 node] 3))
  have U2 := Lib.hid (Blk.alloc (Blk.alloc U1.out (.cells #[.slice P p.length cp] 27)) (.cells #[.int .i64 node] 3))
  have P2 := Lib.hid (Blk.alloc (Blk.new w2 #[.slice P p.length cp] 27) (.cells #[.int .i64 node] 3))
  have N2 := Lib.hid (blk2 w2 (.cells #[.slice P p.length cp] 27) #[.int .i64 node] 3)
  have B2 := Lib.hid ((B1.out.alloc B1.out.size (.cells #[.slice P p.length cp] 27)).alloc (by have := B1.out.size; simp; omega) (.cells #[.int .i64 node] 3))
  have hlu := Blk.lt U1.out
  generalize ((w2.alloc (.cells #[.slice P p.length cp] 27)).alloc (.cells #[.int .i64 node] 3)) = W0 at S2 R2 U2 P2 N2 B2 ⊢
  gi_wp2_with fail
  obtain ⟨Ub, hUb⟩ : ∃ Ub, w.heap.size + 1 + 1 = Ub := ⟨_, rfl⟩
  obtain ⟨Rb, hRb⟩ : ∃ Rb, w.heap.size + 1 = Rb := ⟨_, rfl⟩
  rw [show w.heap.size + 2 = Ub from hUb] at U2 hlu
  rw [hUb, hRb]
  rw [hRb] at R2
  have hU : Hid (w.heap.size < Rb ∧ Rb < Ub ∧ Ub < w2.heap.size) := Lib.hid ⟨by omega, by omega, hlu⟩
  have hW0 : Hid (w2.heap.size + 1 < W0.heap.size) := Lib.hid (Blk.lt N2.out)
  clear hUb hRb hlu s0 KP
  refine wpIn_rangeFunc_ownG (α := AtNo p node) rfl (by omega) (gf := 108) (lb := #[.pointer (some ⟨w2.heap.size, 0, none⟩), .pointer (some ⟨w2.heap.size + 1, 0, none⟩)]) rfl trivial (enters_of Tryz.func108 (by kernel_rfl) rfl)
    (on_stops (8 - 1) (by omega) w2.heap.size (w2.heap.size + 1) w.heap.size cp [Ub] P p node (by rw [hpl.out]; exact hlp.out) W0 (by have := hU.out; have := hW0.out; omega) (by have := hU.out; simp; omega) P2.out N2.out ?hp)
    keepU_t (keepU_b (by have := hU.out; have := hW0.out; omega)) (Below.refl _ _) (fun _ => rfl)
    (fun pre W => (Blk W w.heap.size (snapC A B C ca cb cc ns ps os) 26 ∧ Blk W Rb zer5 33 ∧ Qu.RowAt W Ub (addW ps (pre.map (·.1)))) ∧ Below w.heap.size w W)
    (fun _ _ _ => False)
    (OwnFrom.and (fun s X Y row hs hg hr => ⟨blk_nc hs.1 hg (fun r e => (hr r e).2), blk_nc hs.2.1 hg (fun r e => (hr r e).2), rowAt_nc hs.2.2 hg (fun r e => (hr r e).2)⟩) (ownFrom_below (Nat.le_refl _) (by have := hU.out; have := hW0.out; omega)))
    (fun _ _ _ _ _ hs _ _ => hs)
    ⟨⟨S2.out, R2.out, U2.out⟩, B2.out⟩
    (fun x => { tmps := #[snapV A B C ca cb cc ns ps os, Value.slice P p.length cp, Value.int IntKind.i64 node,
          Value.pointer (some { block := w.heap.size, off := 0 }), undef, undef,
          Value.pointer (some { block := Rb, off := 0 }),
          Value.pointer (some { block := Ub, off := 0 }), .int .i64 (x.1 : Int), undef, undef,
          Value.agg #[Value.slice A ns.length ca, Value.slice B ps.length cb, Value.slice C os.length cc],
          Value.slice P p.length cp, Value.int IntKind.i64 0, Value.bool false, Value.bool false,
          Value.int IntKind.i64 node, Value.pointer (some { block := w.heap.size, off := 0 }),
          Value.slice A ns.length ca, Value.int IntKind.i64 ns.length, Value.bool true, Value.bool false,
          Value.bool false, undef, Value.slice P p.length cp, Value.int IntKind.i64 node,
          Value.func (Fn.func 108) #[]
            #[Value.pointer (some { block := w2.heap.size, off := 0 }),
              Value.pointer (some { block := w2.heap.size + 1, off := 0 })],
          .int .i64 (x.1 : Int), undef, undef, undef, undef, undef, undef, undef, undef, undef, undef, undef, undef, undef, undef,
          undef, undef, undef, undef], defers := [] }) ?assign ?body ?done ?stop
  case hp =>
    intro k x hx
    obtain ⟨b, o, hA, hb, _⟩ := atI HP.out.cells hx
    obtain ⟨b', o', hA', _, hc⟩ := atI (HP.out.below B2.out).cells hx
    rw [hA] at hA'
    cases hA'
    exact ⟨b, o, hA, hb, hc⟩
  case assign =>
    intro l x W K hK
    gi_wp2
    exact hK
  case body =>
    rintro l pre ⟨m, hm⟩ W ⟨⟨hS, hR, hUr⟩, hB⟩ hlen
    have hml : m < ps.length := by rw [← hpl.out]; exact (List.getElem?_eq_some_iff.1 hm).1
    obtain ⟨y, hy⟩ : ∃ y, ps[m]? = some y := ⟨ps[m], List.getElem?_eq_getElem hml⟩
    obtain ⟨b, o, hA, hbl, c0, c1, c2, c3, c4, c5, c6, c7, c8, c9, c10, c11, c12, c13, c14⟩ := atP (H.out.below hB).p.cells hy
    subst hA
    have z1 : W.cell? ⟨w.heap.size, 1, none⟩ = some (.slice (some ⟨b, o, none⟩) ps.length cb) := Blk.cell hS 1
    have m0 : (0 : Int) ≤ (m : Int) := by omega
    have m1 : (m : Int) < (ps.length : Int) := by omega
    have HY := Lib.hid hy
    have HS := Lib.hid hS
    have HR := Lib.hid hR
    have HUr := Lib.hid hUr
    have HB := Lib.hid hB
    obtain ⟨a, ha⟩ : ∃ a, addW ps (pre.map (·.1)) = a := ⟨_, rfl⟩
    have Ha := Lib.hid ha
    rw [ha] at HUr
    clear hy hS hR hUr hB c0 c1 c7 c8 c9 c10 c11 c12 c13 c14 ha
    gi_wp2_with fail
    gi_loopw [34] (fun i wr => ∃ j : Nat, j ≤ 5 ∧ i = .int .i64 j ∧ Qu.RowAt wr Ub (addR a y.req j) ∧ KeepsOthers W wr ∧ KeepU w.heap.size [Ub] W wr) (fun i _ => 5 - (intOf i).toNat)
    case atStart => exact ⟨0, by omega, rfl, by rw [addR_zero]; exact HUr.out, KeepsOthers.refl _, KeepU.refl _ _ _⟩
    case round =>
      obtain ⟨j, hj, rfl, hr, hko, hku⟩ := hrel
      have HRr := Lib.hid hr
      have HKO := Lib.hid hko
      have HKU := Lib.hid hku
      clear hr hko hku
      by_cases hlt : j < 5
      · have hi := fun w => Qu.idx_row y.req j hlt w
        have hc : wr.cell? ⟨Ub, j, none⟩ = some (.int .i64 (a j)) := by
          have := HRr.out.cell hlt
          rwa [addR_at] at this
        have hf : wr.frozen? ⟨Ub, j, none⟩ = false := HRr.out.free j
        have hd5 : (j : Int) < 5 := by omega
        have hj0 : (0 : Int) ≤ (j : Int) := by omega
        gi_wp2
        go_roundw
        case rel =>
          refine ⟨j + 1, by omega, by go_num, ?_, HKO.out.trans (KeepsOthers.setCell _ _ _), HKU.out.trans (KeepU.set _ (by simp) (by have := hU.out; omega) _ _)⟩
          rw [← addR_step]
          exact HRr.out.set hlt _
        case measure => simp [intOf]; omega
      · obtain rfl : j = 5 := by omega
        gi_wp2
        refine ⟨HKO.out.from _, HKU.out, ⟨?_, ?_, ?_⟩, HB.out.trans HKU.out.1⟩
        · exact HKU.out.2 _ _ _ (by have := hU.out; simp; omega) HS.out
        · exact HKU.out.2 _ _ _ (by have := hU.out; simp; omega) HR.out
        · refine RowAt_congr HRr.out (fun k hk => ?_)
          rw [List.map_append]
          show addR a y.req 5 k = addW ps (pre.map (·.1) ++ [m]) k
          rw [addW_snoc ps _ m y HY.out, Ha.out]
          unfold addR
          rw [if_pos hk]
  case done =>
    rintro D ys W hD hys ⟨⟨hS, hR, hUr⟩, hB⟩ hK
    rw [hys] at hUr
    have u0 := hUr.cell (k := 0) (by omega)
    have u1 := hUr.cell (k := 1) (by omega)
    have u2 := hUr.cell (k := 2) (by omega)
    have u3 := hUr.cell (k := 3) (by omega)
    have u4 := hUr.cell (k := 4) (by omega)
    have hRc : ∀ k, k < 5 → W.cell? ⟨Rb, k, none⟩ = some (.int .i64 0) := fun k hk => by
      rw [Blk.cell hR k]
      match k, hk with
      | 0, _ => rfl
      | 1, _ => rfl
      | 2, _ => rfl
      | 3, _ => rfl
      | 4, _ => rfl
    have r0 := hRc 0 (by omega)
    have r1 := hRc 1 (by omega)
    have r2 := hRc 2 (by omega)
    have r3 := hRc 3 (by omega)
    have r4 := hRc 4 (by omega)
    have f0 := Blk.free hR 0
    have f1 := Blk.free hR 1
    have f2 := Blk.free hR 2
    have f3 := Blk.free hR 3
    have f4 := Blk.free hR 4
    have HR := Lib.hid hR
    have HB := Lib.hid hB
    have HK := Lib.hid hK
    have HD := Lib.hid hD
    clear hRc hR hB hK hD hS hUr hys
    gi_wp2
    have HZ : Hid (Qu.RowAt W Rb (fun _ => 0)) := HR
    generalize hv : addW ps (onU p node p.length) = v
    have HO : Hid (KeepsOthers W (((((W.setCell ⟨Rb, 0, none⟩ (.int .i64 (v 0))).setCell ⟨Rb, 1, none⟩ (.int .i64 (v 1))).setCell ⟨Rb, 2, none⟩ (.int .i64 (v 2))).setCell ⟨Rb, 3, none⟩ (.int .i64 (v 3))).setCell ⟨Rb, 4, none⟩ (.int .i64 (v 4)))) := Lib.hid (((((KeepsOthers.setCell _ _ _).trans (KeepsOthers.setCell _ _ _)).trans (KeepsOthers.setCell _ _ _)).trans (KeepsOthers.setCell _ _ _)).trans (KeepsOthers.setCell _ _ _))
    have HV : Hid (Qu.RowAt (((((W.setCell ⟨Rb, 0, none⟩ (.int .i64 (v 0))).setCell ⟨Rb, 1, none⟩ (.int .i64 (v 1))).setCell ⟨Rb, 2, none⟩ (.int .i64 (v 2))).setCell ⟨Rb, 3, none⟩ (.int .i64 (v 3))).setCell ⟨Rb, 4, none⟩ (.int .i64 (v 4))) Rb v) := Lib.hid (by
      refine RowAt_congr (((((HZ.out.set (k := 0) (by omega) (v 0)).set (k := 1) (by omega) (v 1)).set (k := 2) (by omega) (v 2)).set (k := 3) (by omega) (v 3)).set (k := 4) (by omega) (v 4)) (fun k hk => ?_)
      match k, hk with
      | 0, _ => rfl
      | 1, _ => rfl
      | 2, _ => rfl
      | 3, _ => rfl
      | 4, _ => rfl)
    have HB5 : Hid (Below w.heap.size w (((((W.setCell ⟨Rb, 0, none⟩ (.int .i64 (v 0))).setCell ⟨Rb, 1, none⟩ (.int .i64 (v 1))).setCell ⟨Rb, 2, none⟩ (.int .i64 (v 2))).setCell ⟨Rb, 3, none⟩ (.int .i64 (v 3))).setCell ⟨Rb, 4, none⟩ (.int .i64 (v 4)))) := Lib.hid (by
      have hr := hU.out.1
      exact ((((HB.out.setCell (p := ⟨Rb, 0, none⟩) (Nat.le_of_lt hr) _).setCell (p := ⟨Rb, 1, none⟩) (Nat.le_of_lt hr) _).setCell (p := ⟨Rb, 2, none⟩) (Nat.le_of_lt hr) _).setCell (p := ⟨Rb, 3, none⟩) (Nat.le_of_lt hr) _).setCell (p := ⟨Rb, 4, none⟩) (Nat.le_of_lt hr) _)
    generalize (((((W.setCell ⟨Rb, 0, none⟩ (.int .i64 (v 0))).setCell ⟨Rb, 1, none⟩ (.int .i64 (v 1))).setCell ⟨Rb, 2, none⟩ (.int .i64 (v 2))).setCell ⟨Rb, 3, none⟩ (.int .i64 (v 3))).setCell ⟨Rb, 4, none⟩ (.int .i64 (v 4))) = W5 at HO HV HB5 ⊢
    have hK5 := HO.out.same D _ HK.out rfl
    refine ⟨by simp, .inl ⟨_, _, rfl, run_takeDeferred hK5, ?_⟩⟩
    refine ⟨rowV v, results_row1 Tryz.results20 _ _ Rb _ _ _ _ rfl (rowAt_nc HV.out (grownBy_putObj' _ D (.deferred none)) (fun r e => by cases e; exact ⟨_, hK5, rfl⟩)) Tryz.underlying33 rfl Qu.vec_size, rfl, ?_⟩
    exact HB5.out.trans (belowK_b (w := w) (Nat.le_refl _) W5 D _ _ (by have := HD.out; have := hU.out; have := hW0.out; omega) hK5 rfl rfl)
  case stop =>
    rintro D c pre W _ _ h _
    exact h.elim

theorem used_any (A B C P : Option Addr) (ca cb cc cp : Nat) (ns : List NodeD) (ps : List PodD) (os : List OwnD) (p : List Int) (node : Int) (w : World) (h : SnapAt w A B C ca cb cc ns ps os) (hp : IntsAt w P cp p) :
    Calls Tryz.prog 20 #[snapV A B C ca cb cc ns ps os, .slice P p.length cp, .int .i64 node] w fun e w' => e = .returned (rowV (usedF ns ps os p node)) ∧ Below w.heap.size w w' := by
  by_cases hok : placeE ns ps os p = 0 ∧ 0 ≤ node ∧ node < (ns.length : Int)
  · have hE : usedF ns ps os p node = addW ps (onU p node p.length) := by
      funext k
      unfold usedF
      rw [if_pos hok]
    rw [hE]
    exact used_ok A B C P ca cb cc cp ns ps os p node w h hp hok
  · have hE : usedF ns ps os p node = fun _ => 0 := by
      funext k
      unfold usedF
      rw [if_neg hok]
    rw [hE]
    exact used_no A B C P ca cb cc cp ns ps os p node w h hp hok
end Go.Proofs.YtoankplhahbgkaaGreat

namespace Go.Proofs.YtoankplhahbgkaaGreat
open Go.RowKit Go.Shelf
attribute [local go_sem] Oper.semAt_some

/-- The pods of an owner that do not wait. -/
def ofF (ps : List PodD) (os : List OwnD) (p : List Int) (k : Int) : List Nat := match os[k.toNat]? with
  | some x => offL p (membersF ps x.name)
  | none => []
/-- What Placed tells. -/
def placedF (ns : List NodeD) (ps : List PodD) (os : List OwnD) (p : List Int) (k : Int) : Int := if ownerB ns ps os p k then ((ofF ps os p k).length : Int) else 0
theorem ownerB_parts {ns : List NodeD} {ps : List PodD} {os : List OwnD} {p : List Int} {k : Int} (h : ownerB ns ps os p k = true) : placeE ns ps os p = 0 ∧ ∃ (n : Nat) (x : OwnD), k = (n : Int) ∧ os[n]? = some x := by
  unfold ownerB at h
  simp only [Bool.and_eq_true, decide_eq_true_eq] at h
  obtain ⟨h1, h2, h3⟩ := h
  have hn : k.toNat < os.length := by omega
  exact ⟨h1, k.toNat, os[k.toNat], by omega, List.getElem?_eq_getElem hn⟩
set_option maxRecDepth 100000 in
set_option maxHeartbeats 2000000 in
theorem placed_any (A B C P : Option Addr) (ca cb cc cp : Nat) (ns : List NodeD) (ps : List PodD) (os : List OwnD) (p : List Int) (ko : Int) (w : World) (h : SnapAt w A B C ca cb cc ns ps os) (hp : IntsAt w P cp p) :
    Calls Tryz.prog 27 #[snapV A B C ca cb cc ns ps os, .slice P p.length cp, .int .i64 ko] w fun e w' => e = .returned (.int .i64 (placedF ns ps os p ko)) ∧ Below w.heap.size w w' := by
  have hlp := Lib.hid h.lp
  have H := Lib.hid h
  have HP := Lib.hid hp
  have B0 : Hid (Below w.heap.size w (w.alloc (.cells (snapC A B C ca cb cc ns ps os) 26))) := Lib.hid (below1 w _)
  have S0 : Hid (Blk (w.alloc (.cells (snapC A B C ca cb cc ns ps os) 26)) w.heap.size (snapC A B C ca cb cc ns ps os) 26) := Lib.hid (Blk.new w _ _)
  have KC := Lib.hid ((callsIn_wide (n := 7)).2 (isOwner_any A B C P ca cb cc cp ns ps os p ko _ (h.below B0.out) (hp.below B0.out)))
  have hl0 := Blk.lt S0.out
  have E : Hid (placedF ns ps os p ko = if ownerB ns ps os p ko then ((ofF ps os p ko).length : Int) else 0) := Lib.hid rfl
  have HOB := Lib.hid (fun h => @ownerB_parts ns ps os p ko h)
  generalize placedF ns ps os p ko = R at E ⊢
  generalize ownerB ns ps os p ko = ob at KC E HOB
  clear h hp
  refine (callsIn_wide (n := 8)).1 ?_
  refine callsIn_of_wp_marks Tryz.func27 rfl trivial ?_ rfl
  simp only [Tryz.ntmps27, List.size_toArray, List.length_cons, List.length_nil, Nat.reduceAdd, Nat.reduceSub, Array.replicate_succ, Array.replicate_zero, List.push_toArray, List.append_toArray, List.nil_append, List.cons_append]
  gi_wp2_with fail
  refine ⟨trivial, ?_⟩
  refine (KC.out).mono ?_
  rintro e w1 ⟨rfl, hb⟩
  clear KC
  have S1 := Lib.hid (S0.out.below hb (by omega))
  have B1 := Lib.hid (B0.out.trans (hb.mono (by omega)))
  clear hb S0 B0 hl0
  have s0 : w1.cell? ⟨w.heap.size, 0, none⟩ = some (.slice A ns.length ca) := Blk.cell S1.out 0
  have s1 : w1.cell? ⟨w.heap.size, 1, none⟩ = some (.slice B ps.length cb) := Blk.cell S1.out 1
  have s2 : w1.cell? ⟨w.heap.size, 2, none⟩ = some (.slice C os.length cc) := Blk.cell S1.out 2
  cases ob
  · have HE : Hid (R = 0) := Lib.hid (by rw [E.out]; rfl)
    gi_wp2
    refine ⟨_, results_tmp rfl _ _ _, ?_, B1.out⟩
    exact La.retI HE.out.symm
  obtain ⟨hE0, n, xo, rfl, hxo⟩ := HOB.out rfl
  have hpl := Lib.hid (placeE_len hE0)
  have HX := Lib.hid hxo
  clear HOB hE0 hxo
  have HE : Hid (R = ((offL p (membersF ps xo.name)).length : Int)) := Lib.hid (by rw [E.out, if_pos rfl]; unfold ofF; rw [Int.toNat_natCast, HX.out])
  clear E s0 s1 s2
  have Z1 := Lib.hid (Blk.alloc S1.out (.cells #[.int .i64 0] 3))
  have B3 := Lib.hid (B1.out.alloc B1.out.size (.cells #[.int .i64 0] 3))
  have t0 : (w1.alloc (.cells #[.int .i64 0] 3)).cell? ⟨w.heap.size, 0, none⟩ = some (.slice A ns.length ca) := Blk.cell Z1.out 0
  have t1 : (w1.alloc (.cells #[.int .i64 0] 3)).cell? ⟨w.heap.size, 1, none⟩ = some (.slice B ps.length cb) := Blk.cell Z1.out 1
  have t2 : (w1.alloc (.cells #[.int .i64 0] 3)).cell? ⟨w.heap.size, 2, none⟩ = some (.slice C os.length cc) := Blk.cell Z1.out 2
  gi_wp2_with fail
  refine ⟨trivial, ?_⟩
  refine (of_any _ A B C P ca cb cc cp ns ps os p.length (n : Int) _).mono ?_
  rintro e w3 ⟨rfl, rfl⟩
  gi_wp2_with fail
  have Q0 : Hid (Blk (ofWorld (w1.alloc (.cells #[.int .i64 0] 3)) A B C P ca cb cc cp ns ps os p.length (n : Int)) w1.heap.size #[.int .i64 0] 3) := Lib.hid (Blk.alloc (Blk.alloc (Blk.alloc (Blk.new w1 _ _) _) _) _)
  have hw1 : Hid (w.heap.size ≤ w1.heap.size) := Lib.hid B1.out.size
  have BW : Hid (Below w.heap.size w (ofWorld (w1.alloc (.cells #[.int .i64 0] 3)) A B C P ca cb cc cp ns ps os p.length (n : Int))) := Lib.hid (((B3.out.alloc B3.out.size _).alloc (by have := hw1.out; simp; omega) _).alloc (by have := hw1.out; simp; omega) _)
  have KS := Lib.hid (of_at (8 - 1) (by omega) ca cb cc cp [w1.heap.size] A B C P ns ps os p n xo HX.out hpl.out w _ B3.out H.out HP.out (by simp))
  rw [show (w1.alloc (.cells #[.int .i64 0] 3)).heap.size = w1.heap.size + 1 from World.size_alloc _ _] at KS
  clear t0 t1 t2
  change Code.wpIn _ _ _ _ _ _ (ofWorld (w1.alloc (.cells #[.int .i64 0] 3)) A B C P ca cb cc cp ns ps os p.length (n : Int))
  have hW0 : Hid (w1.heap.size < (ofWorld (w1.alloc (.cells #[.int .i64 0] 3)) A B C P ca cb cc cp ns ps os p.length (n : Int)).heap.size) := Lib.hid Q0.out.lt
  generalize ofWorld (w1.alloc (.cells #[.int .i64 0] 3)) A B C P ca cb cc cp ns ps os p.length (n : Int) = W0 at Q0 BW KS hW0 ⊢
  refine wpIn_rangeFunc_ownG (α := OffNo p) rfl (by omega) (gf := 109) rfl trivial (enters_of Tryz.func109 (by kernel_rfl) rfl)
    KS.out keepU_t (keepU_b (by have := hw1.out; have := hW0.out; omega)) (Below.refl _ _) (fun _ => rfl)
    (fun pre W => Blk W w1.heap.size #[.int .i64 (pre.length : Int)] 3 ∧ Below w.heap.size w W)
    (fun _ _ _ => False)
    (OwnFrom.and (fun s X Y row hs hg hr => blk_nc hs hg (fun r e => (hr r e).2)) (ownFrom_below (Nat.le_refl _) (by have := hw1.out; have := hW0.out; omega)))
    (fun _ _ _ _ _ hs _ _ => hs)
    ⟨Q0.out, BW.out⟩
    (fun x => { tmps := #[snapV A B C ca cb cc ns ps os, Value.slice P p.length cp, Value.int IntKind.i64 n,
          Value.pointer (some { block := w.heap.size, off := 0 }), undef, undef, Value.int IntKind.i64 0,
          Value.pointer (some { block := w1.heap.size, off := 0 }),
          Value.agg #[Value.slice A ns.length ca, Value.slice B ps.length cb, Value.slice C os.length cc],
          Value.slice P p.length cp, Value.int IntKind.i64 n, Value.bool true, Value.bool false,
          Value.agg #[Value.slice A ns.length ca, Value.slice B ps.length cb, Value.slice C os.length cc],
          Value.slice P p.length cp, Value.int IntKind.i64 n,
          Value.func (Fn.func 109) #[]
            #[Value.pointer (some { block := w1.heap.size + 1, off := 0 }),
              Value.pointer (some { block := w1.heap.size + 1 + 1 + 1, off := 0 }),
              Value.pointer (some { block := w1.heap.size + 1 + 1, off := 0 })],
          .int .i64 (x.1 : Int), undef, undef, undef], defers := [] }) ?assign ?body ?done ?stop
  case assign =>
    intro l x W K hK
    gi_wp2
    simp
    exact hK
  case body =>
    rintro l pre ⟨m, hm⟩ W ⟨hQ, hB⟩ hlen
    have q0 : W.cell? ⟨w1.heap.size, 0, none⟩ = some (.int .i64 (pre.length : Int)) := Blk.cell hQ 0
    have q1 : W.frozen? ⟨w1.heap.size, 0, none⟩ = false := Blk.free hQ 0
    have hl : pre.length + 1 ≤ 9223372036854775807 := by
      have := hlp.out
      have := hpl.out
      omega
    have hwr : wrap64 ((pre.length : Int) + 1) = (pre.length : Int) + 1 := IntWalk.wrap64_in _ (by omega)
    have HQ := Lib.hid hQ
    have HB := Lib.hid hB
    have hlen2 := Lib.hid hlen
    clear hQ hB hlen hl
    gi_wp2
    refine ⟨(KeepsOthers.setCell _ _ _).from _, KeepU.set W (by simp) hw1.out 0 _, ?_, HB.out.setCell (p := ⟨w1.heap.size, 0, none⟩) hw1.out _⟩
    have := HQ.out.set 0 (.int .i64 ((pre.length : Int) + 1))
    rw [List.length_append]
    exact this
  case done =>
    rintro D ys W hD hys ⟨hQ, hB⟩ hK
    have q0 : W.cell? ⟨w1.heap.size, 0, none⟩ = some (.int .i64 (ys.length : Int)) := Blk.cell hQ 0
    have HB := Lib.hid hB
    have HK := Lib.hid hK
    have HD := Lib.hid hD
    have HY := Lib.hid hys
    clear hQ hB hK hD hys
    gi_wp2
    refine ⟨by simp, .inl ⟨_, _, rfl, run_takeDeferred HK.out, ?_⟩⟩
    refine ⟨_, results_tmp rfl _ _ _, ?_, HB.out.trans (belowK_b (w := w) (Nat.le_refl _) W D _ _ (by have := HD.out; have := hw1.out; have := hW0.out; omega) HK.out rfl rfl)⟩
    refine La.retI ?_
    rw [HE.out, ← HY.out, List.length_map]
  case stop =>
    rintro D c pre W _ _ h _
    exact h.elim
end Go.Proofs.YtoankplhahbgkaaGreat

namespace Go.Proofs.YtoankplhahbgkaaGreat
open Go.RowKit Go.Shelf
attribute [local go_sem] Oper.semAt_some

/-- How many of some pods are on each node. -/
def cntL (n : Nat) (p : List Int) (ys : List Nat) : List Int := ys.foldl (fun l y => match p[y]? with | some x => l.set x.toNat (l.getD x.toNat 0 + 1) | none => l) (List.replicate n 0)
theorem cntL_snoc (n : Nat) (p : List Int) (ys : List Nat) (m : Nat) (x : Int) (hx : p[m]? = some x) : cntL n p (ys ++ [m]) = (cntL n p ys).set x.toNat ((cntL n p ys).getD x.toNat 0 + 1) := by
  unfold cntL
  rw [List.foldl_append]
  simp [hx]
theorem cntL_len (n : Nat) (p : List Int) (ys : List Nat) : (cntL n p ys).length = n := by
  unfold cntL
  suffices h : ∀ (ys : List Nat) (l : List Int), (ys.foldl (fun l y => match p[y]? with | some x => l.set x.toNat (l.getD x.toNat 0 + 1) | none => l) l).length = l.length by
    rw [h]; simp
  intro ys
  induction ys with
  | nil => intro l; rfl
  | cons y t ih =>
    intro l
    rw [List.foldl_cons, ih]
    cases p[y]? <;> simp
theorem cntL_le (n : Nat) (p : List Int) (ys : List Nat) : ∀ j, 0 ≤ (cntL n p ys).getD j 0 ∧ (cntL n p ys).getD j 0 ≤ ys.length := by
  unfold cntL
  suffices h : ∀ (ys : List Nat) (l : List Int) (c : Nat), (∀ j, 0 ≤ l.getD j 0 ∧ l.getD j 0 ≤ c) → ∀ j, 0 ≤ (ys.foldl (fun l y => match p[y]? with | some x => l.set x.toNat (l.getD x.toNat 0 + 1) | none => l) l).getD j 0 ∧ (ys.foldl (fun l y => match p[y]? with | some x => l.set x.toNat (l.getD x.toNat 0 + 1) | none => l) l).getD j 0 ≤ (c + ys.length : Nat) by
    intro j
    have := h ys (List.replicate n 0) 0 (fun j => by
      rw [List.getD_eq_getElem?_getD, List.getElem?_replicate]
      split <;> simp) j
    simpa using this
  intro ys
  induction ys with
  | nil => intro l c hl j; simpa using hl j
  | cons y t ih =>
    intro l c hl j
    rw [List.foldl_cons]
    have := ih (match p[y]? with | some x => l.set x.toNat (l.getD x.toNat 0 + 1) | none => l) (c + 1) (fun j => by
      cases hy : p[y]? with
      | none =>
        have := hl j
        dsimp only
        omega
      | some x =>
        dsimp only
        have h1 := hl j
        have h2 := hl x.toNat
        rw [List.getD_eq_getElem?_getD (l := l.set _ _), List.getElem?_set]
        by_cases hj : x.toNat = j
        · rw [if_pos hj]
          split
          · simp only [Option.getD_some]
            omega
          · simp
            omega
        · rw [if_neg hj, ← List.getD_eq_getElem?_getD]
          omega) j
    rw [List.length_cons]
    have e : c + 1 + t.length = c + (t.length + 1) := by omega
    rw [e] at this
    exact this
/-- What Counts tells. -/
def countsF (ns : List NodeD) (ps : List PodD) (os : List OwnD) (p : List Int) (k : Int) : List Int := if ownerB ns ps os p k then cntL ns.length p (ofF ps os p k) else []

theorem int_infoK : (Tryz.prog.info? 3).map (fun i => (i.zero, i.size, i.bytes)) = some (some (.int .i64 0), 1, 8) := by kernel_rfl
theorem run_ints (w : World) (n : Nat) (hn : n ≤ 1000000) : (Instr.makeSlice 27 (.int .i64 (n : Int)) (.int .i64 (n : Int))).run Tryz.prog w = .ok (.slice (some ⟨w.heap.size, 0, none⟩) n n) (w.alloc (.cells (madeCells #[.int .i64 0] n) 3)) := by
  cases hi : Tryz.prog.info? 3 with
  | none => have h := int_infoK; rw [hi] at h; cases h
  | some i =>
    have h := int_infoK
    rw [hi] at h
    simp only [Option.map_some, Option.some.injEq, Prod.mk.injEq] at h
    obtain ⟨h0, h1, h2⟩ := h
    have k := run_make (P := Tryz.prog) w 27 3 i (.int .i64 0) Tryz.underlying27 hi h0 .i64 .i64 n n (by omega) (by omega) (by rw [h2]; omega) (by omega)
    simpa [h1, Value.cells] using k
theorem own_made (w : World) (n base : Nat) (hn : n ≤ 1000000) (hb : base ≤ w.heap.size) : (w.alloc (.cells (madeCells #[.int .i64 0] n) 3)).ownsRow base 3 1 (.slice (some ⟨w.heap.size, 0, none⟩) n n) n (intsC (List.replicate n 0)) := by
  refine ⟨by simp [intsC], .inr ⟨w.heap.size, n, madeCells #[.int .i64 0] n, rfl, hb, heap_alloc_new _ _, Nat.le_refl _, by unfold maxLen; omega, by rw [size_madeCells, Nat.mul_one], ?_⟩⟩
  rw [toList_madeCells_one, Nat.mul_one, List.take_of_length_le (by simp)]
  simp [intsC]
theorem own_nc {w w' : World} {base : Nat} {e : TypeId} {size n : Nat} {v : Value} {xs : List Value} {row : Option Nat} (h : w.ownsRow base e size v n xs) (hg : w.grownBy w' row) (hr : ∀ r, row = some r → ∃ o : Obj, w.heap[r]? = some o ∧ o.isCells = false) : w'.ownsRow base e size v n xs := by
  refine h.kept hg ?_
  rcases h.2 with ⟨rfl, _⟩ | ⟨g, cap, cur, rfl, _, hgb, _⟩
  · exact .inl rfl
  · refine .inr fun e' => ?_
    obtain ⟨o, ho, hc⟩ := hr g e'.symm
    rw [hgb] at ho
    cases ho
    cases hc
/-- A pod of a placement that may be, that does not wait, is on a node that is not lost. -/
theorem placeE_on {ns : List NodeD} {ps : List PodD} {os : List OwnD} {p : List Int} (hE : placeE ns ps os p = 0) {k : Nat} {x : Int} (hk : p[k]? = some x) (hx : x ≠ -1) : tpB ns x = true := by
  have hl := placeE_len hE
  unfold placeE at hE
  split at hE
  · split at hE
    · rename_i hall
      rw [List.all_eq_true] at hall
      have := hall x (List.mem_of_getElem? hk)
      unfold okB at this
      rw [decide_eq_false hx, Bool.false_or] at this
      exact this
    · cases hE
  · rename_i hne
    exact absurd hE hne
theorem tpB_lt {ns : List NodeD} {x : Int} (h : tpB ns x = true) : ∃ n : Nat, x = (n : Int) ∧ n < ns.length := by
  unfold tpB at h
  simp only [Bool.and_eq_true, decide_eq_true_eq] at h
  refine ⟨x.toNat, by omega, ?_⟩
  cases hq : ns[x.toNat]? with
  | none => rw [hq] at h; simp at h
  | some y => exact (List.getElem?_eq_some_iff.1 hq).1

set_option maxRecDepth 100000 in
set_option maxHeartbeats 2000000 in
theorem counts_any (A B C P : Option Addr) (ca cb cc cp : Nat) (ns : List NodeD) (ps : List PodD) (os : List OwnD) (p : List Int) (ko : Int) (w : World) (h : SnapAt w A B C ca cb cc ns ps os) (hp : IntsAt w P cp p) :
    Calls Tryz.prog 23 #[snapV A B C ca cb cc ns ps os, .slice P p.length cp, .int .i64 ko] w fun e w' => ∃ v, e = .returned v ∧ w'.ownsRow w.heap.size 3 1 v (countsF ns ps os p ko).length (intsC (countsF ns ps os p ko)) ∧ Below w.heap.size w w' := by
  have hlp := Lib.hid h.lp
  have hln := h.ln
  have H := Lib.hid h
  have HP := Lib.hid hp
  have B0 : Hid (Below w.heap.size w ((w.alloc (.cells (snapC A B C ca cb cc ns ps os) 26)).alloc (.cells #[.slice P p.length cp] 27))) := Lib.hid (Qu.below2 w _ _)
  have S0 : Hid (Blk ((w.alloc (.cells (snapC A B C ca cb cc ns ps os) 26)).alloc (.cells #[.slice P p.length cp] 27)) w.heap.size (snapC A B C ca cb cc ns ps os) 26) := Lib.hid (Blk.alloc (Blk.new w _ _) _)
  have T0 : Hid (Blk ((w.alloc (.cells (snapC A B C ca cb cc ns ps os) 26)).alloc (.cells #[.slice P p.length cp] 27)) (w.heap.size + 1) #[.slice P p.length cp] 27) := Lib.hid (blk2 w _ _ _)
  have KC := Lib.hid ((callsIn_wide (n := 7)).2 (isOwner_any A B C P ca cb cc cp ns ps os p ko _ (h.below B0.out) (hp.below B0.out)))
  have hl0 := Blk.lt T0.out
  have E : Hid (countsF ns ps os p ko = if ownerB ns ps os p ko then cntL ns.length p (ofF ps os p ko) else []) := Lib.hid rfl
  have HOB := Lib.hid (fun h => @ownerB_parts ns ps os p ko h)
  generalize countsF ns ps os p ko = R at E ⊢
  generalize ownerB ns ps os p ko = ob at KC E HOB
  clear h hp
  refine (callsIn_wide (n := 8)).1 ?_
  refine callsIn_of_wp_marks Tryz.func23 rfl trivial ?_ rfl
  simp only [Tryz.ntmps23, List.size_toArray, List.length_cons, List.length_nil, Nat.reduceAdd, Nat.reduceSub, Array.replicate_succ, Array.replicate_zero, List.push_toArray, List.append_toArray, List.nil_append, List.cons_append]
  gi_wp2_with fail
  refine ⟨trivial, ?_⟩
  refine (KC.out).mono ?_
  rintro e w1 ⟨rfl, hb⟩
  clear KC
  have S1 := Lib.hid (S0.out.below hb (by omega))
  have T1 := Lib.hid (T0.out.below hb (by omega))
  have B1 := Lib.hid (B0.out.trans (hb.mono (by omega)))
  have hl1 : Hid (w.heap.size + 1 < w1.heap.size) := Lib.hid T1.out.lt
  clear hb S0 T0 B0 hl0
  cases ob
  · have HE : Hid (R = []) := Lib.hid (by rw [E.out]; rfl)
    gi_wp2
    refine ⟨_, results_tmp rfl _ _ _, ?_⟩
    rw [HE.out]
    exact ⟨_, rfl, World.ownsRow_nil _ _ _ _, B1.out⟩
  obtain ⟨hE0, n, xo, rfl, hxo⟩ := HOB.out rfl
  have hpl := Lib.hid (placeE_len hE0)
  have HON := Lib.hid (fun (k : Nat) (x : Int) (hk : p[k]? = some x) (hx : x ≠ -1) => tpB_lt (placeE_on hE0 hk hx))
  have HX := Lib.hid hxo
  clear HOB hE0 hxo
  have HE : Hid (R = cntL ns.length p (offL p (membersF ps xo.name))) := Lib.hid (by rw [E.out, if_pos rfl]; unfold ofF; rw [Int.toNat_natCast, HX.out])
  clear E
  have hmk := run_ints w1 ns.length (by omega)
  have s0 : w1.cell? ⟨w.heap.size, 0, none⟩ = some (.slice A ns.length ca) := Blk.cell S1.out 0
  -- the row, its box
  have O3 := Lib.hid ((own_made w1 ns.length w.heap.size (by omega) B1.out.size).alloc (.cells #[.slice (some ⟨w1.heap.size, 0, none⟩) ns.length ns.length] 27))
  have Q3 := Lib.hid (blk2 w1 (.cells (madeCells #[.int .i64 0] ns.length) 3) #[.slice (some ⟨w1.heap.size, 0, none⟩) ns.length ns.length] 27)
  have S3 := Lib.hid (Blk.alloc (Blk.alloc S1.out (.cells (madeCells #[.int .i64 0] ns.length) 3)) (.cells #[.slice (some ⟨w1.heap.size, 0, none⟩) ns.length ns.length] 27))
  have T3 := Lib.hid (Blk.alloc (Blk.alloc T1.out (.cells (madeCells #[.int .i64 0] ns.length) 3)) (.cells #[.slice (some ⟨w1.heap.size, 0, none⟩) ns.length ns.length] 27))
  have B3 := Lib.hid ((B1.out.alloc B1.out.size (.cells (madeCells #[.int .i64 0] ns.length) 3)).alloc (by have := B1.out.size; simp; omega) (.cells #[.slice (some ⟨w1.heap.size, 0, none⟩) ns.length ns.length] 27))
  have t0 := Blk.cell S3.out 0
  have t1 := Blk.cell S3.out 1
  have t2 := Blk.cell S3.out 2
  have u0 := Blk.cell T3.out 0
  gi_wp2_with fail
  refine ⟨trivial, ?_⟩
  refine (of_any _ A B C P ca cb cc cp ns ps os p.length (n : Int) _).mono ?_
  rintro e w3 ⟨rfl, rfl⟩
  gi_wp2_with fail
  have KS := Lib.hid (of_at (8 - 1) (by omega) ca cb cc cp [w1.heap.size] A B C P ns ps os p n xo HX.out hpl.out w _ B3.out H.out HP.out (by simp; omega))
  have hsz : ((w1.alloc (.cells (madeCells #[.int .i64 0] ns.length) 3)).alloc (.cells #[.slice (some ⟨w1.heap.size, 0, none⟩) ns.length ns.length] 27)).heap.size = w1.heap.size + 1 + 1 := by simp
  rw [hsz] at KS
  clear t0 t1 t2 u0 s0 hmk
  generalize ((w1.alloc (.cells (madeCells #[.int .i64 0] ns.length) 3)).alloc (.cells #[.slice (some ⟨w1.heap.size, 0, none⟩) ns.length ns.length] 27)) = W3 at O3 Q3 S3 T3 B3 KS hsz ⊢
  change Code.wpIn _ _ _ _ _ _ (ofWorld W3 A B C P ca cb cc cp ns ps os p.length (n : Int))
  have O4 : Hid ((ofWorld W3 A B C P ca cb cc cp ns ps os p.length (n : Int)).ownsRow w.heap.size 3 1 (.slice (some ⟨w1.heap.size, 0, none⟩) ns.length ns.length) ns.length (intsC (List.replicate ns.length 0))) := Lib.hid (((O3.out.alloc _).alloc _).alloc _)
  have Q4 : Hid (Blk (ofWorld W3 A B C P ca cb cc cp ns ps os p.length (n : Int)) (w1.heap.size + 1) #[.slice (some ⟨w1.heap.size, 0, none⟩) ns.length ns.length] 27) := Lib.hid (Blk.alloc (Blk.alloc (Blk.alloc Q3.out _) _) _)
  have T4 : Hid (Blk (ofWorld W3 A B C P ca cb cc cp ns ps os p.length (n : Int)) (w.heap.size + 1) #[.slice P p.length cp] 27) := Lib.hid (Blk.alloc (Blk.alloc (Blk.alloc T3.out _) _) _)
  have hsz4 : Hid ((ofWorld W3 A B C P ca cb cc cp ns ps os p.length (n : Int)).heap.size = w1.heap.size + 5) := Lib.hid (by simp [ofWorld, hsz])
  have BW : Hid (Below w.heap.size w (ofWorld W3 A B C P ca cb cc cp ns ps os p.length (n : Int))) := Lib.hid (((B3.out.alloc B3.out.size _).alloc (by have := B3.out.size; simp; omega) _).alloc (by have := B3.out.size; simp; omega) _)
  generalize ofWorld W3 A B C P ca cb cc cp ns ps os p.length (n : Int) = W0 at O4 Q4 T4 BW KS hsz4 ⊢
  obtain ⟨G, hG⟩ : ∃ G, w1.heap.size = G := ⟨_, rfl⟩
  obtain ⟨Tb, hT⟩ : ∃ Tb, w.heap.size + 1 = Tb := ⟨_, rfl⟩
  rw [hG] at O4 Q4 KS hsz4 hl1 ⊢
  rw [hT] at T4 hl1 ⊢
  obtain ⟨Q, hQ⟩ : ∃ Q, G + 1 = Q := ⟨_, rfl⟩
  rw [hQ] at Q4 KS ⊢
  have hN : Hid (w.heap.size < Tb ∧ Tb < G ∧ Q = G + 1) := Lib.hid ⟨by omega, hl1.out, hQ.symm⟩
  clear hG hT hQ S1 T1 B1 O3 Q3 S3 T3 B3 hsz hl1
  refine wpIn_rangeFunc_ownG (α := OffNo p) rfl (by omega) (gf := 109) rfl trivial (enters_of Tryz.func109 (by kernel_rfl) rfl)
    KS.out keepU_t (keepU_b (by have := hN.out; have := hsz4.out; omega)) (Below.refl _ _) (fun _ => rfl)
    (fun pre W => (W.ownsRow w.heap.size 3 1 (.slice (some ⟨G, 0, none⟩) ns.length ns.length) ns.length (intsC (cntL ns.length p (pre.map (·.1)))) ∧ Blk W Q #[.slice (some ⟨G, 0, none⟩) ns.length ns.length] 27 ∧ Blk W Tb #[.slice P p.length cp] 27) ∧ Below w.heap.size w W)
    (fun _ _ _ => False)
    (OwnFrom.and (fun s X Y row hs hg hr => ⟨own_nc hs.1 hg (fun r e => (hr r e).2), blk_nc hs.2.1 hg (fun r e => (hr r e).2), blk_nc hs.2.2 hg (fun r e => (hr r e).2)⟩) (ownFrom_below (Nat.le_refl _) (by have := hN.out; have := hsz4.out; omega)))
    (fun _ _ _ _ _ hs _ _ => hs)
    ⟨⟨O4.out, Q4.out, T4.out⟩, BW.out⟩
    (fun x => { tmps := #[snapV A B C ca cb cc ns ps os, Value.slice P p.length cp, Value.int IntKind.i64 n,
          Value.pointer (some { block := w.heap.size, off := 0 }),
          Value.pointer (some { block := Tb, off := 0 }), undef, Value.slice none 0 0,
          Value.pointer (some { block := Q, off := 0 }), .int .i64 (x.1 : Int),
          Value.agg #[Value.slice A ns.length ca, Value.slice B ps.length cb, Value.slice C os.length cc],
          Value.slice P p.length cp, Value.int IntKind.i64 n, Value.bool true, Value.bool false,
          Value.pointer (some { block := w.heap.size, off := 0 }), Value.slice A ns.length ca,
          Value.int IntKind.i64 ns.length, Value.slice (some { block := G, off := 0 }) ns.length ns.length,
          Value.agg #[Value.slice A ns.length ca, Value.slice B ps.length cb, Value.slice C os.length cc],
          Value.slice P p.length cp, Value.int IntKind.i64 n,
          Value.func (Fn.func 109) #[]
            #[Value.pointer (some { block := Q + 1, off := 0 }),
              Value.pointer (some { block := Q + 1 + 1 + 1, off := 0 }),
              Value.pointer (some { block := Q + 1 + 1, off := 0 })],
          .int .i64 (x.1 : Int), undef, undef, undef, undef, undef, undef, undef, undef, undef, undef], defers := [] }) ?assign ?body ?done ?stop
  case assign =>
    intro l x W K hK
    gi_wp2
    exact hK
  case body =>
    rintro l pre ⟨m, hm⟩ W ⟨⟨hO, hQb, hTb⟩, hB⟩ hlen
    obtain ⟨xv, hx, hne⟩ := id hm
    obtain ⟨q, rfl, hq⟩ := HON.out m xv hx hne
    obtain ⟨b, o, hA, hbl, hc⟩ := atI (HP.out.below hB).cells hx
    subst hA
    have hml : m < p.length := (List.getElem?_eq_some_iff.1 hx).1
    have hcl := cntL_len ns.length p (pre.map (·.1))
    obtain ⟨c, hcc⟩ : ∃ c, (cntL ns.length p (pre.map (·.1)))[q]? = some c := ⟨_, List.getElem?_eq_getElem (by omega)⟩
    obtain ⟨g', cur, hA', _, hgb, hgc⟩ := own_blk hO (k := q) (y := .int .i64 c) (by unfold intsC; rw [List.getElem?_map, hcc]; rfl)
    cases hA'
    have hle := cntL_le ns.length p (pre.map (·.1)) q
    rw [List.getD_eq_getElem?_getD, hcc] at hle
    simp only [Option.getD_some, List.length_map] at hle
    have q0 : W.cell? ⟨Q, 0, none⟩ = some (.slice (some ⟨G, 0, none⟩) ns.length ns.length) := Blk.cell hQb 0
    have p0 : W.cell? ⟨Tb, 0, none⟩ = some (.slice (some ⟨b, o, none⟩) p.length cp) := Blk.cell hTb 0
    have g0 : W.cell? ⟨G, q, none⟩ = some (.int .i64 c) := (Blk.cell hgb q).trans hgc
    have g1 : W.frozen? ⟨G, q, none⟩ = false := Blk.free hgb q
    have m0 : (0 : Int) ≤ (m : Int) := by omega
    have m1 : (m : Int) < (p.length : Int) := by omega
    have k0 : (0 : Int) ≤ (q : Int) := by omega
    have k1 : (q : Int) < (ns.length : Int) := by omega
    have hwr : wrap64 (c + 1) = c + 1 := IntWalk.wrap64_in _ (by
      have := hlp.out
      have := hpl.out
      omega)
    have hwi : IntKind.i64.wrap (c + 1) = c + 1 := (IntWalk.i64_left _).trans hwr
    have HQ := Lib.hid hQb
    have HT := Lib.hid hTb
    have HO := Lib.hid hO
    have HB := Lib.hid hB
    have HXX := Lib.hid hx
    have HCC := Lib.hid hcc
    clear hO hQb hTb hB hle hlen hx hcc hml hq hgb hgc hcl
    have hmx : Tryz.prog.follows .mixedOrders = true := by kernel_rfl
    gi_wp2
    gi_region_with_o fail
    all_goals gi_wp2
    all_goals
      refine ⟨((KeepsOthers.setCell _ _ _).trans (KeepsOthers.drew _)).from _, ?_, ⟨?_, ?_, ?_⟩, ?_⟩
      · exact (KeepU.set W (by simp) (by have := hN.out; omega) q _).trans ⟨(Below.refl _ _).drew, fun _ _ _ _ h => h⟩
      · have h1 := own_put HO.out q (.int .i64 (c + 1))
        rw [ints_set] at h1
        rw [List.map_append]
        show World.ownsRow _ _ _ _ _ _ (intsC (cntL ns.length p (pre.map (·.1) ++ [m])))
        rw [cntL_snoc _ _ _ _ _ HXX.out, Int.toNat_natCast, List.getD_eq_getElem?_getD, HCC.out]
        exact h1
      · exact Blk.oth HQ.out (by have := hN.out; omega) q _
      · exact Blk.oth HT.out (by have := hN.out; omega) q _
      · exact (HB.out.setCell (p := ⟨G, q, none⟩) (by have := hN.out; omega) _).drew
  case done =>
    rintro D ys W hD hys ⟨⟨hO, hQb, hTb⟩, hB⟩ hK
    have q0 : W.cell? ⟨Q, 0, none⟩ = some (.slice (some ⟨G, 0, none⟩) ns.length ns.length) := Blk.cell hQb 0
    have HO := Lib.hid hO
    have HB := Lib.hid hB
    have HK := Lib.hid hK
    have HD := Lib.hid hD
    have HY := Lib.hid hys
    clear hO hQb hTb hB hK hD hys
    gi_wp2
    refine ⟨by simp, .inl ⟨_, _, rfl, run_takeDeferred HK.out, ?_⟩⟩
    refine ⟨_, results_tmp rfl _ _ _, _, rfl, ?_, HB.out.trans (belowK_b (w := w) (Nat.le_refl _) W D _ _ (by have := HD.out; have := hN.out; have := hsz4.out; omega) HK.out rfl rfl)⟩
    rw [HE.out, cntL_len, ← HY.out]
    exact ownsRow_putObj HO.out _ HK.out rfl
  case stop =>
    rintro D c pre W _ _ h _
    exact h.elim
end Go.Proofs.YtoankplhahbgkaaGreat

namespace Go.Proofs.YtoankplhahbgkaaGreat
open Go.RowKit Go.Maps Go.Sort Go.Shelf

theorem sorts_in (m : Nat) : AnyZ.SortsIn Tryz.prog Tryz.sorted79_ren Fence.wide m :=
  ⟨fun blk off cap ss W hH hblk hsz => callsIn_wide.2 (AnyM.slices_Sort_string Tryz.sort113 blk off cap ss W hH hblk hsz),
   fun p cap W => callsIn_wide.2 (AnyM.slices_Sort_string_none Tryz.sort113 p cap W)⟩

theorem mapsKeys_in (mb : Option Nat) (W : World) : CallsIn Fence.wide 5 Tryz.prog 80 #[.map mb] W fun e w' => e = .returned (.func (.func 114) #[] #[.pointer (some ⟨W.heap.size, 0, none⟩)]) ∧ w' = W.alloc (.cells #[.map mb] 99) :=
  AnyZ.keys_in Tryz.keys80 Fence.wide 5 trivial rfl mb W

set_option maxHeartbeats 1000000 in
theorem sortedKeys_in {H : Type} (b nn : Nat) (D0 : DataW H) (R : Value → Option (DataW H × List MemPlace)) (w : World) (hown : w.ownsMap Tryz.prog 9 R b nn D0) (hmax : Maps.size D0 ≤ maxLen) (hbytes : Maps.size D0 * 16 ≤ 140737488355328) :
    CallsIn Fence.wide 5 Tryz.prog 79 #[.func (.func 114) #[] #[.pointer (some ⟨w.heap.size, 0, none⟩)]] (w.alloc (.cells #[.map (some b)] 99)) fun e w' => ∃ (v : Value) (ss : List (List UInt8)), e = .returned v ∧ ss.Perm (strKeys D0) ∧
      w'.ownsRow (w.alloc (.cells #[.map (some b)] 99)).heap.size 9 1 v ss.length ((ss.mergeSort (fun x y => decide (x ≤ y))).map encStr) ∧ (v = .slice none 0 0 ↔ ss = []) ∧ Below (w.alloc (.cells #[.map (some b)] 99)).heap.size (w.alloc (.cells #[.map (some b)] 99)) w' := by
  have hbl := hown.lt
  have hseq : SeqGives Fence.wide 2 Tryz.prog 114 #[.pointer (some ⟨w.heap.size, 0, none⟩)] encStr (fun ss => ss.Perm (strKeys D0)) (Maps.size D0) (w.alloc (.cells #[.map (some b)] 99)) :=
    AnyZ.keys_gives (ρ := Tryz.keys80_ren) { Tryz.keys80 with } Fence.wide _ trivial rfl (by omega) w.heap.size b nn D0 _ (by simp) (by simp) (by
      obtain ⟨es, clock, hb, Ft, hs, hD⟩ := hown
      exact ⟨es, clock, (Below.heap_alloc _ _ b hbl).trans hb, Ft, hs, hD⟩)
  exact AnyZ.sorted_in Tryz.sorted79 Fence.wide 5 trivial trivial trivial trivial rfl (by omega) (sorts_in _) (enters_of Tryz.func113 (by kernel_rfl) rfl) 114 #[.pointer (some ⟨w.heap.size, 0, none⟩)] trivial (enters_of Tryz.func114 (by kernel_rfl) rfl) _ _ hmax hbytes _ hseq

set_option maxHeartbeats 1000000 in
theorem sortedKeysNil_in (w : World) :
    CallsIn Fence.wide 5 Tryz.prog 79 #[.func (.func 114) #[] #[.pointer (some ⟨w.heap.size, 0, none⟩)]] (w.alloc (.cells #[.map none] 99)) fun e w' => ∃ (v : Value) (ss : List (List UInt8)), e = .returned v ∧ ss = [] ∧
      w'.ownsRow (w.alloc (.cells #[.map none] 99)).heap.size 9 1 v ss.length ((ss.mergeSort (fun x y => decide (x ≤ y))).map encStr) ∧ (v = .slice none 0 0 ↔ ss = []) ∧ Below (w.alloc (.cells #[.map none] 99)).heap.size (w.alloc (.cells #[.map none] 99)) w' := by
  have hseq : SeqGives Fence.wide 2 Tryz.prog 114 #[.pointer (some ⟨w.heap.size, 0, none⟩)] encStr (fun ss : List (List UInt8) => ss = []) 0 (w.alloc (.cells #[.map none] 99)) :=
    AnyZ.keys_gives_nil (ρ := Tryz.keys80_ren) { Tryz.keys80 with } Fence.wide _ trivial rfl w.heap.size _ (by simp) (by simp)
  exact AnyZ.sorted_in Tryz.sorted79 Fence.wide 5 trivial trivial trivial trivial rfl (by omega) (sorts_in _) (enters_of Tryz.func113 (by kernel_rfl) rfl) 114 #[.pointer (some ⟨w.heap.size, 0, none⟩)] trivial (enters_of Tryz.func114 (by kernel_rfl) rfl) _ 0 (Nat.zero_le _) (by omega) _ hseq
end Go.Proofs.YtoankplhahbgkaaGreat

namespace Go.Proofs.YtoankplhahbgkaaGreat
open Go.RowKit Go.Maps

theorem span15 (ok : Nat → Nat → Bool) : ∀ (t : List UInt8) (a : Nat), a ≤ 15 → La.spanF ok t a ≤ 15
  | [], a, h => h
  | b :: t, a, h => by
    rw [La.spanF]
    split
    · exact h
    · rename_i hn
      exact span15 ok t (a + 1) (by
        have : ¬ a = 15 := fun e => hn (.inl e)
        omega)
theorem chkK_all {α : Type} {mb : α → Bool} {ri : α → α → Bool} {l : List α} (h : La.chkA mb ri l = 0) : ∀ x ∈ l, mb x = true := by
  intro x hx
  obtain ⟨k, hk⟩ := List.mem_iff_getElem?.1 hx
  have hlt := (List.getElem?_eq_some_iff.1 hk).1
  unfold La.chkA at h
  split at h
  · cases h
  · rename_i hn
    cases hm : mb x with
    | true => rfl
    | false =>
      exfalso
      have h1 : La.chkK mb ri l (k + 1) = false := by
        rw [La.chkK, hk]
        dsimp only
        rw [La.okAt_no hm, Bool.and_false]
      exact hn (.inr (La.chkK_false h1 (by omega)))
/-- The labels of a cluster that may be have short values. -/
theorem short_of {ns : List NodeD} {ps : List PodD} {os : List OwnD} (h : checkS ns ps os = 0) : Short ns := by
  intro x hx y hy
  unfold checkS at h
  split at h
  · rename_i hc
    unfold clusB at hc
    simp only [Bool.and_eq_true, List.all_eq_true] at hc
    have h1 := hc.1.1.2 x hx
    unfold nodeB at h1
    simp only [Bool.and_eq_true, beq_iff_eq] at h1
    have h2 := chkK_all h1.1.2 y hy
    unfold La.labB at h2
    simp only [Bool.and_eq_true] at h2
    have h3 := h2.2
    unfold La.valueB at h3
    simp only [Bool.and_eq_true, decide_eq_true_eq] at h3
    have := span15 La.okVal y.2 0 (by omega)
    omega
  · cases h

/-- The map of the domains that the first k nodes have for a key: each has a 0. -/
def domsU (ns : List NodeD) (key : List UInt8) : Nat → DataW Unit
  | 0 => .map []
  | k + 1 => match domF ns (k : Int) key with
    | some v => (domsU ns key k).put (.string v) (.lit (.int .i64 0))
    | none => domsU ns key k
def emptyD (ns : List NodeD) (key : List UInt8) : DataW Unit := domsU ns key ns.length
theorem domF_short {ns : List NodeD} {key v : List UInt8} {k : Int} (hs : Short ns) (h : domF ns k key = some v) : v.length ≤ 281474976710656 := by
  unfold domF at h
  split at h
  · split at h
    · rename_i x hx
      cases hf : x.labels.find? (fun y => decide (y.1 = key)) with
      | none => rw [hf] at h; cases h
      | some y =>
        rw [hf] at h
        cases h
        exact hs x (List.mem_of_getElem? hx) y (List.mem_of_find?_eq_some hf)
    · cases h
  · cases h
theorem ownsMap_below {P : Program} {k : TypeId} {R : Value → Option (DataW Unit × List MemPlace)} {w w' : World} {b n : Nat} {D : DataW Unit} (h : w.ownsMap P k R b n D) (hb : Below w.heap.size w w') : w'.ownsMap P k R b n D := h.kept (grown_of_below hb none) (by simp)

set_option maxRecDepth 100000 in
set_option maxHeartbeats 2000000 in
theorem empty_any (A B C : Option Addr) (ca cb cc : Nat) (ns : List NodeD) (ps : List PodD) (os : List OwnD) (key : List UInt8) (w : World) (h : SnapAt w A B C ca cb cc ns ps os) (hsh : Short ns) :
    Calls Tryz.prog 77 #[snapV A B C ca cb cc ns ps os, strV key] w fun e w' => e = .returned (.map (some (w.heap.size + 1))) ∧ w'.ownsMap Tryz.prog 9 (plainElem Tryz.prog 3) (w.heap.size + 1) ns.length (emptyD ns key) ∧ Below w.heap.size w w' := by
  have hln := h.ln
  have H := Lib.hid h
  have S0 : Hid (Blk (w.alloc (.cells (snapC A B C ca cb cc ns ps os) 26)) w.heap.size (snapC A B C ca cb cc ns ps os) 26) := Lib.hid (Blk.new w _ _)
  have S1 := Lib.hid (Blk.alloc S0.out (.map #[] 0))
  have B1 : Hid (Below w.heap.size w ((w.alloc (.cells (snapC A B C ca cb cc ns ps os) 26)).alloc (.map #[] 0))) := Lib.hid (Qu.below2 w _ _)
  have hmm := @run_makeMap Tryz.prog
  have hm0 := World.ownsMap_made (H := Unit) (w.alloc (.cells (snapC A B C ca cb cc ns ps os) 26)) Tryz.prog 9 (plainElem Tryz.prog 3)
  rw [World.size_alloc] at hm0
  have M1 := Lib.hid hm0
  have KD := Lib.hid (fun (k : Int) w1 (hb : Below w.heap.size w w1) => domainOf_any A B C ca cb cc ps.length os.length ns k key w1 (h.below hb).n hsh)
  have HSH := Lib.hid hsh
  have s0 := Blk.cell S1.out 0
  clear h hm0 hsh
  go_enter Tryz.func77, Tryz.ntmps77
  go_wp2_with fail
  clear hmm
  generalize hW1 : ((w.alloc (.cells (snapC A B C ca cb cc ns ps os) 26)).alloc (.map #[] 0)) = W1 at S1 B1 M1 s0 ⊢
  clear hW1 s0 S0
  obtain ⟨Mb, hMb⟩ : ∃ Mb, w.heap.size + 1 = Mb := ⟨_, rfl⟩
  rw [hMb] at M1 ⊢
  have HMb := Lib.hid hMb
  clear hMb
  go_loopw [13] (fun i wr => ∃ k : Nat, k ≤ ns.length ∧ i = .int .i64 k ∧ wr.ownsMap Tryz.prog 9 (plainElem Tryz.prog 3) Mb k (domsU ns key k) ∧ Below w.heap.size w wr ∧ Blk wr w.heap.size (snapC A B C ca cb cc ns ps os) 26) (fun i _ => ns.length - (intOf i).toNat)
  case atStart => exact ⟨0, by omega, rfl, M1.out, B1.out, S1.out⟩
  case round =>
    clear M1 B1 S1
    obtain ⟨k, hk, rfl, hown, hbw, hsk⟩ := hrel
    have HM := Lib.hid hown
    have HB := Lib.hid hbw
    have HS := Lib.hid hsk
    clear hown hbw hsk
    have s0 : wr.cell? ⟨w.heap.size, 0, none⟩ = some (.slice A ns.length ca) := Blk.cell HS.out 0
    have s1 : wr.cell? ⟨w.heap.size, 1, none⟩ = some (.slice B ps.length cb) := Blk.cell HS.out 1
    have s2 : wr.cell? ⟨w.heap.size, 2, none⟩ = some (.slice C os.length cc) := Blk.cell HS.out 2
    by_cases hlt : k < ns.length
    · have K1 := Lib.hid (KD.out (k : Int) wr HB.out)
      have E : Hid (domsU ns key (k + 1) = match domF ns (k : Int) key with
        | some v => (domsU ns key k).put (.string v) (.lit (.int .i64 0))
        | none => domsU ns key k) := Lib.hid rfl
      have HV := Lib.hid (fun v (hv : domF ns (k : Int) key = some v) => domF_short HSH.out hv)
      generalize domF ns (k : Int) key = dv at K1 E HV
      have k1 : (k : Int) < (ns.length : Int) := by omega
      go_wp2_with fail
      refine (K1.out).mono ?_
      rintro e w2 ⟨rfl, hb⟩
      have M2 := Lib.hid (ownsMap_below HM.out hb)
      have S2 := Lib.hid (HS.out.below hb HS.out.lt)
      have B2 := Lib.hid (HB.out.trans (hb.mono HB.out.size))
      clear hb K1 s0 s1 s2
      cases dv with
      | none =>
        go_wp2
        go_roundw
        case rel => exact ⟨k + 1, by omega, by go_num, by rw [E.out]; exact M2.out.mono (by omega), B2.out, S2.out⟩
        case measure => simp [intOf]; omega
      | some v =>
        have hvl : ((⟨v.toArray⟩ : ByteArray).size) ≤ maxLen := by
          have := HV.out v rfl
          rw [size_of]
          unfold maxLen
          omega
        have hkey := WideMaps.keyOf_string_mk (P := Tryz.prog) Tryz.underlying9 hvl
        have hown := M2.out
        have hkm : k < maxLen := by unfold maxLen; omega
        go_wp2_with (at_mapUpdate; refine wpList_mapUpdate_own _ rfl _ _ _ 99 rfl 9 3 (Maps.string_keyed Tryz.underlying9) Tryz.underlying99 _ Mb k _ rfl hown hkm _ _ _ rfl rfl hkey _ [] (plainElem_int Tryz.underlying3 (by decide)) ?_)
        intro w3 hown3 hgrow3
        have M3 := Lib.hid hown3
        have hMlt : w.heap.size < Mb := by have := HMb.out; omega
        have B3 := Lib.hid (B2.out.grown hgrow3 B2.out.size (fun j e => by cases e; omega))
        have S3 := Lib.hid (S2.out.kept hgrow3 (fun e => by cases e; omega))
        clear hown hown3 hgrow3 hkey hvl hkm
        go_wp2
        go_roundw
        case rel => exact ⟨k + 1, by omega, by go_num, by rw [E.out]; exact M3.out, B3.out, S3.out⟩
        case measure => simp [intOf]; omega
    · obtain rfl : k = ns.length := by omega
      go_wp2
      go_ret
      rw [HMb.out]
      exact ⟨rfl, HM.out, HB.out⟩
end Go.Proofs.YtoankplhahbgkaaGreat

namespace Go.Proofs.YtoankplhahbgkaaGreat
open Go.RowKit Go.Maps Go.Sort

/-- The keys of a map, sorted. -/
def sortK (D : DataW Unit) : List (List UInt8) := (strKeys D).mergeSort leB
/-- What Domains tells. -/
def domsF (ns : List NodeD) (ps : List PodD) (os : List OwnD) (key : List UInt8) : List (List UInt8) := if checkS ns ps os = 0 then sortK (emptyD ns key) else []
theorem own_sorted {w : World} {base : Nat} {v : Value} {D : DataW Unit} {ss : List (List UInt8)} (hp : ss.Perm (strKeys D)) (h : w.ownsRow base 9 1 v ss.length ((ss.mergeSort (fun x y => decide (x ≤ y))).map encStr)) :
    w.ownsRow base 9 1 v (sortK D).length ((sortK D).map encStr) := by
  have e : ss.mergeSort (fun x y => decide (x ≤ y)) = sortK D := mergeSort_of_perm hp
  rw [e] at h
  have hl : ss.length = (sortK D).length := by rw [← e, List.length_mergeSort]
  rw [hl] at h
  exact h

set_option maxRecDepth 100000 in
set_option maxHeartbeats 2000000 in
theorem domains_any (A B C : Option Addr) (ca cb cc : Nat) (ns : List NodeD) (ps : List PodD) (os : List OwnD) (key : List UInt8) (w : World) (h : SnapAt w A B C ca cb cc ns ps os) :
    Calls Tryz.prog 33 #[snapV A B C ca cb cc ns ps os, strV key] w fun e w' => ∃ v, e = .returned v ∧ w'.ownsRow w.heap.size 9 1 v (domsF ns ps os key).length ((domsF ns ps os key).map encStr) ∧ Below w.heap.size w w' := by
  have H := Lib.hid h
  have hln := Lib.hid h.ln
  have B0 : Hid (Below w.heap.size w (w.alloc (.cells (snapC A B C ca cb cc ns ps os) 26))) := Lib.hid (below1 w _)
  have S0 : Hid (Blk (w.alloc (.cells (snapC A B C ca cb cc ns ps os) 26)) w.heap.size (snapC A B C ca cb cc ns ps os) 26) := Lib.hid (Blk.new w _ _)
  have KC := Lib.hid ((callsIn_wide (n := 5)).2 (check_any A B C ca cb cc ns ps os _ (h.below B0.out)))
  have hl0 := Blk.lt S0.out
  have E : Hid (domsF ns ps os key = if checkS ns ps os = 0 then sortK (emptyD ns key) else []) := Lib.hid rfl
  generalize domsF ns ps os key = R at E ⊢
  have KE := Lib.hid (fun (hc : checkS ns ps os = 0) w1 (hb : Below w.heap.size w w1) => (callsIn_wide (n := 5)).2 (empty_any A B C ca cb cc ns ps os key w1 (h.below hb) (short_of hc)))
  generalize checkS ns ps os = v0 at KC E KE
  clear h
  have hfK : Fence.wide.fn 80 := trivial
  have hfS : Fence.wide.fn 79 := trivial
  refine (callsIn_wide (n := 6)).1 ?_
  refine callsIn_of_wp Tryz.func33 rfl trivial ?_ rfl
  simp only [Tryz.ntmps33, List.size_toArray, List.length_cons, List.length_nil, Nat.reduceAdd, Nat.reduceSub, Array.replicate_succ, Array.replicate_zero, List.push_toArray, List.append_toArray, List.nil_append, List.cons_append]
  gi_wp2_with fail
  refine ⟨trivial, ?_⟩
  refine (KC.out).mono ?_
  rintro e w1 ⟨rfl, hb⟩
  clear KC
  have S1 := Lib.hid (S0.out.below hb (by omega))
  have B1 := Lib.hid (B0.out.trans (hb.mono (by omega)))
  clear hb S0 B0 hl0
  have s0 : w1.cell? ⟨w.heap.size, 0, none⟩ = some (.slice A ns.length ca) := Blk.cell S1.out 0
  have s1 : w1.cell? ⟨w.heap.size, 1, none⟩ = some (.slice B ps.length cb) := Blk.cell S1.out 1
  have s2 : w1.cell? ⟨w.heap.size, 2, none⟩ = some (.slice C os.length cc) := Blk.cell S1.out 2
  by_cases hv : v0 = 0
  case neg =>
    have HE : Hid (R = []) := Lib.hid (by rw [E.out, if_neg hv])
    have hvb : (v0 != 0) = true := by simpa using hv
    gi_wp2
    go_ret
    rw [HE.out]
    exact ⟨_, rfl, World.ownsRow_nil _ _ _ _, B1.out⟩
  subst hv
  have HE : Hid (R = sortK (emptyD ns key)) := Lib.hid (by rw [E.out, if_pos rfl])
  have K1 := Lib.hid (KE.out rfl w1 B1.out)
  clear E KE
  gi_wp2_with fail
  refine ⟨trivial, ?_⟩
  refine (K1.out).mono ?_
  rintro e w2 ⟨rfl, hown, hb⟩
  have HM := Lib.hid hown
  have B2 := Lib.hid (B1.out.trans (hb.mono B1.out.size))
  have hsz : Hid (Maps.size (emptyD ns key) ≤ 1000) := Lib.hid (Nat.le_trans hown.size_le hln.out)
  clear hb hown K1 s0 s1 s2
  generalize emptyD ns key = D at HM hsz HE
  generalize w1.heap.size + 1 = Mb at HM ⊢
  have KS := Lib.hid (sortedKeys_in Mb ns.length D _ w2 HM.out (by have := hsz.out; unfold maxLen; omega) (by have := hsz.out; omega))
  gi_wp2_with (first
    | (gi_at_call 80; refine (mapsKeys_in _ _).mono ?_; rintro e w' ⟨rfl, rfl⟩)
    | (gi_at_call 79; refine (KS.out).mono ?_; rintro e w' ⟨v, ss, rfl, hS, hrow, hnil, hb⟩))
  go_ret
  rw [HE.out]
  refine ⟨_, rfl, own_base (own_sorted hS hrow) (by have := B2.out.size; simp; omega), B2.out.trans (((Below.refl _ w2).alloc (Nat.le_refl _) _).trans (hb.mono (by simp)) |>.mono B2.out.size)⟩
end Go.Proofs.YtoankplhahbgkaaGreat
