/- The chapter's cluster. No conditions. -/
import Derived.Test.YtfnigiiocapceaaGreatKb
import Derived.Deep.RegionLawGrows
namespace Go.Proofs.YtfnigiiocapceaaGreat
open Go.RowKit

abbrev bZone : List UInt8 := [122, 111, 110, 101]
abbrev zer5F : Nat → Int := fun _ => 0
abbrev ten5 : Nat → Int := fun k => if k = 0 then 10 else 0
/-- The chapter's cluster: a name and a mark of its second node are letters. -/
def chN (N : Nat) (nm : List UInt8) (lost : Bool) : List NodeD := [
  { name := [97], cap := zer5F, labels := [(bZone, [120])], taints := [], cordon := false, lost := false, al := some ⟨N + 1, 0, none⟩, cl := 1, at_ := none, ct := 0 },
  { name := nm, cap := zer5F, labels := [(bZone, [121])], taints := [], cordon := false, lost := lost, al := some ⟨N + 2, 0, none⟩, cl := 1, at_ := none, ct := 0 },
  { name := [99], cap := zer5F, labels := [], taints := [], cordon := false, lost := false, al := none, cl := 0, at_ := none, ct := 0 }]
def chPod (c : UInt8) : PodD := { name := [c], owner := [111], req := ten5, labels := [], whr := [], bears := [], wt := [], wtm := [], ap := [], apm := [], on := [], al := none, cl := 0, aw := none, cw := 0, ab := none, cb := 0, awt := none, cwt := 0, aap := none, cap := 0 }
def chP : List PodD := [chPod 112, chPod 113, chPod 114]
def chO : List OwnD := [{ name := [111], min := 0, topo := bZone, skew := 1, single := false }]

theorem pod_info : (Tryz.prog.info? 62).map (fun i => (i.zero, i.size, i.bytes)) = some (some (.agg #[.string ⟨#[]⟩, .string ⟨#[]⟩, .int .i64 0, .int .i64 0, .int .i64 0, .int .i64 0, .int .i64 0, .slice none 0 0, .slice none 0 0, .slice none 0 0, .string ⟨#[]⟩, .slice none 0 0, .string ⟨#[]⟩, .slice none 0 0, .string ⟨#[]⟩]), 15, 240) := by kernel_rfl
/-- The chapter's cluster lies in memory, from block N on; its pods in a row of their own. -/
structure ChapAt (w : World) (N : Nat) (v : Value) (k : Nat) (nm : List UInt8) (lost : Bool) : Prop where
  l1 : Blk w (N + 1) #[strV bZone, strV [120]] 91
  l2 : Blk w (N + 2) #[strV bZone, strV [121]] 91
  n : Blk w (N + 3) (cellsN (chN N nm lost)).toArray 73
  o : Blk w (N + 4) (cellsO chO).toArray 64
  p : w.ownsRow N 62 15 v k (cellsP (chP.take k))
theorem ChapAt.kept {w w' : World} {N k : Nat} {v : Value} {nm : List UInt8} {lost : Bool} (h : ChapAt w N v k nm lost) (hb : Below w.heap.size w w') : ChapAt w' N v k nm lost :=
  ⟨h.l1.below hb h.l1.lt, h.l2.below hb h.l2.lt, h.n.below hb h.n.lt, h.o.below hb h.o.lt, by
    refine h.p.kept (grown_of_below hb none) ?_
    rcases h.p.2 with ⟨rfl, _⟩ | ⟨g, cap, cur, rfl, _⟩
    · exact .inl rfl
    · exact .inr (by simp [Value.ownBlock])⟩

theorem ch_other {w w' : World} {base : Nat} {e : TypeId} {sz n : Nat} {v : Value} {xs : List Value} (ho : w.ownsRow base e sz v n xs) (hg : w.grownBy w' v.ownBlock) {j : Nat} {cs : Array Value} {t : TypeId} (hj : Blk w j cs t) (hne : t ≠ e) : Blk w' j cs t := by
  refine (hg.block j hj.lt ?_).trans hj
  rcases ho.2 with ⟨rfl, _⟩ | ⟨g, cap, cur, rfl, _, hgb, _⟩
  · intro e'; cases e'
  · intro e'
    simp only [Value.ownBlock, Option.some.injEq] at e'
    subst e'
    unfold Blk at hj
    rw [hgb] at hj
    cases hj
    exact hne rfl
theorem ch_set {w : World} {base : Nat} {e : TypeId} {sz n : Nat} {v : Value} {xs : List Value} (ho : w.ownsRow base e sz v n xs) {j : Nat} {cs : Array Value} {t : TypeId} (hj : Blk w j cs t) (hne : t ≠ e) (i : Nat) (u : Value) : (w.setCell ⟨j, i, none⟩ u).ownsRow base e sz v n xs := by
  obtain ⟨hl, h1 | ⟨g, cap, cur, hv, hb, hg, r⟩⟩ := ho
  · exact ⟨hl, .inl h1⟩
  · refine ⟨hl, .inr ⟨g, cap, cur, hv, hb, (Below.heap_setCell w ⟨j, i, none⟩ u g ?_).trans hg, r⟩⟩
    intro e'
    subst e'
    unfold Blk at hj
    rw [hg] at hj
    cases hj
    exact hne rfl

/-- An append onto a row of one's own, as one step of a region that draws its order. -/
theorem step_append_own {P : Program} {ops : Array Oper} {o : Oper} {a : Act} {w : World} {K : Act → World → Prop} {Q : Exit → Act → World → Prop} {E : Prop}
    (hg : o.guard = none) (s x : Operand) (t : TypeId) (hop : o.op = Op.call { callee := Callee.builtin Builtin.append, args := #[s, x], argTypes := #[t, t] })
    (base : Nat) (e : TypeId) (i : TypeInfo) (z : Value) (size bytes : Nat) (h1 : P.underlying t = some (.slice e)) (h2 : P.info? e = some i) (h3 : i.zero = some z) (h4 : i.size = size) (h5 : i.bytes = bytes) (h6 : z.cells.size = size) (h7 : 0 < size)
    (v : Value) (n : Nat) (xs : List Value) (hs : a.eval s = v) (hown : w.ownsRow base e size v n xs)
    (ad : Addr) (m c : Nat) (news : List Value) (hx : a.eval x = .slice (some ad) m c) (hn : news.length = m * size) (hc : ∀ j u, news[j]? = some u → w.cell? (ad.add j) = some u) (h1c : ∀ u ∈ news, u.oneCell' = true)
    (b1 : n + m ≤ maxLen) (b2 : (n + m) * bytes ≤ 140737488355328) (hbase : base ≤ w.heap.size)
    (hK : ∀ v' w', w'.ownsRow base e size v' (n + m) (xs ++ news) → w.grownBy w' v.ownBlock → K (a.put o.dst v') w') :
    if Region.wanted o (yielded ops a.tmps) = true then Oper.wp P o a w K Q else E := by
  have hw : Region.wanted o (yielded ops a.tmps) = true := by simp [Region.wanted, hg]
  rw [if_pos hw]
  obtain ⟨v', w', hrun, r1, r2, _⟩ := run_append_own (P := P) w base t o.type e i z size bytes h1 h2 h3 h4 h5 h6 h7 v n xs hown ad m c news hn hc h1c b1 b2 hbase
  unfold Oper.wp
  simp [execOp, hop, resolve, invoke, builtin, hs, hx, hrun, Result.andThen]
  exact hK v' w' r1 r2

theorem ChapAt.set {w : World} {N k : Nat} {v : Value} {nm : List UInt8} {lost : Bool} (h : ChapAt w N v k nm lost) {b : Nat} {cs : Array Value} {t : TypeId} (hb : Blk w b cs t) (h1 : b ≠ N + 1 ∧ b ≠ N + 2 ∧ b ≠ N + 3 ∧ b ≠ N + 4) (ht : t ≠ 62) (i : Nat) (u : Value) : ChapAt (w.setCell ⟨b, i, none⟩ u) N v k nm lost :=
  ⟨h.l1.oth (Ne.symm h1.1) i u, h.l2.oth (Ne.symm h1.2.1) i u, h.n.oth (Ne.symm h1.2.2.1) i u, h.o.oth (Ne.symm h1.2.2.2) i u, ch_set h.p hb ht i u⟩
theorem ChapAt.step {w W w' : World} {N k k' : Nat} {v v' : Value} {nm : List UInt8} {lost : Bool} (h : ChapAt w N v k nm lost) (hW : Below w.heap.size w W) {n : Nat} {xs : List Value} (ho : W.ownsRow N 62 15 v n xs) (hg : W.grownBy w' v.ownBlock) (hn : w'.ownsRow N 62 15 v' k' (cellsP (chP.take k'))) : ChapAt w' N v' k' nm lost :=
  ⟨ch_other ho hg (h.l1.below hW h.l1.lt) (by decide), ch_other ho hg (h.l2.below hW h.l2.lt) (by decide), ch_other ho hg (h.n.below hW h.n.lt) (by decide), ch_other ho hg (h.o.below hW h.o.lt) (by decide), hn⟩

set_option maxRecDepth 100000 in
set_option maxHeartbeats 4000000 in
theorem chapter_any (w : World) :
    Calls Tryz.prog 35 #[] w fun e w' => ∃ B cb, e = .returned (.agg #[.slice (some ⟨w.heap.size + 3, 0, none⟩) 3 3, .slice B 3 cb, .slice (some ⟨w.heap.size + 4, 0, none⟩) 1 1]) ∧ ChapAt w' w.heap.size (.slice B 3 cb) 3 [98] false ∧ Below w.heap.size w w' := by
  obtain ⟨i0, hi0, hz0, hz1, hz2⟩ := info_parts pod_info
  go_enter Tryz.func35, Tryz.ntmps35
  go_wp2_with fail
  have B0 : Hid (Below w.heap.size w ((((((w.alloc (Obj.cells #[Value.slice none 0 0, Value.slice none 0 0, Value.slice none 0 0] 26)).alloc (Obj.cells #[strV bZone, strV [120]] 91)).alloc (Obj.cells #[strV bZone, strV [121]] 91)).alloc (Obj.cells (cellsN (chN w.heap.size [98] false)).toArray 73)).alloc (Obj.cells (cellsO chO).toArray 64)).alloc (Obj.cells #[Value.slice (some { block := w.heap.size + 3, off := 0 }) 3 3, Value.slice none 0 0, Value.slice (some { block := w.heap.size + 4, off := 0 }) 1 1] 26))) := Lib.hid ((((((Qu.below2 w _ _).alloc (by simp; omega) _).alloc (by simp; omega) _).alloc (by simp; omega) _).alloc (by simp; omega) _))
  have C0 : Hid (ChapAt ((((((w.alloc (Obj.cells #[Value.slice none 0 0, Value.slice none 0 0, Value.slice none 0 0] 26)).alloc (Obj.cells #[strV bZone, strV [120]] 91)).alloc (Obj.cells #[strV bZone, strV [121]] 91)).alloc (Obj.cells (cellsN (chN w.heap.size [98] false)).toArray 73)).alloc (Obj.cells (cellsO chO).toArray 64)).alloc (Obj.cells #[Value.slice (some { block := w.heap.size + 3, off := 0 }) 3 3, Value.slice none 0 0, Value.slice (some { block := w.heap.size + 4, off := 0 }) 1 1] 26)) w.heap.size (.slice none 0 0) 0 [98] false) := Lib.hid (by
    have hs1 : ∀ (w : World) (o : Obj), (w.alloc o).heap.size = w.heap.size + 1 := World.size_alloc
    constructor
    · exact Blk.alloc (Blk.alloc (Blk.alloc (Blk.alloc (by have := Blk.new (w.alloc (Obj.cells #[Value.slice none 0 0, Value.slice none 0 0, Value.slice none 0 0] 26)) #[strV bZone, strV [120]] 91; rw [hs1] at this; exact this) _) _) _) _
    · exact Blk.alloc (Blk.alloc (Blk.alloc (by have := Blk.new ((w.alloc (Obj.cells #[Value.slice none 0 0, Value.slice none 0 0, Value.slice none 0 0] 26)).alloc (Obj.cells #[strV bZone, strV [120]] 91)) #[strV bZone, strV [121]] 91; rw [hs1, hs1] at this; exact this) _) _) _
    · exact Blk.alloc (Blk.alloc (by have := Blk.new (((w.alloc (Obj.cells #[Value.slice none 0 0, Value.slice none 0 0, Value.slice none 0 0] 26)).alloc (Obj.cells #[strV bZone, strV [120]] 91)).alloc (Obj.cells #[strV bZone, strV [121]] 91)) (cellsN (chN w.heap.size [98] false)).toArray 73; rw [hs1, hs1, hs1] at this; exact this) _) _
    · exact Blk.alloc (by have := Blk.new ((((w.alloc (Obj.cells #[Value.slice none 0 0, Value.slice none 0 0, Value.slice none 0 0] 26)).alloc (Obj.cells #[strV bZone, strV [120]] 91)).alloc (Obj.cells #[strV bZone, strV [121]] 91)).alloc (Obj.cells (cellsN (chN w.heap.size [98] false)).toArray 73)) (cellsO chO).toArray 64; rw [hs1, hs1, hs1, hs1] at this; exact this) _
    · exact World.ownsRow_nil _ _ _ _)
  have S0 : Hid (Blk ((((((w.alloc (Obj.cells #[Value.slice none 0 0, Value.slice none 0 0, Value.slice none 0 0] 26)).alloc (Obj.cells #[strV bZone, strV [120]] 91)).alloc (Obj.cells #[strV bZone, strV [121]] 91)).alloc (Obj.cells (cellsN (chN w.heap.size [98] false)).toArray 73)).alloc (Obj.cells (cellsO chO).toArray 64)).alloc (Obj.cells #[Value.slice (some { block := w.heap.size + 3, off := 0 }) 3 3, Value.slice none 0 0, Value.slice (some { block := w.heap.size + 4, off := 0 }) 1 1] 26)) (w.heap.size + 5) #[Value.slice (some { block := w.heap.size + 3, off := 0 }) 3 3, Value.slice none 0 0, Value.slice (some { block := w.heap.size + 4, off := 0 }) 1 1] 26) := Lib.hid (by
    have hs1 : ∀ (w : World) (o : Obj), (w.alloc o).heap.size = w.heap.size + 1 := World.size_alloc
    have := Blk.new (((((w.alloc (Obj.cells #[Value.slice none 0 0, Value.slice none 0 0, Value.slice none 0 0] 26)).alloc (Obj.cells #[strV bZone, strV [120]] 91)).alloc (Obj.cells #[strV bZone, strV [121]] 91)).alloc (Obj.cells (cellsN (chN w.heap.size [98] false)).toArray 73)).alloc (Obj.cells (cellsO chO).toArray 64)) #[Value.slice (some { block := w.heap.size + 3, off := 0 }) 3 3, Value.slice none 0 0, Value.slice (some { block := w.heap.size + 4, off := 0 }) 1 1] 26
    rw [hs1, hs1, hs1, hs1, hs1] at this
    exact this)
  have Z0 : Hid (Blk ((((((w.alloc (Obj.cells #[Value.slice none 0 0, Value.slice none 0 0, Value.slice none 0 0] 26)).alloc (Obj.cells #[strV bZone, strV [120]] 91)).alloc (Obj.cells #[strV bZone, strV [121]] 91)).alloc (Obj.cells (cellsN (chN w.heap.size [98] false)).toArray 73)).alloc (Obj.cells (cellsO chO).toArray 64)).alloc (Obj.cells #[Value.slice (some { block := w.heap.size + 3, off := 0 }) 3 3, Value.slice none 0 0, Value.slice (some { block := w.heap.size + 4, off := 0 }) 1 1] 26)) w.heap.size #[Value.slice none 0 0, Value.slice none 0 0, Value.slice none 0 0] 26) := Lib.hid (Blk.alloc (Blk.alloc (Blk.alloc (Blk.alloc (Blk.alloc (Blk.new w _ _) _) _) _) _) _)
  change Code.wp _ _ _ _ ((((((w.alloc (Obj.cells #[Value.slice none 0 0, Value.slice none 0 0, Value.slice none 0 0] 26)).alloc (Obj.cells #[strV bZone, strV [120]] 91)).alloc (Obj.cells #[strV bZone, strV [121]] 91)).alloc (Obj.cells (cellsN (chN w.heap.size [98] false)).toArray 73)).alloc (Obj.cells (cellsO chO).toArray 64)).alloc (Obj.cells #[Value.slice (some { block := w.heap.size + 3, off := 0 }) 3 3, Value.slice none 0 0, Value.slice (some { block := w.heap.size + 4, off := 0 }) 1 1] 26))
  generalize ((((((w.alloc (Obj.cells #[Value.slice none 0 0, Value.slice none 0 0, Value.slice none 0 0] 26)).alloc (Obj.cells #[strV bZone, strV [120]] 91)).alloc (Obj.cells #[strV bZone, strV [121]] 91)).alloc (Obj.cells (cellsN (chN w.heap.size [98] false)).toArray 73)).alloc (Obj.cells (cellsO chO).toArray 64)).alloc (Obj.cells #[Value.slice (some { block := w.heap.size + 3, off := 0 }) 3 3, Value.slice none 0 0, Value.slice (some { block := w.heap.size + 4, off := 0 }) 1 1] 26)) = W0 at B0 C0 S0 Z0 ⊢
  rw [show w.heap.size + 1 + 1 + 1 + 1 + 1 = w.heap.size + 5 from rfl]
  obtain ⟨Sb, hSb⟩ : ∃ Sb, w.heap.size + 5 = Sb := ⟨_, rfl⟩
  rw [hSb] at S0 ⊢
  have HSb := Lib.hid hSb
  clear hSb
  go_loopw [2] (fun i wr => ∃ (k : Nat) (B : Option Addr) (cb : Nat), k ≤ 3 ∧ i = .int .i64 k ∧ ChapAt wr w.heap.size (.slice B k cb) k [98] false ∧ Blk wr Sb #[Value.slice (some { block := w.heap.size + 3, off := 0 }) 3 3, .slice B k cb, Value.slice (some { block := w.heap.size + 4, off := 0 }) 1 1] 26 ∧ Blk wr w.heap.size #[Value.slice none 0 0, Value.slice none 0 0, Value.slice none 0 0] 26 ∧ Below w.heap.size w wr) (fun i _ => 3 - (intOf i).toNat)
  case atStart => exact ⟨0, none, 0, by omega, rfl, C0.out, S0.out, Z0.out, B0.out⟩
  case round =>
    clear B0 C0 S0 Z0
    obtain ⟨k, B, cb, hk, rfl, hc, hs, hz, hb⟩ := hrel
    have HC := Lib.hid hc
    have HS := Lib.hid hs
    have HZ := Lib.hid hz
    have HB := Lib.hid hb
    have s0 : wr.cell? ⟨Sb, 0, none⟩ = some (Value.slice (some { block := w.heap.size + 3, off := 0 }) 3 3) := Blk.cell hs 0
    have s1 : wr.cell? ⟨Sb, 1, none⟩ = some (.slice B k cb) := Blk.cell hs 1
    have s2 : wr.cell? ⟨Sb, 2, none⟩ = some (Value.slice (some { block := w.heap.size + 4, off := 0 }) 1 1) := Blk.cell hs 2
    have f1 := Blk.free hs 1
    clear hc hs hz hb
    have hk4 : k = 0 ∨ k = 1 ∨ k = 2 ∨ k = 3 := by omega
    rcases hk4 with rfl | rfl | rfl | rfl
    · have hnb : Hid (w.heap.size ≤ wr.heap.size) := Lib.hid HB.out.size
      have s1a : ∀ o, (wr.alloc o).cell? ⟨Sb, 1, none⟩ = some (.slice B 0 cb) := fun o => Blk.cell (Blk.alloc HS.out o) 1
      have hdec : 26 ≠ 62 := by decide
      have h1c : Hid (∀ u ∈ cellsP [chPod 112], u.oneCell' = true) := Lib.hid (by
        intro u hu
        simp [cellsP, chPod] at hu
        rcases hu with rfl | rfl | rfl | rfl | rfl | rfl | rfl | rfl | rfl | rfl | rfl | rfl | rfl <;> rfl)
      have hbW : Hid (Below wr.heap.size wr ((wr.alloc (.cells (cellsP [chPod 112]).toArray 62)).drew)) := Lib.hid (((Below.refl _ _).alloc (Nat.le_refl _) _).drew)
      have hcl : Hid (∀ j u, (cellsP [chPod 112])[j]? = some u → World.cell? ((wr.alloc (.cells (cellsP [chPod 112]).toArray 62)).drew) ((⟨wr.heap.size, 0, none⟩ : Addr).add j) = some u) := Lib.hid (by
        intro j u hj
        rw [WideShapes.add_plain, Nat.zero_add, ← hj, ← List.getElem?_toArray]
        exact Blk.cell (Blk.new wr _ _) j)
      have hon : Hid (World.ownsRow ((wr.alloc (.cells (cellsP [chPod 112]).toArray 62)).drew) w.heap.size 62 15 (.slice B 0 cb) 0 (cellsP (chP.take 0))) := Lib.hid (show World.ownsRow _ _ _ _ _ _ _ from HC.out.p.alloc _)
      have hS9 : Hid (Blk ((wr.alloc (.cells (cellsP [chPod 112]).toArray 62)).drew) Sb #[Value.slice (some { block := w.heap.size + 3, off := 0 }) 3 3, .slice B 0 cb, Value.slice (some { block := w.heap.size + 4, off := 0 }) 1 1] 26) := Lib.hid (Blk.alloc HS.out _)
      have hb9 : Hid (w.heap.size ≤ ((wr.alloc (.cells (cellsP [chPod 112]).toArray 62)).drew).heap.size) := Lib.hid (by have := hnb.out; show w.heap.size ≤ (wr.alloc _).heap.size; simp; omega)
      have hmx9 : Hid (0 + 1 ≤ maxLen) := Lib.hid (by unfold maxLen; omega)
      have hw1 : IntKind.i64.wrap 1 = 1 := by decide
      have hw2 : IntKind.i64.wrap 2 = 2 := by decide
      have hw3 : IntKind.i64.wrap 3 = 3 := by decide
      have he0 : (⟨#[112, 113, 114]⟩ : ByteArray).extract 0 1 = ⟨#[112]⟩ := by decide
      have he1 : (⟨#[112, 113, 114]⟩ : ByteArray).extract 1 2 = ⟨#[113]⟩ := by decide
      have he2 : (⟨#[112, 113, 114]⟩ : ByteArray).extract 2 3 = ⟨#[114]⟩ := by decide
      clear hk
      go_wp2_with fail
      go_region_law (refine step_append_own rfl (.tmp 19) (.tmp 26) 23 rfl w.heap.size 62 i0 (.agg #[.string ⟨#[]⟩, .string ⟨#[]⟩, .int .i64 0, .int .i64 0, .int .i64 0, .int .i64 0, .int .i64 0, .slice none 0 0, .slice none 0 0, .slice none 0 0, .string ⟨#[]⟩, .slice none 0 0, .string ⟨#[]⟩, .slice none 0 0, .string ⟨#[]⟩]) 15 240 Tryz.underlying23 hi0 hz0 hz1 hz2 rfl (by decide) (.slice B 0 cb) 0 (cellsP (chP.take 0)) rfl hon.out ⟨wr.heap.size, 0, none⟩ 1 1 (cellsP [chPod 112]) rfl rfl hcl.out h1c.out hmx9.out (by decide) hb9.out (fun v' w' hown' hgrow' => ?_); obtain ⟨B', cb', rfl, hm'⟩ := La.own_slice hown'; have S3 := Lib.hid (ch_other hon.out hgrow' hS9.out hdec); have q1 := Blk.cell S3.out 1; have q2 := Blk.free S3.out 1)
      all_goals
        have HSQ := HSb.out
        have hc3 : Hid (ChapAt w' w.heap.size (.slice B' 1 cb') 1 [98] false) := Lib.hid (HC.out.step hbW.out hon.out hgrow' (show World.ownsRow _ _ _ _ _ _ _ from hown'))
        have hc4 : Hid (ChapAt (w'.setCell ⟨Sb, 1, none⟩ (.slice B' 1 cb')) w.heap.size (.slice B' 1 cb') 1 [98] false) := Lib.hid (hc3.out.set S3.out (by omega) hdec 1 _)
        have hs4 : Hid (Blk (w'.setCell ⟨Sb, 1, none⟩ (.slice B' 1 cb')) Sb #[Value.slice (some { block := w.heap.size + 3, off := 0 }) 3 3, .slice B' 1 cb', Value.slice (some { block := w.heap.size + 4, off := 0 }) 1 1] 26) := Lib.hid (S3.out.set 1 _)
        have hz4 : Hid (Blk (w'.setCell ⟨Sb, 1, none⟩ (.slice B' 1 cb')) w.heap.size #[Value.slice none 0 0, Value.slice none 0 0, Value.slice none 0 0] 26) := Lib.hid (Blk.oth (ch_other hon.out hgrow' (HZ.out.below hbW.out HZ.out.lt) hdec) (by omega) 1 _)
        have hb4 : Hid (Below w.heap.size w (w'.setCell ⟨Sb, 1, none⟩ (.slice B' 1 cb'))) := Lib.hid ((((HB.out.trans (hbW.out.mono hnb.out)).grown hgrow' hb9.out (fun j hj => (hon.out.lt j hj).1))).setCell (p := ⟨Sb, 1, none⟩) (by show w.heap.size ≤ Sb; omega) _)
        clear hown' hgrow' S3 q1 q2 HSQ hcl h1c hon hS9 hb9 hmx9 s0 s1 s2 f1 s1a HC HS HZ HB hbW hc3
        go_wp2
        go_roundw
        case rel => exact ⟨1, B', cb', by omega, by go_num, hc4.out, hs4.out, hz4.out, hb4.out⟩
        case measure => simp [intOf]
    · have hnb : Hid (w.heap.size ≤ wr.heap.size) := Lib.hid HB.out.size
      have s1a : ∀ o, (wr.alloc o).cell? ⟨Sb, 1, none⟩ = some (.slice B 1 cb) := fun o => Blk.cell (Blk.alloc HS.out o) 1
      have hdec : 26 ≠ 62 := by decide
      have h1c : Hid (∀ u ∈ cellsP [chPod 113], u.oneCell' = true) := Lib.hid (by
        intro u hu
        simp [cellsP, chPod] at hu
        rcases hu with rfl | rfl | rfl | rfl | rfl | rfl | rfl | rfl | rfl | rfl | rfl | rfl | rfl <;> rfl)
      have hbW : Hid (Below wr.heap.size wr ((wr.alloc (.cells (cellsP [chPod 113]).toArray 62)).drew)) := Lib.hid (((Below.refl _ _).alloc (Nat.le_refl _) _).drew)
      have hcl : Hid (∀ j u, (cellsP [chPod 113])[j]? = some u → World.cell? ((wr.alloc (.cells (cellsP [chPod 113]).toArray 62)).drew) ((⟨wr.heap.size, 0, none⟩ : Addr).add j) = some u) := Lib.hid (by
        intro j u hj
        rw [WideShapes.add_plain, Nat.zero_add, ← hj, ← List.getElem?_toArray]
        exact Blk.cell (Blk.new wr _ _) j)
      have hon : Hid (World.ownsRow ((wr.alloc (.cells (cellsP [chPod 113]).toArray 62)).drew) w.heap.size 62 15 (.slice B 1 cb) 1 (cellsP (chP.take 1))) := Lib.hid (show World.ownsRow _ _ _ _ _ _ _ from HC.out.p.alloc _)
      have hS9 : Hid (Blk ((wr.alloc (.cells (cellsP [chPod 113]).toArray 62)).drew) Sb #[Value.slice (some { block := w.heap.size + 3, off := 0 }) 3 3, .slice B 1 cb, Value.slice (some { block := w.heap.size + 4, off := 0 }) 1 1] 26) := Lib.hid (Blk.alloc HS.out _)
      have hb9 : Hid (w.heap.size ≤ ((wr.alloc (.cells (cellsP [chPod 113]).toArray 62)).drew).heap.size) := Lib.hid (by have := hnb.out; show w.heap.size ≤ (wr.alloc _).heap.size; simp; omega)
      have hmx9 : Hid (1 + 1 ≤ maxLen) := Lib.hid (by unfold maxLen; omega)
      have hw1 : IntKind.i64.wrap 1 = 1 := by decide
      have hw2 : IntKind.i64.wrap 2 = 2 := by decide
      have hw3 : IntKind.i64.wrap 3 = 3 := by decide
      have he0 : (⟨#[112, 113, 114]⟩ : ByteArray).extract 0 1 = ⟨#[112]⟩ := by decide
      have he1 : (⟨#[112, 113, 114]⟩ : ByteArray).extract 1 2 = ⟨#[113]⟩ := by decide
      have he2 : (⟨#[112, 113, 114]⟩ : ByteArray).extract 2 3 = ⟨#[114]⟩ := by decide
      clear hk
      go_wp2_with fail
      go_region_law (refine step_append_own rfl (.tmp 19) (.tmp 26) 23 rfl w.heap.size 62 i0 (.agg #[.string ⟨#[]⟩, .string ⟨#[]⟩, .int .i64 0, .int .i64 0, .int .i64 0, .int .i64 0, .int .i64 0, .slice none 0 0, .slice none 0 0, .slice none 0 0, .string ⟨#[]⟩, .slice none 0 0, .string ⟨#[]⟩, .slice none 0 0, .string ⟨#[]⟩]) 15 240 Tryz.underlying23 hi0 hz0 hz1 hz2 rfl (by decide) (.slice B 1 cb) 1 (cellsP (chP.take 1)) rfl hon.out ⟨wr.heap.size, 0, none⟩ 1 1 (cellsP [chPod 113]) rfl rfl hcl.out h1c.out hmx9.out (by decide) hb9.out (fun v' w' hown' hgrow' => ?_); obtain ⟨B', cb', rfl, hm'⟩ := La.own_slice hown'; have S3 := Lib.hid (ch_other hon.out hgrow' hS9.out hdec); have q1 := Blk.cell S3.out 1; have q2 := Blk.free S3.out 1)
      all_goals
        have HSQ := HSb.out
        have hc3 : Hid (ChapAt w' w.heap.size (.slice B' 2 cb') 2 [98] false) := Lib.hid (HC.out.step hbW.out hon.out hgrow' (show World.ownsRow _ _ _ _ _ _ _ from hown'))
        have hc4 : Hid (ChapAt (w'.setCell ⟨Sb, 1, none⟩ (.slice B' 2 cb')) w.heap.size (.slice B' 2 cb') 2 [98] false) := Lib.hid (hc3.out.set S3.out (by omega) hdec 1 _)
        have hs4 : Hid (Blk (w'.setCell ⟨Sb, 1, none⟩ (.slice B' 2 cb')) Sb #[Value.slice (some { block := w.heap.size + 3, off := 0 }) 3 3, .slice B' 2 cb', Value.slice (some { block := w.heap.size + 4, off := 0 }) 1 1] 26) := Lib.hid (S3.out.set 1 _)
        have hz4 : Hid (Blk (w'.setCell ⟨Sb, 1, none⟩ (.slice B' 2 cb')) w.heap.size #[Value.slice none 0 0, Value.slice none 0 0, Value.slice none 0 0] 26) := Lib.hid (Blk.oth (ch_other hon.out hgrow' (HZ.out.below hbW.out HZ.out.lt) hdec) (by omega) 1 _)
        have hb4 : Hid (Below w.heap.size w (w'.setCell ⟨Sb, 1, none⟩ (.slice B' 2 cb'))) := Lib.hid ((((HB.out.trans (hbW.out.mono hnb.out)).grown hgrow' hb9.out (fun j hj => (hon.out.lt j hj).1))).setCell (p := ⟨Sb, 1, none⟩) (by show w.heap.size ≤ Sb; omega) _)
        clear hown' hgrow' S3 q1 q2 HSQ hcl h1c hon hS9 hb9 hmx9 s0 s1 s2 f1 s1a HC HS HZ HB hbW hc3
        go_wp2
        go_roundw
        case rel => exact ⟨2, B', cb', by omega, by go_num, hc4.out, hs4.out, hz4.out, hb4.out⟩
        case measure => simp [intOf]
    · have hnb : Hid (w.heap.size ≤ wr.heap.size) := Lib.hid HB.out.size
      have s1a : ∀ o, (wr.alloc o).cell? ⟨Sb, 1, none⟩ = some (.slice B 2 cb) := fun o => Blk.cell (Blk.alloc HS.out o) 1
      have hdec : 26 ≠ 62 := by decide
      have h1c : Hid (∀ u ∈ cellsP [chPod 114], u.oneCell' = true) := Lib.hid (by
        intro u hu
        simp [cellsP, chPod] at hu
        rcases hu with rfl | rfl | rfl | rfl | rfl | rfl | rfl | rfl | rfl | rfl | rfl | rfl | rfl <;> rfl)
      have hbW : Hid (Below wr.heap.size wr ((wr.alloc (.cells (cellsP [chPod 114]).toArray 62)).drew)) := Lib.hid (((Below.refl _ _).alloc (Nat.le_refl _) _).drew)
      have hcl : Hid (∀ j u, (cellsP [chPod 114])[j]? = some u → World.cell? ((wr.alloc (.cells (cellsP [chPod 114]).toArray 62)).drew) ((⟨wr.heap.size, 0, none⟩ : Addr).add j) = some u) := Lib.hid (by
        intro j u hj
        rw [WideShapes.add_plain, Nat.zero_add, ← hj, ← List.getElem?_toArray]
        exact Blk.cell (Blk.new wr _ _) j)
      have hon : Hid (World.ownsRow ((wr.alloc (.cells (cellsP [chPod 114]).toArray 62)).drew) w.heap.size 62 15 (.slice B 2 cb) 2 (cellsP (chP.take 2))) := Lib.hid (show World.ownsRow _ _ _ _ _ _ _ from HC.out.p.alloc _)
      have hS9 : Hid (Blk ((wr.alloc (.cells (cellsP [chPod 114]).toArray 62)).drew) Sb #[Value.slice (some { block := w.heap.size + 3, off := 0 }) 3 3, .slice B 2 cb, Value.slice (some { block := w.heap.size + 4, off := 0 }) 1 1] 26) := Lib.hid (Blk.alloc HS.out _)
      have hb9 : Hid (w.heap.size ≤ ((wr.alloc (.cells (cellsP [chPod 114]).toArray 62)).drew).heap.size) := Lib.hid (by have := hnb.out; show w.heap.size ≤ (wr.alloc _).heap.size; simp; omega)
      have hmx9 : Hid (2 + 1 ≤ maxLen) := Lib.hid (by unfold maxLen; omega)
      have hw1 : IntKind.i64.wrap 1 = 1 := by decide
      have hw2 : IntKind.i64.wrap 2 = 2 := by decide
      have hw3 : IntKind.i64.wrap 3 = 3 := by decide
      have he0 : (⟨#[112, 113, 114]⟩ : ByteArray).extract 0 1 = ⟨#[112]⟩ := by decide
      have he1 : (⟨#[112, 113, 114]⟩ : ByteArray).extract 1 2 = ⟨#[113]⟩ := by decide
      have he2 : (⟨#[112, 113, 114]⟩ : ByteArray).extract 2 3 = ⟨#[114]⟩ := by decide
      clear hk
      go_wp2_with fail
      go_region_law (refine step_append_own rfl (.tmp 19) (.tmp 26) 23 rfl w.heap.size 62 i0 (.agg #[.string ⟨#[]⟩, .string ⟨#[]⟩, .int .i64 0, .int .i64 0, .int .i64 0, .int .i64 0, .int .i64 0, .slice none 0 0, .slice none 0 0, .slice none 0 0, .string ⟨#[]⟩, .slice none 0 0, .string ⟨#[]⟩, .slice none 0 0, .string ⟨#[]⟩]) 15 240 Tryz.underlying23 hi0 hz0 hz1 hz2 rfl (by decide) (.slice B 2 cb) 2 (cellsP (chP.take 2)) rfl hon.out ⟨wr.heap.size, 0, none⟩ 1 1 (cellsP [chPod 114]) rfl rfl hcl.out h1c.out hmx9.out (by decide) hb9.out (fun v' w' hown' hgrow' => ?_); obtain ⟨B', cb', rfl, hm'⟩ := La.own_slice hown'; have S3 := Lib.hid (ch_other hon.out hgrow' hS9.out hdec); have q1 := Blk.cell S3.out 1; have q2 := Blk.free S3.out 1)
      all_goals
        have HSQ := HSb.out
        have hc3 : Hid (ChapAt w' w.heap.size (.slice B' 3 cb') 3 [98] false) := Lib.hid (HC.out.step hbW.out hon.out hgrow' (show World.ownsRow _ _ _ _ _ _ _ from hown'))
        have hc4 : Hid (ChapAt (w'.setCell ⟨Sb, 1, none⟩ (.slice B' 3 cb')) w.heap.size (.slice B' 3 cb') 3 [98] false) := Lib.hid (hc3.out.set S3.out (by omega) hdec 1 _)
        have hs4 : Hid (Blk (w'.setCell ⟨Sb, 1, none⟩ (.slice B' 3 cb')) Sb #[Value.slice (some { block := w.heap.size + 3, off := 0 }) 3 3, .slice B' 3 cb', Value.slice (some { block := w.heap.size + 4, off := 0 }) 1 1] 26) := Lib.hid (S3.out.set 1 _)
        have hz4 : Hid (Blk (w'.setCell ⟨Sb, 1, none⟩ (.slice B' 3 cb')) w.heap.size #[Value.slice none 0 0, Value.slice none 0 0, Value.slice none 0 0] 26) := Lib.hid (Blk.oth (ch_other hon.out hgrow' (HZ.out.below hbW.out HZ.out.lt) hdec) (by omega) 1 _)
        have hb4 : Hid (Below w.heap.size w (w'.setCell ⟨Sb, 1, none⟩ (.slice B' 3 cb'))) := Lib.hid ((((HB.out.trans (hbW.out.mono hnb.out)).grown hgrow' hb9.out (fun j hj => (hon.out.lt j hj).1))).setCell (p := ⟨Sb, 1, none⟩) (by show w.heap.size ≤ Sb; omega) _)
        clear hown' hgrow' S3 q1 q2 HSQ hcl h1c hon hS9 hb9 hmx9 s0 s1 s2 f1 s1a HC HS HZ HB hbW hc3
        go_wp2
        go_roundw
        case rel => exact ⟨3, B', cb', by omega, by go_num, hc4.out, hs4.out, hz4.out, hb4.out⟩
        case measure => simp [intOf]
    · have z0 : wr.cell? ⟨w.heap.size, 0, none⟩ = some (Value.slice none 0 0) := Blk.cell HZ.out 0
      have z1 : wr.cell? ⟨w.heap.size, 1, none⟩ = some (Value.slice none 0 0) := Blk.cell HZ.out 1
      have z2 : wr.cell? ⟨w.heap.size, 2, none⟩ = some (Value.slice none 0 0) := Blk.cell HZ.out 2
      have g0 := Blk.free HZ.out 0
      have g1 := Blk.free HZ.out 1
      have g2 := Blk.free HZ.out 2
      clear hk
      have HSQ := HSb.out
      have hd1 : 26 ≠ 62 := by decide
      have HZ1 := Lib.hid (HZ.out.set 0 (Value.slice (some { block := w.heap.size + 3, off := 0 }) 3 3))
      have HC1 := Lib.hid (HC.out.set HZ.out (by omega) hd1 0 (Value.slice (some { block := w.heap.size + 3, off := 0 }) 3 3))
      have HZ2 := Lib.hid (HZ1.out.set 1 (.slice B 3 cb))
      have HC2 := Lib.hid (HC1.out.set HZ1.out (by omega) hd1 1 (.slice B 3 cb))
      have HZ3 := Lib.hid (HZ2.out.set 2 (Value.slice (some { block := w.heap.size + 4, off := 0 }) 1 1))
      have HC3 := Lib.hid (HC2.out.set HZ2.out (by omega) hd1 2 (Value.slice (some { block := w.heap.size + 4, off := 0 }) 1 1))
      have HB3 := Lib.hid (((HB.out.setCell (p := ⟨w.heap.size, 0, none⟩) (Nat.le_refl _) (Value.slice (some { block := w.heap.size + 3, off := 0 }) 3 3)).setCell (p := ⟨w.heap.size, 1, none⟩) (Nat.le_refl _) (.slice B 3 cb)).setCell (p := ⟨w.heap.size, 2, none⟩) (Nat.le_refl _) (Value.slice (some { block := w.heap.size + 4, off := 0 }) 1 1))
      clear HSQ hd1
      go_wp2
      refine bodyPost_row1 Tryz.results35 w.heap.size _ _ _ _ (by rfl) (by rfl) HZ3.out Tryz.underlying26 rfl (by kernel_rfl) ?_
      exact ⟨B, cb, rfl, HC3.out, HB3.out⟩

/-- The chapter's cluster as a cluster. -/
theorem ChapAt.snap {w : World} {N : Nat} {B : Option Addr} {cb : Nat} {nm : List UInt8} {lost : Bool} (h : ChapAt w N (.slice B 3 cb) 3 nm lost) (hnm : nm.length ≤ 1000) : SnapAt w (some ⟨N + 3, 0, none⟩) B (some ⟨N + 4, 0, none⟩) 3 cb 1 (chN N nm lost) chP chO := by
  have lab : ∀ (b : Nat) (v : UInt8), Blk w b #[strV bZone, strV [v]] 91 → ListL w (some ⟨b, 0, none⟩) 1 [(bZone, [v])] := fun b v hb => by
    refine ⟨by simp, by omega, fun j y hj => ⟨b, 0, rfl, ?_⟩, fun x hx => ?_⟩
    · rw [Nat.zero_add, Blk.cell hb j, ← hj, ← List.getElem?_toArray]
      rfl
    · simp only [List.mem_singleton] at hx
      subst hx
      exact ⟨by simp, by simp⟩
  have nolab : ListL w none 0 [] := ⟨by simp, by omega, fun j y hj => by simp [La.cellsL] at hj, fun x hx => by cases hx⟩
  have noter : ListT w none 0 [] := ⟨by simp, by omega, fun j y hj => by simp [La.cellsT] at hj, fun x hx => by cases hx⟩
  have hcap : 3 ≤ cb ∧ cb ≤ maxLen := by
    rcases h.p.2 with ⟨e, _⟩ | ⟨g, cap, cur, e, _, _, h1, h2, _⟩
    · cases e
    · cases e
      exact ⟨h1, h2⟩
  have hpod : ∀ c, (chPod c).fit w := fun c => ⟨nolab, noter, nolab, noter, noter, by simp [chPod]⟩
  constructor
  · constructor
    · intro j y hj
      refine ⟨N + 3, 0, rfl, ?_⟩
      rw [Nat.zero_add, Blk.cell h.n j, ← hj, ← List.getElem?_toArray]
    · intro x hx
      simp only [chN, List.mem_cons, List.not_mem_nil, or_false] at hx
      rcases hx with rfl | rfl | rfl
      · exact ⟨lab _ _ h.l1, nolab, by simp⟩
      · exact ⟨lab _ _ h.l2, nolab, by show nm.length ≤ _; omega⟩
      · exact ⟨nolab, nolab, by simp⟩
  · constructor
    · exact La.own_slat h.p
    · intro x hx
      simp only [chP, List.mem_cons, List.not_mem_nil, or_false] at hx
      rcases hx with rfl | rfl | rfl <;> exact hpod _
  · intro j y hj
    refine ⟨N + 4, 0, rfl, ?_⟩
    rw [Nat.zero_add, Blk.cell h.o j, ← hj, ← List.getElem?_toArray]
  · intro x hx
    simp only [chO, List.mem_singleton] at hx
    subst hx
    exact ⟨by simp, by simp⟩
  · simp [chN]
  · simp [chP]
  · simp [chO]
  · exact ⟨by simp [chN], by omega⟩
  · refine ⟨by simp [chP]; omega, ?_⟩
    have := hcap.2
    unfold maxLen at this
    omega
  · exact ⟨by simp [chO], by omega⟩
end Go.Proofs.YtfnigiiocapceaaGreat
