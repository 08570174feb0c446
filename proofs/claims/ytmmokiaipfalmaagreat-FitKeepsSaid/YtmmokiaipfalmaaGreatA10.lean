/- The chapter's cluster of layer 14. No conditions. How great pods are: the contract of sizesOf. Condition: the cluster lies in memory, and may be. Those of pods that there are: the contract of among. Condition: the numbers lie in memory. Sorting a row of pods by sizes, with a method's value: the words, the insertion sort. Condition: the row lies in memory, its numbers are below 24. -/
import Derived.Test.YtmmokiaipfalmaaGreatA09
import Derived.Shelf.SlSortCmp.QuietGrown
import Derived.Sort.WalkA

namespace Go.Proofs.YtmmokiaipfalmaaGreat
open Go.RowKit

abbrev one5 (a : Int) : Nat → Int := fun k => if k = 0 then a else 0
def feNode (c : UInt8) (a : Int) : NodeD := { name := [c], cap := one5 a, labels := [], taints := [], cordon := false, lost := false, al := none, cl := 0, at_ := none, ct := 0 }
def fePod (c : UInt8) (a : Int) : PodD := { name := [c], owner := [], req := one5 a, labels := [], whr := [], bears := [], wt := [], wtm := [], ap := [], apm := [], on := [], al := none, cl := 0, aw := none, cw := 0, ab := none, cb := 0, awt := none, cwt := 0, aap := none, cap := 0 }
def feN : List NodeD := [feNode 97 100, feNode 98 60]
def feP : List PodD := [fePod 112 50, fePod 113 30, fePod 114 40, fePod 116 20]
/-- The chapter's cluster lies in memory, from block N on; its pods in a row of their own. -/
structure FeAt (w : World) (N : Nat) (v : Value) (k : Nat) : Prop where
  n : Blk w (N + 1) (cellsN feN).toArray 81
  a : Blk w (N + 3) #[.int .i64 50, .int .i64 30, .int .i64 40, .int .i64 20] 3
  p : w.ownsRow N 53 15 v k (cellsP (feP.take k))
theorem FeAt.set {w : World} {N k : Nat} {v : Value} (h : FeAt w N v k) {b : Nat} {cs : Array Value} {t : TypeId} (hb : Blk w b cs t) (h1 : b ≠ N + 1 ∧ b ≠ N + 3) (ht : t ≠ 53) (i : Nat) (u : Value) : FeAt (w.setCell ⟨b, i, none⟩ u) N v k :=
  ⟨h.n.oth (Ne.symm h1.1) i u, h.a.oth (Ne.symm h1.2) i u, ch_set h.p hb ht i u⟩
theorem FeAt.step {w W w' : World} {N k k' : Nat} {v v' : Value} (h : FeAt w N v k) (hW : Below w.heap.size w W) {n : Nat} {xs : List Value} (ho : W.ownsRow N 53 15 v n xs) (hg : W.grownBy w' v.ownBlock) (hn : w'.ownsRow N 53 15 v' k' (cellsP (feP.take k'))) : FeAt w' N v' k' :=
  ⟨ch_other ho hg (h.n.below hW h.n.lt) (by decide), ch_other ho hg (h.a.below hW h.a.lt) (by decide), hn⟩
set_option maxRecDepth 100000 in
set_option maxHeartbeats 8000000 in
theorem chapter14_any (w : World) :
    Calls Tryz.prog 26 #[] w fun e w' => ∃ B cb, e = .returned (.agg #[.slice (some ⟨w.heap.size + 1, 0, none⟩) 2 2, .slice B 4 cb, .slice none 0 0]) ∧ FeAt w' w.heap.size (.slice B 4 cb) 4 ∧ Below w.heap.size w w' := by
  obtain ⟨i0, hi0, hz0, hz1, hz2⟩ := info_parts pod_info
  have hs1 : ∀ (w : World) (o : Obj), (w.alloc o).heap.size = w.heap.size + 1 := World.size_alloc
  have B0 : Hid (Below w.heap.size w ((((w.alloc (Obj.cells #[Value.slice none 0 0, Value.slice none 0 0, Value.slice none 0 0] 26)).alloc (Obj.cells (cellsN feN).toArray 81)).alloc (Obj.cells #[Value.slice (some { block := w.heap.size + 1, off := 0 }) 2 2, Value.slice none 0 0, Value.slice none 0 0] 26)).alloc (Obj.cells #[Value.int .i64 50, Value.int .i64 30, Value.int .i64 40, Value.int .i64 20] 3))) := Lib.hid ((((Qu.below2 w _ _).alloc (by simp; omega) _).alloc (by simp; omega) _))
  have C0 : Hid (FeAt ((((w.alloc (Obj.cells #[Value.slice none 0 0, Value.slice none 0 0, Value.slice none 0 0] 26)).alloc (Obj.cells (cellsN feN).toArray 81)).alloc (Obj.cells #[Value.slice (some { block := w.heap.size + 1, off := 0 }) 2 2, Value.slice none 0 0, Value.slice none 0 0] 26)).alloc (Obj.cells #[Value.int .i64 50, Value.int .i64 30, Value.int .i64 40, Value.int .i64 20] 3)) w.heap.size (.slice none 0 0) 0) := Lib.hid (by
    constructor
    · exact Blk.alloc (Blk.alloc (by have := Blk.new (w.alloc (Obj.cells #[Value.slice none 0 0, Value.slice none 0 0, Value.slice none 0 0] 26)) (cellsN feN).toArray 81; rw [hs1] at this; exact this) _) _
    · have := Blk.new (((w.alloc (Obj.cells #[Value.slice none 0 0, Value.slice none 0 0, Value.slice none 0 0] 26)).alloc (Obj.cells (cellsN feN).toArray 81)).alloc (Obj.cells #[Value.slice (some { block := w.heap.size + 1, off := 0 }) 2 2, Value.slice none 0 0, Value.slice none 0 0] 26)) #[Value.int .i64 50, Value.int .i64 30, Value.int .i64 40, Value.int .i64 20] 3
      rw [hs1, hs1, hs1] at this
      exact this
    · exact World.ownsRow_nil _ _ _ _)
  have S0 : Hid (Blk ((((w.alloc (Obj.cells #[Value.slice none 0 0, Value.slice none 0 0, Value.slice none 0 0] 26)).alloc (Obj.cells (cellsN feN).toArray 81)).alloc (Obj.cells #[Value.slice (some { block := w.heap.size + 1, off := 0 }) 2 2, Value.slice none 0 0, Value.slice none 0 0] 26)).alloc (Obj.cells #[Value.int .i64 50, Value.int .i64 30, Value.int .i64 40, Value.int .i64 20] 3)) (w.heap.size + 2) #[Value.slice (some { block := w.heap.size + 1, off := 0 }) 2 2, Value.slice none 0 0, Value.slice none 0 0] 26) := Lib.hid (Blk.alloc (by have := Blk.new ((w.alloc (Obj.cells #[Value.slice none 0 0, Value.slice none 0 0, Value.slice none 0 0] 26)).alloc (Obj.cells (cellsN feN).toArray 81)) #[Value.slice (some { block := w.heap.size + 1, off := 0 }) 2 2, Value.slice none 0 0, Value.slice none 0 0] 26; rw [hs1, hs1] at this; exact this) _)
  have Z0 : Hid (Blk ((((w.alloc (Obj.cells #[Value.slice none 0 0, Value.slice none 0 0, Value.slice none 0 0] 26)).alloc (Obj.cells (cellsN feN).toArray 81)).alloc (Obj.cells #[Value.slice (some { block := w.heap.size + 1, off := 0 }) 2 2, Value.slice none 0 0, Value.slice none 0 0] 26)).alloc (Obj.cells #[Value.int .i64 50, Value.int .i64 30, Value.int .i64 40, Value.int .i64 20] 3)) w.heap.size #[Value.slice none 0 0, Value.slice none 0 0, Value.slice none 0 0] 26) := Lib.hid (Blk.alloc (Blk.alloc (Blk.alloc (Blk.new w _ _) _) _) _)
  clear hs1
  go_enter Tryz.func26, Tryz.ntmps26
  go_wp2_with fail
  change Code.wp _ _ _ _ ((((w.alloc (Obj.cells #[Value.slice none 0 0, Value.slice none 0 0, Value.slice none 0 0] 26)).alloc (Obj.cells (cellsN feN).toArray 81)).alloc (Obj.cells #[Value.slice (some { block := w.heap.size + 1, off := 0 }) 2 2, Value.slice none 0 0, Value.slice none 0 0] 26)).alloc (Obj.cells #[Value.int .i64 50, Value.int .i64 30, Value.int .i64 40, Value.int .i64 20] 3))
  generalize ((((w.alloc (Obj.cells #[Value.slice none 0 0, Value.slice none 0 0, Value.slice none 0 0] 26)).alloc (Obj.cells (cellsN feN).toArray 81)).alloc (Obj.cells #[Value.slice (some { block := w.heap.size + 1, off := 0 }) 2 2, Value.slice none 0 0, Value.slice none 0 0] 26)).alloc (Obj.cells #[Value.int .i64 50, Value.int .i64 30, Value.int .i64 40, Value.int .i64 20] 3)) = W at B0 C0 S0 Z0 ⊢
  rw [show w.heap.size + 1 + 1 = w.heap.size + 2 from rfl, show w.heap.size + 2 + 1 = w.heap.size + 3 from rfl]
  obtain ⟨Sb, hSb⟩ : ∃ Sb, w.heap.size + 2 = Sb := ⟨_, rfl⟩
  rw [hSb] at S0 ⊢
  have HSb := Lib.hid hSb
  clear hSb
  obtain ⟨Ab, hAb⟩ : ∃ Ab, w.heap.size + 3 = Ab := ⟨_, rfl⟩
  have HAb := Lib.hid hAb
  rw [hAb]
  clear hAb
  go_loopw [3] (fun i wr => ∃ (k : Nat) (B : Option Addr) (cb : Nat), k ≤ 4 ∧ i = .int .i64 k ∧ FeAt wr w.heap.size (.slice B k cb) k ∧ Blk wr Sb #[Value.slice (some { block := w.heap.size + 1, off := 0 }) 2 2, .slice B k cb, Value.slice none 0 0] 26 ∧ Blk wr w.heap.size #[Value.slice none 0 0, Value.slice none 0 0, Value.slice none 0 0] 26 ∧ Below w.heap.size w wr) (fun i _ => 4 - (intOf i).toNat)
  case atStart => exact ⟨0, none, 0, by omega, rfl, C0.out, S0.out, Z0.out, B0.out⟩
  case round =>
    clear B0 C0 S0 Z0
    obtain ⟨k, B, cb, hk, rfl, hc, hs, hz, hb⟩ := hrel
    have HC := Lib.hid hc
    have HS := Lib.hid hs
    have HZ := Lib.hid hz
    have HB := Lib.hid hb
    have s0 : wr.cell? ⟨Sb, 0, none⟩ = some (Value.slice (some { block := w.heap.size + 1, off := 0 }) 2 2) := Blk.cell hs 0
    have s1 : wr.cell? ⟨Sb, 1, none⟩ = some (.slice B k cb) := Blk.cell hs 1
    have s2 : wr.cell? ⟨Sb, 2, none⟩ = some (Value.slice none 0 0) := Blk.cell hs 2
    have f1 := Blk.free hs 1
    clear hc hs hz hb
    have hk4 : k = 0 ∨ k = 1 ∨ k = 2 ∨ k = 3 ∨ k = 4 := by omega
    rcases hk4 with rfl | rfl | rfl | rfl | rfl
    · have hnb : Hid (w.heap.size ≤ wr.heap.size) := Lib.hid HB.out.size
      have s1a : ∀ o, (wr.alloc o).cell? ⟨Sb, 1, none⟩ = some (.slice B 0 cb) := fun o => Blk.cell (Blk.alloc HS.out o) 1
      have a0 : wr.cell? ⟨Ab, 0, none⟩ = some (.int .i64 50) := by rw [← HAb.out]; exact Blk.cell HC.out.a 0
      have a1 : ∀ o, (wr.alloc o).cell? ⟨Ab, 0, none⟩ = some (.int .i64 50) := fun o => by rw [← HAb.out]; exact Blk.cell (Blk.alloc HC.out.a o) 0
      have hdec : 26 ≠ 53 := by decide
      have h1c : Hid (∀ u ∈ (cellsP [fePod 112 50]), u.oneCell' = true) := Lib.hid (by
        intro u hu
        simp [cellsP, fePod] at hu
        rcases hu with rfl | rfl | rfl | rfl | rfl | rfl | rfl | rfl | rfl | rfl | rfl | rfl | rfl <;> rfl)
      have hbW : Hid (Below wr.heap.size wr ((wr.alloc (.cells (cellsP [fePod 112 50]).toArray 53)).drew)) := Lib.hid (((Below.refl _ _).alloc (Nat.le_refl _) _).drew)
      have hcl : Hid (∀ j u, (cellsP [fePod 112 50])[j]? = some u → World.cell? ((wr.alloc (.cells (cellsP [fePod 112 50]).toArray 53)).drew) ((⟨wr.heap.size, 0, none⟩ : Addr).add j) = some u) := Lib.hid (by
        intro j u hj
        rw [WideShapes.add_plain, Nat.zero_add, ← hj, ← List.getElem?_toArray]
        exact Blk.cell (Blk.new wr _ _) j)
      have hon : Hid (World.ownsRow ((wr.alloc (.cells (cellsP [fePod 112 50]).toArray 53)).drew) w.heap.size 53 15 (.slice B 0 cb) 0 (cellsP (feP.take 0))) := Lib.hid (show World.ownsRow _ _ _ _ _ _ _ from HC.out.p.alloc _)
      have hS9 : Hid (Blk ((wr.alloc (.cells (cellsP [fePod 112 50]).toArray 53)).drew) Sb #[Value.slice (some { block := w.heap.size + 1, off := 0 }) 2 2, .slice B 0 cb, Value.slice none 0 0] 26) := Lib.hid (Blk.alloc HS.out _)
      have hb9 : Hid (w.heap.size ≤ ((wr.alloc (.cells (cellsP [fePod 112 50]).toArray 53)).drew).heap.size) := Lib.hid (by have := hnb.out; show w.heap.size ≤ (wr.alloc _).heap.size; simp; omega)
      have hmx9 : Hid (0 + 1 ≤ maxLen) := Lib.hid (by unfold maxLen; omega)
      have hw1 : IntKind.i64.wrap 1 = 1 := by decide
      have he0 : (⟨#[112, 113, 114, 116]⟩ : ByteArray).extract 0 1 = ⟨#[112]⟩ := by decide
      clear hk
      go_wp2_with fail
      go_region_law (refine step_append_own rfl (.tmp 16) (.tmp 27) 23 rfl w.heap.size 53 i0 (.agg #[.string ⟨#[]⟩, .string ⟨#[]⟩, .int .i64 0, .int .i64 0, .int .i64 0, .int .i64 0, .int .i64 0, .slice none 0 0, .slice none 0 0, .slice none 0 0, .string ⟨#[]⟩, .slice none 0 0, .string ⟨#[]⟩, .slice none 0 0, .string ⟨#[]⟩]) 15 240 Tryz.underlying23 hi0 hz0 hz1 hz2 rfl (by decide) (.slice B 0 cb) 0 (cellsP (feP.take 0)) rfl hon.out ⟨wr.heap.size, 0, none⟩ 1 1 (cellsP [fePod 112 50]) rfl rfl hcl.out h1c.out hmx9.out (by decide) hb9.out (fun v' w' hown' hgrow' => ?_); obtain ⟨B', cb', rfl, hm'⟩ := La.own_slice hown'; have S3 := Lib.hid (ch_other hon.out hgrow' hS9.out hdec); have q1 := Blk.cell S3.out 1; have q2 := Blk.free S3.out 1)
      all_goals
        have HSQ := HSb.out
        have hc3 : Hid (FeAt w' w.heap.size (.slice B' 1 cb') 1) := Lib.hid (HC.out.step hbW.out hon.out hgrow' (show World.ownsRow _ _ _ _ _ _ _ from hown'))
        have hc4 : Hid (FeAt (w'.setCell ⟨Sb, 1, none⟩ (.slice B' 1 cb')) w.heap.size (.slice B' 1 cb') 1) := Lib.hid (hc3.out.set S3.out (by omega) hdec 1 _)
        have hs4 : Hid (Blk (w'.setCell ⟨Sb, 1, none⟩ (.slice B' 1 cb')) Sb #[Value.slice (some { block := w.heap.size + 1, off := 0 }) 2 2, .slice B' 1 cb', Value.slice none 0 0] 26) := Lib.hid (S3.out.set 1 _)
        have hz4 : Hid (Blk (w'.setCell ⟨Sb, 1, none⟩ (.slice B' 1 cb')) w.heap.size #[Value.slice none 0 0, Value.slice none 0 0, Value.slice none 0 0] 26) := Lib.hid (Blk.oth (ch_other hon.out hgrow' (HZ.out.below hbW.out HZ.out.lt) hdec) (by omega) 1 _)
        have hb4 : Hid (Below w.heap.size w (w'.setCell ⟨Sb, 1, none⟩ (.slice B' 1 cb'))) := Lib.hid ((((HB.out.trans (hbW.out.mono hnb.out)).grown hgrow' hb9.out (fun j hj => (hon.out.lt j hj).1))).setCell (p := ⟨Sb, 1, none⟩) (by show w.heap.size ≤ Sb; omega) _)
        clear hown' hgrow' S3 q1 q2 HSQ hcl h1c hon hS9 hb9 hmx9 s0 s1 s2 f1 s1a a0 a1 HC HS HZ HB hbW hc3
        go_wp2
        go_roundw
        case rel => exact ⟨1, B', cb', by omega, by go_num, hc4.out, hs4.out, hz4.out, hb4.out⟩
        case measure => simp [intOf]
    · have hnb : Hid (w.heap.size ≤ wr.heap.size) := Lib.hid HB.out.size
      have s1a : ∀ o, (wr.alloc o).cell? ⟨Sb, 1, none⟩ = some (.slice B 1 cb) := fun o => Blk.cell (Blk.alloc HS.out o) 1
      have a0 : wr.cell? ⟨Ab, 1, none⟩ = some (.int .i64 30) := by rw [← HAb.out]; exact Blk.cell HC.out.a 1
      have a1 : ∀ o, (wr.alloc o).cell? ⟨Ab, 1, none⟩ = some (.int .i64 30) := fun o => by rw [← HAb.out]; exact Blk.cell (Blk.alloc HC.out.a o) 1
      have hdec : 26 ≠ 53 := by decide
      have h1c : Hid (∀ u ∈ (cellsP [fePod 113 30]), u.oneCell' = true) := Lib.hid (by
        intro u hu
        simp [cellsP, fePod] at hu
        rcases hu with rfl | rfl | rfl | rfl | rfl | rfl | rfl | rfl | rfl | rfl | rfl | rfl | rfl <;> rfl)
      have hbW : Hid (Below wr.heap.size wr ((wr.alloc (.cells (cellsP [fePod 113 30]).toArray 53)).drew)) := Lib.hid (((Below.refl _ _).alloc (Nat.le_refl _) _).drew)
      have hcl : Hid (∀ j u, (cellsP [fePod 113 30])[j]? = some u → World.cell? ((wr.alloc (.cells (cellsP [fePod 113 30]).toArray 53)).drew) ((⟨wr.heap.size, 0, none⟩ : Addr).add j) = some u) := Lib.hid (by
        intro j u hj
        rw [WideShapes.add_plain, Nat.zero_add, ← hj, ← List.getElem?_toArray]
        exact Blk.cell (Blk.new wr _ _) j)
      have hon : Hid (World.ownsRow ((wr.alloc (.cells (cellsP [fePod 113 30]).toArray 53)).drew) w.heap.size 53 15 (.slice B 1 cb) 1 (cellsP (feP.take 1))) := Lib.hid (show World.ownsRow _ _ _ _ _ _ _ from HC.out.p.alloc _)
      have hS9 : Hid (Blk ((wr.alloc (.cells (cellsP [fePod 113 30]).toArray 53)).drew) Sb #[Value.slice (some { block := w.heap.size + 1, off := 0 }) 2 2, .slice B 1 cb, Value.slice none 0 0] 26) := Lib.hid (Blk.alloc HS.out _)
      have hb9 : Hid (w.heap.size ≤ ((wr.alloc (.cells (cellsP [fePod 113 30]).toArray 53)).drew).heap.size) := Lib.hid (by have := hnb.out; show w.heap.size ≤ (wr.alloc _).heap.size; simp; omega)
      have hmx9 : Hid (1 + 1 ≤ maxLen) := Lib.hid (by unfold maxLen; omega)
      have hw1 : IntKind.i64.wrap 2 = 2 := by decide
      have he0 : (⟨#[112, 113, 114, 116]⟩ : ByteArray).extract 1 2 = ⟨#[113]⟩ := by decide
      clear hk
      go_wp2_with fail
      go_region_law (refine step_append_own rfl (.tmp 16) (.tmp 27) 23 rfl w.heap.size 53 i0 (.agg #[.string ⟨#[]⟩, .string ⟨#[]⟩, .int .i64 0, .int .i64 0, .int .i64 0, .int .i64 0, .int .i64 0, .slice none 0 0, .slice none 0 0, .slice none 0 0, .string ⟨#[]⟩, .slice none 0 0, .string ⟨#[]⟩, .slice none 0 0, .string ⟨#[]⟩]) 15 240 Tryz.underlying23 hi0 hz0 hz1 hz2 rfl (by decide) (.slice B 1 cb) 1 (cellsP (feP.take 1)) rfl hon.out ⟨wr.heap.size, 0, none⟩ 1 1 (cellsP [fePod 113 30]) rfl rfl hcl.out h1c.out hmx9.out (by decide) hb9.out (fun v' w' hown' hgrow' => ?_); obtain ⟨B', cb', rfl, hm'⟩ := La.own_slice hown'; have S3 := Lib.hid (ch_other hon.out hgrow' hS9.out hdec); have q1 := Blk.cell S3.out 1; have q2 := Blk.free S3.out 1)
      all_goals
        have HSQ := HSb.out
        have hc3 : Hid (FeAt w' w.heap.size (.slice B' 2 cb') 2) := Lib.hid (HC.out.step hbW.out hon.out hgrow' (show World.ownsRow _ _ _ _ _ _ _ from hown'))
        have hc4 : Hid (FeAt (w'.setCell ⟨Sb, 1, none⟩ (.slice B' 2 cb')) w.heap.size (.slice B' 2 cb') 2) := Lib.hid (hc3.out.set S3.out (by omega) hdec 1 _)
        have hs4 : Hid (Blk (w'.setCell ⟨Sb, 1, none⟩ (.slice B' 2 cb')) Sb #[Value.slice (some { block := w.heap.size + 1, off := 0 }) 2 2, .slice B' 2 cb', Value.slice none 0 0] 26) := Lib.hid (S3.out.set 1 _)
        have hz4 : Hid (Blk (w'.setCell ⟨Sb, 1, none⟩ (.slice B' 2 cb')) w.heap.size #[Value.slice none 0 0, Value.slice none 0 0, Value.slice none 0 0] 26) := Lib.hid (Blk.oth (ch_other hon.out hgrow' (HZ.out.below hbW.out HZ.out.lt) hdec) (by omega) 1 _)
        have hb4 : Hid (Below w.heap.size w (w'.setCell ⟨Sb, 1, none⟩ (.slice B' 2 cb'))) := Lib.hid ((((HB.out.trans (hbW.out.mono hnb.out)).grown hgrow' hb9.out (fun j hj => (hon.out.lt j hj).1))).setCell (p := ⟨Sb, 1, none⟩) (by show w.heap.size ≤ Sb; omega) _)
        clear hown' hgrow' S3 q1 q2 HSQ hcl h1c hon hS9 hb9 hmx9 s0 s1 s2 f1 s1a a0 a1 HC HS HZ HB hbW hc3
        go_wp2
        go_roundw
        case rel => exact ⟨2, B', cb', by omega, by go_num, hc4.out, hs4.out, hz4.out, hb4.out⟩
        case measure => simp [intOf]
    · have hnb : Hid (w.heap.size ≤ wr.heap.size) := Lib.hid HB.out.size
      have s1a : ∀ o, (wr.alloc o).cell? ⟨Sb, 1, none⟩ = some (.slice B 2 cb) := fun o => Blk.cell (Blk.alloc HS.out o) 1
      have a0 : wr.cell? ⟨Ab, 2, none⟩ = some (.int .i64 40) := by rw [← HAb.out]; exact Blk.cell HC.out.a 2
      have a1 : ∀ o, (wr.alloc o).cell? ⟨Ab, 2, none⟩ = some (.int .i64 40) := fun o => by rw [← HAb.out]; exact Blk.cell (Blk.alloc HC.out.a o) 2
      have hdec : 26 ≠ 53 := by decide
      have h1c : Hid (∀ u ∈ (cellsP [fePod 114 40]), u.oneCell' = true) := Lib.hid (by
        intro u hu
        simp [cellsP, fePod] at hu
        rcases hu with rfl | rfl | rfl | rfl | rfl | rfl | rfl | rfl | rfl | rfl | rfl | rfl | rfl <;> rfl)
      have hbW : Hid (Below wr.heap.size wr ((wr.alloc (.cells (cellsP [fePod 114 40]).toArray 53)).drew)) := Lib.hid (((Below.refl _ _).alloc (Nat.le_refl _) _).drew)
      have hcl : Hid (∀ j u, (cellsP [fePod 114 40])[j]? = some u → World.cell? ((wr.alloc (.cells (cellsP [fePod 114 40]).toArray 53)).drew) ((⟨wr.heap.size, 0, none⟩ : Addr).add j) = some u) := Lib.hid (by
        intro j u hj
        rw [WideShapes.add_plain, Nat.zero_add, ← hj, ← List.getElem?_toArray]
        exact Blk.cell (Blk.new wr _ _) j)
      have hon : Hid (World.ownsRow ((wr.alloc (.cells (cellsP [fePod 114 40]).toArray 53)).drew) w.heap.size 53 15 (.slice B 2 cb) 2 (cellsP (feP.take 2))) := Lib.hid (show World.ownsRow _ _ _ _ _ _ _ from HC.out.p.alloc _)
      have hS9 : Hid (Blk ((wr.alloc (.cells (cellsP [fePod 114 40]).toArray 53)).drew) Sb #[Value.slice (some { block := w.heap.size + 1, off := 0 }) 2 2, .slice B 2 cb, Value.slice none 0 0] 26) := Lib.hid (Blk.alloc HS.out _)
      have hb9 : Hid (w.heap.size ≤ ((wr.alloc (.cells (cellsP [fePod 114 40]).toArray 53)).drew).heap.size) := Lib.hid (by have := hnb.out; show w.heap.size ≤ (wr.alloc _).heap.size; simp; omega)
      have hmx9 : Hid (2 + 1 ≤ maxLen) := Lib.hid (by unfold maxLen; omega)
      have hw1 : IntKind.i64.wrap 3 = 3 := by decide
      have he0 : (⟨#[112, 113, 114, 116]⟩ : ByteArray).extract 2 3 = ⟨#[114]⟩ := by decide
      clear hk
      go_wp2_with fail
      go_region_law (refine step_append_own rfl (.tmp 16) (.tmp 27) 23 rfl w.heap.size 53 i0 (.agg #[.string ⟨#[]⟩, .string ⟨#[]⟩, .int .i64 0, .int .i64 0, .int .i64 0, .int .i64 0, .int .i64 0, .slice none 0 0, .slice none 0 0, .slice none 0 0, .string ⟨#[]⟩, .slice none 0 0, .string ⟨#[]⟩, .slice none 0 0, .string ⟨#[]⟩]) 15 240 Tryz.underlying23 hi0 hz0 hz1 hz2 rfl (by decide) (.slice B 2 cb) 2 (cellsP (feP.take 2)) rfl hon.out ⟨wr.heap.size, 0, none⟩ 1 1 (cellsP [fePod 114 40]) rfl rfl hcl.out h1c.out hmx9.out (by decide) hb9.out (fun v' w' hown' hgrow' => ?_); obtain ⟨B', cb', rfl, hm'⟩ := La.own_slice hown'; have S3 := Lib.hid (ch_other hon.out hgrow' hS9.out hdec); have q1 := Blk.cell S3.out 1; have q2 := Blk.free S3.out 1)
      all_goals
        have HSQ := HSb.out
        have hc3 : Hid (FeAt w' w.heap.size (.slice B' 3 cb') 3) := Lib.hid (HC.out.step hbW.out hon.out hgrow' (show World.ownsRow _ _ _ _ _ _ _ from hown'))
        have hc4 : Hid (FeAt (w'.setCell ⟨Sb, 1, none⟩ (.slice B' 3 cb')) w.heap.size (.slice B' 3 cb') 3) := Lib.hid (hc3.out.set S3.out (by omega) hdec 1 _)
        have hs4 : Hid (Blk (w'.setCell ⟨Sb, 1, none⟩ (.slice B' 3 cb')) Sb #[Value.slice (some { block := w.heap.size + 1, off := 0 }) 2 2, .slice B' 3 cb', Value.slice none 0 0] 26) := Lib.hid (S3.out.set 1 _)
        have hz4 : Hid (Blk (w'.setCell ⟨Sb, 1, none⟩ (.slice B' 3 cb')) w.heap.size #[Value.slice none 0 0, Value.slice none 0 0, Value.slice none 0 0] 26) := Lib.hid (Blk.oth (ch_other hon.out hgrow' (HZ.out.below hbW.out HZ.out.lt) hdec) (by omega) 1 _)
        have hb4 : Hid (Below w.heap.size w (w'.setCell ⟨Sb, 1, none⟩ (.slice B' 3 cb'))) := Lib.hid ((((HB.out.trans (hbW.out.mono hnb.out)).grown hgrow' hb9.out (fun j hj => (hon.out.lt j hj).1))).setCell (p := ⟨Sb, 1, none⟩) (by show w.heap.size ≤ Sb; omega) _)
        clear hown' hgrow' S3 q1 q2 HSQ hcl h1c hon hS9 hb9 hmx9 s0 s1 s2 f1 s1a a0 a1 HC HS HZ HB hbW hc3
        go_wp2
        go_roundw
        case rel => exact ⟨3, B', cb', by omega, by go_num, hc4.out, hs4.out, hz4.out, hb4.out⟩
        case measure => simp [intOf]
    · have hnb : Hid (w.heap.size ≤ wr.heap.size) := Lib.hid HB.out.size
      have s1a : ∀ o, (wr.alloc o).cell? ⟨Sb, 1, none⟩ = some (.slice B 3 cb) := fun o => Blk.cell (Blk.alloc HS.out o) 1
      have a0 : wr.cell? ⟨Ab, 3, none⟩ = some (.int .i64 20) := by rw [← HAb.out]; exact Blk.cell HC.out.a 3
      have a1 : ∀ o, (wr.alloc o).cell? ⟨Ab, 3, none⟩ = some (.int .i64 20) := fun o => by rw [← HAb.out]; exact Blk.cell (Blk.alloc HC.out.a o) 3
      have hdec : 26 ≠ 53 := by decide
      have h1c : Hid (∀ u ∈ (cellsP [fePod 116 20]), u.oneCell' = true) := Lib.hid (by
        intro u hu
        simp [cellsP, fePod] at hu
        rcases hu with rfl | rfl | rfl | rfl | rfl | rfl | rfl | rfl | rfl | rfl | rfl | rfl | rfl <;> rfl)
      have hbW : Hid (Below wr.heap.size wr ((wr.alloc (.cells (cellsP [fePod 116 20]).toArray 53)).drew)) := Lib.hid (((Below.refl _ _).alloc (Nat.le_refl _) _).drew)
      have hcl : Hid (∀ j u, (cellsP [fePod 116 20])[j]? = some u → World.cell? ((wr.alloc (.cells (cellsP [fePod 116 20]).toArray 53)).drew) ((⟨wr.heap.size, 0, none⟩ : Addr).add j) = some u) := Lib.hid (by
        intro j u hj
        rw [WideShapes.add_plain, Nat.zero_add, ← hj, ← List.getElem?_toArray]
        exact Blk.cell (Blk.new wr _ _) j)
      have hon : Hid (World.ownsRow ((wr.alloc (.cells (cellsP [fePod 116 20]).toArray 53)).drew) w.heap.size 53 15 (.slice B 3 cb) 3 (cellsP (feP.take 3))) := Lib.hid (show World.ownsRow _ _ _ _ _ _ _ from HC.out.p.alloc _)
      have hS9 : Hid (Blk ((wr.alloc (.cells (cellsP [fePod 116 20]).toArray 53)).drew) Sb #[Value.slice (some { block := w.heap.size + 1, off := 0 }) 2 2, .slice B 3 cb, Value.slice none 0 0] 26) := Lib.hid (Blk.alloc HS.out _)
      have hb9 : Hid (w.heap.size ≤ ((wr.alloc (.cells (cellsP [fePod 116 20]).toArray 53)).drew).heap.size) := Lib.hid (by have := hnb.out; show w.heap.size ≤ (wr.alloc _).heap.size; simp; omega)
      have hmx9 : Hid (3 + 1 ≤ maxLen) := Lib.hid (by unfold maxLen; omega)
      have hw1 : IntKind.i64.wrap 4 = 4 := by decide
      have he0 : (⟨#[112, 113, 114, 116]⟩ : ByteArray).extract 3 4 = ⟨#[116]⟩ := by decide
      clear hk
      go_wp2_with fail
      go_region_law (refine step_append_own rfl (.tmp 16) (.tmp 27) 23 rfl w.heap.size 53 i0 (.agg #[.string ⟨#[]⟩, .string ⟨#[]⟩, .int .i64 0, .int .i64 0, .int .i64 0, .int .i64 0, .int .i64 0, .slice none 0 0, .slice none 0 0, .slice none 0 0, .string ⟨#[]⟩, .slice none 0 0, .string ⟨#[]⟩, .slice none 0 0, .string ⟨#[]⟩]) 15 240 Tryz.underlying23 hi0 hz0 hz1 hz2 rfl (by decide) (.slice B 3 cb) 3 (cellsP (feP.take 3)) rfl hon.out ⟨wr.heap.size, 0, none⟩ 1 1 (cellsP [fePod 116 20]) rfl rfl hcl.out h1c.out hmx9.out (by decide) hb9.out (fun v' w' hown' hgrow' => ?_); obtain ⟨B', cb', rfl, hm'⟩ := La.own_slice hown'; have S3 := Lib.hid (ch_other hon.out hgrow' hS9.out hdec); have q1 := Blk.cell S3.out 1; have q2 := Blk.free S3.out 1)
      all_goals
        have HSQ := HSb.out
        have hc3 : Hid (FeAt w' w.heap.size (.slice B' 4 cb') 4) := Lib.hid (HC.out.step hbW.out hon.out hgrow' (show World.ownsRow _ _ _ _ _ _ _ from hown'))
        have hc4 : Hid (FeAt (w'.setCell ⟨Sb, 1, none⟩ (.slice B' 4 cb')) w.heap.size (.slice B' 4 cb') 4) := Lib.hid (hc3.out.set S3.out (by omega) hdec 1 _)
        have hs4 : Hid (Blk (w'.setCell ⟨Sb, 1, none⟩ (.slice B' 4 cb')) Sb #[Value.slice (some { block := w.heap.size + 1, off := 0 }) 2 2, .slice B' 4 cb', Value.slice none 0 0] 26) := Lib.hid (S3.out.set 1 _)
        have hz4 : Hid (Blk (w'.setCell ⟨Sb, 1, none⟩ (.slice B' 4 cb')) w.heap.size #[Value.slice none 0 0, Value.slice none 0 0, Value.slice none 0 0] 26) := Lib.hid (Blk.oth (ch_other hon.out hgrow' (HZ.out.below hbW.out HZ.out.lt) hdec) (by omega) 1 _)
        have hb4 : Hid (Below w.heap.size w (w'.setCell ⟨Sb, 1, none⟩ (.slice B' 4 cb'))) := Lib.hid ((((HB.out.trans (hbW.out.mono hnb.out)).grown hgrow' hb9.out (fun j hj => (hon.out.lt j hj).1))).setCell (p := ⟨Sb, 1, none⟩) (by show w.heap.size ≤ Sb; omega) _)
        clear hown' hgrow' S3 q1 q2 HSQ hcl h1c hon hS9 hb9 hmx9 s0 s1 s2 f1 s1a a0 a1 HC HS HZ HB hbW hc3
        go_wp2
        go_roundw
        case rel => exact ⟨4, B', cb', by omega, by go_num, hc4.out, hs4.out, hz4.out, hb4.out⟩
        case measure => simp [intOf]
    · have hd1 : 26 ≠ 53 := by decide
      have HZ1 := Lib.hid (HZ.out.set 0 (Value.slice (some { block := w.heap.size + 1, off := 0 }) 2 2))
      have HC1 := Lib.hid (HC.out.set HZ.out (by omega) hd1 0 (Value.slice (some { block := w.heap.size + 1, off := 0 }) 2 2))
      have HZ2 := Lib.hid (HZ1.out.set 1 (.slice B 4 cb))
      have HC2 := Lib.hid (HC1.out.set HZ1.out (by omega) hd1 1 (.slice B 4 cb))
      have HZ3 := Lib.hid (HZ2.out.set 2 (Value.slice none 0 0))
      have HC3 := Lib.hid (HC2.out.set HZ2.out (by omega) hd1 2 (Value.slice none 0 0))
      have HB3 := Lib.hid (((HB.out.setCell (p := ⟨w.heap.size, 0, none⟩) (Nat.le_refl _) (Value.slice (some { block := w.heap.size + 1, off := 0 }) 2 2)).setCell (p := ⟨w.heap.size, 1, none⟩) (Nat.le_refl _) (.slice B 4 cb)).setCell (p := ⟨w.heap.size, 2, none⟩) (Nat.le_refl _) (Value.slice none 0 0))
      have y0 := Blk.cell HZ.out 0
      have y1 := Blk.cell HZ.out 1
      have y2 := Blk.cell HZ.out 2
      have g0 := Blk.free HZ.out 0
      have g1 := Blk.free HZ.out 1
      have g2 := Blk.free HZ.out 2
      clear hd1
      go_wp2
      have HZ4 : Hid (Blk (((wr.setCell ⟨w.heap.size, 0, none⟩ (Value.slice (some { block := w.heap.size + 1, off := 0 }) 2 2)).setCell ⟨w.heap.size, 1, none⟩ (.slice B 4 cb)).setCell ⟨w.heap.size, 2, none⟩ (Value.slice none 0 0)) w.heap.size #[Value.slice (some { block := w.heap.size + 1, off := 0 }) 2 2, .slice B 4 cb, Value.slice none 0 0] 26) := Lib.hid HZ3.out
      refine bodyPost_f1 Tryz.results26 w.heap.size _ _ _ _ ?d1 ?p1 HZ4.out Tryz.underlying26 rfl (by kernel_rfl) ?_
      case d1 => rfl
      case p1 => rfl
      exact ⟨B, cb, rfl, HC3.out, HB3.out⟩
theorem FeAt.snap {w : World} {N : Nat} {B : Option Addr} {cb : Nat} (h : FeAt w N (.slice B 4 cb) 4) : SnapIn w (some ⟨N + 1, 0, none⟩) B none 2 cb 0 feN feP [] := by
  have nolab : ListL w none 0 [] := ⟨by simp, by omega, fun j y hj => by simp [La.cellsL] at hj, fun x hx => by cases hx⟩
  have noter : ListT w none 0 [] := ⟨by simp, by omega, fun j y hj => by simp [La.cellsT] at hj, fun x hx => by cases hx⟩
  have hcap : 4 ≤ cb ∧ cb ≤ maxLen := by
    rcases h.p.2 with ⟨e, _⟩ | ⟨g, cap, cur, e, _, _, h1, h2, _⟩
    · cases e
    · cases e
      exact ⟨h1, h2⟩
  refine ⟨⟨fun j y hj => ⟨N + 1, 0, rfl, ?_⟩, fun x hx => ?_⟩, ⟨La.own_slat h.p, fun x hx => ?_⟩, fun j y hj => (by simp [cellsO] at hj), fun x hx => (by cases hx), ⟨by simp [feN], by omega⟩, ⟨by simp [feP]; omega, by have := hcap.2; unfold maxLen at this; omega⟩, ⟨by simp, by omega⟩⟩
  · rw [Nat.zero_add, Blk.cell h.n j, ← hj, ← List.getElem?_toArray]
  · simp only [feN, List.mem_cons, List.not_mem_nil, or_false] at hx
    rcases hx with rfl | rfl <;> exact ⟨nolab, nolab, by simp [feNode]⟩
  · simp only [feP, List.mem_cons, List.not_mem_nil, or_false] at hx
    rcases hx with rfl | rfl | rfl | rfl <;> exact ⟨nolab, noter, nolab, noter, noter, by simp [fePod]⟩
end Go.Proofs.YtmmokiaipfalmaaGreat

namespace Go.Proofs.YtmmokiaipfalmaaGreat
open Go.RowKit Go.Maps

/-- A row of so many numbers, as cells. -/
def rowF (n : Nat) (F : Nat → Int) : Array Value := ((List.range n).map (fun i => Value.int .i64 (F i))).toArray
theorem rowF_size (n : Nat) (F : Nat → Int) : (rowF n F).size = n := by simp [rowF]
theorem rowF_get {n : Nat} {F : Nat → Int} {i : Nat} (h : i < n) : (rowF n F)[i]? = some (.int .i64 (F i)) := by
  simp [rowF, h]
theorem rowF_set {n : Nat} {F : Nat → Int} {k : Nat} (v : Int) : (rowF n F).setIfInBounds k (.int .i64 v) = rowF n (fun i => if i = k then v else F i) := by
  apply Array.ext_getElem?
  intro i
  rw [Array.getElem?_setIfInBounds]
  by_cases hk : k = i
  · subst hk
    by_cases hi : k < n
    · rw [if_pos rfl, rowF_size, if_pos hi, rowF_get hi, if_pos rfl]
    · rw [if_pos rfl, rowF_size, if_neg hi, Array.getElem?_eq_none (by rw [rowF_size]; omega)]
  · rw [if_neg hk]
    by_cases hi : i < n
    · rw [rowF_get hi, rowF_get hi, if_neg (fun e => hk e.symm)]
    · simp [rowF, hi]
theorem sizes_size : (Tryz.prog.info? 117).map (·.size) = some 24 := by kernel_rfl
theorem sizesOf_zero (F : Nat → Int) (h : ∀ i, i < 24 → F i = 0) : rowF 24 F = #[.int .i64 0, .int .i64 0, .int .i64 0, .int .i64 0, .int .i64 0, .int .i64 0, .int .i64 0, .int .i64 0, .int .i64 0, .int .i64 0, .int .i64 0, .int .i64 0, .int .i64 0, .int .i64 0, .int .i64 0, .int .i64 0, .int .i64 0, .int .i64 0, .int .i64 0, .int .i64 0, .int .i64 0, .int .i64 0, .int .i64 0, .int .i64 0] := by
  have e : rowF 24 F = rowF 24 (fun _ => 0) := by
    apply Array.ext_getElem?
    intro i
    by_cases hi : i < 24
    · rw [rowF_get hi, rowF_get hi, h i hi]
    · simp [rowF, hi]
  rw [e]
  rfl
/-- How great the first k pods are. -/
def sizeK (ns : List NodeD) (ps : List PodD) (k : Nat) : Nat → Int := fun i => if i < k then sizeU ns ps i else 0
set_option maxRecDepth 100000 in
set_option maxHeartbeats 16000000 in
theorem sizesOf_any (A B C : Option Addr) (ca cb cc : Nat) (ns : List NodeD) (ps : List PodD) (os : List OwnD) (hck : checkS ns ps os = 0) (w : World) (h : SnapIn w A B C ca cb cc ns ps os) :
    Calls Tryz.prog 83 #[snapV A B C ca cb cc ns ps os] w fun e w' => e = .returned (.agg (rowF 24 (sizeU ns ps))) ∧ Below w.heap.size w w' := by
  have mixed : (Tryz.prog).follows Departure.mixedOrders = true := by kernel_rfl
  have HRB := Lib.hid (fun x (hx : x ∈ ps) => req_bounds hck hx)
  have HCB := Lib.hid (fun x (hx : x ∈ ns) => cap_bounds hck hx)
  have H := Lib.hid h
  have hp24 : ps.length ≤ 24 := (checkS_few (by rw [hck]; decide)).2.1
  have E0 : Hid (rowF 24 (sizeK ns ps 0) = #[.int .i64 0, .int .i64 0, .int .i64 0, .int .i64 0, .int .i64 0, .int .i64 0, .int .i64 0, .int .i64 0, .int .i64 0, .int .i64 0, .int .i64 0, .int .i64 0, .int .i64 0, .int .i64 0, .int .i64 0, .int .i64 0, .int .i64 0, .int .i64 0, .int .i64 0, .int .i64 0, .int .i64 0, .int .i64 0, .int .i64 0, .int .i64 0]) := Lib.hid (sizesOf_zero _ (fun i _ => by unfold sizeK; rw [if_neg (by omega)]))
  have KM := Lib.hid (fun W' (hb : Below w.heap.size w W') => mostOf_any A B C ca cb cc ns ps os hck W' (h.low hb))
  have HMR : Hid (∀ j, j < 5 → 0 ≤ mostL ns j ∧ mostL ns j ≤ 1099511627776) := Lib.hid (fun j hj => mostL_range (by omega) (fun y hy => ((HCB.out y hy) j hj).2))
  clear h hck HCB
  have S0 : Hid (Blk (w.alloc (.cells (snapC A B C ca cb cc ns ps os) 26)) w.heap.size (snapC A B C ca cb cc ns ps os) 26) := Lib.hid (Blk.new w _ _)
  have S1 : Hid (Blk ((w.alloc (.cells (snapC A B C ca cb cc ns ps os) 26)).alloc (.cells #[.int .i64 0, .int .i64 0, .int .i64 0, .int .i64 0, .int .i64 0, .int .i64 0, .int .i64 0, .int .i64 0, .int .i64 0, .int .i64 0, .int .i64 0, .int .i64 0, .int .i64 0, .int .i64 0, .int .i64 0, .int .i64 0, .int .i64 0, .int .i64 0, .int .i64 0, .int .i64 0, .int .i64 0, .int .i64 0, .int .i64 0, .int .i64 0] 117)) w.heap.size (snapC A B C ca cb cc ns ps os) 26) := Lib.hid (Blk.alloc S0.out _)
  have R1 : Hid (Blk ((w.alloc (.cells (snapC A B C ca cb cc ns ps os) 26)).alloc (.cells #[.int .i64 0, .int .i64 0, .int .i64 0, .int .i64 0, .int .i64 0, .int .i64 0, .int .i64 0, .int .i64 0, .int .i64 0, .int .i64 0, .int .i64 0, .int .i64 0, .int .i64 0, .int .i64 0, .int .i64 0, .int .i64 0, .int .i64 0, .int .i64 0, .int .i64 0, .int .i64 0, .int .i64 0, .int .i64 0, .int .i64 0, .int .i64 0] 117)) (w.heap.size + 1) #[.int .i64 0, .int .i64 0, .int .i64 0, .int .i64 0, .int .i64 0, .int .i64 0, .int .i64 0, .int .i64 0, .int .i64 0, .int .i64 0, .int .i64 0, .int .i64 0, .int .i64 0, .int .i64 0, .int .i64 0, .int .i64 0, .int .i64 0, .int .i64 0, .int .i64 0, .int .i64 0, .int .i64 0, .int .i64 0, .int .i64 0, .int .i64 0] 117) := Lib.hid (by
    have h2 := Blk.new (w.alloc (.cells (snapC A B C ca cb cc ns ps os) 26)) #[.int .i64 0, .int .i64 0, .int .i64 0, .int .i64 0, .int .i64 0, .int .i64 0, .int .i64 0, .int .i64 0, .int .i64 0, .int .i64 0, .int .i64 0, .int .i64 0, .int .i64 0, .int .i64 0, .int .i64 0, .int .i64 0, .int .i64 0, .int .i64 0, .int .i64 0, .int .i64 0, .int .i64 0, .int .i64 0, .int .i64 0, .int .i64 0] 117
    rw [World.size_alloc] at h2
    exact h2)
  have B1 : Hid (Below w.heap.size w ((w.alloc (.cells (snapC A B C ca cb cc ns ps os) 26)).alloc (.cells #[.int .i64 0, .int .i64 0, .int .i64 0, .int .i64 0, .int .i64 0, .int .i64 0, .int .i64 0, .int .i64 0, .int .i64 0, .int .i64 0, .int .i64 0, .int .i64 0, .int .i64 0, .int .i64 0, .int .i64 0, .int .i64 0, .int .i64 0, .int .i64 0, .int .i64 0, .int .i64 0, .int .i64 0, .int .i64 0, .int .i64 0, .int .i64 0] 117))) := Lib.hid (Qu.below2 w _ _)
  clear S0
  go_enter Tryz.func83, Tryz.ntmps83
  go_upto_region 1 with fail
  try change Code.wp _ _ _ _ ((w.alloc (.cells (snapC A B C ca cb cc ns ps os) 26)).alloc (.cells #[.int .i64 0, .int .i64 0, .int .i64 0, .int .i64 0, .int .i64 0, .int .i64 0, .int .i64 0, .int .i64 0, .int .i64 0, .int .i64 0, .int .i64 0, .int .i64 0, .int .i64 0, .int .i64 0, .int .i64 0, .int .i64 0, .int .i64 0, .int .i64 0, .int .i64 0, .int .i64 0, .int .i64 0, .int .i64 0, .int .i64 0, .int .i64 0] 117))
  generalize ((w.alloc (.cells (snapC A B C ca cb cc ns ps os) 26)).alloc (.cells #[.int .i64 0, .int .i64 0, .int .i64 0, .int .i64 0, .int .i64 0, .int .i64 0, .int .i64 0, .int .i64 0, .int .i64 0, .int .i64 0, .int .i64 0, .int .i64 0, .int .i64 0, .int .i64 0, .int .i64 0, .int .i64 0, .int .i64 0, .int .i64 0, .int .i64 0, .int .i64 0, .int .i64 0, .int .i64 0, .int .i64 0, .int .i64 0] 117)) = W0 at S1 R1 B1 ⊢
  obtain ⟨Rb, hRb⟩ : ∃ b, w.heap.size + 1 = b := ⟨_, rfl⟩
  have HRb := Lib.hid hRb
  rw [hRb] at R1 ⊢
  clear hRb
  have KM1 := Lib.hid (KM.out W0 B1.out)
  have z0 : W0.cell? ⟨w.heap.size, 0, none⟩ = some (.slice A ns.length ca) := Blk.cell S1.out 0
  go_wp2_with fail
  refine (KM1.out).mono ?_
  rintro e W1 ⟨rfl, hb⟩
  have S2 := Lib.hid (S1.out.below hb S1.out.lt)
  have R2 := Lib.hid (R1.out.below hb R1.out.lt)
  have B2 := Lib.hid (B1.out.trans (hb.mono B1.out.size))
  clear hb KM KM1 S1 R1 B1 z0
  have M2 : Hid (Qu.RowAt ((W1.alloc (.cells #[.int .i64 (mostL ns 0), .int .i64 (mostL ns 1), .int .i64 (mostL ns 2), .int .i64 (mostL ns 3), .int .i64 (mostL ns 4)] 47)).alloc (.cells #[.int .i64 0, .int .i64 0, .int .i64 0, .int .i64 0, .int .i64 0, .int .i64 0, .int .i64 0, .int .i64 0, .int .i64 0, .int .i64 0, .int .i64 0, .int .i64 0, .int .i64 0, .int .i64 0, .int .i64 0, .int .i64 0, .int .i64 0, .int .i64 0, .int .i64 0, .int .i64 0, .int .i64 0, .int .i64 0, .int .i64 0, .int .i64 0] 117)) W1.heap.size (mostL ns)) := Lib.hid (Qu.RowAt.alloc (Qu.RowAt.new W1 (mostL ns)) _)
  have L2 : Hid (Blk ((W1.alloc (.cells #[.int .i64 (mostL ns 0), .int .i64 (mostL ns 1), .int .i64 (mostL ns 2), .int .i64 (mostL ns 3), .int .i64 (mostL ns 4)] 47)).alloc (.cells #[.int .i64 0, .int .i64 0, .int .i64 0, .int .i64 0, .int .i64 0, .int .i64 0, .int .i64 0, .int .i64 0, .int .i64 0, .int .i64 0, .int .i64 0, .int .i64 0, .int .i64 0, .int .i64 0, .int .i64 0, .int .i64 0, .int .i64 0, .int .i64 0, .int .i64 0, .int .i64 0, .int .i64 0, .int .i64 0, .int .i64 0, .int .i64 0] 117)) (W1.heap.size + 1) (rowF 24 (sizeK ns ps 0)) 117) := Lib.hid (by
    rw [E0.out]
    have h2 := Blk.new (W1.alloc (.cells #[.int .i64 (mostL ns 0), .int .i64 (mostL ns 1), .int .i64 (mostL ns 2), .int .i64 (mostL ns 3), .int .i64 (mostL ns 4)] 47)) #[.int .i64 0, .int .i64 0, .int .i64 0, .int .i64 0, .int .i64 0, .int .i64 0, .int .i64 0, .int .i64 0, .int .i64 0, .int .i64 0, .int .i64 0, .int .i64 0, .int .i64 0, .int .i64 0, .int .i64 0, .int .i64 0, .int .i64 0, .int .i64 0, .int .i64 0, .int .i64 0, .int .i64 0, .int .i64 0, .int .i64 0, .int .i64 0] 117
    rw [World.size_alloc] at h2
    exact h2)
  have S3 : Hid (Blk ((W1.alloc (.cells #[.int .i64 (mostL ns 0), .int .i64 (mostL ns 1), .int .i64 (mostL ns 2), .int .i64 (mostL ns 3), .int .i64 (mostL ns 4)] 47)).alloc (.cells #[.int .i64 0, .int .i64 0, .int .i64 0, .int .i64 0, .int .i64 0, .int .i64 0, .int .i64 0, .int .i64 0, .int .i64 0, .int .i64 0, .int .i64 0, .int .i64 0, .int .i64 0, .int .i64 0, .int .i64 0, .int .i64 0, .int .i64 0, .int .i64 0, .int .i64 0, .int .i64 0, .int .i64 0, .int .i64 0, .int .i64 0, .int .i64 0] 117)) w.heap.size (snapC A B C ca cb cc ns ps os) 26) := Lib.hid (Blk.alloc (Blk.alloc S2.out _) _)
  have R3 : Hid (Blk ((W1.alloc (.cells #[.int .i64 (mostL ns 0), .int .i64 (mostL ns 1), .int .i64 (mostL ns 2), .int .i64 (mostL ns 3), .int .i64 (mostL ns 4)] 47)).alloc (.cells #[.int .i64 0, .int .i64 0, .int .i64 0, .int .i64 0, .int .i64 0, .int .i64 0, .int .i64 0, .int .i64 0, .int .i64 0, .int .i64 0, .int .i64 0, .int .i64 0, .int .i64 0, .int .i64 0, .int .i64 0, .int .i64 0, .int .i64 0, .int .i64 0, .int .i64 0, .int .i64 0, .int .i64 0, .int .i64 0, .int .i64 0, .int .i64 0] 117)) Rb #[.int .i64 0, .int .i64 0, .int .i64 0, .int .i64 0, .int .i64 0, .int .i64 0, .int .i64 0, .int .i64 0, .int .i64 0, .int .i64 0, .int .i64 0, .int .i64 0, .int .i64 0, .int .i64 0, .int .i64 0, .int .i64 0, .int .i64 0, .int .i64 0, .int .i64 0, .int .i64 0, .int .i64 0, .int .i64 0, .int .i64 0, .int .i64 0] 117) := Lib.hid (Blk.alloc (Blk.alloc R2.out _) _)
  have B3 : Hid (Below w.heap.size w ((W1.alloc (.cells #[.int .i64 (mostL ns 0), .int .i64 (mostL ns 1), .int .i64 (mostL ns 2), .int .i64 (mostL ns 3), .int .i64 (mostL ns 4)] 47)).alloc (.cells #[.int .i64 0, .int .i64 0, .int .i64 0, .int .i64 0, .int .i64 0, .int .i64 0, .int .i64 0, .int .i64 0, .int .i64 0, .int .i64 0, .int .i64 0, .int .i64 0, .int .i64 0, .int .i64 0, .int .i64 0, .int .i64 0, .int .i64 0, .int .i64 0, .int .i64 0, .int .i64 0, .int .i64 0, .int .i64 0, .int .i64 0, .int .i64 0] 117))) := Lib.hid (B2.out.trans ((Qu.below2 W1 _ _).mono B2.out.size))
  have hRW : Hid (Rb < W1.heap.size) := Lib.hid R2.out.lt
  go_upto_region 3 with fail
  try change Code.wp _ _ _ _ ((W1.alloc (.cells #[.int .i64 (mostL ns 0), .int .i64 (mostL ns 1), .int .i64 (mostL ns 2), .int .i64 (mostL ns 3), .int .i64 (mostL ns 4)] 47)).alloc (.cells #[.int .i64 0, .int .i64 0, .int .i64 0, .int .i64 0, .int .i64 0, .int .i64 0, .int .i64 0, .int .i64 0, .int .i64 0, .int .i64 0, .int .i64 0, .int .i64 0, .int .i64 0, .int .i64 0, .int .i64 0, .int .i64 0, .int .i64 0, .int .i64 0, .int .i64 0, .int .i64 0, .int .i64 0, .int .i64 0, .int .i64 0, .int .i64 0] 117))
  generalize ((W1.alloc (.cells #[.int .i64 (mostL ns 0), .int .i64 (mostL ns 1), .int .i64 (mostL ns 2), .int .i64 (mostL ns 3), .int .i64 (mostL ns 4)] 47)).alloc (.cells #[.int .i64 0, .int .i64 0, .int .i64 0, .int .i64 0, .int .i64 0, .int .i64 0, .int .i64 0, .int .i64 0, .int .i64 0, .int .i64 0, .int .i64 0, .int .i64 0, .int .i64 0, .int .i64 0, .int .i64 0, .int .i64 0, .int .i64 0, .int .i64 0, .int .i64 0, .int .i64 0, .int .i64 0, .int .i64 0, .int .i64 0, .int .i64 0] 117)) = W2 at M2 L2 S3 R3 B3 ⊢
  clear S2 R2 B2
  obtain ⟨Mb, hMb⟩ : ∃ b, W1.heap.size = b := ⟨_, rfl⟩
  rw [hMb] at M2 L2 hRW ⊢
  clear hMb
  obtain ⟨Lb, hLb⟩ : ∃ b, Mb + 1 = b := ⟨_, rfl⟩
  have HLb := Lib.hid hLb
  rw [hLb] at L2 ⊢
  clear hLb
  have z1 : W2.cell? ⟨w.heap.size, 1, none⟩ = some (.slice B ps.length cb) := Blk.cell S3.out 1
  go_wp2_with fail
  clear z1
  have HWL : Hid (w.heap.size ≤ Lb) := Lib.hid (by have := HLb.out; have := hRW.out; have := HRb.out; omega)
  go_loopw [15] (fun i wr => ∃ k : Nat, k ≤ ps.length ∧ i = .int .i64 (k : Int) ∧ Blk wr Lb (rowF 24 (sizeK ns ps k)) 117 ∧ Qu.RowAt wr Mb (mostL ns) ∧ Blk wr Rb #[.int .i64 0, .int .i64 0, .int .i64 0, .int .i64 0, .int .i64 0, .int .i64 0, .int .i64 0, .int .i64 0, .int .i64 0, .int .i64 0, .int .i64 0, .int .i64 0, .int .i64 0, .int .i64 0, .int .i64 0, .int .i64 0, .int .i64 0, .int .i64 0, .int .i64 0, .int .i64 0, .int .i64 0, .int .i64 0, .int .i64 0, .int .i64 0] 117 ∧ Below w.heap.size w wr) (fun i _ => ps.length - (intOf i).toNat)
  case atStart => exact ⟨0, by omega, rfl, L2.out, M2.out, R3.out, B3.out⟩
  case round =>
    clear L2 M2 R3 B3 S3
    obtain ⟨k, hk, rfl, hl, hm, hr, hb⟩ := hrel
    have HL := Lib.hid hl
    have HM := Lib.hid hm
    have HR := Lib.hid hr
    have HB := Lib.hid hb
    clear hl hm hr hb
    by_cases hlt : k < ps.length
    case neg =>
      obtain rfl : k = ps.length := by omega
      have HL2 : Hid (Blk wr Lb (rowF 24 (sizeU ns ps)) 117) := Lib.hid (by
        have e : rowF 24 (sizeK ns ps ps.length) = rowF 24 (sizeU ns ps) := by
          apply Array.ext_getElem?
          intro i
          by_cases hi : i < 24
          · rw [rowF_get hi, rowF_get hi]
            unfold sizeK
            by_cases h2 : i < ps.length
            · rw [if_pos h2]
            · rw [if_neg h2]
              unfold sizeU
              rw [List.getElem?_eq_none (by omega)]
          · simp [rowF, hi]
        rw [← e]
        exact HL.out)
      clear HL HRB HMR H E0
      generalize hcs : rowF 24 (sizeU ns ps) = cs at HL2
      have hsz : cs.size = 24 := by rw [← hcs]; exact rowF_size _ _
      have HCS := Lib.hid hcs
      have HSZ : Hid ((Tryz.prog.info? 117).map (·.size) = some cs.size) := Lib.hid (by rw [hsz]; exact sizes_size)
      clear hcs hsz
      go_wp2_with (first | refine wpList_load_row rfl 117 (.tmp 4) rfl Lb rfl 117 _ (0, 0) _ HL2.out Tryz.underlying117 rfl HSZ.out ?_ | refine wpList_store_row rfl 117 (.tmp 2) (.tmp 44) rfl Rb _ rfl rfl 117 _ HR.out HSZ.out (by kernel_rfl) (by kernel_rfl) ?_)
      refine bodyPost_f1 Tryz.results83 Rb _ _ _ _ ?d1 ?p1 (Blk.put HR.out cs) Tryz.underlying117 rfl HSZ.out ?_
      case d1 => rfl
      case p1 => rfl
      exact ⟨by rw [HCS.out], below_setRow HB.out (by have := HRb.out; omega) _⟩
    obtain ⟨x, hx⟩ : ∃ x, ps[k]? = some x := ⟨ps[k], List.getElem?_eq_getElem hlt⟩
    obtain ⟨b, o, hA, hbl, c0, c1, c2, c3, c4, c5, c6, c7, c8, c9, c10, c11, c12, c13, c14⟩ := atP (H.out.low HB.out).p.cells hx
    subst hA
    have k0 : (0 : Int) ≤ (k : Int) := by omega
    have k1 : (k : Int) < (ps.length : Int) := by omega
    have k24 : k < 24 := by omega
    have hrb := HRB.out x (List.mem_of_getElem? hx)
    have HU : Hid (sizeU ns ps k = sizeS (mostL ns) x.req 5) := Lib.hid (by unfold sizeU; rw [hx])
    have HSR := Lib.hid (fun j hj => sizeS_range (most := mostL ns) (req := x.req) hrb j hj)
    have HLa := Lib.hid (fun o => Blk.alloc HL.out o)
    have HMa := Lib.hid (fun o => Qu.RowAt.alloc HM.out o)
    have HRa := Lib.hid (fun o => Blk.alloc HR.out o)
    have HBa := Lib.hid (fun o => HB.out.alloc HB.out.size o)
    have ES : Hid (∀ j, sizeS (mostL ns) x.req (j + 1) = if 0 < mostL ns j then max (sizeS (mostL ns) x.req j) ((1000 * x.req j).tdiv (mostL ns j)) else sizeS (mostL ns) x.req j) := Lib.hid (fun j => rfl)
    have ES0 : Hid (sizeS (mostL ns) x.req 0 = 0) := Lib.hid rfl
    generalize sizeS (mostL ns) x.req = SS at HU HSR ES ES0
    clear HL HM HR HB
    go_wp2_with fail
    go_loopw [22] (fun i wq => ∃ j : Nat, j ≤ 5 ∧ i = .int .i64 (j : Int) ∧ Blk wq Lb (rowF 24 (fun i => if i = k then SS j else sizeK ns ps k i)) 117 ∧ Qu.RowAt wq Mb (mostL ns) ∧ Blk wq Rb #[.int .i64 0, .int .i64 0, .int .i64 0, .int .i64 0, .int .i64 0, .int .i64 0, .int .i64 0, .int .i64 0, .int .i64 0, .int .i64 0, .int .i64 0, .int .i64 0, .int .i64 0, .int .i64 0, .int .i64 0, .int .i64 0, .int .i64 0, .int .i64 0, .int .i64 0, .int .i64 0, .int .i64 0, .int .i64 0, .int .i64 0, .int .i64 0] 117 ∧ Below w.heap.size w wq) (fun i _ => 5 - (intOf i).toNat)
    case atStart =>
      refine ⟨0, by omega, rfl, ?_, HMa.out _, HRa.out _, HBa.out _⟩
      have e : rowF 24 (fun i => if i = k then SS 0 else sizeK ns ps k i) = rowF 24 (sizeK ns ps k) := by
        congr 1
        funext i
        by_cases hi : i = k
        · rw [if_pos hi, ES0.out, hi]
          unfold sizeK
          rw [if_neg (by omega)]
        · rw [if_neg hi]
      rw [e]
      exact HLa.out _
    case round =>
      clear HLa HMa HRa HBa c0 c1 c2 c3 c4 c5 c6 c7 c8 c9 c10 c11 c12 c13 c14 hrb
      obtain ⟨j, hj, rfl, hl, hm, hr, hb⟩ := hrel
      have HL := Lib.hid hl
      have HM := Lib.hid hm
      have HR := Lib.hid hr
      have HB := Lib.hid hb
      clear hl hm hr hb
      by_cases h5 : j < 5
      case neg =>
        obtain rfl : j = 5 := by omega
        have HL2 : Hid (Blk wr Lb (rowF 24 (sizeK ns ps (k + 1))) 117) := Lib.hid (by
          have e : rowF 24 (fun i => if i = k then SS 5 else sizeK ns ps k i) = rowF 24 (sizeK ns ps (k + 1)) := by
            congr 1
            funext i
            unfold sizeK
            by_cases hi : i = k
            · rw [if_pos hi, hi, if_pos (by omega), HU.out]
            · rw [if_neg hi]
              by_cases h6 : i < k
              · rw [if_pos h6, if_pos (by omega)]
              · rw [if_neg h6, if_neg (by omega)]
          rw [← e]
          exact HL.out)
        clear HL ES ES0 HSR HU
        go_wp2_with fail
        go_roundw
        case rel => exact ⟨k + 1, by omega, by go_num, HL2.out, HM.out, HR.out, HB.out⟩
        case measure => simp [intOf] <;> omega
      have ix := fun w => cap_ix x.req j h5 w
      have j0 : (0 : Int) ≤ (j : Int) := by omega
      have j1 : (j : Int) < 5 := by omega
      have kl : (k : Int) < 24 := by omega
      have cm := Qu.RowAt.cell HM.out h5
      have EJ := Lib.hid (ES.out j)
      obtain ⟨m0, m1⟩ := HMR.out j h5
      obtain ⟨q0, q1⟩ := HRB.out x (List.mem_of_getElem? hx) j h5
      obtain ⟨s0, s1⟩ := HSR.out j (by omega)
      have hS2 := HSR.out (j + 1) (by omega)
      have ck : wr.cell? ⟨Lb, k, none⟩ = some (.int .i64 (SS j)) := by
        rw [Blk.cell HL.out k, rowF_get k24, if_pos rfl]
      have fk := Blk.free HL.out k
      have HLs : Hid (Blk (wr.setCell ⟨Lb, k, none⟩ (.int .i64 (SS (j + 1)))) Lb (rowF 24 (fun i => if i = k then SS (j + 1) else sizeK ns ps k i)) 117) := Lib.hid (by
        have h2 := Blk.set HL.out k (.int .i64 (SS (j + 1)))
        rw [rowF_set] at h2
        have e : (fun i => if i = k then SS (j + 1) else if i = k then SS j else sizeK ns ps k i) = (fun i => if i = k then SS (j + 1) else sizeK ns ps k i) := by
          funext i
          by_cases hi : i = k
          · rw [if_pos hi, if_pos hi]
          · rw [if_neg hi, if_neg hi, if_neg hi]
        rw [e] at h2
        exact h2)
      have HMs : Hid (Qu.RowAt (wr.setCell ⟨Lb, k, none⟩ (.int .i64 (SS (j + 1)))) Mb (mostL ns)) := Lib.hid (Qu.RowAt.other HM.out _ _ (by have := HLb.out; show Mb ≠ Lb; omega))
      have HRs : Hid (Blk (wr.setCell ⟨Lb, k, none⟩ (.int .i64 (SS (j + 1)))) Rb #[.int .i64 0, .int .i64 0, .int .i64 0, .int .i64 0, .int .i64 0, .int .i64 0, .int .i64 0, .int .i64 0, .int .i64 0, .int .i64 0, .int .i64 0, .int .i64 0, .int .i64 0, .int .i64 0, .int .i64 0, .int .i64 0, .int .i64 0, .int .i64 0, .int .i64 0, .int .i64 0, .int .i64 0, .int .i64 0, .int .i64 0, .int .i64 0] 117) := Lib.hid (Blk.oth HR.out (by have := HLb.out; have := hRW.out; omega) _ _)
      have HBs : Hid (Below w.heap.size w (wr.setCell ⟨Lb, k, none⟩ (.int .i64 (SS (j + 1))))) := Lib.hid (HB.out.setCell (p := ⟨Lb, k, none⟩) HWL.out _)
      by_cases hp : 0 < mostL ns j
      · have EQ : Hid (SS (j + 1) = max (SS j) ((1000 * x.req j).tdiv (mostL ns j))) := Lib.hid (by rw [EJ.out, if_pos hp])
        have hq2 : (1000 * x.req j).tdiv (mostL ns j) ≤ 1099511627776000 := by
          have := hS2.2
          rw [EQ.out] at this
          omega
        have hq3 : 0 ≤ (1000 * x.req j).tdiv (mostL ns j) := Int.tdiv_nonneg (by omega) m0
        clear EJ ES ES0 HSR HMR HRB HU
        generalize hSv : SS (j + 1) = v at EQ HLs HMs HRs HBs
        have HSv := Lib.hid hSv
        clear hSv
        generalize SS j = a at s0 s1 ck EQ
        generalize mostL ns j = m at m0 m1 cm hp EQ hq2 hq3
        generalize x.req j = c at q0 q1 ix EQ hq2 hq3
        have w1 : IntKind.i64.wrap (1000 * c) = 1000 * c := IntWalk.i64_in _ (by omega)
        have w2 : IntKind.i64.wrap ((1000 * c).tdiv m) = (1000 * c).tdiv m := IntWalk.i64_in _ (by omega)
        have hpd : decide (0 < m) = true := decide_eq_true hp
        have hz : (m == 0) = false := by rw [beq_eq_false_iff_ne]; omega
        have hz2 : m ≠ 0 := by omega
        have hv : max a ((1000 * c).tdiv m) = v := EQ.out.symm
        clear EQ HL HM HR HB hq2 hq3 hS2
        go_wp2_with fail
        go_big_region_o
        all_goals
          (try rw [hv])
          have HLd : Hid (Blk (wr.setCell ⟨Lb, k, none⟩ (.int .i64 v)).drew Lb (rowF 24 (fun i => if i = k then v else sizeK ns ps k i)) 117) := Lib.hid HLs.out
          have HMd : Hid (Qu.RowAt (wr.setCell ⟨Lb, k, none⟩ (.int .i64 v)).drew Mb (mostL ns)) := Lib.hid HMs.out
          have HRd : Hid (Blk (wr.setCell ⟨Lb, k, none⟩ (.int .i64 v)).drew Rb #[.int .i64 0, .int .i64 0, .int .i64 0, .int .i64 0, .int .i64 0, .int .i64 0, .int .i64 0, .int .i64 0, .int .i64 0, .int .i64 0, .int .i64 0, .int .i64 0, .int .i64 0, .int .i64 0, .int .i64 0, .int .i64 0, .int .i64 0, .int .i64 0, .int .i64 0, .int .i64 0, .int .i64 0, .int .i64 0, .int .i64 0, .int .i64 0] 117) := Lib.hid HRs.out
          have HBd : Hid (Below w.heap.size w (wr.setCell ⟨Lb, k, none⟩ (.int .i64 v)).drew) := Lib.hid HBs.out.drew
          clear HLs HMs HRs HBs
          go_wp2_with fail
          go_roundw
          case rel => exact ⟨j + 1, by omega, by go_num, by rw [HSv.out]; exact HLd.out, HMd.out, HRd.out, HBd.out⟩
          case measure => simp [intOf] <;> omega
      · have EQ : Hid (SS (j + 1) = SS j) := Lib.hid (by rw [EJ.out, if_neg hp])
        have hpd : decide (0 < mostL ns j) = false := decide_eq_false hp
        clear EJ ES ES0 HSR HMR HRB HU HLs HMs HRs HBs ck fk
        go_wp2_with fail
        go_roundw
        case rel => exact ⟨j + 1, by omega, by go_num, by rw [EQ.out]; exact HL.out, HM.out, HR.out, HB.out⟩
        case measure => simp [intOf] <;> omega
end Go.Proofs.YtmmokiaipfalmaaGreat

namespace Go.Proofs.YtmmokiaipfalmaaGreat
open Go.RowKit Go.Maps

/-- A row of 24 yes or no, as cells. -/
def rowY (f : Nat → Bool) : Array Value := ((List.range 24).map (fun i => Value.bool (f i))).toArray
theorem rowY_size (f : Nat → Bool) : (rowY f).size = 24 := by simp [rowY]
theorem rowY_get {f : Nat → Bool} {i : Nat} (h : i < 24) : (rowY f)[i]? = some (.bool (f i)) := by
  simp [rowY, h]
theorem rowY_congr {f g : Nat → Bool} (h : ∀ i, i < 24 → f i = g i) : rowY f = rowY g := by
  apply Array.ext_getElem?
  intro i
  by_cases hi : i < 24
  · rw [rowY_get hi, rowY_get hi, h i hi]
  · simp [rowY, hi]
theorem rowY_set {f : Nat → Bool} {k : Nat} (v : Bool) : (rowY f).setIfInBounds k (.bool v) = rowY (fun i => if i = k then v else f i) := by
  apply Array.ext_getElem?
  intro i
  rw [Array.getElem?_setIfInBounds]
  by_cases hk : k = i
  · subst hk
    by_cases hi : k < 24
    · rw [if_pos rfl, rowY_size, if_pos hi, rowY_get hi, if_pos rfl]
    · rw [if_pos rfl, rowY_size, if_neg hi, Array.getElem?_eq_none (by rw [rowY_size]; omega)]
  · rw [if_neg hk]
    by_cases hi : i < 24
    · rw [rowY_get hi, rowY_get hi, if_neg (fun e => hk e.symm)]
    · simp [rowY, hi]
theorem yes_size : (Tryz.prog.info? 129).map (·.size) = some 24 := by kernel_rfl
theorem yes_ix (f : Nat → Bool) (w : World) : ∀ k : Nat, k < 24 → (Instr.index 129 (.agg (rowY f)) (.int .i64 (k : Int))).run Tryz.prog w = .ok (.bool (f k)) w
  | 0, _ => by kernel_rfl
  | 1, _ => by kernel_rfl
  | 2, _ => by kernel_rfl
  | 3, _ => by kernel_rfl
  | 4, _ => by kernel_rfl
  | 5, _ => by kernel_rfl
  | 6, _ => by kernel_rfl
  | 7, _ => by kernel_rfl
  | 8, _ => by kernel_rfl
  | 9, _ => by kernel_rfl
  | 10, _ => by kernel_rfl
  | 11, _ => by kernel_rfl
  | 12, _ => by kernel_rfl
  | 13, _ => by kernel_rfl
  | 14, _ => by kernel_rfl
  | 15, _ => by kernel_rfl
  | 16, _ => by kernel_rfl
  | 17, _ => by kernel_rfl
  | 18, _ => by kernel_rfl
  | 19, _ => by kernel_rfl
  | 20, _ => by kernel_rfl
  | 21, _ => by kernel_rfl
  | 22, _ => by kernel_rfl
  | 23, _ => by kernel_rfl
  | k + 24, h => absurd h (by omega)
/-- Is a number told ahead of place k? -/
def thereB (pods : List Int) (n k : Nat) : Nat → Bool := fun i => decide (i < n) && (pods.take k).contains (i : Int)
/-- Those of the first k that are there. -/
def thereL (f : Nat → Bool) (k : Nat) : List Int := ((List.range k).filter f).map (fun i : Nat => (i : Int))
theorem thereL_snoc (f : Nat → Bool) (k : Nat) : thereL f (k + 1) = thereL f k ++ (if f k then [(k : Int)] else []) := by
  unfold thereL
  rw [List.range_succ, List.filter_append, List.map_append]
  cases h : f k <;> simp [h]
theorem thereL_len (f : Nat → Bool) (k : Nat) : (thereL f k).length ≤ k := by
  unfold thereL
  rw [List.length_map]
  have := List.length_filter_le f (List.range k)
  rw [List.length_range] at this
  exact this
theorem there_is (pods : List Int) (n : Nat) : thereL (thereB pods n pods.length) 24 = (amongL pods n).map (fun i : Nat => (i : Int)) := by
  unfold thereL amongL thereB
  rw [List.take_length]
set_option maxRecDepth 100000 in
set_option maxHeartbeats 16000000 in
theorem among_any (D : Option Addr) (cd : Nat) (pods : List Int) (n : Nat) (hn : n ≤ 24) (w : World) (hD : IntsAt w D cd pods) :
    Calls Tryz.prog 82 #[.slice D pods.length cd, .int .i64 (n : Int)] w fun e w' => ∃ v, e = .returned v ∧ w'.ownsRow w.heap.size 3 1 v (amongL pods n).length (intsC ((amongL pods n).map (fun i : Nat => (i : Int)))) ∧ Below w.heap.size w w' := by
  obtain ⟨i0, hi0, hz0, hz1, hz2⟩ := info_parts Qu.int_info
  have ET := Lib.hid (there_is pods n)
  have HD := Lib.hid hD
  have KP := Lib.hid (fun i W' => isPlaceF_any i (n : Int) W')
  have hmost := Nat.le_trans hD.le hD.most
  have Q0 : Hid (Blk (w.alloc (.cells #[.bool false, .bool false, .bool false, .bool false, .bool false, .bool false, .bool false, .bool false, .bool false, .bool false, .bool false, .bool false, .bool false, .bool false, .bool false, .bool false, .bool false, .bool false, .bool false, .bool false, .bool false, .bool false, .bool false, .bool false] 129)) w.heap.size (rowY (thereB pods n 0)) 129) := Lib.hid (by
    have e : rowY (thereB pods n 0) = #[.bool false, .bool false, .bool false, .bool false, .bool false, .bool false, .bool false, .bool false, .bool false, .bool false, .bool false, .bool false, .bool false, .bool false, .bool false, .bool false, .bool false, .bool false, .bool false, .bool false, .bool false, .bool false, .bool false, .bool false] := (rowY_congr (g := fun _ => false) (fun i _ => by unfold thereB; simp)).trans rfl
    rw [e]
    exact Blk.new w _ _)
  have B0 : Hid (Below w.heap.size w (w.alloc (.cells #[.bool false, .bool false, .bool false, .bool false, .bool false, .bool false, .bool false, .bool false, .bool false, .bool false, .bool false, .bool false, .bool false, .bool false, .bool false, .bool false, .bool false, .bool false, .bool false, .bool false, .bool false, .bool false, .bool false, .bool false] 129))) := Lib.hid (below1 w _)
  clear hD
  go_enter Tryz.func82, Tryz.ntmps82
  go_upto_region 2 with fail
  try change Code.wp _ _ _ _ (w.alloc (.cells #[.bool false, .bool false, .bool false, .bool false, .bool false, .bool false, .bool false, .bool false, .bool false, .bool false, .bool false, .bool false, .bool false, .bool false, .bool false, .bool false, .bool false, .bool false, .bool false, .bool false, .bool false, .bool false, .bool false, .bool false] 129))
  generalize (w.alloc (.cells #[.bool false, .bool false, .bool false, .bool false, .bool false, .bool false, .bool false, .bool false, .bool false, .bool false, .bool false, .bool false, .bool false, .bool false, .bool false, .bool false, .bool false, .bool false, .bool false, .bool false, .bool false, .bool false, .bool false, .bool false] 129)) = W0 at Q0 B0 ⊢
  obtain ⟨Tb, hTb⟩ : ∃ b, w.heap.size = b := ⟨_, rfl⟩
  have HTB : Hid (w.heap.size = Tb) := Lib.hid hTb
  rw [hTb] at Q0 ⊢
  clear hTb
  go_wp2_with fail
  go_loopw [13] (fun i wr => ∃ k : Nat, k ≤ pods.length ∧ i = .int .i64 (k : Int) ∧ Blk wr Tb (rowY (thereB pods n k)) 129 ∧ Below w.heap.size w wr) (fun i _ => pods.length - (intOf i).toNat)
  case atStart => exact ⟨0, by omega, rfl, Q0.out, B0.out⟩
  case round =>
    clear Q0 B0
    obtain ⟨k, hk, rfl, hq, hb⟩ := hrel
    have HQ := Lib.hid hq
    have HB := Lib.hid hb
    clear hq hb
    by_cases hlt : k < pods.length
    case neg =>
      obtain rfl : k = pods.length := by omega
      generalize hf : thereB pods n pods.length = f at HQ ET
      clear hf KP HD
      have ix := fun k (h : k < 24) w => yes_ix f w k h
      have HIX := Lib.hid ix
      clear ix
      obtain ⟨w2, hw2⟩ : ∃ w2, w2 = wr := ⟨_, rfl⟩
      subst hw2
      have HSZ : Hid ((Tryz.prog.info? 129).map (·.size) = some (rowY f).size) := Lib.hid (by rw [rowY_size]; exact yes_size)
      go_wp2_with (refine wpList_load_row rfl 129 (.tmp 5) rfl Tb rfl 129 _ (0, 0) _ HQ.out Tryz.underlying129 rfl HSZ.out ?_)
      go_loopw [8, 24] (fun v i wq => ∃ j : Nat, j ≤ 24 ∧ i = .int .i64 (j : Int) ∧ wq.ownsRow w2.heap.size 3 1 v (thereL f j).length (intsC (thereL f j)) ∧ Below w2.heap.size w2 wq) (fun _ i _ => 24 - (intOf i).toNat)
      case atStart => exact ⟨0, by omega, rfl, World.ownsRow_nil _ _ _ _, Below.refl _ _⟩
      case round =>
        obtain ⟨j, hj, rfl, ho, hb⟩ := hrel
        have HO := Lib.hid ho
        have HB1 := Lib.hid hb
        clear ho hb
        by_cases h24 : j < 24
        case neg =>
          obtain rfl : j = 24 := by omega
          have D := Lib.hid (HB.out.trans (HB1.out.mono HB.out.size))
          have HO2 := Lib.hid (own_base HO.out HB.out.size)
          have hle : Hid ((amongL pods n).length = (thereL f 24).length) := Lib.hid (by rw [ET.out, List.length_map])
          clear HO HB HB1 HIX HSZ HQ
          go_wp2
          go_ret
          refine ⟨_, rfl, ?_, D.out⟩
          rw [hle.out, ← ET.out]
          exact HO2.out
        have ix := HIX.out j h24
        have j0 : (0 : Int) ≤ (j : Int) := by omega
        have j1 : (j : Int) < 24 := by omega
        have HS := Lib.hid (thereL_snoc f j)
        have hlen := thereL_len f j
        generalize thereL f j = L at HO HS hlen
        generalize hL' : thereL f (j + 1) = L' at HS
        have HL' := Lib.hid hL'
        clear hL'
        cases hf : f j with
        | false =>
          have HE : Hid (L' = L) := Lib.hid (by rw [HS.out, hf]; simp)
          rw [hf] at ix
          clear HS hf
          go_wp2_with fail
          go_roundw
          case rel => exact ⟨j + 1, by omega, by go_num, by rw [HL'.out, HE.out]; exact HO.out, HB1.out⟩
          case measure => simp [intOf] <;> omega
        | true =>
          have HE : Hid (L' = L ++ [(j : Int)]) := Lib.hid (by rw [HS.out, hf]; simp)
          rw [hf] at ix
          clear HS hf
          go_wp2_with (at_builtin; refine wpList_append_own _ rfl _ _ 27 rfl w2.heap.size 3 i0 (.int .i64 0) 1 8 Tryz.underlying27 hi0 hz0 hz1 hz2 rfl (by decide) _ _ _ rfl (show World.ownsRow _ _ _ _ _ _ _ from HO.out.alloc _) ⟨wr.heap.size, 0, none⟩ 1 1 [.int .i64 (j : Int)] rfl rfl ?c1 ?c2 ?c3 ?c4 ?c5 ?_)
          case c1 =>
            intro t u hj
            match t, hj with
            | 0, hj => simp at hj; subst hj; simp [Addr.add]
          case c2 => first | rfl | (intro u hu; simp at hu; subst hu; rfl)
          case c3 => unfold maxLen; omega
          case c4 => omega
          case c5 => have := HB1.out.size; simp; omega
          intro v4 w4 hown4 hgrow4 _
          have P4 := Lib.hid hown4
          have D4 := Lib.hid ((HB1.out.alloc HB1.out.size (.cells #[.int .i64 (j : Int)] 3)).grown hgrow4 (by have := HB1.out.size; simp; omega) (fun t ht => own_gem HO.out ht))
          clear hown4 hgrow4
          go_wp2_with fail
          go_roundw
          case rel =>
            refine ⟨j + 1, by omega, by go_num, ?_, D4.out⟩
            rw [HL'.out, HE.out, List.length_append]
            have := P4.out
            simpa [intsC] using this
          case measure => simp [intOf] <;> omega
    obtain ⟨x, hx⟩ : ∃ x, pods[k]? = some x := ⟨pods[k], List.getElem?_eq_getElem hlt⟩
    obtain ⟨b, o, hA, hbl, c0⟩ := atI (HD.out.below HB.out).cells hx
    subst hA
    have k0 : (0 : Int) ≤ (k : Int) := by omega
    have k1 : (k : Int) < (pods.length : Int) := by omega
    have HTK : Hid (∀ i, thereB pods n (k + 1) i = (thereB pods n k i || (decide (i < n) && decide ((i : Int) = x)))) := Lib.hid (fun i => by
      unfold thereB
      rw [List.take_add_one, hx, Option.toList_some, List.contains_eq_mem, List.contains_eq_mem]
      by_cases hin : i < n
      · by_cases h1 : (i : Int) ∈ pods.take k
        · simp [hin, h1]
        · by_cases h2 : (i : Int) = x
          · simp [hin, h1, h2]
          · simp [hin, h1, h2]
      · simp [hin])
    by_cases hp : 0 ≤ x ∧ x < (n : Int)
    · obtain ⟨m, hm⟩ : ∃ m : Nat, x = (m : Int) := ⟨x.toNat, by omega⟩
      subst hm
      have hmn : m < n := by omega
      have KP1 : Hid (∀ W', Calls Tryz.prog 79 #[.int .i64 (m : Int), .int .i64 (n : Int)] W' fun e w' => e = .returned (.bool true) ∧ w' = W') := Lib.hid (fun W' => by
        have e : (decide (0 ≤ (m : Int)) && decide ((m : Int) < (n : Int))) = true := by rw [← Bool.decide_and]; exact decide_eq_true hp
        rw [← e]
        exact KP.out _ W')
      have m0 : (0 : Int) ≤ (m : Int) := by omega
      have m1 : (m : Int) < 24 := by omega
      have cm : wr.cell? ⟨Tb, m, none⟩ = some (.bool (thereB pods n k m)) := by rw [Blk.cell HQ.out m, rowY_get (by omega)]
      have fm := Blk.free HQ.out m
      have HQs : Hid (Blk (wr.setCell ⟨Tb, m, none⟩ (.bool true)) Tb (rowY (thereB pods n (k + 1))) 129) := Lib.hid (by
        have h2 := Blk.set HQ.out m (.bool true)
        rw [rowY_set] at h2
        have e : rowY (fun i => if i = m then true else thereB pods n k i) = rowY (thereB pods n (k + 1)) := rowY_congr (fun i _ => by
          rw [HTK.out]
          by_cases him : i = m
          · rw [if_pos him]
            have h3 : decide (i < n) = true := decide_eq_true (by omega)
            have h4 : decide ((i : Int) = (m : Int)) = true := decide_eq_true (by omega)
            rw [h3, h4]
            simp
          · rw [if_neg him]
            have h4 : decide ((i : Int) = (m : Int)) = false := decide_eq_false (by omega)
            rw [h4]
            simp)
        rw [← e]
        exact h2)
      have HBs : Hid (Below w.heap.size w (wr.setCell ⟨Tb, m, none⟩ (.bool true))) := Lib.hid (HB.out.setCell (p := ⟨Tb, m, none⟩) (by have := HTB.out; show w.heap.size ≤ Tb; omega) _)
      clear HTK HQ HB hp hmn hx
      go_wp2_with fail
      refine (KP1.out _).mono ?_
      rintro e w1 ⟨rfl, rfl⟩
      go_wp2_with fail
      go_roundw
      case rel => exact ⟨k + 1, by omega, by go_num, HQs.out, HBs.out⟩
      case measure => simp [intOf] <;> omega
    · have KP1 : Hid (∀ W', Calls Tryz.prog 79 #[.int .i64 x, .int .i64 (n : Int)] W' fun e w' => e = .returned (.bool false) ∧ w' = W') := Lib.hid (fun W' => by
        have e : (decide (0 ≤ x) && decide (x < (n : Int))) = false := by rw [← Bool.decide_and]; exact decide_eq_false hp
        rw [← e]
        exact KP.out _ W')
      have HQs : Hid (Blk wr Tb (rowY (thereB pods n (k + 1))) 129) := Lib.hid (by
        have e : rowY (thereB pods n (k + 1)) = rowY (thereB pods n k) := rowY_congr (fun i _ => by
          rw [HTK.out]
          have h4 : (decide (i < n) && decide ((i : Int) = x)) = false := by
            rw [← Bool.decide_and]
            exact decide_eq_false (fun h => hp ⟨by omega, by omega⟩)
          rw [h4, Bool.or_false])
        rw [e]
        exact HQ.out)
      clear HTK HQ hp hx
      go_wp2_with fail
      refine (KP1.out _).mono ?_
      rintro e w1 ⟨rfl, rfl⟩
      go_wp2_with fail
      go_roundw
      case rel => exact ⟨k + 1, by omega, by go_num, HQs.out, HB.out⟩
      case measure => simp [intOf] <;> omega
end Go.Proofs.YtmmokiaipfalmaaGreat

namespace Go.Proofs.YtmmokiaipfalmaaGreat
open Go.RowKit Go.Maps

/-- Is a pod ahead of another one? -/
def ltP (F : Nat → Int) (x y : Nat) : Bool := decide (cmpS F x y < 0)
theorem ltP_swo (F : Nat → Int) : Go.Sort.SWO (ltP F) where
  irrefl x := by
    unfold ltP
    rw [decide_eq_false_iff_not, cmpS_lt]
    omega
  trans x y z h1 h2 := by
    unfold ltP at *
    rw [decide_eq_true_eq] at *
    exact cmpS_trans h1 h2
  ntrans x y z h1 h2 := by
    unfold ltP at *
    rw [decide_eq_false_iff_not, cmpS_lt] at *
    omega
/-- What is asked of the comparing function. -/
def CmpOk (RV : Value) (F : Nat → Int) : Prop := ∀ x y : Nat, x < 24 → y < 24 → ∀ W, Calls Tryz.prog 84 #[RV, .int .i64 (x : Int), .int .i64 (y : Int)] W fun e w' => e = .returned (.int .i64 (cmpS F x y)) ∧ ∃ q os', w' = Go.Sort.grow (W.drewN q) os'
/-- A row in the making: it lies in block b, its numbers are below 24; what is below b is as it was. -/
structure Srt (w : World) (b n : Nat) (d : Array Nat) (W : World) : Prop where
  r : RowB W b n (fun k => d[k]!)
  w : Below b w W
  z : d.size = n
  l : ∀ i : Nat, d[i]! < 24
theorem below_grow {B : Nat} {a W : World} (h : Below B a W) (hB : B ≤ W.heap.size) (q : Nat) (os : Array Obj) : Below B a (Go.Sort.grow (W.drewN q) os) :=
  ⟨h.os, h.tape, h.output, by rw [Go.Sort.size_grow]; exact Nat.le_trans h.size (Nat.le_add_right _ _), fun k hk => (Go.Sort.heap_grow_old (W.drewN q) os (Nat.lt_of_lt_of_le hk hB)).trans (h.block k hk)⟩
theorem Srt.cl {w W : World} {b n : Nat} {d : Array Nat} (h : Srt w b n d W) (i : Nat) (hi : i < n) (q : Nat) (os : Array Obj) : (Go.Sort.grow (W.drewN q) os).cell? ⟨b, i, none⟩ = some (.int .i64 ((d[i]! : Nat) : Int)) :=
  Go.cell_grown (a := ⟨b, i, none⟩) h.r.lt (h.r.c i hi).1 q os
theorem Srt.grown {w W : World} {b n : Nat} {d : Array Nat} (h : Srt w b n d W) (q : Nat) (os : Array Obj) : Srt w b n d (Go.Sort.grow (W.drewN q) os) :=
  ⟨⟨by rw [Go.Sort.size_grow]; exact Nat.lt_of_lt_of_le h.r.lt (Nat.le_add_right _ _), fun i hi => ⟨h.cl i hi q os, (Go.Sort.frozen?_grow (W.drewN q) os ⟨b, i, none⟩ h.r.lt).trans (h.r.c i hi).2⟩⟩, below_grow h.w (Nat.le_of_lt h.r.lt) q os, h.z, h.l⟩
theorem Srt.drew {w W : World} {b n : Nat} {d : Array Nat} (h : Srt w b n d W) : Srt w b n d W.drew := ⟨⟨h.r.lt, fun i hi => h.r.c i hi⟩, h.w.drew, h.z, h.l⟩
theorem Srt.swap {w W : World} {b n i j : Nat} {d : Array Nat} (h : Srt w b n d W) (hi : i < n) (hj : j < n) : Srt w b n (Go.Sort.swp d i j) ((W.setCell ⟨b, i, none⟩ (.int .i64 ((d[j]! : Nat) : Int))).setCell ⟨b, j, none⟩ (.int .i64 ((d[i]! : Nat) : Int))).drew := by
  have h1 := (h.r.set hi (d[j]!)).set (k := j) hj (d[i]!)
  have e : ∀ k, (Go.Sort.swp d i j)[k]! = if k = j then d[i]! else if k = i then d[j]! else d[k]! := fun k => Go.Sort.swp_get d (by rw [h.z]; exact hi) (by rw [h.z]; exact hj) k
  refine ⟨⟨h1.lt, fun k hk => ?_⟩, (((h.w.setCell (p := ⟨b, i, none⟩) (Nat.le_refl _) _).setCell (p := ⟨b, j, none⟩) (Nat.le_refl _) _)).drew, by rw [Go.Sort.swp_size]; exact h.z, fun k => ?_⟩
  · have h2 := h1.c k hk
    show _ = some (Value.int .i64 (((Go.Sort.swp d i j)[k]! : Nat) : Int)) ∧ _
    rw [e k]
    exact h2
  · rw [e k]
    split
    · exact h.l i
    · split
      · exact h.l j
      · exact h.l k
theorem Srt.c2 {w W : World} {b n : Nat} {d : Array Nat} (h : Srt w b n d W) (i j : Nat) (hi : i < n) (hj : j < n) (v : Value) : ∃ u, (W.setCell ⟨b, i, none⟩ v).cell? ⟨b, j, none⟩ = some u := by
  by_cases e : i = j
  · subst e
    exact ⟨v, World.cell?_setCell_same _ _ _ (h.r.c i hi).1⟩
  · exact ⟨_, (World.cell?_setCell_other _ _ _ _ (by intro e'; cases e'; exact e rfl)).trans (h.r.c j hj).1⟩
set_option maxRecDepth 1000000 in
set_option maxHeartbeats 16000000 in
theorem insP (F : Nat → Int) (RV : Value) (hC : CmpOk RV F) (b n cap : Nat) (hn : n ≤ 24) (w : World) (a z : Nat) (d : Array Nat) (W : World) (hS : Srt w b n d W) (haz : a ≤ z) (hz : z ≤ n) :
    Calls Tryz.prog 283 #[.slice (some ⟨b, 0, none⟩) n cap, .int .i64 (a : Int), .int .i64 (z : Int), .func (.func 84) #[RV] #[]] W fun e w' => e = .returned (.tuple #[]) ∧ Srt w b n (Go.Sort.insertionSort (ltP F) d a z) w' := by
  have mixed : (Tryz.prog).follows Departure.mixedOrders = true := by kernel_rfl
  have HC := Lib.hid hC
  have S0 := Lib.hid hS
  have hds0 := hS.z
  clear hC hS
  go_enter Tryz.func283, Tryz.ntmps283
  go_wp2_with fail
  go_loopw [8] (fun vi wr => ∃ (i : Nat) (dk : Array Nat), vi = .int .i64 (i : Int) ∧ a < i ∧ i ≤ z + 1 ∧ Srt w b n dk wr ∧ Hid (Go.Sort.insOuter (ltP F) a z i dk = Go.Sort.insOuter (ltP F) a z (a + 1) d)) (fun vi _ => z + 1 - (intOf vi).toNat)
  case atStart => exact ⟨a + 1, d, by go_num, by omega, by omega, S0.out, Lib.hid rfl⟩
  case round =>
    clear S0
    obtain ⟨i, dk, rfl, hai, hiz, hs1, HO⟩ := hrel
    have S1 := Lib.hid hs1
    clear hs1
    by_cases hlt : i < z
    case neg =>
      have t : decide (i < z) = false := decide_eq_false hlt
      have t2 : ¬ ((i : Int) < (z : Int)) := by omega
      go_wp2_with fail
      go_end0
      refine ⟨rfl, ?_⟩
      unfold Go.Sort.insertionSort
      rw [← HO.out, Go.Proofs.insOuter_stop _ _ _ _ _ hlt]
      exact S1.out
    have t : decide (i < z) = true := decide_eq_true hlt
    have t2 : (i : Int) < (z : Int) := by omega
    go_wp2_with fail
    go_loopw [9] (fun vj wq => ∃ (j : Nat) (dj : Array Nat), vj = .int .i64 (j : Int) ∧ a ≤ j ∧ j ≤ i ∧ Srt w b n dj wq ∧ Hid (Go.Sort.insInner (ltP F) a j dj = Go.Sort.insInner (ltP F) a i dk)) (fun vj _ => (intOf vj).toNat)
    case atStart => exact ⟨i, dk, rfl, by omega, by omega, S1.out, Lib.hid rfl⟩
    case round =>
      clear S1
      obtain ⟨j, dj, rfl, haj, hji, hs1, HI⟩ := hrel
      have S1 := Lib.hid hs1
      clear hs1
      have OUT : Hid ((j ≤ a ∨ ltP F dj[j]! dj[j - 1]! = false) → Hid (Go.Sort.insOuter (ltP F) a z (i + 1) dj = Go.Sort.insOuter (ltP F) a z (a + 1) d)) := Lib.hid (fun hs => Lib.hid (by
        rw [← HO.out, Go.Proofs.insOuter_go _ _ _ _ _ hlt, ← HI.out, Go.Proofs.insInner_stop _ _ _ _ hs]))
      by_cases hja : a < j
      case neg =>
        have t3 : decide (a < j) = false := decide_eq_false hja
        have t4 : ¬ ((a : Int) < (j : Int)) := by omega
        have t5 : decide ((a : Int) < (j : Int)) = false := decide_eq_false t4
        go_wp2_with fail
        go_big_region_o
        have S2 : Hid (Srt w b n dj wr.drew) := Lib.hid S1.out.drew
        clear S1
        generalize wr.drew = w2 at S2 ⊢
        go_wp2_with fail
        go_roundw
        case rel => exact ⟨i + 1, dj, by go_num, by omega, by omega, S2.out, OUT.out (Or.inl (by omega))⟩
        case measure => simp [intOf] <;> omega
      obtain ⟨q, hq⟩ : ∃ q, j = q + 1 := ⟨j - 1, by omega⟩
      have hw1 : IntKind.i64.wrap ((j : Int) - 1) = (q : Int) := by rw [IntWalk.i64_in _ (by omega)]; omega
      have t3 : decide (a < j) = true := decide_eq_true hja
      have t4 : (a : Int) < (j : Int) := by omega
      have t5 : decide ((a : Int) < (j : Int)) = true := decide_eq_true t4
      have hq1 : j - 1 = q := by omega
      have HQ := Lib.hid hq
      have HQ1 := Lib.hid hq1
      have q0 : q < n := by omega
      have j0 : j < n := by omega
      have aq : a ≤ q := by omega
      have qi : q ≤ i := by omega
      rw [hq1] at OUT
      clear hq hq1
      cases hlv : ltP F dj[j]! dj[q]! with
      | true =>
        have HG : Hid (Go.Sort.insInner (ltP F) a q (Go.Sort.swp dj j q) = Go.Sort.insInner (ltP F) a i dk) := Lib.hid (by
          rw [← HI.out, Go.Proofs.insInner_go (ltP F) a j dj hja (by rw [HQ1.out]; exact hlv), HQ1.out])
        clear OUT
        have pi1 : (0 : Int) ≤ (j : Int) := by omega
        have bi1 : (j : Int) < (n : Int) := by omega
        have pj1 : (0 : Int) ≤ (q : Int) := by omega
        have bj1 : (q : Int) < (n : Int) := by omega
        obtain ⟨x1, hx1⟩ : ∃ x, x = dj[j]! := ⟨_, rfl⟩
        obtain ⟨y1, hy1⟩ : ∃ x, x = dj[q]! := ⟨_, rfl⟩
        have la1 := S1.out.cl (j) (by omega)
        have lb1 := S1.out.cl (q) (by omega)
        rw [← hx1] at la1
        rw [← hy1] at lb1
        have hc1 := Lib.hid (fun q os => HC.out x1 y1 (by rw [hx1]; exact S1.out.l _) (by rw [hy1]; exact S1.out.l _) (Go.Sort.grow (wr.drewN q) os))
        have hd1 : decide (cmpS F x1 y1 < 0) = true := by rw [hx1, hy1]; exact hlv
        have hv1 : cmpS F x1 y1 < 0 := of_decide_eq_true hd1
        clear hx1 hy1
        go_wp2_with fail
        go_quiet_grown (first | (go_at_call 84; refine Go.Calls.grown_of (hc1.out _ _)))
        have S2 : Hid (Srt w b n dj (Go.Sort.grow (wr.drewN nq) osq)) := Lib.hid (S1.out.grown nq osq)
        clear la1 lb1 hc1 S1
        generalize Go.Sort.grow (wr.drewN nq) osq = w2 at S2 ⊢
        clear nq osq pi1 bi1 pj1 bj1 hd1 hv1
        clear hlv
        go_wp2_with fail
        have pi2 : (0 : Int) ≤ (j : Int) := by omega
        have bi2 : (j : Int) < (n : Int) := by omega
        have pj2 : (0 : Int) ≤ (q : Int) := by omega
        have bj2 : (q : Int) < (n : Int) := by omega
        obtain ⟨x2, hx2⟩ : ∃ x, x = dj[j]! := ⟨_, rfl⟩
        obtain ⟨y2, hy2⟩ : ∃ x, x = dj[q]! := ⟨_, rfl⟩
        have S3 : Hid (Srt w b n (Go.Sort.swp dj (j) (q)) ((w2.setCell ⟨b, j, none⟩ (.int .i64 (y2 : Int))).setCell ⟨b, q, none⟩ (.int .i64 (x2 : Int))).drew) := Lib.hid (by rw [hx2, hy2]; exact S2.out.swap (i := j) (j := q) (by omega) (by omega))
        obtain ⟨ca2, fa2⟩ := S2.out.r.c (j) (by omega)
        obtain ⟨cb2, fb2⟩ := S2.out.r.c (q) (by omega)
        obtain ⟨u2, cc2⟩ := S2.out.c2 (j) (q) (by omega) (by omega) (.int .i64 (y2 : Int))
        rw [← hx2] at ca2
        rw [← hy2] at cb2
        clear S2 hx2 hy2
        go_wp2_with fail
        go_big_region_o
        clear ca2 cb2 cc2 fa2 fb2
        generalize ((w2.setCell ⟨b, j, none⟩ (.int .i64 (y2 : Int))).setCell ⟨b, q, none⟩ (.int .i64 (x2 : Int))).drew = w3 at S3 ⊢
        clear pi2 bi2 pj2 bj2
        go_wp2_with fail
        go_roundw
        case rel => exact ⟨q, Go.Sort.swp dj j q, by go_num, aq, qi, S3.out, HG⟩
        case measure => simp [intOf]; have := HQ.out; omega
      | false =>
        have HG := OUT.out (Or.inr hlv)
        clear OUT
        have pi3 : (0 : Int) ≤ (j : Int) := by omega
        have bi3 : (j : Int) < (n : Int) := by omega
        have pj3 : (0 : Int) ≤ (q : Int) := by omega
        have bj3 : (q : Int) < (n : Int) := by omega
        obtain ⟨x3, hx3⟩ : ∃ x, x = dj[j]! := ⟨_, rfl⟩
        obtain ⟨y3, hy3⟩ : ∃ x, x = dj[q]! := ⟨_, rfl⟩
        have la3 := S1.out.cl (j) (by omega)
        have lb3 := S1.out.cl (q) (by omega)
        rw [← hx3] at la3
        rw [← hy3] at lb3
        have hc3 := Lib.hid (fun q os => HC.out x3 y3 (by rw [hx3]; exact S1.out.l _) (by rw [hy3]; exact S1.out.l _) (Go.Sort.grow (wr.drewN q) os))
        have hd3 : decide (cmpS F x3 y3 < 0) = false := by rw [hx3, hy3]; exact hlv
        have hv3 : ¬ cmpS F x3 y3 < 0 := of_decide_eq_false hd3
        clear hx3 hy3
        go_wp2_with fail
        go_quiet_grown (first | (go_at_call 84; refine Go.Calls.grown_of (hc3.out _ _)))
        have S2 : Hid (Srt w b n dj (Go.Sort.grow (wr.drewN nq) osq)) := Lib.hid (S1.out.grown nq osq)
        clear la3 lb3 hc3 S1
        generalize Go.Sort.grow (wr.drewN nq) osq = w2 at S2 ⊢
        clear nq osq pi3 bi3 pj3 bj3 hd3 hv3
        clear hlv
        go_wp2_with fail
        go_roundw
        case rel => exact ⟨i + 1, dj, by go_num, by omega, by omega, S2.out, HG⟩
        case measure => simp [intOf] <;> omega
end Go.Proofs.YtmmokiaipfalmaaGreat
