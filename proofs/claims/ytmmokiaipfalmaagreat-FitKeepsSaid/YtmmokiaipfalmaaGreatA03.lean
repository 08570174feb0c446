/- Are all so? May a pod be in its cluster? Contracts. Condition: the cluster lies in memory. Are all so? Contracts. Condition: the list lies in memory. May a pod be in its cluster? A contract. Condition: the cluster lies in memory, also behind the pointer that the closure holds. May a cluster be? A contract. Condition: the cluster lies in memory. What Plus answers of a thousand rows at most: VecPlus with a greater bound. Condition: they lie in memory. What each makes of a cluster's lists: rows. Condition: the list lies in memory. May sums be? A contract. Condition: the rows lie in memory. -/
import Derived.Test.YtmmokiaipfalmaaGreatA02
import Derived.Deep.RegionHeld3
import Derived.Deep.DeepCutAuto
import Derived.Laws.Cover3

namespace Go.Proofs.YtmmokiaipfalmaaGreat
open Go.RowKit

/-- A cluster lies in memory. -/
structure SnapAt (w : World) (A B C : Option Addr) (ca cb cc : Nat) (ns : List NodeD) (ps : List PodD) (os : List OwnD) : Prop where
  n : NodesAt w A ns
  p : PodsAt w B ps
  o : La.SlAt w C (cellsO os)
  fo : ∀ x ∈ os, x.fit
  ln : ns.length ≤ 1000
  lp : ps.length ≤ 1000
  lo : os.length ≤ 1000
  can : ns.length ≤ ca ∧ ca ≤ 9223372036854775807
  cap : ps.length ≤ cb ∧ cb ≤ 9223372036854775807
  cao : os.length ≤ cc ∧ cc ≤ 9223372036854775807
theorem SnapAt.below {w w' : World} {A B C : Option Addr} {ca cb cc : Nat} {ns : List NodeD} {ps : List PodD} {os : List OwnD} (h : SnapAt w A B C ca cb cc ns ps os) (hb : Below w.heap.size w w') : SnapAt w' A B C ca cb cc ns ps os :=
  ⟨h.n.below hb, h.p.below hb, h.o.below hb, h.fo, h.ln, h.lp, h.lo, h.can, h.cap, h.cao⟩
abbrev snapC (A B C : Option Addr) (ca cb cc : Nat) (ns : List NodeD) (ps : List PodD) (os : List OwnD) : Array Value := #[.slice A ns.length ca, .slice B ps.length cb, .slice C os.length cc]
abbrev snapV (A B C : Option Addr) (ca cb cc : Nat) (ns : List NodeD) (ps : List PodD) (os : List OwnD) : Value := .agg (snapC A B C ca cb cc ns ps os)

theorem idx_range (name : List UInt8) : ∀ l : List (List UInt8), -1 ≤ idxF name l ∧ idxF name l < l.length + 1
  | [] => by simp [idxF]
  | x :: t => by
    have := idx_range name t
    rw [idxF]
    simp only [List.length_cons]
    split
    · omega
    · split <;> omega

/-- Are there the owner and the node that a pod names? -/
def knownB (ns : List NodeD) (os : List OwnD) (x : PodD) : Bool := (decide (x.owner = []) || !(idxF x.owner (os.map (·.name)) == -1)) && (decide (x.on = []) || tpB ns (idxF x.on (ns.map (·.name))))

set_option maxRecDepth 100000 in
set_option maxHeartbeats 2000000 in
theorem known_ee (A B C : Option Addr) (ca cb cc : Nat) (ns : List NodeD) (ps : List PodD) (os : List OwnD) (w : World) (nm : List UInt8) (rq : Nat → Int) (lb : List L2) (wh : List T3) (br : List L2) (wt : List UInt8) (wtm : List T3) (ap : List UInt8) (apm : List T3) (al : Option Addr) (cl : Nat) (aw : Option Addr) (cw : Nat) (ab : Option Addr) (cb' : Nat) (awt : Option Addr) (cwt : Nat) (aap : Option Addr) (cap' : Nat) :
    Calls Tryz.prog 207 #[snapV A B C ca cb cc ns ps os, valP ⟨nm, [], rq, lb, wh, br, wt, wtm, ap, apm, [], al, cl, aw, cw, ab, cb', awt, cwt, aap, cap'⟩] w fun e w' => e = .returned (.bool true) ∧ Below w.heap.size w w' := by
  have B0 := Lib.hid (Qu.below2 w (.cells (snapC A B C ca cb cc ns ps os) 26) (.cells (cellsP [⟨nm, [], rq, lb, wh, br, wt, wtm, ap, apm, [], al, cl, aw, cw, ab, cb', awt, cwt, aap, cap'⟩]).toArray 53))
  have Q0 : Hid (Blk ((w.alloc (.cells (snapC A B C ca cb cc ns ps os) 26)).alloc (.cells (cellsP [⟨nm, [], rq, lb, wh, br, wt, wtm, ap, apm, [], al, cl, aw, cw, ab, cb', awt, cwt, aap, cap'⟩]).toArray 53)) w.heap.size (snapC A B C ca cb cc ns ps os) 26) := Lib.hid (Blk.alloc (Blk.new w _ _) _)
  have P0 : Hid (Blk ((w.alloc (.cells (snapC A B C ca cb cc ns ps os) 26)).alloc (.cells (cellsP [⟨nm, [], rq, lb, wh, br, wt, wtm, ap, apm, [], al, cl, aw, cw, ab, cb', awt, cwt, aap, cap'⟩]).toArray 53)) (w.heap.size + 1) (cellsP [⟨nm, [], rq, lb, wh, br, wt, wtm, ap, apm, [], al, cl, aw, cw, ab, cb', awt, cwt, aap, cap'⟩]).toArray 53) := Lib.hid (blk2 w _ _ _)
  go_enter Tryz.func207, Tryz.ntmps207
  go_wp2_with fail
  change Code.wp _ _ _ _ ((w.alloc (.cells (snapC A B C ca cb cc ns ps os) 26)).alloc (.cells (cellsP [⟨nm, [], rq, lb, wh, br, wt, wtm, ap, apm, [], al, cl, aw, cw, ab, cb', awt, cwt, aap, cap'⟩]).toArray 53))
  generalize ((w.alloc (.cells (snapC A B C ca cb cc ns ps os) 26)).alloc (.cells (cellsP [⟨nm, [], rq, lb, wh, br, wt, wtm, ap, apm, [], al, cl, aw, cw, ab, cb', awt, cwt, aap, cap'⟩]).toArray 53)) = W at B0 Q0 P0 ⊢
  have BD := Lib.hid (B0.out.drew)
  refine wp_region_held_drew (S := fun w' => w'.cell? ⟨w.heap.size, 0, none⟩ = some (.slice A ns.length ca) ∧ w'.cell? ⟨w.heap.size, 1, none⟩ = some (.slice B ps.length cb) ∧ w'.cell? ⟨w.heap.size, 2, none⟩ = some (.slice C os.length cc) ∧ w'.cell? ⟨w.heap.size + 1, 1, none⟩ = some (strV []) ∧ w'.cell? ⟨w.heap.size + 1, 14, none⟩ = some (strV [])) (by kernel_rfl) ⟨Blk.cell (show Blk W.drew _ _ _ from Q0.out) 0, Blk.cell (show Blk W.drew _ _ _ from Q0.out) 1, Blk.cell (show Blk W.drew _ _ _ from Q0.out) 2, Blk.cell (show Blk W.drew _ _ _ from P0.out) 1, Blk.cell (show Blk W.drew _ _ _ from P0.out) 14⟩ (fun hHeld0 => ?_)
  refine wpAnyH_take (i := 0) (oi := ⟨some 5, _, _, _, _, _⟩) (v := .pointer (some ⟨w.heap.size + 1, 1, none⟩)) rfl (by kernel_rfl) (by kernel_rfl) (by kernel_rfl) (fun _ _ _ h => h) (Or.inl ⟨by rfl, (fun w' hS => by (try dsimp only at hS); go_simp)⟩) (by assumption) ?_
  try simp only [Act.put, List.setIfInBounds_toArray, List.set_cons_zero, List.set_cons_succ]
  refine wpAnyH_take (i := 1) (oi := ⟨some 6, _, _, _, _, _⟩) (v := strV []) rfl (by kernel_rfl) (by kernel_rfl) (by kernel_rfl) (fun _ _ _ h => h) (Or.inl ⟨by rfl, (fun w' hS => by (try dsimp only at hS); go_simp)⟩) (by assumption) ?_
  try simp only [Act.put, List.setIfInBounds_toArray, List.set_cons_zero, List.set_cons_succ]
  refine wpAnyH_take (i := 2) (oi := ⟨some 7, _, _, _, _, _⟩) (v := .bool true) rfl (by kernel_rfl) (by kernel_rfl) (by kernel_rfl) (fun _ _ _ h => h) (Or.inl ⟨by rfl, (fun w' hS => by (try dsimp only at hS); go_simp)⟩) (by assumption) ?_
  try simp only [Act.put, List.setIfInBounds_toArray, List.set_cons_zero, List.set_cons_succ]
  refine wpAnyH_take (i := 3) (oi := ⟨some 8, _, _, _, _, _⟩) (v := .bool true) rfl (by kernel_rfl) (by kernel_rfl) (by kernel_rfl) (fun _ _ _ h => h) (Or.inl ⟨by rfl, (fun w' hS => by (try dsimp only at hS); go_simp)⟩) (by assumption) ?_
  try simp only [Act.put, List.setIfInBounds_toArray, List.set_cons_zero, List.set_cons_succ]
  refine wpAnyH_take (i := 4) (oi := ⟨some 9, _, _, _, _, _⟩) (v := undef) rfl (by kernel_rfl) (by kernel_rfl) (by kernel_rfl) (fun _ _ _ h => h) (Or.inr ⟨by rfl, rfl⟩) (by assumption) ?_
  try simp only [Act.put, List.setIfInBounds_toArray, List.set_cons_zero, List.set_cons_succ]
  refine wpAnyH_take (i := 5) (oi := ⟨some 10, _, _, _, _, _⟩) (v := undef) rfl (by kernel_rfl) (by kernel_rfl) (by kernel_rfl) (fun _ _ _ h => h) (Or.inr ⟨by rfl, rfl⟩) (by assumption) ?_
  try simp only [Act.put, List.setIfInBounds_toArray, List.set_cons_zero, List.set_cons_succ]
  refine wpAnyH_take (i := 6) (oi := ⟨some 11, _, _, _, _, _⟩) (v := undef) rfl (by kernel_rfl) (by kernel_rfl) (by kernel_rfl) (fun _ _ _ h => h) (Or.inr ⟨by rfl, rfl⟩) (by assumption) ?_
  try simp only [Act.put, List.setIfInBounds_toArray, List.set_cons_zero, List.set_cons_succ]
  refine wpAnyH_take (i := 7) (oi := ⟨some 12, _, _, _, _, _⟩) (v := undef) rfl (by kernel_rfl) (by kernel_rfl) (by kernel_rfl) (fun _ _ _ h => h) (Or.inr ⟨by rfl, rfl⟩) (by assumption) ?_
  try simp only [Act.put, List.setIfInBounds_toArray, List.set_cons_zero, List.set_cons_succ]
  refine wpAnyH_take (i := 8) (oi := ⟨some 13, _, _, _, _, _⟩) (v := undef) rfl (by kernel_rfl) (by kernel_rfl) (by kernel_rfl) (fun _ _ _ h => h) (Or.inr ⟨by rfl, rfl⟩) (by assumption) ?_
  try simp only [Act.put, List.setIfInBounds_toArray, List.set_cons_zero, List.set_cons_succ]
  refine wpAnyH_take (i := 9) (oi := ⟨some 14, _, _, _, _, _⟩) (v := .bool true) rfl (by kernel_rfl) (by kernel_rfl) (by kernel_rfl) (fun _ _ _ h => h) (Or.inl ⟨by rfl, (fun w' hS => by (try dsimp only at hS); go_simp)⟩) (by assumption) ?_
  try simp only [Act.put, List.setIfInBounds_toArray, List.set_cons_zero, List.set_cons_succ]
  refine wpAnyH_take (i := 10) (oi := ⟨some 15, _, _, _, _, _⟩) (v := .bool true) rfl (by kernel_rfl) (by kernel_rfl) (by kernel_rfl) (fun _ _ _ h => h) (Or.inl ⟨by rfl, (fun w' hS => by (try dsimp only at hS); go_simp)⟩) (by assumption) ?_
  try simp only [Act.put, List.setIfInBounds_toArray, List.set_cons_zero, List.set_cons_succ]
  refine wpAnyH_take (i := 11) (oi := ⟨some 16, _, _, _, _, _⟩) (v := .pointer (some ⟨w.heap.size + 1, 14, none⟩)) rfl (by kernel_rfl) (by kernel_rfl) (by kernel_rfl) (fun _ _ _ h => h) (Or.inl ⟨by rfl, (fun w' hS => by (try dsimp only at hS); go_simp)⟩) (by assumption) ?_
  try simp only [Act.put, List.setIfInBounds_toArray, List.set_cons_zero, List.set_cons_succ]
  refine wpAnyH_take (i := 12) (oi := ⟨some 17, _, _, _, _, _⟩) (v := strV []) rfl (by kernel_rfl) (by kernel_rfl) (by kernel_rfl) (fun _ _ _ h => h) (Or.inl ⟨by rfl, (fun w' hS => by (try dsimp only at hS); go_simp)⟩) (by assumption) ?_
  try simp only [Act.put, List.setIfInBounds_toArray, List.set_cons_zero, List.set_cons_succ]
  refine wpAnyH_take (i := 13) (oi := ⟨some 18, _, _, _, _, _⟩) (v := .bool true) rfl (by kernel_rfl) (by kernel_rfl) (by kernel_rfl) (fun _ _ _ h => h) (Or.inl ⟨by rfl, (fun w' hS => by (try dsimp only at hS); go_simp)⟩) (by assumption) ?_
  try simp only [Act.put, List.setIfInBounds_toArray, List.set_cons_zero, List.set_cons_succ]
  refine wpAnyH_take (i := 14) (oi := ⟨some 19, _, _, _, _, _⟩) (v := .bool true) rfl (by kernel_rfl) (by kernel_rfl) (by kernel_rfl) (fun _ _ _ h => h) (Or.inl ⟨by rfl, (fun w' hS => by (try dsimp only at hS); go_simp)⟩) (by assumption) ?_
  try simp only [Act.put, List.setIfInBounds_toArray, List.set_cons_zero, List.set_cons_succ]
  refine wpAnyH_take (i := 15) (oi := ⟨some 20, _, _, _, _, _⟩) (v := undef) rfl (by kernel_rfl) (by kernel_rfl) (by kernel_rfl) (fun _ _ _ h => h) (Or.inr ⟨by rfl, rfl⟩) (by assumption) ?_
  try simp only [Act.put, List.setIfInBounds_toArray, List.set_cons_zero, List.set_cons_succ]
  refine wpAnyH_take (i := 16) (oi := ⟨some 21, _, _, _, _, _⟩) (v := undef) rfl (by kernel_rfl) (by kernel_rfl) (by kernel_rfl) (fun _ _ _ h => h) (Or.inr ⟨by rfl, rfl⟩) (by assumption) ?_
  try simp only [Act.put, List.setIfInBounds_toArray, List.set_cons_zero, List.set_cons_succ]
  refine wpAnyH_take (i := 17) (oi := ⟨some 22, _, _, _, _, _⟩) (v := undef) rfl (by kernel_rfl) (by kernel_rfl) (by kernel_rfl) (fun _ _ _ h => h) (Or.inr ⟨by rfl, rfl⟩) (by assumption) ?_
  try simp only [Act.put, List.setIfInBounds_toArray, List.set_cons_zero, List.set_cons_succ]
  refine wpAnyH_take (i := 18) (oi := ⟨some 23, _, _, _, _, _⟩) (v := undef) rfl (by kernel_rfl) (by kernel_rfl) (by kernel_rfl) (fun _ _ _ h => h) (Or.inr ⟨by rfl, rfl⟩) (by assumption) ?_
  try simp only [Act.put, List.setIfInBounds_toArray, List.set_cons_zero, List.set_cons_succ]
  refine wpAnyH_take (i := 19) (oi := ⟨some 24, _, _, _, _, _⟩) (v := undef) rfl (by kernel_rfl) (by kernel_rfl) (by kernel_rfl) (fun _ _ _ h => h) (Or.inr ⟨by rfl, rfl⟩) (by assumption) ?_
  try simp only [Act.put, List.setIfInBounds_toArray, List.set_cons_zero, List.set_cons_succ]
  refine wpAnyH_take (i := 20) (oi := ⟨some 25, _, _, _, _, _⟩) (v := undef) rfl (by kernel_rfl) (by kernel_rfl) (by kernel_rfl) (fun _ _ _ h => h) (Or.inr ⟨by rfl, rfl⟩) (by assumption) ?_
  try simp only [Act.put, List.setIfInBounds_toArray, List.set_cons_zero, List.set_cons_succ]
  refine wpAnyH_take (i := 21) (oi := ⟨some 26, _, _, _, _, _⟩) (v := .bool true) rfl (by kernel_rfl) (by kernel_rfl) (by kernel_rfl) (fun _ _ _ h => h) (Or.inl ⟨by rfl, (fun w' hS => by (try dsimp only at hS); go_simp)⟩) (by assumption) ?_
  try simp only [Act.put, List.setIfInBounds_toArray, List.set_cons_zero, List.set_cons_succ]
  refine wpAnyH_take (i := 22) (oi := ⟨some 27, _, _, _, _, _⟩) (v := .bool true) rfl (by kernel_rfl) (by kernel_rfl) (by kernel_rfl) (fun _ _ _ h => h) (Or.inl ⟨by rfl, (fun w' hS => by (try dsimp only at hS); go_simp)⟩) (by assumption) ?_
  try simp only [Act.put, List.setIfInBounds_toArray, List.set_cons_zero, List.set_cons_succ]
  refine wpAnyH_take (i := 23) (oi := ⟨some 4, _, _, _, _, _⟩) (v := .bool true) rfl (by kernel_rfl) (by kernel_rfl) (by kernel_rfl) (fun _ _ _ h => h) (Or.inl ⟨by rfl, (fun w' hS => by (try dsimp only at hS); go_simp)⟩) (by assumption) ?_
  try simp only [Act.put, List.setIfInBounds_toArray, List.set_cons_zero, List.set_cons_succ]
  refine wpAnyH_done (by kernel_rfl) ?_ _
  clear hHeld0
  go_wp2_with fail
  go_ret
  exact ⟨La.retB rfl, BD.out⟩

set_option maxRecDepth 100000 in
set_option maxHeartbeats 2000000 in
theorem known_en (A B C : Option Addr) (ca cb cc : Nat) (ns : List NodeD) (ps : List PodD) (os : List OwnD) (w : World) (nm : List UInt8) (rq : Nat → Int) (lb : List L2) (wh : List T3) (br : List L2) (wt : List UInt8) (wtm : List T3) (ap : List UInt8) (apm : List T3) (al : Option Addr) (cl : Nat) (aw : Option Addr) (cw : Nat) (ab : Option Addr) (cb' : Nat) (awt : Option Addr) (cwt : Nat) (aap : Option Addr) (cap' : Nat) (b0 : UInt8) (u0 : List UInt8) (i2 : Int) (b2 : Bool) (kn : ∀ w', Below w.heap.size w w' → Calls Tryz.prog 277 #[snapV A B C ca cb cc ns ps os, strV (b0 :: u0)] w' fun e w'' => e = .returned (.int .i64 i2) ∧ Below w'.heap.size w' w'') (kt : ∀ w', Below w.heap.size w w' → Calls Tryz.prog 276 #[snapV A B C ca cb cc ns ps os, .int .i64 i2] w' fun e w'' => e = .returned (.bool b2) ∧ Below w'.heap.size w' w'') :
    Calls Tryz.prog 207 #[snapV A B C ca cb cc ns ps os, valP ⟨nm, [], rq, lb, wh, br, wt, wtm, ap, apm, (b0 :: u0), al, cl, aw, cw, ab, cb', awt, cwt, aap, cap'⟩] w fun e w' => e = .returned (.bool b2) ∧ Below w.heap.size w w' := by
  have B0 := Lib.hid (Qu.below2 w (.cells (snapC A B C ca cb cc ns ps os) 26) (.cells (cellsP [⟨nm, [], rq, lb, wh, br, wt, wtm, ap, apm, (b0 :: u0), al, cl, aw, cw, ab, cb', awt, cwt, aap, cap'⟩]).toArray 53))
  have Q0 : Hid (Blk ((w.alloc (.cells (snapC A B C ca cb cc ns ps os) 26)).alloc (.cells (cellsP [⟨nm, [], rq, lb, wh, br, wt, wtm, ap, apm, (b0 :: u0), al, cl, aw, cw, ab, cb', awt, cwt, aap, cap'⟩]).toArray 53)) w.heap.size (snapC A B C ca cb cc ns ps os) 26) := Lib.hid (Blk.alloc (Blk.new w _ _) _)
  have P0 : Hid (Blk ((w.alloc (.cells (snapC A B C ca cb cc ns ps os) 26)).alloc (.cells (cellsP [⟨nm, [], rq, lb, wh, br, wt, wtm, ap, apm, (b0 :: u0), al, cl, aw, cw, ab, cb', awt, cwt, aap, cap'⟩]).toArray 53)) (w.heap.size + 1) (cellsP [⟨nm, [], rq, lb, wh, br, wt, wtm, ap, apm, (b0 :: u0), al, cl, aw, cw, ab, cb', awt, cwt, aap, cap'⟩]).toArray 53) := Lib.hid (blk2 w _ _ _)
  have KN := Lib.hid kn
  have KT := Lib.hid kt
  clear kn kt
  go_enter Tryz.func207, Tryz.ntmps207
  go_wp2_with fail
  change Code.wp _ _ _ _ ((w.alloc (.cells (snapC A B C ca cb cc ns ps os) 26)).alloc (.cells (cellsP [⟨nm, [], rq, lb, wh, br, wt, wtm, ap, apm, (b0 :: u0), al, cl, aw, cw, ab, cb', awt, cwt, aap, cap'⟩]).toArray 53))
  generalize ((w.alloc (.cells (snapC A B C ca cb cc ns ps os) 26)).alloc (.cells (cellsP [⟨nm, [], rq, lb, wh, br, wt, wtm, ap, apm, (b0 :: u0), al, cl, aw, cw, ab, cb', awt, cwt, aap, cap'⟩]).toArray 53)) = W at B0 Q0 P0 ⊢
  have BD := Lib.hid (B0.out.drew)
  refine wp_region_held_drew (S := fun w' => w'.cell? ⟨w.heap.size, 0, none⟩ = some (.slice A ns.length ca) ∧ w'.cell? ⟨w.heap.size, 1, none⟩ = some (.slice B ps.length cb) ∧ w'.cell? ⟨w.heap.size, 2, none⟩ = some (.slice C os.length cc) ∧ w'.cell? ⟨w.heap.size + 1, 1, none⟩ = some (strV []) ∧ w'.cell? ⟨w.heap.size + 1, 14, none⟩ = some (strV (b0 :: u0))) (by kernel_rfl) ⟨Blk.cell (show Blk W.drew _ _ _ from Q0.out) 0, Blk.cell (show Blk W.drew _ _ _ from Q0.out) 1, Blk.cell (show Blk W.drew _ _ _ from Q0.out) 2, Blk.cell (show Blk W.drew _ _ _ from P0.out) 1, Blk.cell (show Blk W.drew _ _ _ from P0.out) 14⟩ (fun hHeld0 => ?_)
  refine wpAnyH_take (i := 0) (oi := ⟨some 5, _, _, _, _, _⟩) (v := .pointer (some ⟨w.heap.size + 1, 1, none⟩)) rfl (by kernel_rfl) (by kernel_rfl) (by kernel_rfl) (fun _ _ _ h => h) (Or.inl ⟨by rfl, (fun w' hS => by (try dsimp only at hS); go_simp)⟩) (by assumption) ?_
  try simp only [Act.put, List.setIfInBounds_toArray, List.set_cons_zero, List.set_cons_succ]
  refine wpAnyH_take (i := 1) (oi := ⟨some 6, _, _, _, _, _⟩) (v := strV []) rfl (by kernel_rfl) (by kernel_rfl) (by kernel_rfl) (fun _ _ _ h => h) (Or.inl ⟨by rfl, (fun w' hS => by (try dsimp only at hS); go_simp)⟩) (by assumption) ?_
  try simp only [Act.put, List.setIfInBounds_toArray, List.set_cons_zero, List.set_cons_succ]
  refine wpAnyH_take (i := 2) (oi := ⟨some 7, _, _, _, _, _⟩) (v := .bool true) rfl (by kernel_rfl) (by kernel_rfl) (by kernel_rfl) (fun _ _ _ h => h) (Or.inl ⟨by rfl, (fun w' hS => by (try dsimp only at hS); go_simp)⟩) (by assumption) ?_
  try simp only [Act.put, List.setIfInBounds_toArray, List.set_cons_zero, List.set_cons_succ]
  refine wpAnyH_take (i := 3) (oi := ⟨some 8, _, _, _, _, _⟩) (v := .bool true) rfl (by kernel_rfl) (by kernel_rfl) (by kernel_rfl) (fun _ _ _ h => h) (Or.inl ⟨by rfl, (fun w' hS => by (try dsimp only at hS); go_simp)⟩) (by assumption) ?_
  try simp only [Act.put, List.setIfInBounds_toArray, List.set_cons_zero, List.set_cons_succ]
  refine wpAnyH_take (i := 4) (oi := ⟨some 9, _, _, _, _, _⟩) (v := undef) rfl (by kernel_rfl) (by kernel_rfl) (by kernel_rfl) (fun _ _ _ h => h) (Or.inr ⟨by rfl, rfl⟩) (by assumption) ?_
  try simp only [Act.put, List.setIfInBounds_toArray, List.set_cons_zero, List.set_cons_succ]
  refine wpAnyH_take (i := 5) (oi := ⟨some 10, _, _, _, _, _⟩) (v := undef) rfl (by kernel_rfl) (by kernel_rfl) (by kernel_rfl) (fun _ _ _ h => h) (Or.inr ⟨by rfl, rfl⟩) (by assumption) ?_
  try simp only [Act.put, List.setIfInBounds_toArray, List.set_cons_zero, List.set_cons_succ]
  refine wpAnyH_take (i := 6) (oi := ⟨some 11, _, _, _, _, _⟩) (v := undef) rfl (by kernel_rfl) (by kernel_rfl) (by kernel_rfl) (fun _ _ _ h => h) (Or.inr ⟨by rfl, rfl⟩) (by assumption) ?_
  try simp only [Act.put, List.setIfInBounds_toArray, List.set_cons_zero, List.set_cons_succ]
  refine wpAnyH_take (i := 7) (oi := ⟨some 12, _, _, _, _, _⟩) (v := undef) rfl (by kernel_rfl) (by kernel_rfl) (by kernel_rfl) (fun _ _ _ h => h) (Or.inr ⟨by rfl, rfl⟩) (by assumption) ?_
  try simp only [Act.put, List.setIfInBounds_toArray, List.set_cons_zero, List.set_cons_succ]
  refine wpAnyH_take (i := 8) (oi := ⟨some 13, _, _, _, _, _⟩) (v := undef) rfl (by kernel_rfl) (by kernel_rfl) (by kernel_rfl) (fun _ _ _ h => h) (Or.inr ⟨by rfl, rfl⟩) (by assumption) ?_
  try simp only [Act.put, List.setIfInBounds_toArray, List.set_cons_zero, List.set_cons_succ]
  refine wpAnyH_take (i := 9) (oi := ⟨some 14, _, _, _, _, _⟩) (v := .bool true) rfl (by kernel_rfl) (by kernel_rfl) (by kernel_rfl) (fun _ _ _ h => h) (Or.inl ⟨by rfl, (fun w' hS => by (try dsimp only at hS); go_simp)⟩) (by assumption) ?_
  try simp only [Act.put, List.setIfInBounds_toArray, List.set_cons_zero, List.set_cons_succ]
  refine wpAnyH_take (i := 10) (oi := ⟨some 15, _, _, _, _, _⟩) (v := .bool true) rfl (by kernel_rfl) (by kernel_rfl) (by kernel_rfl) (fun _ _ _ h => h) (Or.inl ⟨by rfl, (fun w' hS => by (try dsimp only at hS); go_simp)⟩) (by assumption) ?_
  try simp only [Act.put, List.setIfInBounds_toArray, List.set_cons_zero, List.set_cons_succ]
  refine wpAnyH_take (i := 11) (oi := ⟨some 16, _, _, _, _, _⟩) (v := .pointer (some ⟨w.heap.size + 1, 14, none⟩)) rfl (by kernel_rfl) (by kernel_rfl) (by kernel_rfl) (fun _ _ _ h => h) (Or.inl ⟨by rfl, (fun w' hS => by (try dsimp only at hS); go_simp)⟩) (by assumption) ?_
  try simp only [Act.put, List.setIfInBounds_toArray, List.set_cons_zero, List.set_cons_succ]
  refine wpAnyH_take (i := 12) (oi := ⟨some 17, _, _, _, _, _⟩) (v := strV (b0 :: u0)) rfl (by kernel_rfl) (by kernel_rfl) (by kernel_rfl) (fun _ _ _ h => h) (Or.inl ⟨by rfl, (fun w' hS => by (try dsimp only at hS); go_simp)⟩) (by assumption) ?_
  try simp only [Act.put, List.setIfInBounds_toArray, List.set_cons_zero, List.set_cons_succ]
  refine wpAnyH_take (i := 13) (oi := ⟨some 18, _, _, _, _, _⟩) (v := .bool false) rfl (by kernel_rfl) (by kernel_rfl) (by kernel_rfl) (fun _ _ _ h => h) (Or.inl ⟨by rfl, (fun w' hS => by (try dsimp only at hS); go_simp)⟩) (by assumption) ?_
  try simp only [Act.put, List.setIfInBounds_toArray, List.set_cons_zero, List.set_cons_succ]
  refine wpAnyH_take (i := 14) (oi := ⟨some 19, _, _, _, _, _⟩) (v := .bool false) rfl (by kernel_rfl) (by kernel_rfl) (by kernel_rfl) (fun _ _ _ h => h) (Or.inl ⟨by rfl, (fun w' hS => by (try dsimp only at hS); go_simp)⟩) (by assumption) ?_
  try simp only [Act.put, List.setIfInBounds_toArray, List.set_cons_zero, List.set_cons_succ]
  refine wpAnyH_take (i := 15) (oi := ⟨some 20, _, _, _, _, _⟩) (v := snapV A B C ca cb cc ns ps os) rfl (by kernel_rfl) (by kernel_rfl) (by kernel_rfl) (fun _ _ _ h => h) (Or.inl ⟨by rfl, (fun w' hS => by (try dsimp only at hS); go_simp)⟩) (by assumption) ?_
  try simp only [Act.put, List.setIfInBounds_toArray, List.set_cons_zero, List.set_cons_succ]
  refine wpAnyH_take (i := 16) (oi := ⟨some 21, _, _, _, _, _⟩) (v := snapV A B C ca cb cc ns ps os) rfl (by kernel_rfl) (by kernel_rfl) (by kernel_rfl) (fun _ _ _ h => h) (Or.inl ⟨by rfl, (fun w' hS => by (try dsimp only at hS); go_simp)⟩) (by assumption) ?_
  try simp only [Act.put, List.setIfInBounds_toArray, List.set_cons_zero, List.set_cons_succ]
  refine wpAnyH_take (i := 17) (oi := ⟨some 22, _, _, _, _, _⟩) (v := .pointer (some ⟨w.heap.size + 1, 14, none⟩)) rfl (by kernel_rfl) (by kernel_rfl) (by kernel_rfl) (fun _ _ _ h => h) (Or.inl ⟨by rfl, (fun w' hS => by (try dsimp only at hS); go_simp)⟩) (by assumption) ?_
  try simp only [Act.put, List.setIfInBounds_toArray, List.set_cons_zero, List.set_cons_succ]
  refine wpAnyH_take (i := 18) (oi := ⟨some 23, _, _, _, _, _⟩) (v := strV (b0 :: u0)) rfl (by kernel_rfl) (by kernel_rfl) (by kernel_rfl) (fun _ _ _ h => h) (Or.inl ⟨by rfl, (fun w' hS => by (try dsimp only at hS); go_simp)⟩) (by assumption) ?_
  try simp only [Act.put, List.setIfInBounds_toArray, List.set_cons_zero, List.set_cons_succ]
  refine wpAnyH_ready (rs := [19]) (by kernel_rfl) (by simp) ?_
  refine AllReadyH.cons (o := { dst := some 24, op := Op.call { callee := Callee.value (Operand.func 277), args := #[Operand.tmp 21, Operand.tmp 23], argTypes := #[26, 9] }, type := 3, pos := "check.go:60", after := #[{ on := 16, ground := Ground.data }, { on := 18, ground := Ground.data }, { on := 14, ground := Ground.chain }, { on := 14, ground := Ground.guard }], guard := some (14, false) }) rfl (fun K2 hK => ?_) AllReadyH.nil
  rw [if_pos (by rfl)]
  go_simp
  refine (KN.out _ BD.out).mono ?_
  rintro e w1 ⟨rfl, hb1⟩
  have B1 := Lib.hid (BD.out.trans (hb1.mono BD.out.size))
  have Q1 := Lib.hid (Blk.below (show Blk W.drew _ _ _ from Q0.out) hb1 (Nat.lt_trans (Nat.lt_succ_self _) (Blk.lt P0.out)))
  have P1 := Lib.hid (Blk.below (show Blk W.drew _ _ _ from P0.out) hb1 (Blk.lt P0.out))
  clear hb1
  refine hK.out _ _ ⟨Blk.cell Q1.out 0, Blk.cell Q1.out 1, Blk.cell Q1.out 2, Blk.cell P1.out 1, Blk.cell P1.out 14⟩ (fun hHeld1 => ?_)
  clear hK K2 hHeld0
  try simp only [Act.put, List.setIfInBounds_toArray, List.set_cons_zero, List.set_cons_succ]
  refine wpAnyH_ready (rs := [20]) (by kernel_rfl) (by simp) ?_
  refine AllReadyH.cons (o := { dst := some 25, op := Op.call { callee := Callee.value (Operand.func 276), args := #[Operand.tmp 20, Operand.tmp 24], argTypes := #[26, 3] }, type := 4, pos := "check.go:60", after := #[{ on := 15, ground := Ground.data }, { on := 19, ground := Ground.data }, { on := 19, ground := Ground.chain }, { on := 14, ground := Ground.guard }], guard := some (14, false) }) rfl (fun K2 hK => ?_) AllReadyH.nil
  rw [if_pos (by rfl)]
  go_simp
  refine (KT.out _ B1.out).mono ?_
  rintro e w2 ⟨rfl, hb2⟩
  have B2 := Lib.hid (B1.out.trans (hb2.mono B1.out.size))
  have Q2 := Lib.hid (Blk.below (show Blk w1 _ _ _ from Q1.out) hb2 (Nat.lt_trans (Nat.lt_succ_self _) (Blk.lt P1.out)))
  have P2 := Lib.hid (Blk.below (show Blk w1 _ _ _ from P1.out) hb2 (Blk.lt P1.out))
  clear hb2
  refine hK.out _ _ ⟨Blk.cell Q2.out 0, Blk.cell Q2.out 1, Blk.cell Q2.out 2, Blk.cell P2.out 1, Blk.cell P2.out 14⟩ (fun hHeld2 => ?_)
  clear hK K2 hHeld1
  try simp only [Act.put, List.setIfInBounds_toArray, List.set_cons_zero, List.set_cons_succ]
  refine wpAnyH_take (i := 21) (oi := ⟨some 26, _, _, _, _, _⟩) (v := .bool b2) rfl (by kernel_rfl) (by kernel_rfl) (by kernel_rfl) (fun _ _ _ h => h) (Or.inl ⟨by rfl, (fun w' hS => by (try dsimp only at hS); go_simp)⟩) (by assumption) ?_
  try simp only [Act.put, List.setIfInBounds_toArray, List.set_cons_zero, List.set_cons_succ]
  refine wpAnyH_take (i := 22) (oi := ⟨some 27, _, _, _, _, _⟩) (v := .bool b2) rfl (by kernel_rfl) (by kernel_rfl) (by kernel_rfl) (fun _ _ _ h => h) (Or.inl ⟨by rfl, (fun w' hS => by (try dsimp only at hS); go_simp)⟩) (by assumption) ?_
  try simp only [Act.put, List.setIfInBounds_toArray, List.set_cons_zero, List.set_cons_succ]
  refine wpAnyH_take (i := 23) (oi := ⟨some 4, _, _, _, _, _⟩) (v := .bool b2) rfl (by kernel_rfl) (by kernel_rfl) (by kernel_rfl) (fun _ _ _ h => h) (Or.inl ⟨by rfl, (fun w' hS => by (try dsimp only at hS); go_simp)⟩) (by assumption) ?_
  try simp only [Act.put, List.setIfInBounds_toArray, List.set_cons_zero, List.set_cons_succ]
  refine wpAnyH_done (by kernel_rfl) ?_ _
  clear hHeld2
  go_wp2_with fail
  go_ret
  exact ⟨La.retB rfl, B2.out⟩

set_option maxRecDepth 100000 in
set_option maxHeartbeats 2000000 in
theorem known_ne (A B C : Option Addr) (ca cb cc : Nat) (ns : List NodeD) (ps : List PodD) (os : List OwnD) (w : World) (nm : List UInt8) (rq : Nat → Int) (lb : List L2) (wh : List T3) (br : List L2) (wt : List UInt8) (wtm : List T3) (ap : List UInt8) (apm : List T3) (al : Option Addr) (cl : Nat) (aw : Option Addr) (cw : Nat) (ab : Option Addr) (cb' : Nat) (awt : Option Addr) (cwt : Nat) (aap : Option Addr) (cap' : Nat) (c0 : UInt8) (v0 : List UInt8) (i1 : Int) (ko : ∀ w', Below w.heap.size w w' → Calls Tryz.prog 275 #[snapV A B C ca cb cc ns ps os, strV (c0 :: v0)] w' fun e w'' => e = .returned (.int .i64 i1) ∧ Below w'.heap.size w' w'') (hi : i1 ≠ -1) :
    Calls Tryz.prog 207 #[snapV A B C ca cb cc ns ps os, valP ⟨nm, (c0 :: v0), rq, lb, wh, br, wt, wtm, ap, apm, [], al, cl, aw, cw, ab, cb', awt, cwt, aap, cap'⟩] w fun e w' => e = .returned (.bool true) ∧ Below w.heap.size w w' := by
  have B0 := Lib.hid (Qu.below2 w (.cells (snapC A B C ca cb cc ns ps os) 26) (.cells (cellsP [⟨nm, (c0 :: v0), rq, lb, wh, br, wt, wtm, ap, apm, [], al, cl, aw, cw, ab, cb', awt, cwt, aap, cap'⟩]).toArray 53))
  have Q0 : Hid (Blk ((w.alloc (.cells (snapC A B C ca cb cc ns ps os) 26)).alloc (.cells (cellsP [⟨nm, (c0 :: v0), rq, lb, wh, br, wt, wtm, ap, apm, [], al, cl, aw, cw, ab, cb', awt, cwt, aap, cap'⟩]).toArray 53)) w.heap.size (snapC A B C ca cb cc ns ps os) 26) := Lib.hid (Blk.alloc (Blk.new w _ _) _)
  have P0 : Hid (Blk ((w.alloc (.cells (snapC A B C ca cb cc ns ps os) 26)).alloc (.cells (cellsP [⟨nm, (c0 :: v0), rq, lb, wh, br, wt, wtm, ap, apm, [], al, cl, aw, cw, ab, cb', awt, cwt, aap, cap'⟩]).toArray 53)) (w.heap.size + 1) (cellsP [⟨nm, (c0 :: v0), rq, lb, wh, br, wt, wtm, ap, apm, [], al, cl, aw, cw, ab, cb', awt, cwt, aap, cap'⟩]).toArray 53) := Lib.hid (blk2 w _ _ _)
  have KO := Lib.hid ko
  clear ko
  go_enter Tryz.func207, Tryz.ntmps207
  go_wp2_with fail
  change Code.wp _ _ _ _ ((w.alloc (.cells (snapC A B C ca cb cc ns ps os) 26)).alloc (.cells (cellsP [⟨nm, (c0 :: v0), rq, lb, wh, br, wt, wtm, ap, apm, [], al, cl, aw, cw, ab, cb', awt, cwt, aap, cap'⟩]).toArray 53))
  generalize ((w.alloc (.cells (snapC A B C ca cb cc ns ps os) 26)).alloc (.cells (cellsP [⟨nm, (c0 :: v0), rq, lb, wh, br, wt, wtm, ap, apm, [], al, cl, aw, cw, ab, cb', awt, cwt, aap, cap'⟩]).toArray 53)) = W at B0 Q0 P0 ⊢
  have BD := Lib.hid (B0.out.drew)
  refine wp_region_held_drew (S := fun w' => w'.cell? ⟨w.heap.size, 0, none⟩ = some (.slice A ns.length ca) ∧ w'.cell? ⟨w.heap.size, 1, none⟩ = some (.slice B ps.length cb) ∧ w'.cell? ⟨w.heap.size, 2, none⟩ = some (.slice C os.length cc) ∧ w'.cell? ⟨w.heap.size + 1, 1, none⟩ = some (strV (c0 :: v0)) ∧ w'.cell? ⟨w.heap.size + 1, 14, none⟩ = some (strV [])) (by kernel_rfl) ⟨Blk.cell (show Blk W.drew _ _ _ from Q0.out) 0, Blk.cell (show Blk W.drew _ _ _ from Q0.out) 1, Blk.cell (show Blk W.drew _ _ _ from Q0.out) 2, Blk.cell (show Blk W.drew _ _ _ from P0.out) 1, Blk.cell (show Blk W.drew _ _ _ from P0.out) 14⟩ (fun hHeld0 => ?_)
  refine wpAnyH_take (i := 0) (oi := ⟨some 5, _, _, _, _, _⟩) (v := .pointer (some ⟨w.heap.size + 1, 1, none⟩)) rfl (by kernel_rfl) (by kernel_rfl) (by kernel_rfl) (fun _ _ _ h => h) (Or.inl ⟨by rfl, (fun w' hS => by (try dsimp only at hS); go_simp)⟩) (by assumption) ?_
  try simp only [Act.put, List.setIfInBounds_toArray, List.set_cons_zero, List.set_cons_succ]
  refine wpAnyH_take (i := 1) (oi := ⟨some 6, _, _, _, _, _⟩) (v := strV (c0 :: v0)) rfl (by kernel_rfl) (by kernel_rfl) (by kernel_rfl) (fun _ _ _ h => h) (Or.inl ⟨by rfl, (fun w' hS => by (try dsimp only at hS); go_simp)⟩) (by assumption) ?_
  try simp only [Act.put, List.setIfInBounds_toArray, List.set_cons_zero, List.set_cons_succ]
  refine wpAnyH_take (i := 2) (oi := ⟨some 7, _, _, _, _, _⟩) (v := .bool false) rfl (by kernel_rfl) (by kernel_rfl) (by kernel_rfl) (fun _ _ _ h => h) (Or.inl ⟨by rfl, (fun w' hS => by (try dsimp only at hS); go_simp)⟩) (by assumption) ?_
  try simp only [Act.put, List.setIfInBounds_toArray, List.set_cons_zero, List.set_cons_succ]
  refine wpAnyH_take (i := 3) (oi := ⟨some 8, _, _, _, _, _⟩) (v := .bool false) rfl (by kernel_rfl) (by kernel_rfl) (by kernel_rfl) (fun _ _ _ h => h) (Or.inl ⟨by rfl, (fun w' hS => by (try dsimp only at hS); go_simp)⟩) (by assumption) ?_
  try simp only [Act.put, List.setIfInBounds_toArray, List.set_cons_zero, List.set_cons_succ]
  refine wpAnyH_take (i := 4) (oi := ⟨some 9, _, _, _, _, _⟩) (v := snapV A B C ca cb cc ns ps os) rfl (by kernel_rfl) (by kernel_rfl) (by kernel_rfl) (fun _ _ _ h => h) (Or.inl ⟨by rfl, (fun w' hS => by (try dsimp only at hS); go_simp)⟩) (by assumption) ?_
  try simp only [Act.put, List.setIfInBounds_toArray, List.set_cons_zero, List.set_cons_succ]
  refine wpAnyH_take (i := 5) (oi := ⟨some 10, _, _, _, _, _⟩) (v := .pointer (some ⟨w.heap.size + 1, 1, none⟩)) rfl (by kernel_rfl) (by kernel_rfl) (by kernel_rfl) (fun _ _ _ h => h) (Or.inl ⟨by rfl, (fun w' hS => by (try dsimp only at hS); go_simp)⟩) (by assumption) ?_
  try simp only [Act.put, List.setIfInBounds_toArray, List.set_cons_zero, List.set_cons_succ]
  refine wpAnyH_take (i := 6) (oi := ⟨some 11, _, _, _, _, _⟩) (v := strV (c0 :: v0)) rfl (by kernel_rfl) (by kernel_rfl) (by kernel_rfl) (fun _ _ _ h => h) (Or.inl ⟨by rfl, (fun w' hS => by (try dsimp only at hS); go_simp)⟩) (by assumption) ?_
  try simp only [Act.put, List.setIfInBounds_toArray, List.set_cons_zero, List.set_cons_succ]
  refine wpAnyH_ready (rs := [7]) (by kernel_rfl) (by simp) ?_
  refine AllReadyH.cons (o := { dst := some 12, op := Op.call { callee := Callee.value (Operand.func 275), args := #[Operand.tmp 9, Operand.tmp 11], argTypes := #[26, 9] }, type := 3, pos := "check.go:60", after := #[{ on := 4, ground := Ground.data }, { on := 6, ground := Ground.data }, { on := 3, ground := Ground.chain }, { on := 3, ground := Ground.guard }], guard := some (3, false) }) rfl (fun K2 hK => ?_) AllReadyH.nil
  rw [if_pos (by rfl)]
  go_simp
  refine (KO.out _ BD.out).mono ?_
  rintro e w1 ⟨rfl, hb1⟩
  have B1 := Lib.hid (BD.out.trans (hb1.mono BD.out.size))
  have Q1 := Lib.hid (Blk.below (show Blk W.drew _ _ _ from Q0.out) hb1 (Nat.lt_trans (Nat.lt_succ_self _) (Blk.lt P0.out)))
  have P1 := Lib.hid (Blk.below (show Blk W.drew _ _ _ from P0.out) hb1 (Blk.lt P0.out))
  clear hb1
  refine hK.out _ _ ⟨Blk.cell Q1.out 0, Blk.cell Q1.out 1, Blk.cell Q1.out 2, Blk.cell P1.out 1, Blk.cell P1.out 14⟩ (fun hHeld1 => ?_)
  clear hK K2 hHeld0
  try simp only [Act.put, List.setIfInBounds_toArray, List.set_cons_zero, List.set_cons_succ]
  refine wpAnyH_take (i := 8) (oi := ⟨some 13, _, _, _, _, _⟩) (v := .bool true) rfl (by kernel_rfl) (by kernel_rfl) (by kernel_rfl) (fun _ _ _ h => h) (Or.inl ⟨by rfl, (fun w' hS => by (try dsimp only at hS); go_simp)⟩) (by assumption) ?_
  try simp only [Act.put, List.setIfInBounds_toArray, List.set_cons_zero, List.set_cons_succ]
  refine wpAnyH_take (i := 9) (oi := ⟨some 14, _, _, _, _, _⟩) (v := .bool true) rfl (by kernel_rfl) (by kernel_rfl) (by kernel_rfl) (fun _ _ _ h => h) (Or.inl ⟨by rfl, (fun w' hS => by (try dsimp only at hS); go_simp)⟩) (by assumption) ?_
  try simp only [Act.put, List.setIfInBounds_toArray, List.set_cons_zero, List.set_cons_succ]
  refine wpAnyH_take (i := 10) (oi := ⟨some 15, _, _, _, _, _⟩) (v := .bool true) rfl (by kernel_rfl) (by kernel_rfl) (by kernel_rfl) (fun _ _ _ h => h) (Or.inl ⟨by rfl, (fun w' hS => by (try dsimp only at hS); go_simp)⟩) (by assumption) ?_
  try simp only [Act.put, List.setIfInBounds_toArray, List.set_cons_zero, List.set_cons_succ]
  refine wpAnyH_take (i := 11) (oi := ⟨some 16, _, _, _, _, _⟩) (v := .pointer (some ⟨w.heap.size + 1, 14, none⟩)) rfl (by kernel_rfl) (by kernel_rfl) (by kernel_rfl) (fun _ _ _ h => h) (Or.inl ⟨by rfl, (fun w' hS => by (try dsimp only at hS); go_simp)⟩) (by assumption) ?_
  try simp only [Act.put, List.setIfInBounds_toArray, List.set_cons_zero, List.set_cons_succ]
  refine wpAnyH_take (i := 12) (oi := ⟨some 17, _, _, _, _, _⟩) (v := strV []) rfl (by kernel_rfl) (by kernel_rfl) (by kernel_rfl) (fun _ _ _ h => h) (Or.inl ⟨by rfl, (fun w' hS => by (try dsimp only at hS); go_simp)⟩) (by assumption) ?_
  try simp only [Act.put, List.setIfInBounds_toArray, List.set_cons_zero, List.set_cons_succ]
  refine wpAnyH_take (i := 13) (oi := ⟨some 18, _, _, _, _, _⟩) (v := .bool true) rfl (by kernel_rfl) (by kernel_rfl) (by kernel_rfl) (fun _ _ _ h => h) (Or.inl ⟨by rfl, (fun w' hS => by (try dsimp only at hS); go_simp)⟩) (by assumption) ?_
  try simp only [Act.put, List.setIfInBounds_toArray, List.set_cons_zero, List.set_cons_succ]
  refine wpAnyH_take (i := 14) (oi := ⟨some 19, _, _, _, _, _⟩) (v := .bool true) rfl (by kernel_rfl) (by kernel_rfl) (by kernel_rfl) (fun _ _ _ h => h) (Or.inl ⟨by rfl, (fun w' hS => by (try dsimp only at hS); go_simp)⟩) (by assumption) ?_
  try simp only [Act.put, List.setIfInBounds_toArray, List.set_cons_zero, List.set_cons_succ]
  refine wpAnyH_take (i := 15) (oi := ⟨some 20, _, _, _, _, _⟩) (v := undef) rfl (by kernel_rfl) (by kernel_rfl) (by kernel_rfl) (fun _ _ _ h => h) (Or.inr ⟨by rfl, rfl⟩) (by assumption) ?_
  try simp only [Act.put, List.setIfInBounds_toArray, List.set_cons_zero, List.set_cons_succ]
  refine wpAnyH_take (i := 16) (oi := ⟨some 21, _, _, _, _, _⟩) (v := undef) rfl (by kernel_rfl) (by kernel_rfl) (by kernel_rfl) (fun _ _ _ h => h) (Or.inr ⟨by rfl, rfl⟩) (by assumption) ?_
  try simp only [Act.put, List.setIfInBounds_toArray, List.set_cons_zero, List.set_cons_succ]
  refine wpAnyH_take (i := 17) (oi := ⟨some 22, _, _, _, _, _⟩) (v := undef) rfl (by kernel_rfl) (by kernel_rfl) (by kernel_rfl) (fun _ _ _ h => h) (Or.inr ⟨by rfl, rfl⟩) (by assumption) ?_
  try simp only [Act.put, List.setIfInBounds_toArray, List.set_cons_zero, List.set_cons_succ]
  refine wpAnyH_take (i := 18) (oi := ⟨some 23, _, _, _, _, _⟩) (v := undef) rfl (by kernel_rfl) (by kernel_rfl) (by kernel_rfl) (fun _ _ _ h => h) (Or.inr ⟨by rfl, rfl⟩) (by assumption) ?_
  try simp only [Act.put, List.setIfInBounds_toArray, List.set_cons_zero, List.set_cons_succ]
  refine wpAnyH_take (i := 19) (oi := ⟨some 24, _, _, _, _, _⟩) (v := undef) rfl (by kernel_rfl) (by kernel_rfl) (by kernel_rfl) (fun _ _ _ h => h) (Or.inr ⟨by rfl, rfl⟩) (by assumption) ?_
  try simp only [Act.put, List.setIfInBounds_toArray, List.set_cons_zero, List.set_cons_succ]
  refine wpAnyH_take (i := 20) (oi := ⟨some 25, _, _, _, _, _⟩) (v := undef) rfl (by kernel_rfl) (by kernel_rfl) (by kernel_rfl) (fun _ _ _ h => h) (Or.inr ⟨by rfl, rfl⟩) (by assumption) ?_
  try simp only [Act.put, List.setIfInBounds_toArray, List.set_cons_zero, List.set_cons_succ]
  refine wpAnyH_take (i := 21) (oi := ⟨some 26, _, _, _, _, _⟩) (v := .bool true) rfl (by kernel_rfl) (by kernel_rfl) (by kernel_rfl) (fun _ _ _ h => h) (Or.inl ⟨by rfl, (fun w' hS => by (try dsimp only at hS); go_simp)⟩) (by assumption) ?_
  try simp only [Act.put, List.setIfInBounds_toArray, List.set_cons_zero, List.set_cons_succ]
  refine wpAnyH_take (i := 22) (oi := ⟨some 27, _, _, _, _, _⟩) (v := .bool true) rfl (by kernel_rfl) (by kernel_rfl) (by kernel_rfl) (fun _ _ _ h => h) (Or.inl ⟨by rfl, (fun w' hS => by (try dsimp only at hS); go_simp)⟩) (by assumption) ?_
  try simp only [Act.put, List.setIfInBounds_toArray, List.set_cons_zero, List.set_cons_succ]
  refine wpAnyH_take (i := 23) (oi := ⟨some 4, _, _, _, _, _⟩) (v := .bool true) rfl (by kernel_rfl) (by kernel_rfl) (by kernel_rfl) (fun _ _ _ h => h) (Or.inl ⟨by rfl, (fun w' hS => by (try dsimp only at hS); go_simp)⟩) (by assumption) ?_
  try simp only [Act.put, List.setIfInBounds_toArray, List.set_cons_zero, List.set_cons_succ]
  refine wpAnyH_done (by kernel_rfl) ?_ _
  clear hHeld1
  go_wp2_with fail
  go_ret
  exact ⟨La.retB rfl, B1.out⟩

set_option maxRecDepth 100000 in
set_option maxHeartbeats 2000000 in
theorem known_nn (A B C : Option Addr) (ca cb cc : Nat) (ns : List NodeD) (ps : List PodD) (os : List OwnD) (w : World) (nm : List UInt8) (rq : Nat → Int) (lb : List L2) (wh : List T3) (br : List L2) (wt : List UInt8) (wtm : List T3) (ap : List UInt8) (apm : List T3) (al : Option Addr) (cl : Nat) (aw : Option Addr) (cw : Nat) (ab : Option Addr) (cb' : Nat) (awt : Option Addr) (cwt : Nat) (aap : Option Addr) (cap' : Nat) (c0 : UInt8) (v0 : List UInt8) (i1 : Int) (b0 : UInt8) (u0 : List UInt8) (ko : ∀ w', Below w.heap.size w w' → Calls Tryz.prog 275 #[snapV A B C ca cb cc ns ps os, strV (c0 :: v0)] w' fun e w'' => e = .returned (.int .i64 i1) ∧ Below w'.heap.size w' w'') (hi : i1 ≠ -1) (i2 : Int) (b2 : Bool) (kn : ∀ w', Below w.heap.size w w' → Calls Tryz.prog 277 #[snapV A B C ca cb cc ns ps os, strV (b0 :: u0)] w' fun e w'' => e = .returned (.int .i64 i2) ∧ Below w'.heap.size w' w'') (kt : ∀ w', Below w.heap.size w w' → Calls Tryz.prog 276 #[snapV A B C ca cb cc ns ps os, .int .i64 i2] w' fun e w'' => e = .returned (.bool b2) ∧ Below w'.heap.size w' w'') :
    Calls Tryz.prog 207 #[snapV A B C ca cb cc ns ps os, valP ⟨nm, (c0 :: v0), rq, lb, wh, br, wt, wtm, ap, apm, (b0 :: u0), al, cl, aw, cw, ab, cb', awt, cwt, aap, cap'⟩] w fun e w' => e = .returned (.bool b2) ∧ Below w.heap.size w w' := by
  have B0 := Lib.hid (Qu.below2 w (.cells (snapC A B C ca cb cc ns ps os) 26) (.cells (cellsP [⟨nm, (c0 :: v0), rq, lb, wh, br, wt, wtm, ap, apm, (b0 :: u0), al, cl, aw, cw, ab, cb', awt, cwt, aap, cap'⟩]).toArray 53))
  have Q0 : Hid (Blk ((w.alloc (.cells (snapC A B C ca cb cc ns ps os) 26)).alloc (.cells (cellsP [⟨nm, (c0 :: v0), rq, lb, wh, br, wt, wtm, ap, apm, (b0 :: u0), al, cl, aw, cw, ab, cb', awt, cwt, aap, cap'⟩]).toArray 53)) w.heap.size (snapC A B C ca cb cc ns ps os) 26) := Lib.hid (Blk.alloc (Blk.new w _ _) _)
  have P0 : Hid (Blk ((w.alloc (.cells (snapC A B C ca cb cc ns ps os) 26)).alloc (.cells (cellsP [⟨nm, (c0 :: v0), rq, lb, wh, br, wt, wtm, ap, apm, (b0 :: u0), al, cl, aw, cw, ab, cb', awt, cwt, aap, cap'⟩]).toArray 53)) (w.heap.size + 1) (cellsP [⟨nm, (c0 :: v0), rq, lb, wh, br, wt, wtm, ap, apm, (b0 :: u0), al, cl, aw, cw, ab, cb', awt, cwt, aap, cap'⟩]).toArray 53) := Lib.hid (blk2 w _ _ _)
  have KO := Lib.hid ko
  have KN := Lib.hid kn
  have KT := Lib.hid kt
  clear ko kn kt
  go_enter Tryz.func207, Tryz.ntmps207
  go_wp2_with fail
  change Code.wp _ _ _ _ ((w.alloc (.cells (snapC A B C ca cb cc ns ps os) 26)).alloc (.cells (cellsP [⟨nm, (c0 :: v0), rq, lb, wh, br, wt, wtm, ap, apm, (b0 :: u0), al, cl, aw, cw, ab, cb', awt, cwt, aap, cap'⟩]).toArray 53))
  generalize ((w.alloc (.cells (snapC A B C ca cb cc ns ps os) 26)).alloc (.cells (cellsP [⟨nm, (c0 :: v0), rq, lb, wh, br, wt, wtm, ap, apm, (b0 :: u0), al, cl, aw, cw, ab, cb', awt, cwt, aap, cap'⟩]).toArray 53)) = W at B0 Q0 P0 ⊢
  have BD := Lib.hid (B0.out.drew)
  refine wp_region_held_drew (S := fun w' => w'.cell? ⟨w.heap.size, 0, none⟩ = some (.slice A ns.length ca) ∧ w'.cell? ⟨w.heap.size, 1, none⟩ = some (.slice B ps.length cb) ∧ w'.cell? ⟨w.heap.size, 2, none⟩ = some (.slice C os.length cc) ∧ w'.cell? ⟨w.heap.size + 1, 1, none⟩ = some (strV (c0 :: v0)) ∧ w'.cell? ⟨w.heap.size + 1, 14, none⟩ = some (strV (b0 :: u0))) (by kernel_rfl) ⟨Blk.cell (show Blk W.drew _ _ _ from Q0.out) 0, Blk.cell (show Blk W.drew _ _ _ from Q0.out) 1, Blk.cell (show Blk W.drew _ _ _ from Q0.out) 2, Blk.cell (show Blk W.drew _ _ _ from P0.out) 1, Blk.cell (show Blk W.drew _ _ _ from P0.out) 14⟩ (fun hHeld0 => ?_)
  refine wpAnyH_take (i := 0) (oi := ⟨some 5, _, _, _, _, _⟩) (v := .pointer (some ⟨w.heap.size + 1, 1, none⟩)) rfl (by kernel_rfl) (by kernel_rfl) (by kernel_rfl) (fun _ _ _ h => h) (Or.inl ⟨by rfl, (fun w' hS => by (try dsimp only at hS); go_simp)⟩) (by assumption) ?_
  try simp only [Act.put, List.setIfInBounds_toArray, List.set_cons_zero, List.set_cons_succ]
  refine wpAnyH_take (i := 1) (oi := ⟨some 6, _, _, _, _, _⟩) (v := strV (c0 :: v0)) rfl (by kernel_rfl) (by kernel_rfl) (by kernel_rfl) (fun _ _ _ h => h) (Or.inl ⟨by rfl, (fun w' hS => by (try dsimp only at hS); go_simp)⟩) (by assumption) ?_
  try simp only [Act.put, List.setIfInBounds_toArray, List.set_cons_zero, List.set_cons_succ]
  refine wpAnyH_take (i := 2) (oi := ⟨some 7, _, _, _, _, _⟩) (v := .bool false) rfl (by kernel_rfl) (by kernel_rfl) (by kernel_rfl) (fun _ _ _ h => h) (Or.inl ⟨by rfl, (fun w' hS => by (try dsimp only at hS); go_simp)⟩) (by assumption) ?_
  try simp only [Act.put, List.setIfInBounds_toArray, List.set_cons_zero, List.set_cons_succ]
  refine wpAnyH_take (i := 3) (oi := ⟨some 8, _, _, _, _, _⟩) (v := .bool false) rfl (by kernel_rfl) (by kernel_rfl) (by kernel_rfl) (fun _ _ _ h => h) (Or.inl ⟨by rfl, (fun w' hS => by (try dsimp only at hS); go_simp)⟩) (by assumption) ?_
  try simp only [Act.put, List.setIfInBounds_toArray, List.set_cons_zero, List.set_cons_succ]
  refine wpAnyH_take (i := 4) (oi := ⟨some 9, _, _, _, _, _⟩) (v := snapV A B C ca cb cc ns ps os) rfl (by kernel_rfl) (by kernel_rfl) (by kernel_rfl) (fun _ _ _ h => h) (Or.inl ⟨by rfl, (fun w' hS => by (try dsimp only at hS); go_simp)⟩) (by assumption) ?_
  try simp only [Act.put, List.setIfInBounds_toArray, List.set_cons_zero, List.set_cons_succ]
  refine wpAnyH_take (i := 5) (oi := ⟨some 10, _, _, _, _, _⟩) (v := .pointer (some ⟨w.heap.size + 1, 1, none⟩)) rfl (by kernel_rfl) (by kernel_rfl) (by kernel_rfl) (fun _ _ _ h => h) (Or.inl ⟨by rfl, (fun w' hS => by (try dsimp only at hS); go_simp)⟩) (by assumption) ?_
  try simp only [Act.put, List.setIfInBounds_toArray, List.set_cons_zero, List.set_cons_succ]
  refine wpAnyH_take (i := 6) (oi := ⟨some 11, _, _, _, _, _⟩) (v := strV (c0 :: v0)) rfl (by kernel_rfl) (by kernel_rfl) (by kernel_rfl) (fun _ _ _ h => h) (Or.inl ⟨by rfl, (fun w' hS => by (try dsimp only at hS); go_simp)⟩) (by assumption) ?_
  try simp only [Act.put, List.setIfInBounds_toArray, List.set_cons_zero, List.set_cons_succ]
  refine wpAnyH_ready (rs := [7]) (by kernel_rfl) (by simp) ?_
  refine AllReadyH.cons (o := { dst := some 12, op := Op.call { callee := Callee.value (Operand.func 275), args := #[Operand.tmp 9, Operand.tmp 11], argTypes := #[26, 9] }, type := 3, pos := "check.go:60", after := #[{ on := 4, ground := Ground.data }, { on := 6, ground := Ground.data }, { on := 3, ground := Ground.chain }, { on := 3, ground := Ground.guard }], guard := some (3, false) }) rfl (fun K2 hK => ?_) AllReadyH.nil
  rw [if_pos (by rfl)]
  go_simp
  refine (KO.out _ BD.out).mono ?_
  rintro e w1 ⟨rfl, hb1⟩
  have B1 := Lib.hid (BD.out.trans (hb1.mono BD.out.size))
  have Q1 := Lib.hid (Blk.below (show Blk W.drew _ _ _ from Q0.out) hb1 (Nat.lt_trans (Nat.lt_succ_self _) (Blk.lt P0.out)))
  have P1 := Lib.hid (Blk.below (show Blk W.drew _ _ _ from P0.out) hb1 (Blk.lt P0.out))
  clear hb1
  refine hK.out _ _ ⟨Blk.cell Q1.out 0, Blk.cell Q1.out 1, Blk.cell Q1.out 2, Blk.cell P1.out 1, Blk.cell P1.out 14⟩ (fun hHeld1 => ?_)
  clear hK K2 hHeld0
  try simp only [Act.put, List.setIfInBounds_toArray, List.set_cons_zero, List.set_cons_succ]
  refine wpAnyH_take (i := 8) (oi := ⟨some 13, _, _, _, _, _⟩) (v := .bool true) rfl (by kernel_rfl) (by kernel_rfl) (by kernel_rfl) (fun _ _ _ h => h) (Or.inl ⟨by rfl, (fun w' hS => by (try dsimp only at hS); go_simp)⟩) (by assumption) ?_
  try simp only [Act.put, List.setIfInBounds_toArray, List.set_cons_zero, List.set_cons_succ]
  refine wpAnyH_take (i := 9) (oi := ⟨some 14, _, _, _, _, _⟩) (v := .bool true) rfl (by kernel_rfl) (by kernel_rfl) (by kernel_rfl) (fun _ _ _ h => h) (Or.inl ⟨by rfl, (fun w' hS => by (try dsimp only at hS); go_simp)⟩) (by assumption) ?_
  try simp only [Act.put, List.setIfInBounds_toArray, List.set_cons_zero, List.set_cons_succ]
  refine wpAnyH_take (i := 10) (oi := ⟨some 15, _, _, _, _, _⟩) (v := .bool true) rfl (by kernel_rfl) (by kernel_rfl) (by kernel_rfl) (fun _ _ _ h => h) (Or.inl ⟨by rfl, (fun w' hS => by (try dsimp only at hS); go_simp)⟩) (by assumption) ?_
  try simp only [Act.put, List.setIfInBounds_toArray, List.set_cons_zero, List.set_cons_succ]
  refine wpAnyH_take (i := 11) (oi := ⟨some 16, _, _, _, _, _⟩) (v := .pointer (some ⟨w.heap.size + 1, 14, none⟩)) rfl (by kernel_rfl) (by kernel_rfl) (by kernel_rfl) (fun _ _ _ h => h) (Or.inl ⟨by rfl, (fun w' hS => by (try dsimp only at hS); go_simp)⟩) (by assumption) ?_
  try simp only [Act.put, List.setIfInBounds_toArray, List.set_cons_zero, List.set_cons_succ]
  refine wpAnyH_take (i := 12) (oi := ⟨some 17, _, _, _, _, _⟩) (v := strV (b0 :: u0)) rfl (by kernel_rfl) (by kernel_rfl) (by kernel_rfl) (fun _ _ _ h => h) (Or.inl ⟨by rfl, (fun w' hS => by (try dsimp only at hS); go_simp)⟩) (by assumption) ?_
  try simp only [Act.put, List.setIfInBounds_toArray, List.set_cons_zero, List.set_cons_succ]
  refine wpAnyH_take (i := 13) (oi := ⟨some 18, _, _, _, _, _⟩) (v := .bool false) rfl (by kernel_rfl) (by kernel_rfl) (by kernel_rfl) (fun _ _ _ h => h) (Or.inl ⟨by rfl, (fun w' hS => by (try dsimp only at hS); go_simp)⟩) (by assumption) ?_
  try simp only [Act.put, List.setIfInBounds_toArray, List.set_cons_zero, List.set_cons_succ]
  refine wpAnyH_take (i := 14) (oi := ⟨some 19, _, _, _, _, _⟩) (v := .bool false) rfl (by kernel_rfl) (by kernel_rfl) (by kernel_rfl) (fun _ _ _ h => h) (Or.inl ⟨by rfl, (fun w' hS => by (try dsimp only at hS); go_simp)⟩) (by assumption) ?_
  try simp only [Act.put, List.setIfInBounds_toArray, List.set_cons_zero, List.set_cons_succ]
  refine wpAnyH_take (i := 15) (oi := ⟨some 20, _, _, _, _, _⟩) (v := snapV A B C ca cb cc ns ps os) rfl (by kernel_rfl) (by kernel_rfl) (by kernel_rfl) (fun _ _ _ h => h) (Or.inl ⟨by rfl, (fun w' hS => by (try dsimp only at hS); go_simp)⟩) (by assumption) ?_
  try simp only [Act.put, List.setIfInBounds_toArray, List.set_cons_zero, List.set_cons_succ]
  refine wpAnyH_take (i := 16) (oi := ⟨some 21, _, _, _, _, _⟩) (v := snapV A B C ca cb cc ns ps os) rfl (by kernel_rfl) (by kernel_rfl) (by kernel_rfl) (fun _ _ _ h => h) (Or.inl ⟨by rfl, (fun w' hS => by (try dsimp only at hS); go_simp)⟩) (by assumption) ?_
  try simp only [Act.put, List.setIfInBounds_toArray, List.set_cons_zero, List.set_cons_succ]
  refine wpAnyH_take (i := 17) (oi := ⟨some 22, _, _, _, _, _⟩) (v := .pointer (some ⟨w.heap.size + 1, 14, none⟩)) rfl (by kernel_rfl) (by kernel_rfl) (by kernel_rfl) (fun _ _ _ h => h) (Or.inl ⟨by rfl, (fun w' hS => by (try dsimp only at hS); go_simp)⟩) (by assumption) ?_
  try simp only [Act.put, List.setIfInBounds_toArray, List.set_cons_zero, List.set_cons_succ]
  refine wpAnyH_take (i := 18) (oi := ⟨some 23, _, _, _, _, _⟩) (v := strV (b0 :: u0)) rfl (by kernel_rfl) (by kernel_rfl) (by kernel_rfl) (fun _ _ _ h => h) (Or.inl ⟨by rfl, (fun w' hS => by (try dsimp only at hS); go_simp)⟩) (by assumption) ?_
  try simp only [Act.put, List.setIfInBounds_toArray, List.set_cons_zero, List.set_cons_succ]
  refine wpAnyH_ready (rs := [19]) (by kernel_rfl) (by simp) ?_
  refine AllReadyH.cons (o := { dst := some 24, op := Op.call { callee := Callee.value (Operand.func 277), args := #[Operand.tmp 21, Operand.tmp 23], argTypes := #[26, 9] }, type := 3, pos := "check.go:60", after := #[{ on := 16, ground := Ground.data }, { on := 18, ground := Ground.data }, { on := 14, ground := Ground.chain }, { on := 14, ground := Ground.guard }], guard := some (14, false) }) rfl (fun K2 hK => ?_) AllReadyH.nil
  rw [if_pos (by rfl)]
  go_simp
  refine (KN.out _ B1.out).mono ?_
  rintro e w2 ⟨rfl, hb2⟩
  have B2 := Lib.hid (B1.out.trans (hb2.mono B1.out.size))
  have Q2 := Lib.hid (Blk.below (show Blk w1 _ _ _ from Q1.out) hb2 (Nat.lt_trans (Nat.lt_succ_self _) (Blk.lt P1.out)))
  have P2 := Lib.hid (Blk.below (show Blk w1 _ _ _ from P1.out) hb2 (Blk.lt P1.out))
  clear hb2
  refine hK.out _ _ ⟨Blk.cell Q2.out 0, Blk.cell Q2.out 1, Blk.cell Q2.out 2, Blk.cell P2.out 1, Blk.cell P2.out 14⟩ (fun hHeld2 => ?_)
  clear hK K2 hHeld1
  try simp only [Act.put, List.setIfInBounds_toArray, List.set_cons_zero, List.set_cons_succ]
  refine wpAnyH_ready (rs := [20]) (by kernel_rfl) (by simp) ?_
  refine AllReadyH.cons (o := { dst := some 25, op := Op.call { callee := Callee.value (Operand.func 276), args := #[Operand.tmp 20, Operand.tmp 24], argTypes := #[26, 3] }, type := 4, pos := "check.go:60", after := #[{ on := 15, ground := Ground.data }, { on := 19, ground := Ground.data }, { on := 19, ground := Ground.chain }, { on := 14, ground := Ground.guard }], guard := some (14, false) }) rfl (fun K2 hK => ?_) AllReadyH.nil
  rw [if_pos (by rfl)]
  go_simp
  refine (KT.out _ B2.out).mono ?_
  rintro e w3 ⟨rfl, hb3⟩
  have B3 := Lib.hid (B2.out.trans (hb3.mono B2.out.size))
  have Q3 := Lib.hid (Blk.below (show Blk w2 _ _ _ from Q2.out) hb3 (Nat.lt_trans (Nat.lt_succ_self _) (Blk.lt P2.out)))
  have P3 := Lib.hid (Blk.below (show Blk w2 _ _ _ from P2.out) hb3 (Blk.lt P2.out))
  clear hb3
  refine hK.out _ _ ⟨Blk.cell Q3.out 0, Blk.cell Q3.out 1, Blk.cell Q3.out 2, Blk.cell P3.out 1, Blk.cell P3.out 14⟩ (fun hHeld3 => ?_)
  clear hK K2 hHeld2
  try simp only [Act.put, List.setIfInBounds_toArray, List.set_cons_zero, List.set_cons_succ]
  refine wpAnyH_take (i := 21) (oi := ⟨some 26, _, _, _, _, _⟩) (v := .bool b2) rfl (by kernel_rfl) (by kernel_rfl) (by kernel_rfl) (fun _ _ _ h => h) (Or.inl ⟨by rfl, (fun w' hS => by (try dsimp only at hS); go_simp)⟩) (by assumption) ?_
  try simp only [Act.put, List.setIfInBounds_toArray, List.set_cons_zero, List.set_cons_succ]
  refine wpAnyH_take (i := 22) (oi := ⟨some 27, _, _, _, _, _⟩) (v := .bool b2) rfl (by kernel_rfl) (by kernel_rfl) (by kernel_rfl) (fun _ _ _ h => h) (Or.inl ⟨by rfl, (fun w' hS => by (try dsimp only at hS); go_simp)⟩) (by assumption) ?_
  try simp only [Act.put, List.setIfInBounds_toArray, List.set_cons_zero, List.set_cons_succ]
  refine wpAnyH_take (i := 23) (oi := ⟨some 4, _, _, _, _, _⟩) (v := .bool b2) rfl (by kernel_rfl) (by kernel_rfl) (by kernel_rfl) (fun _ _ _ h => h) (Or.inl ⟨by rfl, (fun w' hS => by (try dsimp only at hS); go_simp)⟩) (by assumption) ?_
  try simp only [Act.put, List.setIfInBounds_toArray, List.set_cons_zero, List.set_cons_succ]
  refine wpAnyH_done (by kernel_rfl) ?_ _
  clear hHeld3
  go_wp2_with fail
  go_ret
  exact ⟨La.retB rfl, B3.out⟩

set_option maxRecDepth 100000 in
set_option maxHeartbeats 2000000 in
theorem known_nf (A B C : Option Addr) (ca cb cc : Nat) (ns : List NodeD) (ps : List PodD) (os : List OwnD) (w : World) (nm : List UInt8) (on : List UInt8) (rq : Nat → Int) (lb : List L2) (wh : List T3) (br : List L2) (wt : List UInt8) (wtm : List T3) (ap : List UInt8) (apm : List T3) (al : Option Addr) (cl : Nat) (aw : Option Addr) (cw : Nat) (ab : Option Addr) (cb' : Nat) (awt : Option Addr) (cwt : Nat) (aap : Option Addr) (cap' : Nat) (c0 : UInt8) (v0 : List UInt8) (i1 : Int) (ko : ∀ w', Below w.heap.size w w' → Calls Tryz.prog 275 #[snapV A B C ca cb cc ns ps os, strV (c0 :: v0)] w' fun e w'' => e = .returned (.int .i64 i1) ∧ Below w'.heap.size w' w'') (hi : i1 = -1) :
    Calls Tryz.prog 207 #[snapV A B C ca cb cc ns ps os, valP ⟨nm, (c0 :: v0), rq, lb, wh, br, wt, wtm, ap, apm, on, al, cl, aw, cw, ab, cb', awt, cwt, aap, cap'⟩] w fun e w' => e = .returned (.bool false) ∧ Below w.heap.size w w' := by
  have B0 := Lib.hid (Qu.below2 w (.cells (snapC A B C ca cb cc ns ps os) 26) (.cells (cellsP [⟨nm, (c0 :: v0), rq, lb, wh, br, wt, wtm, ap, apm, on, al, cl, aw, cw, ab, cb', awt, cwt, aap, cap'⟩]).toArray 53))
  have Q0 : Hid (Blk ((w.alloc (.cells (snapC A B C ca cb cc ns ps os) 26)).alloc (.cells (cellsP [⟨nm, (c0 :: v0), rq, lb, wh, br, wt, wtm, ap, apm, on, al, cl, aw, cw, ab, cb', awt, cwt, aap, cap'⟩]).toArray 53)) w.heap.size (snapC A B C ca cb cc ns ps os) 26) := Lib.hid (Blk.alloc (Blk.new w _ _) _)
  have P0 : Hid (Blk ((w.alloc (.cells (snapC A B C ca cb cc ns ps os) 26)).alloc (.cells (cellsP [⟨nm, (c0 :: v0), rq, lb, wh, br, wt, wtm, ap, apm, on, al, cl, aw, cw, ab, cb', awt, cwt, aap, cap'⟩]).toArray 53)) (w.heap.size + 1) (cellsP [⟨nm, (c0 :: v0), rq, lb, wh, br, wt, wtm, ap, apm, on, al, cl, aw, cw, ab, cb', awt, cwt, aap, cap'⟩]).toArray 53) := Lib.hid (blk2 w _ _ _)
  have KO := Lib.hid ko
  clear ko
  go_enter Tryz.func207, Tryz.ntmps207
  go_wp2_with fail
  change Code.wp _ _ _ _ ((w.alloc (.cells (snapC A B C ca cb cc ns ps os) 26)).alloc (.cells (cellsP [⟨nm, (c0 :: v0), rq, lb, wh, br, wt, wtm, ap, apm, on, al, cl, aw, cw, ab, cb', awt, cwt, aap, cap'⟩]).toArray 53))
  generalize ((w.alloc (.cells (snapC A B C ca cb cc ns ps os) 26)).alloc (.cells (cellsP [⟨nm, (c0 :: v0), rq, lb, wh, br, wt, wtm, ap, apm, on, al, cl, aw, cw, ab, cb', awt, cwt, aap, cap'⟩]).toArray 53)) = W at B0 Q0 P0 ⊢
  have BD := Lib.hid (B0.out.drew)
  refine wp_region_held_drew (S := fun w' => w'.cell? ⟨w.heap.size, 0, none⟩ = some (.slice A ns.length ca) ∧ w'.cell? ⟨w.heap.size, 1, none⟩ = some (.slice B ps.length cb) ∧ w'.cell? ⟨w.heap.size, 2, none⟩ = some (.slice C os.length cc) ∧ w'.cell? ⟨w.heap.size + 1, 1, none⟩ = some (strV (c0 :: v0)) ∧ w'.cell? ⟨w.heap.size + 1, 14, none⟩ = some (strV on)) (by kernel_rfl) ⟨Blk.cell (show Blk W.drew _ _ _ from Q0.out) 0, Blk.cell (show Blk W.drew _ _ _ from Q0.out) 1, Blk.cell (show Blk W.drew _ _ _ from Q0.out) 2, Blk.cell (show Blk W.drew _ _ _ from P0.out) 1, Blk.cell (show Blk W.drew _ _ _ from P0.out) 14⟩ (fun hHeld0 => ?_)
  refine wpAnyH_take (i := 0) (oi := ⟨some 5, _, _, _, _, _⟩) (v := .pointer (some ⟨w.heap.size + 1, 1, none⟩)) rfl (by kernel_rfl) (by kernel_rfl) (by kernel_rfl) (fun _ _ _ h => h) (Or.inl ⟨by rfl, (fun w' hS => by (try dsimp only at hS); go_simp)⟩) (by assumption) ?_
  try simp only [Act.put, List.setIfInBounds_toArray, List.set_cons_zero, List.set_cons_succ]
  refine wpAnyH_take (i := 1) (oi := ⟨some 6, _, _, _, _, _⟩) (v := strV (c0 :: v0)) rfl (by kernel_rfl) (by kernel_rfl) (by kernel_rfl) (fun _ _ _ h => h) (Or.inl ⟨by rfl, (fun w' hS => by (try dsimp only at hS); go_simp)⟩) (by assumption) ?_
  try simp only [Act.put, List.setIfInBounds_toArray, List.set_cons_zero, List.set_cons_succ]
  refine wpAnyH_take (i := 2) (oi := ⟨some 7, _, _, _, _, _⟩) (v := .bool false) rfl (by kernel_rfl) (by kernel_rfl) (by kernel_rfl) (fun _ _ _ h => h) (Or.inl ⟨by rfl, (fun w' hS => by (try dsimp only at hS); go_simp)⟩) (by assumption) ?_
  try simp only [Act.put, List.setIfInBounds_toArray, List.set_cons_zero, List.set_cons_succ]
  refine wpAnyH_take (i := 3) (oi := ⟨some 8, _, _, _, _, _⟩) (v := .bool false) rfl (by kernel_rfl) (by kernel_rfl) (by kernel_rfl) (fun _ _ _ h => h) (Or.inl ⟨by rfl, (fun w' hS => by (try dsimp only at hS); go_simp)⟩) (by assumption) ?_
  try simp only [Act.put, List.setIfInBounds_toArray, List.set_cons_zero, List.set_cons_succ]
  refine wpAnyH_take (i := 4) (oi := ⟨some 9, _, _, _, _, _⟩) (v := snapV A B C ca cb cc ns ps os) rfl (by kernel_rfl) (by kernel_rfl) (by kernel_rfl) (fun _ _ _ h => h) (Or.inl ⟨by rfl, (fun w' hS => by (try dsimp only at hS); go_simp)⟩) (by assumption) ?_
  try simp only [Act.put, List.setIfInBounds_toArray, List.set_cons_zero, List.set_cons_succ]
  refine wpAnyH_take (i := 5) (oi := ⟨some 10, _, _, _, _, _⟩) (v := .pointer (some ⟨w.heap.size + 1, 1, none⟩)) rfl (by kernel_rfl) (by kernel_rfl) (by kernel_rfl) (fun _ _ _ h => h) (Or.inl ⟨by rfl, (fun w' hS => by (try dsimp only at hS); go_simp)⟩) (by assumption) ?_
  try simp only [Act.put, List.setIfInBounds_toArray, List.set_cons_zero, List.set_cons_succ]
  refine wpAnyH_take (i := 6) (oi := ⟨some 11, _, _, _, _, _⟩) (v := strV (c0 :: v0)) rfl (by kernel_rfl) (by kernel_rfl) (by kernel_rfl) (fun _ _ _ h => h) (Or.inl ⟨by rfl, (fun w' hS => by (try dsimp only at hS); go_simp)⟩) (by assumption) ?_
  try simp only [Act.put, List.setIfInBounds_toArray, List.set_cons_zero, List.set_cons_succ]
  refine wpAnyH_ready (rs := [7]) (by kernel_rfl) (by simp) ?_
  refine AllReadyH.cons (o := { dst := some 12, op := Op.call { callee := Callee.value (Operand.func 275), args := #[Operand.tmp 9, Operand.tmp 11], argTypes := #[26, 9] }, type := 3, pos := "check.go:60", after := #[{ on := 4, ground := Ground.data }, { on := 6, ground := Ground.data }, { on := 3, ground := Ground.chain }, { on := 3, ground := Ground.guard }], guard := some (3, false) }) rfl (fun K2 hK => ?_) AllReadyH.nil
  rw [if_pos (by rfl)]
  go_simp
  refine (KO.out _ BD.out).mono ?_
  rintro e w1 ⟨rfl, hb1⟩
  have B1 := Lib.hid (BD.out.trans (hb1.mono BD.out.size))
  have Q1 := Lib.hid (Blk.below (show Blk W.drew _ _ _ from Q0.out) hb1 (Nat.lt_trans (Nat.lt_succ_self _) (Blk.lt P0.out)))
  have P1 := Lib.hid (Blk.below (show Blk W.drew _ _ _ from P0.out) hb1 (Blk.lt P0.out))
  clear hb1
  refine hK.out _ _ ⟨Blk.cell Q1.out 0, Blk.cell Q1.out 1, Blk.cell Q1.out 2, Blk.cell P1.out 1, Blk.cell P1.out 14⟩ (fun hHeld1 => ?_)
  clear hK K2 hHeld0
  try simp only [Act.put, List.setIfInBounds_toArray, List.set_cons_zero, List.set_cons_succ]
  refine wpAnyH_take (i := 8) (oi := ⟨some 13, _, _, _, _, _⟩) (v := .bool false) rfl (by kernel_rfl) (by kernel_rfl) (by kernel_rfl) (fun _ _ _ h => h) (Or.inl ⟨by rfl, (fun w' hS => by (try dsimp only at hS); go_simp)⟩) (by assumption) ?_
  try simp only [Act.put, List.setIfInBounds_toArray, List.set_cons_zero, List.set_cons_succ]
  refine wpAnyH_take (i := 9) (oi := ⟨some 14, _, _, _, _, _⟩) (v := .bool false) rfl (by kernel_rfl) (by kernel_rfl) (by kernel_rfl) (fun _ _ _ h => h) (Or.inl ⟨by rfl, (fun w' hS => by (try dsimp only at hS); go_simp)⟩) (by assumption) ?_
  try simp only [Act.put, List.setIfInBounds_toArray, List.set_cons_zero, List.set_cons_succ]
  refine wpAnyH_take (i := 10) (oi := ⟨some 15, _, _, _, _, _⟩) (v := .bool false) rfl (by kernel_rfl) (by kernel_rfl) (by kernel_rfl) (fun _ _ _ h => h) (Or.inl ⟨by rfl, (fun w' hS => by (try dsimp only at hS); go_simp)⟩) (by assumption) ?_
  try simp only [Act.put, List.setIfInBounds_toArray, List.set_cons_zero, List.set_cons_succ]
  refine wpAnyH_take (i := 11) (oi := ⟨some 16, _, _, _, _, _⟩) (v := undef) rfl (by kernel_rfl) (by kernel_rfl) (by kernel_rfl) (fun _ _ _ h => h) (Or.inr ⟨by rfl, rfl⟩) (by assumption) ?_
  try simp only [Act.put, List.setIfInBounds_toArray, List.set_cons_zero, List.set_cons_succ]
  refine wpAnyH_take (i := 12) (oi := ⟨some 17, _, _, _, _, _⟩) (v := undef) rfl (by kernel_rfl) (by kernel_rfl) (by kernel_rfl) (fun _ _ _ h => h) (Or.inr ⟨by rfl, rfl⟩) (by assumption) ?_
  try simp only [Act.put, List.setIfInBounds_toArray, List.set_cons_zero, List.set_cons_succ]
  refine wpAnyH_take (i := 13) (oi := ⟨some 18, _, _, _, _, _⟩) (v := undef) rfl (by kernel_rfl) (by kernel_rfl) (by kernel_rfl) (fun _ _ _ h => h) (Or.inr ⟨by rfl, rfl⟩) (by assumption) ?_
  try simp only [Act.put, List.setIfInBounds_toArray, List.set_cons_zero, List.set_cons_succ]
  refine wpAnyH_take (i := 14) (oi := ⟨some 19, _, _, _, _, _⟩) (v := undef) rfl (by kernel_rfl) (by kernel_rfl) (by kernel_rfl) (fun _ _ _ h => h) (Or.inr ⟨by rfl, rfl⟩) (by assumption) ?_
  try simp only [Act.put, List.setIfInBounds_toArray, List.set_cons_zero, List.set_cons_succ]
  refine wpAnyH_take (i := 15) (oi := ⟨some 20, _, _, _, _, _⟩) (v := undef) rfl (by kernel_rfl) (by kernel_rfl) (by kernel_rfl) (fun _ _ _ h => h) (Or.inr ⟨by rfl, rfl⟩) (by assumption) ?_
  try simp only [Act.put, List.setIfInBounds_toArray, List.set_cons_zero, List.set_cons_succ]
  refine wpAnyH_take (i := 16) (oi := ⟨some 21, _, _, _, _, _⟩) (v := undef) rfl (by kernel_rfl) (by kernel_rfl) (by kernel_rfl) (fun _ _ _ h => h) (Or.inr ⟨by rfl, rfl⟩) (by assumption) ?_
  try simp only [Act.put, List.setIfInBounds_toArray, List.set_cons_zero, List.set_cons_succ]
  refine wpAnyH_take (i := 17) (oi := ⟨some 22, _, _, _, _, _⟩) (v := undef) rfl (by kernel_rfl) (by kernel_rfl) (by kernel_rfl) (fun _ _ _ h => h) (Or.inr ⟨by rfl, rfl⟩) (by assumption) ?_
  try simp only [Act.put, List.setIfInBounds_toArray, List.set_cons_zero, List.set_cons_succ]
  refine wpAnyH_take (i := 18) (oi := ⟨some 23, _, _, _, _, _⟩) (v := undef) rfl (by kernel_rfl) (by kernel_rfl) (by kernel_rfl) (fun _ _ _ h => h) (Or.inr ⟨by rfl, rfl⟩) (by assumption) ?_
  try simp only [Act.put, List.setIfInBounds_toArray, List.set_cons_zero, List.set_cons_succ]
  refine wpAnyH_take (i := 19) (oi := ⟨some 24, _, _, _, _, _⟩) (v := undef) rfl (by kernel_rfl) (by kernel_rfl) (by kernel_rfl) (fun _ _ _ h => h) (Or.inr ⟨by rfl, rfl⟩) (by assumption) ?_
  try simp only [Act.put, List.setIfInBounds_toArray, List.set_cons_zero, List.set_cons_succ]
  refine wpAnyH_take (i := 20) (oi := ⟨some 25, _, _, _, _, _⟩) (v := undef) rfl (by kernel_rfl) (by kernel_rfl) (by kernel_rfl) (fun _ _ _ h => h) (Or.inr ⟨by rfl, rfl⟩) (by assumption) ?_
  try simp only [Act.put, List.setIfInBounds_toArray, List.set_cons_zero, List.set_cons_succ]
  refine wpAnyH_take (i := 21) (oi := ⟨some 26, _, _, _, _, _⟩) (v := undef) rfl (by kernel_rfl) (by kernel_rfl) (by kernel_rfl) (fun _ _ _ h => h) (Or.inr ⟨by rfl, rfl⟩) (by assumption) ?_
  try simp only [Act.put, List.setIfInBounds_toArray, List.set_cons_zero, List.set_cons_succ]
  refine wpAnyH_take (i := 22) (oi := ⟨some 27, _, _, _, _, _⟩) (v := .bool false) rfl (by kernel_rfl) (by kernel_rfl) (by kernel_rfl) (fun _ _ _ h => h) (Or.inl ⟨by rfl, (fun w' hS => by (try dsimp only at hS); go_simp)⟩) (by assumption) ?_
  try simp only [Act.put, List.setIfInBounds_toArray, List.set_cons_zero, List.set_cons_succ]
  refine wpAnyH_take (i := 23) (oi := ⟨some 4, _, _, _, _, _⟩) (v := .bool false) rfl (by kernel_rfl) (by kernel_rfl) (by kernel_rfl) (fun _ _ _ h => h) (Or.inl ⟨by rfl, (fun w' hS => by (try dsimp only at hS); go_simp)⟩) (by assumption) ?_
  try simp only [Act.put, List.setIfInBounds_toArray, List.set_cons_zero, List.set_cons_succ]
  refine wpAnyH_done (by kernel_rfl) ?_ _
  clear hHeld1
  go_wp2_with fail
  go_ret
  exact ⟨La.retB rfl, B1.out⟩

theorem known_any (A B C : Option Addr) (ca cb cc : Nat) (ns : List NodeD) (ps : List PodD) (os : List OwnD) (x : PodD) (w : World) (h : SnapAt w A B C ca cb cc ns ps os) :
    Calls Tryz.prog 207 #[snapV A B C ca cb cc ns ps os, valP x] w fun e w' => e = .returned (.bool (knownB ns os x)) ∧ Below w.heap.size w w' := by
  obtain ⟨nm, ow, rq, lb, wh, br, wt, wtm, ap, apm, on, al, cl, aw, cw, ab, cb', awt, cwt, aap, cap'⟩ := x
  have kn : ∀ name : List UInt8, ∀ w', Below w.heap.size w w' → Calls Tryz.prog 277 #[snapV A B C ca cb cc ns ps os, strV name] w' fun e w'' => e = .returned (.int .i64 (idxF name (ns.map (·.name)))) ∧ Below w'.heap.size w' w'' := fun name w' hb =>
    findN A B C ca cb cc _ _ _ ns name w' h.ln (h.below hb).n.cells rfl
  have ko : ∀ name : List UInt8, ∀ w', Below w.heap.size w w' → Calls Tryz.prog 275 #[snapV A B C ca cb cc ns ps os, strV name] w' fun e w'' => e = .returned (.int .i64 (idxF name (os.map (·.name)))) ∧ Below w'.heap.size w' w'' := fun name w' hb =>
    findO A B C ca cb cc _ _ _ os name w' h.lo (h.below hb).o rfl
  have kt : ∀ name : List UInt8, ∀ w', Below w.heap.size w w' → Calls Tryz.prog 276 #[snapV A B C ca cb cc ns ps os, .int .i64 (idxF name (ns.map (·.name)))] w' fun e w'' => e = .returned (.bool (tpB ns (idxF name (ns.map (·.name))))) ∧ Below w'.heap.size w' w'' := fun name w' hb => by
    have hr := idx_range name (ns.map (·.name))
    rw [List.length_map] at hr
    have := h.ln
    exact takes_any A B C ca cb cc _ _ ns _ w' h.ln (by omega) (by omega) (h.below hb).n.cells
  cases ow with
  | nil =>
    cases on with
    | nil => exact known_ee A B C ca cb cc ns ps os w nm rq lb wh br wt wtm ap apm al cl aw cw ab cb' awt cwt aap cap'
    | cons b0 u0 =>
      have k := known_en A B C ca cb cc ns ps os w nm rq lb wh br wt wtm ap apm al cl aw cw ab cb' awt cwt aap cap' b0 u0 _ _ (kn (b0 :: u0)) (kt (b0 :: u0))
      simpa [knownB] using k
  | cons c0 v0 =>
    by_cases hi : idxF (c0 :: v0) (os.map (·.name)) = -1
    · have k := known_nf A B C ca cb cc ns ps os w nm on rq lb wh br wt wtm ap apm al cl aw cw ab cb' awt cwt aap cap' c0 v0 _ (ko (c0 :: v0)) hi
      simpa [knownB, hi] using k
    · have hj : (idxF (c0 :: v0) (os.map (·.name)) == -1) = false := by simpa using hi
      cases on with
      | nil =>
        have k := known_ne A B C ca cb cc ns ps os w nm rq lb wh br wt wtm ap apm al cl aw cw ab cb' awt cwt aap cap' c0 v0 _ (ko (c0 :: v0)) hi
        simpa [knownB, hj] using k
      | cons b0 u0 =>
        have k := known_nn A B C ca cb cc ns ps os w nm rq lb wh br wt wtm ap apm al cl aw cw ab cb' awt cwt aap cap' c0 v0 _ b0 u0 (ko (c0 :: v0)) hi _ _ (kn (b0 :: u0)) (kt (b0 :: u0))
        simpa [knownB, hj] using k
end Go.Proofs.YtmmokiaipfalmaaGreat

namespace Go.Proofs.YtmmokiaipfalmaaGreat
open Go.RowKit

set_option maxRecDepth 100000 in
set_option maxHeartbeats 2000000 in
theorem allN (A : Option Addr) (c : Nat) (l : List NodeD) (f : NodeD → Bool) (w : World) (hl : l.length ≤ 1000) (hs : La.SlAt w A (cellsN l))
    (hf : ∀ x ∈ l, ∀ w', Below w.heap.size w w' → Calls Tryz.prog 203 #[valN x] w' fun e w'' => e = .returned (.bool (f x)) ∧ Below w'.heap.size w' w'') :
    Calls Tryz.prog 202 #[.slice A l.length c, .func (Fn.func 203) #[] #[]] w fun e w' => e = .returned (.bool (l.all f)) ∧ Below w.heap.size w w' := by
  have HS := Lib.hid hs
  have HF := Lib.hid hf
  have hg : ∀ (args : Array Value) (w : World), (callFunc 203 args).run Tryz.prog w = .ok (.enter 203 args) w := fun _ _ => by kernel_rfl
  obtain ⟨R, hR⟩ : ∃ R, l.all f = R := ⟨_, rfl⟩
  have HR := Lib.hid hR
  rw [hR]
  clear hs hf hR
  go_enter Tryz.func202, Tryz.ntmps202
  go_wp2_with fail
  go_loopw [9] (fun i wr => ∃ k : Nat, k ≤ l.length ∧ i = .int .i64 k ∧ (∀ j x, j < k → l[j]? = some x → f x = true) ∧ Below w.heap.size w wr) (fun i _ => l.length - (intOf i).toNat)
  case atStart => exact ⟨0, by omega, rfl, fun j x h => by omega, Below.refl _ _⟩
  case round =>
    obtain ⟨k, hk, rfl, hn, hb⟩ := hrel
    have HN := Lib.hid hn
    have HB := Lib.hid hb
    clear hn hb
    by_cases hlt : k < l.length
    · obtain ⟨x, hx⟩ : ∃ x, l[k]? = some x := ⟨l[k], List.getElem?_eq_getElem hlt⟩
      obtain ⟨b, o, hA, hbl, c0, c1, c2, c3, c4, c5, c6, c7, c8, c9⟩ := atN (HS.out.below HB.out) hx
      subst hA
      have HX := Lib.hid hx
      have k0 : (0 : Int) ≤ (k : Int) := by omega
      have k1 : (k : Int) < (l.length : Int) := by omega
      have KI := Lib.hid (fun w' (hb : Below wr.heap.size wr w') => HF.out x (List.mem_of_getElem? hx) w' (HB.out.trans (hb.mono HB.out.size)))
      obtain ⟨r, hr⟩ : ∃ r, f x = r := ⟨_, rfl⟩
      have Hr := Lib.hid hr
      rw [hr] at KI
      clear hx hr
      go_wp2_with fail
      refine (KI.out _ (by first | exact Below.refl _ _ | exact (Below.refl _ _).drew | exact below1 wr _)).mono ?_
      rintro e w3 ⟨rfl, hb3⟩
      have B3 := Lib.hid (by first | exact HB.out.trans (hb3.mono HB.out.size) | exact HB.out.trans ((below1 wr _).trans (hb3.mono (below1 wr _).size) |>.mono HB.out.size))
      clear hb3 KI c0 c1 c2 c3 c4 c5 c6 c7 c8 c9
      cases r
      · have HE : Hid (false = R) := Lib.hid (by
          rw [← HR.out]
          exact (List.all_eq_false.2 ⟨x, List.mem_of_getElem? HX.out, by simp [Hr.out]⟩).symm)
        go_wp2
        go_ret
        exact ⟨La.retB HE.out, B3.out⟩
      · go_wp2
        go_roundw
        case rel =>
          refine ⟨k + 1, by omega, by go_num, fun j y hj hy => ?_, B3.out⟩
          by_cases hjk : j = k
          · subst hjk
            rw [HX.out] at hy
            cases hy
            exact Hr.out
          · exact HN.out j y (by omega) hy
        case measure => simp [intOf]; omega
    · obtain rfl : k = l.length := by omega
      have HE : Hid (true = R) := Lib.hid (by
        rw [← HR.out]
        refine (List.all_eq_true.2 fun y hy => ?_).symm
        obtain ⟨j, hj⟩ := List.mem_iff_getElem?.1 hy
        refine HN.out j y ?_ hj
        rcases Nat.lt_or_ge j l.length with h | h
        · exact h
        · rw [List.getElem?_eq_none (by simpa using h)] at hj
          cases hj)
      go_wp2
      go_ret
      exact ⟨La.retB HE.out, HB.out⟩

set_option maxRecDepth 100000 in
set_option maxHeartbeats 2000000 in
theorem allP (A : Option Addr) (c q : Nat) (l : List PodD) (f : PodD → Bool) (w : World) (hl : l.length ≤ 1000) (hs : La.SlAt w A (cellsP l))
    (hf : ∀ x ∈ l, ∀ w', Below w.heap.size w w' → Calls Tryz.prog 205 #[valP x, .pointer (some ⟨q, 0, none⟩)] w' fun e w'' => e = .returned (.bool (f x)) ∧ Below w'.heap.size w' w'') :
    Calls Tryz.prog 204 #[.slice A l.length c, .func (Fn.func 205) #[] #[.pointer (some ⟨q, 0, none⟩)]] w fun e w' => e = .returned (.bool (l.all f)) ∧ Below w.heap.size w w' := by
  have HS := Lib.hid hs
  have HF := Lib.hid hf
  have hg : ∀ (args : Array Value) (w : World), (callFunc 205 args).run Tryz.prog w = .ok (.enter 205 args) w := fun _ _ => by kernel_rfl
  obtain ⟨R, hR⟩ : ∃ R, l.all f = R := ⟨_, rfl⟩
  have HR := Lib.hid hR
  rw [hR]
  clear hs hf hR
  go_enter Tryz.func204, Tryz.ntmps204
  go_wp2_with fail
  go_loopw [9] (fun i wr => ∃ k : Nat, k ≤ l.length ∧ i = .int .i64 k ∧ (∀ j x, j < k → l[j]? = some x → f x = true) ∧ Below w.heap.size w wr) (fun i _ => l.length - (intOf i).toNat)
  case atStart => exact ⟨0, by omega, rfl, fun j x h => by omega, Below.refl _ _⟩
  case round =>
    obtain ⟨k, hk, rfl, hn, hb⟩ := hrel
    have HN := Lib.hid hn
    have HB := Lib.hid hb
    clear hn hb
    by_cases hlt : k < l.length
    · obtain ⟨x, hx⟩ : ∃ x, l[k]? = some x := ⟨l[k], List.getElem?_eq_getElem hlt⟩
      obtain ⟨b, o, hA, hbl, c0, c1, c2, c3, c4, c5, c6, c7, c8, c9, c10, c11, c12, c13, c14⟩ := atP (HS.out.below HB.out) hx
      subst hA
      have HX := Lib.hid hx
      have k0 : (0 : Int) ≤ (k : Int) := by omega
      have k1 : (k : Int) < (l.length : Int) := by omega
      have KI := Lib.hid (fun w' (hb : Below wr.heap.size wr w') => HF.out x (List.mem_of_getElem? hx) w' (HB.out.trans (hb.mono HB.out.size)))
      obtain ⟨r, hr⟩ : ∃ r, f x = r := ⟨_, rfl⟩
      have Hr := Lib.hid hr
      rw [hr] at KI
      clear hx hr
      go_wp2_with fail
      refine (KI.out _ (by first | exact Below.refl _ _ | exact (Below.refl _ _).drew | exact below1 wr _)).mono ?_
      rintro e w3 ⟨rfl, hb3⟩
      have B3 := Lib.hid (by first | exact HB.out.trans (hb3.mono HB.out.size) | exact HB.out.trans ((below1 wr _).trans (hb3.mono (below1 wr _).size) |>.mono HB.out.size))
      clear hb3 KI c0 c1 c2 c3 c4 c5 c6 c7 c8 c9 c10 c11 c12 c13 c14
      cases r
      · have HE : Hid (false = R) := Lib.hid (by
          rw [← HR.out]
          exact (List.all_eq_false.2 ⟨x, List.mem_of_getElem? HX.out, by simp [Hr.out]⟩).symm)
        go_wp2
        go_ret
        exact ⟨La.retB HE.out, B3.out⟩
      · go_wp2
        go_roundw
        case rel =>
          refine ⟨k + 1, by omega, by go_num, fun j y hj hy => ?_, B3.out⟩
          by_cases hjk : j = k
          · subst hjk
            rw [HX.out] at hy
            cases hy
            exact Hr.out
          · exact HN.out j y (by omega) hy
        case measure => simp [intOf]; omega
    · obtain rfl : k = l.length := by omega
      have HE : Hid (true = R) := Lib.hid (by
        rw [← HR.out]
        refine (List.all_eq_true.2 fun y hy => ?_).symm
        obtain ⟨j, hj⟩ := List.mem_iff_getElem?.1 hy
        refine HN.out j y ?_ hj
        rcases Nat.lt_or_ge j l.length with h | h
        · exact h
        · rw [List.getElem?_eq_none (by simpa using h)] at hj
          cases hj)
      go_wp2
      go_ret
      exact ⟨La.retB HE.out, HB.out⟩

set_option maxRecDepth 100000 in
set_option maxHeartbeats 2000000 in
theorem allO (A : Option Addr) (c : Nat) (l : List OwnD) (f : OwnD → Bool) (w : World) (hl : l.length ≤ 1000) (hs : La.SlAt w A (cellsO l))
    (hf : ∀ x ∈ l, ∀ w', Below w.heap.size w w' → Calls Tryz.prog 209 #[valO x] w' fun e w'' => e = .returned (.bool (f x)) ∧ Below w'.heap.size w' w'') :
    Calls Tryz.prog 208 #[.slice A l.length c, .func (Fn.func 209) #[] #[]] w fun e w' => e = .returned (.bool (l.all f)) ∧ Below w.heap.size w w' := by
  have HS := Lib.hid hs
  have HF := Lib.hid hf
  have hg : ∀ (args : Array Value) (w : World), (callFunc 209 args).run Tryz.prog w = .ok (.enter 209 args) w := fun _ _ => by kernel_rfl
  obtain ⟨R, hR⟩ : ∃ R, l.all f = R := ⟨_, rfl⟩
  have HR := Lib.hid hR
  rw [hR]
  clear hs hf hR
  go_enter Tryz.func208, Tryz.ntmps208
  go_wp2_with fail
  go_loopw [9] (fun i wr => ∃ k : Nat, k ≤ l.length ∧ i = .int .i64 k ∧ (∀ j x, j < k → l[j]? = some x → f x = true) ∧ Below w.heap.size w wr) (fun i _ => l.length - (intOf i).toNat)
  case atStart => exact ⟨0, by omega, rfl, fun j x h => by omega, Below.refl _ _⟩
  case round =>
    obtain ⟨k, hk, rfl, hn, hb⟩ := hrel
    have HN := Lib.hid hn
    have HB := Lib.hid hb
    clear hn hb
    by_cases hlt : k < l.length
    · obtain ⟨x, hx⟩ : ∃ x, l[k]? = some x := ⟨l[k], List.getElem?_eq_getElem hlt⟩
      obtain ⟨b, o, hA, hbl, c0, c1, c2, c3, c4⟩ := atO (HS.out.below HB.out) hx
      subst hA
      have HX := Lib.hid hx
      have k0 : (0 : Int) ≤ (k : Int) := by omega
      have k1 : (k : Int) < (l.length : Int) := by omega
      have KI := Lib.hid (fun w' (hb : Below wr.heap.size wr w') => HF.out x (List.mem_of_getElem? hx) w' (HB.out.trans (hb.mono HB.out.size)))
      obtain ⟨r, hr⟩ : ∃ r, f x = r := ⟨_, rfl⟩
      have Hr := Lib.hid hr
      rw [hr] at KI
      clear hx hr
      go_wp2_with fail
      refine (KI.out _ (by first | exact Below.refl _ _ | exact (Below.refl _ _).drew | exact below1 wr _)).mono ?_
      rintro e w3 ⟨rfl, hb3⟩
      have B3 := Lib.hid (by first | exact HB.out.trans (hb3.mono HB.out.size) | exact HB.out.trans ((below1 wr _).trans (hb3.mono (below1 wr _).size) |>.mono HB.out.size))
      clear hb3 KI c0 c1 c2 c3 c4
      cases r
      · have HE : Hid (false = R) := Lib.hid (by
          rw [← HR.out]
          exact (List.all_eq_false.2 ⟨x, List.mem_of_getElem? HX.out, by simp [Hr.out]⟩).symm)
        go_wp2
        go_ret
        exact ⟨La.retB HE.out, B3.out⟩
      · go_wp2
        go_roundw
        case rel =>
          refine ⟨k + 1, by omega, by go_num, fun j y hj hy => ?_, B3.out⟩
          by_cases hjk : j = k
          · subst hjk
            rw [HX.out] at hy
            cases hy
            exact Hr.out
          · exact HN.out j y (by omega) hy
        case measure => simp [intOf]; omega
    · obtain rfl : k = l.length := by omega
      have HE : Hid (true = R) := Lib.hid (by
        rw [← HR.out]
        refine (List.all_eq_true.2 fun y hy => ?_).symm
        obtain ⟨j, hj⟩ := List.mem_iff_getElem?.1 hy
        refine HN.out j y ?_ hj
        rcases Nat.lt_or_ge j l.length with h | h
        · exact h
        · rw [List.getElem?_eq_none (by simpa using h)] at hj
          cases hj)
      go_wp2
      go_ret
      exact ⟨La.retB HE.out, HB.out⟩
end Go.Proofs.YtmmokiaipfalmaaGreat

namespace Go.Proofs.YtmmokiaipfalmaaGreat
open Go.RowKit

set_option maxRecDepth 100000 in
set_option maxHeartbeats 2000000 in
theorem one_any (A B C : Option Addr) (ca cb cc q : Nat) (ns : List NodeD) (ps : List PodD) (os : List OwnD) (x : PodD) (w : World) (h : SnapAt w A B C ca cb cc ns ps os) (hx : x.fit w) (hq : Blk w q (snapC A B C ca cb cc ns ps os) 26) :
    Calls Tryz.prog 205 #[valP x, .pointer (some ⟨q, 0, none⟩)] w fun e w' => e = .returned (.bool (podB x && knownB ns os x)) ∧ Below w.heap.size w w' := by
  have H := Lib.hid h
  have hql := Blk.lt hq
  have P0 : Hid (Blk (w.alloc (.cells (cellsP [x]).toArray 53)) w.heap.size (cellsP [x]).toArray 53) := Lib.hid (Blk.new w _ _)
  have B0 : Hid (Below w.heap.size w (w.alloc (.cells (cellsP [x]).toArray 53))) := Lib.hid (below1 w _)
  have HX := Lib.hid (hx.below B0.out)
  have hlt0 : w.heap.size < (w.alloc (.cells (cellsP [x]).toArray 53)).heap.size := Blk.lt P0.out
  have S0 := Lib.hid (Blk.alloc hq (.cells (cellsP [x]).toArray 53))
  have KK := Lib.hid (fun w' (hb : Below w.heap.size w w') => known_any A B C ca cb cc ns ps os x w' (H.out.below hb))
  clear h hx hq
  obtain ⟨r, hr⟩ : ∃ r, podB x = r := ⟨_, rfl⟩
  obtain ⟨r2, hr2⟩ : ∃ r, knownB ns os x = r := ⟨_, rfl⟩
  have KP := Lib.hid (mayBePod_any x _ HX.out)
  rw [hr] at KP
  rw [hr2] at KK
  rw [hr, hr2]
  clear hr hr2 H HX
  go_enter Tryz.func205, Tryz.ntmps205
  go_wp2_with fail
  refine KP.out.mono ?_
  rintro e w3 ⟨rfl, hb⟩
  have P3 := Lib.hid (P0.out.below hb hlt0)
  have S3 := Lib.hid (S0.out.below hb (Nat.lt_trans hql hlt0))
  have B3 := Lib.hid (B0.out.trans (hb.mono (Nat.le_of_lt hlt0)))
  clear hb KP
  cases r
  · go_wp2
    go_ret
    exact ⟨rfl, B3.out⟩
  · have c0 : w3.cell? ⟨w.heap.size, 0, none⟩ = some (strV x.name) := Blk.cell P3.out 0; have c1 : w3.cell? ⟨w.heap.size, 1, none⟩ = some (strV x.owner) := Blk.cell P3.out 1; have c2 : w3.cell? ⟨w.heap.size, 2, none⟩ = some (.int .i64 (x.req 0)) := Blk.cell P3.out 2; have c3 : w3.cell? ⟨w.heap.size, 3, none⟩ = some (.int .i64 (x.req 1)) := Blk.cell P3.out 3; have c4 : w3.cell? ⟨w.heap.size, 4, none⟩ = some (.int .i64 (x.req 2)) := Blk.cell P3.out 4; have c5 : w3.cell? ⟨w.heap.size, 5, none⟩ = some (.int .i64 (x.req 3)) := Blk.cell P3.out 5; have c6 : w3.cell? ⟨w.heap.size, 6, none⟩ = some (.int .i64 (x.req 4)) := Blk.cell P3.out 6; have c7 : w3.cell? ⟨w.heap.size, 7, none⟩ = some (.slice x.al x.labels.length x.cl) := Blk.cell P3.out 7; have c8 : w3.cell? ⟨w.heap.size, 8, none⟩ = some (.slice x.aw x.whr.length x.cw) := Blk.cell P3.out 8; have c9 : w3.cell? ⟨w.heap.size, 9, none⟩ = some (.slice x.ab x.bears.length x.cb) := Blk.cell P3.out 9; have c10 : w3.cell? ⟨w.heap.size, 10, none⟩ = some (strV x.wt) := Blk.cell P3.out 10; have c11 : w3.cell? ⟨w.heap.size, 11, none⟩ = some (.slice x.awt x.wtm.length x.cwt) := Blk.cell P3.out 11; have c12 : w3.cell? ⟨w.heap.size, 12, none⟩ = some (strV x.ap) := Blk.cell P3.out 12; have c13 : w3.cell? ⟨w.heap.size, 13, none⟩ = some (.slice x.aap x.apm.length x.cap) := Blk.cell P3.out 13; have c14 : w3.cell? ⟨w.heap.size, 14, none⟩ = some (strV x.on) := Blk.cell P3.out 14
    have s0 : w3.cell? ⟨q, 0, none⟩ = some (.slice A ns.length ca) := Blk.cell S3.out 0; have s1 : w3.cell? ⟨q, 1, none⟩ = some (.slice B ps.length cb) := Blk.cell S3.out 1; have s2 : w3.cell? ⟨q, 2, none⟩ = some (.slice C os.length cc) := Blk.cell S3.out 2
    go_wp2_with fail
    refine (KK.out _ B3.out).mono ?_
    rintro e w4 ⟨rfl, hb⟩
    have B4 := Lib.hid (B3.out.trans (hb.mono B3.out.size))
    clear hb KK c0 c1 c2 c3 c4 c5 c6 c7 c8 c9 c10 c11 c12 c13 c14 s0 s1 s2
    go_wp2
    go_ret
    exact ⟨La.retB (by simp), B4.out⟩
end Go.Proofs.YtmmokiaipfalmaaGreat

namespace Go.Proofs.YtmmokiaipfalmaaGreat
open Go.RowKit

theorem capOwn {w : World} {base : Nat} {e : TypeId} {size : Nat} {A : Option Addr} {n c : Nat} {xs : List Value} (h : w.ownsRow base e size (.slice A n c) n xs) : n ≤ c ∧ c ≤ maxLen := by
  rcases h.2 with ⟨hv, h0⟩ | ⟨g, cap, cur, hv, hb, hg, h1, h2, h3, h4⟩
  · cases hv
    exact ⟨Nat.le_refl _, Nat.zero_le _⟩
  · cases hv
    exact ⟨h1, h2⟩
theorem noneN {w : World} {l : List NodeD} (h : La.SlAt w none (cellsN l)) : l = [] := by
  cases l with
  | nil => rfl
  | cons x t =>
    obtain ⟨b, o, hA, _⟩ := atN h (k := 0) (x := x) rfl
    cases hA
theorem noneP {w : World} {l : List PodD} (h : La.SlAt w none (cellsP l)) : l = [] := by
  cases l with
  | nil => rfl
  | cons x t =>
    obtain ⟨b, o, hA, _⟩ := atP h (k := 0) (x := x) rfl
    cases hA
theorem noneO {w : World} {l : List OwnD} (h : La.SlAt w none (cellsO l)) : l = [] := by
  cases l with
  | nil => rfl
  | cons x t =>
    obtain ⟨b, o, hA, _⟩ := atO h (k := 0) (x := x) rfl
    cases hA
/-- What each made of names, told by mayBeNames. -/
theorem names_of {w : World} {base : Nat} {A : Option Addr} {c : Nat} (l : List (List UInt8)) (h : w.ownsRow base 9 1 (.slice A l.length c) l.length (strC l)) (hl : l.length ≤ 1000) (hbig : ∀ x ∈ l, x.length ≤ 9223372036854775807) :
    Calls Tryz.prog 195 #[.slice A l.length c] w fun e w' => e = .returned (.bool (namesB l)) ∧ Below w.heap.size w w' := by
  have hc := capOwn h
  have hm : maxLen ≤ 9223372036854775807 := by unfold maxLen; omega
  exact mayBeNames_any A c l w hl hc.1 (Nat.le_trans hc.2 hm) (La.own_slat h) hbig
/-- May a cluster be, but for its sums? -/
def clusB (ns : List NodeD) (ps : List PodD) (os : List OwnD) : Bool := decide ((ns.length : Int) ≤ 8) && decide ((ps.length : Int) ≤ 24) && decide ((os.length : Int) ≤ 8) && namesB (ns.map (·.name)) && namesB (ps.map (·.name)) && namesB (os.map (·.name)) && ns.all nodeB && ps.all (fun x => podB x && knownB ns os x) && os.all ownB

set_option maxRecDepth 100000 in
set_option maxHeartbeats 4000000 in
theorem may_any (A B C : Option Addr) (ca cb cc : Nat) (ns : List NodeD) (ps : List PodD) (os : List OwnD) (w : World) (h : SnapAt w A B C ca cb cc ns ps os) :
    Calls Tryz.prog 143 #[snapV A B C ca cb cc ns ps os] w fun e w' => e = .returned (.bool (clusB ns ps os)) ∧ Below w.heap.size w w' := by
  have H := Lib.hid h
  have B0 : Hid (Below w.heap.size w (w.alloc (.cells (snapC A B C ca cb cc ns ps os) 26))) := Lib.hid (below1 w _)
  have S0 : Hid (Blk (w.alloc (.cells (snapC A B C ca cb cc ns ps os) 26)) w.heap.size (snapC A B C ca cb cc ns ps os) 26) := Lib.hid (Blk.new w _ _)
  have hgN : ∀ (args : Array Value) (w : World), (callFunc 197 args).run Tryz.prog w = .ok (.enter 197 args) w := fun _ _ => by kernel_rfl
  have hgP : ∀ (args : Array Value) (w : World), (callFunc 199 args).run Tryz.prog w = .ok (.enter 199 args) w := fun _ _ => by kernel_rfl
  have hgO : ∀ (args : Array Value) (w : World), (callFunc 201 args).run Tryz.prog w = .ok (.enter 201 args) w := fun _ _ => by kernel_rfl
  have E1 := Lib.hid (fun w' (hb : Below w.heap.size w w') => eachNS A ca ns 197 w' H.out.ln (H.out.below hb).n.cells (fun e => noneN (w := w) (e ▸ H.out.n.cells)) hgN nodeName_any)
  have E2 := Lib.hid (fun w' (hb : Below w.heap.size w w') => eachPS B cb ps 199 w' H.out.lp (H.out.below hb).p.cells (fun e => noneP (w := w) (e ▸ H.out.p.cells)) hgP podName_any)
  have E3 := Lib.hid (fun w' (hb : Below w.heap.size w w') => eachOS C cc os 201 w' H.out.lo (H.out.below hb).o (fun e => noneO (w := w) (e ▸ H.out.o)) hgO ownerName_any)
  have F1 := Lib.hid (fun (w' : World) (base : Nat) (A : Option Addr) (c : Nat) (ho : w'.ownsRow base 9 1 (.slice A ns.length c) ns.length (ns.map fun x => strV x.name)) => by
    have k := names_of (ns.map (·.name)) (w := w') (base := base) (A := A) (c := c) (by simpa [strC, Function.comp_def] using ho) (by simpa using H.out.ln) (fun y hy => by obtain ⟨x, hx, rfl⟩ := List.mem_map.1 hy; exact (H.out.n.fit x hx).n)
    rwa [List.length_map] at k)
  have F2 := Lib.hid (fun (w' : World) (base : Nat) (A : Option Addr) (c : Nat) (ho : w'.ownsRow base 9 1 (.slice A ps.length c) ps.length (ps.map fun x => strV x.name)) => by
    have k := names_of (ps.map (·.name)) (w := w') (base := base) (A := A) (c := c) (by simpa [strC, Function.comp_def] using ho) (by simpa using H.out.lp) (fun y hy => by obtain ⟨x, hx, rfl⟩ := List.mem_map.1 hy; exact (H.out.p.fit x hx).n.1)
    rwa [List.length_map] at k)
  have F3 := Lib.hid (fun (w' : World) (base : Nat) (A : Option Addr) (c : Nat) (ho : w'.ownsRow base 9 1 (.slice A os.length c) os.length (os.map fun x => strV x.name)) => by
    have k := names_of (os.map (·.name)) (w := w') (base := base) (A := A) (c := c) (by simpa [strC, Function.comp_def] using ho) (by simpa using H.out.lo) (fun y hy => by obtain ⟨x, hx, rfl⟩ := List.mem_map.1 hy; exact (H.out.fo x hx).n)
    rwa [List.length_map] at k)
  have G1 := Lib.hid (fun w' (hb : Below w.heap.size w w') => allN A ca ns nodeB w' H.out.ln (H.out.below hb).n.cells (fun x hx w'' hb' => mayBeNode_any x w'' (((H.out.n.fit x hx).below hb).below hb')))
  have G2 := Lib.hid (fun w' (hb : Below w.heap.size w w') (hq : Blk w' w.heap.size (snapC A B C ca cb cc ns ps os) 26) => allP B cb w.heap.size ps (fun x => podB x && knownB ns os x) w' H.out.lp (H.out.below hb).p.cells (fun x hx w'' hb' => one_any A B C ca cb cc w.heap.size ns ps os x w'' ((H.out.below hb).below hb') (((H.out.p.fit x hx).below hb).below hb') (Blk.below hq hb' (Blk.lt hq))))
  have G3 := Lib.hid (fun w' (hb : Below w.heap.size w w') => allO C cc os ownB w' H.out.lo (H.out.below hb).o (fun x hx w'' hb' => mayBeOwner_any x w'' (H.out.fo x hx)))
  have E : Hid (clusB ns ps os = (decide ((ns.length : Int) ≤ 8) && decide ((ps.length : Int) ≤ 24) && decide ((os.length : Int) ≤ 8) && namesB (ns.map (·.name)) && namesB (ps.map (·.name)) && namesB (os.map (·.name)) && ns.all nodeB && ps.all (fun x => podB x && knownB ns os x) && os.all ownB)) := Lib.hid rfl
  generalize clusB ns ps os = R at E ⊢
  generalize namesB (ns.map (·.name)) = v1 at F1 E
  generalize namesB (ps.map (·.name)) = v2 at F2 E
  generalize namesB (os.map (·.name)) = v3 at F3 E
  generalize ns.all nodeB = v4 at G1 E
  generalize ps.all (fun x => podB x && knownB ns os x) = v5 at G2 E
  generalize os.all ownB = v6 at G3 E
  clear h H hgN hgP hgO
  have hlt0 : w.heap.size < (w.alloc (.cells (snapC A B C ca cb cc ns ps os) 26)).heap.size := Blk.lt S0.out
  rcases Decidable.em ((ns.length : Int) ≤ 8) with l1 | l1
  case inr =>
    have HE : Hid (R = false) := Lib.hid (by rw [E.out, decide_eq_false l1]; simp)
    go_enter Tryz.func143, Tryz.ntmps143
    go_wp2
    go_ret
    exact ⟨La.retB HE.out.symm, B0.out⟩
  rcases Decidable.em ((ps.length : Int) ≤ 24) with l2 | l2
  case inr =>
    have HE : Hid (R = false) := Lib.hid (by rw [E.out, decide_eq_false l2]; simp)
    go_enter Tryz.func143, Tryz.ntmps143
    go_wp2
    go_ret
    exact ⟨La.retB HE.out.symm, B0.out⟩
  rcases Decidable.em ((os.length : Int) ≤ 8) with l3 | l3
  case inr =>
    have HE : Hid (R = false) := Lib.hid (by rw [E.out, decide_eq_false l3]; simp)
    go_enter Tryz.func143, Tryz.ntmps143
    go_wp2
    go_ret
    exact ⟨La.retB HE.out.symm, B0.out⟩
  go_enter Tryz.func143, Tryz.ntmps143
  go_wp2_with fail
  refine (E1.out _ B0.out).mono ?_
  rintro e w1 ⟨u0, rfl, ho, hb⟩
  obtain ⟨A0, c0, rfl, hm0⟩ := La.own_slice ho
  have KF := Lib.hid (F1.out _ _ _ _ ho)
  clear ho hm0 E1 F1
  have S1 := Lib.hid (S0.out.below hb hlt0)
  have B1 := Lib.hid (B0.out.trans (hb.mono (Nat.le_of_lt hlt0)))
  clear hb
  have hl1 := Blk.lt S1.out
  have s0 : w1.cell? ⟨w.heap.size, 0, none⟩ = some (.slice A ns.length ca) := Blk.cell S1.out 0
  have s1 : w1.cell? ⟨w.heap.size, 1, none⟩ = some (.slice B ps.length cb) := Blk.cell S1.out 1
  have s2 : w1.cell? ⟨w.heap.size, 2, none⟩ = some (.slice C os.length cc) := Blk.cell S1.out 2
  go_wp2_with fail
  refine (KF.out).mono ?_
  rintro e w2 ⟨rfl, hb⟩
  clear KF
  have S2 := Lib.hid (S1.out.below hb hl1)
  have B2 := Lib.hid (B1.out.trans (hb.mono (Nat.le_of_lt hl1)))
  clear hb
  have hl2 := Blk.lt S2.out
  clear s0 s1 s2
  have s0 : w2.cell? ⟨w.heap.size, 0, none⟩ = some (.slice A ns.length ca) := Blk.cell S2.out 0
  have s1 : w2.cell? ⟨w.heap.size, 1, none⟩ = some (.slice B ps.length cb) := Blk.cell S2.out 1
  have s2 : w2.cell? ⟨w.heap.size, 2, none⟩ = some (.slice C os.length cc) := Blk.cell S2.out 2
  cases v1
  · have HE : Hid (R = false) := Lib.hid (by rw [E.out]; simp)
    go_wp2
    go_ret
    exact ⟨La.retB HE.out.symm, B2.out⟩
  go_wp2_with fail
  refine (E2.out _ B2.out).mono ?_
  rintro e w3 ⟨u1, rfl, ho, hb⟩
  obtain ⟨A1, c1, rfl, hm1⟩ := La.own_slice ho
  have KF := Lib.hid (F2.out _ _ _ _ ho)
  clear ho hm1 E2 F2
  have S3 := Lib.hid (S2.out.below hb hl2)
  have B3 := Lib.hid (B2.out.trans (hb.mono (Nat.le_of_lt hl2)))
  clear hb
  have hl3 := Blk.lt S3.out
  have s0 : w3.cell? ⟨w.heap.size, 0, none⟩ = some (.slice A ns.length ca) := Blk.cell S3.out 0
  have s1 : w3.cell? ⟨w.heap.size, 1, none⟩ = some (.slice B ps.length cb) := Blk.cell S3.out 1
  have s2 : w3.cell? ⟨w.heap.size, 2, none⟩ = some (.slice C os.length cc) := Blk.cell S3.out 2
  go_wp2_with fail
  refine (KF.out).mono ?_
  rintro e w4 ⟨rfl, hb⟩
  clear KF
  have S4 := Lib.hid (S3.out.below hb hl3)
  have B4 := Lib.hid (B3.out.trans (hb.mono (Nat.le_of_lt hl3)))
  clear hb
  have hl4 := Blk.lt S4.out
  clear s0 s1 s2
  have s0 : w4.cell? ⟨w.heap.size, 0, none⟩ = some (.slice A ns.length ca) := Blk.cell S4.out 0
  have s1 : w4.cell? ⟨w.heap.size, 1, none⟩ = some (.slice B ps.length cb) := Blk.cell S4.out 1
  have s2 : w4.cell? ⟨w.heap.size, 2, none⟩ = some (.slice C os.length cc) := Blk.cell S4.out 2
  cases v2
  · have HE : Hid (R = false) := Lib.hid (by rw [E.out]; simp)
    go_wp2
    go_ret
    exact ⟨La.retB HE.out.symm, B4.out⟩
  go_wp2_with fail
  refine (E3.out _ B4.out).mono ?_
  rintro e w5 ⟨u2, rfl, ho, hb⟩
  obtain ⟨A2, c2, rfl, hm2⟩ := La.own_slice ho
  have KF := Lib.hid (F3.out _ _ _ _ ho)
  clear ho hm2 E3 F3
  have S5 := Lib.hid (S4.out.below hb hl4)
  have B5 := Lib.hid (B4.out.trans (hb.mono (Nat.le_of_lt hl4)))
  clear hb
  have hl5 := Blk.lt S5.out
  have s0 : w5.cell? ⟨w.heap.size, 0, none⟩ = some (.slice A ns.length ca) := Blk.cell S5.out 0
  have s1 : w5.cell? ⟨w.heap.size, 1, none⟩ = some (.slice B ps.length cb) := Blk.cell S5.out 1
  have s2 : w5.cell? ⟨w.heap.size, 2, none⟩ = some (.slice C os.length cc) := Blk.cell S5.out 2
  go_wp2_with fail
  refine (KF.out).mono ?_
  rintro e w6 ⟨rfl, hb⟩
  clear KF
  have S6 := Lib.hid (S5.out.below hb hl5)
  have B6 := Lib.hid (B5.out.trans (hb.mono (Nat.le_of_lt hl5)))
  clear hb
  have hl6 := Blk.lt S6.out
  clear s0 s1 s2
  have s0 : w6.cell? ⟨w.heap.size, 0, none⟩ = some (.slice A ns.length ca) := Blk.cell S6.out 0
  have s1 : w6.cell? ⟨w.heap.size, 1, none⟩ = some (.slice B ps.length cb) := Blk.cell S6.out 1
  have s2 : w6.cell? ⟨w.heap.size, 2, none⟩ = some (.slice C os.length cc) := Blk.cell S6.out 2
  cases v3
  · have HE : Hid (R = false) := Lib.hid (by rw [E.out]; simp)
    go_wp2
    go_ret
    exact ⟨La.retB HE.out.symm, B6.out⟩
  go_wp2_with fail
  refine (G1.out _ B6.out).mono ?_
  rintro e w7 ⟨rfl, hb⟩
  clear G1
  have S7 := Lib.hid (S6.out.below hb hl6)
  have B7 := Lib.hid (B6.out.trans (hb.mono (Nat.le_of_lt hl6)))
  clear hb
  have hl7 := Blk.lt S7.out
  clear s0 s1 s2
  have s0 : w7.cell? ⟨w.heap.size, 0, none⟩ = some (.slice A ns.length ca) := Blk.cell S7.out 0
  have s1 : w7.cell? ⟨w.heap.size, 1, none⟩ = some (.slice B ps.length cb) := Blk.cell S7.out 1
  have s2 : w7.cell? ⟨w.heap.size, 2, none⟩ = some (.slice C os.length cc) := Blk.cell S7.out 2
  cases v4
  · have HE : Hid (R = false) := Lib.hid (by rw [E.out]; simp)
    go_wp2
    go_ret
    exact ⟨La.retB HE.out.symm, B7.out⟩
  go_wp2_with fail
  refine (G2.out _ B7.out S7.out).mono ?_
  rintro e w8 ⟨rfl, hb⟩
  clear G2
  have S8 := Lib.hid (S7.out.below hb hl7)
  have B8 := Lib.hid (B7.out.trans (hb.mono (Nat.le_of_lt hl7)))
  clear hb
  have hl8 := Blk.lt S8.out
  clear s0 s1 s2
  have s0 : w8.cell? ⟨w.heap.size, 0, none⟩ = some (.slice A ns.length ca) := Blk.cell S8.out 0
  have s1 : w8.cell? ⟨w.heap.size, 1, none⟩ = some (.slice B ps.length cb) := Blk.cell S8.out 1
  have s2 : w8.cell? ⟨w.heap.size, 2, none⟩ = some (.slice C os.length cc) := Blk.cell S8.out 2
  cases v5
  · have HE : Hid (R = false) := Lib.hid (by rw [E.out]; simp)
    go_wp2
    go_ret
    exact ⟨La.retB HE.out.symm, B8.out⟩
  go_wp2_with fail
  refine (G3.out _ B8.out).mono ?_
  rintro e w9 ⟨rfl, hb⟩
  clear G3
  have S9 := Lib.hid (S8.out.below hb hl8)
  have B9 := Lib.hid (B8.out.trans (hb.mono (Nat.le_of_lt hl8)))
  clear hb
  have hl9 := Blk.lt S9.out
  clear s0 s1 s2
  have s0 : w9.cell? ⟨w.heap.size, 0, none⟩ = some (.slice A ns.length ca) := Blk.cell S9.out 0
  have s1 : w9.cell? ⟨w.heap.size, 1, none⟩ = some (.slice B ps.length cb) := Blk.cell S9.out 1
  have s2 : w9.cell? ⟨w.heap.size, 2, none⟩ = some (.slice C os.length cc) := Blk.cell S9.out 2
  have HE : Hid (R = v6) := Lib.hid (by rw [E.out, decide_eq_true l1, decide_eq_true l2, decide_eq_true l3]; simp)
  clear s0 s1 s2
  go_wp2
  go_ret
  exact ⟨La.retB HE.out.symm, B9.out⟩
end Go.Proofs.YtmmokiaipfalmaaGreat

namespace Go.Proofs.YtmmokiaipfalmaaGreat.Qu
open Go.RowKit

/-- A slice of n noughts is made. -/
theorem run_numsM (w : World) (n : Nat) (hn : n ≤ 1000) : (Instr.makeSlice 27 (.int .i64 (n : Int)) (.int .i64 (n : Int))).run Tryz.prog w = .ok (.slice (some ⟨w.heap.size, 0, none⟩) n n) (w.alloc (.cells (madeCells #[.int .i64 0] n) 3)) := by
  cases hi : Tryz.prog.info? 3 with
  | none => have h := int_info; rw [hi] at h; cases h
  | some i =>
    have h := int_info
    rw [hi] at h
    simp only [Option.map_some, Option.some.injEq, Prod.mk.injEq] at h
    obtain ⟨h0, h1, h2⟩ := h
    have k := run_make (P := Tryz.prog) w 27 3 i (.int .i64 0) Tryz.underlying27 hi h0 .i64 .i64 n n (by omega) (by omega) (by rw [h2]; omega) (by omega)
    simpa [h1, Value.cells] using k

set_option maxRecDepth 100000 in
set_option maxHeartbeats 1000000 in
theorem column_anyM (A : Option Addr) (c : Nat) (l : List (Nat → Int)) (p : Nat) (w : World) (hl : l.length ≤ 1000) (hp : p < 5) (hr : RowsOf w A l) :
    Calls Tryz.prog 281 #[.slice A l.length c, .int .i64 (p : Int)] w fun e w' => e = .returned (.slice (some ⟨w.heap.size, 0, none⟩) l.length l.length) ∧ Below w.heap.size w w' ∧ RowOf w' (some ⟨w.heap.size, 0, none⟩) (colL l p) := by
  have Hr := Lib.hid hr
  clear hr
  have hmk := run_numsM w l.length hl
  go_enter Tryz.func281, Tryz.ntmps281
  go_wp2
  clear hmk
  go_loopw [13] (fun i wr => ∃ k : Nat, k ≤ l.length ∧ i = .int .i64 k ∧ NumsAt wr w.heap.size l.length (fun j => if j < k then (l.getD j (fun _ => 0)) p else 0) ∧ Below w.heap.size w wr) (fun i _ => l.length - (intOf i).toNat)
  case atStart => exact ⟨0, by omega, rfl, nums_new w l.length, (Below.refl _ _).alloc (Nat.le_refl _) _⟩
  case round =>
    obtain ⟨k, hk, rfl, hn, hb⟩ := hrel
    have Hn := Lib.hid hn
    have HB := Lib.hid hb
    clear hn hb
    by_cases hlt : k < l.length
    · obtain ⟨b, o, rfl, hbl, hc⟩ := Hr.out k l[k] (List.getElem?_eq_getElem hlt)
      have hc' : ∀ j, j < 5 → wr.cell? ⟨b, o + k * 5 + j, none⟩ = some (.int .i64 (l[k] j)) := fun j hj => (HB.out.cell (p := ⟨b, o + k * 5 + j, none⟩) hbl).trans (hc j hj)
      have c0 := hc' 0 (by omega)
      have c1 := hc' 1 (by omega)
      have c2 := hc' 2 (by omega)
      have c3 := hc' 3 (by omega)
      have c4 := hc' 4 (by omega)
      clear hc hc'
      simp only [Nat.add_zero] at c0
      have hv := cell_new l[k] p hp wr 47
      have hcn := (Hn.out.alloc (.cells #[.int .i64 (l[k] 0), .int .i64 (l[k] 1), .int .i64 (l[k] 2), .int .i64 (l[k] 3), .int .i64 (l[k] 4)] 47)).cell hlt
      have hfn := (Hn.out.alloc (.cells #[.int .i64 (l[k] 0), .int .i64 (l[k] 1), .int .i64 (l[k] 2), .int .i64 (l[k] 3), .int .i64 (l[k] 4)] 47)).free k
      go_wp2
      go_roundw
      case rel =>
        refine ⟨k + 1, by omega, by go_num, ?_, (HB.out.alloc HB.out.size _).setCell (by simp) _⟩
        have h := (Hn.out.alloc (.cells #[.int .i64 (l[k] 0), .int .i64 (l[k] 1), .int .i64 (l[k] 2), .int .i64 (l[k] 3), .int .i64 (l[k] 4)] 47)).set k (l[k] p)
        have e : (fun j => if j < k + 1 then (l.getD j (fun _ => 0)) p else 0) = upd (fun j => if j < k then (l.getD j (fun _ => 0)) p else 0) k (l[k] p) := by
          funext j
          unfold upd
          by_cases hj : j = k
          · subst hj
            simp [List.getD_eq_getElem?_getD, List.getElem?_eq_getElem hlt]
          · by_cases hj2 : j < k
            · simp [hj, hj2, show j < k + 1 by omega]
            · simp [hj, hj2, show ¬ j < k + 1 by omega]
        rw [e]
        exact h
      case measure => simp [intOf]; omega
    · go_wp2
      go_ret
      refine ⟨rfl, HB.out, fun j x hj => ?_⟩
      unfold colL at hj
      rw [List.getElem?_map] at hj
      cases hq : l[j]? with
      | none => rw [hq] at hj; cases hj
      | some y =>
        rw [hq] at hj
        simp only [Option.map_some, Option.some.injEq] at hj
        subst hj
        have hjl : j < l.length := (List.getElem?_eq_some_iff.1 hq).1
        refine ⟨w.heap.size, 0, rfl, ?_⟩
        have h := Hn.out.cell hjl
        simp only [show j < k by omega, if_true, List.getD_eq_getElem?_getD, hq, Option.getD_some] at h
        rw [Nat.zero_add]
        exact h


theorem add_toM (A : Option Addr) (n c : Nat) (l : List Int) (s e0 : Int) (w : World) (hn : l.length = n) (hl : n ≤ 1000) (hr : RowOf w A l) (h : addL l = (s, e0)) :
    Calls Tryz.prog 280 #[.slice A n c] w fun e w' => e = .returned (.tuple #[.int .i64 s, .int .i64 e0]) ∧ w = w' := by
  have k := add_any A c l w (by unfold maxLen; omega) hr
  rw [h, hn] at k
  exact k

set_option maxRecDepth 100000 in
set_option maxHeartbeats 400000 in
theorem plus_inM (A : Option Addr) (c : Nat) (l : List (Nat → Int)) (k q : Nat) (w : World) (hk : k < 5) (hl : l.length ≤ 1000) (hq : w.cell? ⟨q, 0, none⟩ = some (.slice A l.length c)) (hr : RowsOf w A l) :
    Calls Tryz.prog 279 #[.int .i64 (k : Int), .pointer (some ⟨q, 0, none⟩)] w fun e w' => e = .returned (.tuple #[.int .i64 (plusF l k).1, .int .i64 (plusF l k).2]) ∧ Below w.heap.size w w' := by
  have Hr := Lib.hid hr
  clear hr
  rcases ha : plusF l k with ⟨n, e0⟩
  have Ha := Lib.hid ha
  clear ha
  go_enter Tryz.func279, Tryz.ntmps279
  go_wp2_with fail
  refine (column_anyM A c l k _ hl hk Hr.out).mono ?_
  rintro e w1 ⟨rfl, hb, hrow⟩
  have HB := Lib.hid hb
  have Hrow := Lib.hid hrow
  clear hb hrow hq
  go_wp2_with fail
  refine (add_toM _ _ _ (colL l k) n e0 _ (col_len l k) hl Hrow.out Ha.out).mono ?_
  rintro e w2 ⟨rfl, rfl⟩
  go_wp2
  go_ret2
  exact ⟨rfl, HB.out⟩


set_option maxRecDepth 100000 in
set_option maxHeartbeats 400000 in
theorem plus_anyM (A : Option Addr) (c : Nat) (l : List (Nat → Int)) (w : World) (hl : l.length ≤ 1000) (hr : RowsOf w A l) :
    Calls Tryz.prog 210 #[.slice A l.length c] w fun e w' => e = .returned (.tuple #[.agg #[.int .i64 (eachR (plusF l) 0), .int .i64 (eachR (plusF l) 1), .int .i64 (eachR (plusF l) 2), .int .i64 (eachR (plusF l) 3), .int .i64 (eachR (plusF l) 4)], .int .i64 (firstE (plusF l) 5)]) ∧ Below w.heap.size w w' := by
  have Hr := Lib.hid hr
  clear hr
  have hmf := run_func
  go_enter Tryz.func210, Tryz.ntmps210
  go_wp2_with fail
  clear hmf
  have hb0 := below2 w (.cells #[.slice A l.length c] 179) (.cells #[.int .i64 0, .int .i64 0, .int .i64 0, .int .i64 0, .int .i64 0] 47)
  have hc : ((w.alloc (.cells #[.slice A l.length c] 179)).alloc (.cells #[.int .i64 0, .int .i64 0, .int .i64 0, .int .i64 0, .int .i64 0] 47)).cell? ⟨w.heap.size, 0, none⟩ = some (.slice A l.length c) := by simp [go_sem]
  have hz : RowAt ((w.alloc (.cells #[.slice A l.length c] 179)).alloc (.cells #[.int .i64 0, .int .i64 0, .int .i64 0, .int .i64 0, .int .i64 0] 47)) (w.heap.size + 1) (fun _ => 0) := heap_alloc2_new _ _ _
  have hrs : RowsOf ((w.alloc (.cells #[.slice A l.length c] 179)).alloc (.cells #[.int .i64 0, .int .i64 0, .int .i64 0, .int .i64 0, .int .i64 0] 47)) A l := Hr.out.below hb0 (Nat.le_refl _)
  refine (each1_any 279 _ (plusF l) _ Tryz.call279 ?_).mono ?_
  · intro k hk w' hb
    exact plus_inM A c l k _ w' hk hl ((hb.cell (p := ⟨w.heap.size, 0, none⟩) (Nat.lt_of_succ_lt hz.lt)).trans hc) (hrs.below hb (Nat.le_refl _))
  rintro e w1 ⟨rfl, hb⟩
  have Hz := Lib.hid (hz.below hb hz.lt)
  have HB := Lib.hid (hb0.trans (hb.mono hb0.size))
  clear hc hz hrs hb0 hb
  go_wp2_with (refine wpList_store_row rfl 47 (.tmp 2) (.tmp 6) rfl (w.heap.size + 1) _ rfl rfl 47 _ Hz.out vec_size (by kernel_rfl) (by kernel_rfl) ?_)
  refine bodyPost_row2 Tryz.results210 (w.heap.size + 1) _ _ _ _ (.int .i64 (firstE (plusF l) 5)) ?d1 ?p1 ?s1 (Hz.out.put (eachR (plusF l))) Tryz.underlying47 rfl vec_size ?_
  case d1 => rfl
  case p1 => rfl
  case s1 => rfl
  exact ⟨rfl, below_setRow HB.out (by omega) _⟩


end Go.Proofs.YtmmokiaipfalmaaGreat.Qu

namespace Go.Proofs.YtmmokiaipfalmaaGreat
open Go.RowKit

abbrev rowC (x : Nat → Int) : List Value := [.int .i64 (x 0), .int .i64 (x 1), .int .i64 (x 2), .int .i64 (x 3), .int .i64 (x 4)]
theorem vec_info : (Tryz.prog.info? 47).map (fun i => (i.zero, i.size, i.bytes)) = some (some (.agg #[.int .i64 0, .int .i64 0, .int .i64 0, .int .i64 0, .int .i64 0]), 5, 40) := by kernel_rfl
/-- A slice of n rows of noughts is made. -/
theorem run_vecs (w : World) (n : Nat) (hn : n ≤ 1000000) : (Instr.makeSlice 179 (.int .i64 (n : Int)) (.int .i64 (n : Int))).run Tryz.prog w = .ok (.slice (some ⟨w.heap.size, 0, none⟩) n n) (w.alloc (.cells (madeCells #[.int .i64 0, .int .i64 0, .int .i64 0, .int .i64 0, .int .i64 0] (n * 5)) 47)) := by
  cases hi : Tryz.prog.info? 47 with
  | none => have h := vec_info; rw [hi] at h; cases h
  | some i =>
    have h := vec_info
    rw [hi] at h
    simp only [Option.map_some, Option.some.injEq, Prod.mk.injEq] at h
    obtain ⟨h0, h1, h2⟩ := h
    have k := run_make (P := Tryz.prog) w 179 47 i (.agg #[.int .i64 0, .int .i64 0, .int .i64 0, .int .i64 0, .int .i64 0]) Tryz.underlying179 hi h0 .i64 .i64 n n (by omega) (by omega) (by rw [h2]; omega) (by omega)
    simpa [h1, Value.cells] using k

theorem flat5_len {α : Type} (f : α → Nat → Int) : ∀ l : List α, (l.flatMap fun x => rowC (f x)).length = l.length * 5
  | [] => rfl
  | x :: t => by
    have := flat5_len f t
    rw [List.flatMap_cons, List.length_append, this]
    simp only [List.length_cons, List.length_nil]
    omega
theorem flat5_at {α : Type} (f : α → Nat → Int) : ∀ (l : List α) (j i : Nat) (x : α), l[j]? = some x → i < 5 → (l.flatMap fun x => rowC (f x))[j * 5 + i]? = (rowC (f x))[i]?
  | [], j, i, x, h, _ => by simp at h
  | y :: t, 0, i, x, h, hi => by
    simp only [List.getElem?_cons_zero, Option.some.injEq] at h
    subst h
    rw [List.flatMap_cons, Nat.zero_mul, Nat.zero_add, List.getElem?_append_left (by simpa using hi)]
  | y :: t, j + 1, i, x, h, hi => by
    rw [List.flatMap_cons, show (j + 1) * 5 + i = 5 + (j * 5 + i) by omega, List.getElem?_append_right (by simp)]
    simp only [List.length_cons, List.length_nil]
    rw [show 5 + (j * 5 + i) - (0 + 1 + 1 + 1 + 1 + 1) = j * 5 + i by omega]
    exact flat5_at f t j i x (by simpa using h) hi
theorem DestAt.set5 {w : World} {B n t k : Nat} {g : Nat → List Value} (h : DestAt w B n 5 t k g) (hk : k < n) (v0 v1 v2 v3 v4 : Value) (hv : g k = [v0, v1, v2, v3, v4]) :
    DestAt (((((w.setCell ⟨B, k * 5, none⟩ v0).setCell ⟨B, k * 5 + 1, none⟩ v1).setCell ⟨B, k * 5 + 2, none⟩ v2).setCell ⟨B, k * 5 + 3, none⟩ v3).setCell ⟨B, k * 5 + 4, none⟩ v4) B n 5 t (k + 1) g := by
  obtain ⟨cs, hb, hs, hz⟩ := h
  refine ⟨((((cs.setIfInBounds (k * 5) v0).setIfInBounds (k * 5 + 1) v1).setIfInBounds (k * 5 + 2) v2).setIfInBounds (k * 5 + 3) v3).setIfInBounds (k * 5 + 4) v4,
    heap_setCell_same _ B _ _ _ _ (heap_setCell_same _ B _ _ _ _ (heap_setCell_same _ B _ _ _ _ (heap_setCell_same _ B _ _ _ _ (heap_setCell_same _ B _ _ _ _ hb)))), by simpa using hs, fun j hj i hi => ?_⟩
  by_cases hjk : j = k
  · subst hjk
    rw [hv]
    have e : i = 0 ∨ i = 1 ∨ i = 2 ∨ i = 3 ∨ i = 4 := by omega
    rcases e with rfl | rfl | rfl | rfl | rfl
    all_goals simp [Array.getElem?_setIfInBounds]; omega
  · have hlt : j * 5 + i < k * 5 := by omega
    rw [Array.getElem?_setIfInBounds_ne (by omega), Array.getElem?_setIfInBounds_ne (by omega), Array.getElem?_setIfInBounds_ne (by omega), Array.getElem?_setIfInBounds_ne (by omega), Array.getElem?_setIfInBounds_ne (by omega)]
    exact hz j (by omega) i hi

set_option maxRecDepth 100000 in
set_option maxHeartbeats 2000000 in
theorem eachNV (A : Option Addr) (c : Nat) (l : List NodeD) (g : FuncId) (w : World) (hl : l.length ≤ 1000) (hs : La.SlAt w A (cellsN l)) (hn : A = none → l = [])
    (hg : ∀ args w, (callFunc g args).run Tryz.prog w = .ok (.enter g args) w)
    (hK : ∀ (x : NodeD) (w : World), Calls Tryz.prog g #[valN x] w fun e w' => e = .returned (rowV x.cap) ∧ Below w.heap.size w w') :
    Calls Tryz.prog 145 #[.slice A l.length c, .func (Fn.func g) #[] #[]] w fun e w' => ∃ v, e = .returned v ∧ w'.ownsRow w.heap.size 47 5 v l.length (l.flatMap fun x => rowC x.cap) ∧ Below w.heap.size w w' := by
  cases A with
  | none =>
    obtain rfl := hn rfl
    have hnl := fun w => run_eqnil (P := Tryz.prog) (w := w) 22 81 none 0 c Tryz.underlying22
    clear hs hn hK
    go_enter Tryz.func145, Tryz.ntmps145
    go_wp2
    go_ret
    exact ⟨_, rfl, World.ownsRow_nil _ _ _ _, Below.refl _ _⟩
  | some a =>
    have HS := Lib.hid hs
    clear hs hn
    have hmk := run_vecs w l.length (by omega)
    have hnl := fun w => run_eqnil (P := Tryz.prog) (w := w) 22 81 (some a) l.length c Tryz.underlying22
    go_enter Tryz.func145, Tryz.ntmps145
    go_wp2_with fail
    clear hmk hnl
    go_loopw [15] (fun i wr => ∃ k : Nat, k ≤ l.length ∧ i = .int .i64 k ∧ DestAt wr w.heap.size l.length 5 47 k (fun j => rowC ((l.map (·.cap)).getD j (fun _ => 0))) ∧ Below w.heap.size w wr) (fun i _ => l.length - (intOf i).toNat)
    case atStart => exact ⟨0, by omega, rfl, ⟨_, heap_alloc_new _ _, by rw [size_madeCells], fun j hj => by omega⟩, below1 w _⟩
    case round =>
      obtain ⟨k, hk, rfl, hd, hb⟩ := hrel
      have HD := Lib.hid hd
      have HB := Lib.hid hb
      have hsz := hd.lt
      clear hd hb
      by_cases hlt : k < l.length
      · obtain ⟨x, hx⟩ : ∃ x, l[k]? = some x := ⟨l[k], List.getElem?_eq_getElem hlt⟩
        obtain ⟨b, o, hA, hbl, c0, c1, c2, c3, c4, c5, c6, c7, c8, c9⟩ := atN (HS.out.below HB.out) hx
        cases hA
        have k0 : (0 : Int) ≤ (k : Int) := by omega
        have k1 : (k : Int) < (l.length : Int) := by omega
        have hgd : (l.map (·.cap)).getD k (fun _ => 0) = x.cap := by simp [List.getD_eq_getElem?_getD, hx]
        have HG := Lib.hid hgd
        have KX := Lib.hid (hK x)
        clear hx hgd
        go_wp2_with fail
        refine (KX.out _).mono ?_
        rintro e w3 ⟨rfl, hb3⟩
        have D3 := Lib.hid ((HD.out.alloc (.cells (cellsN [x]).toArray 81)).below hb3 (Nat.lt_of_lt_of_le hsz (by simp)))
        have B3 := Lib.hid ((HB.out.alloc HB.out.size (.cells (cellsN [x]).toArray 81)).trans (hb3.mono (Nat.le_trans (Nat.le_of_lt hsz) (by simp))))
        clear hb3 KX c0 c1 c2 c3 c4 c5 c6 c7 c8 c9
        obtain ⟨v0, h0⟩ := D3.out.has (i := k * 5) (by omega)
        obtain ⟨v1, h1⟩ := D3.out.has (i := k * 5 + 1) (by omega)
        obtain ⟨v2, h2⟩ := D3.out.has (i := k * 5 + 2) (by omega)
        obtain ⟨v3, h3⟩ := D3.out.has (i := k * 5 + 3) (by omega)
        obtain ⟨v4, h4⟩ := D3.out.has (i := k * 5 + 4) (by omega)
        have f0 := D3.out.free (k * 5)
        have f1 := D3.out.free (k * 5 + 1)
        have f2 := D3.out.free (k * 5 + 2)
        have f3 := D3.out.free (k * 5 + 3)
        have f4 := D3.out.free (k * 5 + 4)
        go_wp2
        go_roundw
        case rel => exact ⟨k + 1, by omega, by go_num, DestAt.set5 D3.out hlt _ _ _ _ _ (by show rowC ((l.map (·.cap)).getD k (fun _ => 0)) = _; rw [HG.out]), ((((B3.out.setCell (p := ⟨w.heap.size, k * 5, none⟩) (Nat.le_refl _) _).setCell (p := ⟨w.heap.size, k * 5 + 1, none⟩) (Nat.le_refl _) _).setCell (p := ⟨w.heap.size, k * 5 + 2, none⟩) (Nat.le_refl _) _).setCell (p := ⟨w.heap.size, k * 5 + 3, none⟩) (Nat.le_refl _) _).setCell (p := ⟨w.heap.size, k * 5 + 4, none⟩) (Nat.le_refl _) _⟩
        case measure => simp [intOf]; omega
      · obtain rfl : k = l.length := by omega
        go_wp2
        go_ret
        refine ⟨_, rfl, HD.out.own (Nat.le_refl _) (by unfold maxLen; omega) _ (flat5_len (·.cap) l) (fun j hj i hi => ?_) (by omega), HB.out⟩
        rw [flat5_at (·.cap) l j i _ (List.getElem?_eq_getElem hj) hi]
        simp [List.getD_eq_getElem?_getD, List.getElem?_eq_getElem hj]
set_option maxRecDepth 100000 in
set_option maxHeartbeats 2000000 in
theorem eachPV (A : Option Addr) (c : Nat) (l : List PodD) (g : FuncId) (w : World) (hl : l.length ≤ 1000) (hs : La.SlAt w A (cellsP l)) (hn : A = none → l = [])
    (hg : ∀ args w, (callFunc g args).run Tryz.prog w = .ok (.enter g args) w)
    (hK : ∀ (x : PodD) (w : World), Calls Tryz.prog g #[valP x] w fun e w' => e = .returned (rowV x.req) ∧ Below w.heap.size w w') :
    Calls Tryz.prog 147 #[.slice A l.length c, .func (Fn.func g) #[] #[]] w fun e w' => ∃ v, e = .returned v ∧ w'.ownsRow w.heap.size 47 5 v l.length (l.flatMap fun x => rowC x.req) ∧ Below w.heap.size w w' := by
  cases A with
  | none =>
    obtain rfl := hn rfl
    have hnl := fun w => run_eqnil (P := Tryz.prog) (w := w) 23 53 none 0 c Tryz.underlying23
    clear hs hn hK
    go_enter Tryz.func147, Tryz.ntmps147
    go_wp2
    go_ret
    exact ⟨_, rfl, World.ownsRow_nil _ _ _ _, Below.refl _ _⟩
  | some a =>
    have HS := Lib.hid hs
    clear hs hn
    have hmk := run_vecs w l.length (by omega)
    have hnl := fun w => run_eqnil (P := Tryz.prog) (w := w) 23 53 (some a) l.length c Tryz.underlying23
    go_enter Tryz.func147, Tryz.ntmps147
    go_wp2_with fail
    clear hmk hnl
    go_loopw [15] (fun i wr => ∃ k : Nat, k ≤ l.length ∧ i = .int .i64 k ∧ DestAt wr w.heap.size l.length 5 47 k (fun j => rowC ((l.map (·.req)).getD j (fun _ => 0))) ∧ Below w.heap.size w wr) (fun i _ => l.length - (intOf i).toNat)
    case atStart => exact ⟨0, by omega, rfl, ⟨_, heap_alloc_new _ _, by rw [size_madeCells], fun j hj => by omega⟩, below1 w _⟩
    case round =>
      obtain ⟨k, hk, rfl, hd, hb⟩ := hrel
      have HD := Lib.hid hd
      have HB := Lib.hid hb
      have hsz := hd.lt
      clear hd hb
      by_cases hlt : k < l.length
      · obtain ⟨x, hx⟩ : ∃ x, l[k]? = some x := ⟨l[k], List.getElem?_eq_getElem hlt⟩
        obtain ⟨b, o, hA, hbl, c0, c1, c2, c3, c4, c5, c6, c7, c8, c9, c10, c11, c12, c13, c14⟩ := atP (HS.out.below HB.out) hx
        cases hA
        have k0 : (0 : Int) ≤ (k : Int) := by omega
        have k1 : (k : Int) < (l.length : Int) := by omega
        have hgd : (l.map (·.req)).getD k (fun _ => 0) = x.req := by simp [List.getD_eq_getElem?_getD, hx]
        have HG := Lib.hid hgd
        have KX := Lib.hid (hK x)
        clear hx hgd
        go_wp2_with fail
        refine (KX.out _).mono ?_
        rintro e w3 ⟨rfl, hb3⟩
        have D3 := Lib.hid ((HD.out.alloc (.cells (cellsP [x]).toArray 53)).below hb3 (Nat.lt_of_lt_of_le hsz (by simp)))
        have B3 := Lib.hid ((HB.out.alloc HB.out.size (.cells (cellsP [x]).toArray 53)).trans (hb3.mono (Nat.le_trans (Nat.le_of_lt hsz) (by simp))))
        clear hb3 KX c0 c1 c2 c3 c4 c5 c6 c7 c8 c9 c10 c11 c12 c13 c14
        obtain ⟨v0, h0⟩ := D3.out.has (i := k * 5) (by omega)
        obtain ⟨v1, h1⟩ := D3.out.has (i := k * 5 + 1) (by omega)
        obtain ⟨v2, h2⟩ := D3.out.has (i := k * 5 + 2) (by omega)
        obtain ⟨v3, h3⟩ := D3.out.has (i := k * 5 + 3) (by omega)
        obtain ⟨v4, h4⟩ := D3.out.has (i := k * 5 + 4) (by omega)
        have f0 := D3.out.free (k * 5)
        have f1 := D3.out.free (k * 5 + 1)
        have f2 := D3.out.free (k * 5 + 2)
        have f3 := D3.out.free (k * 5 + 3)
        have f4 := D3.out.free (k * 5 + 4)
        go_wp2
        go_roundw
        case rel => exact ⟨k + 1, by omega, by go_num, DestAt.set5 D3.out hlt _ _ _ _ _ (by show rowC ((l.map (·.req)).getD k (fun _ => 0)) = _; rw [HG.out]), ((((B3.out.setCell (p := ⟨w.heap.size, k * 5, none⟩) (Nat.le_refl _) _).setCell (p := ⟨w.heap.size, k * 5 + 1, none⟩) (Nat.le_refl _) _).setCell (p := ⟨w.heap.size, k * 5 + 2, none⟩) (Nat.le_refl _) _).setCell (p := ⟨w.heap.size, k * 5 + 3, none⟩) (Nat.le_refl _) _).setCell (p := ⟨w.heap.size, k * 5 + 4, none⟩) (Nat.le_refl _) _⟩
        case measure => simp [intOf]; omega
      · obtain rfl : k = l.length := by omega
        go_wp2
        go_ret
        refine ⟨_, rfl, HD.out.own (Nat.le_refl _) (by unfold maxLen; omega) _ (flat5_len (·.req) l) (fun j hj i hi => ?_) (by omega), HB.out⟩
        rw [flat5_at (·.req) l j i _ (List.getElem?_eq_getElem hj) hi]
        simp [List.getD_eq_getElem?_getD, List.getElem?_eq_getElem hj]
end Go.Proofs.YtmmokiaipfalmaaGreat

namespace Go.Proofs.YtmmokiaipfalmaaGreat
open Go.RowKit

def sumB (l : List (Nat → Int)) : Bool := decide (Qu.firstE (Qu.plusF l) 5 = 0)
set_option maxRecDepth 100000 in
set_option maxHeartbeats 1000000 in
theorem sum_any (A : Option Addr) (c : Nat) (l : List (Nat → Int)) (w : World) (hl : l.length ≤ 1000) (hr : Qu.RowsOf w A l) :
    Calls Tryz.prog 144 #[.slice A l.length c] w fun e w' => e = .returned (.bool (sumB l)) ∧ Below w.heap.size w w' := by
  have KP := Lib.hid (Qu.plus_anyM A c l w hl hr)
  have E : Hid (sumB l = decide (Qu.firstE (Qu.plusF l) 5 = 0)) := Lib.hid rfl
  generalize sumB l = R at E ⊢
  generalize Qu.firstE (Qu.plusF l) 5 = e0 at KP E
  clear hr
  go_enter Tryz.func144, Tryz.ntmps144
  go_wp2_with fail
  refine KP.out.mono ?_
  rintro e w3 ⟨rfl, hb⟩
  have HB := Lib.hid hb
  clear hb KP
  go_wp2
  go_ret
  exact ⟨La.retB (by rw [E.out]; first | rfl | (rw [Bool.eq_iff_iff]; simp)), by first | exact HB.out | exact HB.out.alloc HB.out.size _⟩
/-- What each made of rows, as Plus reads it. -/
theorem rowsOf {α : Type} {w : World} {base : Nat} {A : Option Addr} {c : Nat} (f : α → Nat → Int) (l : List α) (h : w.ownsRow base 47 5 (.slice A l.length c) l.length (l.flatMap fun x => rowC (f x))) : Qu.RowsOf w A (l.map f) := by
  intro i x hx
  rw [List.getElem?_map] at hx
  obtain ⟨y, hy, rfl⟩ := Option.map_eq_some_iff.1 hx
  have hs := La.own_slat h
  have hat := fun k (hk : k < 5) => flat5_at f l i k y hy hk
  obtain ⟨b, o, rfl, hc⟩ := hs (i * 5 + 0) (.int .i64 (f y 0)) (by rw [hat 0 (by omega)]; rfl)
  refine ⟨b, o, rfl, World.block_lt_of_cell? w _ hc, fun k hk => ?_⟩
  obtain ⟨b', o', hA, hc'⟩ := hs (i * 5 + k) (.int .i64 (f y k)) (by
    rw [hat k hk]
    have e : k = 0 ∨ k = 1 ∨ k = 2 ∨ k = 3 ∨ k = 4 := by omega
    rcases e with rfl | rfl | rfl | rfl | rfl <;> rfl)
  cases hA
  rw [Nat.add_assoc]
  exact hc'
end Go.Proofs.YtmmokiaipfalmaaGreat
