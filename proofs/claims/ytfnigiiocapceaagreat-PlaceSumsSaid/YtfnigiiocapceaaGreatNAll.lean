/- Are all so? May a pod be in its cluster? Contracts. Condition: the cluster lies in memory. -/
import Derived.Test.YtfnigiiocapceaaGreatNc
import Derived.Deep.RegionHeld3
import Derived.Deep.DeepCutAuto
namespace Go.Proofs.YtfnigiiocapceaaGreat
open Go.RowKit

/-- A cluster lies in memory. -/
structure SnapAt (w : World) (A B C : Option Addr) (ca cb cc : Nat) (ns : List NodeD) (ps : List PodD) (os : List OwnD) : Prop where
  n : NodesAt w A ns
  p : PodsAt w B ps
  o : La.SlAt w C (cellsO os)
  fo : ∀ x ∈ os, x.fit
  ln : ns.length ≤ 1000
  lp : ps.length ≤ 1000
  lo : os.length ≤ 1000
  can : ns.length ≤ ca ∧ ca ≤ 9223372036854775807
  cap : ps.length ≤ cb ∧ cb ≤ 9223372036854775807
  cao : os.length ≤ cc ∧ cc ≤ 9223372036854775807
theorem SnapAt.below {w w' : World} {A B C : Option Addr} {ca cb cc : Nat} {ns : List NodeD} {ps : List PodD} {os : List OwnD} (h : SnapAt w A B C ca cb cc ns ps os) (hb : Below w.heap.size w w') : SnapAt w' A B C ca cb cc ns ps os :=
  ⟨h.n.below hb, h.p.below hb, h.o.below hb, h.fo, h.ln, h.lp, h.lo, h.can, h.cap, h.cao⟩
abbrev snapC (A B C : Option Addr) (ca cb cc : Nat) (ns : List NodeD) (ps : List PodD) (os : List OwnD) : Array Value := #[.slice A ns.length ca, .slice B ps.length cb, .slice C os.length cc]
abbrev snapV (A B C : Option Addr) (ca cb cc : Nat) (ns : List NodeD) (ps : List PodD) (os : List OwnD) : Value := .agg (snapC A B C ca cb cc ns ps os)

theorem idx_range (name : List UInt8) : ∀ l : List (List UInt8), -1 ≤ idxF name l ∧ idxF name l < l.length + 1
  | [] => by simp [idxF]
  | x :: t => by
    have := idx_range name t
    rw [idxF]
    simp only [List.length_cons]
    split
    · omega
    · split <;> omega

/-- Are there the owner and the node that a pod names? -/
def knownB (ns : List NodeD) (os : List OwnD) (x : PodD) : Bool := (decide (x.owner = []) || !(idxF x.owner (os.map (·.name)) == -1)) && (decide (x.on = []) || tpB ns (idxF x.on (ns.map (·.name))))

set_option maxRecDepth 100000 in
set_option maxHeartbeats 2000000 in
theorem known_ee (A B C : Option Addr) (ca cb cc : Nat) (ns : List NodeD) (ps : List PodD) (os : List OwnD) (w : World) (nm : List UInt8) (rq : Nat → Int) (lb : List L2) (wh : List T3) (br : List L2) (wt : List UInt8) (wtm : List T3) (ap : List UInt8) (apm : List T3) (al : Option Addr) (cl : Nat) (aw : Option Addr) (cw : Nat) (ab : Option Addr) (cb' : Nat) (awt : Option Addr) (cwt : Nat) (aap : Option Addr) (cap' : Nat) :
    Calls Tryz.prog 85 #[snapV A B C ca cb cc ns ps os, valP ⟨nm, [], rq, lb, wh, br, wt, wtm, ap, apm, [], al, cl, aw, cw, ab, cb', awt, cwt, aap, cap'⟩] w fun e w' => e = .returned (.bool true) ∧ Below w.heap.size w w' := by
  have B0 := Lib.hid (Qu.below2 w (.cells (snapC A B C ca cb cc ns ps os) 26) (.cells (cellsP [⟨nm, [], rq, lb, wh, br, wt, wtm, ap, apm, [], al, cl, aw, cw, ab, cb', awt, cwt, aap, cap'⟩]).toArray 62))
  have Q0 : Hid (Blk ((w.alloc (.cells (snapC A B C ca cb cc ns ps os) 26)).alloc (.cells (cellsP [⟨nm, [], rq, lb, wh, br, wt, wtm, ap, apm, [], al, cl, aw, cw, ab, cb', awt, cwt, aap, cap'⟩]).toArray 62)) w.heap.size (snapC A B C ca cb cc ns ps os) 26) := Lib.hid (Blk.alloc (Blk.new w _ _) _)
  have P0 : Hid (Blk ((w.alloc (.cells (snapC A B C ca cb cc ns ps os) 26)).alloc (.cells (cellsP [⟨nm, [], rq, lb, wh, br, wt, wtm, ap, apm, [], al, cl, aw, cw, ab, cb', awt, cwt, aap, cap'⟩]).toArray 62)) (w.heap.size + 1) (cellsP [⟨nm, [], rq, lb, wh, br, wt, wtm, ap, apm, [], al, cl, aw, cw, ab, cb', awt, cwt, aap, cap'⟩]).toArray 62) := Lib.hid (blk2 w _ _ _)
  go_enter Tryz.func85, Tryz.ntmps85
  go_wp2_with fail
  change Code.wp _ _ _ _ ((w.alloc (.cells (snapC A B C ca cb cc ns ps os) 26)).alloc (.cells (cellsP [⟨nm, [], rq, lb, wh, br, wt, wtm, ap, apm, [], al, cl, aw, cw, ab, cb', awt, cwt, aap, cap'⟩]).toArray 62))
  generalize ((w.alloc (.cells (snapC A B C ca cb cc ns ps os) 26)).alloc (.cells (cellsP [⟨nm, [], rq, lb, wh, br, wt, wtm, ap, apm, [], al, cl, aw, cw, ab, cb', awt, cwt, aap, cap'⟩]).toArray 62)) = W at B0 Q0 P0 ⊢
  have BD := Lib.hid (B0.out.drew)
  refine wp_region_held_drew (S := fun w' => w'.cell? ⟨w.heap.size, 0, none⟩ = some (.slice A ns.length ca) ∧ w'.cell? ⟨w.heap.size, 1, none⟩ = some (.slice B ps.length cb) ∧ w'.cell? ⟨w.heap.size, 2, none⟩ = some (.slice C os.length cc) ∧ w'.cell? ⟨w.heap.size + 1, 1, none⟩ = some (strV []) ∧ w'.cell? ⟨w.heap.size + 1, 14, none⟩ = some (strV [])) (by kernel_rfl) ⟨Blk.cell (show Blk W.drew _ _ _ from Q0.out) 0, Blk.cell (show Blk W.drew _ _ _ from Q0.out) 1, Blk.cell (show Blk W.drew _ _ _ from Q0.out) 2, Blk.cell (show Blk W.drew _ _ _ from P0.out) 1, Blk.cell (show Blk W.drew _ _ _ from P0.out) 14⟩ (fun hHeld0 => ?_)
  refine wpAnyH_take (i := 0) (oi := ⟨some 5, _, _, _, _, _⟩) (v := .pointer (some ⟨w.heap.size + 1, 1, none⟩)) rfl (by kernel_rfl) (by kernel_rfl) (by kernel_rfl) (fun _ _ _ h => h) (Or.inl ⟨by rfl, (fun w' hS => by (try dsimp only at hS); go_simp)⟩) (by assumption) ?_
  try simp only [Act.put, List.setIfInBounds_toArray, List.set_cons_zero, List.set_cons_succ]
  refine wpAnyH_take (i := 1) (oi := ⟨some 6, _, _, _, _, _⟩) (v := strV []) rfl (by kernel_rfl) (by kernel_rfl) (by kernel_rfl) (fun _ _ _ h => h) (Or.inl ⟨by rfl, (fun w' hS => by (try dsimp only at hS); go_simp)⟩) (by assumption) ?_
  try simp only [Act.put, List.setIfInBounds_toArray, List.set_cons_zero, List.set_cons_succ]
  refine wpAnyH_take (i := 2) (oi := ⟨some 7, _, _, _, _, _⟩) (v := .bool true) rfl (by kernel_rfl) (by kernel_rfl) (by kernel_rfl) (fun _ _ _ h => h) (Or.inl ⟨by rfl, (fun w' hS => by (try dsimp only at hS); go_simp)⟩) (by assumption) ?_
  try simp only [Act.put, List.setIfInBounds_toArray, List.set_cons_zero, List.set_cons_succ]
  refine wpAnyH_take (i := 3) (oi := ⟨some 8, _, _, _, _, _⟩) (v := .bool true) rfl (by kernel_rfl) (by kernel_rfl) (by kernel_rfl) (fun _ _ _ h => h) (Or.inl ⟨by rfl, (fun w' hS => by (try dsimp only at hS); go_simp)⟩) (by assumption) ?_
  try simp only [Act.put, List.setIfInBounds_toArray, List.set_cons_zero, List.set_cons_succ]
  refine wpAnyH_take (i := 4) (oi := ⟨some 9, _, _, _, _, _⟩) (v := undef) rfl (by kernel_rfl) (by kernel_rfl) (by kernel_rfl) (fun _ _ _ h => h) (Or.inr ⟨by rfl, rfl⟩) (by assumption) ?_
  try simp only [Act.put, List.setIfInBounds_toArray, List.set_cons_zero, List.set_cons_succ]
  refine wpAnyH_take (i := 5) (oi := ⟨some 10, _, _, _, _, _⟩) (v := undef) rfl (by kernel_rfl) (by kernel_rfl) (by kernel_rfl) (fun _ _ _ h => h) (Or.inr ⟨by rfl, rfl⟩) (by assumption) ?_
  try simp only [Act.put, List.setIfInBounds_toArray, List.set_cons_zero, List.set_cons_succ]
  refine wpAnyH_take (i := 6) (oi := ⟨some 11, _, _, _, _, _⟩) (v := undef) rfl (by kernel_rfl) (by kernel_rfl) (by kernel_rfl) (fun _ _ _ h => h) (Or.inr ⟨by rfl, rfl⟩) (by assumption) ?_
  try simp only [Act.put, List.setIfInBounds_toArray, List.set_cons_zero, List.set_cons_succ]
  refine wpAnyH_take (i := 7) (oi := ⟨some 12, _, _, _, _, _⟩) (v := undef) rfl (by kernel_rfl) (by kernel_rfl) (by kernel_rfl) (fun _ _ _ h => h) (Or.inr ⟨by rfl, rfl⟩) (by assumption) ?_
  try simp only [Act.put, List.setIfInBounds_toArray, List.set_cons_zero, List.set_cons_succ]
  refine wpAnyH_take (i := 8) (oi := ⟨some 13, _, _, _, _, _⟩) (v := undef) rfl (by kernel_rfl) (by kernel_rfl) (by kernel_rfl) (fun _ _ _ h => h) (Or.inr ⟨by rfl, rfl⟩) (by assumption) ?_
  try simp only [Act.put, List.setIfInBounds_toArray, List.set_cons_zero, List.set_cons_succ]
  refine wpAnyH_take (i := 9) (oi := ⟨some 14, _, _, _, _, _⟩) (v := .bool true) rfl (by kernel_rfl) (by kernel_rfl) (by kernel_rfl) (fun _ _ _ h => h) (Or.inl ⟨by rfl, (fun w' hS => by (try dsimp only at hS); go_simp)⟩) (by assumption) ?_
  try simp only [Act.put, List.setIfInBounds_toArray, List.set_cons_zero, List.set_cons_succ]
  refine wpAnyH_take (i := 10) (oi := ⟨some 15, _, _, _, _, _⟩) (v := .bool true) rfl (by kernel_rfl) (by kernel_rfl) (by kernel_rfl) (fun _ _ _ h => h) (Or.inl ⟨by rfl, (fun w' hS => by (try dsimp only at hS); go_simp)⟩) (by assumption) ?_
  try simp only [Act.put, List.setIfInBounds_toArray, List.set_cons_zero, List.set_cons_succ]
  refine wpAnyH_take (i := 11) (oi := ⟨some 16, _, _, _, _, _⟩) (v := .pointer (some ⟨w.heap.size + 1, 14, none⟩)) rfl (by kernel_rfl) (by kernel_rfl) (by kernel_rfl) (fun _ _ _ h => h) (Or.inl ⟨by rfl, (fun w' hS => by (try dsimp only at hS); go_simp)⟩) (by assumption) ?_
  try simp only [Act.put, List.setIfInBounds_toArray, List.set_cons_zero, List.set_cons_succ]
  refine wpAnyH_take (i := 12) (oi := ⟨some 17, _, _, _, _, _⟩) (v := strV []) rfl (by kernel_rfl) (by kernel_rfl) (by kernel_rfl) (fun _ _ _ h => h) (Or.inl ⟨by rfl, (fun w' hS => by (try dsimp only at hS); go_simp)⟩) (by assumption) ?_
  try simp only [Act.put, List.setIfInBounds_toArray, List.set_cons_zero, List.set_cons_succ]
  refine wpAnyH_take (i := 13) (oi := ⟨some 18, _, _, _, _, _⟩) (v := .bool true) rfl (by kernel_rfl) (by kernel_rfl) (by kernel_rfl) (fun _ _ _ h => h) (Or.inl ⟨by rfl, (fun w' hS => by (try dsimp only at hS); go_simp)⟩) (by assumption) ?_
  try simp only [Act.put, List.setIfInBounds_toArray, List.set_cons_zero, List.set_cons_succ]
  refine wpAnyH_take (i := 14) (oi := ⟨some 19, _, _, _, _, _⟩) (v := .bool true) rfl (by kernel_rfl) (by kernel_rfl) (by kernel_rfl) (fun _ _ _ h => h) (Or.inl ⟨by rfl, (fun w' hS => by (try dsimp only at hS); go_simp)⟩) (by assumption) ?_
  try simp only [Act.put, List.setIfInBounds_toArray, List.set_cons_zero, List.set_cons_succ]
  refine wpAnyH_take (i := 15) (oi := ⟨some 20, _, _, _, _, _⟩) (v := undef) rfl (by kernel_rfl) (by kernel_rfl) (by kernel_rfl) (fun _ _ _ h => h) (Or.inr ⟨by rfl, rfl⟩) (by assumption) ?_
  try simp only [Act.put, List.setIfInBounds_toArray, List.set_cons_zero, List.set_cons_succ]
  refine wpAnyH_take (i := 16) (oi := ⟨some 21, _, _, _, _, _⟩) (v := undef) rfl (by kernel_rfl) (by kernel_rfl) (by kernel_rfl) (fun _ _ _ h => h) (Or.inr ⟨by rfl, rfl⟩) (by assumption) ?_
  try simp only [Act.put, List.setIfInBounds_toArray, List.set_cons_zero, List.set_cons_succ]
  refine wpAnyH_take (i := 17) (oi := ⟨some 22, _, _, _, _, _⟩) (v := undef) rfl (by kernel_rfl) (by kernel_rfl) (by kernel_rfl) (fun _ _ _ h => h) (Or.inr ⟨by rfl, rfl⟩) (by assumption) ?_
  try simp only [Act.put, List.setIfInBounds_toArray, List.set_cons_zero, List.set_cons_succ]
  refine wpAnyH_take (i := 18) (oi := ⟨some 23, _, _, _, _, _⟩) (v := undef) rfl (by kernel_rfl) (by kernel_rfl) (by kernel_rfl) (fun _ _ _ h => h) (Or.inr ⟨by rfl, rfl⟩) (by assumption) ?_
  try simp only [Act.put, List.setIfInBounds_toArray, List.set_cons_zero, List.set_cons_succ]
  refine wpAnyH_take (i := 19) (oi := ⟨some 24, _, _, _, _, _⟩) (v := undef) rfl (by kernel_rfl) (by kernel_rfl) (by kernel_rfl) (fun _ _ _ h => h) (Or.inr ⟨by rfl, rfl⟩) (by assumption) ?_
  try simp only [Act.put, List.setIfInBounds_toArray, List.set_cons_zero, List.set_cons_succ]
  refine wpAnyH_take (i := 20) (oi := ⟨some 25, _, _, _, _, _⟩) (v := undef) rfl (by kernel_rfl) (by kernel_rfl) (by kernel_rfl) (fun _ _ _ h => h) (Or.inr ⟨by rfl, rfl⟩) (by assumption) ?_
  try simp only [Act.put, List.setIfInBounds_toArray, List.set_cons_zero, List.set_cons_succ]
  refine wpAnyH_take (i := 21) (oi := ⟨some 26, _, _, _, _, _⟩) (v := .bool true) rfl (by kernel_rfl) (by kernel_rfl) (by kernel_rfl) (fun _ _ _ h => h) (Or.inl ⟨by rfl, (fun w' hS => by (try dsimp only at hS); go_simp)⟩) (by assumption) ?_
  try simp only [Act.put, List.setIfInBounds_toArray, List.set_cons_zero, List.set_cons_succ]
  refine wpAnyH_take (i := 22) (oi := ⟨some 27, _, _, _, _, _⟩) (v := .bool true) rfl (by kernel_rfl) (by kernel_rfl) (by kernel_rfl) (fun _ _ _ h => h) (Or.inl ⟨by rfl, (fun w' hS => by (try dsimp only at hS); go_simp)⟩) (by assumption) ?_
  try simp only [Act.put, List.setIfInBounds_toArray, List.set_cons_zero, List.set_cons_succ]
  refine wpAnyH_take (i := 23) (oi := ⟨some 4, _, _, _, _, _⟩) (v := .bool true) rfl (by kernel_rfl) (by kernel_rfl) (by kernel_rfl) (fun _ _ _ h => h) (Or.inl ⟨by rfl, (fun w' hS => by (try dsimp only at hS); go_simp)⟩) (by assumption) ?_
  try simp only [Act.put, List.setIfInBounds_toArray, List.set_cons_zero, List.set_cons_succ]
  refine wpAnyH_done (by kernel_rfl) ?_ _
  clear hHeld0
  go_wp2_with fail
  go_ret
  exact ⟨La.retB rfl, BD.out⟩

set_option maxRecDepth 100000 in
set_option maxHeartbeats 2000000 in
theorem known_en (A B C : Option Addr) (ca cb cc : Nat) (ns : List NodeD) (ps : List PodD) (os : List OwnD) (w : World) (nm : List UInt8) (rq : Nat → Int) (lb : List L2) (wh : List T3) (br : List L2) (wt : List UInt8) (wtm : List T3) (ap : List UInt8) (apm : List T3) (al : Option Addr) (cl : Nat) (aw : Option Addr) (cw : Nat) (ab : Option Addr) (cb' : Nat) (awt : Option Addr) (cwt : Nat) (aap : Option Addr) (cap' : Nat) (b0 : UInt8) (u0 : List UInt8) (i2 : Int) (b2 : Bool) (kn : ∀ w', Below w.heap.size w w' → Calls Tryz.prog 108 #[snapV A B C ca cb cc ns ps os, strV (b0 :: u0)] w' fun e w'' => e = .returned (.int .i64 i2) ∧ Below w'.heap.size w' w'') (kt : ∀ w', Below w.heap.size w w' → Calls Tryz.prog 107 #[snapV A B C ca cb cc ns ps os, .int .i64 i2] w' fun e w'' => e = .returned (.bool b2) ∧ Below w'.heap.size w' w'') :
    Calls Tryz.prog 85 #[snapV A B C ca cb cc ns ps os, valP ⟨nm, [], rq, lb, wh, br, wt, wtm, ap, apm, (b0 :: u0), al, cl, aw, cw, ab, cb', awt, cwt, aap, cap'⟩] w fun e w' => e = .returned (.bool b2) ∧ Below w.heap.size w w' := by
  have B0 := Lib.hid (Qu.below2 w (.cells (snapC A B C ca cb cc ns ps os) 26) (.cells (cellsP [⟨nm, [], rq, lb, wh, br, wt, wtm, ap, apm, (b0 :: u0), al, cl, aw, cw, ab, cb', awt, cwt, aap, cap'⟩]).toArray 62))
  have Q0 : Hid (Blk ((w.alloc (.cells (snapC A B C ca cb cc ns ps os) 26)).alloc (.cells (cellsP [⟨nm, [], rq, lb, wh, br, wt, wtm, ap, apm, (b0 :: u0), al, cl, aw, cw, ab, cb', awt, cwt, aap, cap'⟩]).toArray 62)) w.heap.size (snapC A B C ca cb cc ns ps os) 26) := Lib.hid (Blk.alloc (Blk.new w _ _) _)
  have P0 : Hid (Blk ((w.alloc (.cells (snapC A B C ca cb cc ns ps os) 26)).alloc (.cells (cellsP [⟨nm, [], rq, lb, wh, br, wt, wtm, ap, apm, (b0 :: u0), al, cl, aw, cw, ab, cb', awt, cwt, aap, cap'⟩]).toArray 62)) (w.heap.size + 1) (cellsP [⟨nm, [], rq, lb, wh, br, wt, wtm, ap, apm, (b0 :: u0), al, cl, aw, cw, ab, cb', awt, cwt, aap, cap'⟩]).toArray 62) := Lib.hid (blk2 w _ _ _)
  have KN := Lib.hid kn
  have KT := Lib.hid kt
  clear kn kt
  go_enter Tryz.func85, Tryz.ntmps85
  go_wp2_with fail
  change Code.wp _ _ _ _ ((w.alloc (.cells (snapC A B C ca cb cc ns ps os) 26)).alloc (.cells (cellsP [⟨nm, [], rq, lb, wh, br, wt, wtm, ap, apm, (b0 :: u0), al, cl, aw, cw, ab, cb', awt, cwt, aap, cap'⟩]).toArray 62))
  generalize ((w.alloc (.cells (snapC A B C ca cb cc ns ps os) 26)).alloc (.cells (cellsP [⟨nm, [], rq, lb, wh, br, wt, wtm, ap, apm, (b0 :: u0), al, cl, aw, cw, ab, cb', awt, cwt, aap, cap'⟩]).toArray 62)) = W at B0 Q0 P0 ⊢
  have BD := Lib.hid (B0.out.drew)
  refine wp_region_held_drew (S := fun w' => w'.cell? ⟨w.heap.size, 0, none⟩ = some (.slice A ns.length ca) ∧ w'.cell? ⟨w.heap.size, 1, none⟩ = some (.slice B ps.length cb) ∧ w'.cell? ⟨w.heap.size, 2, none⟩ = some (.slice C os.length cc) ∧ w'.cell? ⟨w.heap.size + 1, 1, none⟩ = some (strV []) ∧ w'.cell? ⟨w.heap.size + 1, 14, none⟩ = some (strV (b0 :: u0))) (by kernel_rfl) ⟨Blk.cell (show Blk W.drew _ _ _ from Q0.out) 0, Blk.cell (show Blk W.drew _ _ _ from Q0.out) 1, Blk.cell (show Blk W.drew _ _ _ from Q0.out) 2, Blk.cell (show Blk W.drew _ _ _ from P0.out) 1, Blk.cell (show Blk W.drew _ _ _ from P0.out) 14⟩ (fun hHeld0 => ?_)
  refine wpAnyH_take (i := 0) (oi := ⟨some 5, _, _, _, _, _⟩) (v := .pointer (some ⟨w.heap.size + 1, 1, none⟩)) rfl (by kernel_rfl) (by kernel_rfl) (by kernel_rfl) (fun _ _ _ h => h) (Or.inl ⟨by rfl, (fun w' hS => by (try dsimp only at hS); go_simp)⟩) (by assumption) ?_
  try simp only [Act.put, List.setIfInBounds_toArray, List.set_cons_zero, List.set_cons_succ]
  refine wpAnyH_take (i := 1) (oi := ⟨some 6, _, _, _, _, _⟩) (v := strV []) rfl (by kernel_rfl) (by kernel_rfl) (by kernel_rfl) (fun _ _ _ h => h) (Or.inl ⟨by rfl, (fun w' hS => by (try dsimp only at hS); go_simp)⟩) (by assumption) ?_
  try simp only [Act.put, List.setIfInBounds_toArray, List.set_cons_zero, List.set_cons_succ]
  refine wpAnyH_take (i := 2) (oi := ⟨some 7, _, _, _, _, _⟩) (v := .bool true) rfl (by kernel_rfl) (by kernel_rfl) (by kernel_rfl) (fun _ _ _ h => h) (Or.inl ⟨by rfl, (fun w' hS => by (try dsimp only at hS); go_simp)⟩) (by assumption) ?_
  try simp only [Act.put, List.setIfInBounds_toArray, List.set_cons_zero, List.set_cons_succ]
  refine wpAnyH_take (i := 3) (oi := ⟨some 8, _, _, _, _, _⟩) (v := .bool true) rfl (by kernel_rfl) (by kernel_rfl) (by kernel_rfl) (fun _ _ _ h => h) (Or.inl ⟨by rfl, (fun w' hS => by (try dsimp only at hS); go_simp)⟩) (by assumption) ?_
  try simp only [Act.put, List.setIfInBounds_toArray, List.set_cons_zero, List.set_cons_succ]
  refine wpAnyH_take (i := 4) (oi := ⟨some 9, _, _, _, _, _⟩) (v := undef) rfl (by kernel_rfl) (by kernel_rfl) (by kernel_rfl) (fun _ _ _ h => h) (Or.inr ⟨by rfl, rfl⟩) (by assumption) ?_
  try simp only [Act.put, List.setIfInBounds_toArray, List.set_cons_zero, List.set_cons_succ]
  refine wpAnyH_take (i := 5) (oi := ⟨some 10, _, _, _, _, _⟩) (v := undef) rfl (by kernel_rfl) (by kernel_rfl) (by kernel_rfl) (fun _ _ _ h => h) (Or.inr ⟨by rfl, rfl⟩) (by assumption) ?_
  try simp only [Act.put, List.setIfInBounds_toArray, List.set_cons_zero, List.set_cons_succ]
  refine wpAnyH_take (i := 6) (oi := ⟨some 11, _, _, _, _, _⟩) (v := undef) rfl (by kernel_rfl) (by kernel_rfl) (by kernel_rfl) (fun _ _ _ h => h) (Or.inr ⟨by rfl, rfl⟩) (by assumption) ?_
  try simp only [Act.put, List.setIfInBounds_toArray, List.set_cons_zero, List.set_cons_succ]
  refine wpAnyH_take (i := 7) (oi := ⟨some 12, _, _, _, _, _⟩) (v := undef) rfl (by kernel_rfl) (by kernel_rfl) (by kernel_rfl) (fun _ _ _ h => h) (Or.inr ⟨by rfl, rfl⟩) (by assumption) ?_
  try simp only [Act.put, List.setIfInBounds_toArray, List.set_cons_zero, List.set_cons_succ]
  refine wpAnyH_take (i := 8) (oi := ⟨some 13, _, _, _, _, _⟩) (v := undef) rfl (by kernel_rfl) (by kernel_rfl) (by kernel_rfl) (fun _ _ _ h => h) (Or.inr ⟨by rfl, rfl⟩) (by assumption) ?_
  try simp only [Act.put, List.setIfInBounds_toArray, List.set_cons_zero, List.set_cons_succ]
  refine wpAnyH_take (i := 9) (oi := ⟨some 14, _, _, _, _, _⟩) (v := .bool true) rfl (by kernel_rfl) (by kernel_rfl) (by kernel_rfl) (fun _ _ _ h => h) (Or.inl ⟨by rfl, (fun w' hS => by (try dsimp only at hS); go_simp)⟩) (by assumption) ?_
  try simp only [Act.put, List.setIfInBounds_toArray, List.set_cons_zero, List.set_cons_succ]
  refine wpAnyH_take (i := 10) (oi := ⟨some 15, _, _, _, _, _⟩) (v := .bool true) rfl (by kernel_rfl) (by kernel_rfl) (by kernel_rfl) (fun _ _ _ h => h) (Or.inl ⟨by rfl, (fun w' hS => by (try dsimp only at hS); go_simp)⟩) (by assumption) ?_
  try simp only [Act.put, List.setIfInBounds_toArray, List.set_cons_zero, List.set_cons_succ]
  refine wpAnyH_take (i := 11) (oi := ⟨some 16, _, _, _, _, _⟩) (v := .pointer (some ⟨w.heap.size + 1, 14, none⟩)) rfl (by kernel_rfl) (by kernel_rfl) (by kernel_rfl) (fun _ _ _ h => h) (Or.inl ⟨by rfl, (fun w' hS => by (try dsimp only at hS); go_simp)⟩) (by assumption) ?_
  try simp only [Act.put, List.setIfInBounds_toArray, List.set_cons_zero, List.set_cons_succ]
  refine wpAnyH_take (i := 12) (oi := ⟨some 17, _, _, _, _, _⟩) (v := strV (b0 :: u0)) rfl (by kernel_rfl) (by kernel_rfl) (by kernel_rfl) (fun _ _ _ h => h) (Or.inl ⟨by rfl, (fun w' hS => by (try dsimp only at hS); go_simp)⟩) (by assumption) ?_
  try simp only [Act.put, List.setIfInBounds_toArray, List.set_cons_zero, List.set_cons_succ]
  refine wpAnyH_take (i := 13) (oi := ⟨some 18, _, _, _, _, _⟩) (v := .bool false) rfl (by kernel_rfl) (by kernel_rfl) (by kernel_rfl) (fun _ _ _ h => h) (Or.inl ⟨by rfl, (fun w' hS => by (try dsimp only at hS); go_simp)⟩) (by assumption) ?_
  try simp only [Act.put, List.setIfInBounds_toArray, List.set_cons_zero, List.set_cons_succ]
  refine wpAnyH_take (i := 14) (oi := ⟨some 19, _, _, _, _, _⟩) (v := .bool false) rfl (by kernel_rfl) (by kernel_rfl) (by kernel_rfl) (fun _ _ _ h => h) (Or.inl ⟨by rfl, (fun w' hS => by (try dsimp only at hS); go_simp)⟩) (by assumption) ?_
  try simp only [Act.put, List.setIfInBounds_toArray, List.set_cons_zero, List.set_cons_succ]
  refine wpAnyH_take (i := 15) (oi := ⟨some 20, _, _, _, _, _⟩) (v := snapV A B C ca cb cc ns ps os) rfl (by kernel_rfl) (by kernel_rfl) (by kernel_rfl) (fun _ _ _ h => h) (Or.inl ⟨by rfl, (fun w' hS => by (try dsimp only at hS); go_simp)⟩) (by assumption) ?_
  try simp only [Act.put, List.setIfInBounds_toArray, List.set_cons_zero, List.set_cons_succ]
  refine wpAnyH_take (i := 16) (oi := ⟨some 21, _, _, _, _, _⟩) (v := snapV A B C ca cb cc ns ps os) rfl (by kernel_rfl) (by kernel_rfl) (by kernel_rfl) (fun _ _ _ h => h) (Or.inl ⟨by rfl, (fun w' hS => by (try dsimp only at hS); go_simp)⟩) (by assumption) ?_
  try simp only [Act.put, List.setIfInBounds_toArray, List.set_cons_zero, List.set_cons_succ]
  refine wpAnyH_take (i := 17) (oi := ⟨some 22, _, _, _, _, _⟩) (v := .pointer (some ⟨w.heap.size + 1, 14, none⟩)) rfl (by kernel_rfl) (by kernel_rfl) (by kernel_rfl) (fun _ _ _ h => h) (Or.inl ⟨by rfl, (fun w' hS => by (try dsimp only at hS); go_simp)⟩) (by assumption) ?_
  try simp only [Act.put, List.setIfInBounds_toArray, List.set_cons_zero, List.set_cons_succ]
  refine wpAnyH_take (i := 18) (oi := ⟨some 23, _, _, _, _, _⟩) (v := strV (b0 :: u0)) rfl (by kernel_rfl) (by kernel_rfl) (by kernel_rfl) (fun _ _ _ h => h) (Or.inl ⟨by rfl, (fun w' hS => by (try dsimp only at hS); go_simp)⟩) (by assumption) ?_
  try simp only [Act.put, List.setIfInBounds_toArray, List.set_cons_zero, List.set_cons_succ]
  refine wpAnyH_ready (rs := [19]) (by kernel_rfl) (by simp) ?_
  refine AllReadyH.cons (o := { dst := some 24, op := Op.call { callee := Callee.value (Operand.func 108), args := #[Operand.tmp 21, Operand.tmp 23], argTypes := #[26, 9] }, type := 3, pos := "check.go:60", after := #[{ on := 16, ground := Ground.data }, { on := 18, ground := Ground.data }, { on := 14, ground := Ground.chain }, { on := 14, ground := Ground.guard }], guard := some (14, false) }) rfl (fun K2 hK => ?_) AllReadyH.nil
  rw [if_pos (by rfl)]
  go_simp
  refine (KN.out _ BD.out).mono ?_
  rintro e w1 ⟨rfl, hb1⟩
  have B1 := Lib.hid (BD.out.trans (hb1.mono BD.out.size))
  have Q1 := Lib.hid (Blk.below (show Blk W.drew _ _ _ from Q0.out) hb1 (Nat.lt_trans (Nat.lt_succ_self _) (Blk.lt P0.out)))
  have P1 := Lib.hid (Blk.below (show Blk W.drew _ _ _ from P0.out) hb1 (Blk.lt P0.out))
  clear hb1
  refine hK.out _ _ ⟨Blk.cell Q1.out 0, Blk.cell Q1.out 1, Blk.cell Q1.out 2, Blk.cell P1.out 1, Blk.cell P1.out 14⟩ (fun hHeld1 => ?_)
  clear hK K2 hHeld0
  try simp only [Act.put, List.setIfInBounds_toArray, List.set_cons_zero, List.set_cons_succ]
  refine wpAnyH_ready (rs := [20]) (by kernel_rfl) (by simp) ?_
  refine AllReadyH.cons (o := { dst := some 25, op := Op.call { callee := Callee.value (Operand.func 107), args := #[Operand.tmp 20, Operand.tmp 24], argTypes := #[26, 3] }, type := 4, pos := "check.go:60", after := #[{ on := 15, ground := Ground.data }, { on := 19, ground := Ground.data }, { on := 19, ground := Ground.chain }, { on := 14, ground := Ground.guard }], guard := some (14, false) }) rfl (fun K2 hK => ?_) AllReadyH.nil
  rw [if_pos (by rfl)]
  go_simp
  refine (KT.out _ B1.out).mono ?_
  rintro e w2 ⟨rfl, hb2⟩
  have B2 := Lib.hid (B1.out.trans (hb2.mono B1.out.size))
  have Q2 := Lib.hid (Blk.below (show Blk w1 _ _ _ from Q1.out) hb2 (Nat.lt_trans (Nat.lt_succ_self _) (Blk.lt P1.out)))
  have P2 := Lib.hid (Blk.below (show Blk w1 _ _ _ from P1.out) hb2 (Blk.lt P1.out))
  clear hb2
  refine hK.out _ _ ⟨Blk.cell Q2.out 0, Blk.cell Q2.out 1, Blk.cell Q2.out 2, Blk.cell P2.out 1, Blk.cell P2.out 14⟩ (fun hHeld2 => ?_)
  clear hK K2 hHeld1
  try simp only [Act.put, List.setIfInBounds_toArray, List.set_cons_zero, List.set_cons_succ]
  refine wpAnyH_take (i := 21) (oi := ⟨some 26, _, _, _, _, _⟩) (v := .bool b2) rfl (by kernel_rfl) (by kernel_rfl) (by kernel_rfl) (fun _ _ _ h => h) (Or.inl ⟨by rfl, (fun w' hS => by (try dsimp only at hS); go_simp)⟩) (by assumption) ?_
  try simp only [Act.put, List.setIfInBounds_toArray, List.set_cons_zero, List.set_cons_succ]
  refine wpAnyH_take (i := 22) (oi := ⟨some 27, _, _, _, _, _⟩) (v := .bool b2) rfl (by kernel_rfl) (by kernel_rfl) (by kernel_rfl) (fun _ _ _ h => h) (Or.inl ⟨by rfl, (fun w' hS => by (try dsimp only at hS); go_simp)⟩) (by assumption) ?_
  try simp only [Act.put, List.setIfInBounds_toArray, List.set_cons_zero, List.set_cons_succ]
  refine wpAnyH_take (i := 23) (oi := ⟨some 4, _, _, _, _, _⟩) (v := .bool b2) rfl (by kernel_rfl) (by kernel_rfl) (by kernel_rfl) (fun _ _ _ h => h) (Or.inl ⟨by rfl, (fun w' hS => by (try dsimp only at hS); go_simp)⟩) (by assumption) ?_
  try simp only [Act.put, List.setIfInBounds_toArray, List.set_cons_zero, List.set_cons_succ]
  refine wpAnyH_done (by kernel_rfl) ?_ _
  clear hHeld2
  go_wp2_with fail
  go_ret
  exact ⟨La.retB rfl, B2.out⟩

set_option maxRecDepth 100000 in
set_option maxHeartbeats 2000000 in
theorem known_ne (A B C : Option Addr) (ca cb cc : Nat) (ns : List NodeD) (ps : List PodD) (os : List OwnD) (w : World) (nm : List UInt8) (rq : Nat → Int) (lb : List L2) (wh : List T3) (br : List L2) (wt : List UInt8) (wtm : List T3) (ap : List UInt8) (apm : List T3) (al : Option Addr) (cl : Nat) (aw : Option Addr) (cw : Nat) (ab : Option Addr) (cb' : Nat) (awt : Option Addr) (cwt : Nat) (aap : Option Addr) (cap' : Nat) (c0 : UInt8) (v0 : List UInt8) (i1 : Int) (ko : ∀ w', Below w.heap.size w w' → Calls Tryz.prog 106 #[snapV A B C ca cb cc ns ps os, strV (c0 :: v0)] w' fun e w'' => e = .returned (.int .i64 i1) ∧ Below w'.heap.size w' w'') (hi : i1 ≠ -1) :
    Calls Tryz.prog 85 #[snapV A B C ca cb cc ns ps os, valP ⟨nm, (c0 :: v0), rq, lb, wh, br, wt, wtm, ap, apm, [], al, cl, aw, cw, ab, cb', awt, cwt, aap, cap'⟩] w fun e w' => e = .returned (.bool true) ∧ Below w.heap.size w w' := by
  have B0 := Lib.hid (Qu.below2 w (.cells (snapC A B C ca cb cc ns ps os) 26) (.cells (cellsP [⟨nm, (c0 :: v0), rq, lb, wh, br, wt, wtm, ap, apm, [], al, cl, aw, cw, ab, cb', awt, cwt, aap, cap'⟩]).toArray 62))
  have Q0 : Hid (Blk ((w.alloc (.cells (snapC A B C ca cb cc ns ps os) 26)).alloc (.cells (cellsP [⟨nm, (c0 :: v0), rq, lb, wh, br, wt, wtm, ap, apm, [], al, cl, aw, cw, ab, cb', awt, cwt, aap, cap'⟩]).toArray 62)) w.heap.size (snapC A B C ca cb cc ns ps os) 26) := Lib.hid (Blk.alloc (Blk.new w _ _) _)
  have P0 : Hid (Blk ((w.alloc (.cells (snapC A B C ca cb cc ns ps os) 26)).alloc (.cells (cellsP [⟨nm, (c0 :: v0), rq, lb, wh, br, wt, wtm, ap, apm, [], al, cl, aw, cw, ab, cb', awt, cwt, aap, cap'⟩]).toArray 62)) (w.heap.size + 1) (cellsP [⟨nm, (c0 :: v0), rq, lb, wh, br, wt, wtm, ap, apm, [], al, cl, aw, cw, ab, cb', awt, cwt, aap, cap'⟩]).toArray 62) := Lib.hid (blk2 w _ _ _)
  have KO := Lib.hid ko
  clear ko
  go_enter Tryz.func85, Tryz.ntmps85
  go_wp2_with fail
  change Code.wp _ _ _ _ ((w.alloc (.cells (snapC A B C ca cb cc ns ps os) 26)).alloc (.cells (cellsP [⟨nm, (c0 :: v0), rq, lb, wh, br, wt, wtm, ap, apm, [], al, cl, aw, cw, ab, cb', awt, cwt, aap, cap'⟩]).toArray 62))
  generalize ((w.alloc (.cells (snapC A B C ca cb cc ns ps os) 26)).alloc (.cells (cellsP [⟨nm, (c0 :: v0), rq, lb, wh, br, wt, wtm, ap, apm, [], al, cl, aw, cw, ab, cb', awt, cwt, aap, cap'⟩]).toArray 62)) = W at B0 Q0 P0 ⊢
  have BD := Lib.hid (B0.out.drew)
  refine wp_region_held_drew (S := fun w' => w'.cell? ⟨w.heap.size, 0, none⟩ = some (.slice A ns.length ca) ∧ w'.cell? ⟨w.heap.size, 1, none⟩ = some (.slice B ps.length cb) ∧ w'.cell? ⟨w.heap.size, 2, none⟩ = some (.slice C os.length cc) ∧ w'.cell? ⟨w.heap.size + 1, 1, none⟩ = some (strV (c0 :: v0)) ∧ w'.cell? ⟨w.heap.size + 1, 14, none⟩ = some (strV [])) (by kernel_rfl) ⟨Blk.cell (show Blk W.drew _ _ _ from Q0.out) 0, Blk.cell (show Blk W.drew _ _ _ from Q0.out) 1, Blk.cell (show Blk W.drew _ _ _ from Q0.out) 2, Blk.cell (show Blk W.drew _ _ _ from P0.out) 1, Blk.cell (show Blk W.drew _ _ _ from P0.out) 14⟩ (fun hHeld0 => ?_)
  refine wpAnyH_take (i := 0) (oi := ⟨some 5, _, _, _, _, _⟩) (v := .pointer (some ⟨w.heap.size + 1, 1, none⟩)) rfl (by kernel_rfl) (by kernel_rfl) (by kernel_rfl) (fun _ _ _ h => h) (Or.inl ⟨by rfl, (fun w' hS => by (try dsimp only at hS); go_simp)⟩) (by assumption) ?_
  try simp only [Act.put, List.setIfInBounds_toArray, List.set_cons_zero, List.set_cons_succ]
  refine wpAnyH_take (i := 1) (oi := ⟨some 6, _, _, _, _, _⟩) (v := strV (c0 :: v0)) rfl (by kernel_rfl) (by kernel_rfl) (by kernel_rfl) (fun _ _ _ h => h) (Or.inl ⟨by rfl, (fun w' hS => by (try dsimp only at hS); go_simp)⟩) (by assumption) ?_
  try simp only [Act.put, List.setIfInBounds_toArray, List.set_cons_zero, List.set_cons_succ]
  refine wpAnyH_take (i := 2) (oi := ⟨some 7, _, _, _, _, _⟩) (v := .bool false) rfl (by kernel_rfl) (by kernel_rfl) (by kernel_rfl) (fun _ _ _ h => h) (Or.inl ⟨by rfl, (fun w' hS => by (try dsimp only at hS); go_simp)⟩) (by assumption) ?_
  try simp only [Act.put, List.setIfInBounds_toArray, List.set_cons_zero, List.set_cons_succ]
  refine wpAnyH_take (i := 3) (oi := ⟨some 8, _, _, _, _, _⟩) (v := .bool false) rfl (by kernel_rfl) (by kernel_rfl) (by kernel_rfl) (fun _ _ _ h => h) (Or.inl ⟨by rfl, (fun w' hS => by (try dsimp only at hS); go_simp)⟩) (by assumption) ?_
  try simp only [Act.put, List.setIfInBounds_toArray, List.set_cons_zero, List.set_cons_succ]
  refine wpAnyH_take (i := 4) (oi := ⟨some 9, _, _, _, _, _⟩) (v := snapV A B C ca cb cc ns ps os) rfl (by kernel_rfl) (by kernel_rfl) (by kernel_rfl) (fun _ _ _ h => h) (Or.inl ⟨by rfl, (fun w' hS => by (try dsimp only at hS); go_simp)⟩) (by assumption) ?_
  try simp only [Act.put, List.setIfInBounds_toArray, List.set_cons_zero, List.set_cons_succ]
  refine wpAnyH_take (i := 5) (oi := ⟨some 10, _, _, _, _, _⟩) (v := .pointer (some ⟨w.heap.size + 1, 1, none⟩)) rfl (by kernel_rfl) (by kernel_rfl) (by kernel_rfl) (fun _ _ _ h => h) (Or.inl ⟨by rfl, (fun w' hS => by (try dsimp only at hS); go_simp)⟩) (by assumption) ?_
  try simp only [Act.put, List.setIfInBounds_toArray, List.set_cons_zero, List.set_cons_succ]
  refine wpAnyH_take (i := 6) (oi := ⟨some 11, _, _, _, _, _⟩) (v := strV (c0 :: v0)) rfl (by kernel_rfl) (by kernel_rfl) (by kernel_rfl) (fun _ _ _ h => h) (Or.inl ⟨by rfl, (fun w' hS => by (try dsimp only at hS); go_simp)⟩) (by assumption) ?_
  try simp only [Act.put, List.setIfInBounds_toArray, List.set_cons_zero, List.set_cons_succ]
  refine wpAnyH_ready (rs := [7]) (by kernel_rfl) (by simp) ?_
  refine AllReadyH.cons (o := { dst := some 12, op := Op.call { callee := Callee.value (Operand.func 106), args := #[Operand.tmp 9, Operand.tmp 11], argTypes := #[26, 9] }, type := 3, pos := "check.go:60", after := #[{ on := 4, ground := Ground.data }, { on := 6, ground := Ground.data }, { on := 3, ground := Ground.chain }, { on := 3, ground := Ground.guard }], guard := some (3, false) }) rfl (fun K2 hK => ?_) AllReadyH.nil
  rw [if_pos (by rfl)]
  go_simp
  refine (KO.out _ BD.out).mono ?_
  rintro e w1 ⟨rfl, hb1⟩
  have B1 := Lib.hid (BD.out.trans (hb1.mono BD.out.size))
  have Q1 := Lib.hid (Blk.below (show Blk W.drew _ _ _ from Q0.out) hb1 (Nat.lt_trans (Nat.lt_succ_self _) (Blk.lt P0.out)))
  have P1 := Lib.hid (Blk.below (show Blk W.drew _ _ _ from P0.out) hb1 (Blk.lt P0.out))
  clear hb1
  refine hK.out _ _ ⟨Blk.cell Q1.out 0, Blk.cell Q1.out 1, Blk.cell Q1.out 2, Blk.cell P1.out 1, Blk.cell P1.out 14⟩ (fun hHeld1 => ?_)
  clear hK K2 hHeld0
  try simp only [Act.put, List.setIfInBounds_toArray, List.set_cons_zero, List.set_cons_succ]
  refine wpAnyH_take (i := 8) (oi := ⟨some 13, _, _, _, _, _⟩) (v := .bool true) rfl (by kernel_rfl) (by kernel_rfl) (by kernel_rfl) (fun _ _ _ h => h) (Or.inl ⟨by rfl, (fun w' hS => by (try dsimp only at hS); go_simp)⟩) (by assumption) ?_
  try simp only [Act.put, List.setIfInBounds_toArray, List.set_cons_zero, List.set_cons_succ]
  refine wpAnyH_take (i := 9) (oi := ⟨some 14, _, _, _, _, _⟩) (v := .bool true) rfl (by kernel_rfl) (by kernel_rfl) (by kernel_rfl) (fun _ _ _ h => h) (Or.inl ⟨by rfl, (fun w' hS => by (try dsimp only at hS); go_simp)⟩) (by assumption) ?_
  try simp only [Act.put, List.setIfInBounds_toArray, List.set_cons_zero, List.set_cons_succ]
  refine wpAnyH_take (i := 10) (oi := ⟨some 15, _, _, _, _, _⟩) (v := .bool true) rfl (by kernel_rfl) (by kernel_rfl) (by kernel_rfl) (fun _ _ _ h => h) (Or.inl ⟨by rfl, (fun w' hS => by (try dsimp only at hS); go_simp)⟩) (by assumption) ?_
  try simp only [Act.put, List.setIfInBounds_toArray, List.set_cons_zero, List.set_cons_succ]
  refine wpAnyH_take (i := 11) (oi := ⟨some 16, _, _, _, _, _⟩) (v := .pointer (some ⟨w.heap.size + 1, 14, none⟩)) rfl (by kernel_rfl) (by kernel_rfl) (by kernel_rfl) (fun _ _ _ h => h) (Or.inl ⟨by rfl, (fun w' hS => by (try dsimp only at hS); go_simp)⟩) (by assumption) ?_
  try simp only [Act.put, List.setIfInBounds_toArray, List.set_cons_zero, List.set_cons_succ]
  refine wpAnyH_take (i := 12) (oi := ⟨some 17, _, _, _, _, _⟩) (v := strV []) rfl (by kernel_rfl) (by kernel_rfl) (by kernel_rfl) (fun _ _ _ h => h) (Or.inl ⟨by rfl, (fun w' hS => by (try dsimp only at hS); go_simp)⟩) (by assumption) ?_
  try simp only [Act.put, List.setIfInBounds_toArray, List.set_cons_zero, List.set_cons_succ]
  refine wpAnyH_take (i := 13) (oi := ⟨some 18, _, _, _, _, _⟩) (v := .bool true) rfl (by kernel_rfl) (by kernel_rfl) (by kernel_rfl) (fun _ _ _ h => h) (Or.inl ⟨by rfl, (fun w' hS => by (try dsimp only at hS); go_simp)⟩) (by assumption) ?_
  try simp only [Act.put, List.setIfInBounds_toArray, List.set_cons_zero, List.set_cons_succ]
  refine wpAnyH_take (i := 14) (oi := ⟨some 19, _, _, _, _, _⟩) (v := .bool true) rfl (by kernel_rfl) (by kernel_rfl) (by kernel_rfl) (fun _ _ _ h => h) (Or.inl ⟨by rfl, (fun w' hS => by (try dsimp only at hS); go_simp)⟩) (by assumption) ?_
  try simp only [Act.put, List.setIfInBounds_toArray, List.set_cons_zero, List.set_cons_succ]
  refine wpAnyH_take (i := 15) (oi := ⟨some 20, _, _, _, _, _⟩) (v := undef) rfl (by kernel_rfl) (by kernel_rfl) (by kernel_rfl) (fun _ _ _ h => h) (Or.inr ⟨by rfl, rfl⟩) (by assumption) ?_
  try simp only [Act.put, List.setIfInBounds_toArray, List.set_cons_zero, List.set_cons_succ]
  refine wpAnyH_take (i := 16) (oi := ⟨some 21, _, _, _, _, _⟩) (v := undef) rfl (by kernel_rfl) (by kernel_rfl) (by kernel_rfl) (fun _ _ _ h => h) (Or.inr ⟨by rfl, rfl⟩) (by assumption) ?_
  try simp only [Act.put, List.setIfInBounds_toArray, List.set_cons_zero, List.set_cons_succ]
  refine wpAnyH_take (i := 17) (oi := ⟨some 22, _, _, _, _, _⟩) (v := undef) rfl (by kernel_rfl) (by kernel_rfl) (by kernel_rfl) (fun _ _ _ h => h) (Or.inr ⟨by rfl, rfl⟩) (by assumption) ?_
  try simp only [Act.put, List.setIfInBounds_toArray, List.set_cons_zero, List.set_cons_succ]
  refine wpAnyH_take (i := 18) (oi := ⟨some 23, _, _, _, _, _⟩) (v := undef) rfl (by kernel_rfl) (by kernel_rfl) (by kernel_rfl) (fun _ _ _ h => h) (Or.inr ⟨by rfl, rfl⟩) (by assumption) ?_
  try simp only [Act.put, List.setIfInBounds_toArray, List.set_cons_zero, List.set_cons_succ]
  refine wpAnyH_take (i := 19) (oi := ⟨some 24, _, _, _, _, _⟩) (v := undef) rfl (by kernel_rfl) (by kernel_rfl) (by kernel_rfl) (fun _ _ _ h => h) (Or.inr ⟨by rfl, rfl⟩) (by assumption) ?_
  try simp only [Act.put, List.setIfInBounds_toArray, List.set_cons_zero, List.set_cons_succ]
  refine wpAnyH_take (i := 20) (oi := ⟨some 25, _, _, _, _, _⟩) (v := undef) rfl (by kernel_rfl) (by kernel_rfl) (by kernel_rfl) (fun _ _ _ h => h) (Or.inr ⟨by rfl, rfl⟩) (by assumption) ?_
  try simp only [Act.put, List.setIfInBounds_toArray, List.set_cons_zero, List.set_cons_succ]
  refine wpAnyH_take (i := 21) (oi := ⟨some 26, _, _, _, _, _⟩) (v := .bool true) rfl (by kernel_rfl) (by kernel_rfl) (by kernel_rfl) (fun _ _ _ h => h) (Or.inl ⟨by rfl, (fun w' hS => by (try dsimp only at hS); go_simp)⟩) (by assumption) ?_
  try simp only [Act.put, List.setIfInBounds_toArray, List.set_cons_zero, List.set_cons_succ]
  refine wpAnyH_take (i := 22) (oi := ⟨some 27, _, _, _, _, _⟩) (v := .bool true) rfl (by kernel_rfl) (by kernel_rfl) (by kernel_rfl) (fun _ _ _ h => h) (Or.inl ⟨by rfl, (fun w' hS => by (try dsimp only at hS); go_simp)⟩) (by assumption) ?_
  try simp only [Act.put, List.setIfInBounds_toArray, List.set_cons_zero, List.set_cons_succ]
  refine wpAnyH_take (i := 23) (oi := ⟨some 4, _, _, _, _, _⟩) (v := .bool true) rfl (by kernel_rfl) (by kernel_rfl) (by kernel_rfl) (fun _ _ _ h => h) (Or.inl ⟨by rfl, (fun w' hS => by (try dsimp only at hS); go_simp)⟩) (by assumption) ?_
  try simp only [Act.put, List.setIfInBounds_toArray, List.set_cons_zero, List.set_cons_succ]
  refine wpAnyH_done (by kernel_rfl) ?_ _
  clear hHeld1
  go_wp2_with fail
  go_ret
  exact ⟨La.retB rfl, B1.out⟩

set_option maxRecDepth 100000 in
set_option maxHeartbeats 2000000 in
theorem known_nn (A B C : Option Addr) (ca cb cc : Nat) (ns : List NodeD) (ps : List PodD) (os : List OwnD) (w : World) (nm : List UInt8) (rq : Nat → Int) (lb : List L2) (wh : List T3) (br : List L2) (wt : List UInt8) (wtm : List T3) (ap : List UInt8) (apm : List T3) (al : Option Addr) (cl : Nat) (aw : Option Addr) (cw : Nat) (ab : Option Addr) (cb' : Nat) (awt : Option Addr) (cwt : Nat) (aap : Option Addr) (cap' : Nat) (c0 : UInt8) (v0 : List UInt8) (i1 : Int) (b0 : UInt8) (u0 : List UInt8) (ko : ∀ w', Below w.heap.size w w' → Calls Tryz.prog 106 #[snapV A B C ca cb cc ns ps os, strV (c0 :: v0)] w' fun e w'' => e = .returned (.int .i64 i1) ∧ Below w'.heap.size w' w'') (hi : i1 ≠ -1) (i2 : Int) (b2 : Bool) (kn : ∀ w', Below w.heap.size w w' → Calls Tryz.prog 108 #[snapV A B C ca cb cc ns ps os, strV (b0 :: u0)] w' fun e w'' => e = .returned (.int .i64 i2) ∧ Below w'.heap.size w' w'') (kt : ∀ w', Below w.heap.size w w' → Calls Tryz.prog 107 #[snapV A B C ca cb cc ns ps os, .int .i64 i2] w' fun e w'' => e = .returned (.bool b2) ∧ Below w'.heap.size w' w'') :
    Calls Tryz.prog 85 #[snapV A B C ca cb cc ns ps os, valP ⟨nm, (c0 :: v0), rq, lb, wh, br, wt, wtm, ap, apm, (b0 :: u0), al, cl, aw, cw, ab, cb', awt, cwt, aap, cap'⟩] w fun e w' => e = .returned (.bool b2) ∧ Below w.heap.size w w' := by
  have B0 := Lib.hid (Qu.below2 w (.cells (snapC A B C ca cb cc ns ps os) 26) (.cells (cellsP [⟨nm, (c0 :: v0), rq, lb, wh, br, wt, wtm, ap, apm, (b0 :: u0), al, cl, aw, cw, ab, cb', awt, cwt, aap, cap'⟩]).toArray 62))
  have Q0 : Hid (Blk ((w.alloc (.cells (snapC A B C ca cb cc ns ps os) 26)).alloc (.cells (cellsP [⟨nm, (c0 :: v0), rq, lb, wh, br, wt, wtm, ap, apm, (b0 :: u0), al, cl, aw, cw, ab, cb', awt, cwt, aap, cap'⟩]).toArray 62)) w.heap.size (snapC A B C ca cb cc ns ps os) 26) := Lib.hid (Blk.alloc (Blk.new w _ _) _)
  have P0 : Hid (Blk ((w.alloc (.cells (snapC A B C ca cb cc ns ps os) 26)).alloc (.cells (cellsP [⟨nm, (c0 :: v0), rq, lb, wh, br, wt, wtm, ap, apm, (b0 :: u0), al, cl, aw, cw, ab, cb', awt, cwt, aap, cap'⟩]).toArray 62)) (w.heap.size + 1) (cellsP [⟨nm, (c0 :: v0), rq, lb, wh, br, wt, wtm, ap, apm, (b0 :: u0), al, cl, aw, cw, ab, cb', awt, cwt, aap, cap'⟩]).toArray 62) := Lib.hid (blk2 w _ _ _)
  have KO := Lib.hid ko
  have KN := Lib.hid kn
  have KT := Lib.hid kt
  clear ko kn kt
  go_enter Tryz.func85, Tryz.ntmps85
  go_wp2_with fail
  change Code.wp _ _ _ _ ((w.alloc (.cells (snapC A B C ca cb cc ns ps os) 26)).alloc (.cells (cellsP [⟨nm, (c0 :: v0), rq, lb, wh, br, wt, wtm, ap, apm, (b0 :: u0), al, cl, aw, cw, ab, cb', awt, cwt, aap, cap'⟩]).toArray 62))
  generalize ((w.alloc (.cells (snapC A B C ca cb cc ns ps os) 26)).alloc (.cells (cellsP [⟨nm, (c0 :: v0), rq, lb, wh, br, wt, wtm, ap, apm, (b0 :: u0), al, cl, aw, cw, ab, cb', awt, cwt, aap, cap'⟩]).toArray 62)) = W at B0 Q0 P0 ⊢
  have BD := Lib.hid (B0.out.drew)
  refine wp_region_held_drew (S := fun w' => w'.cell? ⟨w.heap.size, 0, none⟩ = some (.slice A ns.length ca) ∧ w'.cell? ⟨w.heap.size, 1, none⟩ = some (.slice B ps.length cb) ∧ w'.cell? ⟨w.heap.size, 2, none⟩ = some (.slice C os.length cc) ∧ w'.cell? ⟨w.heap.size + 1, 1, none⟩ = some (strV (c0 :: v0)) ∧ w'.cell? ⟨w.heap.size + 1, 14, none⟩ = some (strV (b0 :: u0))) (by kernel_rfl) ⟨Blk.cell (show Blk W.drew _ _ _ from Q0.out) 0, Blk.cell (show Blk W.drew _ _ _ from Q0.out) 1, Blk.cell (show Blk W.drew _ _ _ from Q0.out) 2, Blk.cell (show Blk W.drew _ _ _ from P0.out) 1, Blk.cell (show Blk W.drew _ _ _ from P0.out) 14⟩ (fun hHeld0 => ?_)
  refine wpAnyH_take (i := 0) (oi := ⟨some 5, _, _, _, _, _⟩) (v := .pointer (some ⟨w.heap.size + 1, 1, none⟩)) rfl (by kernel_rfl) (by kernel_rfl) (by kernel_rfl) (fun _ _ _ h => h) (Or.inl ⟨by rfl, (fun w' hS => by (try dsimp only at hS); go_simp)⟩) (by assumption) ?_
  try simp only [Act.put, List.setIfInBounds_toArray, List.set_cons_zero, List.set_cons_succ]
  refine wpAnyH_take (i := 1) (oi := ⟨some 6, _, _, _, _, _⟩) (v := strV (c0 :: v0)) rfl (by kernel_rfl) (by kernel_rfl) (by kernel_rfl) (fun _ _ _ h => h) (Or.inl ⟨by rfl, (fun w' hS => by (try dsimp only at hS); go_simp)⟩) (by assumption) ?_
  try simp only [Act.put, List.setIfInBounds_toArray, List.set_cons_zero, List.set_cons_succ]
  refine wpAnyH_take (i := 2) (oi := ⟨some 7, _, _, _, _, _⟩) (v := .bool false) rfl (by kernel_rfl) (by kernel_rfl) (by kernel_rfl) (fun _ _ _ h => h) (Or.inl ⟨by rfl, (fun w' hS => by (try dsimp only at hS); go_simp)⟩) (by assumption) ?_
  try simp only [Act.put, List.setIfInBounds_toArray, List.set_cons_zero, List.set_cons_succ]
  refine wpAnyH_take (i := 3) (oi := ⟨some 8, _, _, _, _, _⟩) (v := .bool false) rfl (by kernel_rfl) (by kernel_rfl) (by kernel_rfl) (fun _ _ _ h => h) (Or.inl ⟨by rfl, (fun w' hS => by (try dsimp only at hS); go_simp)⟩) (by assumption) ?_
  try simp only [Act.put, List.setIfInBounds_toArray, List.set_cons_zero, List.set_cons_succ]
  refine wpAnyH_take (i := 4) (oi := ⟨some 9, _, _, _, _, _⟩) (v := snapV A B C ca cb cc ns ps os) rfl (by kernel_rfl) (by kernel_rfl) (by kernel_rfl) (fun _ _ _ h => h) (Or.inl ⟨by rfl, (fun w' hS => by (try dsimp only at hS); go_simp)⟩) (by assumption) ?_
  try simp only [Act.put, List.setIfInBounds_toArray, List.set_cons_zero, List.set_cons_succ]
  refine wpAnyH_take (i := 5) (oi := ⟨some 10, _, _, _, _, _⟩) (v := .pointer (some ⟨w.heap.size + 1, 1, none⟩)) rfl (by kernel_rfl) (by kernel_rfl) (by kernel_rfl) (fun _ _ _ h => h) (Or.inl ⟨by rfl, (fun w' hS => by (try dsimp only at hS); go_simp)⟩) (by assumption) ?_
  try simp only [Act.put, List.setIfInBounds_toArray, List.set_cons_zero, List.set_cons_succ]
  refine wpAnyH_take (i := 6) (oi := ⟨some 11, _, _, _, _, _⟩) (v := strV (c0 :: v0)) rfl (by kernel_rfl) (by kernel_rfl) (by kernel_rfl) (fun _ _ _ h => h) (Or.inl ⟨by rfl, (fun w' hS => by (try dsimp only at hS); go_simp)⟩) (by assumption) ?_
  try simp only [Act.put, List.setIfInBounds_toArray, List.set_cons_zero, List.set_cons_succ]
  refine wpAnyH_ready (rs := [7]) (by kernel_rfl) (by simp) ?_
  refine AllReadyH.cons (o := { dst := some 12, op := Op.call { callee := Callee.value (Operand.func 106), args := #[Operand.tmp 9, Operand.tmp 11], argTypes := #[26, 9] }, type := 3, pos := "check.go:60", after := #[{ on := 4, ground := Ground.data }, { on := 6, ground := Ground.data }, { on := 3, ground := Ground.chain }, { on := 3, ground := Ground.guard }], guard := some (3, false) }) rfl (fun K2 hK => ?_) AllReadyH.nil
  rw [if_pos (by rfl)]
  go_simp
  refine (KO.out _ BD.out).mono ?_
  rintro e w1 ⟨rfl, hb1⟩
  have B1 := Lib.hid (BD.out.trans (hb1.mono BD.out.size))
  have Q1 := Lib.hid (Blk.below (show Blk W.drew _ _ _ from Q0.out) hb1 (Nat.lt_trans (Nat.lt_succ_self _) (Blk.lt P0.out)))
  have P1 := Lib.hid (Blk.below (show Blk W.drew _ _ _ from P0.out) hb1 (Blk.lt P0.out))
  clear hb1
  refine hK.out _ _ ⟨Blk.cell Q1.out 0, Blk.cell Q1.out 1, Blk.cell Q1.out 2, Blk.cell P1.out 1, Blk.cell P1.out 14⟩ (fun hHeld1 => ?_)
  clear hK K2 hHeld0
  try simp only [Act.put, List.setIfInBounds_toArray, List.set_cons_zero, List.set_cons_succ]
  refine wpAnyH_take (i := 8) (oi := ⟨some 13, _, _, _, _, _⟩) (v := .bool true) rfl (by kernel_rfl) (by kernel_rfl) (by kernel_rfl) (fun _ _ _ h => h) (Or.inl ⟨by rfl, (fun w' hS => by (try dsimp only at hS); go_simp)⟩) (by assumption) ?_
  try simp only [Act.put, List.setIfInBounds_toArray, List.set_cons_zero, List.set_cons_succ]
  refine wpAnyH_take (i := 9) (oi := ⟨some 14, _, _, _, _, _⟩) (v := .bool true) rfl (by kernel_rfl) (by kernel_rfl) (by kernel_rfl) (fun _ _ _ h => h) (Or.inl ⟨by rfl, (fun w' hS => by (try dsimp only at hS); go_simp)⟩) (by assumption) ?_
  try simp only [Act.put, List.setIfInBounds_toArray, List.set_cons_zero, List.set_cons_succ]
  refine wpAnyH_take (i := 10) (oi := ⟨some 15, _, _, _, _, _⟩) (v := .bool true) rfl (by kernel_rfl) (by kernel_rfl) (by kernel_rfl) (fun _ _ _ h => h) (Or.inl ⟨by rfl, (fun w' hS => by (try dsimp only at hS); go_simp)⟩) (by assumption) ?_
  try simp only [Act.put, List.setIfInBounds_toArray, List.set_cons_zero, List.set_cons_succ]
  refine wpAnyH_take (i := 11) (oi := ⟨some 16, _, _, _, _, _⟩) (v := .pointer (some ⟨w.heap.size + 1, 14, none⟩)) rfl (by kernel_rfl) (by kernel_rfl) (by kernel_rfl) (fun _ _ _ h => h) (Or.inl ⟨by rfl, (fun w' hS => by (try dsimp only at hS); go_simp)⟩) (by assumption) ?_
  try simp only [Act.put, List.setIfInBounds_toArray, List.set_cons_zero, List.set_cons_succ]
  refine wpAnyH_take (i := 12) (oi := ⟨some 17, _, _, _, _, _⟩) (v := strV (b0 :: u0)) rfl (by kernel_rfl) (by kernel_rfl) (by kernel_rfl) (fun _ _ _ h => h) (Or.inl ⟨by rfl, (fun w' hS => by (try dsimp only at hS); go_simp)⟩) (by assumption) ?_
  try simp only [Act.put, List.setIfInBounds_toArray, List.set_cons_zero, List.set_cons_succ]
  refine wpAnyH_take (i := 13) (oi := ⟨some 18, _, _, _, _, _⟩) (v := .bool false) rfl (by kernel_rfl) (by kernel_rfl) (by kernel_rfl) (fun _ _ _ h => h) (Or.inl ⟨by rfl, (fun w' hS => by (try dsimp only at hS); go_simp)⟩) (by assumption) ?_
  try simp only [Act.put, List.setIfInBounds_toArray, List.set_cons_zero, List.set_cons_succ]
  refine wpAnyH_take (i := 14) (oi := ⟨some 19, _, _, _, _, _⟩) (v := .bool false) rfl (by kernel_rfl) (by kernel_rfl) (by kernel_rfl) (fun _ _ _ h => h) (Or.inl ⟨by rfl, (fun w' hS => by (try dsimp only at hS); go_simp)⟩) (by assumption) ?_
  try simp only [Act.put, List.setIfInBounds_toArray, List.set_cons_zero, List.set_cons_succ]
  refine wpAnyH_take (i := 15) (oi := ⟨some 20, _, _, _, _, _⟩) (v := snapV A B C ca cb cc ns ps os) rfl (by kernel_rfl) (by kernel_rfl) (by kernel_rfl) (fun _ _ _ h => h) (Or.inl ⟨by rfl, (fun w' hS => by (try dsimp only at hS); go_simp)⟩) (by assumption) ?_
  try simp only [Act.put, List.setIfInBounds_toArray, List.set_cons_zero, List.set_cons_succ]
  refine wpAnyH_take (i := 16) (oi := ⟨some 21, _, _, _, _, _⟩) (v := snapV A B C ca cb cc ns ps os) rfl (by kernel_rfl) (by kernel_rfl) (by kernel_rfl) (fun _ _ _ h => h) (Or.inl ⟨by rfl, (fun w' hS => by (try dsimp only at hS); go_simp)⟩) (by assumption) ?_
  try simp only [Act.put, List.setIfInBounds_toArray, List.set_cons_zero, List.set_cons_succ]
  refine wpAnyH_take (i := 17) (oi := ⟨some 22, _, _, _, _, _⟩) (v := .pointer (some ⟨w.heap.size + 1, 14, none⟩)) rfl (by kernel_rfl) (by kernel_rfl) (by kernel_rfl) (fun _ _ _ h => h) (Or.inl ⟨by rfl, (fun w' hS => by (try dsimp only at hS); go_simp)⟩) (by assumption) ?_
  try simp only [Act.put, List.setIfInBounds_toArray, List.set_cons_zero, List.set_cons_succ]
  refine wpAnyH_take (i := 18) (oi := ⟨some 23, _, _, _, _, _⟩) (v := strV (b0 :: u0)) rfl (by kernel_rfl) (by kernel_rfl) (by kernel_rfl) (fun _ _ _ h => h) (Or.inl ⟨by rfl, (fun w' hS => by (try dsimp only at hS); go_simp)⟩) (by assumption) ?_
  try simp only [Act.put, List.setIfInBounds_toArray, List.set_cons_zero, List.set_cons_succ]
  refine wpAnyH_ready (rs := [19]) (by kernel_rfl) (by simp) ?_
  refine AllReadyH.cons (o := { dst := some 24, op := Op.call { callee := Callee.value (Operand.func 108), args := #[Operand.tmp 21, Operand.tmp 23], argTypes := #[26, 9] }, type := 3, pos := "check.go:60", after := #[{ on := 16, ground := Ground.data }, { on := 18, ground := Ground.data }, { on := 14, ground := Ground.chain }, { on := 14, ground := Ground.guard }], guard := some (14, false) }) rfl (fun K2 hK => ?_) AllReadyH.nil
  rw [if_pos (by rfl)]
  go_simp
  refine (KN.out _ B1.out).mono ?_
  rintro e w2 ⟨rfl, hb2⟩
  have B2 := Lib.hid (B1.out.trans (hb2.mono B1.out.size))
  have Q2 := Lib.hid (Blk.below (show Blk w1 _ _ _ from Q1.out) hb2 (Nat.lt_trans (Nat.lt_succ_self _) (Blk.lt P1.out)))
  have P2 := Lib.hid (Blk.below (show Blk w1 _ _ _ from P1.out) hb2 (Blk.lt P1.out))
  clear hb2
  refine hK.out _ _ ⟨Blk.cell Q2.out 0, Blk.cell Q2.out 1, Blk.cell Q2.out 2, Blk.cell P2.out 1, Blk.cell P2.out 14⟩ (fun hHeld2 => ?_)
  clear hK K2 hHeld1
  try simp only [Act.put, List.setIfInBounds_toArray, List.set_cons_zero, List.set_cons_succ]
  refine wpAnyH_ready (rs := [20]) (by kernel_rfl) (by simp) ?_
  refine AllReadyH.cons (o := { dst := some 25, op := Op.call { callee := Callee.value (Operand.func 107), args := #[Operand.tmp 20, Operand.tmp 24], argTypes := #[26, 3] }, type := 4, pos := "check.go:60", after := #[{ on := 15, ground := Ground.data }, { on := 19, ground := Ground.data }, { on := 19, ground := Ground.chain }, { on := 14, ground := Ground.guard }], guard := some (14, false) }) rfl (fun K2 hK => ?_) AllReadyH.nil
  rw [if_pos (by rfl)]
  go_simp
  refine (KT.out _ B2.out).mono ?_
  rintro e w3 ⟨rfl, hb3⟩
  have B3 := Lib.hid (B2.out.trans (hb3.mono B2.out.size))
  have Q3 := Lib.hid (Blk.below (show Blk w2 _ _ _ from Q2.out) hb3 (Nat.lt_trans (Nat.lt_succ_self _) (Blk.lt P2.out)))
  have P3 := Lib.hid (Blk.below (show Blk w2 _ _ _ from P2.out) hb3 (Blk.lt P2.out))
  clear hb3
  refine hK.out _ _ ⟨Blk.cell Q3.out 0, Blk.cell Q3.out 1, Blk.cell Q3.out 2, Blk.cell P3.out 1, Blk.cell P3.out 14⟩ (fun hHeld3 => ?_)
  clear hK K2 hHeld2
  try simp only [Act.put, List.setIfInBounds_toArray, List.set_cons_zero, List.set_cons_succ]
  refine wpAnyH_take (i := 21) (oi := ⟨some 26, _, _, _, _, _⟩) (v := .bool b2) rfl (by kernel_rfl) (by kernel_rfl) (by kernel_rfl) (fun _ _ _ h => h) (Or.inl ⟨by rfl, (fun w' hS => by (try dsimp only at hS); go_simp)⟩) (by assumption) ?_
  try simp only [Act.put, List.setIfInBounds_toArray, List.set_cons_zero, List.set_cons_succ]
  refine wpAnyH_take (i := 22) (oi := ⟨some 27, _, _, _, _, _⟩) (v := .bool b2) rfl (by kernel_rfl) (by kernel_rfl) (by kernel_rfl) (fun _ _ _ h => h) (Or.inl ⟨by rfl, (fun w' hS => by (try dsimp only at hS); go_simp)⟩) (by assumption) ?_
  try simp only [Act.put, List.setIfInBounds_toArray, List.set_cons_zero, List.set_cons_succ]
  refine wpAnyH_take (i := 23) (oi := ⟨some 4, _, _, _, _, _⟩) (v := .bool b2) rfl (by kernel_rfl) (by kernel_rfl) (by kernel_rfl) (fun _ _ _ h => h) (Or.inl ⟨by rfl, (fun w' hS => by (try dsimp only at hS); go_simp)⟩) (by assumption) ?_
  try simp only [Act.put, List.setIfInBounds_toArray, List.set_cons_zero, List.set_cons_succ]
  refine wpAnyH_done (by kernel_rfl) ?_ _
  clear hHeld3
  go_wp2_with fail
  go_ret
  exact ⟨La.retB rfl, B3.out⟩

set_option maxRecDepth 100000 in
set_option maxHeartbeats 2000000 in
theorem known_nf (A B C : Option Addr) (ca cb cc : Nat) (ns : List NodeD) (ps : List PodD) (os : List OwnD) (w : World) (nm : List UInt8) (on : List UInt8) (rq : Nat → Int) (lb : List L2) (wh : List T3) (br : List L2) (wt : List UInt8) (wtm : List T3) (ap : List UInt8) (apm : List T3) (al : Option Addr) (cl : Nat) (aw : Option Addr) (cw : Nat) (ab : Option Addr) (cb' : Nat) (awt : Option Addr) (cwt : Nat) (aap : Option Addr) (cap' : Nat) (c0 : UInt8) (v0 : List UInt8) (i1 : Int) (ko : ∀ w', Below w.heap.size w w' → Calls Tryz.prog 106 #[snapV A B C ca cb cc ns ps os, strV (c0 :: v0)] w' fun e w'' => e = .returned (.int .i64 i1) ∧ Below w'.heap.size w' w'') (hi : i1 = -1) :
    Calls Tryz.prog 85 #[snapV A B C ca cb cc ns ps os, valP ⟨nm, (c0 :: v0), rq, lb, wh, br, wt, wtm, ap, apm, on, al, cl, aw, cw, ab, cb', awt, cwt, aap, cap'⟩] w fun e w' => e = .returned (.bool false) ∧ Below w.heap.size w w' := by
  have B0 := Lib.hid (Qu.below2 w (.cells (snapC A B C ca cb cc ns ps os) 26) (.cells (cellsP [⟨nm, (c0 :: v0), rq, lb, wh, br, wt, wtm, ap, apm, on, al, cl, aw, cw, ab, cb', awt, cwt, aap, cap'⟩]).toArray 62))
  have Q0 : Hid (Blk ((w.alloc (.cells (snapC A B C ca cb cc ns ps os) 26)).alloc (.cells (cellsP [⟨nm, (c0 :: v0), rq, lb, wh, br, wt, wtm, ap, apm, on, al, cl, aw, cw, ab, cb', awt, cwt, aap, cap'⟩]).toArray 62)) w.heap.size (snapC A B C ca cb cc ns ps os) 26) := Lib.hid (Blk.alloc (Blk.new w _ _) _)
  have P0 : Hid (Blk ((w.alloc (.cells (snapC A B C ca cb cc ns ps os) 26)).alloc (.cells (cellsP [⟨nm, (c0 :: v0), rq, lb, wh, br, wt, wtm, ap, apm, on, al, cl, aw, cw, ab, cb', awt, cwt, aap, cap'⟩]).toArray 62)) (w.heap.size + 1) (cellsP [⟨nm, (c0 :: v0), rq, lb, wh, br, wt, wtm, ap, apm, on, al, cl, aw, cw, ab, cb', awt, cwt, aap, cap'⟩]).toArray 62) := Lib.hid (blk2 w _ _ _)
  have KO := Lib.hid ko
  clear ko
  go_enter Tryz.func85, Tryz.ntmps85
  go_wp2_with fail
  change Code.wp _ _ _ _ ((w.alloc (.cells (snapC A B C ca cb cc ns ps os) 26)).alloc (.cells (cellsP [⟨nm, (c0 :: v0), rq, lb, wh, br, wt, wtm, ap, apm, on, al, cl, aw, cw, ab, cb', awt, cwt, aap, cap'⟩]).toArray 62))
  generalize ((w.alloc (.cells (snapC A B C ca cb cc ns ps os) 26)).alloc (.cells (cellsP [⟨nm, (c0 :: v0), rq, lb, wh, br, wt, wtm, ap, apm, on, al, cl, aw, cw, ab, cb', awt, cwt, aap, cap'⟩]).toArray 62)) = W at B0 Q0 P0 ⊢
  have BD := Lib.hid (B0.out.drew)
  refine wp_region_held_drew (S := fun w' => w'.cell? ⟨w.heap.size, 0, none⟩ = some (.slice A ns.length ca) ∧ w'.cell? ⟨w.heap.size, 1, none⟩ = some (.slice B ps.length cb) ∧ w'.cell? ⟨w.heap.size, 2, none⟩ = some (.slice C os.length cc) ∧ w'.cell? ⟨w.heap.size + 1, 1, none⟩ = some (strV (c0 :: v0)) ∧ w'.cell? ⟨w.heap.size + 1, 14, none⟩ = some (strV on)) (by kernel_rfl) ⟨Blk.cell (show Blk W.drew _ _ _ from Q0.out) 0, Blk.cell (show Blk W.drew _ _ _ from Q0.out) 1, Blk.cell (show Blk W.drew _ _ _ from Q0.out) 2, Blk.cell (show Blk W.drew _ _ _ from P0.out) 1, Blk.cell (show Blk W.drew _ _ _ from P0.out) 14⟩ (fun hHeld0 => ?_)
  refine wpAnyH_take (i := 0) (oi := ⟨some 5, _, _, _, _, _⟩) (v := .pointer (some ⟨w.heap.size + 1, 1, none⟩)) rfl (by kernel_rfl) (by kernel_rfl) (by kernel_rfl) (fun _ _ _ h => h) (Or.inl ⟨by rfl, (fun w' hS => by (try dsimp only at hS); go_simp)⟩) (by assumption) ?_
  try simp only [Act.put, List.setIfInBounds_toArray, List.set_cons_zero, List.set_cons_succ]
  refine wpAnyH_take (i := 1) (oi := ⟨some 6, _, _, _, _, _⟩) (v := strV (c0 :: v0)) rfl (by kernel_rfl) (by kernel_rfl) (by kernel_rfl) (fun _ _ _ h => h) (Or.inl ⟨by rfl, (fun w' hS => by (try dsimp only at hS); go_simp)⟩) (by assumption) ?_
  try simp only [Act.put, List.setIfInBounds_toArray, List.set_cons_zero, List.set_cons_succ]
  refine wpAnyH_take (i := 2) (oi := ⟨some 7, _, _, _, _, _⟩) (v := .bool false) rfl (by kernel_rfl) (by kernel_rfl) (by kernel_rfl) (fun _ _ _ h => h) (Or.inl ⟨by rfl, (fun w' hS => by (try dsimp only at hS); go_simp)⟩) (by assumption) ?_
  try simp only [Act.put, List.setIfInBounds_toArray, List.set_cons_zero, List.set_cons_succ]
  refine wpAnyH_take (i := 3) (oi := ⟨some 8, _, _, _, _, _⟩) (v := .bool false) rfl (by kernel_rfl) (by kernel_rfl) (by kernel_rfl) (fun _ _ _ h => h) (Or.inl ⟨by rfl, (fun w' hS => by (try dsimp only at hS); go_simp)⟩) (by assumption) ?_
  try simp only [Act.put, List.setIfInBounds_toArray, List.set_cons_zero, List.set_cons_succ]
  refine wpAnyH_take (i := 4) (oi := ⟨some 9, _, _, _, _, _⟩) (v := snapV A B C ca cb cc ns ps os) rfl (by kernel_rfl) (by kernel_rfl) (by kernel_rfl) (fun _ _ _ h => h) (Or.inl ⟨by rfl, (fun w' hS => by (try dsimp only at hS); go_simp)⟩) (by assumption) ?_
  try simp only [Act.put, List.setIfInBounds_toArray, List.set_cons_zero, List.set_cons_succ]
  refine wpAnyH_take (i := 5) (oi := ⟨some 10, _, _, _, _, _⟩) (v := .pointer (some ⟨w.heap.size + 1, 1, none⟩)) rfl (by kernel_rfl) (by kernel_rfl) (by kernel_rfl) (fun _ _ _ h => h) (Or.inl ⟨by rfl, (fun w' hS => by (try dsimp only at hS); go_simp)⟩) (by assumption) ?_
  try simp only [Act.put, List.setIfInBounds_toArray, List.set_cons_zero, List.set_cons_succ]
  refine wpAnyH_take (i := 6) (oi := ⟨some 11, _, _, _, _, _⟩) (v := strV (c0 :: v0)) rfl (by kernel_rfl) (by kernel_rfl) (by kernel_rfl) (fun _ _ _ h => h) (Or.inl ⟨by rfl, (fun w' hS => by (try dsimp only at hS); go_simp)⟩) (by assumption) ?_
  try simp only [Act.put, List.setIfInBounds_toArray, List.set_cons_zero, List.set_cons_succ]
  refine wpAnyH_ready (rs := [7]) (by kernel_rfl) (by simp) ?_
  refine AllReadyH.cons (o := { dst := some 12, op := Op.call { callee := Callee.value (Operand.func 106), args := #[Operand.tmp 9, Operand.tmp 11], argTypes := #[26, 9] }, type := 3, pos := "check.go:60", after := #[{ on := 4, ground := Ground.data }, { on := 6, ground := Ground.data }, { on := 3, ground := Ground.chain }, { on := 3, ground := Ground.guard }], guard := some (3, false) }) rfl (fun K2 hK => ?_) AllReadyH.nil
  rw [if_pos (by rfl)]
  go_simp
  refine (KO.out _ BD.out).mono ?_
  rintro e w1 ⟨rfl, hb1⟩
  have B1 := Lib.hid (BD.out.trans (hb1.mono BD.out.size))
  have Q1 := Lib.hid (Blk.below (show Blk W.drew _ _ _ from Q0.out) hb1 (Nat.lt_trans (Nat.lt_succ_self _) (Blk.lt P0.out)))
  have P1 := Lib.hid (Blk.below (show Blk W.drew _ _ _ from P0.out) hb1 (Blk.lt P0.out))
  clear hb1
  refine hK.out _ _ ⟨Blk.cell Q1.out 0, Blk.cell Q1.out 1, Blk.cell Q1.out 2, Blk.cell P1.out 1, Blk.cell P1.out 14⟩ (fun hHeld1 => ?_)
  clear hK K2 hHeld0
  try simp only [Act.put, List.setIfInBounds_toArray, List.set_cons_zero, List.set_cons_succ]
  refine wpAnyH_take (i := 8) (oi := ⟨some 13, _, _, _, _, _⟩) (v := .bool false) rfl (by kernel_rfl) (by kernel_rfl) (by kernel_rfl) (fun _ _ _ h => h) (Or.inl ⟨by rfl, (fun w' hS => by (try dsimp only at hS); go_simp)⟩) (by assumption) ?_
  try simp only [Act.put, List.setIfInBounds_toArray, List.set_cons_zero, List.set_cons_succ]
  refine wpAnyH_take (i := 9) (oi := ⟨some 14, _, _, _, _, _⟩) (v := .bool false) rfl (by kernel_rfl) (by kernel_rfl) (by kernel_rfl) (fun _ _ _ h => h) (Or.inl ⟨by rfl, (fun w' hS => by (try dsimp only at hS); go_simp)⟩) (by assumption) ?_
  try simp only [Act.put, List.setIfInBounds_toArray, List.set_cons_zero, List.set_cons_succ]
  refine wpAnyH_take (i := 10) (oi := ⟨some 15, _, _, _, _, _⟩) (v := .bool false) rfl (by kernel_rfl) (by kernel_rfl) (by kernel_rfl) (fun _ _ _ h => h) (Or.inl ⟨by rfl, (fun w' hS => by (try dsimp only at hS); go_simp)⟩) (by assumption) ?_
  try simp only [Act.put, List.setIfInBounds_toArray, List.set_cons_zero, List.set_cons_succ]
  refine wpAnyH_take (i := 11) (oi := ⟨some 16, _, _, _, _, _⟩) (v := undef) rfl (by kernel_rfl) (by kernel_rfl) (by kernel_rfl) (fun _ _ _ h => h) (Or.inr ⟨by rfl, rfl⟩) (by assumption) ?_
  try simp only [Act.put, List.setIfInBounds_toArray, List.set_cons_zero, List.set_cons_succ]
  refine wpAnyH_take (i := 12) (oi := ⟨some 17, _, _, _, _, _⟩) (v := undef) rfl (by kernel_rfl) (by kernel_rfl) (by kernel_rfl) (fun _ _ _ h => h) (Or.inr ⟨by rfl, rfl⟩) (by assumption) ?_
  try simp only [Act.put, List.setIfInBounds_toArray, List.set_cons_zero, List.set_cons_succ]
  refine wpAnyH_take (i := 13) (oi := ⟨some 18, _, _, _, _, _⟩) (v := undef) rfl (by kernel_rfl) (by kernel_rfl) (by kernel_rfl) (fun _ _ _ h => h) (Or.inr ⟨by rfl, rfl⟩) (by assumption) ?_
  try simp only [Act.put, List.setIfInBounds_toArray, List.set_cons_zero, List.set_cons_succ]
  refine wpAnyH_take (i := 14) (oi := ⟨some 19, _, _, _, _, _⟩) (v := undef) rfl (by kernel_rfl) (by kernel_rfl) (by kernel_rfl) (fun _ _ _ h => h) (Or.inr ⟨by rfl, rfl⟩) (by assumption) ?_
  try simp only [Act.put, List.setIfInBounds_toArray, List.set_cons_zero, List.set_cons_succ]
  refine wpAnyH_take (i := 15) (oi := ⟨some 20, _, _, _, _, _⟩) (v := undef) rfl (by kernel_rfl) (by kernel_rfl) (by kernel_rfl) (fun _ _ _ h => h) (Or.inr ⟨by rfl, rfl⟩) (by assumption) ?_
  try simp only [Act.put, List.setIfInBounds_toArray, List.set_cons_zero, List.set_cons_succ]
  refine wpAnyH_take (i := 16) (oi := ⟨some 21, _, _, _, _, _⟩) (v := undef) rfl (by kernel_rfl) (by kernel_rfl) (by kernel_rfl) (fun _ _ _ h => h) (Or.inr ⟨by rfl, rfl⟩) (by assumption) ?_
  try simp only [Act.put, List.setIfInBounds_toArray, List.set_cons_zero, List.set_cons_succ]
  refine wpAnyH_take (i := 17) (oi := ⟨some 22, _, _, _, _, _⟩) (v := undef) rfl (by kernel_rfl) (by kernel_rfl) (by kernel_rfl) (fun _ _ _ h => h) (Or.inr ⟨by rfl, rfl⟩) (by assumption) ?_
  try simp only [Act.put, List.setIfInBounds_toArray, List.set_cons_zero, List.set_cons_succ]
  refine wpAnyH_take (i := 18) (oi := ⟨some 23, _, _, _, _, _⟩) (v := undef) rfl (by kernel_rfl) (by kernel_rfl) (by kernel_rfl) (fun _ _ _ h => h) (Or.inr ⟨by rfl, rfl⟩) (by assumption) ?_
  try simp only [Act.put, List.setIfInBounds_toArray, List.set_cons_zero, List.set_cons_succ]
  refine wpAnyH_take (i := 19) (oi := ⟨some 24, _, _, _, _, _⟩) (v := undef) rfl (by kernel_rfl) (by kernel_rfl) (by kernel_rfl) (fun _ _ _ h => h) (Or.inr ⟨by rfl, rfl⟩) (by assumption) ?_
  try simp only [Act.put, List.setIfInBounds_toArray, List.set_cons_zero, List.set_cons_succ]
  refine wpAnyH_take (i := 20) (oi := ⟨some 25, _, _, _, _, _⟩) (v := undef) rfl (by kernel_rfl) (by kernel_rfl) (by kernel_rfl) (fun _ _ _ h => h) (Or.inr ⟨by rfl, rfl⟩) (by assumption) ?_
  try simp only [Act.put, List.setIfInBounds_toArray, List.set_cons_zero, List.set_cons_succ]
  refine wpAnyH_take (i := 21) (oi := ⟨some 26, _, _, _, _, _⟩) (v := undef) rfl (by kernel_rfl) (by kernel_rfl) (by kernel_rfl) (fun _ _ _ h => h) (Or.inr ⟨by rfl, rfl⟩) (by assumption) ?_
  try simp only [Act.put, List.setIfInBounds_toArray, List.set_cons_zero, List.set_cons_succ]
  refine wpAnyH_take (i := 22) (oi := ⟨some 27, _, _, _, _, _⟩) (v := .bool false) rfl (by kernel_rfl) (by kernel_rfl) (by kernel_rfl) (fun _ _ _ h => h) (Or.inl ⟨by rfl, (fun w' hS => by (try dsimp only at hS); go_simp)⟩) (by assumption) ?_
  try simp only [Act.put, List.setIfInBounds_toArray, List.set_cons_zero, List.set_cons_succ]
  refine wpAnyH_take (i := 23) (oi := ⟨some 4, _, _, _, _, _⟩) (v := .bool false) rfl (by kernel_rfl) (by kernel_rfl) (by kernel_rfl) (fun _ _ _ h => h) (Or.inl ⟨by rfl, (fun w' hS => by (try dsimp only at hS); go_simp)⟩) (by assumption) ?_
  try simp only [Act.put, List.setIfInBounds_toArray, List.set_cons_zero, List.set_cons_succ]
  refine wpAnyH_done (by kernel_rfl) ?_ _
  clear hHeld1
  go_wp2_with fail
  go_ret
  exact ⟨La.retB rfl, B1.out⟩

theorem known_any (A B C : Option Addr) (ca cb cc : Nat) (ns : List NodeD) (ps : List PodD) (os : List OwnD) (x : PodD) (w : World) (h : SnapAt w A B C ca cb cc ns ps os) :
    Calls Tryz.prog 85 #[snapV A B C ca cb cc ns ps os, valP x] w fun e w' => e = .returned (.bool (knownB ns os x)) ∧ Below w.heap.size w w' := by
  obtain ⟨nm, ow, rq, lb, wh, br, wt, wtm, ap, apm, on, al, cl, aw, cw, ab, cb', awt, cwt, aap, cap'⟩ := x
  have kn : ∀ name : List UInt8, ∀ w', Below w.heap.size w w' → Calls Tryz.prog 108 #[snapV A B C ca cb cc ns ps os, strV name] w' fun e w'' => e = .returned (.int .i64 (idxF name (ns.map (·.name)))) ∧ Below w'.heap.size w' w'' := fun name w' hb =>
    findN A B C ca cb cc _ _ _ ns name w' h.ln (h.below hb).n.cells rfl
  have ko : ∀ name : List UInt8, ∀ w', Below w.heap.size w w' → Calls Tryz.prog 106 #[snapV A B C ca cb cc ns ps os, strV name] w' fun e w'' => e = .returned (.int .i64 (idxF name (os.map (·.name)))) ∧ Below w'.heap.size w' w'' := fun name w' hb =>
    findO A B C ca cb cc _ _ _ os name w' h.lo (h.below hb).o rfl
  have kt : ∀ name : List UInt8, ∀ w', Below w.heap.size w w' → Calls Tryz.prog 107 #[snapV A B C ca cb cc ns ps os, .int .i64 (idxF name (ns.map (·.name)))] w' fun e w'' => e = .returned (.bool (tpB ns (idxF name (ns.map (·.name))))) ∧ Below w'.heap.size w' w'' := fun name w' hb => by
    have hr := idx_range name (ns.map (·.name))
    rw [List.length_map] at hr
    have := h.ln
    exact takes_any A B C ca cb cc _ _ ns _ w' h.ln (by omega) (by omega) (h.below hb).n.cells
  cases ow with
  | nil =>
    cases on with
    | nil => exact known_ee A B C ca cb cc ns ps os w nm rq lb wh br wt wtm ap apm al cl aw cw ab cb' awt cwt aap cap'
    | cons b0 u0 =>
      have k := known_en A B C ca cb cc ns ps os w nm rq lb wh br wt wtm ap apm al cl aw cw ab cb' awt cwt aap cap' b0 u0 _ _ (kn (b0 :: u0)) (kt (b0 :: u0))
      simpa [knownB] using k
  | cons c0 v0 =>
    by_cases hi : idxF (c0 :: v0) (os.map (·.name)) = -1
    · have k := known_nf A B C ca cb cc ns ps os w nm on rq lb wh br wt wtm ap apm al cl aw cw ab cb' awt cwt aap cap' c0 v0 _ (ko (c0 :: v0)) hi
      simpa [knownB, hi] using k
    · have hj : (idxF (c0 :: v0) (os.map (·.name)) == -1) = false := by simpa using hi
      cases on with
      | nil =>
        have k := known_ne A B C ca cb cc ns ps os w nm rq lb wh br wt wtm ap apm al cl aw cw ab cb' awt cwt aap cap' c0 v0 _ (ko (c0 :: v0)) hi
        simpa [knownB, hj] using k
      | cons b0 u0 =>
        have k := known_nn A B C ca cb cc ns ps os w nm rq lb wh br wt wtm ap apm al cl aw cw ab cb' awt cwt aap cap' c0 v0 _ b0 u0 (ko (c0 :: v0)) hi _ _ (kn (b0 :: u0)) (kt (b0 :: u0))
        simpa [knownB, hj] using k
end Go.Proofs.YtfnigiiocapceaaGreat
