/- The clause of a kind about a subject: by. Contracts: where the rule has no function for such, and where it has. Condition: what the function answers. The program's rule for ClauseWhere: notWhere. A contract. Condition: the cluster and the numbers lie in memory, the placement may be, the pod does not wait. The program's rule for ClauseTaint: notBorne. A contract. Condition: the cluster and the numbers lie in memory, the placement may be, the pod does not wait. The pods near a pod that are of terms, by the program's words: near. A contract. Condition: the cluster and the numbers lie in memory, the placement may be, the pod does not wait. The program's rules for ClauseWith and ClauseApart: alone and notApart. Contracts. Condition: the cluster and the numbers lie in memory, the placement may be, the pod does not wait. The program's rule for ClauseSpread: overSkew. A contract. Condition: the cluster and the numbers lie in memory, the owner is there. The program's rule for ClauseDouble: double. A contract. Condition: the cluster and the numbers lie in memory, the placement may be, the pod does not wait. The clause of a kind about a subject, whichever they are: by. A contract. Condition: the cluster and the numbers lie in memory, the placement may be, the subject is one of it. The clauses that are asked for, by the program's words: look. A contract. Condition: the cluster and the numbers lie in memory; what it is handed answers of each clause. The clauses that are asked for, by the program's words: look. Contracts. Condition: the cluster and the numbers lie in memory; what it is handed answers of each clause. -/
import Derived.Test.YtiiheajieegdkaaGreatA06
import Derived.StillTailTactics
import Derived.Handy
import Derived.Deep.RegionHeld3
import Derived.Test.YtiiheajieegdkaaGreatShelf
import Derived.Lib.Slices

namespace Go.Proofs.YtiiheajieegdkaaGreat
open Go.RowKit

set_option maxRecDepth 100000 in
set_option maxHeartbeats 4000000 in
theorem byNode_no (A B C P : Option Addr) (ca cb cc cp : Nat) (ns : List NodeD) (ps : List PodD) (os : List OwnD) (p : List Int) (f1 f2 : Value) (n q : Nat) (w : World) :
    Calls Tryz.prog 143 #[.agg #[.nilFunc, f1, f2], viewV A B C P ca cb cc cp ns ps os p, .iface 224 (.agg #[.int .i64 (n : Int), .int .i64 (q : Int)])] w fun e w' => e = .returned (.tuple #[.int .i64 0, .bool false]) ∧ Below w.heap.size w w' := by
  have B0 : Hid (Below w.heap.size w ((w.alloc (.cells #[.nilFunc, f1, f2] 182)).alloc (.cells (viewC A B C P ca cb cc cp ns ps os p) 170))) := Lib.hid (Qu.below2 w _ _)
  have S0 : Hid (Blk ((w.alloc (.cells #[.nilFunc, f1, f2] 182)).alloc (.cells (viewC A B C P ca cb cc cp ns ps os p) 170)) w.heap.size #[.nilFunc, f1, f2] 182) := Lib.hid (Blk.alloc (Blk.new w _ _) _)
  have S1 : Hid (Blk ((w.alloc (.cells #[.nilFunc, f1, f2] 182)).alloc (.cells (viewC A B C P ca cb cc cp ns ps os p) 170)) (w.heap.size + 1) (viewC A B C P ca cb cc cp ns ps os p) 170) := Lib.hid (blk2 w _ _ _)
  have hafN : ∀ w : World, (Instr.typeAssert (.iface 224 (.agg #[.int .i64 (n : Int), .int .i64 (q : Int)])) 176 224 true).run Tryz.prog w = .ok (.tuple #[.agg #[.int .i64 (n : Int), .int .i64 (q : Int)], .bool true]) w := fun w => by kernel_rfl
  have hbn : ∀ w : World, (binOp .neq 179 .nilFunc .nilFunc).run Tryz.prog w = .ok (.bool false) w := fun w => by kernel_rfl
  go_enter Tryz.func143, Tryz.ntmps143
  obtain ⟨W, hW⟩ : ∃ W, ((w.alloc (.cells #[.nilFunc, f1, f2] 182)).alloc (.cells (viewC A B C P ca cb cc cp ns ps os p) 170)) = W := ⟨_, rfl⟩
  rw [hW] at B0 S0 S1
  go_upto_region 1 with fail
  try rw [show ((w.alloc (.cells #[.nilFunc, f1, f2] 182)).alloc (.cells #[.slice A ns.length ca, .slice B ps.length cb, .slice C os.length cc, .slice P p.length cp] 170)) = W from hW]
  clear hW
  have B1 : Hid (Below w.heap.size w (W.alloc (.cells #[.int .i64 (n : Int), .int .i64 (q : Int)] 224))) := Lib.hid (B0.out.alloc B0.out.size _)
  have S2 : Hid (Blk (W.alloc (.cells #[.int .i64 (n : Int), .int .i64 (q : Int)] 224)) w.heap.size #[.nilFunc, f1, f2] 182) := Lib.hid (Blk.alloc S0.out _)
  have S3 : Hid (Blk (W.alloc (.cells #[.int .i64 (n : Int), .int .i64 (q : Int)] 224)) (w.heap.size + 1) (viewC A B C P ca cb cc cp ns ps os p) 170) := Lib.hid (Blk.alloc S1.out _)
  have S4 : Hid (Blk (W.alloc (.cells #[.int .i64 (n : Int), .int .i64 (q : Int)] 224)) W.heap.size #[.int .i64 (n : Int), .int .i64 (q : Int)] 224) := Lib.hid (Blk.new W _ _)
  clear B0 S0 S1
  go_upto_region 4 with fail
  try change Code.wp _ _ _ _ (W.alloc (.cells #[.int .i64 (n : Int), .int .i64 (q : Int)] 224))
  generalize (W.alloc (.cells #[.int .i64 (n : Int), .int .i64 (q : Int)] 224)) = V at B1 S2 S3 S4 ⊢
  generalize W.heap.size = Nb at S4 ⊢
  have r0 : V.cell? ⟨w.heap.size, 0, none⟩ = some (.nilFunc) := Blk.cell S2.out 0
  have z0 : V.cell? ⟨w.heap.size + 1, 0, none⟩ = some (.slice A ns.length ca) := Blk.cell S3.out 0
  have z1 : V.cell? ⟨w.heap.size + 1, 1, none⟩ = some (.slice B ps.length cb) := Blk.cell S3.out 1
  have z2 : V.cell? ⟨w.heap.size + 1, 2, none⟩ = some (.slice C os.length cc) := Blk.cell S3.out 2
  have z3 : V.cell? ⟨w.heap.size + 1, 3, none⟩ = some (.slice P p.length cp) := Blk.cell S3.out 3
  have k0 : V.cell? ⟨Nb, 0, none⟩ = some (.int .i64 (n : Int)) := Blk.cell S4.out 0
  have k1 : V.cell? ⟨Nb, 1, none⟩ = some (.int .i64 (q : Int)) := Blk.cell S4.out 1
  go_wp2
  go_ret2
  exact ⟨rfl, B1.out⟩

set_option maxRecDepth 100000 in
set_option maxHeartbeats 4000000 in
theorem byNode_any (A B C P : Option Addr) (ca cb cc cp : Nat) (ns : List NodeD) (ps : List PodD) (os : List OwnD) (p : List Int) (f1 f2 : Value) (n q : Nat) (g : FuncId) (hg : ∀ (args : Array Value) (w : World), (callFunc g args).run Tryz.prog w = .ok (.enter g args) w) (b : Int) (is : Bool) (w : World) (hcl : ∀ w', Below w.heap.size w w' → Calls Tryz.prog g #[viewV A B C P ca cb cc cp ns ps os p, .int .i64 (n : Int), .int .i64 (q : Int)] w' fun e w'' => e = .returned (.tuple #[.int .i64 b, .bool is]) ∧ Below w'.heap.size w' w'') :
    Calls Tryz.prog 143 #[.agg #[.func (Fn.func g) #[] #[], f1, f2], viewV A B C P ca cb cc cp ns ps os p, .iface 224 (.agg #[.int .i64 (n : Int), .int .i64 (q : Int)])] w fun e w' => e = .returned (.tuple #[.int .i64 b, .bool is]) ∧ Below w.heap.size w w' := by
  have B0 : Hid (Below w.heap.size w ((w.alloc (.cells #[.func (Fn.func g) #[] #[], f1, f2] 182)).alloc (.cells (viewC A B C P ca cb cc cp ns ps os p) 170))) := Lib.hid (Qu.below2 w _ _)
  have S0 : Hid (Blk ((w.alloc (.cells #[.func (Fn.func g) #[] #[], f1, f2] 182)).alloc (.cells (viewC A B C P ca cb cc cp ns ps os p) 170)) w.heap.size #[.func (Fn.func g) #[] #[], f1, f2] 182) := Lib.hid (Blk.alloc (Blk.new w _ _) _)
  have S1 : Hid (Blk ((w.alloc (.cells #[.func (Fn.func g) #[] #[], f1, f2] 182)).alloc (.cells (viewC A B C P ca cb cc cp ns ps os p) 170)) (w.heap.size + 1) (viewC A B C P ca cb cc cp ns ps os p) 170) := Lib.hid (blk2 w _ _ _)
  have HCL := Lib.hid hcl
  clear hcl
  have hafN : ∀ w : World, (Instr.typeAssert (.iface 224 (.agg #[.int .i64 (n : Int), .int .i64 (q : Int)])) 176 224 true).run Tryz.prog w = .ok (.tuple #[.agg #[.int .i64 (n : Int), .int .i64 (q : Int)], .bool true]) w := fun w => by kernel_rfl
  have hbn : ∀ w : World, (binOp .neq 179 (.func (Fn.func g) #[] #[]) .nilFunc).run Tryz.prog w = .ok (.bool true) w := fun w => by kernel_rfl
  go_enter Tryz.func143, Tryz.ntmps143
  obtain ⟨W, hW⟩ : ∃ W, ((w.alloc (.cells #[.func (Fn.func g) #[] #[], f1, f2] 182)).alloc (.cells (viewC A B C P ca cb cc cp ns ps os p) 170)) = W := ⟨_, rfl⟩
  rw [hW] at B0 S0 S1
  go_upto_region 1 with fail
  try rw [show ((w.alloc (.cells #[.func (Fn.func g) #[] #[], f1, f2] 182)).alloc (.cells #[.slice A ns.length ca, .slice B ps.length cb, .slice C os.length cc, .slice P p.length cp] 170)) = W from hW]
  clear hW
  have B1 : Hid (Below w.heap.size w (W.alloc (.cells #[.int .i64 (n : Int), .int .i64 (q : Int)] 224))) := Lib.hid (B0.out.alloc B0.out.size _)
  have S2 : Hid (Blk (W.alloc (.cells #[.int .i64 (n : Int), .int .i64 (q : Int)] 224)) w.heap.size #[.func (Fn.func g) #[] #[], f1, f2] 182) := Lib.hid (Blk.alloc S0.out _)
  have S3 : Hid (Blk (W.alloc (.cells #[.int .i64 (n : Int), .int .i64 (q : Int)] 224)) (w.heap.size + 1) (viewC A B C P ca cb cc cp ns ps os p) 170) := Lib.hid (Blk.alloc S1.out _)
  have S4 : Hid (Blk (W.alloc (.cells #[.int .i64 (n : Int), .int .i64 (q : Int)] 224)) W.heap.size #[.int .i64 (n : Int), .int .i64 (q : Int)] 224) := Lib.hid (Blk.new W _ _)
  clear B0 S0 S1
  go_upto_region 4 with fail
  try change Code.wp _ _ _ _ (W.alloc (.cells #[.int .i64 (n : Int), .int .i64 (q : Int)] 224))
  generalize (W.alloc (.cells #[.int .i64 (n : Int), .int .i64 (q : Int)] 224)) = V at B1 S2 S3 S4 ⊢
  generalize W.heap.size = Nb at S4 ⊢
  have r0 : V.cell? ⟨w.heap.size, 0, none⟩ = some (.func (Fn.func g) #[] #[]) := Blk.cell S2.out 0
  have z0 : V.cell? ⟨w.heap.size + 1, 0, none⟩ = some (.slice A ns.length ca) := Blk.cell S3.out 0
  have z1 : V.cell? ⟨w.heap.size + 1, 1, none⟩ = some (.slice B ps.length cb) := Blk.cell S3.out 1
  have z2 : V.cell? ⟨w.heap.size + 1, 2, none⟩ = some (.slice C os.length cc) := Blk.cell S3.out 2
  have z3 : V.cell? ⟨w.heap.size + 1, 3, none⟩ = some (.slice P p.length cp) := Blk.cell S3.out 3
  have k0 : V.cell? ⟨Nb, 0, none⟩ = some (.int .i64 (n : Int)) := Blk.cell S4.out 0
  have k1 : V.cell? ⟨Nb, 1, none⟩ = some (.int .i64 (q : Int)) := Blk.cell S4.out 1
  go_wp2_with fail
  refine (HCL.out _ B1.out).mono ?_
  rintro e w2 ⟨rfl, hb2⟩
  have B2 := Lib.hid (B1.out.trans (hb2.mono B1.out.size))
  clear hb2
  go_wp2
  go_ret2
  exact ⟨rfl, B2.out⟩

set_option maxRecDepth 100000 in
set_option maxHeartbeats 4000000 in
theorem byPod_no (A B C P : Option Addr) (ca cb cc cp : Nat) (ns : List NodeD) (ps : List PodD) (os : List OwnD) (p : List Int) (f0 f2 : Value) (i : Nat) (w : World) :
    Calls Tryz.prog 143 #[.agg #[f0, .nilFunc, f2], viewV A B C P ca cb cc cp ns ps os p, .iface 226 (.agg #[.int .i64 (i : Int)])] w fun e w' => e = .returned (.tuple #[.int .i64 0, .bool false]) ∧ Below w.heap.size w w' := by
  have B0 : Hid (Below w.heap.size w ((w.alloc (.cells #[f0, .nilFunc, f2] 182)).alloc (.cells (viewC A B C P ca cb cc cp ns ps os p) 170))) := Lib.hid (Qu.below2 w _ _)
  have S0 : Hid (Blk ((w.alloc (.cells #[f0, .nilFunc, f2] 182)).alloc (.cells (viewC A B C P ca cb cc cp ns ps os p) 170)) w.heap.size #[f0, .nilFunc, f2] 182) := Lib.hid (Blk.alloc (Blk.new w _ _) _)
  have S1 : Hid (Blk ((w.alloc (.cells #[f0, .nilFunc, f2] 182)).alloc (.cells (viewC A B C P ca cb cc cp ns ps os p) 170)) (w.heap.size + 1) (viewC A B C P ca cb cc cp ns ps os p) 170) := Lib.hid (blk2 w _ _ _)
  have hafN : ∀ w : World, (Instr.typeAssert (.iface 226 (.agg #[.int .i64 (i : Int)])) 176 224 true).run Tryz.prog w = .ok (.tuple #[.agg #[.int .i64 0, .int .i64 0], .bool false]) w := fun w => by kernel_rfl
  have hafP : ∀ w : World, (Instr.typeAssert (.iface 226 (.agg #[.int .i64 (i : Int)])) 176 226 true).run Tryz.prog w = .ok (.tuple #[.agg #[.int .i64 (i : Int)], .bool true]) w := fun w => by kernel_rfl
  have hbn : ∀ w : World, (binOp .neq 180 .nilFunc .nilFunc).run Tryz.prog w = .ok (.bool false) w := fun w => by kernel_rfl
  go_enter Tryz.func143, Tryz.ntmps143
  obtain ⟨W, hW⟩ : ∃ W, ((w.alloc (.cells #[f0, .nilFunc, f2] 182)).alloc (.cells (viewC A B C P ca cb cc cp ns ps os p) 170)) = W := ⟨_, rfl⟩
  rw [hW] at B0 S0 S1
  go_upto_region 1 with fail
  try rw [show ((w.alloc (.cells #[f0, .nilFunc, f2] 182)).alloc (.cells #[.slice A ns.length ca, .slice B ps.length cb, .slice C os.length cc, .slice P p.length cp] 170)) = W from hW]
  clear hW
  have B1 : Hid (Below w.heap.size w (W.alloc (.cells #[.int .i64 (i : Int)] 226))) := Lib.hid (B0.out.alloc B0.out.size _)
  have S2 : Hid (Blk (W.alloc (.cells #[.int .i64 (i : Int)] 226)) w.heap.size #[f0, .nilFunc, f2] 182) := Lib.hid (Blk.alloc S0.out _)
  have S3 : Hid (Blk (W.alloc (.cells #[.int .i64 (i : Int)] 226)) (w.heap.size + 1) (viewC A B C P ca cb cc cp ns ps os p) 170) := Lib.hid (Blk.alloc S1.out _)
  have S4 : Hid (Blk (W.alloc (.cells #[.int .i64 (i : Int)] 226)) W.heap.size #[.int .i64 (i : Int)] 226) := Lib.hid (Blk.new W _ _)
  clear B0 S0 S1
  go_upto_region 8 with fail
  try change Code.wp _ _ _ _ (W.alloc (.cells #[.int .i64 (i : Int)] 226))
  generalize (W.alloc (.cells #[.int .i64 (i : Int)] 226)) = V at B1 S2 S3 S4 ⊢
  generalize W.heap.size = Nb at S4 ⊢
  have r1 : V.cell? ⟨w.heap.size, 1, none⟩ = some (.nilFunc) := Blk.cell S2.out 1
  have z0 : V.cell? ⟨w.heap.size + 1, 0, none⟩ = some (.slice A ns.length ca) := Blk.cell S3.out 0
  have z1 : V.cell? ⟨w.heap.size + 1, 1, none⟩ = some (.slice B ps.length cb) := Blk.cell S3.out 1
  have z2 : V.cell? ⟨w.heap.size + 1, 2, none⟩ = some (.slice C os.length cc) := Blk.cell S3.out 2
  have z3 : V.cell? ⟨w.heap.size + 1, 3, none⟩ = some (.slice P p.length cp) := Blk.cell S3.out 3
  have k0 : V.cell? ⟨Nb, 0, none⟩ = some (.int .i64 (i : Int)) := Blk.cell S4.out 0
  go_wp2
  go_ret2
  exact ⟨rfl, B1.out⟩

set_option maxRecDepth 100000 in
set_option maxHeartbeats 4000000 in
theorem byPod_any (A B C P : Option Addr) (ca cb cc cp : Nat) (ns : List NodeD) (ps : List PodD) (os : List OwnD) (p : List Int) (f0 f2 : Value) (i : Nat) (g : FuncId) (hg : ∀ (args : Array Value) (w : World), (callFunc g args).run Tryz.prog w = .ok (.enter g args) w) (b : Int) (is : Bool) (w : World) (hcl : ∀ w', Below w.heap.size w w' → Calls Tryz.prog g #[viewV A B C P ca cb cc cp ns ps os p, .int .i64 (i : Int)] w' fun e w'' => e = .returned (.tuple #[.int .i64 b, .bool is]) ∧ Below w'.heap.size w' w'') :
    Calls Tryz.prog 143 #[.agg #[f0, .func (Fn.func g) #[] #[], f2], viewV A B C P ca cb cc cp ns ps os p, .iface 226 (.agg #[.int .i64 (i : Int)])] w fun e w' => e = .returned (.tuple #[.int .i64 b, .bool is]) ∧ Below w.heap.size w w' := by
  have B0 : Hid (Below w.heap.size w ((w.alloc (.cells #[f0, .func (Fn.func g) #[] #[], f2] 182)).alloc (.cells (viewC A B C P ca cb cc cp ns ps os p) 170))) := Lib.hid (Qu.below2 w _ _)
  have S0 : Hid (Blk ((w.alloc (.cells #[f0, .func (Fn.func g) #[] #[], f2] 182)).alloc (.cells (viewC A B C P ca cb cc cp ns ps os p) 170)) w.heap.size #[f0, .func (Fn.func g) #[] #[], f2] 182) := Lib.hid (Blk.alloc (Blk.new w _ _) _)
  have S1 : Hid (Blk ((w.alloc (.cells #[f0, .func (Fn.func g) #[] #[], f2] 182)).alloc (.cells (viewC A B C P ca cb cc cp ns ps os p) 170)) (w.heap.size + 1) (viewC A B C P ca cb cc cp ns ps os p) 170) := Lib.hid (blk2 w _ _ _)
  have HCL := Lib.hid hcl
  clear hcl
  have hafN : ∀ w : World, (Instr.typeAssert (.iface 226 (.agg #[.int .i64 (i : Int)])) 176 224 true).run Tryz.prog w = .ok (.tuple #[.agg #[.int .i64 0, .int .i64 0], .bool false]) w := fun w => by kernel_rfl
  have hafP : ∀ w : World, (Instr.typeAssert (.iface 226 (.agg #[.int .i64 (i : Int)])) 176 226 true).run Tryz.prog w = .ok (.tuple #[.agg #[.int .i64 (i : Int)], .bool true]) w := fun w => by kernel_rfl
  have hbn : ∀ w : World, (binOp .neq 180 (.func (Fn.func g) #[] #[]) .nilFunc).run Tryz.prog w = .ok (.bool true) w := fun w => by kernel_rfl
  go_enter Tryz.func143, Tryz.ntmps143
  obtain ⟨W, hW⟩ : ∃ W, ((w.alloc (.cells #[f0, .func (Fn.func g) #[] #[], f2] 182)).alloc (.cells (viewC A B C P ca cb cc cp ns ps os p) 170)) = W := ⟨_, rfl⟩
  rw [hW] at B0 S0 S1
  go_upto_region 1 with fail
  try rw [show ((w.alloc (.cells #[f0, .func (Fn.func g) #[] #[], f2] 182)).alloc (.cells #[.slice A ns.length ca, .slice B ps.length cb, .slice C os.length cc, .slice P p.length cp] 170)) = W from hW]
  clear hW
  have B1 : Hid (Below w.heap.size w (W.alloc (.cells #[.int .i64 (i : Int)] 226))) := Lib.hid (B0.out.alloc B0.out.size _)
  have S2 : Hid (Blk (W.alloc (.cells #[.int .i64 (i : Int)] 226)) w.heap.size #[f0, .func (Fn.func g) #[] #[], f2] 182) := Lib.hid (Blk.alloc S0.out _)
  have S3 : Hid (Blk (W.alloc (.cells #[.int .i64 (i : Int)] 226)) (w.heap.size + 1) (viewC A B C P ca cb cc cp ns ps os p) 170) := Lib.hid (Blk.alloc S1.out _)
  have S4 : Hid (Blk (W.alloc (.cells #[.int .i64 (i : Int)] 226)) W.heap.size #[.int .i64 (i : Int)] 226) := Lib.hid (Blk.new W _ _)
  clear B0 S0 S1
  go_upto_region 8 with fail
  try change Code.wp _ _ _ _ (W.alloc (.cells #[.int .i64 (i : Int)] 226))
  generalize (W.alloc (.cells #[.int .i64 (i : Int)] 226)) = V at B1 S2 S3 S4 ⊢
  generalize W.heap.size = Nb at S4 ⊢
  have r1 : V.cell? ⟨w.heap.size, 1, none⟩ = some (.func (Fn.func g) #[] #[]) := Blk.cell S2.out 1
  have z0 : V.cell? ⟨w.heap.size + 1, 0, none⟩ = some (.slice A ns.length ca) := Blk.cell S3.out 0
  have z1 : V.cell? ⟨w.heap.size + 1, 1, none⟩ = some (.slice B ps.length cb) := Blk.cell S3.out 1
  have z2 : V.cell? ⟨w.heap.size + 1, 2, none⟩ = some (.slice C os.length cc) := Blk.cell S3.out 2
  have z3 : V.cell? ⟨w.heap.size + 1, 3, none⟩ = some (.slice P p.length cp) := Blk.cell S3.out 3
  have k0 : V.cell? ⟨Nb, 0, none⟩ = some (.int .i64 (i : Int)) := Blk.cell S4.out 0
  go_wp2_with fail
  refine (HCL.out _ B1.out).mono ?_
  rintro e w2 ⟨rfl, hb2⟩
  have B2 := Lib.hid (B1.out.trans (hb2.mono B1.out.size))
  clear hb2
  go_wp2
  go_ret2
  exact ⟨rfl, B2.out⟩

set_option maxRecDepth 100000 in
set_option maxHeartbeats 4000000 in
theorem byOwner_no (A B C P : Option Addr) (ca cb cc cp : Nat) (ns : List NodeD) (ps : List PodD) (os : List OwnD) (p : List Int) (f0 f1 : Value) (o : Nat) (w : World) :
    Calls Tryz.prog 143 #[.agg #[f0, f1, .nilFunc], viewV A B C P ca cb cc cp ns ps os p, .iface 228 (.agg #[.int .i64 (o : Int)])] w fun e w' => e = .returned (.tuple #[.int .i64 0, .bool false]) ∧ Below w.heap.size w w' := by
  have B0 : Hid (Below w.heap.size w ((w.alloc (.cells #[f0, f1, .nilFunc] 182)).alloc (.cells (viewC A B C P ca cb cc cp ns ps os p) 170))) := Lib.hid (Qu.below2 w _ _)
  have S0 : Hid (Blk ((w.alloc (.cells #[f0, f1, .nilFunc] 182)).alloc (.cells (viewC A B C P ca cb cc cp ns ps os p) 170)) w.heap.size #[f0, f1, .nilFunc] 182) := Lib.hid (Blk.alloc (Blk.new w _ _) _)
  have S1 : Hid (Blk ((w.alloc (.cells #[f0, f1, .nilFunc] 182)).alloc (.cells (viewC A B C P ca cb cc cp ns ps os p) 170)) (w.heap.size + 1) (viewC A B C P ca cb cc cp ns ps os p) 170) := Lib.hid (blk2 w _ _ _)
  have hafN : ∀ w : World, (Instr.typeAssert (.iface 228 (.agg #[.int .i64 (o : Int)])) 176 224 true).run Tryz.prog w = .ok (.tuple #[.agg #[.int .i64 0, .int .i64 0], .bool false]) w := fun w => by kernel_rfl
  have hafP : ∀ w : World, (Instr.typeAssert (.iface 228 (.agg #[.int .i64 (o : Int)])) 176 226 true).run Tryz.prog w = .ok (.tuple #[.agg #[.int .i64 0], .bool false]) w := fun w => by kernel_rfl
  have hafO : ∀ w : World, (Instr.typeAssert (.iface 228 (.agg #[.int .i64 (o : Int)])) 176 228 true).run Tryz.prog w = .ok (.tuple #[.agg #[.int .i64 (o : Int)], .bool true]) w := fun w => by kernel_rfl
  have hbn : ∀ w : World, (binOp .neq 180 .nilFunc .nilFunc).run Tryz.prog w = .ok (.bool false) w := fun w => by kernel_rfl
  go_enter Tryz.func143, Tryz.ntmps143
  obtain ⟨W, hW⟩ : ∃ W, ((w.alloc (.cells #[f0, f1, .nilFunc] 182)).alloc (.cells (viewC A B C P ca cb cc cp ns ps os p) 170)) = W := ⟨_, rfl⟩
  rw [hW] at B0 S0 S1
  go_upto_region 1 with fail
  try rw [show ((w.alloc (.cells #[f0, f1, .nilFunc] 182)).alloc (.cells #[.slice A ns.length ca, .slice B ps.length cb, .slice C os.length cc, .slice P p.length cp] 170)) = W from hW]
  clear hW
  have B1 : Hid (Below w.heap.size w (W.alloc (.cells #[.int .i64 (o : Int)] 228))) := Lib.hid (B0.out.alloc B0.out.size _)
  have S2 : Hid (Blk (W.alloc (.cells #[.int .i64 (o : Int)] 228)) w.heap.size #[f0, f1, .nilFunc] 182) := Lib.hid (Blk.alloc S0.out _)
  have S3 : Hid (Blk (W.alloc (.cells #[.int .i64 (o : Int)] 228)) (w.heap.size + 1) (viewC A B C P ca cb cc cp ns ps os p) 170) := Lib.hid (Blk.alloc S1.out _)
  have S4 : Hid (Blk (W.alloc (.cells #[.int .i64 (o : Int)] 228)) W.heap.size #[.int .i64 (o : Int)] 228) := Lib.hid (Blk.new W _ _)
  clear B0 S0 S1
  go_upto_region 12 with fail
  try change Code.wp _ _ _ _ (W.alloc (.cells #[.int .i64 (o : Int)] 228))
  generalize (W.alloc (.cells #[.int .i64 (o : Int)] 228)) = V at B1 S2 S3 S4 ⊢
  generalize W.heap.size = Nb at S4 ⊢
  have r2 : V.cell? ⟨w.heap.size, 2, none⟩ = some (.nilFunc) := Blk.cell S2.out 2
  have z0 : V.cell? ⟨w.heap.size + 1, 0, none⟩ = some (.slice A ns.length ca) := Blk.cell S3.out 0
  have z1 : V.cell? ⟨w.heap.size + 1, 1, none⟩ = some (.slice B ps.length cb) := Blk.cell S3.out 1
  have z2 : V.cell? ⟨w.heap.size + 1, 2, none⟩ = some (.slice C os.length cc) := Blk.cell S3.out 2
  have z3 : V.cell? ⟨w.heap.size + 1, 3, none⟩ = some (.slice P p.length cp) := Blk.cell S3.out 3
  have k0 : V.cell? ⟨Nb, 0, none⟩ = some (.int .i64 (o : Int)) := Blk.cell S4.out 0
  go_wp2
  go_ret2
  exact ⟨rfl, B1.out⟩

set_option maxRecDepth 100000 in
set_option maxHeartbeats 4000000 in
theorem byOwner_any (A B C P : Option Addr) (ca cb cc cp : Nat) (ns : List NodeD) (ps : List PodD) (os : List OwnD) (p : List Int) (f0 f1 : Value) (o : Nat) (g : FuncId) (hg : ∀ (args : Array Value) (w : World), (callFunc g args).run Tryz.prog w = .ok (.enter g args) w) (b : Int) (is : Bool) (w : World) (hcl : ∀ w', Below w.heap.size w w' → Calls Tryz.prog g #[viewV A B C P ca cb cc cp ns ps os p, .int .i64 (o : Int)] w' fun e w'' => e = .returned (.tuple #[.int .i64 b, .bool is]) ∧ Below w'.heap.size w' w'') :
    Calls Tryz.prog 143 #[.agg #[f0, f1, .func (Fn.func g) #[] #[]], viewV A B C P ca cb cc cp ns ps os p, .iface 228 (.agg #[.int .i64 (o : Int)])] w fun e w' => e = .returned (.tuple #[.int .i64 b, .bool is]) ∧ Below w.heap.size w w' := by
  have B0 : Hid (Below w.heap.size w ((w.alloc (.cells #[f0, f1, .func (Fn.func g) #[] #[]] 182)).alloc (.cells (viewC A B C P ca cb cc cp ns ps os p) 170))) := Lib.hid (Qu.below2 w _ _)
  have S0 : Hid (Blk ((w.alloc (.cells #[f0, f1, .func (Fn.func g) #[] #[]] 182)).alloc (.cells (viewC A B C P ca cb cc cp ns ps os p) 170)) w.heap.size #[f0, f1, .func (Fn.func g) #[] #[]] 182) := Lib.hid (Blk.alloc (Blk.new w _ _) _)
  have S1 : Hid (Blk ((w.alloc (.cells #[f0, f1, .func (Fn.func g) #[] #[]] 182)).alloc (.cells (viewC A B C P ca cb cc cp ns ps os p) 170)) (w.heap.size + 1) (viewC A B C P ca cb cc cp ns ps os p) 170) := Lib.hid (blk2 w _ _ _)
  have HCL := Lib.hid hcl
  clear hcl
  have hafN : ∀ w : World, (Instr.typeAssert (.iface 228 (.agg #[.int .i64 (o : Int)])) 176 224 true).run Tryz.prog w = .ok (.tuple #[.agg #[.int .i64 0, .int .i64 0], .bool false]) w := fun w => by kernel_rfl
  have hafP : ∀ w : World, (Instr.typeAssert (.iface 228 (.agg #[.int .i64 (o : Int)])) 176 226 true).run Tryz.prog w = .ok (.tuple #[.agg #[.int .i64 0], .bool false]) w := fun w => by kernel_rfl
  have hafO : ∀ w : World, (Instr.typeAssert (.iface 228 (.agg #[.int .i64 (o : Int)])) 176 228 true).run Tryz.prog w = .ok (.tuple #[.agg #[.int .i64 (o : Int)], .bool true]) w := fun w => by kernel_rfl
  have hbn : ∀ w : World, (binOp .neq 180 (.func (Fn.func g) #[] #[]) .nilFunc).run Tryz.prog w = .ok (.bool true) w := fun w => by kernel_rfl
  go_enter Tryz.func143, Tryz.ntmps143
  obtain ⟨W, hW⟩ : ∃ W, ((w.alloc (.cells #[f0, f1, .func (Fn.func g) #[] #[]] 182)).alloc (.cells (viewC A B C P ca cb cc cp ns ps os p) 170)) = W := ⟨_, rfl⟩
  rw [hW] at B0 S0 S1
  go_upto_region 1 with fail
  try rw [show ((w.alloc (.cells #[f0, f1, .func (Fn.func g) #[] #[]] 182)).alloc (.cells #[.slice A ns.length ca, .slice B ps.length cb, .slice C os.length cc, .slice P p.length cp] 170)) = W from hW]
  clear hW
  have B1 : Hid (Below w.heap.size w (W.alloc (.cells #[.int .i64 (o : Int)] 228))) := Lib.hid (B0.out.alloc B0.out.size _)
  have S2 : Hid (Blk (W.alloc (.cells #[.int .i64 (o : Int)] 228)) w.heap.size #[f0, f1, .func (Fn.func g) #[] #[]] 182) := Lib.hid (Blk.alloc S0.out _)
  have S3 : Hid (Blk (W.alloc (.cells #[.int .i64 (o : Int)] 228)) (w.heap.size + 1) (viewC A B C P ca cb cc cp ns ps os p) 170) := Lib.hid (Blk.alloc S1.out _)
  have S4 : Hid (Blk (W.alloc (.cells #[.int .i64 (o : Int)] 228)) W.heap.size #[.int .i64 (o : Int)] 228) := Lib.hid (Blk.new W _ _)
  clear B0 S0 S1
  go_upto_region 12 with fail
  try change Code.wp _ _ _ _ (W.alloc (.cells #[.int .i64 (o : Int)] 228))
  generalize (W.alloc (.cells #[.int .i64 (o : Int)] 228)) = V at B1 S2 S3 S4 ⊢
  generalize W.heap.size = Nb at S4 ⊢
  have r2 : V.cell? ⟨w.heap.size, 2, none⟩ = some (.func (Fn.func g) #[] #[]) := Blk.cell S2.out 2
  have z0 : V.cell? ⟨w.heap.size + 1, 0, none⟩ = some (.slice A ns.length ca) := Blk.cell S3.out 0
  have z1 : V.cell? ⟨w.heap.size + 1, 1, none⟩ = some (.slice B ps.length cb) := Blk.cell S3.out 1
  have z2 : V.cell? ⟨w.heap.size + 1, 2, none⟩ = some (.slice C os.length cc) := Blk.cell S3.out 2
  have z3 : V.cell? ⟨w.heap.size + 1, 3, none⟩ = some (.slice P p.length cp) := Blk.cell S3.out 3
  have k0 : V.cell? ⟨Nb, 0, none⟩ = some (.int .i64 (o : Int)) := Blk.cell S4.out 0
  go_wp2_with fail
  refine (HCL.out _ B1.out).mono ?_
  rintro e w2 ⟨rfl, hb2⟩
  have B2 := Lib.hid (B1.out.trans (hb2.mono B1.out.size))
  clear hb2
  go_wp2
  go_ret2
  exact ⟨rfl, B2.out⟩

end Go.Proofs.YtiiheajieegdkaaGreat

namespace Go.Proofs.YtiiheajieegdkaaGreat
open Go.RowKit

theorem slT10 {W : World} {b : Nat} {c : TypeId} (t : T3) (hb : Blk W b #[.int .i64 t.1, strV t.2.1, strV t.2.2] c) : La.SlAt W (some ⟨b, 0, none⟩) (La.cellsT [t]) := by
  intro j v hj
  refine ⟨b, 0, rfl, ?_⟩
  rw [Nat.zero_add]
  match j, hj with
  | 0, hj => rw [← show some (.int .i64 t.1) = some v from hj]; exact Blk.cell hb 0
  | 1, hj => rw [← show some (strV t.2.1) = some v from hj]; exact Blk.cell hb 1
  | 2, hj => rw [← show some (strV t.2.2) = some v from hj]; exact Blk.cell hb 2
theorem slT1 (V : World) (t : T3) (c : TypeId) : La.SlAt (V.alloc (.cells #[.int .i64 t.1, strV t.2.1, strV t.2.2] c)).drew (some ⟨V.heap.size, 0, none⟩) (La.cellsT [t]) := slT10 t (Blk.drew (Blk.new V _ _))
theorem slT1D (V : World) (t : T3) (c : TypeId) : La.SlAt (V.drew.alloc (.cells #[.int .i64 t.1, strV t.2.1, strV t.2.2] c)) (some ⟨V.drew.heap.size, 0, none⟩) (La.cellsT [t]) := slT10 t (Blk.new V.drew _ _)
theorem slT1E (V : World) (t : T3) (c : TypeId) : La.SlAt (V.alloc (.cells #[.int .i64 t.1, strV t.2.1, strV t.2.2] c)) (some ⟨V.heap.size, 0, none⟩) (La.cellsT [t]) := slT10 t (Blk.new V _ _)

set_option maxRecDepth 100000 in
set_option maxHeartbeats 8000000 in
theorem notWhere_any (A B C P : Option Addr) (ca cb cc cp : Nat) (ns : List NodeD) (ps : List PodD) (os : List OwnD) (p : List Int) (i q : Nat) (x : PodD) (n : NodeD) (hE : placeE ns ps os p = 0) (hi : p[i]? = some (q : Int)) (hx : ps[i]? = some x) (hn : ns[q]? = some n) (w : World) (h : SnapAt w A B C ca cb cc ns ps os) (hp : IntsAt w P cp p) :
    Calls Tryz.prog 194 #[viewV A B C P ca cb cc cp ns ps os p, .int .i64 (i : Int)] w fun e w' => e = .returned (.tuple #[.int .i64 (termsO x.whr n.labels : Int), .bool true]) ∧ Below w.heap.size w w' := by
  have hxm := List.mem_of_getElem? hx
  have hnm := List.mem_of_getElem? hn
  obtain ⟨nk1, nk2, nk3⟩ := node_keys (placeE_chk hE) hnm
  obtain ⟨pk1, pk2, pk3, pk4⟩ := pod_keys (placeE_chk hE) hxm
  have B0 : Hid (Below w.heap.size w (w.alloc (.cells (viewC A B C P ca cb cc cp ns ps os p) 170))) := Lib.hid (below1 w _)
  have S0 : Hid (Blk (w.alloc (.cells (viewC A B C P ca cb cc cp ns ps os p) 170)) w.heap.size (viewC A B C P ca cb cc cp ns ps os p) 170) := Lib.hid (Blk.new w _ _)
  have i0 : (0 : Int) ≤ (i : Int) := by omega
  have i1 : (i : Int) < (p.length : Int) := by have := (List.getElem?_eq_some_iff.1 hi).1; omega
  have i2 : (i : Int) < (ps.length : Int) := by have := (List.getElem?_eq_some_iff.1 hx).1; omega
  have q1 : (0 : Int) ≤ (q : Int) := by omega
  have q2 : (q : Int) < (ns.length : Int) := by have := (List.getElem?_eq_some_iff.1 hn).1; omega
  have E : Hid (termsO x.whr n.labels = numL (fun t => !La.holdsL [t] n.labels) x.whr) := Lib.hid (termsO_holds _ _ nk1)
  obtain ⟨bp, op, hAp, _, _⟩ := atI hp.cells hi
  subst hAp
  obtain ⟨b, o, hB, _⟩ := atP h.p.cells hx
  subst hB
  obtain ⟨bn, on, hA, _⟩ := atN h.n.cells hn
  subst hA
  have HPC : Hid (∀ W', Below w.heap.size w W' → W'.cell? ⟨bp, op + i, none⟩ = some (.int .i64 (q : Int))) := Lib.hid (fun W' hb => by
    obtain ⟨b', o', hA', _, hc⟩ := atI (hp.below hb).cells hi
    cases hA'
    exact hc)
  have PC := Lib.hid (fun W' (hb : Below w.heap.size w W') => (by
    obtain ⟨b', o', hA', _, c0, c1, c2, c3, c4, c5, c6, c7, c8, c9, _⟩ := atP (h.below hb).p.cells hx
    cases hA'
    exact ⟨c8, c9⟩ : W'.cell? ⟨b, o + i * 15 + 8, none⟩ = some (.slice x.aw x.whr.length x.cw) ∧ W'.cell? ⟨b, o + i * 15 + 9, none⟩ = some (.slice x.ab x.bears.length x.cb)))
  have NC := Lib.hid (fun W' (hb : Below w.heap.size w W') => (by
    obtain ⟨b', o', hA', _, c0, c1, c2, c3, c4, c5, c6, c7, _⟩ := atN (h.below hb).n.cells hn
    cases hA'
    exact ⟨c6, c7⟩ : W'.cell? ⟨bn, on + q * 10 + 6, none⟩ = some (.slice n.al n.labels.length n.cl) ∧ W'.cell? ⟨bn, on + q * 10 + 7, none⟩ = some (.slice n.at_ n.taints.length n.ct)))
  have XF := Lib.hid (fun W' (hb : Below w.heap.size w W') => (h.below hb).p.fit x hxm)
  have NF := Lib.hid (fun W' (hb : Below w.heap.size w W') => (h.below hb).n.fit n hnm)
  have HPL := Lib.hid (placeE_len hE)
  generalize termsO x.whr n.labels = R at E ⊢
  clear h hp hE hi hx hn hxm hnm
  go_enter Tryz.func194, Tryz.ntmps194
  obtain ⟨W, hW⟩ : ∃ W, (w.alloc (.cells (viewC (some ⟨bn, on, none⟩) (some ⟨b, o, none⟩) C (some ⟨bp, op, none⟩) ca cb cc cp ns ps os p) 170)) = W := ⟨_, rfl⟩
  rw [hW] at B0 S0
  go_upto_region 1 with fail
  try rw [show (w.alloc (.cells #[.slice (some ⟨bn, on, none⟩) ns.length ca, .slice (some ⟨b, o, none⟩) ps.length cb, .slice C os.length cc, .slice (some ⟨bp, op, none⟩) p.length cp] 170)) = W from hW]
  clear hW
  have HZ := Lib.hid (fun W' (hb : Below W.heap.size W W') => (show W'.cell? ⟨w.heap.size, 0, none⟩ = some (.slice (some ⟨bn, on, none⟩) ns.length ca) ∧ W'.cell? ⟨w.heap.size, 1, none⟩ = some (.slice (some ⟨b, o, none⟩) ps.length cb) ∧ W'.cell? ⟨w.heap.size, 2, none⟩ = some (.slice C os.length cc) ∧ W'.cell? ⟨w.heap.size, 3, none⟩ = some (.slice (some ⟨bp, op, none⟩) p.length cp) from ⟨Blk.cell (S0.out.below hb S0.out.lt) 0, Blk.cell (S0.out.below hb S0.out.lt) 1, Blk.cell (S0.out.below hb S0.out.lt) 2, Blk.cell (S0.out.below hb S0.out.lt) 3⟩))
  have HT := Lib.hid (fun W' (hb : Below W.heap.size W W') => B0.out.trans (hb.mono B0.out.size))
  clear B0 S0
  obtain ⟨z0, z1, z2, z3⟩ := HZ.out _ (Below.refl _ W)
  have pk := HPC.out _ (HT.out _ (Below.refl _ W))
  obtain ⟨x8, x9⟩ := PC.out _ (HT.out _ (Below.refl _ W))
  obtain ⟨n6, n7⟩ := NC.out _ (HT.out _ (Below.refl _ W))
  go_wp2_with fail

  clear z0 z1 z2 z3 pk x8 x9 n6 n7
  go_loopw [4, 16] (fun c j wr => ∃ k : Nat, k ≤ x.whr.length ∧ j = .int .i64 (k : Int) ∧ c = .int .i64 ((numL (fun t => !La.holdsL [t] n.labels) (x.whr.take k) : Nat) : Int) ∧ Below W.heap.size W wr) (fun _ j _ => x.whr.length - (intOf j).toNat)
  case atStart => exact ⟨0, by omega, rfl, rfl, by first | exact Below.refl _ _ | exact below_drewN (Below.refl _ _) _ | exact (Below.refl _ _).drew⟩
  case round =>
    obtain ⟨k, hk, rfl, rfl, hb⟩ := hrel
    have HB := Lib.hid hb
    clear hb
    by_cases hlt : k < x.whr.length
    case neg =>
      obtain rfl : k = x.whr.length := by omega
      rw [List.take_length, ← E.out]
      go_wp2
      go_ret2
      exact ⟨rfl, HT.out _ HB.out⟩
    obtain ⟨t, ht⟩ : ∃ t, x.whr[k]? = some t := ⟨x.whr[k], List.getElem?_eq_getElem hlt⟩
    have HTt := Lib.hid ht
    have HS := Lib.hid (numL_snoc (fun t => !La.holdsL [t] n.labels) ht)
    have hnl := numL_le (fun t => !La.holdsL [t] n.labels) (x.whr.take k)
    rw [List.length_take] at hnl
    generalize numL (fun t => !La.holdsL [t] n.labels) (x.whr.take k) = m at HS hnl ⊢
    have k0 : (0 : Int) ≤ (k : Int) := by omega
    have k1 : (k : Int) < (x.whr.length : Int) := by omega
    obtain ⟨bt, ot, hAt, _, t0, t1, t2⟩ := La.SlAt.ter ((XF.out _ (HT.out _ HB.out)).wh.cells) ht
    go_upto_region 4 with fail
    have TB : Hid (Blk (wr.alloc (.cells #[.int .i64 t.1, strV t.2.1, strV t.2.2] 38)) wr.heap.size #[.int .i64 t.1, strV t.2.1, strV t.2.2] 38) := Lib.hid (Blk.new wr _ _)
    have HBV : Hid (Below W.heap.size W (wr.alloc (.cells #[.int .i64 t.1, strV t.2.1, strV t.2.2] 38))) := Lib.hid (HB.out.alloc HB.out.size _)
    try change Code.wp _ _ _ _ (wr.alloc (.cells #[.int .i64 t.1, strV t.2.1, strV t.2.2] 38))
    generalize (wr.alloc (.cells #[.int .i64 t.1, strV t.2.1, strV t.2.2] 38)) = V at TB HBV ⊢
    generalize wr.heap.size = Nb at TB ⊢
    have SF : Hid (∀ w', Below V.heap.size V w' → w'.cell? ⟨Nb, 0, none⟩ = some (.int .i64 t.1) ∧ w'.cell? ⟨Nb, 1, none⟩ = some (strV t.2.1) ∧ w'.cell? ⟨Nb, 2, none⟩ = some (strV t.2.2) ∧ w'.cell? ⟨w.heap.size, 0, none⟩ = some (.slice (some ⟨bn, on, none⟩) ns.length ca) ∧ w'.cell? ⟨w.heap.size, 3, none⟩ = some (.slice (some ⟨bp, op, none⟩) p.length cp) ∧ w'.cell? ⟨bp, op + i, none⟩ = some (.int .i64 (q : Int)) ∧ w'.cell? ⟨bn, on + q * 10 + 6, none⟩ = some (.slice n.al n.labels.length n.cl)) := Lib.hid (fun w' hb => by
      have hbW := HBV.out.trans (hb.mono HBV.out.size)
      obtain ⟨z0, z1, z2, z3⟩ := HZ.out _ hbW
      have pk := HPC.out _ (HT.out _ hbW)
      obtain ⟨x8, x9⟩ := PC.out _ (HT.out _ hbW)
      obtain ⟨n6, n7⟩ := NC.out _ (HT.out _ hbW)
      exact ⟨Blk.cell (TB.out.below hb TB.out.lt) 0, Blk.cell (TB.out.below hb TB.out.lt) 1, Blk.cell (TB.out.below hb TB.out.lt) 2, z0, z3, pk, n6⟩)
    have KH := Lib.hid (fun W' (hb : Below V.heap.size V W') (N' : Nat) (hT : La.SlAt W' (some ⟨N', 0, none⟩) (La.cellsT [t])) => La.holds_any (some ⟨N', 0, none⟩) n.al 1 n.cl [t] n.labels W' (by simp) (by simp) (by omega) (NF.out _ (HT.out _ (HBV.out.trans (hb.mono HBV.out.size)))).l.le hT (NF.out _ (HT.out _ (HBV.out.trans (hb.mono HBV.out.size)))).l.cells)
    clear t0 t1 t2 hAt
    go_region_held3 (fun w' => w'.cell? ⟨Nb, 0, none⟩ = some (.int .i64 t.1) ∧ w'.cell? ⟨Nb, 1, none⟩ = some (strV t.2.1) ∧ w'.cell? ⟨Nb, 2, none⟩ = some (strV t.2.2) ∧ w'.cell? ⟨w.heap.size, 0, none⟩ = some (.slice (some ⟨bn, on, none⟩) ns.length ca) ∧ w'.cell? ⟨w.heap.size, 3, none⟩ = some (.slice (some ⟨bp, op, none⟩) p.length cp) ∧ w'.cell? ⟨bp, op + i, none⟩ = some (.int .i64 (q : Int)) ∧ w'.cell? ⟨bn, on + q * 10 + 6, none⟩ = some (.slice n.al n.labels.length n.cl)) (exact SF.out _ (by go_grown))
      (first
        | (go_at_call 238
           refine (KH.out _ (by go_grown) _ (by first | exact slT1 V t _ | exact slT1D V t _ | exact slT1E V t _)).mono ?_
           rintro e wA ⟨rfl, hbA⟩
           have D3 : Below V.heap.size V wA := Below.trans (by go_grown) (hbA.mono (by go_grown))
           clear hbA))
    all_goals
      have HB3 := Lib.hid (HBV.out.trans (D3.mono HBV.out.size))
      clear D3 SF KH TB HBV
      cases hv : La.holdsL [t] n.labels with
      | true =>
        have HE : Hid (numL (fun t => !La.holdsL [t] n.labels) (x.whr.take (k + 1)) = m) := Lib.hid (by rw [HS.out, hv]; simp)
        clear HS
        go_wp2_with fail
        go_roundw
        case rel => exact ⟨k + 1, by omega, by go_num, by rw [HE.out], HB3.out⟩
        case measure => simp [intOf]; omega
      | false =>
        have HE : Hid (numL (fun t => !La.holdsL [t] n.labels) (x.whr.take (k + 1)) = m + 1) := Lib.hid (by rw [HS.out, hv]; simp)
        have hwm : IntKind.i64.wrap ((m : Int) + 1) = (m : Int) + 1 := IntWalk.i64_in _ (by omega)
        clear HS
        go_wp2_with fail
        go_roundw
        case rel => exact ⟨k + 1, by omega, by go_num, by rw [HE.out]; simp, HB3.out⟩
        case measure => simp [intOf]; omega
end Go.Proofs.YtiiheajieegdkaaGreat

namespace Go.Proofs.YtiiheajieegdkaaGreat
open Go.RowKit

theorem slL10 {W : World} {b : Nat} {c : TypeId} (t : L2) (hb : Blk W b #[strV t.1, strV t.2] c) : La.SlAt W (some ⟨b, 0, none⟩) (La.cellsL [t]) := by
  intro j v hj
  refine ⟨b, 0, rfl, ?_⟩
  rw [Nat.zero_add]
  match j, hj with
  | 0, hj => rw [← show some (strV t.1) = some v from hj]; exact Blk.cell hb 0
  | 1, hj => rw [← show some (strV t.2) = some v from hj]; exact Blk.cell hb 1
theorem slL1 (V : World) (t : L2) (c : TypeId) : La.SlAt (V.alloc (.cells #[strV t.1, strV t.2] c)).drew (some ⟨V.heap.size, 0, none⟩) (La.cellsL [t]) := slL10 t (Blk.drew (Blk.new V _ _))
theorem slL1D (V : World) (t : L2) (c : TypeId) : La.SlAt (V.drew.alloc (.cells #[strV t.1, strV t.2] c)) (some ⟨V.drew.heap.size, 0, none⟩) (La.cellsL [t]) := slL10 t (Blk.new V.drew _ _)
theorem slL1E (V : World) (t : L2) (c : TypeId) : La.SlAt (V.alloc (.cells #[strV t.1, strV t.2] c)) (some ⟨V.heap.size, 0, none⟩) (La.cellsL [t]) := slL10 t (Blk.new V _ _)

set_option maxRecDepth 100000 in
set_option maxHeartbeats 8000000 in
theorem notBorne_any (A B C P : Option Addr) (ca cb cc cp : Nat) (ns : List NodeD) (ps : List PodD) (os : List OwnD) (p : List Int) (i q : Nat) (x : PodD) (n : NodeD) (hE : placeE ns ps os p = 0) (hi : p[i]? = some (q : Int)) (hx : ps[i]? = some x) (hn : ns[q]? = some n) (w : World) (h : SnapAt w A B C ca cb cc ns ps os) (hp : IntsAt w P cp p) :
    Calls Tryz.prog 195 #[viewV A B C P ca cb cc cp ns ps os p, .int .i64 (i : Int)] w fun e w' => e = .returned (.tuple #[.int .i64 (taintsO n.taints x.bears : Int), .bool true]) ∧ Below w.heap.size w w' := by
  have hxm := List.mem_of_getElem? hx
  have hnm := List.mem_of_getElem? hn
  obtain ⟨nk1, nk2, nk3⟩ := node_keys (placeE_chk hE) hnm
  obtain ⟨pk1, pk2, pk3, pk4⟩ := pod_keys (placeE_chk hE) hxm
  have B0 : Hid (Below w.heap.size w (w.alloc (.cells (viewC A B C P ca cb cc cp ns ps os p) 170))) := Lib.hid (below1 w _)
  have S0 : Hid (Blk (w.alloc (.cells (viewC A B C P ca cb cc cp ns ps os p) 170)) w.heap.size (viewC A B C P ca cb cc cp ns ps os p) 170) := Lib.hid (Blk.new w _ _)
  have i0 : (0 : Int) ≤ (i : Int) := by omega
  have i1 : (i : Int) < (p.length : Int) := by have := (List.getElem?_eq_some_iff.1 hi).1; omega
  have i2 : (i : Int) < (ps.length : Int) := by have := (List.getElem?_eq_some_iff.1 hx).1; omega
  have q1 : (0 : Int) ≤ (q : Int) := by omega
  have q2 : (q : Int) < (ns.length : Int) := by have := (List.getElem?_eq_some_iff.1 hn).1; omega
  have E : Hid (taintsO n.taints x.bears = numL (fun t => !La.bearsL x.bears [t]) n.taints) := Lib.hid (rfl)
  obtain ⟨bp, op, hAp, _, _⟩ := atI hp.cells hi
  subst hAp
  obtain ⟨b, o, hB, _⟩ := atP h.p.cells hx
  subst hB
  obtain ⟨bn, on, hA, _⟩ := atN h.n.cells hn
  subst hA
  have HPC : Hid (∀ W', Below w.heap.size w W' → W'.cell? ⟨bp, op + i, none⟩ = some (.int .i64 (q : Int))) := Lib.hid (fun W' hb => by
    obtain ⟨b', o', hA', _, hc⟩ := atI (hp.below hb).cells hi
    cases hA'
    exact hc)
  have PC := Lib.hid (fun W' (hb : Below w.heap.size w W') => (by
    obtain ⟨b', o', hA', _, c0, c1, c2, c3, c4, c5, c6, c7, c8, c9, _⟩ := atP (h.below hb).p.cells hx
    cases hA'
    exact ⟨c8, c9⟩ : W'.cell? ⟨b, o + i * 15 + 8, none⟩ = some (.slice x.aw x.whr.length x.cw) ∧ W'.cell? ⟨b, o + i * 15 + 9, none⟩ = some (.slice x.ab x.bears.length x.cb)))
  have NC := Lib.hid (fun W' (hb : Below w.heap.size w W') => (by
    obtain ⟨b', o', hA', _, c0, c1, c2, c3, c4, c5, c6, c7, _⟩ := atN (h.below hb).n.cells hn
    cases hA'
    exact ⟨c6, c7⟩ : W'.cell? ⟨bn, on + q * 10 + 6, none⟩ = some (.slice n.al n.labels.length n.cl) ∧ W'.cell? ⟨bn, on + q * 10 + 7, none⟩ = some (.slice n.at_ n.taints.length n.ct)))
  have XF := Lib.hid (fun W' (hb : Below w.heap.size w W') => (h.below hb).p.fit x hxm)
  have NF := Lib.hid (fun W' (hb : Below w.heap.size w W') => (h.below hb).n.fit n hnm)
  have HPL := Lib.hid (placeE_len hE)
  generalize taintsO n.taints x.bears = R at E ⊢
  clear h hp hE hi hx hn hxm hnm
  go_enter Tryz.func195, Tryz.ntmps195
  obtain ⟨W, hW⟩ : ∃ W, (w.alloc (.cells (viewC (some ⟨bn, on, none⟩) (some ⟨b, o, none⟩) C (some ⟨bp, op, none⟩) ca cb cc cp ns ps os p) 170)) = W := ⟨_, rfl⟩
  rw [hW] at B0 S0
  go_upto_region 1 with fail
  try rw [show (w.alloc (.cells #[.slice (some ⟨bn, on, none⟩) ns.length ca, .slice (some ⟨b, o, none⟩) ps.length cb, .slice C os.length cc, .slice (some ⟨bp, op, none⟩) p.length cp] 170)) = W from hW]
  clear hW
  have HZ := Lib.hid (fun W' (hb : Below W.heap.size W W') => (show W'.cell? ⟨w.heap.size, 0, none⟩ = some (.slice (some ⟨bn, on, none⟩) ns.length ca) ∧ W'.cell? ⟨w.heap.size, 1, none⟩ = some (.slice (some ⟨b, o, none⟩) ps.length cb) ∧ W'.cell? ⟨w.heap.size, 2, none⟩ = some (.slice C os.length cc) ∧ W'.cell? ⟨w.heap.size, 3, none⟩ = some (.slice (some ⟨bp, op, none⟩) p.length cp) from ⟨Blk.cell (S0.out.below hb S0.out.lt) 0, Blk.cell (S0.out.below hb S0.out.lt) 1, Blk.cell (S0.out.below hb S0.out.lt) 2, Blk.cell (S0.out.below hb S0.out.lt) 3⟩))
  have HT := Lib.hid (fun W' (hb : Below W.heap.size W W') => B0.out.trans (hb.mono B0.out.size))
  clear B0 S0
  obtain ⟨z0, z1, z2, z3⟩ := HZ.out _ (Below.refl _ W)
  have pk := HPC.out _ (HT.out _ (Below.refl _ W))
  obtain ⟨x8, x9⟩ := PC.out _ (HT.out _ (Below.refl _ W))
  obtain ⟨n6, n7⟩ := NC.out _ (HT.out _ (Below.refl _ W))
  go_quiet (fail)
  go_wp2_with fail
  clear z0 z1 z2 z3 pk x8 x9 n6 n7
  go_loopw [4, 20] (fun c j wr => ∃ k : Nat, k ≤ n.taints.length ∧ j = .int .i64 (k : Int) ∧ c = .int .i64 ((numL (fun t => !La.bearsL x.bears [t]) (n.taints.take k) : Nat) : Int) ∧ Below W.heap.size W wr) (fun _ j _ => n.taints.length - (intOf j).toNat)
  case atStart => exact ⟨0, by omega, rfl, rfl, by first | exact Below.refl _ _ | exact below_drewN (Below.refl _ _) _ | exact (Below.refl _ _).drew⟩
  case round =>
    obtain ⟨k, hk, rfl, rfl, hb⟩ := hrel
    have HB := Lib.hid hb
    clear hb
    by_cases hlt : k < n.taints.length
    case neg =>
      obtain rfl : k = n.taints.length := by omega
      rw [List.take_length, ← E.out]
      go_wp2
      go_ret2
      exact ⟨rfl, HT.out _ HB.out⟩
    obtain ⟨t, ht⟩ : ∃ t, n.taints[k]? = some t := ⟨n.taints[k], List.getElem?_eq_getElem hlt⟩
    have HTt := Lib.hid ht
    have HS := Lib.hid (numL_snoc (fun t => !La.bearsL x.bears [t]) ht)
    have hnl := numL_le (fun t => !La.bearsL x.bears [t]) (n.taints.take k)
    rw [List.length_take] at hnl
    generalize numL (fun t => !La.bearsL x.bears [t]) (n.taints.take k) = m at HS hnl ⊢
    have k0 : (0 : Int) ≤ (k : Int) := by omega
    have k1 : (k : Int) < (n.taints.length : Int) := by omega
    obtain ⟨bt, ot, hAt, _, t0, t1⟩ := La.SlAt.lab ((NF.out _ (HT.out _ HB.out)).t.cells) ht
    go_upto_region 4 with fail
    have TB : Hid (Blk (wr.alloc (.cells #[strV t.1, strV t.2] 29)) wr.heap.size #[strV t.1, strV t.2] 29) := Lib.hid (Blk.new wr _ _)
    have HBV : Hid (Below W.heap.size W (wr.alloc (.cells #[strV t.1, strV t.2] 29))) := Lib.hid (HB.out.alloc HB.out.size _)
    try change Code.wp _ _ _ _ (wr.alloc (.cells #[strV t.1, strV t.2] 29))
    generalize (wr.alloc (.cells #[strV t.1, strV t.2] 29)) = V at TB HBV ⊢
    generalize wr.heap.size = Nb at TB ⊢
    have SF : Hid (∀ w', Below V.heap.size V w' → w'.cell? ⟨Nb, 0, none⟩ = some (strV t.1) ∧ w'.cell? ⟨Nb, 1, none⟩ = some (strV t.2) ∧ w'.cell? ⟨w.heap.size, 0, none⟩ = some (.slice (some ⟨bn, on, none⟩) ns.length ca) ∧ w'.cell? ⟨w.heap.size, 1, none⟩ = some (.slice (some ⟨b, o, none⟩) ps.length cb) ∧ w'.cell? ⟨w.heap.size, 3, none⟩ = some (.slice (some ⟨bp, op, none⟩) p.length cp) ∧ w'.cell? ⟨bp, op + i, none⟩ = some (.int .i64 (q : Int)) ∧ w'.cell? ⟨b, o + i * 15 + 9, none⟩ = some (.slice x.ab x.bears.length x.cb)) := Lib.hid (fun w' hb => by
      have hbW := HBV.out.trans (hb.mono HBV.out.size)
      obtain ⟨z0, z1, z2, z3⟩ := HZ.out _ hbW
      have pk := HPC.out _ (HT.out _ hbW)
      obtain ⟨x8, x9⟩ := PC.out _ (HT.out _ hbW)
      obtain ⟨n6, n7⟩ := NC.out _ (HT.out _ hbW)
      exact ⟨Blk.cell (TB.out.below hb TB.out.lt) 0, Blk.cell (TB.out.below hb TB.out.lt) 1, z0, z1, z3, pk, x9⟩)
    have KH := Lib.hid (fun W' (hb : Below V.heap.size V W') (N' : Nat) (hT : La.SlAt W' (some ⟨N', 0, none⟩) (La.cellsL [t])) => La.bears_any x.ab (some ⟨N', 0, none⟩) x.cb 1 x.bears [t] W' (by omega) (XF.out _ (HT.out _ (HBV.out.trans (hb.mono HBV.out.size)))).b.le (by simp) (by simp) (XF.out _ (HT.out _ (HBV.out.trans (hb.mono HBV.out.size)))).b.cells hT)
    clear t0 t1 hAt
    go_region_held3 (fun w' => w'.cell? ⟨Nb, 0, none⟩ = some (strV t.1) ∧ w'.cell? ⟨Nb, 1, none⟩ = some (strV t.2) ∧ w'.cell? ⟨w.heap.size, 0, none⟩ = some (.slice (some ⟨bn, on, none⟩) ns.length ca) ∧ w'.cell? ⟨w.heap.size, 1, none⟩ = some (.slice (some ⟨b, o, none⟩) ps.length cb) ∧ w'.cell? ⟨w.heap.size, 3, none⟩ = some (.slice (some ⟨bp, op, none⟩) p.length cp) ∧ w'.cell? ⟨bp, op + i, none⟩ = some (.int .i64 (q : Int)) ∧ w'.cell? ⟨b, o + i * 15 + 9, none⟩ = some (.slice x.ab x.bears.length x.cb)) (exact SF.out _ (by go_grown))
      (first
        | (go_at_call 239
           refine (KH.out _ (by go_grown) _ (by first | exact slL1 V t _ | exact slL1D V t _ | exact slL1E V t _)).mono ?_
           rintro e wA ⟨rfl, hbA⟩
           have D3 : Below V.heap.size V wA := Below.trans (by go_grown) (hbA.mono (by go_grown))
           clear hbA))
    all_goals
      have HB3 := Lib.hid (HBV.out.trans (D3.mono HBV.out.size))
      clear D3 SF KH TB HBV
      cases hv : La.bearsL x.bears [t] with
      | true =>
        have HE : Hid (numL (fun t => !La.bearsL x.bears [t]) (n.taints.take (k + 1)) = m) := Lib.hid (by rw [HS.out, hv]; simp)
        clear HS
        go_wp2_with fail
        go_roundw
        case rel => exact ⟨k + 1, by omega, by go_num, by rw [HE.out], HB3.out⟩
        case measure => simp [intOf]; omega
      | false =>
        have HE : Hid (numL (fun t => !La.bearsL x.bears [t]) (n.taints.take (k + 1)) = m + 1) := Lib.hid (by rw [HS.out, hv]; simp)
        have hwm : IntKind.i64.wrap ((m : Int) + 1) = (m : Int) + 1 := IntWalk.i64_in _ (by omega)
        clear HS
        go_wp2_with fail
        go_roundw
        case rel => exact ⟨k + 1, by omega, by go_num, by rw [HE.out]; simp, HB3.out⟩
        case measure => simp [intOf]; omega
end Go.Proofs.YtiiheajieegdkaaGreat

namespace Go.Proofs.YtiiheajieegdkaaGreat
open Go.RowKit

theorem int_info8 : (Tryz.prog.info? 3).map (fun i => (i.zero, i.size, i.bytes)) = some (some (.int .i64 0), 1, 8) := by kernel_rfl
abbrev nearV (AT : Option Addr) (ct : Nat) (topo : List UInt8) (terms : List T3) : Value := .agg #[strV topo, .slice AT terms.length ct]

set_option maxRecDepth 100000 in
set_option maxHeartbeats 8000000 in
theorem near8_any (A B C P AT : Option Addr) (ca cb cc cp ct : Nat) (ns : List NodeD) (ps : List PodD) (os : List OwnD) (p : List Int) (i q : Nat) (topo : List UInt8) (terms : List T3) (n : NodeD) (hE : placeE ns ps os p = 0) (hi : p[i]? = some (q : Int)) (hn : ns[q]? = some n) (htl : terms.length ≤ 6) (htc : terms.length ≤ ct) (w : World) (h : SnapAt w A B C ca cb cc ns ps os) (hp : IntsAt w P cp p) (hT : La.SlAt w AT (La.cellsT terms)) :
    Calls Tryz.prog 240 #[viewV A B C P ca cb cc cp ns ps os p, .int .i64 (i : Int), nearV AT ct topo terms] w fun e w' => ∃ v, e = .returned v ∧ w'.ownsRow w.heap.size 3 1 v (nearP ns ps p i topo terms p.length).length ((nearP ns ps p i topo terms p.length).map (Value.int .i64)) ∧ Below w.heap.size w w' := by
  have hck := placeE_chk hE
  have hnm := List.mem_of_getElem? hn
  obtain ⟨nk1, nk2, _⟩ := node_keys hck hnm
  have nvl := node_vals hck hnm
  have hlp := h.lp
  have HPL := Lib.hid (placeE_len hE)
  have hlost : n.lost = false := tpB_up (placeE_on hE hi (by omega)) hn
  have HON : Hid (∀ (k : Nat) (x : Int), p[k]? = some x → x ≠ -1 → ∃ (q : Nat) (xa : NodeD), x = (q : Int) ∧ ns[q]? = some xa ∧ xa.lost = false ∧ xa.labels.Pairwise (fun a b => a.1 ≠ b.1) ∧ xa.labels.length ≤ 6 ∧ (∀ y ∈ xa.labels, y.2.length ≤ 1000)) := Lib.hid (fun k x hk hx => by
    have ht := placeE_on hE hk hx
    obtain ⟨q, rfl, hq⟩ := tpB_lt ht
    have hm : ns[q]? = some ns[q] := List.getElem?_eq_getElem hq
    obtain ⟨a1, a2, _⟩ := node_keys hck (List.mem_of_getElem? hm)
    exact ⟨q, ns[q], rfl, hm, tpB_up ht hm, a1, a2, node_vals hck (List.mem_of_getElem? hm)⟩)
  have HPO : Hid (∀ (k : Nat) (y : PodD), ps[k]? = some y → y.labels.Pairwise (fun a b => a.1 ≠ b.1) ∧ y.labels.length ≤ 6) := Lib.hid (fun k y hy => by
    obtain ⟨a1, a2, _⟩ := pod_keys hck (List.mem_of_getElem? hy)
    exact ⟨a1, a2⟩)
  obtain ⟨i0x, hi0, hz0, hz1, hz2⟩ := info_parts int_info8
  have i0 : (0 : Int) ≤ (i : Int) := by omega
  have i1 : (i : Int) < (p.length : Int) := by have := (List.getElem?_eq_some_iff.1 hi).1; omega
  have q1 : (0 : Int) ≤ (q : Int) := by omega
  have q2 : (q : Int) < (ns.length : Int) := by have := (List.getElem?_eq_some_iff.1 hn).1; omega
  obtain ⟨bp, op, hAp, _, _⟩ := atI hp.cells hi
  subst hAp
  obtain ⟨bn, on, hA, _⟩ := atN h.n.cells hn
  subst hA
  have B0 : Hid (Below w.heap.size w ((w.alloc (.cells (viewC (some ⟨bn, on, none⟩) B C (some ⟨bp, op, none⟩) ca cb cc cp ns ps os p) 170)).alloc (.cells #[strV topo, .slice AT terms.length ct] 41))) := Lib.hid (Qu.below2 w _ _)
  have S0 : Hid (Blk ((w.alloc (.cells (viewC (some ⟨bn, on, none⟩) B C (some ⟨bp, op, none⟩) ca cb cc cp ns ps os p) 170)).alloc (.cells #[strV topo, .slice AT terms.length ct] 41)) w.heap.size (viewC (some ⟨bn, on, none⟩) B C (some ⟨bp, op, none⟩) ca cb cc cp ns ps os p) 170) := Lib.hid (Blk.alloc (Blk.new w _ _) _)
  have N0 : Hid (Blk ((w.alloc (.cells (viewC (some ⟨bn, on, none⟩) B C (some ⟨bp, op, none⟩) ca cb cc cp ns ps os p) 170)).alloc (.cells #[strV topo, .slice AT terms.length ct] 41)) (w.heap.size + 1) #[strV topo, .slice AT terms.length ct] 41) := Lib.hid (blk2 w _ _ _)
  have HPC : Hid (∀ W', Below w.heap.size w W' → ∀ (k : Nat) (x : Int), p[k]? = some x → W'.cell? ⟨bp, op + k, none⟩ = some (.int .i64 x)) := Lib.hid (fun W' hb k x hk => by
    obtain ⟨b', o', hA', _, hc⟩ := atI (hp.below hb).cells hk
    cases hA'
    exact hc)
  have NC : Hid (∀ W', Below w.heap.size w W' → ∀ (k : Nat) (x : NodeD), ns[k]? = some x → W'.cell? ⟨bn, on + k * 10 + 6, none⟩ = some (.slice x.al x.labels.length x.cl)) := Lib.hid (fun W' hb k x hk => by
    obtain ⟨b', o', hA', _, c0, c1, c2, c3, c4, c5, c6, _⟩ := atN (h.below hb).n.cells hk
    cases hA'
    exact c6)
  have NF := Lib.hid (fun W' (hb : Below w.heap.size w W') (k : Nat) (x : NodeD) (hk : ns[k]? = some x) => ((h.below hb).n.fit x (List.mem_of_getElem? hk)).l)
  have PF := Lib.hid (fun W' (hb : Below w.heap.size w W') (k : Nat) (x : PodD) (hk : ps[k]? = some x) => ((h.below hb).p.fit x (List.mem_of_getElem? hk)).l)
  have PCE := Lib.hid (fun W' (hb : Below w.heap.size w W') (k : Nat) (x : PodD) (hk : ps[k]? = some x) => atP (h.below hb).p.cells hk)
  have HTM := Lib.hid (fun W' (hb : Below w.heap.size w W') => hT.below hb)
  have HI := Lib.hid hi
  have HN := Lib.hid hn
  have KG := Lib.hid (fun W' (hb : Below w.heap.size w W') => La.get_any n.al n.cl n.labels topo W' (by omega) (NF.out W' hb q n HN.out).le (NF.out W' hb q n HN.out).cells nvl)
  have HNone := Lib.hid (fun hv : valK n topo = none => nearP_none (ps := ps) (terms := terms) HI.out HN.out hv p.length)
  rw [valK_up hlost] at HNone
  have HAt : Hid (∀ (k q' : Nat) (xa : NodeD) (y : PodD), p[k]? = some (q' : Int) → ns[q']? = some xa → xa.lost = false → ps[k]? = some y → y.labels.Pairwise (fun a b => a.1 ≠ b.1) → aboutB ns ps p i topo terms false k = ((match getO xa.labels topo, getO n.labels topo with | some u, some v => decide (u = v) | _, _ => false) && La.holdsL terms y.labels)) := Lib.hid (fun k q' xa y h1 h2 h3 h4 h5 => by
    unfold aboutB
    rw [h1, HI.out, h4]
    dsimp only
    rw [Int.toNat_natCast, Int.toNat_natCast, h2, HN.out, decide_eq_true (by omega : (0 : Int) ≤ (q' : Int)), holdsO_eq _ h5]
    dsimp only
    unfold nearO
    rw [valK_up h3, valK_up hlost]
    cases getO xa.labels topo <;> cases getO n.labels topo <;> simp)
  have HWait : Hid (∀ k : Nat, p[k]? = some (-1) → aboutB ns ps p i topo terms false k = false) := Lib.hid (fun k h1 => by
    unfold aboutB
    rw [h1, HI.out]
    cases ps[k]? <;> simp)
  have HNP : Hid (∀ k, nearP ns ps p i topo terms (k + 1) = nearP ns ps p i topo terms k ++ (if aboutB ns ps p i topo terms false k then [(k : Int)] else [])) := Lib.hid (fun k => rfl)
  have HNL : Hid (∀ k, (nearP ns ps p i topo terms k).length ≤ k) := Lib.hid (fun k => by rw [nearP_len]; exact aboutU_le ns ps p i topo terms false k)
  have HNZ : Hid (nearP ns ps p i topo terms 0 = []) := Lib.hid rfl
  rw [getL_getO] at KG
  generalize getO n.labels topo = D at KG HNone HAt
  generalize nearP ns ps p i topo terms = NP at HNone HNP HNL HNZ ⊢
  generalize aboutB ns ps p i topo terms false = AB at HAt HWait HNP
  have pi := HPC.out _ B0.out i _ hi
  have ni := NC.out _ B0.out q _ hn
  clear h hp hT hE hi hn hck hnm nk1 nk2 nvl hlost
  go_enter Tryz.func240, Tryz.ntmps240
  obtain ⟨W, hW⟩ : ∃ W, ((w.alloc (.cells (viewC (some ⟨bn, on, none⟩) B C (some ⟨bp, op, none⟩) ca cb cc cp ns ps os p) 170)).alloc (.cells #[strV topo, .slice AT terms.length ct] 41)) = W := ⟨_, rfl⟩
  rw [hW] at B0 S0 N0 pi ni
  go_upto_region 1 with fail
  try rw [show ((w.alloc (.cells #[.slice (some ⟨bn, on, none⟩) ns.length ca, .slice B ps.length cb, .slice C os.length cc, .slice (some ⟨bp, op, none⟩) p.length cp] 170)).alloc (.cells #[strV topo, .slice AT terms.length ct] 41)) = W from hW]
  clear hW
  have HZ := Lib.hid (fun W' (hb : Below W.heap.size W W') => (show W'.cell? ⟨w.heap.size, 0, none⟩ = some (.slice (some ⟨bn, on, none⟩) ns.length ca) ∧ W'.cell? ⟨w.heap.size, 1, none⟩ = some (.slice B ps.length cb) ∧ W'.cell? ⟨w.heap.size, 3, none⟩ = some (.slice (some ⟨bp, op, none⟩) p.length cp) ∧ W'.cell? ⟨w.heap.size + 1, 0, none⟩ = some (strV topo) ∧ W'.cell? ⟨w.heap.size + 1, 1, none⟩ = some (.slice AT terms.length ct) from ⟨Blk.cell (S0.out.below hb S0.out.lt) 0, Blk.cell (S0.out.below hb S0.out.lt) 1, Blk.cell (S0.out.below hb S0.out.lt) 3, Blk.cell (N0.out.below hb N0.out.lt) 0, Blk.cell (N0.out.below hb N0.out.lt) 1⟩))
  have HT := Lib.hid (fun W' (hb : Below W.heap.size W W') => B0.out.trans (hb.mono B0.out.size))
  have HB0 := Lib.hid B0.out.size
  clear B0 S0 N0
  have HB : Hid (Below W.heap.size W W.drew) := Lib.hid (Below.refl _ W).drew
  obtain ⟨z0, z1, z3, t0, t1⟩ := HZ.out _ HB.out
  have pi := HPC.out _ (HT.out _ HB.out) i _ HI.out
  have ni := NC.out _ (HT.out _ HB.out) q _ HN.out
  go_cut [7, 8] (fun a b wc => a = strV (D.getD []) ∧ b = .bool D.isSome ∧ Below W.heap.size W wc)
  case first =>
    go_region_held3 (fun w' => w'.cell? ⟨w.heap.size, 0, none⟩ = some (.slice (some ⟨bn, on, none⟩) ns.length ca) ∧ w'.cell? ⟨w.heap.size, 3, none⟩ = some (.slice (some ⟨bp, op, none⟩) p.length cp) ∧ w'.cell? ⟨w.heap.size + 1, 0, none⟩ = some (strV topo) ∧ w'.cell? ⟨bp, op + i, none⟩ = some (.int .i64 (q : Int)) ∧ w'.cell? ⟨bn, on + q * 10 + 6, none⟩ = some (.slice n.al n.labels.length n.cl)) (first | exact ⟨z0, z3, t0, pi, ni⟩ | exact ⟨by assumption, by assumption, by assumption, by assumption, by assumption⟩)
      (first
        | (go_at_call 271
           refine (KG.out _ (HT.out _ HB.out)).mono ?_
           rintro e w1 ⟨rfl, hb1⟩
           have HB := Lib.hid (HB.out.trans (hb1.mono HB.out.size))
           obtain ⟨z0, z1, z3, t0, t1⟩ := HZ.out _ HB.out
           have pi := HPC.out _ (HT.out _ HB.out) i _ HI.out
           have ni := NC.out _ (HT.out _ HB.out) q _ HN.out
           clear hb1))
    all_goals
      (try go_wp2_with fail)
      go_meet
      exact ⟨rfl, rfl, HB.out⟩
  case' rest => obtain ⟨rfl, rfl, hbc⟩ := hcut
  case' rest => have HB := Lib.hid hbc
  clear hbc z0 z1 z3 t0 t1 pi ni KG
  obtain ⟨z0, z1, z3, t0, t1⟩ := HZ.out _ HB.out
  cases D with
  | none =>
    have HE := Lib.hid (HNone.out rfl)
    clear HNone HAt
    go_wp2
    go_ret
    rw [HE.out]
    exact ⟨_, rfl, World.ownsRow_nil _ _ _ _, HT.out _ HB.out⟩
  | some dom =>
    clear HNone
    simp only [Option.getD_some, Option.isSome_some]
    go_wp2_with fail
    clear z0 z1 z3 t0 t1
    have HBs := HB
    clear HB
    go_loopw [6, 35] (fun v j wr => ∃ k : Nat, k ≤ p.length ∧ j = .int .i64 (k : Int) ∧ wr.ownsRow W.heap.size 3 1 v (NP k).length ((NP k).map (Value.int .i64)) ∧ Below W.heap.size W wr) (fun _ j _ => p.length - (intOf j).toNat)
    case atStart => exact ⟨0, by omega, rfl, by rw [HNZ.out]; exact World.ownsRow_nil _ _ _ _, HBs.out⟩
    case round =>
      clear HBs
      obtain ⟨k, hk, rfl, ho, hb⟩ := hrel
      have HO := Lib.hid ho
      have HB := Lib.hid hb
      clear ho hb
      by_cases hlt : k < p.length
      case neg =>
        obtain rfl : k = p.length := by omega
        go_wp2
        go_ret
        exact ⟨_, rfl, own_base HO.out HB0.out, HT.out _ HB.out⟩
      obtain ⟨x, hx⟩ : ∃ x, p[k]? = some x := ⟨p[k], List.getElem?_eq_getElem hlt⟩
      obtain ⟨y, hy⟩ : ∃ y, ps[k]? = some y := ⟨ps[k]'(by have := HPL.out; omega), List.getElem?_eq_getElem _⟩
      have HX := Lib.hid hx
      have HY := Lib.hid hy
      have k0 : (0 : Int) ≤ (k : Int) := by omega
      have k1 : (k : Int) < (p.length : Int) := by omega
      have k2 : (k : Int) < (ps.length : Int) := by have := HPL.out; omega
      have HN1 := Lib.hid (HNP.out k)
      have hnl := HNL.out k
      generalize NP k = M at HO HN1 hnl
      have pk := HPC.out _ (HT.out _ HB.out) k x hx
      obtain ⟨b, o, hB, _⟩ := PCE.out _ (HT.out _ HB.out) k y hy
      subst hB
      have YC : Hid (∀ W', Below W.heap.size W W' → W'.cell? ⟨b, o + k * 15 + 7, none⟩ = some (.slice y.al y.labels.length y.cl)) := Lib.hid (fun W' hb => by
        obtain ⟨b', o', hA', _, c0, c1, c2, c3, c4, c5, c6, c7, _⟩ := PCE.out W' (HT.out W' hb) k y HY.out
        cases hA'
        exact c7)
      by_cases hxw : x = -1
      case pos =>
        subst hxw
        have HE : Hid (NP (k + 1) = M) := Lib.hid (by rw [HN1.out, HWait.out k HX.out]; simp)
        clear hx hy HN1
        go_upto_region 7 with fail
        go_quiet (fail)
        go_wp2_with fail
        go_roundw
        case rel => exact ⟨k + 1, by omega, by go_num, by rw [HE.out]; exact HO.out, below_drewN HB.out _⟩
        case measure => simp [intOf]; omega
      obtain ⟨q', xa, rfl, hxa, hxl, hxk, hx6, hxv⟩ := HON.out k x hx hxw
      obtain ⟨yk, y6⟩ := HPO.out k y hy
      have HAB := Lib.hid (HAt.out k q' xa y hx hxa hxl hy yk)
      rw [HAB.out] at HN1
      have KH := Lib.hid (fun W' (hb : Below W.heap.size W W') => La.holds_any AT y.al ct y.cl terms y.labels W' (by omega) htc (by omega) (PF.out W' (HT.out W' hb) k y HY.out).le (HTM.out W' (HT.out W' hb)) (PF.out W' (HT.out W' hb) k y HY.out).cells)
      have HXA := Lib.hid hxa
      have KG := Lib.hid (fun W' (hb : Below W.heap.size W W') => La.get_any xa.al xa.cl xa.labels topo W' (by omega) (NF.out W' (HT.out W' hb) q' xa HXA.out).le (NF.out W' (HT.out W' hb) q' xa HXA.out).cells hxv)
      rw [getL_getO] at KG
      have q'1 : (0 : Int) ≤ (q' : Int) := by omega
      have q'2 : (q' : Int) < (ns.length : Int) := by have := (List.getElem?_eq_some_iff.1 hxa).1; omega
      have e1 : ((q' : Int) == -1) = false := by first | (simp; done) | (simp; omega)
      have e2 : ¬ ((q' : Int) = -1) := by omega
      generalize La.holdsL terms y.labels = HBo at KH HN1
      generalize getO xa.labels topo = U at KG HN1
      clear hx hy hxa hxk hx6 hxv hxl yk y6 HAB hxw pk
      have pk := HPC.out _ (HT.out _ HB.out) k _ HX.out
      go_upto_region 7 with fail
      have HB2 : Hid (Below W.heap.size W wr.drew) := Lib.hid HB.out.drew
      have HO2 : Hid (World.ownsRow wr.drew W.heap.size 3 1 u6 M.length (M.map (Value.int .i64))) := Lib.hid (show World.ownsRow _ _ _ _ _ _ _ from HO.out)
      clear HB HO pk
      obtain ⟨z0, z1, z3, t0, t1⟩ := HZ.out _ HB2.out
      have yk := YC.out _ HB2.out
      go_still_tail 12, (by kernel_rfl)
      change wpList _ _ _ _ _ wr.drew
      go_wp2_with fail
      refine (KH.out _ HB2.out).mono ?_
      rintro e w2 ⟨rfl, hb2⟩
      have HB := Lib.hid (HB2.out.trans (hb2.mono HB2.out.size))
      have HO := Lib.hid (La.own_below HO2.out hb2)
      clear hb2 z0 z1 z3 t0 t1 yk HB2 HO2 KH
      cases HBo with
      | false =>
        have HE : Hid (NP (k + 1) = M) := Lib.hid (by rw [HN1.out]; simp)
        clear HN1
        go_wp2_with fail
        go_roundw
        case rel => exact ⟨k + 1, by omega, by go_num, by rw [HE.out]; exact HO.out, HB.out⟩
        case measure => simp [intOf]; omega
      | true =>
        go_upto_region 8 with fail
        have HB2 : Hid (Below W.heap.size W w2.drew) := Lib.hid HB.out.drew
        have HO2 : Hid (World.ownsRow w2.drew W.heap.size 3 1 u6 M.length (M.map (Value.int .i64))) := Lib.hid (show World.ownsRow _ _ _ _ _ _ _ from HO.out)
        obtain ⟨z0, z1, z3, t0, t1⟩ := HZ.out _ HB2.out
        have nk := NC.out _ (HT.out _ HB2.out) q' _ HXA.out
        go_cut [11, 12] (fun a b wc => a = strV (U.getD []) ∧ b = .bool U.isSome ∧ Below w2.heap.size w2 wc)
        case first =>
          go_region_held3 (fun w' => w'.cell? ⟨w.heap.size, 0, none⟩ = some (.slice (some ⟨bn, on, none⟩) ns.length ca) ∧ w'.cell? ⟨w.heap.size + 1, 0, none⟩ = some (strV topo) ∧ w'.cell? ⟨bn, on + q' * 10 + 6, none⟩ = some (.slice xa.al xa.labels.length xa.cl)) (first | exact ⟨z0, t0, nk⟩ | exact ⟨by assumption, by assumption, by assumption⟩)
            (first
              | (go_at_call 271
                 refine (KG.out _ HB2.out).mono ?_
                 rintro e w3 ⟨rfl, hb3⟩
                 have HBq := Lib.hid (HB2.out.trans (hb3.mono HB2.out.size))
                 have HB3 := Lib.hid (show Below w2.heap.size w2 w3 from ((Below.refl _ w2).drew).trans hb3)
                 obtain ⟨z0, z1, z3, t0, t1⟩ := HZ.out _ HBq.out
                 have nk := NC.out _ (HT.out _ HBq.out) q' _ HXA.out
                 clear hb3))
          all_goals
            (try go_wp2_with fail)
            go_meet
            exact ⟨rfl, rfl, HB3.out⟩
        case' rest => obtain ⟨rfl, rfl, hbc⟩ := hcut
        case' rest => have HB := Lib.hid (show Below W.heap.size W wc from HB.out.trans (hbc.mono HB.out.size))
        case' rest => have HO := Lib.hid (La.own_below HO.out hbc)
        clear hbc z0 z1 z3 t0 t1 nk HB2 HO2 KG
        cases U with
        | none =>
          have HE : Hid (NP (k + 1) = M) := Lib.hid (by rw [HN1.out]; simp)
          clear HN1
          go_wp2_with fail
          go_roundw
          case rel => exact ⟨k + 1, by omega, by go_num, by rw [HE.out]; exact HO.out, HB.out⟩
          case measure => simp [intOf]; omega
        | some u =>
          by_cases hu : u = dom
          case neg =>
            have HE : Hid (NP (k + 1) = M) := Lib.hid (by rw [HN1.out]; simp [hu])
            have hub : (u == dom) = false := by simpa using hu
            clear HN1 hu
            go_wp2_with fail
            go_roundw
            case rel => exact ⟨k + 1, by omega, by go_num, by rw [HE.out]; exact HO.out, HB.out⟩
            case measure => simp [intOf]; omega
          have HE : Hid (NP (k + 1) = M ++ [(k : Int)]) := Lib.hid (by rw [HN1.out]; simp [hu])
          have hub : (u == dom) = true := by simpa using hu
          clear HN1 hu
          go_wp2_with (at_builtin; refine wpList_append_own _ rfl _ _ 44 rfl W.heap.size 3 i0x (.int .i64 0) 1 8 Tryz.underlying44 hi0 hz0 hz1 hz2 rfl (by decide) _ _ _ rfl (show World.ownsRow _ _ _ _ _ _ _ from HO.out.alloc _) ⟨wc.heap.size, 0, none⟩ 1 1 [.int .i64 (k : Int)] rfl rfl ?c1a ?c2a ?c3a ?c4a ?c5a ?_)
          case c1a =>
            intro j u hj
            match j, hj with
            | 0, hj => simp at hj; subst hj; simp [Addr.add]
          case c2a => first | rfl | (intro u hu; simp at hu; subst hu; rfl)
          case c3a => unfold maxLen; omega
          case c4a => omega
          case c5a => have := HB.out.size; simp; omega
          intro v4 w4 hown4 hgrow4 _
          have P4 := Lib.hid hown4
          have D4 := Lib.hid ((HB.out.alloc HB.out.size (.cells #[.int .i64 (k : Int)] 3)).grown hgrow4 (by have := HB.out.size; simp; omega) (fun j hj => own_gem HO.out hj))
          clear hown4 hgrow4
          go_wp2_with fail
          go_roundw
          case rel =>
            refine ⟨k + 1, by omega, by go_num, ?_, D4.out⟩
            rw [HE.out, List.length_append, List.map_append]
            exact P4.out
          case measure => simp [intOf]; omega
end Go.Proofs.YtiiheajieegdkaaGreat

namespace Go.Proofs.YtiiheajieegdkaaGreat
open Go.RowKit

set_option maxRecDepth 100000 in
set_option maxHeartbeats 8000000 in
theorem alone_any (A B C P : Option Addr) (ca cb cc cp : Nat) (ns : List NodeD) (ps : List PodD) (os : List OwnD) (p : List Int) (i q : Nat) (x : PodD) (n : NodeD) (hE : placeE ns ps os p = 0) (hi : p[i]? = some (q : Int)) (hx : ps[i]? = some x) (hn : ns[q]? = some n) (w : World) (h : SnapAt w A B C ca cb cc ns ps os) (hp : IntsAt w P cp p) :
    Calls Tryz.prog 196 #[viewV A B C P ca cb cc cp ns ps os p, .int .i64 (i : Int)] w fun e w' => e = .returned (.tuple #[.int .i64 (((ofU ns ps os p 4 i).getD 0 : Nat) : Int), .bool (ofU ns ps os p 4 i).isSome]) ∧ Below w.heap.size w w' := by
  have hxm := List.mem_of_getElem? hx
  obtain ⟨tf1, tf2⟩ := terms_few (placeE_chk hE) hxm
  have hlp := h.lp
  have HPL := Lib.hid (placeE_len hE)
  have E := Lib.hid (ofU_at (os := os) (kind := 4) hi hx hn)
  have B0 : Hid (Below w.heap.size w (w.alloc (.cells (viewC A B C P ca cb cc cp ns ps os p) 170))) := Lib.hid (below1 w _)
  have S0 : Hid (Blk (w.alloc (.cells (viewC A B C P ca cb cc cp ns ps os p) 170)) w.heap.size (viewC A B C P ca cb cc cp ns ps os p) 170) := Lib.hid (Blk.new w _ _)
  have i0 : (0 : Int) ≤ (i : Int) := by omega
  have i2 : (i : Int) < (ps.length : Int) := by have := (List.getElem?_eq_some_iff.1 hx).1; omega
  obtain ⟨b, o, hB, _⟩ := atP h.p.cells hx
  subst hB
  have PC := Lib.hid (fun W' (hb : Below w.heap.size w W') => (by
    obtain ⟨b', o', hA', _, c0, c1, c2, c3, c4, c5, c6, c7, c8, c9, c10, c11, c12, c13, _⟩ := atP (h.below hb).p.cells hx
    cases hA'
    exact ⟨c10, c11⟩ : W'.cell? ⟨b, o + i * 15 + 10, none⟩ = some (strV x.wt) ∧ W'.cell? ⟨b, o + i * 15 + 11, none⟩ = some (.slice x.awt x.wtm.length x.cwt)))
  have XF := Lib.hid (fun W' (hb : Below w.heap.size w W') => ((h.below hb).p.fit x hxm).wt)
  have KN := Lib.hid (fun W' (hb : Below w.heap.size w W') => near8_any A (some ⟨b, o, none⟩) C P x.awt ca cb cc cp x.cwt ns ps os p i q x.wt x.wtm n hE hi hn (by omega) (XF.out W' hb).le W' (h.below hb) (hp.below hb) (XF.out W' hb).cells)
  have HL := Lib.hid (nearP_len ns ps p i x.wt x.wtm p.length)
  have HO := Lib.hid (nearP_others ns ps p i x.wt x.wtm p.length)
  have HLe : Hid ((nearP ns ps p i x.wt x.wtm p.length).length ≤ p.length) := Lib.hid (by rw [nearP_len]; exact aboutU_le ns ps p i x.wt x.wtm false p.length)
  generalize nearP ns ps p i x.wt x.wtm p.length = M at KN HL HO HLe
  generalize ofU ns ps os p 4 i = R at E ⊢
  clear h hp hE hi hx hn hxm tf1 tf2
  go_enter Tryz.func196, Tryz.ntmps196
  obtain ⟨W, hW⟩ : ∃ W, (w.alloc (.cells (viewC A (some ⟨b, o, none⟩) C P ca cb cc cp ns ps os p) 170)) = W := ⟨_, rfl⟩
  rw [hW] at B0 S0
  go_upto_region 1 with fail
  try rw [show (w.alloc (.cells #[.slice A ns.length ca, .slice (some ⟨b, o, none⟩) ps.length cb, .slice C os.length cc, .slice P p.length cp] 170)) = W from hW]
  clear hW
  have B1 : Hid (Below w.heap.size w (W.alloc (.cells #[strV x.wt, .slice x.awt x.wtm.length x.cwt] 41))) := Lib.hid (B0.out.alloc B0.out.size _)
  have S1 : Hid (Blk (W.alloc (.cells #[strV x.wt, .slice x.awt x.wtm.length x.cwt] 41)) w.heap.size (viewC A (some ⟨b, o, none⟩) C P ca cb cc cp ns ps os p) 170) := Lib.hid (Blk.alloc S0.out _)
  have N1 : Hid (Blk (W.alloc (.cells #[strV x.wt, .slice x.awt x.wtm.length x.cwt] 41)) W.heap.size #[strV x.wt, .slice x.awt x.wtm.length x.cwt] 41) := Lib.hid (Blk.new W _ _)
  have z1 : W.cell? ⟨w.heap.size, 1, none⟩ = some (.slice (some ⟨b, o, none⟩) ps.length cb) := Blk.cell S0.out 1
  obtain ⟨x0, x1⟩ := PC.out _ B0.out
  clear B0 S0
  go_upto_region 2 with fail
  try change Code.wp _ _ _ _ (W.alloc (.cells #[strV x.wt, .slice x.awt x.wtm.length x.cwt] 41))
  clear z1 x0 x1
  generalize (W.alloc (.cells #[strV x.wt, .slice x.awt x.wtm.length x.cwt] 41)) = V at B1 S1 N1 ⊢
  generalize W.heap.size = Nb at N1 ⊢
  have n0 : V.cell? ⟨Nb, 0, none⟩ = some (strV x.wt) := Blk.cell N1.out 0
  have n1 : V.cell? ⟨Nb, 1, none⟩ = some (.slice x.awt x.wtm.length x.cwt) := Blk.cell N1.out 1
  by_cases ht : x.wt = []
  case pos =>
    have HE : Hid (R = none) := Lib.hid (by rw [E.out]; simp [ht])
    rw [ht] at n0
    clear E KN HL HO
    go_wp2
    go_ret2
    rw [HE.out]
    exact ⟨rfl, B1.out⟩
  have htb : (x.wt == []) = false := by simpa using ht
  have HE : Hid (R = some (1 - M.length)) := Lib.hid (by rw [E.out, HL.out]; simp [ht])
  have z0 : V.cell? ⟨w.heap.size, 0, none⟩ = some (.slice A ns.length ca) := Blk.cell S1.out 0
  have z1 : V.cell? ⟨w.heap.size, 1, none⟩ = some (.slice (some ⟨b, o, none⟩) ps.length cb) := Blk.cell S1.out 1
  have z2 : V.cell? ⟨w.heap.size, 2, none⟩ = some (.slice C os.length cc) := Blk.cell S1.out 2
  have z3 : V.cell? ⟨w.heap.size, 3, none⟩ = some (.slice P p.length cp) := Blk.cell S1.out 3
  clear E HL HO ht
  go_wp2_with fail
  refine (KN.out _ B1.out).mono ?_
  rintro e w2 ⟨v, rfl, ho, hb⟩
  obtain ⟨G, cg, rfl, _⟩ := La.own_slice ho
  have B2 := Lib.hid (B1.out.trans (hb.mono B1.out.size))
  clear ho hb KN z0 z1 z2 z3 n0 n1 htb
  by_cases hm : M.length = 0
  case pos =>
    have HE2 : Hid (R = some 1) := Lib.hid (by rw [HE.out, hm])
    have hmb : ((M.length : Int) == 0) = true := by simp [hm]
    have hmi : (M.length : Int) = 0 := by omega
    clear HE HLe hm
    go_wp2
    go_ret2
    rw [HE2.out]
    exact ⟨rfl, B2.out⟩
  have HE2 : Hid (R = some 0) := Lib.hid (by rw [HE.out, show 1 - M.length = 0 by omega])
  have hmb : ((M.length : Int) == 0) = false := by rw [beq_eq_false_iff_ne]; omega
  have hmi : ¬ (M.length : Int) = 0 := by omega
  clear HE HLe hm
  go_wp2
  go_ret2
  rw [HE2.out]
  exact ⟨rfl, B2.out⟩

set_option maxRecDepth 100000 in
set_option maxHeartbeats 8000000 in
theorem notApart_any (A B C P : Option Addr) (ca cb cc cp : Nat) (ns : List NodeD) (ps : List PodD) (os : List OwnD) (p : List Int) (i q : Nat) (x : PodD) (n : NodeD) (hE : placeE ns ps os p = 0) (hi : p[i]? = some (q : Int)) (hx : ps[i]? = some x) (hn : ns[q]? = some n) (w : World) (h : SnapAt w A B C ca cb cc ns ps os) (hp : IntsAt w P cp p) :
    Calls Tryz.prog 197 #[viewV A B C P ca cb cc cp ns ps os p, .int .i64 (i : Int)] w fun e w' => e = .returned (.tuple #[.int .i64 (((ofU ns ps os p 5 i).getD 0 : Nat) : Int), .bool (ofU ns ps os p 5 i).isSome]) ∧ Below w.heap.size w w' := by
  have hxm := List.mem_of_getElem? hx
  obtain ⟨tf1, tf2⟩ := terms_few (placeE_chk hE) hxm
  have hlp := h.lp
  have HPL := Lib.hid (placeE_len hE)
  have E := Lib.hid (ofU_at (os := os) (kind := 5) hi hx hn)
  have B0 : Hid (Below w.heap.size w (w.alloc (.cells (viewC A B C P ca cb cc cp ns ps os p) 170))) := Lib.hid (below1 w _)
  have S0 : Hid (Blk (w.alloc (.cells (viewC A B C P ca cb cc cp ns ps os p) 170)) w.heap.size (viewC A B C P ca cb cc cp ns ps os p) 170) := Lib.hid (Blk.new w _ _)
  have i0 : (0 : Int) ≤ (i : Int) := by omega
  have i2 : (i : Int) < (ps.length : Int) := by have := (List.getElem?_eq_some_iff.1 hx).1; omega
  obtain ⟨b, o, hB, _⟩ := atP h.p.cells hx
  subst hB
  have PC := Lib.hid (fun W' (hb : Below w.heap.size w W') => (by
    obtain ⟨b', o', hA', _, c0, c1, c2, c3, c4, c5, c6, c7, c8, c9, c10, c11, c12, c13, _⟩ := atP (h.below hb).p.cells hx
    cases hA'
    exact ⟨c12, c13⟩ : W'.cell? ⟨b, o + i * 15 + 12, none⟩ = some (strV x.ap) ∧ W'.cell? ⟨b, o + i * 15 + 13, none⟩ = some (.slice x.aap x.apm.length x.cap)))
  have XF := Lib.hid (fun W' (hb : Below w.heap.size w W') => ((h.below hb).p.fit x hxm).ap)
  have KN := Lib.hid (fun W' (hb : Below w.heap.size w W') => near8_any A (some ⟨b, o, none⟩) C P x.aap ca cb cc cp x.cap ns ps os p i q x.ap x.apm n hE hi hn (by omega) (XF.out W' hb).le W' (h.below hb) (hp.below hb) (XF.out W' hb).cells)
  have HL := Lib.hid (nearP_len ns ps p i x.ap x.apm p.length)
  have HO := Lib.hid (nearP_others ns ps p i x.ap x.apm p.length)
  have HLe : Hid ((nearP ns ps p i x.ap x.apm p.length).length ≤ p.length) := Lib.hid (by rw [nearP_len]; exact aboutU_le ns ps p i x.ap x.apm false p.length)
  generalize nearP ns ps p i x.ap x.apm p.length = M at KN HL HO HLe
  generalize ofU ns ps os p 5 i = R at E ⊢
  clear h hp hE hi hx hn hxm tf1 tf2
  go_enter Tryz.func197, Tryz.ntmps197
  obtain ⟨W, hW⟩ : ∃ W, (w.alloc (.cells (viewC A (some ⟨b, o, none⟩) C P ca cb cc cp ns ps os p) 170)) = W := ⟨_, rfl⟩
  rw [hW] at B0 S0
  go_upto_region 1 with fail
  try rw [show (w.alloc (.cells #[.slice A ns.length ca, .slice (some ⟨b, o, none⟩) ps.length cb, .slice C os.length cc, .slice P p.length cp] 170)) = W from hW]
  clear hW
  have B1 : Hid (Below w.heap.size w (W.alloc (.cells #[strV x.ap, .slice x.aap x.apm.length x.cap] 41))) := Lib.hid (B0.out.alloc B0.out.size _)
  have S1 : Hid (Blk (W.alloc (.cells #[strV x.ap, .slice x.aap x.apm.length x.cap] 41)) w.heap.size (viewC A (some ⟨b, o, none⟩) C P ca cb cc cp ns ps os p) 170) := Lib.hid (Blk.alloc S0.out _)
  have N1 : Hid (Blk (W.alloc (.cells #[strV x.ap, .slice x.aap x.apm.length x.cap] 41)) W.heap.size #[strV x.ap, .slice x.aap x.apm.length x.cap] 41) := Lib.hid (Blk.new W _ _)
  have z1 : W.cell? ⟨w.heap.size, 1, none⟩ = some (.slice (some ⟨b, o, none⟩) ps.length cb) := Blk.cell S0.out 1
  obtain ⟨x0, x1⟩ := PC.out _ B0.out
  clear B0 S0
  go_upto_region 2 with fail
  try change Code.wp _ _ _ _ (W.alloc (.cells #[strV x.ap, .slice x.aap x.apm.length x.cap] 41))
  clear z1 x0 x1
  generalize (W.alloc (.cells #[strV x.ap, .slice x.aap x.apm.length x.cap] 41)) = V at B1 S1 N1 ⊢
  generalize W.heap.size = Nb at N1 ⊢
  have n0 : V.cell? ⟨Nb, 0, none⟩ = some (strV x.ap) := Blk.cell N1.out 0
  have n1 : V.cell? ⟨Nb, 1, none⟩ = some (.slice x.aap x.apm.length x.cap) := Blk.cell N1.out 1
  by_cases ht : x.ap = []
  case pos =>
    have HE : Hid (R = none) := Lib.hid (by rw [E.out]; simp [ht])
    rw [ht] at n0
    clear E KN HL HO
    go_wp2
    go_ret2
    rw [HE.out]
    exact ⟨rfl, B1.out⟩
  have htb : (x.ap == []) = false := by simpa using ht
  have HE : Hid (R = some (numL (fun x : Int => !decide (x = (i : Int))) M)) := Lib.hid (by rw [E.out, HO.out]; simp [ht])
  have z0 : V.cell? ⟨w.heap.size, 0, none⟩ = some (.slice A ns.length ca) := Blk.cell S1.out 0
  have z1 : V.cell? ⟨w.heap.size, 1, none⟩ = some (.slice (some ⟨b, o, none⟩) ps.length cb) := Blk.cell S1.out 1
  have z2 : V.cell? ⟨w.heap.size, 2, none⟩ = some (.slice C os.length cc) := Blk.cell S1.out 2
  have z3 : V.cell? ⟨w.heap.size, 3, none⟩ = some (.slice P p.length cp) := Blk.cell S1.out 3
  clear E HL HO ht
  go_wp2_with fail
  refine (KN.out _ B1.out).mono ?_
  rintro e w2 ⟨v, rfl, ho, hb⟩
  obtain ⟨G, cg, rfl, _⟩ := La.own_slice ho
  have O2 := Lib.hid (La.own_slat ho)
  have B2 := Lib.hid (B1.out.trans (hb.mono B1.out.size))
  have hml : M.length ≤ 1000 := by have := HLe.out; have := HPL.out; omega
  clear ho hb KN z0 z1 z2 z3 n0 n1 htb HLe
  go_wp2_with fail
  go_loopw [4, 24] (fun c j wr => w2 = wr ∧ ∃ k : Nat, k ≤ M.length ∧ j = .int .i64 (k : Int) ∧ c = .int .i64 ((numL (fun x : Int => !decide (x = (i : Int))) (M.take k) : Nat) : Int)) (fun _ j _ => M.length - (intOf j).toNat)
  case atStart => exact ⟨rfl, 0, by omega, rfl, rfl⟩
  case round =>
    obtain ⟨rfl, k, hk, rfl, rfl⟩ := hrel
    by_cases hlt : k < M.length
    case neg =>
      obtain rfl : k = M.length := by omega
      rw [List.take_length]
      go_wp2
      go_ret2
      rw [HE.out]
      exact ⟨rfl, B2.out⟩
    obtain ⟨y, hy⟩ : ∃ y, M[k]? = some y := ⟨M[k], List.getElem?_eq_getElem hlt⟩
    have HS := Lib.hid (numL_snoc (fun x : Int => !decide (x = (i : Int))) hy)
    have hnl := numL_le (fun x : Int => !decide (x = (i : Int))) (M.take k)
    rw [List.length_take] at hnl
    obtain ⟨g, og, hG, hc⟩ := O2.out k _ (by rw [List.getElem?_map, hy]; rfl)
    subst hG
    generalize numL (fun x : Int => !decide (x = (i : Int))) (M.take k) = m at HS hnl ⊢
    have k0 : (0 : Int) ≤ (k : Int) := by omega
    have k1 : (k : Int) < (M.length : Int) := by omega
    by_cases hyi : y = (i : Int)
    case pos =>
      have HF : Hid (numL (fun x : Int => !decide (x = (i : Int))) (M.take (k + 1)) = m) := Lib.hid (by rw [HS.out]; simp [hyi])
      have hb1 : (y != (i : Int)) = false := by simp [hyi]
      have hb2 : (y == (i : Int)) = true := by simp [hyi]
      clear HS hy
      subst hyi
      go_wp2_with fail
      go_roundw
      case rel => exact ⟨trivial, k + 1, by omega, by go_num, by rw [HF.out]⟩
      case measure => simp [intOf]; omega
    have HF : Hid (numL (fun x : Int => !decide (x = (i : Int))) (M.take (k + 1)) = m + 1) := Lib.hid (by rw [HS.out]; simp [hyi])
    have hb1 : (y != (i : Int)) = true := by simpa using hyi
    have hb2 : (y == (i : Int)) = false := by simpa using hyi
    have hwm : IntKind.i64.wrap ((m : Int) + 1) = (m : Int) + 1 := IntWalk.i64_in _ (by omega)
    clear HS hy
    go_wp2_with fail
    go_roundw
    case rel => exact ⟨trivial, k + 1, by omega, by go_num, by rw [HF.out]; simp⟩
    case measure => simp [intOf]; omega

end Go.Proofs.YtiiheajieegdkaaGreat

namespace Go.Proofs.YtiiheajieegdkaaGreat
open Go.RowKit

set_option maxRecDepth 100000 in
set_option maxHeartbeats 8000000 in
theorem overSkew_any (A B C P : Option Addr) (ca cb cc cp : Nat) (ns : List NodeD) (ps : List PodD) (os : List OwnD) (p : List Int) (ko : Nat) (xo : OwnD) (hxo : os[ko]? = some xo) (hsl : (spreadF ns ps os p (ko : Int)).length ≤ 1000) (w : World) (h : SnapAt w A B C ca cb cc ns ps os) (hp : IntsAt w P cp p) :
    Calls Tryz.prog 199 #[viewV A B C P ca cb cc cp ns ps os p, .int .i64 (ko : Int)] w fun e w' => e = .returned (.tuple #[.int .i64 ((if xo.topo = [] then none else some (skewO (spreadF ns ps os p (ko : Int)) xo.skew)).getD 0), .bool (if xo.topo = [] then none else some (skewO (spreadF ns ps os p (ko : Int)) xo.skew)).isSome]) ∧ Below w.heap.size w w' := by
  have q0 : (0 : Int) ≤ (ko : Int) := by omega
  have q1 : (ko : Int) < (os.length : Int) := by have := (List.getElem?_eq_some_iff.1 hxo).1; omega
  have B0 : Hid (Below w.heap.size w (w.alloc (.cells (viewC A B C P ca cb cc cp ns ps os p) 170))) := Lib.hid (below1 w _)
  have S0 : Hid (Blk (w.alloc (.cells (viewC A B C P ca cb cc cp ns ps os p) 170)) w.heap.size (viewC A B C P ca cb cc cp ns ps os p) 170) := Lib.hid (Blk.new w _ _)
  obtain ⟨bo, oo, hAo, hbo, _⟩ := atO h.o hxo
  subst hAo
  have OC := Lib.hid (fun W' (hb : Below w.heap.size w W') => atO (h.below hb).o hxo)
  have KP := Lib.hid (fun W' (hb : Below w.heap.size w W') => spread_any A B (some ⟨bo, oo, none⟩) P ca cb cc cp ns ps os p (ko : Int) W' (h.below hb) (hp.below hb))
  obtain ⟨R, hR⟩ : ∃ R, (if xo.topo = [] then none else some (skewO (spreadF ns ps os p (ko : Int)) xo.skew)) = R := ⟨_, rfl⟩
  have HR := Lib.hid hR
  rw [hR]
  have HSL := Lib.hid hsl
  generalize spreadF ns ps os p (ko : Int) = L at KP HR HSL
  clear h hp hxo hR hsl
  go_enter Tryz.func199, Tryz.ntmps199
  obtain ⟨W, hW⟩ : ∃ W, (w.alloc (.cells (viewC A B (some ⟨bo, oo, none⟩) P ca cb cc cp ns ps os p) 170)) = W := ⟨_, rfl⟩
  rw [hW] at B0 S0
  go_upto_region 1 with fail
  try rw [show (w.alloc (.cells #[.slice A ns.length ca, .slice B ps.length cb, .slice (some ⟨bo, oo, none⟩) os.length cc, .slice P p.length cp] 170)) = W from hW]
  clear hW
  have B1 : Hid (Below w.heap.size w (W.alloc (.cells #[strV xo.name, .int .i64 xo.min, strV xo.topo, .int .i64 xo.skew, .bool xo.single] 36))) := Lib.hid (B0.out.alloc B0.out.size _)
  have S1 : Hid (Blk (W.alloc (.cells #[strV xo.name, .int .i64 xo.min, strV xo.topo, .int .i64 xo.skew, .bool xo.single] 36)) w.heap.size (viewC A B (some ⟨bo, oo, none⟩) P ca cb cc cp ns ps os p) 170) := Lib.hid (Blk.alloc S0.out _)
  have N1 : Hid (Blk (W.alloc (.cells #[strV xo.name, .int .i64 xo.min, strV xo.topo, .int .i64 xo.skew, .bool xo.single] 36)) W.heap.size #[strV xo.name, .int .i64 xo.min, strV xo.topo, .int .i64 xo.skew, .bool xo.single] 36) := Lib.hid (Blk.new W _ _)
  have z2 : W.cell? ⟨w.heap.size, 2, none⟩ = some (.slice (some ⟨bo, oo, none⟩) os.length cc) := Blk.cell S0.out 2
  obtain ⟨b', o', e1, _, d0, d1, d2, d3, d4⟩ := OC.out _ B0.out
  cases e1
  clear B0 S0 OC
  go_upto_region 2 with fail
  try change Code.wp _ _ _ _ (W.alloc (.cells #[strV xo.name, .int .i64 xo.min, strV xo.topo, .int .i64 xo.skew, .bool xo.single] 36))
  clear z2 d0 d1 d2 d3 d4
  generalize (W.alloc (.cells #[strV xo.name, .int .i64 xo.min, strV xo.topo, .int .i64 xo.skew, .bool xo.single] 36)) = V at B1 S1 N1 ⊢
  generalize W.heap.size = Nb at N1 ⊢
  have n2 : V.cell? ⟨Nb, 2, none⟩ = some (strV xo.topo) := Blk.cell N1.out 2
  by_cases ht : xo.topo = []
  case pos =>
    have HE : Hid (R = none) := Lib.hid (by rw [← HR.out, if_pos ht])
    rw [ht] at n2
    clear HR KP
    go_wp2
    go_ret2
    rw [HE.out]
    exact ⟨rfl, B1.out⟩
  have htb : (xo.topo == []) = false := by simpa using ht
  have HE : Hid (R = some (skewO L xo.skew)) := Lib.hid (by rw [← HR.out, if_neg ht])
  have z0 : V.cell? ⟨w.heap.size, 0, none⟩ = some (.slice A ns.length ca) := Blk.cell S1.out 0
  have z1 : V.cell? ⟨w.heap.size, 1, none⟩ = some (.slice B ps.length cb) := Blk.cell S1.out 1
  have z2 : V.cell? ⟨w.heap.size, 2, none⟩ = some (.slice (some ⟨bo, oo, none⟩) os.length cc) := Blk.cell S1.out 2
  have z3 : V.cell? ⟨w.heap.size, 3, none⟩ = some (.slice P p.length cp) := Blk.cell S1.out 3
  clear HR ht
  go_wp2_with fail
  refine (KP.out _ B1.out).mono ?_
  rintro e w2 ⟨v, rfl, ho, hb⟩
  obtain ⟨G, cg, rfl, _⟩ := La.own_slice ho
  have O2 := Lib.hid (La.own_slat ho)
  have B2 := Lib.hid (B1.out.trans (hb.mono B1.out.size))
  have n3 : w2.cell? ⟨Nb, 3, none⟩ = some (.int .i64 xo.skew) := Blk.cell (N1.out.below hb N1.out.lt) 3
  clear ho hb KP z0 z1 z2 z3 n2 htb S1 N1 B1
  by_cases hl : L = []
  case pos =>
    subst hl
    have HE2 : Hid (R = some 0) := Lib.hid (by rw [HE.out]; rfl)
    clear HE
    go_wp2
    go_ret2
    rw [HE2.out]
    exact ⟨rfl, B2.out⟩
  have hlp : 0 < L.length := List.length_pos_iff.2 hl
  obtain ⟨g, og, hG, _⟩ := O2.out 0 (.int .i64 (L.getD 0 0)) (by
    rw [show intsC L = L.map (Value.int .i64) from rfl, List.getElem?_map, List.getElem?_eq_getElem hlp]
    simp [List.getD, List.getElem?_eq_getElem hlp])
  subst hG
  have HLc : Hid (∀ W', Below w2.heap.size w2 W' → ∀ j, j < L.length → W'.cell? ⟨g, og + j, none⟩ = some (.int .i64 (L.getD j 0))) := Lib.hid (fun W' hb j hj => by
    obtain ⟨g', o', e, hc⟩ := (La.SlAt.below O2.out hb) j (.int .i64 (L.getD j 0)) (by
      rw [show intsC L = L.map (Value.int .i64) from rfl, List.getElem?_map, List.getElem?_eq_getElem hj]
      simp [List.getD, List.getElem?_eq_getElem hj])
    cases e
    exact hc)
  have KMx := Lib.hid (fun W' (hb : Below w2.heap.size w2 W') => Tryz.slices_Max_int g og L.length cg L W' hlp (Nat.le_refl _) (by have := HSL.out; omega) (HLc.out W' hb))
  have KMn := Lib.hid (fun W' (hb : Below w2.heap.size w2 W') => Tryz.slices_Min_int g og L.length cg L W' hlp (Nat.le_refl _) (by have := HSL.out; omega) (HLc.out W' hb))
  have HE2 : Hid (R = some (max 0 (wrap64 (wrap64 (Lib.maxOf (L.take L.length) - Lib.minOf (L.take L.length)) - xo.skew)))) := Lib.hid (by
    rw [HE.out, List.take_length]
    unfold skewO
    rw [if_neg hl]
    rfl)
  have hmb : ((L.length : Int) == 0) = false := by rw [beq_eq_false_iff_ne]; omega
  have hmi : ¬ (L.length : Int) = 0 := by omega
  have hmd : decide (L.length = 0) = false := decide_eq_false (by omega)
  generalize Lib.maxOf (L.take L.length) = mx at KMx HE2
  generalize Lib.minOf (L.take L.length) = mn at KMn HE2
  clear HE hl HLc
  go_upto_region 7 with fail
  have n3d : w2.drew.cell? ⟨Nb, 3, none⟩ = some (.int .i64 xo.skew) := n3
  go_region_held3 (fun w' => w'.cell? ⟨Nb, 3, none⟩ = some (.int .i64 xo.skew)) (first | exact n3d | exact n3)
    (first
      | (go_at_call 243
         refine (KMx.out _ (by first | exact Below.refl _ _ | exact (Below.refl _ _).drew)).mono ?_
         rintro e wA ⟨rfl, rfl⟩)
      | (go_at_call 244
         refine (KMn.out _ (by first | exact Below.refl _ _ | exact (Below.refl _ _).drew)).mono ?_
         rintro e wA ⟨rfl, rfl⟩))
  all_goals
    go_wp2
    go_ret2
    rw [HE2.out]
    refine ⟨?_, by first | exact B2.out | exact B2.out.drew⟩
    have e1 : ∀ z, wrap64 z = IntKind.i64.wrap z := fun z => (IntWalk.i64_left _).symm
    rw [e1, e1]
    rfl
end Go.Proofs.YtiiheajieegdkaaGreat

namespace Go.Proofs.YtiiheajieegdkaaGreat
open Go.RowKit

set_option maxRecDepth 100000 in
set_option maxHeartbeats 8000000 in
theorem double_any (A B C P : Option Addr) (ca cb cc cp : Nat) (ns : List NodeD) (ps : List PodD) (os : List OwnD) (p : List Int) (i q : Nat) (x : PodD) (n : NodeD) (hE : placeE ns ps os p = 0) (hi : p[i]? = some (q : Int)) (hx : ps[i]? = some x) (hn : ns[q]? = some n) (w : World) (h : SnapAt w A B C ca cb cc ns ps os) (hp : IntsAt w P cp p) :
    Calls Tryz.prog 198 #[viewV A B C P ca cb cc cp ns ps os p, .int .i64 (i : Int)] w fun e w' => e = .returned (.tuple #[.int .i64 (((ofU ns ps os p 6 i).getD 0 : Nat) : Int), .bool (ofU ns ps os p 6 i).isSome]) ∧ Below w.heap.size w w' := by
  have hck := placeE_chk hE
  obtain ⟨on1, on2⟩ := own_names hck
  have hlp := h.lp
  have HPL := Lib.hid (placeE_len hE)
  have E0 := ofU_at (os := os) (kind := 6) hi hx hn
  have HSg : Hid (ofU ns ps os p 6 i = if os.any (singleP x.owner) then some (doubU ps p i p.length) else none) := Lib.hid (by
    rw [E0, if_neg (by omega), if_neg (by omega), if_neg (by omega), if_neg (by omega)]
    by_cases ho : x.owner = []
    · rw [if_pos ho, ho, single_none on1]
      rfl
    · rw [if_neg ho, single_is on2])
  have B0 : Hid (Below w.heap.size w (w.alloc (.cells (viewC A B C P ca cb cc cp ns ps os p) 170))) := Lib.hid (below1 w _)
  have S0 : Hid (Blk (w.alloc (.cells (viewC A B C P ca cb cc cp ns ps os p) 170)) w.heap.size (viewC A B C P ca cb cc cp ns ps os p) 170) := Lib.hid (Blk.new w _ _)
  have i0 : (0 : Int) ≤ (i : Int) := by omega
  have i1 : (i : Int) < (p.length : Int) := by have := (List.getElem?_eq_some_iff.1 hi).1; omega
  have i2 : (i : Int) < (ps.length : Int) := by have := (List.getElem?_eq_some_iff.1 hx).1; omega
  obtain ⟨b, o, hB, _⟩ := atP h.p.cells hx
  subst hB
  obtain ⟨bp, op, hAp, _, _⟩ := atI hp.cells hi
  subst hAp
  have HPC : Hid (∀ W', Below w.heap.size w W' → ∀ (k : Nat) (x : Int), p[k]? = some x → W'.cell? ⟨bp, op + k, none⟩ = some (.int .i64 x)) := Lib.hid (fun W' hb k x hk => by
    obtain ⟨b', o', hA', _, hc⟩ := atI (hp.below hb).cells hk
    cases hA'
    exact hc)
  have PC : Hid (∀ W', Below w.heap.size w W' → ∀ (k : Nat) (x : PodD), ps[k]? = some x → W'.cell? ⟨b, o + k * 15 + 1, none⟩ = some (strV x.owner)) := Lib.hid (fun W' hb k x hk => by
    obtain ⟨b', o', hA', _, c0, c1, _⟩ := atP (h.below hb).p.cells hk
    cases hA'
    exact c1)
  have KS := Lib.hid (fun W' (hb : Below w.heap.size w W') => isSingle_any A (some ⟨b, o, none⟩) C (some ⟨bp, op, none⟩) ca cb cc cp ns ps os p x.owner W' (h.below hb))
  have HD : Hid (∀ k, doubU ps p i (k + 1) = doubU ps p i k + (if k ≠ i ∧ p[k]? = p[i]? ∧ (ps[k]?).map (·.owner) = (ps[i]?).map (·.owner) then 1 else 0)) := Lib.hid (fun k => rfl)
  have HDL : Hid (∀ k, doubU ps p i k ≤ k) := Lib.hid (doubU_le ps p i)
  have HD0 : Hid (doubU ps p i 0 = 0) := Lib.hid rfl
  have HI := Lib.hid hi
  have HX := Lib.hid hx
  generalize doubU ps p i = DU at HSg HD HDL HD0
  generalize os.any (singleP x.owner) = sg at KS HSg
  generalize ofU ns ps os p 6 i = R at HSg ⊢
  clear h hp hE hi hx hn hck on1 on2 E0
  go_enter Tryz.func198, Tryz.ntmps198
  obtain ⟨W, hW⟩ : ∃ W, (w.alloc (.cells (viewC A (some ⟨b, o, none⟩) C (some ⟨bp, op, none⟩) ca cb cc cp ns ps os p) 170)) = W := ⟨_, rfl⟩
  rw [hW] at B0 S0
  go_upto_region 1 with fail
  try rw [show (w.alloc (.cells #[.slice A ns.length ca, .slice (some ⟨b, o, none⟩) ps.length cb, .slice C os.length cc, .slice (some ⟨bp, op, none⟩) p.length cp] 170)) = W from hW]
  clear hW
  have HZ := Lib.hid (fun W' (hb : Below W.heap.size W W') => (show W'.cell? ⟨w.heap.size, 0, none⟩ = some (.slice A ns.length ca) ∧ W'.cell? ⟨w.heap.size, 1, none⟩ = some (.slice (some ⟨b, o, none⟩) ps.length cb) ∧ W'.cell? ⟨w.heap.size, 2, none⟩ = some (.slice C os.length cc) ∧ W'.cell? ⟨w.heap.size, 3, none⟩ = some (.slice (some ⟨bp, op, none⟩) p.length cp) from ⟨Blk.cell (S0.out.below hb S0.out.lt) 0, Blk.cell (S0.out.below hb S0.out.lt) 1, Blk.cell (S0.out.below hb S0.out.lt) 2, Blk.cell (S0.out.below hb S0.out.lt) 3⟩))
  have HT := Lib.hid (fun W' (hb : Below W.heap.size W W') => B0.out.trans (hb.mono B0.out.size))
  obtain ⟨z0, z1, z2, z3⟩ := HZ.out _ (Below.refl _ W)
  have x1 := PC.out _ B0.out i _ HX.out
  go_wp2_with fail
  refine (KS.out _ B0.out).mono ?_
  rintro e w1 ⟨rfl, hb1⟩
  have HB1 := Lib.hid (show Below W.heap.size W w1 from hb1)
  clear hb1 z0 z1 z2 z3 x1 KS B0 S0
  obtain ⟨z0, z1, z2, z3⟩ := HZ.out _ HB1.out
  cases sg with
  | false =>
    have HE : Hid (R = none) := HSg
    clear HSg HD
    go_wp2
    go_ret2
    rw [HE.out]
    exact ⟨rfl, HT.out _ HB1.out⟩
  | true =>
    have HE : Hid (R = some (DU p.length)) := HSg
    clear HSg
    go_wp2_with fail
    clear z0 z1 z2 z3
    go_loopw [4, 23] (fun c j wr => ∃ k : Nat, k ≤ p.length ∧ j = .int .i64 (k : Int) ∧ c = .int .i64 ((DU k : Nat) : Int) ∧ Below W.heap.size W wr) (fun _ j _ => p.length - (intOf j).toNat)
    case atStart => exact ⟨0, by omega, rfl, by rw [HD0.out]; rfl, HB1.out⟩
    case round =>
      clear HB1
      obtain ⟨k, hk, rfl, rfl, hb⟩ := hrel
      have HB := Lib.hid hb
      clear hb
      by_cases hlt : k < p.length
      case neg =>
        obtain rfl : k = p.length := by omega
        go_wp2
        go_ret2
        rw [HE.out]
        exact ⟨rfl, HT.out _ HB.out⟩
      obtain ⟨v, hv⟩ : ∃ v, p[k]? = some v := ⟨p[k], List.getElem?_eq_getElem hlt⟩
      obtain ⟨y, hy⟩ : ∃ y, ps[k]? = some y := ⟨ps[k]'(by have := HPL.out; omega), List.getElem?_eq_getElem _⟩
      obtain ⟨z0, z1, z2, z3⟩ := HZ.out _ HB.out
      have pk := HPC.out _ (HT.out _ HB.out) k _ hv
      have pi := HPC.out _ (HT.out _ HB.out) i _ HI.out
      have yk := PC.out _ (HT.out _ HB.out) k _ hy
      have k0 : (0 : Int) ≤ (k : Int) := by omega
      have k1 : (k : Int) < (p.length : Int) := by omega
      have k2 : (k : Int) < (ps.length : Int) := by have := HPL.out; omega
      have Hd := Lib.hid (HD.out k)
      rw [hv, hy, HI.out, HX.out] at Hd
      have hdl := HDL.out k
      generalize DU k = m at Hd hdl ⊢
      clear hv hy
      by_cases h1 : k = i
      case pos =>
        have hE2 : Hid (DU (k + 1) = m) := Lib.hid (by rw [Hd.out, if_neg (fun h => h.1 h1)]; rfl)
        have e1 : ((k : Int) != (i : Int)) = false := by simp [h1]
        have e2 : ((k : Int) == (i : Int)) = true := by simp [h1]
        have e3 : (k : Int) = (i : Int) := by omega
        have e4 : (k == i) = true := by simp [h1]
        have e5 : (k != i) = false := by simp [h1]
        clear Hd
        subst h1
        clear e2 e3 e4
        go_wp2_with fail
        go_roundw
        case rel => exact ⟨k + 1, by omega, by go_num, by rw [hE2.out], HB.out⟩
        case measure => simp [intOf]; omega
      have e1 : ((k : Int) != (i : Int)) = true := by simp; omega
      have e2 : ((k : Int) == (i : Int)) = false := by simp; omega
      have e3 : ¬ (k : Int) = (i : Int) := by omega
      have e4 : (k == i) = false := by simpa using h1
      have e5 : (k != i) = true := by simpa using h1
      have e6 : decide (k = i) = false := decide_eq_false h1
      by_cases h2 : v = (q : Int)
      case neg =>
        have hE2 : Hid (DU (k + 1) = m) := Lib.hid (by rw [Hd.out, if_neg (fun h => h2 (Option.some.inj h.2.1))]; rfl)
        have f1 : (v == (q : Int)) = false := by simpa using h2
        have f2 : decide (v = (q : Int)) = false := decide_eq_false h2
        clear Hd
        go_wp2_with fail
        go_roundw
        case rel => exact ⟨k + 1, by omega, by go_num, by rw [hE2.out], HB.out⟩
        case measure => simp [intOf]; omega
      subst h2
      by_cases h3 : y.owner = x.owner
      case neg =>
        have hE2 : Hid (DU (k + 1) = m) := Lib.hid (by rw [Hd.out, if_neg (fun h => h3 (Option.some.inj h.2.2))]; rfl)
        have f1 : (y.owner == x.owner) = false := by simpa using h3
        clear Hd h3
        go_wp2_with fail
        go_roundw
        case rel => exact ⟨k + 1, by omega, by go_num, by rw [hE2.out], HB.out⟩
        case measure => simp [intOf]; omega
      have hE2 : Hid (DU (k + 1) = m + 1) := Lib.hid (by rw [Hd.out, if_pos ⟨h1, rfl, by simp [h3]⟩])
      have f1 : (y.owner == x.owner) = true := by simpa using h3
      have hwm : IntKind.i64.wrap ((m : Int) + 1) = (m : Int) + 1 := IntWalk.i64_in _ (by have := HPL.out; omega)
      clear Hd h3
      go_wp2_with fail
      go_roundw
      case rel => exact ⟨k + 1, by omega, by go_num, by rw [hE2.out]; simp, HB.out⟩
      case measure => simp [intOf]; omega
end Go.Proofs.YtiiheajieegdkaaGreat

namespace Go.Proofs.YtiiheajieegdkaaGreat
open Go.RowKit

/-- A subject of a placement. -/
def SubOk (ns : List NodeD) (os : List OwnD) (p : List Int) : Sub → Prop
  | .node n q => n < ns.length ∧ q < 5
  | .pod i => i < p.length ∧ p[i]? ≠ some (-1)
  | .owner o => o < os.length
theorem subs_ok (ns : List NodeD) (os : List OwnD) (p : List Int) : ∀ s ∈ subsU ns os p, SubOk ns os p s := by
  have h1 : ∀ k, k ≤ ns.length → ∀ s ∈ nodesS k, SubOk ns os p s := by
    intro k
    induction k with
    | zero => intro _ s h; simp [nodesS] at h
    | succ k ih =>
      intro hk s h
      rw [nodesS, List.mem_append] at h
      rcases h with h | h
      · exact ih (by omega) s h
      · obtain ⟨q, hq, rfl⟩ := List.mem_map.1 h
        exact ⟨by omega, by simpa using hq⟩
  have h2 : ∀ k, k ≤ p.length → ∀ s ∈ podsS p k, SubOk ns os p s := by
    intro k
    induction k with
    | zero => intro _ s h; simp [podsS] at h
    | succ k ih =>
      intro hk s h
      rw [podsS, List.mem_append] at h
      rcases h with h | h
      · exact ih (by omega) s h
      · unfold podS at h
        split at h
        · simp at h
        · rename_i hn
          simp at h
          subst h
          exact ⟨by omega, hn⟩
  have h3 : ∀ k, k ≤ os.length → ∀ s ∈ ownersS k, SubOk ns os p s := by
    intro k
    induction k with
    | zero => intro _ s h; simp [ownersS] at h
    | succ k ih =>
      intro hk s h
      rw [ownersS, List.mem_append] at h
      rcases h with h | h
      · exact ih (by omega) s h
      · simp at h
        subst h
        show k < os.length
        omega
  intro s h
  unfold subsU at h
  simp only [List.mem_append] at h
  rcases h with (h | h) | h
  · exact h1 _ (Nat.le_refl _) s h
  · exact h2 _ (Nat.le_refl _) s h
  · exact h3 _ (Nat.le_refl _) s h

abbrev byR (ns : List NodeD) (ps : List PodD) (os : List OwnD) (p : List Int) (kind : Nat) (s : Sub) : Value := .tuple #[.int .i64 ((byU ns ps os p kind s).getD 0), .bool (byU ns ps os p kind s).isSome]

set_option maxRecDepth 100000 in
set_option maxHeartbeats 8000000 in
theorem by_any (A B C P : Option Addr) (ca cb cc cp : Nat) (ns : List NodeD) (ps : List PodD) (os : List OwnD) (p : List Int) (kind : Nat) (hk1 : 1 ≤ kind) (hk8 : kind ≤ 8) (s : Sub) (hs : SubOk ns os p s) (hE : placeE ns ps os p = 0) (hsl : ∀ k : Int, (spreadF ns ps os p k).length ≤ 1000) (w : World) (h : SnapAt w A B C ca cb cc ns ps os) (hp : IntsAt w P cp p) :
    Calls Tryz.prog 143 #[ruleV kind, viewV A B C P ca cb cc cp ns ps os p, subV s] w fun e w' => e = .returned (byR ns ps os p kind s) ∧ Below w.heap.size w w' := by
  cases s with
  | node n q =>
    obtain ⟨hn, hq⟩ := hs
    obtain ⟨x, hx⟩ : ∃ x, ns[n]? = some x := ⟨ns[n], List.getElem?_eq_getElem hn⟩
    by_cases e1 : kind = 1
    · subst e1
      have hr : byR ns ps os p 1 (.node n q) = .tuple #[.int .i64 (max 0 (wrap64 (addW ps (onU p (n : Int) p.length) q - x.cap q))), .bool true] := by simp [byR, byU, hx]
      rw [hr]
      exact byNode_any A B C P ca cb cc cp ns ps os p .nilFunc .nilFunc n q 193 (fun _ _ => by kernel_rfl) _ _ w (fun W' hb => overCap_any A B C P ca cb cc cp ns ps os p n q x hE hx hq W' (h.below hb) (hp.below hb))
    · have hr : byR ns ps os p kind (.node n q) = .tuple #[.int .i64 0, .bool false] := by simp [byR, byU, e1]
      rw [hr]
      have hsh : ∃ f1 f2, ruleV kind = .agg #[.nilFunc, f1, f2] := by
        match kind, hk1, hk8, e1 with
        | 2, _, _, _ => exact ⟨_, _, rfl⟩
        | 3, _, _, _ => exact ⟨_, _, rfl⟩
        | 4, _, _, _ => exact ⟨_, _, rfl⟩
        | 5, _, _, _ => exact ⟨_, _, rfl⟩
        | 6, _, _, _ => exact ⟨_, _, rfl⟩
        | 7, _, _, _ => exact ⟨_, _, rfl⟩
        | 8, _, _, _ => exact ⟨_, _, rfl⟩
      obtain ⟨f1, f2, hv⟩ := hsh
      rw [hv]
      exact byNode_no A B C P ca cb cc cp ns ps os p f1 f2 n q w
  | pod i =>
    obtain ⟨hi, hw⟩ := hs
    obtain ⟨v, hv⟩ : ∃ v, p[i]? = some v := ⟨p[i], List.getElem?_eq_getElem hi⟩
    obtain ⟨q, rfl, hq⟩ := tpB_lt (placeE_on hE hv (fun e => hw (by rw [hv, e])))
    obtain ⟨x, hx⟩ : ∃ x, ps[i]? = some x := ⟨ps[i]'(by have := placeE_len hE; omega), List.getElem?_eq_getElem _⟩
    obtain ⟨n, hn⟩ : ∃ x, ns[q]? = some x := ⟨ns[q], List.getElem?_eq_getElem hq⟩
    by_cases e1 : 2 ≤ kind ∧ kind ≤ 6
    · have hr : byR ns ps os p kind (.pod i) = .tuple #[.int .i64 (((ofU ns ps os p kind i).getD 0 : Nat) : Int), .bool (ofU ns ps os p kind i).isSome] := by
        simp only [byR, byU, if_pos e1]
        cases ofU ns ps os p kind i <;> rfl
      rw [hr]
      have E := ofU_at (os := os) (kind := kind) hv hx hn
      match kind, e1, E with
      | 2, _, E =>
        have E2 : ofU ns ps os p 2 i = some (termsO x.whr n.labels) := E
        rw [E2]
        exact byPod_any A B C P ca cb cc cp ns ps os p .nilFunc .nilFunc i 194 (fun _ _ => by kernel_rfl) _ _ w (fun W' hb => notWhere_any A B C P ca cb cc cp ns ps os p i q x n hE hv hx hn W' (h.below hb) (hp.below hb))
      | 3, _, E =>
        have E2 : ofU ns ps os p 3 i = some (taintsO n.taints x.bears) := E
        rw [E2]
        exact byPod_any A B C P ca cb cc cp ns ps os p .nilFunc .nilFunc i 195 (fun _ _ => by kernel_rfl) _ _ w (fun W' hb => notBorne_any A B C P ca cb cc cp ns ps os p i q x n hE hv hx hn W' (h.below hb) (hp.below hb))
      | 4, _, E => exact byPod_any A B C P ca cb cc cp ns ps os p .nilFunc .nilFunc i 196 (fun _ _ => by kernel_rfl) _ _ w (fun W' hb => alone_any A B C P ca cb cc cp ns ps os p i q x n hE hv hx hn W' (h.below hb) (hp.below hb))
      | 5, _, E => exact byPod_any A B C P ca cb cc cp ns ps os p .nilFunc .nilFunc i 197 (fun _ _ => by kernel_rfl) _ _ w (fun W' hb => notApart_any A B C P ca cb cc cp ns ps os p i q x n hE hv hx hn W' (h.below hb) (hp.below hb))
      | 6, _, E => exact byPod_any A B C P ca cb cc cp ns ps os p .nilFunc .nilFunc i 198 (fun _ _ => by kernel_rfl) _ _ w (fun W' hb => double_any A B C P ca cb cc cp ns ps os p i q x n hE hv hx hn W' (h.below hb) (hp.below hb))
    · have hr : byR ns ps os p kind (.pod i) = .tuple #[.int .i64 0, .bool false] := by simp [byR, byU, e1]
      rw [hr]
      have hsh : ∃ f1 f2, ruleV kind = .agg #[f1, .nilFunc, f2] := by
        match kind, hk1, hk8, e1 with
        | 1, _, _, _ => exact ⟨_, _, rfl⟩
        | 7, _, _, _ => exact ⟨_, _, rfl⟩
        | 8, _, _, _ => exact ⟨_, _, rfl⟩
        | 2, _, _, h => exact absurd ⟨by omega, by omega⟩ h
        | 3, _, _, h => exact absurd ⟨by omega, by omega⟩ h
        | 4, _, _, h => exact absurd ⟨by omega, by omega⟩ h
        | 5, _, _, h => exact absurd ⟨by omega, by omega⟩ h
        | 6, _, _, h => exact absurd ⟨by omega, by omega⟩ h
      obtain ⟨f1, f2, hv2⟩ := hsh
      rw [hv2]
      exact byPod_no A B C P ca cb cc cp ns ps os p f1 f2 i w
  | owner o =>
    have ho : o < os.length := hs
    obtain ⟨x, hx⟩ : ∃ x, os[o]? = some x := ⟨os[o], List.getElem?_eq_getElem ho⟩
    by_cases e7 : kind = 7
    · subst e7
      have hr : byR ns ps os p 7 (.owner o) = .tuple #[.int .i64 ((if x.topo = [] then none else some (skewO (spreadF ns ps os p (o : Int)) x.skew)).getD 0), .bool (if x.topo = [] then none else some (skewO (spreadF ns ps os p (o : Int)) x.skew)).isSome] := by simp [byR, byU, hx]
      rw [hr]
      exact byOwner_any A B C P ca cb cc cp ns ps os p .nilFunc .nilFunc o 199 (fun _ _ => by kernel_rfl) _ _ w (fun W' hb => overSkew_any A B C P ca cb cc cp ns ps os p o x hx (hsl _) W' (h.below hb) (hp.below hb))
    by_cases e8 : kind = 8
    · subst e8
      have hr : byR ns ps os p 8 (.owner o) = .tuple #[.int .i64 (max 0 (wrap64 (x.min - placedF ns ps os p (o : Int)))), .bool true] := by simp [byR, byU, hx]
      rw [hr]
      exact byOwner_any A B C P ca cb cc cp ns ps os p .nilFunc .nilFunc o 200 (fun _ _ => by kernel_rfl) _ _ w (fun W' hb => belowMin_any A B C P ca cb cc cp ns ps os p o x hx W' (h.below hb) (hp.below hb))
    have hr : byR ns ps os p kind (.owner o) = .tuple #[.int .i64 0, .bool false] := by simp [byR, byU, e7, e8]
    rw [hr]
    have hsh : ∃ f1 f2, ruleV kind = .agg #[f1, f2, .nilFunc] := by
      match kind, hk1, hk8, e7, e8 with
      | 1, _, _, _, _ => exact ⟨_, _, rfl⟩
      | 2, _, _, _, _ => exact ⟨_, _, rfl⟩
      | 3, _, _, _, _ => exact ⟨_, _, rfl⟩
      | 4, _, _, _, _ => exact ⟨_, _, rfl⟩
      | 5, _, _, _, _ => exact ⟨_, _, rfl⟩
      | 6, _, _, _, _ => exact ⟨_, _, rfl⟩
      | 7, _, _, h, _ => exact absurd rfl h
      | 8, _, _, _, h => exact absurd rfl h
    obtain ⟨f1, f2, hv⟩ := hsh
    rw [hv]
    exact byOwner_no A B C P ca cb cc cp ns ps os p f1 f2 o w
end Go.Proofs.YtiiheajieegdkaaGreat

namespace Go.Proofs.YtiiheajieegdkaaGreat
open Go.RowKit

theorem spread_few {ns : List NodeD} {ps : List PodD} {os : List OwnD} {p : List Int} (hln : ns.length ≤ 1000) (hlp : ps.length ≤ 1000) (k : Int) : (spreadF ns ps os p k).length ≤ 1000 := by
  cases hR : ownerB ns ps os p k with
  | false =>
    unfold spreadF
    rw [hR]
    simp
  | true =>
    obtain ⟨ko, xo, rfl, hxo, hE, _, _, hC⟩ := owned_is hR
    rw [hC, spread_is ns xo.topo p (offL p (membersF ps xo.name)) (Nat.le_trans (offL_len p _) (Nat.le_trans (membersU_len ps xo.name _) hlp)) (off_in hE xo.name), List.length_map]
    exact Nat.le_trans (domsR_len ns xo.topo ns.length) hln

set_option maxRecDepth 100000 in
set_option maxHeartbeats 2000000 in
theorem numbers_ofNode (n q : Nat) (w : World) :
    Calls Tryz.prog 330 #[.agg #[.int .i64 (n : Int), .int .i64 (q : Int)]] w fun e w' => e = .returned (.tuple #[.int .i64 (n : Int), (.int .i64 (q : Int))]) ∧ Below w.heap.size w w' := by
  have B0 : Hid (Below w.heap.size w (w.alloc (.cells #[.int .i64 (n : Int), .int .i64 (q : Int)] 224))) := Lib.hid (below1 w _)
  have S0 : Hid (Blk (w.alloc (.cells #[.int .i64 (n : Int), .int .i64 (q : Int)] 224)) w.heap.size #[.int .i64 (n : Int), .int .i64 (q : Int)] 224) := Lib.hid (Blk.new w _ _)
  go_enter Tryz.func330, Tryz.ntmps330
  go_upto_region 1 with fail
  try change Code.wp _ _ _ _ (w.alloc (.cells #[.int .i64 (n : Int), .int .i64 (q : Int)] 224))
  generalize (w.alloc (.cells #[.int .i64 (n : Int), .int .i64 (q : Int)] 224)) = W at B0 S0 ⊢
  have k0 : W.cell? ⟨w.heap.size, 0, none⟩ = some (.int .i64 (n : Int)) := Blk.cell S0.out 0
  have j0 : W.drew.cell? ⟨w.heap.size, 0, none⟩ = some (.int .i64 (n : Int)) := Blk.cell S0.out 0
  have k1 : W.cell? ⟨w.heap.size, 1, none⟩ = some (.int .i64 (q : Int)) := Blk.cell S0.out 1
  have j1 : W.drew.cell? ⟨w.heap.size, 1, none⟩ = some (.int .i64 (q : Int)) := Blk.cell S0.out 1
  (try go_region)
  all_goals
    go_wp2
    go_ret2
    exact ⟨rfl, by first | exact B0.out | exact B0.out.drew⟩

set_option maxRecDepth 100000 in
set_option maxHeartbeats 2000000 in
theorem numbers_ofPod (i : Nat) (w : World) :
    Calls Tryz.prog 331 #[.agg #[.int .i64 (i : Int)]] w fun e w' => e = .returned (.tuple #[.int .i64 (i : Int), (.int .i64 0)]) ∧ Below w.heap.size w w' := by
  have B0 : Hid (Below w.heap.size w (w.alloc (.cells #[.int .i64 (i : Int)] 226))) := Lib.hid (below1 w _)
  have S0 : Hid (Blk (w.alloc (.cells #[.int .i64 (i : Int)] 226)) w.heap.size #[.int .i64 (i : Int)] 226) := Lib.hid (Blk.new w _ _)
  go_enter Tryz.func331, Tryz.ntmps331
  go_upto_region 1 with fail
  try change Code.wp _ _ _ _ (w.alloc (.cells #[.int .i64 (i : Int)] 226))
  generalize (w.alloc (.cells #[.int .i64 (i : Int)] 226)) = W at B0 S0 ⊢
  have k0 : W.cell? ⟨w.heap.size, 0, none⟩ = some (.int .i64 (i : Int)) := Blk.cell S0.out 0
  have j0 : W.drew.cell? ⟨w.heap.size, 0, none⟩ = some (.int .i64 (i : Int)) := Blk.cell S0.out 0
  (try go_region)
  all_goals
    go_wp2
    go_ret2
    exact ⟨rfl, by first | exact B0.out | exact B0.out.drew⟩

set_option maxRecDepth 100000 in
set_option maxHeartbeats 2000000 in
theorem numbers_ofOwner (o : Nat) (w : World) :
    Calls Tryz.prog 332 #[.agg #[.int .i64 (o : Int)]] w fun e w' => e = .returned (.tuple #[.int .i64 (o : Int), (.int .i64 0)]) ∧ Below w.heap.size w w' := by
  have B0 : Hid (Below w.heap.size w (w.alloc (.cells #[.int .i64 (o : Int)] 228))) := Lib.hid (below1 w _)
  have S0 : Hid (Blk (w.alloc (.cells #[.int .i64 (o : Int)] 228)) w.heap.size #[.int .i64 (o : Int)] 228) := Lib.hid (Blk.new w _ _)
  go_enter Tryz.func332, Tryz.ntmps332
  go_upto_region 1 with fail
  try change Code.wp _ _ _ _ (w.alloc (.cells #[.int .i64 (o : Int)] 228))
  generalize (w.alloc (.cells #[.int .i64 (o : Int)] 228)) = W at B0 S0 ⊢
  have k0 : W.cell? ⟨w.heap.size, 0, none⟩ = some (.int .i64 (o : Int)) := Blk.cell S0.out 0
  have j0 : W.drew.cell? ⟨w.heap.size, 0, none⟩ = some (.int .i64 (o : Int)) := Blk.cell S0.out 0
  (try go_region)
  all_goals
    go_wp2
    go_ret2
    exact ⟨rfl, by first | exact B0.out | exact B0.out.drew⟩

end Go.Proofs.YtiiheajieegdkaaGreat

namespace Go.Proofs.YtiiheajieegdkaaGreat
open Go.RowKit

/-- A clause whose By is not known yet. -/
def zb (c : ClT) : ClT := (c.1, c.2.1, c.2.2.1, 0)
/-- The clauses of a placement that are asked for. -/
def lookF (ns : List NodeD) (ps : List PodD) (os : List OwnD) (p : List Int) (f : ClT → Bool) : List ClT := (all8 ns ps os p).filter (fun c => f (zb c))
theorem lookF_is {ns : List NodeD} {ps : List PodD} {os : List OwnD} {p : List Int} (hE : placeE ns ps os p = 0) (f : ClT → Bool) : lookF ns ps os p f = (lookK ns ps os p 8).filter (fun c => f (zb c)) := by
  unfold lookF all8
  rw [if_pos hE, look_is]
/-- What one subject adds. -/
def oneK (ns : List NodeD) (ps : List PodD) (os : List OwnD) (p : List Int) (f : ClT → Bool) (k : Nat) (s : Sub) : List ClT := if f ((k : Int), (s.a : Int), (s.b : Int), 0) then (match byU ns ps os p k s with | some b => [((k : Int), (s.a : Int), (s.b : Int), b)] | none => []) else []
def someK (ns : List NodeD) (ps : List PodD) (os : List OwnD) (p : List Int) (f : ClT → Bool) (k : Nat) : Nat → List ClT
  | 0 => []
  | t + 1 => someK ns ps os p f k t ++ (match (subsU ns os p)[t]? with | some s => oneK ns ps os p f k s | none => [])
theorem one_is (ns : List NodeD) (ps : List PodD) (os : List OwnD) (p : List Int) (f : ClT → Bool) (k : Nat) (s : Sub) : ([s].filterMap (clauseK ns ps os p k)).filter (fun c => f (zb c)) = oneK ns ps os p f k s := by
  unfold oneK
  cases hb : byU ns ps os p k s with
  | none =>
    simp [clauseK, hb]
  | some b =>
    cases hf : f ((k : Int), (s.a : Int), (s.b : Int), 0) <;> simp [clauseK, hb, zb, hf]
theorem some_is (ns : List NodeD) (ps : List PodD) (os : List OwnD) (p : List Int) (f : ClT → Bool) (k : Nat) : ∀ t, t ≤ (subsU ns os p).length → someK ns ps os p f k t = (((subsU ns os p).take t).filterMap (clauseK ns ps os p k)).filter (fun c => f (zb c))
  | 0, _ => by simp [someK]
  | t + 1, h => by
    obtain ⟨s, hs⟩ : ∃ s, (subsU ns os p)[t]? = some s := ⟨(subsU ns os p)[t], List.getElem?_eq_getElem h⟩
    rw [someK, some_is ns ps os p f k t (by omega), hs, List.take_add_one, hs, List.filterMap_append, List.filter_append]
    congr 1
    exact (one_is ns ps os p f k s).symm
/-- The kinds up to k. -/
def upK (ns : List NodeD) (ps : List PodD) (os : List OwnD) (p : List Int) (f : ClT → Bool) : Nat → List ClT
  | 0 => []
  | k + 1 => upK ns ps os p f k ++ someK ns ps os p f (k + 1) (subsU ns os p).length
theorem up_is (ns : List NodeD) (ps : List PodD) (os : List OwnD) (p : List Int) (f : ClT → Bool) : ∀ k, upK ns ps os p f k = (lookK ns ps os p k).filter (fun c => f (zb c))
  | 0 => rfl
  | k + 1 => by
    rw [upK, lookK, List.filter_append, up_is ns ps os p f k, some_is ns ps os p f (k + 1) _ (Nat.le_refl _), List.take_length]
theorem oneK_len (ns : List NodeD) (ps : List PodD) (os : List OwnD) (p : List Int) (f : ClT → Bool) (k : Nat) (s : Sub) : (oneK ns ps os p f k s).length ≤ 1 := by
  unfold oneK
  split
  · split <;> simp
  · simp
theorem someK_len (ns : List NodeD) (ps : List PodD) (os : List OwnD) (p : List Int) (f : ClT → Bool) (k : Nat) : ∀ t, (someK ns ps os p f k t).length ≤ t
  | 0 => Nat.le_refl _
  | t + 1 => by
    have := someK_len ns ps os p f k t
    rw [someK, List.length_append]
    split
    · rename_i s hs
      have := oneK_len ns ps os p f k s
      omega
    · simp
      omega
theorem upK_len (ns : List NodeD) (ps : List PodD) (os : List OwnD) (p : List Int) (f : ClT → Bool) : ∀ k, (upK ns ps os p f k).length ≤ k * (subsU ns os p).length
  | 0 => by simp [upK]
  | k + 1 => by
    have := upK_len ns ps os p f k
    have := someK_len ns ps os p f (k + 1) (subsU ns os p).length
    rw [upK, List.length_append, Nat.succ_mul]
    omega
/-- A block holds a clause of a kind about a subject, its By not known yet. -/
def NumSt (wr : World) (k : Nat) (s : Sub) (wc : World) : Prop := Blk wc wr.heap.size #[.int .i64 (k : Int), .int .i64 (s.a : Int), .int .i64 (s.b : Int), .int .i64 0] 47 ∧ Below wr.heap.size wr wc
theorem rule_at (W : World) (M : Nat) (h : W.heap[M]? = some (.map (entsR 8).toArray 8)) (k : Nat) (h1 : 1 ≤ k) (h8 : k ≤ 8) :
    (Instr.lookup 173 (.map (some M)) (.int .i64 (k : Int)) false).run Tryz.prog W = .ok (ruleV k) W := by
  obtain ⟨j, rfl⟩ : ∃ j, k = j + 1 := ⟨k - 1, by omega⟩
  have := run_ruleAt W M h j (by omega)
  rw [show (((j + 1 : Nat)) : Int) = (j : Int) + 1 by push_cast; rfl]
  exact this


end Go.Proofs.YtiiheajieegdkaaGreat
