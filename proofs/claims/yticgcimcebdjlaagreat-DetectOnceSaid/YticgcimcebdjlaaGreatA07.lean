/- Who has pods; which nodes are low, high, idle: the contracts of heat's hasPods and of the closures that pick asks. Condition: the cluster, the numbers and the policy lie in memory. Is a clause of a pod, of one of some kinds, among those that are broken: the contracts of what detect's breaks hands back. Condition: the clauses and the kinds lie in memory. A placement with its cluster, a policy and what is asked of them, as detect keeps it; is a pod on a drained, a high, a low node: contracts. Condition: all of it lies in memory, and the placement may be. Is a pod on a drained node; is one of its clauses broken: contracts. Condition: all lies in memory, and the placement may be. The table of reasons: its contract. No conditions. Why a pod is to go: the contract of the view's why. Condition: all lies in memory, and the placement may be; whether it is crowded is asked only where that is on. Pods that are to go, as rows of three numbers: in which order they are told. Numbers alone. No conditions. What compares two pods that are to go: the contracts of cmp.Compare, of what by hands back. Condition: the three numbers' functions lie in memory. The pods that are to go, sorted: the contract of the library's sort at such a row. Condition: the row is the caller's own; what compares lies elsewhere. The pods that are to go, by rising pods; the rest of how they are told: contracts of wrong and by. Condition: what detect keeps lies in memory; what tells why is given. The document's word on a term is the program's, where a list's keys differ. In numbers and texts only. Of a cluster that may be, a node's and a pod's labels have keys that differ, and are few. In numbers and texts only. The program's rule for ClauseMin: belowMin. A contract. Condition: the cluster and the numbers lie in memory. The clauses of nodes, by the document's words: caps. A contract. Condition: the cluster and the numbers lie in memory. One clause of a list, by the document's words: Of, out of what All tells. A contract. Condition: the cluster and the numbers lie in memory. What of a list is broken, by the document's words: Broken, out of what All tells. A contract. Condition: the cluster and the numbers lie in memory. Who is near whom, by the document's words: near, about. Contracts. Condition: the cluster and the numbers lie in memory. The clauses of a placement, by the document's words, as a list: first those of nodes, then those of pods by kinds, then those of owners; and by the program's words, subject by subject: it is the same list. In numbers and texts only. -/
import Derived.Test.YticgcimcebdjlaaGreatA06
import Derived.StillTailTactics
import Derived.Handy
import Derived.Laws.EntriesVeiled
import Derived.Shelf.SlSortCmp.NoneTotal
import Derived.Test.YticgcimcebdjlaaGreatShelfSort
import Derived.Deep.RegionHeld3
import Derived.Deep.DeepCutAuto

namespace Go.Proofs.YticgcimcebdjlaaGreat
open Go.RowKit Go.Maps Go.Shelf
attribute [local go_sem] Oper.semAt_some

theorem has_any (P : Option Addr) (cp : Nat) (p : List Int) (node : Int) (w : World) (hp : IntsAt w P cp p) :
    Calls Tryz.prog 128 #[.slice P p.length cp, .int .i64 node] w fun e w' => e = .returned (.bool (p.contains node)) ∧ Below w.heap.size w w' := by
  have KC : Hid (Calls Tryz.prog 185 #[.slice P p.length cp, .int .i64 node] w fun e w' => e = .returned (.bool (p.contains node)) ∧ w' = w) := Lib.hid (by
    cases p with
    | nil => exact Tryz.slices_Contains_int_empty P cp node w
    | cons x t =>
      obtain ⟨b, o, rfl, hb, hc⟩ := atI hp.cells (k := 0) (x := x) rfl
      have K := Tryz.slices_Contains_int b o (x :: t).length cp (x :: t) node w (Nat.le_refl _) (by have := hp.le; have := hp.most; omega) (fun j hj => by
        obtain ⟨b', o', hA, _, hc'⟩ := atI hp.cells (k := j) (x := (x :: t)[j]) (List.getElem?_eq_getElem hj)
        cases hA
        rw [List.getD_eq_getElem?_getD, List.getElem?_eq_getElem hj]
        exact hc')
      rw [List.take_length] at K
      exact K)
  generalize p.contains node = R at KC ⊢
  clear hp
  go_enter Tryz.func128, Tryz.ntmps128
  go_wp2_with fail
  refine (KC.out).mono ?_
  rintro e w1 ⟨rfl, rfl⟩
  go_wp2
  go_ret
  exact ⟨rfl, Below.refl _ _⟩
/-- Is a node low, high, idle? -/
def lowB (ns : List NodeD) (ps : List PodD) (p : List Int) (g : Pol) (n : Nat) : Bool := p.contains (n : Int) && decide (sharesU ns ps p n 0 < g.l0) && decide (sharesU ns ps p n 1 < g.l1)
def highB (ns : List NodeD) (ps : List PodD) (p : List Int) (g : Pol) (n : Nat) : Bool := decide (g.h0 ≠ 0 ∧ g.h0 < sharesU ns ps p n 0) || decide (g.h1 ≠ 0 ∧ g.h1 < sharesU ns ps p n 1)
set_option maxRecDepth 100000 in
set_option maxHeartbeats 2000000 in
theorem low1_any (Sb Pb Gb : Nat) (A B C P G : Option Addr) (ca cb cc cp cg : Nat) (ns : List NodeD) (ps : List PodD) (os : List OwnD) (p : List Int) (g : Pol) (n : Nat) (w : World) (hS : Blk w Sb (snapC A B C ca cb cc ns ps os) 26) (hP : Blk w Pb #[.slice P p.length cp] 32) (hG : Blk w Gb (cellsG g G cg) 30)
    (h : SnapIn w A B C ca cb cc ns ps os) (hp : IntsAt w P cp p) (hE : placeE ns ps os p = 0) (hn : n < ns.length) :
    Calls Tryz.prog 127 #[.int .i64 (n : Int), .pointer (some ⟨Sb, 0, none⟩), .pointer (some ⟨Pb, 0, none⟩), .pointer (some ⟨Gb, 0, none⟩)] w fun e w' => e = .returned (.bool (lowB ns ps p g n)) ∧ Below w.heap.size w w' := by
  have KS := Lib.hid (shares_any A B C P ca cb cc cp ns ps os p n w (h.at (placeE_few hE)) hp hE hn)
  have KH := Lib.hid (fun W' (hb : Below w.heap.size w W') => has_any P cp p (n : Int) W' (hp.below hb))
  have E : Hid (lowB ns ps p g n = (p.contains (n : Int) && decide (sharesU ns ps p n 0 < g.l0) && decide (sharesU ns ps p n 1 < g.l1))) := Lib.hid rfl
  generalize lowB ns ps p g n = R at E ⊢
  generalize p.contains (n : Int) = b at KH E
  generalize sharesU ns ps p n 0 = x at KS E
  generalize sharesU ns ps p n 1 = y at KS E
  have HS := Lib.hid hS
  have HP := Lib.hid hP
  have HG := Lib.hid hG
  have s0 : w.cell? ⟨Sb, 0, none⟩ = some (.slice A ns.length ca) := Blk.cell hS 0
  have s1 : w.cell? ⟨Sb, 1, none⟩ = some (.slice B ps.length cb) := Blk.cell hS 1
  have s2 : w.cell? ⟨Sb, 2, none⟩ = some (.slice C os.length cc) := Blk.cell hS 2
  have p0 : w.cell? ⟨Pb, 0, none⟩ = some (.slice P p.length cp) := Blk.cell hP 0
  clear h hp hE hn hS hP hG
  go_enter Tryz.func127, Tryz.ntmps127
  go_wp2_with fail
  refine (KS.out).mono ?_
  rintro e w1 ⟨rfl, hb⟩
  have B1 : Hid (Below w.heap.size w (w1.alloc (.cells (row2 x y) 27))) := Lib.hid (hb.alloc hb.size _)
  have X1 := Lib.hid (Blk.new w1 (row2 x y) 27)
  clear hb KS s0 s1 s2 p0
  go_upto_region 2 with fail
  try change Code.wp _ _ _ _ (w1.alloc (.cells (row2 x y) 27))
  generalize (w1.alloc (.cells (row2 x y) 27)) = W at B1 X1 ⊢
  generalize w1.heap.size = Xb at X1 ⊢
  have KH1 := Lib.hid (KH.out _ B1.out)
  have p0 : W.cell? ⟨Pb, 0, none⟩ = some (.slice P p.length cp) := Blk.cell (HP.out.below B1.out HP.out.lt) 0
  clear KH HS
  go_wp2_with fail
  refine (KH1.out).mono ?_
  rintro e w2 ⟨rfl, hb⟩
  have B2 := Lib.hid (B1.out.trans (hb.mono B1.out.size))
  have X2 := Lib.hid (X1.out.below hb X1.out.lt)
  clear hb p0 KH1 B1 X1
  have x0 : w2.cell? ⟨Xb, 0, none⟩ = some (.int .i64 x) := Blk.cell X2.out 0
  have x1 : w2.cell? ⟨Xb, 1, none⟩ = some (.int .i64 y) := Blk.cell X2.out 1
  have g0 : w2.cell? ⟨Gb, 0, none⟩ = some (.int .i64 g.l0) := Blk.cell (HG.out.below B2.out HG.out.lt) 0
  have g1 : w2.cell? ⟨Gb, 1, none⟩ = some (.int .i64 g.l1) := Blk.cell (HG.out.below B2.out HG.out.lt) 1
  cases b with
  | false =>
    have HE : Hid (R = false) := Lib.hid (by rw [E.out]; rfl)
    clear E
    go_wp2
    go_ret
    rw [HE.out]
    exact ⟨rfl, B2.out⟩
  | true =>
    by_cases h0 : x < g.l0
    · have h0d : decide (x < g.l0) = true := decide_eq_true h0
      by_cases h1 : y < g.l1
      · have h1d : decide (y < g.l1) = true := decide_eq_true h1
        have HE : Hid (R = true) := Lib.hid (by rw [E.out, h0d, h1d]; rfl)
        clear E
        go_wp2
        go_ret
        rw [HE.out]
        exact ⟨rfl, B2.out⟩
      · have h1d : decide (y < g.l1) = false := decide_eq_false h1
        have HE : Hid (R = false) := Lib.hid (by rw [E.out, h1d]; simp)
        clear E
        go_wp2
        go_ret
        rw [HE.out]
        exact ⟨rfl, B2.out⟩
    · have h0d : decide (x < g.l0) = false := decide_eq_false h0
      have HE : Hid (R = false) := Lib.hid (by rw [E.out, h0d]; rfl)
      clear E
      go_wp2
      go_ret
      rw [HE.out]
      exact ⟨rfl, B2.out⟩

set_option maxRecDepth 100000 in
set_option maxHeartbeats 2000000 in
theorem high1_any (Sb Pb Gb : Nat) (A B C P G : Option Addr) (ca cb cc cp cg : Nat) (ns : List NodeD) (ps : List PodD) (os : List OwnD) (p : List Int) (g : Pol) (n : Nat) (w : World) (hS : Blk w Sb (snapC A B C ca cb cc ns ps os) 26) (hP : Blk w Pb #[.slice P p.length cp] 32) (hG : Blk w Gb (cellsG g G cg) 30)
    (h : SnapIn w A B C ca cb cc ns ps os) (hp : IntsAt w P cp p) (hE : placeE ns ps os p = 0) (hn : n < ns.length) :
    Calls Tryz.prog 56 #[.int .i64 (n : Int), .pointer (some ⟨Sb, 0, none⟩), .pointer (some ⟨Pb, 0, none⟩), .pointer (some ⟨Gb, 0, none⟩)] w fun e w' => e = .returned (.bool (highB ns ps p g n)) ∧ Below w.heap.size w w' := by
  have KS := Lib.hid (shares_any A B C P ca cb cc cp ns ps os p n w (h.at (placeE_few hE)) hp hE hn)
  have E : Hid (highB ns ps p g n = (decide (g.h0 ≠ 0 ∧ g.h0 < sharesU ns ps p n 0) || decide (g.h1 ≠ 0 ∧ g.h1 < sharesU ns ps p n 1))) := Lib.hid rfl
  generalize highB ns ps p g n = R at E ⊢
  generalize sharesU ns ps p n 0 = x at KS E
  generalize sharesU ns ps p n 1 = y at KS E
  have K0 := Lib.hid (fun W' => above_any x g.h0 W')
  have K1 := Lib.hid (fun W' => above_any y g.h1 W')
  generalize decide (g.h0 ≠ 0 ∧ g.h0 < x) = b0 at K0 E
  generalize decide (g.h1 ≠ 0 ∧ g.h1 < y) = b1 at K1 E
  have HS := Lib.hid hS
  have HP := Lib.hid hP
  have HG := Lib.hid hG
  have s0 : w.cell? ⟨Sb, 0, none⟩ = some (.slice A ns.length ca) := Blk.cell hS 0
  have s1 : w.cell? ⟨Sb, 1, none⟩ = some (.slice B ps.length cb) := Blk.cell hS 1
  have s2 : w.cell? ⟨Sb, 2, none⟩ = some (.slice C os.length cc) := Blk.cell hS 2
  have p0 : w.cell? ⟨Pb, 0, none⟩ = some (.slice P p.length cp) := Blk.cell hP 0
  clear h hp hE hn hS hP hG
  go_enter Tryz.func56, Tryz.ntmps56
  go_wp2_with fail
  refine (KS.out).mono ?_
  rintro e w1 ⟨rfl, hb⟩
  have B1 : Hid (Below w.heap.size w (w1.alloc (.cells (row2 x y) 27))) := Lib.hid (hb.alloc hb.size _)
  have X1 := Lib.hid (Blk.new w1 (row2 x y) 27)
  clear hb KS s0 s1 s2 p0
  go_upto_region 2 with fail
  try change Code.wp _ _ _ _ (w1.alloc (.cells (row2 x y) 27))
  generalize (w1.alloc (.cells (row2 x y) 27)) = W at B1 X1 ⊢
  generalize w1.heap.size = Xb at X1 ⊢
  have x0 : W.cell? ⟨Xb, 0, none⟩ = some (.int .i64 x) := Blk.cell X1.out 0
  have g0 : W.cell? ⟨Gb, 2, none⟩ = some (.int .i64 g.h0) := Blk.cell (HG.out.below B1.out HG.out.lt) 2
  clear HS HP
  go_wp2_with fail
  refine (K0.out _).mono ?_
  rintro e w2 ⟨rfl, hb⟩
  have B2 := Lib.hid (B1.out.trans (hb.mono B1.out.size))
  have X2 := Lib.hid (X1.out.below hb X1.out.lt)
  clear hb x0 g0 K0 B1 X1
  have x1 : w2.cell? ⟨Xb, 1, none⟩ = some (.int .i64 y) := Blk.cell X2.out 1
  have g1 : w2.cell? ⟨Gb, 3, none⟩ = some (.int .i64 g.h1) := Blk.cell (HG.out.below B2.out HG.out.lt) 3
  cases b0 with
  | true =>
    have HE : Hid (R = true) := Lib.hid (by rw [E.out]; rfl)
    clear E
    go_wp2
    go_ret
    rw [HE.out]
    exact ⟨rfl, B2.out⟩
  | false =>
    have HE : Hid (R = b1) := Lib.hid (by rw [E.out]; rfl)
    clear E
    go_wp2_with fail
    refine (K1.out _).mono ?_
    rintro e w3 ⟨rfl, hb⟩
    have B3 := Lib.hid (B2.out.trans (hb.mono B2.out.size))
    clear hb
    go_wp2
    go_ret
    rw [HE.out]
    exact ⟨rfl, B3.out⟩
end Go.Proofs.YticgcimcebdjlaaGreat

namespace Go.Proofs.YticgcimcebdjlaaGreat
open Go.RowKit

/-- Is a clause the pod's, and of one of the kinds? -/
def podCD (pod : Int) (ks : List Int) (c : ClT) : Bool := decide (c.2.1 = pod) && ks.contains c.1
theorem hasD_any (P : Option Addr) (cp : Nat) (p : List Int) (node : Int) (w : World) (hp : IntsAt w P cp p) :
    Calls Tryz.prog 185 #[.slice P p.length cp, .int .i64 node] w fun e w' => e = .returned (.bool (p.contains node)) ∧ w' = w := by
  cases p with
  | nil => exact Tryz.slices_Contains_int_empty P cp node w
  | cons x t =>
    obtain ⟨b, o, rfl, hb, hc⟩ := atI hp.cells (k := 0) (x := x) rfl
    have K := Tryz.slices_Contains_int b o (x :: t).length cp (x :: t) node w (Nat.le_refl _) (by have := hp.le; have := hp.most; omega) (fun j hj => by
      obtain ⟨b', o', hA, _, hc'⟩ := atI hp.cells (k := j) (x := (x :: t)[j]) (List.getElem?_eq_getElem hj)
      cases hA
      rw [List.getD_eq_getElem?_getD, List.getElem?_eq_getElem hj]
      exact hc')
    rw [List.take_length] at K
    exact K
theorem belowD {B : Nat} {w W : World} (h : Below B w W) : Below B w W.drew := h.drew

set_option maxRecDepth 100000 in
set_option maxHeartbeats 2000000 in
theorem brkC_any (qp qk : Nat) (pod : Int) (K : Option Addr) (ck : Nat) (ks : List Int) (c : ClT) (w : World) (hp : w.cell? ⟨qp, 0, none⟩ = some (.int .i64 pod)) (hk : w.cell? ⟨qk, 0, none⟩ = some (.slice K ks.length ck)) (hi : IntsAt w K ck ks) :
    Calls Tryz.prog 200 #[clV c, .pointer (some ⟨qp, 0, none⟩), .pointer (some ⟨qk, 0, none⟩)] w fun e w' => e = .returned (.bool (podCD pod ks c)) ∧ Below w.heap.size w w' := by
  obtain ⟨c0, c1, c2, c3⟩ := c
  have hpl : qp < w.heap.size := World.block_lt_of_cell? w _ hp
  have hkl : qk < w.heap.size := World.block_lt_of_cell? w _ hk
  have B0 : Hid (Below w.heap.size w (w.alloc (.cells #[.int .i64 c0, .int .i64 c1, .int .i64 c2, .int .i64 c3] 50))) := Lib.hid (below1 w _)
  have Q0 : Hid (Blk (w.alloc (.cells #[.int .i64 c0, .int .i64 c1, .int .i64 c2, .int .i64 c3] 50)) w.heap.size #[.int .i64 c0, .int .i64 c1, .int .i64 c2, .int .i64 c3] 50) := Lib.hid (Blk.new w _ _)
  have hp1 : Hid ((w.alloc (.cells #[.int .i64 c0, .int .i64 c1, .int .i64 c2, .int .i64 c3] 50)).cell? ⟨qp, 0, none⟩ = some (.int .i64 pod)) := Lib.hid ((B0.out.cell (p := ⟨qp, 0, none⟩) hpl).trans hp)
  have hk1 : Hid ((w.alloc (.cells #[.int .i64 c0, .int .i64 c1, .int .i64 c2, .int .i64 c3] 50)).cell? ⟨qk, 0, none⟩ = some (.slice K ks.length ck)) := Lib.hid ((B0.out.cell (p := ⟨qk, 0, none⟩) hkl).trans hk)
  have KC := Lib.hid (hasD_any K ck ks c0 _ (hi.below B0.out))
  have E : Hid (podCD pod ks (c0, c1, c2, c3) = (decide (c1 = pod) && ks.contains c0)) := Lib.hid rfl
  generalize podCD pod ks (c0, c1, c2, c3) = R at E ⊢
  generalize ks.contains c0 = z at KC E
  clear hp hk hi
  go_enter Tryz.func200, Tryz.ntmps200
  go_upto_region 1 with fail
  try change Code.wp _ _ _ _ (w.alloc (.cells #[.int .i64 c0, .int .i64 c1, .int .i64 c2, .int .i64 c3] 50))
  generalize (w.alloc (.cells #[.int .i64 c0, .int .i64 c1, .int .i64 c2, .int .i64 c3] 50)) = W at B0 Q0 hp1 hk1 KC ⊢
  have a0 : W.cell? ⟨w.heap.size, 0, none⟩ = some (.int .i64 c0) := Blk.cell Q0.out 0
  have a1 : W.cell? ⟨w.heap.size, 1, none⟩ = some (.int .i64 c1) := Blk.cell Q0.out 1
  have hp2 := hp1.out
  have hk2 := hk1.out
  by_cases he : c1 = pod
  · have hE : Hid (R = z) := Lib.hid (by rw [E.out, decide_eq_true he, Bool.true_and])
    have hb : (c1 == pod) = true := by simpa using he
    have hb2 : decide (c1 = pod) = true := decide_eq_true he
    subst he
    go_wp2_with fail
    refine (KC.out).mono ?_
    rintro e w2 ⟨rfl, rfl⟩
    go_wp2_with fail
    go_ret
    exact ⟨La.retB hE.out.symm, B0.out⟩
  · have hE : Hid (R = false) := Lib.hid (by rw [E.out, decide_eq_false he, Bool.false_and])
    have hb : (c1 == pod) = false := by simpa using he
    have hb2 : decide (c1 = pod) = false := decide_eq_false he
    go_wp2_with fail
    go_ret
    exact ⟨La.retB hE.out.symm, B0.out⟩

set_option maxRecDepth 100000 in
set_option maxHeartbeats 2000000 in
theorem indexC (A : Option Addr) (c qp qk : Nat) (l : List ClT) (pod : Int) (K : Option Addr) (ck : Nat) (ks : List Int) (w : World) (hl : l.length ≤ 12000) (hs : La.SlAt w A (cells4 l)) (hp : w.cell? ⟨qp, 0, none⟩ = some (.int .i64 pod)) (hk : w.cell? ⟨qk, 0, none⟩ = some (.slice K ks.length ck)) (hi : IntsAt w K ck ks) :
    Calls Tryz.prog 243 #[.slice A l.length c, .func (Fn.func 200) #[] #[.pointer (some ⟨qp, 0, none⟩), .pointer (some ⟨qk, 0, none⟩)]] w fun e w' => (∃ r : Int, e = .returned (.int .i64 r) ∧ -1 ≤ r ∧ decide (0 ≤ r) = l.any (podCD pod ks)) ∧ Below w.heap.size w w' := by
  have HS := Lib.hid hs
  have HP := Lib.hid hp
  have HK := Lib.hid hk
  have HI := Lib.hid hi
  have hpl : qp < w.heap.size := World.block_lt_of_cell? w _ hp
  have hkl : qk < w.heap.size := World.block_lt_of_cell? w _ hk
  have hg : ∀ (args : Array Value) (w : World), (callFunc 200 args).run Tryz.prog w = .ok (.enter 200 args) w := fun _ _ => by kernel_rfl
  obtain ⟨R, hR⟩ : ∃ R, l.any (podCD pod ks) = R := ⟨_, rfl⟩
  have HR := Lib.hid hR
  rw [hR]
  clear hs hp hk hi hR
  go_enter Tryz.func243, Tryz.ntmps243
  go_wp2_with fail
  go_loopw [8] (fun i wr => ∃ k : Nat, k ≤ l.length ∧ i = .int .i64 k ∧ (∀ (j : Nat) (x : ClT), j < k → l[j]? = some x → podCD pod ks x = false) ∧ Below w.heap.size w wr) (fun i _ => l.length - (intOf i).toNat)
  case atStart => exact ⟨0, by omega, rfl, fun j x h => by omega, Below.refl _ _⟩
  case round =>
    obtain ⟨k, hk, rfl, hn, hb⟩ := hrel
    have HN := Lib.hid hn
    have HB := Lib.hid hb
    clear hn hb
    by_cases hlt : k < l.length
    · obtain ⟨x, hx⟩ : ∃ x, l[k]? = some x := ⟨l[k], List.getElem?_eq_getElem hlt⟩
      obtain ⟨b, o, hA, hbl, c0, c1, c2, c3⟩ := atC (HS.out.below HB.out) hx
      subst hA
      have HX := Lib.hid hx
      have k0 : (0 : Int) ≤ (k : Int) := by omega
      have k1 : (k : Int) < (l.length : Int) := by omega
      have KI := Lib.hid (fun w' (hb : Below wr.heap.size wr w') => brkC_any qp qk pod K ck ks x w' ((hb.cell (p := ⟨qp, 0, none⟩) (by show qp < wr.heap.size; have := HB.out.size; omega)).trans ((HB.out.cell (p := ⟨qp, 0, none⟩) hpl).trans HP.out)) ((hb.cell (p := ⟨qk, 0, none⟩) (by show qk < wr.heap.size; have := HB.out.size; omega)).trans ((HB.out.cell (p := ⟨qk, 0, none⟩) hkl).trans HK.out)) ((HI.out.below HB.out).below hb))
      cases hd : podCD pod ks x with
      | true =>
        have HE : Hid (true = R) := Lib.hid (by rw [← HR.out]; exact (List.any_eq_true.2 ⟨x, List.mem_of_getElem? hx, hd⟩).symm)
        rw [hd] at KI
        clear hx hd
        go_wp2_with fail
        refine (KI.out _ (by first | exact Below.refl _ _ | exact (Below.refl _ _).drew)).mono ?_
        rintro e w3 ⟨rfl, hb3⟩
        have B3 := Lib.hid (HB.out.trans (hb3.mono HB.out.size))
        clear hb3 KI c0 c1 c2 c3
        go_wp2
        go_ret
        exact ⟨⟨(k : Int), rfl, by omega, by rw [← HE.out]; exact decide_eq_true k0⟩, B3.out⟩
      | false =>
        have He := Lib.hid hd
        rw [hd] at KI
        clear hx hd
        go_wp2_with fail
        refine (KI.out _ (by first | exact Below.refl _ _ | exact (Below.refl _ _).drew)).mono ?_
        rintro e w3 ⟨rfl, hb3⟩
        have B3 := Lib.hid (HB.out.trans (hb3.mono HB.out.size))
        clear hb3 KI c0 c1 c2 c3
        go_wp2
        go_roundw
        case rel =>
          refine ⟨k + 1, by omega, by go_num, fun j y hj hy => ?_, B3.out⟩
          by_cases hjk : j = k
          · subst hjk
            rw [HX.out] at hy
            cases hy
            exact He.out
          · exact HN.out j y (by omega) hy
        case measure => simp [intOf]; omega
    · obtain rfl : k = l.length := by omega
      have HE : Hid (false = R) := Lib.hid (by
        rw [← HR.out]
        refine (List.any_eq_false.2 fun z hz => ?_).symm
        obtain ⟨j, hj⟩ := List.mem_iff_getElem?.1 hz
        rw [HN.out j z (List.getElem?_eq_some_iff.1 hj).1 hj]
        simp)
      go_wp2
      go_ret
      exact ⟨⟨-1, rfl, by omega, by rw [← HE.out]; rfl⟩, HB.out⟩

set_option maxHeartbeats 1000000 in
theorem containsC (A : Option Addr) (c qp qk : Nat) (l : List ClT) (pod : Int) (K : Option Addr) (ck : Nat) (ks : List Int) (w : World) (hl : l.length ≤ 12000) (hs : La.SlAt w A (cells4 l)) (hp : w.cell? ⟨qp, 0, none⟩ = some (.int .i64 pod)) (hk : w.cell? ⟨qk, 0, none⟩ = some (.slice K ks.length ck)) (hi : IntsAt w K ck ks) :
    Calls Tryz.prog 199 #[.slice A l.length c, .func (Fn.func 200) #[] #[.pointer (some ⟨qp, 0, none⟩), .pointer (some ⟨qk, 0, none⟩)]] w fun e w' => e = .returned (.bool (l.any (podCD pod ks))) ∧ Below w.heap.size w w' := by
  have K := Lib.hid (indexC A c qp qk l pod K ck ks w hl hs hp hk hi)
  clear hs hp hk hi
  generalize l.any (podCD pod ks) = R at K ⊢
  go_enter Tryz.func199, Tryz.ntmps199
  go_wp2_with fail
  refine K.out.mono ?_
  rintro e w1 ⟨⟨i, rfl, hi1, hi⟩, hb⟩
  have HB := Lib.hid hb
  have Hi := Lib.hid hi
  clear hb hi
  go_wp2
  go_ret
  exact ⟨La.retB (by rw [← Hi.out]), HB.out⟩
end Go.Proofs.YticgcimcebdjlaaGreat

namespace Go.Proofs.YticgcimcebdjlaaGreat
open Go.RowKit

/-- What detect keeps. -/
structure VwD where
  A : Option Addr
  B : Option Addr
  C : Option Addr
  P : Option Addr
  G : Option Addr
  K : Option Addr
  X : Option Addr
  Y : Option Addr
  F : Option Addr
  ca : Nat
  cb : Nat
  cc : Nat
  cp : Nat
  cg : Nat
  ck : Nat
  cx : Nat
  cy : Nat
  cf : Nat
  ns : List NodeD
  ps : List PodD
  os : List OwnD
  p : List Int
  g : Pol
  l : List ClT
  hs : List Int
  ws : List Int
  full : List (List (List UInt8))
abbrev cellsVw (v : VwD) : Array Value := #[.slice v.A v.ns.length v.ca, .slice v.B v.ps.length v.cb, .slice v.C v.os.length v.cc, .slice v.P v.p.length v.cp, .int .i64 v.g.l0, .int .i64 v.g.l1, .int .i64 v.g.h0, .int .i64 v.g.h1, .int .i64 v.g.on, .slice v.G v.g.drain.length v.cg, .int .i64 v.g.mx, .int .i64 v.g.tr, .bool v.g.rb, .slice v.K v.l.length v.ck, .slice v.X v.hs.length v.cx, .slice v.Y v.ws.length v.cy, .slice v.F v.full.length v.cf]
def FullAt (w : World) (F : Option Addr) (l : List (List (List UInt8))) : Prop := ∀ (i : Nat) (ds : List (List UInt8)), l[i]? = some ds → ∃ b o D cd, F = some ⟨b, o, none⟩ ∧ b < w.heap.size ∧ w.cell? ⟨b, o + i, none⟩ = some (.slice D ds.length cd) ∧ NamesAt w D cd ds
theorem FullAt.below {w w' : World} {F : Option Addr} {l : List (List (List UInt8))} (h : FullAt w F l) (hb : Below w.heap.size w w') : FullAt w' F l := fun i ds hi => by
  obtain ⟨b, o, D, cd, hF, hl, hc, hn⟩ := h i ds hi
  exact ⟨b, o, D, cd, hF, Nat.lt_of_lt_of_le hl hb.size, (hb.cell (p := ⟨b, o + i, none⟩) hl).trans hc, hn.below hb⟩
/-- It lies in memory. -/
structure VwAt (w : World) (v : VwD) : Prop where
  s : SnapIn w v.A v.B v.C v.ca v.cb v.cc v.ns v.ps v.os
  p : IntsAt w v.P v.cp v.p
  g : NamesAt w v.G v.cg v.g.drain
  l : La.SlAt w v.K (cells4 v.l)
  x : IntsAt w v.X v.cx v.hs
  y : IntsAt w v.Y v.cy v.ws
  f : FullAt w v.F v.full
  few : v.l.length ≤ 12000
  e : placeE v.ns v.ps v.os v.p = 0
theorem VwAt.below {w w' : World} {v : VwD} (h : VwAt w v) (hb : Below w.heap.size w w') : VwAt w' v :=
  ⟨h.s.low hb, h.p.below hb, h.g.below hb, h.l.below hb, h.x.below hb, h.y.below hb, h.f.below hb, h.few, h.e⟩
set_option maxRecDepth 100000 in
set_option maxHeartbeats 2000000 in
theorem isHigh_any (v : VwD) (k : Nat) (n : Int) (w : World) (h : VwAt w v) (hk : v.p[k]? = some n) :
    Calls Tryz.prog 146 #[.agg (cellsVw v), .int .i64 (k : Int)] w fun e w' => e = .returned (.bool (v.hs.contains n)) ∧ Below w.heap.size w w' := by
  obtain ⟨A, B, C, P, G, K, X, Y, F, ca, cb, cc, cp, cg, ck, cx, cy, cf, ns, ps, os, p, g, l, hs, ws, full⟩ := v
  dsimp only at hk ⊢
  obtain ⟨hs', hp, hg, hl, hx, hy, hf, hfew, he⟩ := h
  dsimp only at hs' hp hg hl hx hy hf hfew he
  have B0 := Lib.hid (below1 w (.cells #[.slice A ns.length ca, .slice B ps.length cb, .slice C os.length cc, .slice P p.length cp, .int .i64 g.l0, .int .i64 g.l1, .int .i64 g.h0, .int .i64 g.h1, .int .i64 g.on, .slice G g.drain.length cg, .int .i64 g.mx, .int .i64 g.tr, .bool g.rb, .slice K l.length ck, .slice X hs.length cx, .slice Y ws.length cy, .slice F full.length cf] 92))
  have Q0 := Lib.hid (Blk.new w #[.slice A ns.length ca, .slice B ps.length cb, .slice C os.length cc, .slice P p.length cp, .int .i64 g.l0, .int .i64 g.l1, .int .i64 g.h0, .int .i64 g.h1, .int .i64 g.on, .slice G g.drain.length cg, .int .i64 g.mx, .int .i64 g.tr, .bool g.rb, .slice K l.length ck, .slice X hs.length cx, .slice Y ws.length cy, .slice F full.length cf] 92)
  have KC := Lib.hid (fun W' (hb : Below w.heap.size w W') => hasD_any X cx hs n W' (hx.below hb))
  have hkl := (List.getElem?_eq_some_iff.1 hk).1
  have k0 : (0 : Int) ≤ (k : Int) := by omega
  have k1 : (k : Int) < (p.length : Int) := by omega
  have HP := Lib.hid hp
  generalize hs.contains n = R at KC ⊢
  clear hs' hg hl hx hy hf hfew he hp
  go_enter Tryz.func146, Tryz.ntmps146
  go_upto_region 1 with fail
  generalize (w.alloc (.cells #[.slice A ns.length ca, .slice B ps.length cb, .slice C os.length cc, .slice P p.length cp, .int .i64 g.l0, .int .i64 g.l1, .int .i64 g.h0, .int .i64 g.h1, .int .i64 g.on, .slice G g.drain.length cg, .int .i64 g.mx, .int .i64 g.tr, .bool g.rb, .slice K l.length ck, .slice X hs.length cx, .slice Y ws.length cy, .slice F full.length cf] 92)) = W at B0 Q0 ⊢
  obtain ⟨b, o, hA, _, hc⟩ := atI (HP.out.below B0.out).cells hk
  subst hA
  have z3 : W.cell? ⟨w.heap.size, 3, none⟩ = some (.slice (some ⟨b, o, none⟩) p.length cp) := Blk.cell Q0.out 3
  have z14 : W.cell? ⟨w.heap.size, 14, none⟩ = some (.slice X hs.length cx) := Blk.cell Q0.out 14
  have KC2 := Lib.hid (KC.out W B0.out)
  go_quiet ((go_at_call 185; with_reducible exact Calls.quiet_of_same (KC.out _ (belowN B0.out _))))
  have D := Lib.hid (belowN B0.out nq)
  go_wp2
  go_ret
  exact ⟨rfl, D.out⟩
set_option maxRecDepth 100000 in
set_option maxHeartbeats 2000000 in
theorem isLow_any (v : VwD) (k : Nat) (n : Int) (w : World) (h : VwAt w v) (hk : v.p[k]? = some n) :
    Calls Tryz.prog 147 #[.agg (cellsVw v), .int .i64 (k : Int)] w fun e w' => e = .returned (.bool (v.ws.contains n)) ∧ Below w.heap.size w w' := by
  obtain ⟨A, B, C, P, G, K, X, Y, F, ca, cb, cc, cp, cg, ck, cx, cy, cf, ns, ps, os, p, g, l, hs, ws, full⟩ := v
  dsimp only at hk ⊢
  obtain ⟨hs', hp, hg, hl, hx, hy, hf, hfew, he⟩ := h
  dsimp only at hs' hp hg hl hx hy hf hfew he
  have B0 := Lib.hid (below1 w (.cells #[.slice A ns.length ca, .slice B ps.length cb, .slice C os.length cc, .slice P p.length cp, .int .i64 g.l0, .int .i64 g.l1, .int .i64 g.h0, .int .i64 g.h1, .int .i64 g.on, .slice G g.drain.length cg, .int .i64 g.mx, .int .i64 g.tr, .bool g.rb, .slice K l.length ck, .slice X hs.length cx, .slice Y ws.length cy, .slice F full.length cf] 92))
  have Q0 := Lib.hid (Blk.new w #[.slice A ns.length ca, .slice B ps.length cb, .slice C os.length cc, .slice P p.length cp, .int .i64 g.l0, .int .i64 g.l1, .int .i64 g.h0, .int .i64 g.h1, .int .i64 g.on, .slice G g.drain.length cg, .int .i64 g.mx, .int .i64 g.tr, .bool g.rb, .slice K l.length ck, .slice X hs.length cx, .slice Y ws.length cy, .slice F full.length cf] 92)
  have KC := Lib.hid (fun W' (hb : Below w.heap.size w W') => hasD_any Y cy ws n W' (hy.below hb))
  have hkl := (List.getElem?_eq_some_iff.1 hk).1
  have k0 : (0 : Int) ≤ (k : Int) := by omega
  have k1 : (k : Int) < (p.length : Int) := by omega
  have HP := Lib.hid hp
  generalize ws.contains n = R at KC ⊢
  clear hs' hg hl hx hy hf hfew he hp
  go_enter Tryz.func147, Tryz.ntmps147
  go_upto_region 1 with fail
  generalize (w.alloc (.cells #[.slice A ns.length ca, .slice B ps.length cb, .slice C os.length cc, .slice P p.length cp, .int .i64 g.l0, .int .i64 g.l1, .int .i64 g.h0, .int .i64 g.h1, .int .i64 g.on, .slice G g.drain.length cg, .int .i64 g.mx, .int .i64 g.tr, .bool g.rb, .slice K l.length ck, .slice X hs.length cx, .slice Y ws.length cy, .slice F full.length cf] 92)) = W at B0 Q0 ⊢
  obtain ⟨b, o, hA, _, hc⟩ := atI (HP.out.below B0.out).cells hk
  subst hA
  have z3 : W.cell? ⟨w.heap.size, 3, none⟩ = some (.slice (some ⟨b, o, none⟩) p.length cp) := Blk.cell Q0.out 3
  have z15 : W.cell? ⟨w.heap.size, 15, none⟩ = some (.slice Y ws.length cy) := Blk.cell Q0.out 15
  have KC2 := Lib.hid (KC.out W B0.out)
  go_quiet ((go_at_call 185; with_reducible exact Calls.quiet_of_same (KC.out _ (belowN B0.out _))))
  have D := Lib.hid (belowN B0.out nq)
  go_wp2
  go_ret
  exact ⟨rfl, D.out⟩
end Go.Proofs.YticgcimcebdjlaaGreat

namespace Go.Proofs.YticgcimcebdjlaaGreat
open Go.RowKit

/-- The name of the node of that number. -/
def nameD (ns : List NodeD) (n : Int) : List UInt8 := match ns[n.toNat]? with
  | some x => x.name
  | none => []
set_option maxRecDepth 100000 in
set_option maxHeartbeats 2000000 in
theorem isDrained_any (v : VwD) (k : Nat) (n : Int) (w : World) (h : VwAt w v) (hk : v.p[k]? = some n) (hn : 0 ≤ n) :
    Calls Tryz.prog 143 #[.agg (cellsVw v), .int .i64 (k : Int)] w fun e w' => e = .returned (.bool (decide (nameD v.ns n ∈ v.g.drain))) ∧ Below w.heap.size w w' := by
  have hnn : n.toNat < v.ns.length := by
    have h1 := (placeE_zero h.e).2.2 n (List.mem_of_getElem? hk)
    have h2 := ok_tp h1 hn
    unfold tpB at h2
    cases hq : v.ns[n.toNat]? with
    | none => rw [hq] at h2; simp at h2
    | some y => exact (List.getElem?_eq_some_iff.1 hq).1
  obtain ⟨A, B, C, P, G, K, X, Y, F, ca, cb, cc, cp, cg, ck, cx, cy, cf, ns, ps, os, p, g, l, hs, ws, full⟩ := v
  dsimp only at hk ⊢
  obtain ⟨hs', hp, hg, hl, hx, hy, hf, hfew, he⟩ := h
  dsimp only at hs' hp hg hl hx hy hf hfew he
  dsimp only at hnn
  obtain ⟨m, rfl⟩ : ∃ m : Nat, n = (m : Int) := ⟨n.toNat, by omega⟩
  rw [Int.toNat_natCast] at hnn
  obtain ⟨x, hxm⟩ : ∃ x, ns[m]? = some x := ⟨_, List.getElem?_eq_getElem hnn⟩
  have hnm : nameD ns (m : Int) = x.name := by unfold nameD; rw [Int.toNat_natCast, hxm]
  rw [hnm]
  have B0 := Lib.hid (below1 w (.cells #[.slice A ns.length ca, .slice B ps.length cb, .slice C os.length cc, .slice P p.length cp, .int .i64 g.l0, .int .i64 g.l1, .int .i64 g.h0, .int .i64 g.h1, .int .i64 g.on, .slice G g.drain.length cg, .int .i64 g.mx, .int .i64 g.tr, .bool g.rb, .slice K l.length ck, .slice X hs.length cx, .slice Y ws.length cy, .slice F full.length cf] 92))
  have Q0 := Lib.hid (Blk.new w #[.slice A ns.length ca, .slice B ps.length cb, .slice C os.length cc, .slice P p.length cp, .int .i64 g.l0, .int .i64 g.l1, .int .i64 g.h0, .int .i64 g.h1, .int .i64 g.on, .slice G g.drain.length cg, .int .i64 g.mx, .int .i64 g.tr, .bool g.rb, .slice K l.length ck, .slice X hs.length cx, .slice Y ws.length cy, .slice F full.length cf] 92)
  have KC := Lib.hid (fun W' (hb : Below w.heap.size w W') => drains_any g G cg x.name W' (hg.below hb) (hs'.n.2 x (List.mem_of_getElem? hxm)).n)
  have hkl := (List.getElem?_eq_some_iff.1 hk).1
  have k0 : (0 : Int) ≤ (k : Int) := by omega
  have k1 : (k : Int) < (p.length : Int) := by omega
  have m0 : (0 : Int) ≤ (m : Int) := by omega
  have m1 : (m : Int) < (ns.length : Int) := by omega
  have HP := Lib.hid hp
  have HS := Lib.hid hs'
  have HXM := Lib.hid hxm
  generalize decide (x.name ∈ g.drain) = R at KC ⊢
  clear hs' hg hl hx hy hf hfew he hp hxm hnm
  go_enter Tryz.func143, Tryz.ntmps143
  go_upto_region 1 with fail
  generalize (w.alloc (.cells #[.slice A ns.length ca, .slice B ps.length cb, .slice C os.length cc, .slice P p.length cp, .int .i64 g.l0, .int .i64 g.l1, .int .i64 g.h0, .int .i64 g.h1, .int .i64 g.on, .slice G g.drain.length cg, .int .i64 g.mx, .int .i64 g.tr, .bool g.rb, .slice K l.length ck, .slice X hs.length cx, .slice Y ws.length cy, .slice F full.length cf] 92)) = W at B0 Q0 ⊢
  obtain ⟨b, o, hA, _, hc⟩ := atI (HP.out.below B0.out).cells hk
  subst hA
  obtain ⟨nb, no, hNA, _, c0, _⟩ := atN (HS.out.low B0.out).n.1 HXM.out
  subst hNA
  have z0 : W.cell? ⟨w.heap.size, 0, none⟩ = some (.slice (some ⟨nb, no, none⟩) ns.length ca) := Blk.cell Q0.out 0
  have z3 : W.cell? ⟨w.heap.size, 3, none⟩ = some (.slice (some ⟨b, o, none⟩) p.length cp) := Blk.cell Q0.out 3
  have y0 : W.cell? ⟨w.heap.size, 4, none⟩ = some (.int .i64 g.l0) := Blk.cell Q0.out 4
  have y1 : W.cell? ⟨w.heap.size, 5, none⟩ = some (.int .i64 g.l1) := Blk.cell Q0.out 5
  have y2 : W.cell? ⟨w.heap.size, 6, none⟩ = some (.int .i64 g.h0) := Blk.cell Q0.out 6
  have y3 : W.cell? ⟨w.heap.size, 7, none⟩ = some (.int .i64 g.h1) := Blk.cell Q0.out 7
  have y4 : W.cell? ⟨w.heap.size, 8, none⟩ = some (.int .i64 g.on) := Blk.cell Q0.out 8
  have y5 : W.cell? ⟨w.heap.size, 9, none⟩ = some (.slice G g.drain.length cg) := Blk.cell Q0.out 9
  have y6 : W.cell? ⟨w.heap.size, 10, none⟩ = some (.int .i64 g.mx) := Blk.cell Q0.out 10
  have y7 : W.cell? ⟨w.heap.size, 11, none⟩ = some (.int .i64 g.tr) := Blk.cell Q0.out 11
  have y8 : W.cell? ⟨w.heap.size, 12, none⟩ = some (.bool g.rb) := Blk.cell Q0.out 12
  have BD : Hid (Below w.heap.size w W.drew) := Lib.hid (belowD B0.out)
  go_still_tail 13, (by kernel_rfl)
  change wpList _ _ _ _ _ W.drew
  go_wp2_with fail
  refine (KC.out _ BD.out).mono ?_
  rintro e w2 ⟨rfl, hb⟩
  have D := Lib.hid (BD.out.trans (hb.mono BD.out.size))
  clear hb
  go_wp2
  go_ret
  exact ⟨rfl, D.out⟩

theorem breaks_any (K : Option Addr) (n ck : Nat) (w : World) :
    Calls Tryz.prog 144 #[.slice K n ck] w fun e w' => e = .returned (.func (.func 198) #[] #[.pointer (some ⟨w.heap.size, 0, none⟩)]) ∧ w' = w.alloc (.cells #[.slice K n ck] 32) := by
  go_enter Tryz.func144, Tryz.ntmps144
  go_wp2
  go_ret
  exact ⟨rfl, rfl⟩

set_option maxRecDepth 100000 in
set_option maxHeartbeats 2000000 in
theorem brk1_any (v : VwD) (k : Nat) (qk : Nat) (Z : Option Addr) (cz : Nat) (ks : List Int) (w : World) (h : VwAt w v) (hq : w.cell? ⟨qk, 0, none⟩ = some (.slice Z ks.length cz)) (hi : IntsAt w Z cz ks) :
    Calls Tryz.prog 198 #[.agg (cellsVw v), .int .i64 (k : Int), .pointer (some ⟨qk, 0, none⟩)] w fun e w' => e = .returned (.bool (v.l.any (podCD (k : Int) ks))) ∧ Below w.heap.size w w' := by
  have hk : True := trivial
  obtain ⟨A, B, C, P, G, K, X, Y, F, ca, cb, cc, cp, cg, ck, cx, cy, cf, ns, ps, os, p, g, l, hs, ws, full⟩ := v
  dsimp only at hk ⊢
  obtain ⟨hs', hp, hg, hl, hx, hy, hf, hfew, he⟩ := h
  dsimp only at hs' hp hg hl hx hy hf hfew he
  have hql : qk < w.heap.size := World.block_lt_of_cell? w _ hq
  have B0 : Hid (Below w.heap.size w ((w.alloc (.cells #[.slice A ns.length ca, .slice B ps.length cb, .slice C os.length cc, .slice P p.length cp, .int .i64 g.l0, .int .i64 g.l1, .int .i64 g.h0, .int .i64 g.h1, .int .i64 g.on, .slice G g.drain.length cg, .int .i64 g.mx, .int .i64 g.tr, .bool g.rb, .slice K l.length ck, .slice X hs.length cx, .slice Y ws.length cy, .slice F full.length cf] 92)).alloc (.cells #[.int .i64 (k : Int)] 3))) := Lib.hid (Qu.below2 w _ _)
  have Q0 : Hid (Blk ((w.alloc (.cells #[.slice A ns.length ca, .slice B ps.length cb, .slice C os.length cc, .slice P p.length cp, .int .i64 g.l0, .int .i64 g.l1, .int .i64 g.h0, .int .i64 g.h1, .int .i64 g.on, .slice G g.drain.length cg, .int .i64 g.mx, .int .i64 g.tr, .bool g.rb, .slice K l.length ck, .slice X hs.length cx, .slice Y ws.length cy, .slice F full.length cf] 92)).alloc (.cells #[.int .i64 (k : Int)] 3)) w.heap.size #[.slice A ns.length ca, .slice B ps.length cb, .slice C os.length cc, .slice P p.length cp, .int .i64 g.l0, .int .i64 g.l1, .int .i64 g.h0, .int .i64 g.h1, .int .i64 g.on, .slice G g.drain.length cg, .int .i64 g.mx, .int .i64 g.tr, .bool g.rb, .slice K l.length ck, .slice X hs.length cx, .slice Y ws.length cy, .slice F full.length cf] 92) := Lib.hid (Blk.alloc (Blk.new w _ _) _)
  have Q1 : Hid (Blk ((w.alloc (.cells #[.slice A ns.length ca, .slice B ps.length cb, .slice C os.length cc, .slice P p.length cp, .int .i64 g.l0, .int .i64 g.l1, .int .i64 g.h0, .int .i64 g.h1, .int .i64 g.on, .slice G g.drain.length cg, .int .i64 g.mx, .int .i64 g.tr, .bool g.rb, .slice K l.length ck, .slice X hs.length cx, .slice Y ws.length cy, .slice F full.length cf] 92)).alloc (.cells #[.int .i64 (k : Int)] 3)) (w.heap.size + 1) #[.int .i64 (k : Int)] 3) := Lib.hid (blk2 w _ _ _)
  have KC := Lib.hid (containsC K ck (w.heap.size + 1) qk l (k : Int) Z cz ks _ hfew (hl.below B0.out) (Blk.cell Q1.out 0) ((B0.out.cell (p := ⟨qk, 0, none⟩) hql).trans hq) (hi.below B0.out))
  generalize l.any (podCD (k : Int) ks) = R at KC ⊢
  clear hs' hg hl hx hy hf hfew he hp hq hi
  go_enter Tryz.func198, Tryz.ntmps198
  go_upto_region 1 with fail
  try change Code.wp _ _ _ _ ((w.alloc (.cells #[.slice A ns.length ca, .slice B ps.length cb, .slice C os.length cc, .slice P p.length cp, .int .i64 g.l0, .int .i64 g.l1, .int .i64 g.h0, .int .i64 g.h1, .int .i64 g.on, .slice G g.drain.length cg, .int .i64 g.mx, .int .i64 g.tr, .bool g.rb, .slice K l.length ck, .slice X hs.length cx, .slice Y ws.length cy, .slice F full.length cf] 92)).alloc (.cells #[.int .i64 (k : Int)] 3))
  generalize ((w.alloc (.cells #[.slice A ns.length ca, .slice B ps.length cb, .slice C os.length cc, .slice P p.length cp, .int .i64 g.l0, .int .i64 g.l1, .int .i64 g.h0, .int .i64 g.h1, .int .i64 g.on, .slice G g.drain.length cg, .int .i64 g.mx, .int .i64 g.tr, .bool g.rb, .slice K l.length ck, .slice X hs.length cx, .slice Y ws.length cy, .slice F full.length cf] 92)).alloc (.cells #[.int .i64 (k : Int)] 3)) = W at B0 Q0 Q1 KC ⊢
  have z13 : W.cell? ⟨w.heap.size, 13, none⟩ = some (.slice K l.length ck) := Blk.cell Q0.out 13
  go_wp2_with fail
  refine (KC.out).mono ?_
  rintro e w2 ⟨rfl, hb⟩
  have D := Lib.hid (B0.out.trans (hb.mono B0.out.size))
  clear hb
  go_wp2
  go_ret
  exact ⟨rfl, D.out⟩
end Go.Proofs.YticgcimcebdjlaaGreat

namespace Go.Proofs.YticgcimcebdjlaaGreat
open Go.RowKit

abbrev reasC (N : Nat) : Array Value := #[.int .i64 1, .int .i64 0, .func (.func 143) #[] #[], .int .i64 2, .int .i64 0, .func (.func 198) #[] #[.pointer (some ⟨N + 1, 0, none⟩)], .int .i64 2, .int .i64 4, .func (.func 198) #[] #[.pointer (some ⟨N + 3, 0, none⟩)], .int .i64 3, .int .i64 2, .func (.func 198) #[] #[.pointer (some ⟨N + 5, 0, none⟩)], .int .i64 4, .int .i64 1, .func (.func 198) #[] #[.pointer (some ⟨N + 7, 0, none⟩)], .int .i64 5, .int .i64 8, .func (.func 145) #[] #[], .int .i64 6, .int .i64 0, .func (.func 146) #[] #[], .int .i64 7, .int .i64 16, .func (.func 147) #[] #[]]
structure ReasAt (W : World) (N : Nat) : Prop where
  r : Blk W (N + 8) (reasC N) 153
  k1 : Blk W N #[.int .i64 2] 3
  s1 : Blk W (N + 1) #[.slice (some ⟨N, 0, none⟩) 1 1] 32
  k2 : Blk W (N + 2) #[.int .i64 3] 3
  s2 : Blk W (N + 3) #[.slice (some ⟨N + 2, 0, none⟩) 1 1] 32
  k3 : Blk W (N + 4) #[.int .i64 4, .int .i64 5] 3
  s3 : Blk W (N + 5) #[.slice (some ⟨N + 4, 0, none⟩) 2 2] 32
  k4 : Blk W (N + 6) #[.int .i64 6] 3
  s4 : Blk W (N + 7) #[.slice (some ⟨N + 6, 0, none⟩) 1 1] 32
theorem ReasAt.below {W W' : World} {N : Nat} (h : ReasAt W N) (hb : Below W.heap.size W W') : ReasAt W' N :=
  ⟨h.r.below hb h.r.lt, h.k1.below hb h.k1.lt, h.s1.below hb h.s1.lt, h.k2.below hb h.k2.lt, h.s2.below hb h.s2.lt, h.k3.below hb h.k3.lt, h.s3.below hb h.s3.lt, h.k4.below hb h.k4.lt, h.s4.below hb h.s4.lt⟩

theorem blk_newD {W : World} {n : Nat} (h : W.heap.size = n) (cs : Array Value) (t : TypeId) : Blk (W.alloc (.cells cs t)) n cs t := by
  subst h
  exact Blk.new W cs t
set_option maxRecDepth 100000 in
set_option maxHeartbeats 2000000 in
theorem reasons_any (w : World) :
    Calls Tryz.prog 92 #[] w fun e w' => e = .returned (.slice (some ⟨w.heap.size + 8, 0, none⟩) 8 8) ∧ ReasAt w' w.heap.size ∧ Below w.heap.size w w' := by
  go_enter Tryz.func92, Tryz.ntmps92
  go_wp2_with fail
  refine (breaks_any _ _ _ _).mono ?_
  rintro e w2 ⟨rfl, rfl⟩
  go_wp2_with fail
  refine (breaks_any _ _ _ _).mono ?_
  rintro e w2 ⟨rfl, rfl⟩
  go_wp2_with fail
  refine (breaks_any _ _ _ _).mono ?_
  rintro e w2 ⟨rfl, rfl⟩
  go_wp2_with fail
  refine (breaks_any _ _ _ _).mono ?_
  rintro e w2 ⟨rfl, rfl⟩
  go_wp2_with fail
  go_ret
  exact ⟨rfl, ⟨(blk_newD (by simp) _ _), (Blk.alloc (Blk.alloc (Blk.alloc (Blk.alloc (Blk.alloc (Blk.alloc (Blk.alloc (Blk.alloc (blk_newD (by simp) _ _) _) _) _) _) _) _) _) _), (Blk.alloc (Blk.alloc (Blk.alloc (Blk.alloc (Blk.alloc (Blk.alloc (Blk.alloc (blk_newD (by simp) _ _) _) _) _) _) _) _) _), (Blk.alloc (Blk.alloc (Blk.alloc (Blk.alloc (Blk.alloc (Blk.alloc (blk_newD (by simp) _ _) _) _) _) _) _) _), (Blk.alloc (Blk.alloc (Blk.alloc (Blk.alloc (Blk.alloc (blk_newD (by simp) _ _) _) _) _) _) _), (Blk.alloc (Blk.alloc (Blk.alloc (Blk.alloc (blk_newD (by simp) _ _) _) _) _) _), (Blk.alloc (Blk.alloc (Blk.alloc (blk_newD (by simp) _ _) _) _) _), (Blk.alloc (Blk.alloc (blk_newD (by simp) _ _) _) _), (Blk.alloc (blk_newD (by simp) _ _) _)⟩, ((((((((below1 w _).alloc (by simp) _).alloc (by simp; omega) _).alloc (by simp; omega) _).alloc (by simp; omega) _).alloc (by simp; omega) _).alloc (by simp; omega) _).alloc (by simp; omega) _).alloc (by simp; omega) _⟩
end Go.Proofs.YticgcimcebdjlaaGreat

namespace Go.Proofs.YticgcimcebdjlaaGreat
open Go.RowKit

theorem ints_blkD {W : World} {b : Nat} {l : List Int} {t : TypeId} (h : Blk W b (intsC l).toArray t) (hl : l.length ≤ 1000) : IntsAt W (some ⟨b, 0, none⟩) l.length l := by
  refine ⟨fun j y hj => ⟨b, 0, rfl, ?_⟩, Nat.le_refl _, by omega⟩
  have := Blk.cell h j
  rw [Nat.zero_add, this]
  simpa using hj
def onB (on c : Int) : Bool := decide (bits BinOp.and IntKind.i64 on c = c)
def firstD : List (Int × Bool) → Int
  | [] => 0
  | (y, b) :: t => if b = true then y else firstD t
def reasL (v : VwD) (k : Nat) (n : Int) (cr : Bool) : List (Int × Bool) := [(1, onB v.g.on 0 && decide (nameD v.ns n ∈ v.g.drain)), (2, onB v.g.on 0 && v.l.any (podCD (k : Int) [2])), (2, onB v.g.on 4 && v.l.any (podCD (k : Int) [3])), (3, onB v.g.on 2 && v.l.any (podCD (k : Int) [4, 5])), (4, onB v.g.on 1 && v.l.any (podCD (k : Int) [6])), (5, onB v.g.on 8 && cr), (6, onB v.g.on 0 && v.hs.contains n), (7, onB v.g.on 16 && v.ws.contains n)]
/-- Why a pod on node n is to go. -/
def whyD (v : VwD) (k : Nat) (n : Int) (cr : Bool) : Int := if n = -1 then 0 else firstD (reasL v k n cr)

set_option maxRecDepth 100000 in
set_option maxHeartbeats 8000000 in
theorem why_on (v : VwD) (k : Nat) (n : Int) (cr : Bool) (w : World) (h : VwAt w v) (hk : v.p[k]? = some n) (hn : 0 ≤ n)
    (hC : onB v.g.on 8 = true → ∀ W', VwAt W' v → Calls Tryz.prog 145 #[.agg (cellsVw v), .int .i64 (k : Int)] W' fun e w' => e = .returned (.bool cr) ∧ Below W'.heap.size W' w') :
    Calls Tryz.prog 52 #[.agg (cellsVw v), .int .i64 (k : Int)] w fun e w' => e = .returned (.int .i64 (firstD (reasL v k n cr))) ∧ Below w.heap.size w w' := by
  have B0 := Lib.hid (below1 w (.cells (cellsVw v) 92))
  have Q0 := Lib.hid (Blk.new w (cellsVw v) 92)
  have H := Lib.hid h
  have HK := Lib.hid hk
  have HN := Lib.hid hn
  have hkl := (List.getElem?_eq_some_iff.1 hk).1
  have k0 : (0 : Int) ≤ (k : Int) := by omega
  have k1 : (k : Int) < (v.p.length : Int) := by omega
  have hkd : ¬ (k : Int) < 0 := by omega
  have hn1 : ¬ n = -1 := by omega
  have hn2 : (n == -1) = false := by simpa using hn1
  have hn3 : decide (n = -1) = false := decide_eq_false hn1
  have K0 : Hid (∀ (N : Nat) W', VwAt W' v → ReasAt W' N → Calls Tryz.prog 143 #[.agg (cellsVw v), .int .i64 (k : Int)] W' fun e w' => e = .returned (.bool (decide (nameD v.ns n ∈ v.g.drain))) ∧ Below W'.heap.size W' w') := Lib.hid (fun N W' hv hr => isDrained_any v k n W' hv hk hn)
  have K1 : Hid (∀ (N : Nat) W', VwAt W' v → ReasAt W' N → Calls Tryz.prog 198 #[.agg (cellsVw v), .int .i64 (k : Int), .pointer (some ⟨N + 1, 0, none⟩)] W' fun e w' => e = .returned (.bool (v.l.any (podCD (k : Int) [2]))) ∧ Below W'.heap.size W' w') := Lib.hid (fun N W' hv hr => brk1_any v k (N + 1) (some ⟨N, 0, none⟩) 1 [2] W' hv (Blk.cell hr.s1 0) (ints_blkD (l := [2]) hr.k1 (by decide)))
  have K2 : Hid (∀ (N : Nat) W', VwAt W' v → ReasAt W' N → Calls Tryz.prog 198 #[.agg (cellsVw v), .int .i64 (k : Int), .pointer (some ⟨N + 3, 0, none⟩)] W' fun e w' => e = .returned (.bool (v.l.any (podCD (k : Int) [3]))) ∧ Below W'.heap.size W' w') := Lib.hid (fun N W' hv hr => brk1_any v k (N + 3) (some ⟨N + 2, 0, none⟩) 1 [3] W' hv (Blk.cell hr.s2 0) (ints_blkD (l := [3]) hr.k2 (by decide)))
  have K3 : Hid (∀ (N : Nat) W', VwAt W' v → ReasAt W' N → Calls Tryz.prog 198 #[.agg (cellsVw v), .int .i64 (k : Int), .pointer (some ⟨N + 5, 0, none⟩)] W' fun e w' => e = .returned (.bool (v.l.any (podCD (k : Int) [4, 5]))) ∧ Below W'.heap.size W' w') := Lib.hid (fun N W' hv hr => brk1_any v k (N + 5) (some ⟨N + 4, 0, none⟩) 2 [4, 5] W' hv (Blk.cell hr.s3 0) (ints_blkD (l := [4, 5]) hr.k3 (by decide)))
  have K4 : Hid (∀ (N : Nat) W', VwAt W' v → ReasAt W' N → Calls Tryz.prog 198 #[.agg (cellsVw v), .int .i64 (k : Int), .pointer (some ⟨N + 7, 0, none⟩)] W' fun e w' => e = .returned (.bool (v.l.any (podCD (k : Int) [6]))) ∧ Below W'.heap.size W' w') := Lib.hid (fun N W' hv hr => brk1_any v k (N + 7) (some ⟨N + 6, 0, none⟩) 1 [6] W' hv (Blk.cell hr.s4 0) (ints_blkD (l := [6]) hr.k4 (by decide)))
  have K5 : Hid (∀ (N : Nat) W', VwAt W' v → ReasAt W' N → onB v.g.on 8 = true → Calls Tryz.prog 145 #[.agg (cellsVw v), .int .i64 (k : Int)] W' fun e w' => e = .returned (.bool cr) ∧ Below W'.heap.size W' w') := Lib.hid (fun _ W' hv _ ho => hC ho W' hv)
  have K6 : Hid (∀ (N : Nat) W', VwAt W' v → ReasAt W' N → Calls Tryz.prog 146 #[.agg (cellsVw v), .int .i64 (k : Int)] W' fun e w' => e = .returned (.bool (v.hs.contains n)) ∧ Below W'.heap.size W' w') := Lib.hid (fun N W' hv hr => isHigh_any v k n W' hv hk)
  have K7 : Hid (∀ (N : Nat) W', VwAt W' v → ReasAt W' N → Calls Tryz.prog 147 #[.agg (cellsVw v), .int .i64 (k : Int)] W' fun e w' => e = .returned (.bool (v.ws.contains n)) ∧ Below W'.heap.size W' w') := Lib.hid (fun N W' hv hr => isLow_any v k n W' hv hk)
  obtain ⟨Rf, hRf⟩ : ∃ f : Nat → Int, f = fun j => firstD ((reasL v k n cr).drop j) := ⟨_, rfl⟩
  have FE : Hid (firstD (reasL v k n cr) = Rf 0) := Lib.hid (by rw [hRf]; rfl)
  have F0 : Hid (Rf 0 = if (onB v.g.on 0 && (decide (nameD v.ns n ∈ v.g.drain))) = true then 1 else Rf 1) := Lib.hid (by rw [hRf]; rfl)
  have F1 : Hid (Rf 1 = if (onB v.g.on 0 && (v.l.any (podCD (k : Int) [2]))) = true then 2 else Rf 2) := Lib.hid (by rw [hRf]; rfl)
  have F2 : Hid (Rf 2 = if (onB v.g.on 4 && (v.l.any (podCD (k : Int) [3]))) = true then 2 else Rf 3) := Lib.hid (by rw [hRf]; rfl)
  have F3 : Hid (Rf 3 = if (onB v.g.on 2 && (v.l.any (podCD (k : Int) [4, 5]))) = true then 3 else Rf 4) := Lib.hid (by rw [hRf]; rfl)
  have F4 : Hid (Rf 4 = if (onB v.g.on 1 && (v.l.any (podCD (k : Int) [6]))) = true then 4 else Rf 5) := Lib.hid (by rw [hRf]; rfl)
  have F5 : Hid (Rf 5 = if (onB v.g.on 8 && (cr)) = true then 5 else Rf 6) := Lib.hid (by rw [hRf]; rfl)
  have F6 : Hid (Rf 6 = if (onB v.g.on 0 && (v.hs.contains n)) = true then 6 else Rf 7) := Lib.hid (by rw [hRf]; rfl)
  have F7 : Hid (Rf 7 = if (onB v.g.on 16 && (v.ws.contains n)) = true then 7 else Rf 8) := Lib.hid (by rw [hRf]; rfl)
  have F8 : Hid (Rf 8 = 0) := Lib.hid (by rw [hRf]; rfl)
  rw [FE.out]
  have KEY : Hid (∀ (N j : Nat), j < 8 → ∃ (y c : Int) (f : FuncId) (cap : Array Value) (a : Bool), (∀ W', ReasAt W' N → W'.cell? ⟨N + 8, j * 3, none⟩ = some (.int .i64 y) ∧ W'.cell? ⟨N + 8, j * 3 + 1, none⟩ = some (.int .i64 c) ∧ W'.cell? ⟨N + 8, j * 3 + 2, none⟩ = some (.func (.func f) #[] cap)) ∧ (∀ (args : Array Value) (w : World), (callFunc f args).run Tryz.prog w = .ok (.enter f args) w) ∧ (∀ W', VwAt W' v → ReasAt W' N → onB v.g.on c = true → Calls Tryz.prog f (#[.agg (cellsVw v), .int .i64 (k : Int)] ++ cap) W' fun e w' => e = .returned (.bool a) ∧ Below W'.heap.size W' w') ∧ Rf j = if (onB v.g.on c && a) = true then y else Rf (j + 1)) := Lib.hid (by
    intro N j hj
    rcases j with _ | _ | _ | _ | _ | _ | _ | _ | j
    · exact ⟨1, 0, 143, #[], _, fun W' hr => ⟨Blk.cell hr.r 0, Blk.cell hr.r 1, Blk.cell hr.r 2⟩, fun _ _ => by kernel_rfl, fun W' hv hr ho => K0.out N W' hv hr, F0.out⟩
    · exact ⟨2, 0, 198, #[.pointer (some ⟨N + 1, 0, none⟩)], _, fun W' hr => ⟨Blk.cell hr.r 3, Blk.cell hr.r 4, Blk.cell hr.r 5⟩, fun _ _ => by kernel_rfl, fun W' hv hr ho => K1.out N W' hv hr, F1.out⟩
    · exact ⟨2, 4, 198, #[.pointer (some ⟨N + 3, 0, none⟩)], _, fun W' hr => ⟨Blk.cell hr.r 6, Blk.cell hr.r 7, Blk.cell hr.r 8⟩, fun _ _ => by kernel_rfl, fun W' hv hr ho => K2.out N W' hv hr, F2.out⟩
    · exact ⟨3, 2, 198, #[.pointer (some ⟨N + 5, 0, none⟩)], _, fun W' hr => ⟨Blk.cell hr.r 9, Blk.cell hr.r 10, Blk.cell hr.r 11⟩, fun _ _ => by kernel_rfl, fun W' hv hr ho => K3.out N W' hv hr, F3.out⟩
    · exact ⟨4, 1, 198, #[.pointer (some ⟨N + 7, 0, none⟩)], _, fun W' hr => ⟨Blk.cell hr.r 12, Blk.cell hr.r 13, Blk.cell hr.r 14⟩, fun _ _ => by kernel_rfl, fun W' hv hr ho => K4.out N W' hv hr, F4.out⟩
    · exact ⟨5, 8, 145, #[], _, fun W' hr => ⟨Blk.cell hr.r 15, Blk.cell hr.r 16, Blk.cell hr.r 17⟩, fun _ _ => by kernel_rfl, fun W' hv hr ho => K5.out N W' hv hr ho, F5.out⟩
    · exact ⟨6, 0, 146, #[], _, fun W' hr => ⟨Blk.cell hr.r 18, Blk.cell hr.r 19, Blk.cell hr.r 20⟩, fun _ _ => by kernel_rfl, fun W' hv hr ho => K6.out N W' hv hr, F6.out⟩
    · exact ⟨7, 16, 147, #[], _, fun W' hr => ⟨Blk.cell hr.r 21, Blk.cell hr.r 22, Blk.cell hr.r 23⟩, fun _ _ => by kernel_rfl, fun W' hv hr ho => K7.out N W' hv hr, F7.out⟩
    · omega)
  clear h hRf FE hC hn K0 K1 K2 K3 K4 K5 K6 K7 F0 F1 F2 F3 F4 F5 F6 F7
  go_enter Tryz.func52, Tryz.ntmps52
  go_upto_region 1 with fail
  try change Code.wp _ _ _ _ (w.alloc (.cells (cellsVw v) 92))
  generalize (w.alloc (.cells (cellsVw v) 92)) = W at B0 Q0 ⊢
  obtain ⟨b, o, hA, _, hc⟩ := atI (H.out.p.below B0.out).cells hk
  have z3 : W.cell? ⟨w.heap.size, 3, none⟩ = some (.slice v.P v.p.length v.cp) := Blk.cell Q0.out 3
  rw [hA] at z3
  go_wp2_with fail
  refine (reasons_any _).mono ?_
  rintro e W1 ⟨rfl, hR, hb⟩
  have R1 := Lib.hid hR
  have B1 := Lib.hid hb
  clear hR hb z3 hc hk hA
  have V1 : Hid (VwAt W1 v) := Lib.hid ((H.out.below B0.out).below B1.out)
  have HQ1 : Hid (Blk W1 w.heap.size (cellsVw v) 92) := Lib.hid (Q0.out.below B1.out Q0.out.lt)
  have BW : Hid (Below w.heap.size w W1) := Lib.hid (B0.out.trans (B1.out.mono B0.out.size))
  clear B1 B0 Q0
  generalize W.heap.size = N at R1 ⊢
  have KEYN := Lib.hid (KEY.out N)
  clear KEY
  go_wp2_with fail
  go_loopw [26] (fun i wr => ∃ j : Nat, j ≤ 8 ∧ i = .int .i64 j ∧ Rf j = Rf 0 ∧ Below W1.heap.size W1 wr) (fun i _ => 8 - (RowKit.intOf i).toNat)
  case atStart => exact ⟨0, by omega, rfl, rfl, Below.refl _ _⟩
  case round =>
    obtain ⟨j, hj, rfl, hRj, hb⟩ := hrel
    have HB := Lib.hid hb
    have HRJ := Lib.hid hRj
    have HR := Lib.hid (R1.out.below hb)
    have HQ : Hid (Blk wr w.heap.size (cellsVw v) 92) := Lib.hid (HQ1.out.below hb HQ1.out.lt)
    have HV := Lib.hid (V1.out.below hb)
    clear hb hRj
    by_cases hlt : j < 8
    case neg =>
      obtain rfl : j = 8 := by omega
      have HE : Hid (Rf 0 = 0) := Lib.hid (by rw [← HRJ.out, F8.out])
      go_wp2_with fail
      go_ret
      exact ⟨La.retI HE.out.symm, BW.out.trans (HB.out.mono BW.out.size)⟩
    obtain ⟨y, c, f, cap, a, hcells, hgf, hcall, hRf⟩ := KEYN.out j hlt
    obtain ⟨r0, r1, r2⟩ := hcells wr HR.out
    have HCALL := Lib.hid hcall
    have HRF := Lib.hid hRf
    have j0 : (0 : Int) ≤ (j : Int) := by omega
    have j1 : (j : Int) < 8 := by omega
    clear hcells hcall hRf
    go_upto_region 6 with fail
    have HB3 : Hid (Below wr.heap.size wr (wr.alloc (.cells #[.int .i64 y, .int .i64 c, .func (.func f) #[] cap] 153))) := Lib.hid (below1 wr _)
    have HR3 : Hid (Blk (wr.alloc (.cells #[.int .i64 y, .int .i64 c, .func (.func f) #[] cap] 153)) wr.heap.size #[.int .i64 y, .int .i64 c, .func (.func f) #[] cap] 153) := Lib.hid (Blk.new wr _ _)
    generalize (wr.alloc (.cells #[.int .i64 y, .int .i64 c, .func (.func f) #[] cap] 153)) = W3 at HB3 HR3 ⊢
    have HQ3 := Lib.hid (HQ.out.below HB3.out HQ.out.lt)
    have HA3 := Lib.hid (HR.out.below HB3.out)
    have HV3 := Lib.hid (HV.out.below HB3.out)
    have HW3 : Hid (Below W1.heap.size W1 W3) := Lib.hid (HB.out.trans (HB3.out.mono HB.out.size))
    have q0 : W3.cell? ⟨wr.heap.size, 0, none⟩ = some (.int .i64 y) := Blk.cell HR3.out 0
    have q1 : W3.cell? ⟨wr.heap.size, 1, none⟩ = some (.int .i64 c) := Blk.cell HR3.out 1
    have q2 : W3.cell? ⟨wr.heap.size, 2, none⟩ = some (.func (.func f) #[] cap) := Blk.cell HR3.out 2
    have m0 : W3.cell? ⟨w.heap.size, 0, none⟩ = some (.slice v.A v.ns.length v.ca) := Blk.cell HQ3.out 0
    have m1 : W3.cell? ⟨w.heap.size, 1, none⟩ = some (.slice v.B v.ps.length v.cb) := Blk.cell HQ3.out 1
    have m2 : W3.cell? ⟨w.heap.size, 2, none⟩ = some (.slice v.C v.os.length v.cc) := Blk.cell HQ3.out 2
    have m3 : W3.cell? ⟨w.heap.size, 3, none⟩ = some (.slice v.P v.p.length v.cp) := Blk.cell HQ3.out 3
    have m4 : W3.cell? ⟨w.heap.size, 4, none⟩ = some (.int .i64 v.g.l0) := Blk.cell HQ3.out 4
    have m5 : W3.cell? ⟨w.heap.size, 5, none⟩ = some (.int .i64 v.g.l1) := Blk.cell HQ3.out 5
    have m6 : W3.cell? ⟨w.heap.size, 6, none⟩ = some (.int .i64 v.g.h0) := Blk.cell HQ3.out 6
    have m7 : W3.cell? ⟨w.heap.size, 7, none⟩ = some (.int .i64 v.g.h1) := Blk.cell HQ3.out 7
    have m8 : W3.cell? ⟨w.heap.size, 8, none⟩ = some (.int .i64 v.g.on) := Blk.cell HQ3.out 8
    have m9 : W3.cell? ⟨w.heap.size, 9, none⟩ = some (.slice v.G v.g.drain.length v.cg) := Blk.cell HQ3.out 9
    have m10 : W3.cell? ⟨w.heap.size, 10, none⟩ = some (.int .i64 v.g.mx) := Blk.cell HQ3.out 10
    have m11 : W3.cell? ⟨w.heap.size, 11, none⟩ = some (.int .i64 v.g.tr) := Blk.cell HQ3.out 11
    have m12 : W3.cell? ⟨w.heap.size, 12, none⟩ = some (.bool v.g.rb) := Blk.cell HQ3.out 12
    have m13 : W3.cell? ⟨w.heap.size, 13, none⟩ = some (.slice v.K v.l.length v.ck) := Blk.cell HQ3.out 13
    have m14 : W3.cell? ⟨w.heap.size, 14, none⟩ = some (.slice v.X v.hs.length v.cx) := Blk.cell HQ3.out 14
    have m15 : W3.cell? ⟨w.heap.size, 15, none⟩ = some (.slice v.Y v.ws.length v.cy) := Blk.cell HQ3.out 15
    have m16 : W3.cell? ⟨w.heap.size, 16, none⟩ = some (.slice v.F v.full.length v.cf) := Blk.cell HQ3.out 16
    clear r0 r1 r2 HR HQ HV
    by_cases hb : bits BinOp.and IntKind.i64 v.g.on c = c
    · have ho : onB v.g.on c = true := decide_eq_true hb
      have hb1 : (bits BinOp.and IntKind.i64 v.g.on c == c) = true := by simpa using hb
      have KX := Lib.hid (HCALL.out W3 HV3.out HA3.out ho)
      have FX : Hid (Rf 0 = if a = true then y else Rf (j + 1)) := Lib.hid (by rw [← HRJ.out, HRF.out, ho, Bool.true_and])
      clear ho hb
      go_wp2_with fail
      refine (KX.out).mono ?_
      rintro e W4 ⟨rfl, hb4⟩
      have HB4 : Hid (Below W1.heap.size W1 W4) := Lib.hid (HW3.out.trans (hb4.mono HW3.out.size))
      have q00 : W4.cell? ⟨wr.heap.size, 0, none⟩ = some (.int .i64 y) := Blk.cell (HR3.out.below hb4 HR3.out.lt) 0
      clear hb4 KX m0 m1 m2 m3 m4 m5 m6 m7 m8 m9 m10 m11 m12 m13 m14 m15 m16 q0 q1 q2
      cases a with
      | true =>
        have HE : Hid (Rf 0 = y) := Lib.hid (by rw [FX.out, if_pos rfl])
        clear FX
        go_wp2_with fail
        go_ret
        exact ⟨La.retI HE.out.symm, BW.out.trans (HB4.out.mono BW.out.size)⟩
      | false =>
        have HE : Hid (Rf (j + 1) = Rf 0) := Lib.hid (by rw [FX.out, if_neg (by decide)])
        clear FX q00
        go_wp2_with fail
        go_roundw
        case rel => exact ⟨j + 1, by omega, by go_num, HE.out, HB4.out⟩
        case measure => simp [RowKit.intOf]; omega
    · have ho : onB v.g.on c = false := decide_eq_false hb
      have hb1 : (bits BinOp.and IntKind.i64 v.g.on c == c) = false := by simpa using hb
      have HE : Hid (Rf (j + 1) = Rf 0) := Lib.hid (by rw [← HRJ.out, HRF.out, ho]; rfl)
      clear ho
      go_wp2_with fail
      go_roundw
      case rel => exact ⟨j + 1, by omega, by go_num, HE.out, HW3.out⟩
      case measure => simp [RowKit.intOf]; omega
end Go.Proofs.YticgcimcebdjlaaGreat

namespace Go.Proofs.YticgcimcebdjlaaGreat
open Go.RowKit Go.Lib Go.Sort

/-- Why, which pod, on which node. -/
abbrev W3T := Int × Int × Int
abbrev w3C (x : W3T) : List Value := [.int .i64 x.1, .int .i64 x.2.1, .int .i64 x.2.2]
def cellsW3 (l : List W3T) : List Value := l.flatMap w3C
theorem cellsW3_append (l m : List W3T) : cellsW3 (l ++ m) = cellsW3 l ++ cellsW3 m := by simp [cellsW3]
theorem cellsW3_len (l : List W3T) : (cellsW3 l).length = l.length * 3 := by
  induction l with
  | nil => rfl
  | cons x t ih =>
    have : cellsW3 (x :: t) = w3C x ++ cellsW3 t := rfl
    rw [this, List.length_append, ih]
    simp
    omega
/-- What compares two: by why, then node, then pod. -/
def cmpW (x y : W3T) : Int := if Lib.compareInt x.1 y.1 = 0 then (if Lib.compareInt x.2.2 y.2.2 = 0 then Lib.compareInt x.2.1 y.2.1 else Lib.compareInt x.2.2 y.2.2) else Lib.compareInt x.1 y.1
abbrev ltW (x y : W3T) : Prop := x.1 < y.1 ∨ (x.1 = y.1 ∧ (x.2.2 < y.2.2 ∨ (x.2.2 = y.2.2 ∧ x.2.1 < y.2.1)))
theorem cmpI_zero (a b : Int) : Lib.compareInt a b = 0 ↔ a = b := by
  unfold Lib.compareInt
  split
  · omega
  · split <;> omega
theorem cmpI_neg (a b : Int) : Lib.compareInt a b < 0 ↔ a < b := by
  unfold Lib.compareInt
  split
  · omega
  · split <;> omega
theorem ltW_of (x y : W3T) : ltOf cmpW x y = decide (ltW x y) := by
  unfold ltOf cmpW
  by_cases h1 : Lib.compareInt x.1 y.1 = 0
  · have e1 := (cmpI_zero _ _).1 h1
    rw [if_pos h1]
    by_cases h2 : Lib.compareInt x.2.2 y.2.2 = 0
    · have e2 := (cmpI_zero _ _).1 h2
      rw [if_pos h2]
      rw [decide_eq_decide, cmpI_neg]
      omega
    · have e2 : ¬ x.2.2 = y.2.2 := fun h => h2 ((cmpI_zero _ _).2 h)
      rw [if_neg h2, decide_eq_decide, cmpI_neg]
      omega
  · have e1 : ¬ x.1 = y.1 := fun h => h1 ((cmpI_zero _ _).2 h)
    rw [if_neg h1, decide_eq_decide, cmpI_neg]
    omega
theorem swoW : SWO (ltOf cmpW) where
  irrefl x := by rw [ltW_of]; simp [ltW]
  trans x y z h1 h2 := by
    rw [ltW_of, decide_eq_true_iff] at *
    unfold ltW at *
    omega
  ntrans x y z h1 h2 := by
    rw [ltW_of, decide_eq_false_iff_not] at *
    unfold ltW at *
    omega
theorem totW (x y : W3T) (h1 : ltOf cmpW x y = false) (h2 : ltOf cmpW y x = false) : x = y := by
  rw [ltW_of, decide_eq_false_iff_not] at *
  unfold ltW at *
  obtain ⟨a, b, c⟩ := x
  obtain ⟨a', b', c'⟩ := y
  simp only [Prod.mk.injEq]
  dsimp only at h1 h2
  omega
/-- They in order. -/
def sortW (l : List W3T) : List W3T := l.mergeSort fun x y => !(ltOf cmpW) y x
theorem sortW_perm (l : List W3T) : (sortW l).Perm l := List.mergeSort_perm _ _
theorem sortW_len (l : List W3T) : (sortW l).length = l.length := (sortW_perm l).length_eq
theorem sortW_nil : sortW [] = [] := by simp [sortW]
theorem sortW_one (x : W3T) : sortW [x] = [x] := by
  unfold sortW
  simp
theorem sortW_id {l : List W3T} (h : l.Pairwise ltW) : sortW l = l := by
  unfold sortW
  apply List.mergeSort_of_pairwise
  refine h.imp ?_
  intro a b h
  simp only [Bool.not_eq_true', ltW_of, decide_eq_false_iff_not]
  unfold ltW at *
  omega
/-- The pods that are to go, of the first k, by what tells why. -/
def wrongK (p : List Int) (F : Nat → Int → Int) : Nat → List W3T
  | 0 => []
  | k + 1 => wrongK p F k ++ (match p[k]? with
    | some n => if F k n = 0 then [] else [(F k n, (k : Int), n)]
    | none => [])
theorem wrongK_len (p : List Int) (F : Nat → Int → Int) : ∀ k, (wrongK p F k).length ≤ k
  | 0 => Nat.le_refl _
  | k + 1 => by
    have := wrongK_len p F k
    rw [wrongK, List.length_append]
    split
    · split <;> simp <;> omega
    · simp; omega
end Go.Proofs.YticgcimcebdjlaaGreat

namespace Go.Proofs.YticgcimcebdjlaaGreat
open Go.RowKit

theorem retID {k : IntKind} {a b : Int} (h : a = b) : Ending.returned (.int k a) = .returned (.int k b) := by rw [h]
theorem isNaN_no (x : Int) (w : World) : Calls Tryz.prog 142 #[.int .i64 x] w fun e w' => e = .returned (.bool false) ∧ w' = w := by
  go_enter Tryz.func142, Tryz.ntmps142
  go_wp2
  go_ret
  exact ⟨rfl, rfl⟩
theorem cmp_any (x y : Int) (w : World) : Calls Tryz.prog 91 #[.int .i64 x, .int .i64 y] w fun e w' => e = .returned (.int .i64 (Lib.compareInt x y)) ∧ w' = w := by
  have K := Lib.hid (fun x w => isNaN_no x w)
  have E : Hid (Lib.compareInt x y = if x < y then -1 else if y < x then 1 else 0) := Lib.hid rfl
  generalize Lib.compareInt x y = r at E ⊢
  by_cases h1 : x < y
  · obtain rfl : r = -1 := by rw [E.out, if_pos h1]
    have h1d : decide (x < y) = true := decide_eq_true h1
    clear E
    go_enter Tryz.func91, Tryz.ntmps91
    go_wp2_with (go_at_call 142; refine (K.out _ _).mono ?_; rintro e w' ⟨rfl, rfl⟩)
    go_ret
    exact ⟨rfl, rfl⟩
  · have h1d : decide (x < y) = false := decide_eq_false h1
    by_cases h2 : y < x
    · obtain rfl : r = 1 := by rw [E.out, if_neg h1, if_pos h2]
      have h2d : decide (y < x) = true := decide_eq_true h2
      clear E
      go_enter Tryz.func91, Tryz.ntmps91
      go_wp2_with (go_at_call 142; refine (K.out _ _).mono ?_; rintro e w' ⟨rfl, rfl⟩)
      go_ret
      exact ⟨rfl, rfl⟩
    · obtain rfl : r = 0 := by rw [E.out, if_neg h1, if_neg h2]
      have h2d : decide (y < x) = false := decide_eq_false h2
      clear E
      go_enter Tryz.func91, Tryz.ntmps91
      go_wp2_with (go_at_call 142; refine (K.out _ _).mono ?_; rintro e w' ⟨rfl, rfl⟩)
      go_ret
      exact ⟨rfl, rfl⟩

/-- One world is another with draws, and new blocks behind it. -/
def GrD (w w' : World) : Prop := ∃ q os, w' = Sort.grow (w.drewN q) os
theorem GrD.refl (w : World) : GrD w w := ⟨0, #[], by rw [Sort.grow_empty]; rfl⟩
theorem GrD.drew {w w' : World} (h : GrD w w') : GrD w w'.drew := by
  obtain ⟨q, os, rfl⟩ := h
  exact ⟨q + 1, os, rfl⟩
theorem GrD.alloc {w w' : World} (h : GrD w w') (o : Obj) : GrD w (w'.alloc o) := by
  obtain ⟨q, os, rfl⟩ := h
  exact ⟨q, os ++ #[o], by rw [Sort.alloc_eq_grow, Sort.grow_grow]⟩
theorem GrD.trans {w w' w'' : World} (h : GrD w w') (k : GrD w' w'') : GrD w w'' := by
  obtain ⟨q, os, rfl⟩ := h
  obtain ⟨q', os', rfl⟩ := k
  refine ⟨q + q', os ++ os', ?_⟩
  show Sort.grow (Sort.grow ((w.drewN q).drewN q') os) os' = _
  rw [Sort.grow_grow, World.drewN_drewN]
theorem GrD.size {w w' : World} (h : GrD w w') : w.heap.size ≤ w'.heap.size := by
  obtain ⟨q, os, rfl⟩ := h
  rw [Sort.size_grow]
  exact Nat.le_add_right _ _
theorem GrD.cell {w w' : World} (h : GrD w w') {a : Addr} {v : Value} (hb : a.block < w.heap.size) (hc : w.cell? a = some v) : w'.cell? a = some v := by
  obtain ⟨q, os, rfl⟩ := h
  rw [Sort.cell?_grow _ _ _ (by exact hb)]
  exact hc

theorem why1_any (z : W3T) (w : World) : Calls Tryz.prog 49 #[.agg #[.int .i64 z.1, .int .i64 z.2.1, .int .i64 z.2.2]] w fun e w' => e = .returned (.int .i64 z.1) ∧ GrD w w' := by
  go_enter Tryz.func49, Tryz.ntmps49
  go_wp2
  go_ret
  exact ⟨rfl, (GrD.refl w).alloc _⟩
theorem why2_any (z : W3T) (w : World) : Calls Tryz.prog 50 #[.agg #[.int .i64 z.1, .int .i64 z.2.1, .int .i64 z.2.2]] w fun e w' => e = .returned (.int .i64 z.2.2) ∧ GrD w w' := by
  go_enter Tryz.func50, Tryz.ntmps50
  go_wp2
  go_ret
  exact ⟨rfl, (GrD.refl w).alloc _⟩
theorem why3_any (z : W3T) (w : World) : Calls Tryz.prog 51 #[.agg #[.int .i64 z.1, .int .i64 z.2.1, .int .i64 z.2.2]] w fun e w' => e = .returned (.int .i64 z.2.1) ∧ GrD w w' := by
  go_enter Tryz.func51, Tryz.ntmps51
  go_wp2
  go_ret
  exact ⟨rfl, (GrD.refl w).alloc _⟩
theorem blk2D (w : World) (o : Obj) (cs : Array Value) (t : TypeId) : Blk ((w.alloc o).alloc (.cells cs t)) (w.heap.size + 1) cs t := by
  have := Blk.new (w.alloc o) cs t
  rwa [World.size_alloc] at this

set_option maxRecDepth 100000 in
set_option maxHeartbeats 4000000 in
theorem by1_any (g N : Nat) (x y : W3T) (W : World) (hg : W.cell? ⟨g, 0, none⟩ = some (.slice (some ⟨N, 0, none⟩) 3 3)) (h0 : W.cell? ⟨N, 0, none⟩ = some (.func (.func 49) #[] #[])) (h1 : W.cell? ⟨N, 1, none⟩ = some (.func (.func 50) #[] #[])) (h2 : W.cell? ⟨N, 2, none⟩ = some (.func (.func 51) #[] #[])) (hgb : g < W.heap.size) (hnb : N < W.heap.size) :
    Calls Tryz.prog 90 #[.agg #[.int .i64 x.1, .int .i64 x.2.1, .int .i64 x.2.2], .agg #[.int .i64 y.1, .int .i64 y.2.1, .int .i64 y.2.2], .pointer (some ⟨g, 0, none⟩)] W fun e w' => e = .returned (.int .i64 (cmpW x y)) ∧ GrD W w' := by
  obtain ⟨Rf, hRf⟩ : ∃ f : Nat → Int, f = fun j => match j with
    | 0 => cmpW x y
    | 1 => if Lib.compareInt x.2.2 y.2.2 = 0 then Lib.compareInt x.2.1 y.2.1 else Lib.compareInt x.2.2 y.2.2
    | 2 => Lib.compareInt x.2.1 y.2.1
    | _ => 0 := ⟨_, rfl⟩
  have FE : Hid (cmpW x y = Rf 0) := Lib.hid (by rw [hRf]; rfl)
  have F0 : Hid (Rf 0 = if Lib.compareInt x.1 y.1 = 0 then Rf 1 else Lib.compareInt x.1 y.1) := Lib.hid (by rw [hRf]; rfl)
  have F1 : Hid (Rf 1 = if Lib.compareInt x.2.2 y.2.2 = 0 then Rf 2 else Lib.compareInt x.2.2 y.2.2) := Lib.hid (by rw [hRf]; rfl)
  have F2 : Hid (Rf 2 = if Lib.compareInt x.2.1 y.2.1 = 0 then Rf 3 else Lib.compareInt x.2.1 y.2.1) := Lib.hid (by
    rw [hRf]
    by_cases h : Lib.compareInt x.2.1 y.2.1 = 0
    · rw [if_pos h]; exact h
    · rw [if_neg h]; rfl)
  have F3 : Hid (Rf 3 = 0) := Lib.hid (by rw [hRf]; rfl)
  rw [FE.out]
  have KC := Lib.hid (fun x y w => cmp_any x y w)
  have KEY : Hid (∀ j : Nat, j < 3 → ∃ (f : FuncId) (a b : Int), (∀ W', GrD W W' → W'.cell? ⟨N, j, none⟩ = some (.func (.func f) #[] #[])) ∧ (∀ (args : Array Value) (w : World), (callFunc f args).run Tryz.prog w = .ok (.enter f args) w) ∧ (∀ W', Calls Tryz.prog f #[.agg #[.int .i64 x.1, .int .i64 x.2.1, .int .i64 x.2.2]] W' fun e w' => e = .returned (.int .i64 a) ∧ GrD W' w') ∧ (∀ W', Calls Tryz.prog f #[.agg #[.int .i64 y.1, .int .i64 y.2.1, .int .i64 y.2.2]] W' fun e w' => e = .returned (.int .i64 b) ∧ GrD W' w') ∧ Rf j = if Lib.compareInt a b = 0 then Rf (j + 1) else Lib.compareInt a b) := Lib.hid (by
    intro j hj
    rcases j with _ | _ | _ | j
    · exact ⟨49, _, _, fun W' hr => hr.cell hnb h0, fun _ _ => by kernel_rfl, fun W' => why1_any x W', fun W' => why1_any y W', F0.out⟩
    · exact ⟨50, _, _, fun W' hr => hr.cell hnb h1, fun _ _ => by kernel_rfl, fun W' => why2_any x W', fun W' => why2_any y W', F1.out⟩
    · exact ⟨51, _, _, fun W' hr => hr.cell hnb h2, fun _ _ => by kernel_rfl, fun W' => why3_any x W', fun W' => why3_any y W', F2.out⟩
    · omega)
  have HX : Hid (GrD W ((W.alloc (.cells #[.int .i64 x.1, .int .i64 x.2.1, .int .i64 x.2.2] 98)).alloc (.cells #[.int .i64 y.1, .int .i64 y.2.1, .int .i64 y.2.2] 98))) := Lib.hid (((GrD.refl W).alloc _).alloc _)
  have QX : Hid (Blk ((W.alloc (.cells #[.int .i64 x.1, .int .i64 x.2.1, .int .i64 x.2.2] 98)).alloc (.cells #[.int .i64 y.1, .int .i64 y.2.1, .int .i64 y.2.2] 98)) W.heap.size #[.int .i64 x.1, .int .i64 x.2.1, .int .i64 x.2.2] 98) := Lib.hid (Blk.alloc (Blk.new W _ _) _)
  have QY : Hid (Blk ((W.alloc (.cells #[.int .i64 x.1, .int .i64 x.2.1, .int .i64 x.2.2] 98)).alloc (.cells #[.int .i64 y.1, .int .i64 y.2.1, .int .i64 y.2.2] 98)) (W.heap.size + 1) #[.int .i64 y.1, .int .i64 y.2.1, .int .i64 y.2.2] 98) := Lib.hid (blk2D W _ _ _)
  clear hRf FE F0 F1 F2 h0 h1 h2
  go_enter Tryz.func90, Tryz.ntmps90
  go_upto_region 1 with fail
  try change Code.wp _ _ _ _ ((W.alloc (.cells #[.int .i64 x.1, .int .i64 x.2.1, .int .i64 x.2.2] 98)).alloc (.cells #[.int .i64 y.1, .int .i64 y.2.1, .int .i64 y.2.2] 98))
  generalize ((W.alloc (.cells #[.int .i64 x.1, .int .i64 x.2.1, .int .i64 x.2.2] 98)).alloc (.cells #[.int .i64 y.1, .int .i64 y.2.1, .int .i64 y.2.2] 98)) = W2 at HX QX QY ⊢
  have z2 : W2.cell? ⟨g, 0, none⟩ = some (.slice (some ⟨N, 0, none⟩) 3 3) := HX.out.cell hgb hg
  obtain ⟨by_, hby⟩ : ∃ b, W.heap.size + 1 = b := ⟨_, rfl⟩
  have HBY := Lib.hid hby
  rw [hby] at QY ⊢
  clear hby
  have HXY : Hid (∀ W', GrD W2 W' → (W'.cell? ⟨W.heap.size, 0, none⟩ = some (.int .i64 x.1) ∧ W'.cell? ⟨W.heap.size, 1, none⟩ = some (.int .i64 x.2.1) ∧ W'.cell? ⟨W.heap.size, 2, none⟩ = some (.int .i64 x.2.2)) ∧ (W'.cell? ⟨by_, 0, none⟩ = some (.int .i64 y.1) ∧ W'.cell? ⟨by_, 1, none⟩ = some (.int .i64 y.2.1) ∧ W'.cell? ⟨by_, 2, none⟩ = some (.int .i64 y.2.2))) := Lib.hid (fun W' h => ⟨⟨h.cell QX.out.lt (Blk.cell QX.out 0), h.cell QX.out.lt (Blk.cell QX.out 1), h.cell QX.out.lt (Blk.cell QX.out 2)⟩, ⟨h.cell QY.out.lt (Blk.cell QY.out 0), h.cell QY.out.lt (Blk.cell QY.out 1), h.cell QY.out.lt (Blk.cell QY.out 2)⟩⟩)
  clear QX QY HBY
  go_wp2_with fail
  go_loopw [11] (fun i wr => ∃ j : Nat, j ≤ 3 ∧ i = .int .i64 j ∧ Rf j = Rf 0 ∧ GrD W2 wr) (fun i _ => 3 - (RowKit.intOf i).toNat)
  case atStart => exact ⟨0, by omega, rfl, rfl, GrD.refl _⟩
  case round =>
    clear z2
    obtain ⟨j, hj, rfl, hRj, hb⟩ := hrel
    have HB := Lib.hid hb
    have HRJ := Lib.hid hRj
    clear hb hRj
    by_cases hlt : j < 3
    case neg =>
      obtain rfl : j = 3 := by omega
      have HE : Hid (Rf 0 = 0) := Lib.hid (by rw [← HRJ.out, F3.out])
      have D := Lib.hid (HX.out.trans HB.out)
      go_wp2_with fail
      go_ret
      exact ⟨retID HE.out.symm, D.out⟩
    obtain ⟨f, a, b, hcell, hgf, hca, hcb, hRf⟩ := KEY.out j hlt
    have r0 := hcell wr (HX.out.trans HB.out)
    have KA := Lib.hid hca
    have KB := Lib.hid hcb
    have HRF := Lib.hid hRf
    have j0 : (0 : Int) ≤ (j : Int) := by omega
    have j1 : (j : Int) < 3 := by omega
    have HR : Hid (∀ W', GrD wr W' → GrD W2 W') := Lib.hid (fun W' h => HB.out.trans h)
    clear hcell hca hcb hRf
    go_upto_region 4 with fail
    clear r0
    go_cut [8] (fun v wc => v = .int .i64 (Lib.compareInt a b) ∧ GrD wr wc)
    case first =>
      have G0 : Hid (GrD wr wr.drew) := Lib.hid (GrD.drew (GrD.refl wr))
      have S0 := HXY.out _ (HR.out _ G0.out)
      go_region_held3 (fun w' => (w'.cell? ⟨W.heap.size, 0, none⟩ = some (.int .i64 x.1) ∧ w'.cell? ⟨W.heap.size, 1, none⟩ = some (.int .i64 x.2.1) ∧ w'.cell? ⟨W.heap.size, 2, none⟩ = some (.int .i64 x.2.2)) ∧ (w'.cell? ⟨by_, 0, none⟩ = some (.int .i64 y.1) ∧ w'.cell? ⟨by_, 1, none⟩ = some (.int .i64 y.2.1) ∧ w'.cell? ⟨by_, 2, none⟩ = some (.int .i64 y.2.2)))
        (first | (with_reducible exact S0) | (with_reducible exact S1) | (with_reducible exact S2) | (with_reducible exact S3))
        (first
          | (go_at_fn f
             with_reducible refine (KA.out wr.drew).mono ?_
             rintro e wA ⟨rfl, hA⟩
             have GA := Lib.hid (G0.out.trans hA)
             have S1 := HXY.out _ (HR.out _ GA.out)
             clear hA)
          | (go_at_fn f
             with_reducible refine (KB.out wA).mono ?_
             rintro e wB ⟨rfl, hB⟩
             have GB := Lib.hid (GA.out.trans hB)
             have S2 := HXY.out _ (HR.out _ GB.out)
             clear hB)
          | (go_at_call 91
             with_reducible refine (KC.out a b _).mono ?_
             rintro e wC ⟨rfl, rfl⟩))
      all_goals
        (try go_wp2_with fail)
        go_meet
        exact ⟨rfl, GB.out⟩
    case rest =>
      obtain ⟨rfl, hbc⟩ := hcut
      have HC := Lib.hid (HR.out _ hbc)
      clear hbc KA KB
      generalize Lib.compareInt a b = r at HRF ⊢
      by_cases hr : r = 0
      · subst hr
        have HE : Hid (Rf (j + 1) = Rf 0) := Lib.hid (by rw [← HRJ.out, HRF.out, if_pos rfl])
        go_wp2_with fail
        go_roundw
        case rel => exact ⟨j + 1, by omega, by go_num, HE.out, HC.out⟩
        case measure => simp [RowKit.intOf]; omega
      · have HE : Hid (Rf 0 = r) := Lib.hid (by rw [← HRJ.out, HRF.out, if_neg hr])
        have hrb : (r != 0) = true := by simpa using hr
        have D := Lib.hid (HX.out.trans HC.out)
        clear HRF
        go_wp2_with fail
        go_ret
        exact ⟨retID HE.out.symm, D.out⟩
end Go.Proofs.YticgcimcebdjlaaGreat

namespace Go.Proofs.YticgcimcebdjlaaGreat
open Go.RowKit

theorem cellsW3_at : ∀ (l : List W3T) (t : Nat), t < l.length * 3 → (cellsW3 l)[t]? = (w3C l[t / 3]!)[t % 3]?
  | [], t, h => by simp at h
  | x :: l, t, h => by
    have e : cellsW3 (x :: l) = w3C x ++ cellsW3 l := rfl
    rw [e]
    match t, h with
    | 0, _ => rfl
    | 1, _ => rfl
    | 2, _ => rfl
    | t + 3, h =>
      have h1 : (t + 3) / 3 = t / 3 + 1 := by omega
      have h2 : (t + 3) % 3 = t % 3 := by omega
      rw [List.getElem?_append_right (by simp), h1, h2]
      have := cellsW3_at l t (by simp at h; omega)
      simpa using this
theorem flatW (d : Array W3T) : Sort.flatK w3C 3 d = (cellsW3 d.toList).toArray := by
  refine Sort.ext_get! (by simp [cellsW3_len]) ?_
  intro t ht
  rw [Sort.size_flatK] at ht
  rw [Sort.get_flatK _ _ _ _ ht]
  have h1 := cellsW3_at d.toList t (by simpa using ht)
  have h3 : t % 3 < 3 := Nat.mod_lt _ (by decide)
  have h2 : (cellsW3 d.toList).toArray[t]! = ((cellsW3 d.toList)[t]?).getD default := by
    rw [List.getElem!_toArray, List.getElem!_eq_getElem?_getD]
  rw [h2, h1]
  have hd : t / 3 < d.size := by omega
  have h4 : d.toList[t / 3]! = d[t / 3]! := by
    rw [getElem!_pos d (t / 3) hd, getElem!_pos d.toList (t / 3) (by simpa using hd)]
    simp
  rw [h4, List.getElem!_eq_getElem?_getD]
theorem heap_putW {w : World} {g n : Nat} {os : Array Obj} {cur : Array Value} {e : TypeId} {fr : Nat × Nat} (F : Array Value) (hb : w.heap[g]? = some (.cells cur e fr)) :
    (Sort.grow (Sort.putRow id (Sort.ahead w n) g 0 F) os).heap[g]? = some (.cells (Sort.putCells id 0 F cur) e fr) := by
  have hg : g < w.heap.size := (Array.getElem?_eq_some_iff.1 hb).1
  rw [Sort.heap_grow_old _ _ (by simpa using hg)]
  simp [Sort.putRow, Sort.mapBlock, Sort.ahead, Array.getElem?_modify, hb, Sort.onCells]
theorem below_putW {w : World} {g n base : Nat} {os : Array Obj} (F : Array Value) (hg : base ≤ g) (hs : base ≤ w.heap.size) : Below base w (Sort.grow (Sort.putRow id (Sort.ahead w n) g 0 F) os) := by
  refine ⟨rfl, rfl, rfl, by simp, fun k hk => ?_⟩
  rw [Sort.heap_grow_old _ _ (by simp; omega)]
  have : g ≠ k := by omega
  simp [Sort.putRow, Sort.mapBlock, Sort.ahead, Array.getElem?_modify, this]
theorem take_putW (cur : Array Value) (F : List Value) (h : F.length ≤ cur.size) : (Sort.putCells id 0 F.toArray cur).toList.take F.length = F := by
  apply List.ext_getElem?
  intro j
  by_cases hj : j < F.length
  · rw [List.getElem?_take_of_lt hj, Array.getElem?_toList]
    simp [Sort.putCells, hj, show j < cur.size by omega]
  · rw [List.getElem?_take_eq_none (by omega), List.getElem?_eq_none (by omega)]
theorem own_putW {w : World} {base g cap n m size : Nat} {e : TypeId} {os : Array Obj} {cur : Array Value} {F : List Value} (hF : F.length = n * size) (hbase : base ≤ g) (hb : w.heap[g]? = some (.cells cur e (0, 0)))
    (h1 : n ≤ cap) (h2 : cap ≤ maxLen) (h3 : cur.size = cap * size) :
    (Sort.grow (Sort.putRow id (Sort.ahead w m) g 0 F.toArray) os).ownsRow base e size (.slice (some ⟨g, 0, none⟩) n cap) n F :=
  ⟨hF, .inr ⟨g, cap, _, rfl, hbase, heap_putW _ hb, h1, h2, by simp [Sort.putCells, h3], by
    rw [← hF]
    exact take_putW cur F (by rw [hF, h3]; exact Nat.mul_le_mul_right _ h1)⟩⟩
theorem cell_sortW {w : World} {blk off m : Nat} {dk : Array W3T} {os : Array Obj} {a : Addr} {v : Value} (ha : a.block ≠ blk) (hb : a.block < w.heap.size) (h : w.cell? a = some v) : (sortWorldK w3C 3 w blk off m dk os).cell? a = some v := by
  unfold sortWorldK
  rw [Sort.cell?_grow _ _ _ (by unfold Sort.putRowK; simpa using hb)]
  unfold Sort.putRowK
  exact (Sort.cell?_putRow_other id _ blk off _ a (Or.inl ha)).trans h

set_option maxHeartbeats 1000000 in
theorem sortW_any (base g N cg : Nat) (G : Option Addr) (l : List W3T) (W : World) (hl : l.length ≤ 1000) (hbs : base ≤ W.heap.size) (ho : W.ownsRow base 98 3 (.slice G l.length cg) l.length (cellsW3 l)) (hG : ∀ b, G = some ⟨b, 0, none⟩ → b ≠ g ∧ b ≠ N) (hg : W.cell? ⟨g, 0, none⟩ = some (.slice (some ⟨N, 0, none⟩) 3 3)) (h0 : W.cell? ⟨N, 0, none⟩ = some (.func (.func 49) #[] #[])) (h1 : W.cell? ⟨N, 1, none⟩ = some (.func (.func 50) #[] #[])) (h2 : W.cell? ⟨N, 2, none⟩ = some (.func (.func 51) #[] #[])) (hgb : g < W.heap.size) (hnb : N < W.heap.size) :
    Calls Tryz.prog 47 #[.slice G l.length cg, .func (.func 90) #[] #[.pointer (some ⟨g, 0, none⟩)]] W fun e w' => e = .returned (.tuple #[]) ∧ w'.ownsRow base 98 3 (.slice G l.length cg) l.length (cellsW3 (sortW l)) ∧ Below base W w' := by
  by_cases hnil : l = []
  · subst hnil
    rw [sortW_nil]
    refine (AnyF.slices_SortFunc_none Tryz.sortw47 G cg _ W).mono ?_
    rintro e w' ⟨rfl, rfl⟩
    exact ⟨rfl, ho, Below.refl _ _⟩
  rcases ho.2 with ⟨hv, hz⟩ | ⟨b, cap, cur, hv, hbase, hheap, hle, hcap, hcur, htake⟩
  · exact absurd (List.length_eq_zero_iff.1 hz) hnil
  cases hv
  have hblk : b < W.heap.size := (Array.getElem?_eq_some_iff.1 hheap).1
  obtain ⟨n1, n2⟩ := hG b rfl
  have hlen : (cellsW3 l).length = l.length * 3 := cellsW3_len l
  have hH : Sort.HoldsK w3C 3 W b 0 l.toArray := by
    unfold Sort.HoldsK
    rw [flatW]
    intro j hj
    have hj' : j < (cellsW3 l).length := by simpa using hj
    refine ⟨?_, by simp [World.frozen?, hheap]⟩
    have h1 : (cur.toList.take (l.length * 3))[j]? = (cellsW3 l)[j]? := by rw [htake]
    rw [List.getElem?_take_of_lt (by omega)] at h1
    simp only [World.cell?, hheap, Nat.zero_add]
    simp only [Option.isSome_none, Bool.false_eq_true, if_false]
    rw [← Array.getElem?_toList, h1]
    simp [hj']
  have hcmp : CmpLays Tryz.prog 90 #[.pointer (some ⟨g, 0, none⟩)] w3C 3 cmpW b 0 l.toArray.size W := by
    intro m os dk _ x y
    have hsz : W.heap.size ≤ (sortWorldK w3C 3 W b 0 m dk os).heap.size := by
      unfold sortWorldK Sort.putRowK
      simp
    exact by1_any g N x y _ (cell_sortW n1.symm hgb hg) (cell_sortW n2.symm hnb h0) (cell_sortW n2.symm hnb h1) (cell_sortW n2.symm hnb h2) (Nat.lt_of_lt_of_le hgb hsz) (Nat.lt_of_lt_of_le hnb hsz)
  have K := AnyQ.slices_SortFunc_total Tryz.sortw47 3 Tryz.isAgg98 Tryz.sizeOf98 w3C (fun _ => rfl) (fun x v hv => by simp [w3C] at hv; rcases hv with rfl | rfl | rfl <;> rfl) cmpW swoW 90 #[.pointer (some ⟨g, 0, none⟩)] b 0 cg l.toArray W (fun _ _ => by kernel_rfl) hcmp hH hblk (by simp; omega) totW
  rw [List.size_toArray] at K
  refine Calls.mono K ?_
  rintro e w' ⟨rfl, n, os, rfl⟩
  have hs : ((l.toArray.toList.mergeSort fun x y => !(ltOf cmpW) y x).toArray).toList = sortW l := rfl
  unfold sortWorldK Sort.putRowK
  rw [flatW, hs]
  exact ⟨rfl, own_putW (by rw [cellsW3_len, sortW_len]) hbase hheap hle hcap hcur, below_putW _ hbase hbs⟩
end Go.Proofs.YticgcimcebdjlaaGreat

namespace Go.Proofs.YticgcimcebdjlaaGreat
open Go.RowKit

theorem wr_info : (Tryz.prog.info? 98).map (fun i => (i.zero, i.size, i.bytes)) = some (some (.agg #[.int .i64 0, .int .i64 0, .int .i64 0]), 3, 24) := by kernel_rfl
set_option maxRecDepth 100000 in
set_option maxHeartbeats 4000000 in
theorem wrong_any (v : VwD) (F : Nat → Int → Int) (w : World) (h : VwAt w v) (hfew : v.p.length ≤ 1000) (KW : ∀ (k : Nat) (n : Int) (W' : World), v.p[k]? = some n → VwAt W' v → Calls Tryz.prog 52 #[.agg (cellsVw v), .int .i64 (k : Int)] W' fun e w' => e = .returned (.int .i64 (F k n)) ∧ Below W'.heap.size W' w') :
    Calls Tryz.prog 46 #[.agg (cellsVw v)] w fun e w' => ∃ x, e = .returned x ∧ w'.ownsRow w.heap.size 98 3 x (wrongK v.p F v.p.length).length (cellsW3 (wrongK v.p F v.p.length)) ∧ Below w.heap.size w w' := by
  have B0 := Lib.hid (below1 w (.cells (cellsVw v) 92))
  have Q0 := Lib.hid (Blk.new w (cellsVw v) 92)
  have H := Lib.hid h
  have K := Lib.hid KW
  obtain ⟨i0, hi0, hz0, hz1, hz2⟩ := info_parts wr_info
  clear h KW
  go_enter Tryz.func46, Tryz.ntmps46
  go_upto_region 1 with fail
  try change Code.wp _ _ _ _ (w.alloc (.cells (cellsVw v) 92))
  generalize (w.alloc (.cells (cellsVw v) 92)) = W at B0 Q0 ⊢
  have z3 : W.cell? ⟨w.heap.size, 3, none⟩ = some (.slice v.P v.p.length v.cp) := Blk.cell Q0.out 3
  go_wp2_with fail
  go_loopw [2, 9] (fun x i wr => ∃ k : Nat, k ≤ v.p.length ∧ i = .int .i64 k ∧ wr.ownsRow W.heap.size 98 3 x (wrongK v.p F k).length (cellsW3 (wrongK v.p F k)) ∧ Below W.heap.size W wr) (fun _ i _ => v.p.length - (intOf i).toNat)
  case atStart => exact ⟨0, by omega, rfl, World.ownsRow_nil _ _ _ _, Below.refl _ _⟩
  case round =>
    clear z3
    obtain ⟨k, hk, rfl, ho, hb⟩ := hrel
    have HO := Lib.hid ho
    have HB := Lib.hid hb
    clear ho hb
    by_cases hlt : k < v.p.length
    case neg =>
      obtain rfl : k = v.p.length := by omega
      go_wp2
      go_ret
      exact ⟨_, rfl, own_base HO.out B0.out.size, B0.out.trans (HB.out.mono B0.out.size)⟩
    obtain ⟨n, hn⟩ : ∃ n, v.p[k]? = some n := ⟨v.p[k], List.getElem?_eq_getElem hlt⟩
    have HV : Hid (VwAt wr v) := Lib.hid ((H.out.below B0.out).below HB.out)
    have HQ : Hid (Blk wr w.heap.size (cellsVw v) 92) := Lib.hid (Q0.out.below HB.out Q0.out.lt)
    obtain ⟨b, ob, hA, _, c0⟩ := atI HV.out.p.cells hn
    have KX := Lib.hid (K.out k n wr hn HV.out)
    have HE : Hid (wrongK v.p F (k + 1) = wrongK v.p F k ++ (if F k n = 0 then [] else [(F k n, (k : Int), n)])) := Lib.hid (by rw [wrongK, hn])
    have hfl : (wrongK v.p F k).length ≤ k := wrongK_len v.p F k
    have k0 : (0 : Int) ≤ (k : Int) := by omega
    have k1 : (k : Int) < (v.p.length : Int) := by omega
    generalize wrongK v.p F k = M at HO HE hfl
    generalize F k n = y at KX HE ⊢
    clear hn
    have m0 : wr.cell? ⟨w.heap.size, 0, none⟩ = some (.slice v.A v.ns.length v.ca) := Blk.cell HQ.out 0
    have m1 : wr.cell? ⟨w.heap.size, 1, none⟩ = some (.slice v.B v.ps.length v.cb) := Blk.cell HQ.out 1
    have m2 : wr.cell? ⟨w.heap.size, 2, none⟩ = some (.slice v.C v.os.length v.cc) := Blk.cell HQ.out 2
    have m3 : wr.cell? ⟨w.heap.size, 3, none⟩ = some (.slice v.P v.p.length v.cp) := Blk.cell HQ.out 3
    have m4 : wr.cell? ⟨w.heap.size, 4, none⟩ = some (.int .i64 v.g.l0) := Blk.cell HQ.out 4
    have m5 : wr.cell? ⟨w.heap.size, 5, none⟩ = some (.int .i64 v.g.l1) := Blk.cell HQ.out 5
    have m6 : wr.cell? ⟨w.heap.size, 6, none⟩ = some (.int .i64 v.g.h0) := Blk.cell HQ.out 6
    have m7 : wr.cell? ⟨w.heap.size, 7, none⟩ = some (.int .i64 v.g.h1) := Blk.cell HQ.out 7
    have m8 : wr.cell? ⟨w.heap.size, 8, none⟩ = some (.int .i64 v.g.on) := Blk.cell HQ.out 8
    have m9 : wr.cell? ⟨w.heap.size, 9, none⟩ = some (.slice v.G v.g.drain.length v.cg) := Blk.cell HQ.out 9
    have m10 : wr.cell? ⟨w.heap.size, 10, none⟩ = some (.int .i64 v.g.mx) := Blk.cell HQ.out 10
    have m11 : wr.cell? ⟨w.heap.size, 11, none⟩ = some (.int .i64 v.g.tr) := Blk.cell HQ.out 11
    have m12 : wr.cell? ⟨w.heap.size, 12, none⟩ = some (.bool v.g.rb) := Blk.cell HQ.out 12
    have m13 : wr.cell? ⟨w.heap.size, 13, none⟩ = some (.slice v.K v.l.length v.ck) := Blk.cell HQ.out 13
    have m14 : wr.cell? ⟨w.heap.size, 14, none⟩ = some (.slice v.X v.hs.length v.cx) := Blk.cell HQ.out 14
    have m15 : wr.cell? ⟨w.heap.size, 15, none⟩ = some (.slice v.Y v.ws.length v.cy) := Blk.cell HQ.out 15
    have m16 : wr.cell? ⟨w.heap.size, 16, none⟩ = some (.slice v.F v.full.length v.cf) := Blk.cell HQ.out 16
    rw [hA]
    clear hA
    go_upto_region 4 with fail
    go_wp2_with fail
    refine (KX.out).mono ?_
    rintro e W8 ⟨rfl, hb⟩
    have HO8 := Lib.hid (La.own_below HO.out hb)
    have HB8 := Lib.hid (HB.out.trans (hb.mono HB.out.size))
    clear hb KX c0 m0 m1 m2 m3 m4 m5 m6 m7 m8 m9 m10 m11 m12 m13 m14 m15 m16 HQ HV
    by_cases hy : y = 0
    · have HE2 : Hid (wrongK v.p F (k + 1) = M) := Lib.hid (by rw [HE.out, if_pos hy, List.append_nil])
      have hyb : (y != 0) = false := by simpa using hy
      clear HE
      subst hy
      go_wp2_with fail
      go_roundw
      case rel => exact ⟨k + 1, by omega, by go_num, by rw [HE2.out]; exact HO8.out, HB8.out⟩
      case measure => simp [intOf]; omega
    have HE2 : Hid (wrongK v.p F (k + 1) = M ++ [(y, (k : Int), n)]) := Lib.hid (by rw [HE.out, if_neg hy])
    have hyb : (y != 0) = true := by simpa using hy
    clear HE hy
    go_wp2_with (at_builtin; refine wpList_append_own _ rfl _ _ 37 rfl W.heap.size 98 i0 (.agg #[.int .i64 0, .int .i64 0, .int .i64 0]) 3 24 Tryz.underlying37 hi0 hz0 hz1 hz2 rfl (by decide) _ _ _ rfl (show World.ownsRow _ _ _ _ _ _ _ from HO8.out.alloc _) ⟨W8.heap.size, 0, none⟩ 1 1 [.int .i64 y, .int .i64 (k : Int), .int .i64 n] rfl rfl ?c1z ?c2z ?c3z ?c4z ?c5z ?_)
    case c1z =>
      intro j u hj
      match j, hj with
      | 0, hj => simp at hj; subst hj; simp [Addr.add]
      | 1, hj => simp at hj; subst hj; simp [Addr.add]
      | 2, hj => simp at hj; subst hj; simp [Addr.add]
    case c2z => first | rfl | (intro u hu; simp at hu; rcases hu with rfl | rfl | rfl <;> rfl)
    case c3z => unfold maxLen; omega
    case c4z => omega
    case c5z => have := HB8.out.size; simp; omega
    intro v4 w4 hown4 hgrow4 _
    have P4 := Lib.hid hown4
    have D4 := Lib.hid ((HB8.out.alloc HB8.out.size (.cells #[.int .i64 y, .int .i64 (k : Int), .int .i64 n] 98)).grown hgrow4 (by have := HB8.out.size; simp; omega) (fun j hj => own_gem HO8.out hj))
    clear hown4 hgrow4
    go_wp2_with fail
    go_roundw
    case rel =>
      refine ⟨k + 1, by omega, by go_num, ?_, D4.out⟩
      rw [HE2.out, List.length_append, cellsW3_append]
      exact P4.out
    case measure => simp [intOf]; omega
theorem byD_any (N : Nat) (w : World) :
    Calls Tryz.prog 48 #[.slice (some ⟨N, 0, none⟩) 3 3] w fun e w' => e = .returned (.func (.func 90) #[] #[.pointer (some ⟨w.heap.size, 0, none⟩)]) ∧ w' = w.alloc (.cells #[.slice (some ⟨N, 0, none⟩) 3 3] 148) := by
  go_enter Tryz.func48, Tryz.ntmps48
  go_wp2
  go_ret
  exact ⟨rfl, rfl⟩
end Go.Proofs.YticgcimcebdjlaaGreat

namespace Go.Proofs.YticgcimcebdjlaaGreat
open Go.RowKit

theorem getO_cons (y : L2) (t : List L2) (k : List UInt8) : getO (y :: t) k = if y.1 = k then some y.2 else getO t k := by
  unfold getO
  by_cases h : y.1 = k
  · rw [List.find?_cons_of_pos (by simpa using h), if_pos h]
    rfl
  · rw [List.find?_cons_of_neg (by simpa using h), if_neg h]
theorem getO_key (l : List L2) (k : List UInt8) : (getO l k).isSome = l.any (fun x => decide (x.1 = k)) := by
  induction l with
  | nil => rfl
  | cons y t ih =>
    rw [getO_cons, List.any_cons]
    by_cases h : y.1 = k
    · rw [if_pos h, decide_eq_true h]
      rfl
    · rw [if_neg h, decide_eq_false h, ih, Bool.false_or]
theorem getO_both (l : List L2) (hp : l.Pairwise (fun x y => x.1 ≠ y.1)) (k v : List UInt8) : decide (getO l k = some v) = l.any (fun x => decide (x.1 = k) && decide (x.2 = v)) := by
  induction l with
  | nil => rfl
  | cons y t ih =>
    obtain ⟨h1, h2⟩ := List.pairwise_cons.1 hp
    rw [getO_cons, List.any_cons]
    by_cases h : y.1 = k
    · have hr : t.any (fun x => decide (x.1 = k) && decide (x.2 = v)) = false := by
        rw [List.any_eq_false]
        intro z hz
        have : z.1 ≠ k := fun e => h1 z hz (h.trans e.symm)
        simp [this]
      rw [if_pos h, decide_eq_true h, hr]
      simp
    · rw [if_neg h, decide_eq_false h, Bool.false_and, Bool.false_or, ih h2]
theorem holdO_eq (l : List L2) (hp : l.Pairwise (fun x y => x.1 ≠ y.1)) (t : T3) : holdO t l = La.holdL t l := by
  unfold holdO La.holdL
  rw [getO_both l hp, getO_key]
  rfl
theorem holdsO_eq (l : List L2) (hp : l.Pairwise (fun x y => x.1 ≠ y.1)) (ts : List T3) : holdsO ts l = La.holdsL ts l := by
  unfold holdsO La.holdsL
  congr 1
  funext t
  exact holdO_eq l hp t
end Go.Proofs.YticgcimcebdjlaaGreat

namespace Go.Proofs.YticgcimcebdjlaaGreat
open Go.RowKit

theorem chk_few {α : Type} {mb : α → Bool} {ri : α → α → Bool} {l : List α} (h : La.chkA mb ri l = 0) : l.length ≤ 6 := by
  unfold La.chkA at h
  split at h
  · cases h
  · rename_i hc
    omega
theorem chk_step {α : Type} {mb : α → Bool} {ri : α → α → Bool} {l : List α} (h : La.chkA mb ri l = 0) {k : Nat} {x y : α} (hk : l[k]? = some x) (hy : l[k + 1]? = some y) : ri x y = true := by
  unfold La.chkA at h
  split at h
  · cases h
  · rename_i hc
    have hlt := (List.getElem?_eq_some_iff.1 hy).1
    have h2 : La.chkK mb ri l (k + 1 + 1) = true := by
      cases hq : La.chkK mb ri l (k + 1 + 1) with
      | true => rfl
      | false => exact absurd (.inr (La.chkK_false hq (by omega))) hc
    rw [La.chkK, hy] at h2
    simp only [Bool.and_eq_true] at h2
    have h3 := h2.2
    unfold La.okAt at h3
    have h4 : mb y = true ∧ ri x y = true := by simpa [hk] using h3
    exact h4.2
theorem keys_ahead {mb : L2 → Bool} {l : List L2} (h : La.chkA mb La.keyR l = 0) : ∀ (d k : Nat) (x y : L2), l[k]? = some x → l[k + 1 + d]? = some y → Ahead x.1 y.1
  | 0, k, x, y, hx, hy => less_ahead (chk_step h hx hy)
  | d + 1, k, x, y, hx, hy => by
    have hlt := (List.getElem?_eq_some_iff.1 hy).1
    obtain ⟨z, hz⟩ : ∃ z, l[k + 1 + d]? = some z := ⟨l[k + 1 + d]'(by omega), List.getElem?_eq_getElem _⟩
    exact (keys_ahead h d k x z hx hz).trans (less_ahead (chk_step h hz hy))
theorem keys_differ {mb : L2 → Bool} {l : List L2} (h : La.chkA mb La.keyR l = 0) : l.Pairwise (fun x y => x.1 ≠ y.1) := by
  rw [List.pairwise_iff_getElem]
  intro i j hi hj hij
  refine (keys_ahead h (j - i - 1) i l[i] l[j] (List.getElem?_eq_getElem hi) ?_).2
  rw [show i + 1 + (j - i - 1) = j by omega]
  exact List.getElem?_eq_getElem hj
theorem node_keys {ns : List NodeD} {ps : List PodD} {os : List OwnD} (h : checkS ns ps os = 0) {x : NodeD} (hx : x ∈ ns) : x.labels.Pairwise (fun a b => a.1 ≠ b.1) ∧ x.labels.length ≤ 6 ∧ x.taints.length ≤ 6 := by
  unfold checkS at h
  split at h
  · rename_i hc
    unfold clusB at hc
    simp only [Bool.and_eq_true, List.all_eq_true] at hc
    have h1 := hc.1.1.2 x hx
    unfold nodeB at h1
    simp only [Bool.and_eq_true, beq_iff_eq] at h1
    exact ⟨keys_differ h1.1.2, chk_few h1.1.2, chk_few h1.2⟩
  · cases h
theorem pod_keys {ns : List NodeD} {ps : List PodD} {os : List OwnD} (h : checkS ns ps os = 0) {x : PodD} (hx : x ∈ ps) : x.labels.Pairwise (fun a b => a.1 ≠ b.1) ∧ x.labels.length ≤ 6 ∧ x.whr.length ≤ 6 ∧ x.bears.length ≤ 6 := by
  unfold checkS at h
  split at h
  · rename_i hc
    unfold clusB at hc
    simp only [Bool.and_eq_true, List.all_eq_true] at hc
    have h1 := (hc.1.2 x hx).1
    unfold podB at h1
    simp only [Bool.and_eq_true, beq_iff_eq] at h1
    exact ⟨keys_differ h1.1.1.1.1.2, chk_few h1.1.1.1.1.2, chk_few h1.1.1.1.2, chk_few h1.1.1.2⟩
  · cases h
end Go.Proofs.YticgcimcebdjlaaGreat

namespace Go.Proofs.YticgcimcebdjlaaGreat
open Go.RowKit

abbrev viewV (A B C P : Option Addr) (ca cb cc cp : Nat) (ns : List NodeD) (ps : List PodD) (os : List OwnD) (p : List Int) : Value := .agg #[.slice A ns.length ca, .slice B ps.length cb, .slice C os.length cc, .slice P p.length cp]
abbrev viewC (A B C P : Option Addr) (ca cb cc cp : Nat) (ns : List NodeD) (ps : List PodD) (os : List OwnD) (p : List Int) : Array Value := #[.slice A ns.length ca, .slice B ps.length cb, .slice C os.length cc, .slice P p.length cp]

set_option maxRecDepth 100000 in
set_option maxHeartbeats 4000000 in
theorem belowMin_any (A B C P : Option Addr) (ca cb cc cp : Nat) (ns : List NodeD) (ps : List PodD) (os : List OwnD) (p : List Int) (ko : Nat) (xo : OwnD) (hxo : os[ko]? = some xo) (w : World) (h : SnapAt w A B C ca cb cc ns ps os) (hp : IntsAt w P cp p) :
    Calls Tryz.prog 158 #[viewV A B C P ca cb cc cp ns ps os p, .int .i64 (ko : Int)] w fun e w' => e = .returned (.tuple #[.int .i64 (max 0 (wrap64 (xo.min - placedF ns ps os p (ko : Int)))), .bool true]) ∧ Below w.heap.size w w' := by
  have q0 : (0 : Int) ≤ (ko : Int) := by omega
  have q1 : (ko : Int) < (os.length : Int) := by have := (List.getElem?_eq_some_iff.1 hxo).1; omega
  have B0 : Hid (Below w.heap.size w (w.alloc (.cells (viewC A B C P ca cb cc cp ns ps os p) 162))) := Lib.hid (below1 w _)
  have S0 : Hid (Blk (w.alloc (.cells (viewC A B C P ca cb cc cp ns ps os p) 162)) w.heap.size (viewC A B C P ca cb cc cp ns ps os p) 162) := Lib.hid (Blk.new w _ _)
  obtain ⟨bo, oo, hAo, hbo, d0, d1, d2, d3, d4⟩ := atO (h.below B0.out).o hxo
  subst hAo
  have HO : Hid (∀ W', Below w.heap.size w W' → W'.cell? ⟨bo, oo + ko * 5 + 1, none⟩ = some (.int .i64 xo.min)) := Lib.hid (fun W' hb => by
    obtain ⟨b', o', hA', _, _, e1, _⟩ := atO (h.below hb).o hxo
    cases hA'
    exact e1)
  have KP := Lib.hid (fun W' (hb : Below w.heap.size w W') => placed_any A B (some ⟨bo, oo, none⟩) P ca cb cc cp ns ps os p (ko : Int) W' (h.below hb) (hp.below hb))
  generalize placedF ns ps os p (ko : Int) = m at KP ⊢
  clear h hp hxo d0 d1 d2 d3 d4
  go_enter Tryz.func158, Tryz.ntmps158
  go_upto_region 1 with fail
  change Code.wp _ _ _ _ (w.alloc (.cells (viewC A B (some ⟨bo, oo, none⟩) P ca cb cc cp ns ps os p) 162))
  generalize (w.alloc (.cells (viewC A B (some ⟨bo, oo, none⟩) P ca cb cc cp ns ps os p) 162)) = W at B0 S0 ⊢
  have HZ := Lib.hid (fun W' (hb : Below W.heap.size W W') => (show W'.cell? ⟨w.heap.size, 0, none⟩ = some (.slice A ns.length ca) ∧ W'.cell? ⟨w.heap.size, 1, none⟩ = some (.slice B ps.length cb) ∧ W'.cell? ⟨w.heap.size, 2, none⟩ = some (.slice (some ⟨bo, oo, none⟩) os.length cc) ∧ W'.cell? ⟨w.heap.size, 3, none⟩ = some (.slice P p.length cp) from ⟨Blk.cell (S0.out.below hb S0.out.lt) 0, Blk.cell (S0.out.below hb S0.out.lt) 1, Blk.cell (S0.out.below hb S0.out.lt) 2, Blk.cell (S0.out.below hb S0.out.lt) 3⟩))
  have HT := Lib.hid (fun W' (hb : Below W.heap.size W W') => B0.out.trans (hb.mono B0.out.size))
  have HB : Hid (Below W.heap.size W W.drew) := Lib.hid (Below.refl _ _).drew
  obtain ⟨z0, z1, z2, z3⟩ := HZ.out _ HB.out
  have z4 := HO.out _ (HT.out _ HB.out)
  clear B0 S0
  go_region_held3 (fun w' => w'.cell? ⟨w.heap.size, 0, none⟩ = some (.slice A ns.length ca) ∧ w'.cell? ⟨w.heap.size, 1, none⟩ = some (.slice B ps.length cb) ∧ w'.cell? ⟨w.heap.size, 2, none⟩ = some (.slice (some ⟨bo, oo, none⟩) os.length cc) ∧ w'.cell? ⟨w.heap.size, 3, none⟩ = some (.slice P p.length cp) ∧ w'.cell? ⟨bo, oo + ko * 5 + 1, none⟩ = some (.int .i64 xo.min)) (first | exact ⟨z0, z1, z2, z3, z4⟩ | exact ⟨by assumption, by assumption, by assumption, by assumption, by assumption⟩)
    (first
      | (go_at_call 212
         with_reducible refine (KP.out _ (HT.out _ HB.out)).mono ?_
         rintro e wA ⟨rfl, hbA⟩
         have HB := Lib.hid (HB.out.trans (hbA.mono HB.out.size))
         obtain ⟨z0, z1, z2, z3⟩ := HZ.out _ HB.out
         have z4 := HO.out _ (HT.out _ HB.out)
         clear hbA))
  all_goals
    have D := Lib.hid (HT.out _ HB.out)
    go_wp2
    go_ret2
    have e : wrap64 (xo.min - m) = IntKind.i64.wrap (xo.min - m) := (IntWalk.i64_left _).symm
    exact ⟨by rw [e]; rfl, D.out⟩
end Go.Proofs.YticgcimcebdjlaaGreat

namespace Go.Proofs.YticgcimcebdjlaaGreat
open Go.RowKit

/-- The clause of a node and a quantity. -/
def capC (ps : List PodD) (p : List Int) (n : Nat) (x : NodeD) (k : Nat) : ClT := (1, (n : Int), (k : Int), max 0 (wrap64 (addW ps (onU p (n : Int) p.length) k - x.cap k)))
def capN (ps : List PodD) (p : List Int) (n : Nat) (x : NodeD) (k : Nat) : List ClT := (List.range k).map (capC ps p n x)
def capsU (ns : List NodeD) (ps : List PodD) (p : List Int) : Nat → List ClT
  | 0 => []
  | n + 1 => capsU ns ps p n ++ (match ns[n]? with
    | some x => capN ps p n x 5
    | none => [])
theorem capN_len (ps : List PodD) (p : List Int) (n : Nat) (x : NodeD) (k : Nat) : (capN ps p n x k).length = k := by simp [capN]
theorem capsU_len (ns : List NodeD) (ps : List PodD) (p : List Int) : ∀ n, (capsU ns ps p n).length ≤ 5 * n
  | 0 => Nat.le_refl _
  | n + 1 => by
    have := capsU_len ns ps p n
    rw [capsU, List.length_append]
    split
    · rw [capN_len]; omega
    · simp; omega
theorem cl_info : (Tryz.prog.info? 50).map (fun i => (i.zero, i.size, i.bytes)) = some (some (.agg #[.int .i64 0, .int .i64 0, .int .i64 0, .int .i64 0]), 4, 32) := by kernel_rfl
end Go.Proofs.YticgcimcebdjlaaGreat

namespace Go.Proofs.YticgcimcebdjlaaGreat
open Go.RowKit

def isC (kd a b : Int) (c : ClT) : Bool := decide (c.1 = kd ∧ c.2.1 = a ∧ c.2.2.1 = b)
/-- By how much that clause of a list is broken. -/
def findC (l : List ClT) (kd a b : Int) : Option Int := (l.find? (isC kd a b)).map (·.2.2.2)
theorem findC_at {l : List ClT} {kd a b : Int} {k : Nat} {y : ClT} (hk : l[k]? = some y) (hy : isC kd a b y = true) (hn : ∀ (j : Nat) (z : ClT), j < k → l[j]? = some z → isC kd a b z = false) : findC l kd a b = some y.2.2.2 := by
  unfold findC
  induction l generalizing k with
  | nil => simp at hk
  | cons c t ih =>
    cases k with
    | zero =>
      simp only [List.getElem?_cons_zero, Option.some.injEq] at hk
      subst hk
      rw [List.find?_cons_of_pos hy]
      rfl
    | succ k =>
      rw [List.find?_cons_of_neg (by rw [hn 0 c (by omega) rfl]; simp)]
      exact ih (k := k) (by simpa using hk) (fun j z hj hz => hn (j + 1) z (by omega) (by simpa using hz))
end Go.Proofs.YticgcimcebdjlaaGreat

namespace Go.Proofs.YticgcimcebdjlaaGreat
open Go.RowKit

def brokC (c : ClT) : Bool := decide (0 < c.2.2.2)
theorem filt_snoc {l : List ClT} {k : Nat} {y : ClT} (f : ClT → Bool) (hy : l[k]? = some y) : (l.take (k + 1)).filter f = (l.take k).filter f ++ (if f y then [y] else []) := by
  rw [List.take_add_one, hy, List.filter_append]
  cases h : f y <;> simp [h]

end Go.Proofs.YticgcimcebdjlaaGreat

namespace Go.Proofs.YticgcimcebdjlaaGreat
open Go.RowKit

/-- Whether two nodes have the same value for a key. -/
def nearO (a b : NodeD) (key : List UInt8) : Bool := match valK a key, valK b key with
  | some u, some v => decide (u = v)
  | _, _ => false

/-- Whether a pod counts near another one's node. -/
def aboutB (ns : List NodeD) (ps : List PodD) (p : List Int) (pod : Nat) (topo : List UInt8) (terms : List T3) (others : Bool) (i : Nat) : Bool := match p[i]?, p[pod]?, ps[i]? with
  | some x, some xp, some y => decide (0 ≤ x) && !(others && decide (i = pod)) && (match ns[x.toNat]?, ns[xp.toNat]? with | some a, some b => nearO a b topo | _, _ => false) && holdsO terms y.labels
  | _, _, _ => false
def aboutU (ns : List NodeD) (ps : List PodD) (p : List Int) (pod : Nat) (topo : List UInt8) (terms : List T3) (others : Bool) : Nat → Nat
  | 0 => 0
  | k + 1 => aboutU ns ps p pod topo terms others k + (if aboutB ns ps p pod topo terms others k then 1 else 0)
theorem aboutU_le (ns : List NodeD) (ps : List PodD) (p : List Int) (pod : Nat) (topo : List UInt8) (terms : List T3) (others : Bool) : ∀ k, aboutU ns ps p pod topo terms others k ≤ k
  | 0 => Nat.le_refl _
  | k + 1 => by
    have := aboutU_le ns ps p pod topo terms others k
    rw [aboutU]
    split <;> omega
end Go.Proofs.YticgcimcebdjlaaGreat

namespace Go.Proofs.YticgcimcebdjlaaGreat
open Go.RowKit

/-- By how much a clause about a pod is broken; none: there is none. -/
def ofU (ns : List NodeD) (ps : List PodD) (os : List OwnD) (p : List Int) (kind i : Nat) : Option Nat := match p[i]?, ps[i]? with
  | some q, some x => if q < 0 then none else match ns[q.toNat]? with
    | some n => if kind = 2 then some (termsO x.whr n.labels) else if kind = 3 then some (taintsO n.taints x.bears)
      else if kind = 4 then (if x.wt = [] then none else some (1 - aboutU ns ps p i x.wt x.wtm false p.length))
      else if kind = 5 then (if x.ap = [] then none else some (aboutU ns ps p i x.ap x.apm true p.length))
      else if x.owner = [] then none else if singleO os x.owner then some (doubU ps p i p.length) else none
    | none => none
  | _, _ => none
theorem ofU_at {ns : List NodeD} {ps : List PodD} {os : List OwnD} {p : List Int} {kind i q : Nat} {x : PodD} {n : NodeD} (hi : p[i]? = some (q : Int)) (hx : ps[i]? = some x) (hn : ns[q]? = some n) : ofU ns ps os p kind i = if kind = 2 then some (termsO x.whr n.labels) else if kind = 3 then some (taintsO n.taints x.bears)
      else if kind = 4 then (if x.wt = [] then none else some (1 - aboutU ns ps p i x.wt x.wtm false p.length))
      else if kind = 5 then (if x.ap = [] then none else some (aboutU ns ps p i x.ap x.apm true p.length))
      else if x.owner = [] then none else if singleO os x.owner then some (doubU ps p i p.length) else none := by
  unfold ofU
  rw [hi, hx]
  dsimp only
  rw [if_neg (by omega), Int.toNat_natCast, hn]
theorem ofU_wait {ns : List NodeD} {ps : List PodD} {os : List OwnD} {p : List Int} {kind i : Nat} (hi : p[i]? = some (-1)) : ofU ns ps os p kind i = none := by
  unfold ofU
  rw [hi]
  cases ps[i]? with
  | none => rfl
  | some x =>
    dsimp only
    rw [if_pos (by omega)]

/-- The clause of a pod, in a list. -/
def podR (ns : List NodeD) (ps : List PodD) (os : List OwnD) (p : List Int) (kind i : Nat) : List ClT := match ofU ns ps os p kind i with
  | some b => [((kind : Int), (i : Int), 0, (b : Int))]
  | none => []
def podsU (ns : List NodeD) (ps : List PodD) (os : List OwnD) (p : List Int) (kind : Nat) : Nat → List ClT
  | 0 => []
  | i + 1 => podsU ns ps os p kind i ++ podR ns ps os p kind i
/-- The kinds of 2 on, so many. -/
def kindsU (ns : List NodeD) (ps : List PodD) (os : List OwnD) (p : List Int) : Nat → List ClT
  | 0 => []
  | k + 1 => kindsU ns ps os p k ++ podsU ns ps os p (k + 2) p.length
def spreadR (ns : List NodeD) (ps : List PodD) (os : List OwnD) (p : List Int) (i : Nat) : List ClT := match os[i]? with
  | some o => if o.topo = [] then [] else [(7, (i : Int), 0, skewO (spreadF ns ps os p (i : Int)) o.skew)]
  | none => []
def spreadsU (ns : List NodeD) (ps : List PodD) (os : List OwnD) (p : List Int) : Nat → List ClT
  | 0 => []
  | i + 1 => spreadsU ns ps os p i ++ spreadR ns ps os p i
def minR (ns : List NodeD) (ps : List PodD) (os : List OwnD) (p : List Int) (i : Nat) : List ClT := match os[i]? with
  | some o => [(8, (i : Int), 0, max 0 (wrap64 (o.min - placedF ns ps os p (i : Int))))]
  | none => []
def minsU (ns : List NodeD) (ps : List PodD) (os : List OwnD) (p : List Int) : Nat → List ClT
  | 0 => []
  | i + 1 => minsU ns ps os p i ++ minR ns ps os p i
/-- All clauses of a placement that may be. -/
def allU (ns : List NodeD) (ps : List PodD) (os : List OwnD) (p : List Int) : List ClT := capsU ns ps p ns.length ++ kindsU ns ps os p 5 ++ spreadsU ns ps os p os.length ++ minsU ns ps os p os.length
/-- What All tells: nothing, where the placement may not be. -/
def all8 (ns : List NodeD) (ps : List PodD) (os : List OwnD) (p : List Int) : List ClT := if placeE ns ps os p = 0 then allU ns ps os p else []

theorem podR_len (ns : List NodeD) (ps : List PodD) (os : List OwnD) (p : List Int) (kind i : Nat) : (podR ns ps os p kind i).length ≤ 1 := by
  unfold podR
  split <;> simp
theorem podsU_len (ns : List NodeD) (ps : List PodD) (os : List OwnD) (p : List Int) (kind : Nat) : ∀ i, (podsU ns ps os p kind i).length ≤ i
  | 0 => Nat.le_refl _
  | i + 1 => by
    have := podsU_len ns ps os p kind i
    have := podR_len ns ps os p kind i
    rw [podsU, List.length_append]
    omega
theorem kindsU_len (ns : List NodeD) (ps : List PodD) (os : List OwnD) (p : List Int) : ∀ k, (kindsU ns ps os p k).length ≤ k * p.length
  | 0 => by simp [kindsU]
  | k + 1 => by
    have := kindsU_len ns ps os p k
    have := podsU_len ns ps os p (k + 2) p.length
    rw [kindsU, List.length_append, Nat.succ_mul]
    omega
theorem spreadR_len (ns : List NodeD) (ps : List PodD) (os : List OwnD) (p : List Int) (i : Nat) : (spreadR ns ps os p i).length ≤ 1 := by
  unfold spreadR
  split
  · split <;> simp
  · simp
theorem spreadsU_len (ns : List NodeD) (ps : List PodD) (os : List OwnD) (p : List Int) : ∀ i, (spreadsU ns ps os p i).length ≤ i
  | 0 => Nat.le_refl _
  | i + 1 => by
    have := spreadsU_len ns ps os p i
    have := spreadR_len ns ps os p i
    rw [spreadsU, List.length_append]
    omega
theorem minsU_len (ns : List NodeD) (ps : List PodD) (os : List OwnD) (p : List Int) : ∀ i, (minsU ns ps os p i).length ≤ i
  | 0 => Nat.le_refl _
  | i + 1 => by
    have := minsU_len ns ps os p i
    rw [minsU, List.length_append]
    unfold minR
    split <;> simp <;> omega
theorem allU_len (ns : List NodeD) (ps : List PodD) (os : List OwnD) (p : List Int) : (allU ns ps os p).length ≤ 5 * ns.length + 5 * p.length + 2 * os.length := by
  have := capsU_len ns ps p ns.length
  have := kindsU_len ns ps os p 5
  have := spreadsU_len ns ps os p os.length
  have := minsU_len ns ps os p os.length
  unfold allU
  simp only [List.length_append]
  omega
theorem all8_len (ns : List NodeD) (ps : List PodD) (os : List OwnD) (p : List Int) : (all8 ns ps os p).length ≤ 5 * ns.length + 5 * p.length + 2 * os.length := by
  unfold all8
  split
  · exact allU_len ns ps os p
  · simp

/-- What a clause is about, by the program's words. -/
inductive Sub
  | node (n q : Nat)
  | pod (i : Nat)
  | owner (o : Nat)
def Sub.a : Sub → Nat
  | .node n _ => n
  | .pod i => i
  | .owner o => o
def Sub.b : Sub → Nat
  | .node _ q => q
  | _ => 0
def nodesS : Nat → List Sub
  | 0 => []
  | n + 1 => nodesS n ++ (List.range 5).map (Sub.node n)
def podS (p : List Int) (i : Nat) : List Sub := if p[i]? = some (-1) then [] else [.pod i]
def podsS (p : List Int) : Nat → List Sub
  | 0 => []
  | i + 1 => podsS p i ++ podS p i
def ownersS : Nat → List Sub
  | 0 => []
  | o + 1 => ownersS o ++ [.owner o]
def subsU (ns : List NodeD) (os : List OwnD) (p : List Int) : List Sub := nodesS ns.length ++ podsS p p.length ++ ownersS os.length
/-- By how much the clause of a kind about a subject is broken; none: there is none. -/
def byU (ns : List NodeD) (ps : List PodD) (os : List OwnD) (p : List Int) (kind : Nat) : Sub → Option Int
  | .node n q => if kind = 1 then (match ns[n]? with | some x => some (max 0 (wrap64 (addW ps (onU p (n : Int) p.length) q - x.cap q))) | none => none) else none
  | .pod i => if 2 ≤ kind ∧ kind ≤ 6 then (ofU ns ps os p kind i).map (fun b => (b : Int)) else none
  | .owner o => if kind = 7 then (match os[o]? with | some x => if x.topo = [] then none else some (skewO (spreadF ns ps os p (o : Int)) x.skew) | none => none) else if kind = 8 then (match os[o]? with | some x => some (max 0 (wrap64 (x.min - placedF ns ps os p (o : Int)))) | none => none) else none
def clauseK (ns : List NodeD) (ps : List PodD) (os : List OwnD) (p : List Int) (kind : Nat) (s : Sub) : Option ClT := (byU ns ps os p kind s).map fun b => ((kind : Int), (s.a : Int), (s.b : Int), b)
def lookK (ns : List NodeD) (ps : List PodD) (os : List OwnD) (p : List Int) : Nat → List ClT
  | 0 => []
  | k + 1 => lookK ns ps os p k ++ (subsU ns os p).filterMap (clauseK ns ps os p (k + 1))

theorem nodes_no {f : Sub → Option ClT} (h : ∀ n q, f (.node n q) = none) : ∀ k, (nodesS k).filterMap f = []
  | 0 => rfl
  | k + 1 => by
    rw [nodesS, List.filterMap_append, nodes_no h k, List.nil_append, List.filterMap_eq_nil_iff]
    intro s hs
    obtain ⟨q, _, rfl⟩ := List.mem_map.1 hs
    exact h k q
theorem pods_no {f : Sub → Option ClT} (p : List Int) (h : ∀ i, f (.pod i) = none) : ∀ k, (podsS p k).filterMap f = []
  | 0 => rfl
  | k + 1 => by
    rw [podsS, List.filterMap_append, pods_no p h k, List.nil_append, podS]
    split
    · rfl
    · simp [h]
theorem owners_no {f : Sub → Option ClT} (h : ∀ o, f (.owner o) = none) : ∀ k, (ownersS k).filterMap f = []
  | 0 => rfl
  | k + 1 => by
    rw [ownersS, List.filterMap_append, owners_no h k, List.nil_append]
    simp [h]
theorem caps_are (ns : List NodeD) (ps : List PodD) (os : List OwnD) (p : List Int) : ∀ k, k ≤ ns.length → (nodesS k).filterMap (clauseK ns ps os p 1) = capsU ns ps p k
  | 0, _ => rfl
  | k + 1, h => by
    obtain ⟨x, hx⟩ : ∃ x, ns[k]? = some x := ⟨ns[k], List.getElem?_eq_getElem h⟩
    rw [nodesS, List.filterMap_append, caps_are ns ps os p k (by omega), capsU, hx]
    congr 1
    dsimp only
    unfold capN
    rw [List.filterMap_map, ← List.filterMap_eq_map]
    congr 1
    funext q
    simp [clauseK, byU, hx, capC, Sub.a, Sub.b]
theorem pods_are (ns : List NodeD) (ps : List PodD) (os : List OwnD) (p : List Int) (kind : Nat) (h2 : 2 ≤ kind) (h6 : kind ≤ 6) : ∀ k, (podsS p k).filterMap (clauseK ns ps os p kind) = podsU ns ps os p kind k
  | 0 => rfl
  | k + 1 => by
    rw [podsS, List.filterMap_append, pods_are ns ps os p kind h2 h6 k, podsU]
    congr 1
    unfold podS podR
    by_cases hw : p[k]? = some (-1)
    · rw [if_pos hw, ofU_wait hw]
      rfl
    · rw [if_neg hw]
      cases hq : ofU ns ps os p kind k <;> simp [clauseK, byU, h2, h6, hq, Sub.a, Sub.b]
theorem spreads_are (ns : List NodeD) (ps : List PodD) (os : List OwnD) (p : List Int) : ∀ k, (ownersS k).filterMap (clauseK ns ps os p 7) = spreadsU ns ps os p k
  | 0 => rfl
  | k + 1 => by
    rw [ownersS, List.filterMap_append, spreads_are ns ps os p k, spreadsU]
    congr 1
    unfold spreadR
    cases ho : os[k]? with
    | none => simp [clauseK, byU, ho]
    | some o =>
      by_cases ht : o.topo = []
      · simp [clauseK, byU, ho, ht]
      · simp [clauseK, byU, ho, ht, Sub.a, Sub.b]
theorem mins_are (ns : List NodeD) (ps : List PodD) (os : List OwnD) (p : List Int) : ∀ k, (ownersS k).filterMap (clauseK ns ps os p 8) = minsU ns ps os p k
  | 0 => rfl
  | k + 1 => by
    rw [ownersS, List.filterMap_append, mins_are ns ps os p k, minsU]
    congr 1
    unfold minR
    cases ho : os[k]? with
    | none => simp [clauseK, byU, ho]
    | some o => simp [clauseK, byU, ho, Sub.a, Sub.b]
/-- Subject by subject it is the same list. -/
theorem look_is (ns : List NodeD) (ps : List PodD) (os : List OwnD) (p : List Int) : lookK ns ps os p 8 = allU ns ps os p := by
  have h1 : (subsU ns os p).filterMap (clauseK ns ps os p 1) = capsU ns ps p ns.length := by
    unfold subsU
    rw [List.filterMap_append, List.filterMap_append, caps_are ns ps os p _ (Nat.le_refl _), pods_no p (fun i => by simp [clauseK, byU]), owners_no (fun i => by simp [clauseK, byU]), List.append_nil, List.append_nil]
  have h2 : ∀ kind, 2 ≤ kind → kind ≤ 6 → (subsU ns os p).filterMap (clauseK ns ps os p kind) = podsU ns ps os p kind p.length := fun kind a b => by
    have a1 : kind ≠ 1 := by omega
    have a7 : kind ≠ 7 := by omega
    have a8 : kind ≠ 8 := by omega
    unfold subsU
    rw [List.filterMap_append, List.filterMap_append, nodes_no (fun n q => by simp [clauseK, byU, a1]), pods_are ns ps os p kind a b, owners_no (fun i => by simp [clauseK, byU, a7, a8]), List.append_nil, List.nil_append]
  have h7 : (subsU ns os p).filterMap (clauseK ns ps os p 7) = spreadsU ns ps os p os.length := by
    unfold subsU
    rw [List.filterMap_append, List.filterMap_append, nodes_no (fun n q => by simp [clauseK, byU]), pods_no p (fun i => by simp [clauseK, byU]), spreads_are, List.append_nil, List.nil_append]
  have h8 : (subsU ns os p).filterMap (clauseK ns ps os p 8) = minsU ns ps os p os.length := by
    unfold subsU
    rw [List.filterMap_append, List.filterMap_append, nodes_no (fun n q => by simp [clauseK, byU]), pods_no p (fun i => by simp [clauseK, byU]), mins_are, List.append_nil, List.nil_append]
  simp only [lookK, List.nil_append]
  rw [h1, h2 2 (by omega) (by omega), h2 3 (by omega) (by omega), h2 4 (by omega) (by omega), h2 5 (by omega) (by omega), h2 6 (by omega) (by omega), h7, h8]
  unfold allU
  simp only [kindsU, List.nil_append, List.append_assoc]
end Go.Proofs.YticgcimcebdjlaaGreat
