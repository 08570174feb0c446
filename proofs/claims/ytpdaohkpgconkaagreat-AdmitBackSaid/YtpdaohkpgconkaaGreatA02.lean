/- A clause about a pod, by the document's words: of. A contract. Conditions: the cluster and the numbers lie in memory, the placement may be, the pod is there, the kind is one of those about pods. All clauses of a placement, by the document's words: All. A contract. Condition: the cluster and the numbers lie in memory. By how much a clause is broken in a list: find. A contract. Condition: the list lies in memory. Whether a placement is safe, what it makes worse, by how much it is broken, by the document's words: Safe, Worse, Sum. Contracts. Condition: the cluster and the numbers lie in memory. What the document's Moves, SameMoves and Apply answer. Contracts. Condition: the arguments lie in memory. What a step makes, or why it may not be done; whether it may be: the program's Step, May, and the document's. Contracts. Condition: the cluster and the numbers lie in memory. What a step makes, or why it may not be done, by the document's words: Step, May. Contracts. Condition: the cluster and the numbers lie in memory. Steps as arguments, opened. No conditions but the form's own. (KOpenN and LawKSteps have their own copies: never import both.) -/
import Derived.Test.YtpdaohkpgconkaaGreatA01
import Derived.StillTailTactics
import Derived.Handy
import Derived.Deep.RegionHeld3

namespace Go.Proofs.YtpdaohkpgconkaaGreat
open Go.RowKit

abbrev podArr (x : PodD) : Array Value := #[strV x.name, strV x.owner, .int .i64 (x.req 0), .int .i64 (x.req 1), .int .i64 (x.req 2), .int .i64 (x.req 3), .int .i64 (x.req 4), .slice x.al x.labels.length x.cl, .slice x.aw x.whr.length x.cw, .slice x.ab x.bears.length x.cb, strV x.wt, .slice x.awt x.wtm.length x.cwt, strV x.ap, .slice x.aap x.apm.length x.cap, strV x.on]
abbrev nodeArr (x : NodeD) : Array Value := #[strV x.name, .int .i64 (x.cap 0), .int .i64 (x.cap 1), .int .i64 (x.cap 2), .int .i64 (x.cap 3), .int .i64 (x.cap 4), .slice x.al x.labels.length x.cl, .slice x.at_ x.taints.length x.ct, .bool x.cordon, .bool x.lost]
/-- Two new blocks hold a pod and a node. -/
def OfSt (W : World) (x : PodD) (n : NodeD) (a b : Value) (wc : World) : Prop := ∃ u v, a = .pointer (some ⟨u, 0, none⟩) ∧ b = .pointer (some ⟨v, 0, none⟩) ∧ Blk wc u (podArr x) 43 ∧ Blk wc v (nodeArr n) 34 ∧ Below W.heap.size W wc

theorem ofst1 (W : World) (x : PodD) (n : NodeD) : OfSt W x n (.pointer (some ⟨W.heap.size, 0, none⟩)) (.pointer (some ⟨W.heap.size + 1, 0, none⟩)) ((W.alloc (.cells (podArr x) 43)).alloc (.cells (nodeArr n) 34)).drew :=
  ⟨_, _, rfl, rfl, Blk.drew (Blk.alloc (Blk.new W _ _) _), Blk.drew (blk2 W _ _ _), (Qu.below2 W _ _).drew⟩
theorem ofst2 (W : World) (x : PodD) (n : NodeD) : OfSt W x n (.pointer (some ⟨W.heap.size + 1, 0, none⟩)) (.pointer (some ⟨W.heap.size, 0, none⟩)) ((W.alloc (.cells (nodeArr n) 34)).alloc (.cells (podArr x) 43)).drew :=
  ⟨_, _, rfl, rfl, Blk.drew (blk2 W _ _ _), Blk.drew (Blk.alloc (Blk.new W _ _) _), (Qu.below2 W _ _).drew⟩

set_option maxRecDepth 100000 in
set_option maxHeartbeats 8000000 in
theorem ofR_any (A B C P : Option Addr) (ca cb cc cp : Nat) (ns : List NodeD) (ps : List PodD) (os : List OwnD) (p : List Int) (kind i : Nat) (hk2 : 2 ≤ kind) (hk6 : kind ≤ 6) (hE : placeE ns ps os p = 0) (hi : i < p.length) (w : World) (h : SnapAt w A B C ca cb cc ns ps os) (hp : IntsAt w P cp p) :
    Calls Tryz.prog 75 #[snapV A B C ca cb cc ns ps os, .slice P p.length cp, .int .i64 (kind : Int), .int .i64 (i : Int)] w fun e w' => e = .returned (.tuple #[.int .i64 (((ofU ns ps os p kind i).getD 0 : Nat) : Int), .bool (ofU ns ps os p kind i).isSome]) ∧ Below w.heap.size w w' := by
  have HPL := Lib.hid (placeE_len hE)
  obtain ⟨q0, hq0⟩ : ∃ x, p[i]? = some x := ⟨p[i], List.getElem?_eq_getElem hi⟩
  obtain ⟨y, hy⟩ : ∃ y, ps[i]? = some y := ⟨ps[i]'(by have := HPL.out; omega), List.getElem?_eq_getElem _⟩
  have B0 : Hid (Below w.heap.size w (w.alloc (.cells (snapC A B C ca cb cc ns ps os) 26))) := Lib.hid (below1 w _)
  have S0 : Hid (Blk (w.alloc (.cells (snapC A B C ca cb cc ns ps os) 26)) w.heap.size (snapC A B C ca cb cc ns ps os) 26) := Lib.hid (Blk.new w _ _)
  have i0 : (0 : Int) ≤ (i : Int) := by omega
  have i1 : (i : Int) < (p.length : Int) := by omega
  have i2 : (i : Int) < (ps.length : Int) := by have := HPL.out; omega
  obtain ⟨bp, op, hAp, _, _⟩ := atI hp.cells hq0
  subst hAp
  have HPC : Hid (∀ W', Below w.heap.size w W' → W'.cell? ⟨bp, op + i, none⟩ = some (.int .i64 q0)) := Lib.hid (fun W' hb => by
    obtain ⟨b', o', hA', _, hc⟩ := atI (hp.below hb).cells hq0
    cases hA'
    exact hc)
  by_cases hx : q0 = -1
  case pos =>
    subst hx
    have HE : Hid (ofU ns ps os p kind i = none) := Lib.hid (ofU_wait hq0)
    have pk := HPC.out _ B0.out
    have e1 : (-1 : Int) < 0 := by omega
    clear h hp hE hq0 hy hk2 hk6
    go_enter Tryz.func75, Tryz.ntmps75
    go_upto_region 1 with fail
    change Code.wp _ _ _ _ (w.alloc (.cells (snapC A B C ca cb cc ns ps os) 26))
    generalize (w.alloc (.cells (snapC A B C ca cb cc ns ps os) 26)) = W at B0 S0 pk ⊢
    go_wp2
    go_ret2
    rw [HE.out]
    exact ⟨rfl, B0.out⟩
  obtain ⟨q, rfl, hq⟩ := tpB_lt (placeE_on hE hq0 hx)
  obtain ⟨x, hxn⟩ : ∃ x, ns[q]? = some x := ⟨ns[q], List.getElem?_eq_getElem hq⟩
  have e1 : ¬ ((q : Int) < 0) := by omega
  have qn : (q : Int) < (ns.length : Int) := by omega
  have hq00 : (0 : Int) ≤ (q : Int) := by omega
  obtain ⟨b, o, hB, _⟩ := atP h.p.cells hy
  subst hB
  obtain ⟨bn, on, hA, _⟩ := atN h.n.cells hxn
  subst hA
  have E := Lib.hid (ofU_at (os := os) (kind := kind) hq0 hy hxn)
  have H := Lib.hid (fun W' (hb : Below w.heap.size w W') => h.below hb)
  have HP := Lib.hid (fun W' (hb : Below w.heap.size w W') => hp.below hb)
  have HQ0 := Lib.hid hq0
  have HY := Lib.hid hy
  have HXN := Lib.hid hxn
  have HEE := Lib.hid hE
  have HI := Lib.hid hi
  have HK := Lib.hid (⟨hk2, hk6⟩ : 2 ≤ kind ∧ kind ≤ 6)
  have pk := HPC.out _ B0.out
  have PC : Hid (∀ W', Below w.heap.size w W' → _) := Lib.hid (fun W' hb => atP (h.below hb).p.cells hy)
  have NC : Hid (∀ W', Below w.heap.size w W' → _) := Lib.hid (fun W' hb => atN (h.below hb).n.cells hxn)
  generalize ofU ns ps os p kind i = R at E ⊢
  clear h hp hE hq0 hy hxn hk2 hk6 hx
  go_enter Tryz.func75, Tryz.ntmps75
  go_upto_region 1 with fail
  change Code.wp _ _ _ _ (w.alloc (.cells (snapC (some ⟨bn, on, none⟩) (some ⟨b, o, none⟩) C ca cb cc ns ps os) 26))
  generalize (w.alloc (.cells (snapC (some ⟨bn, on, none⟩) (some ⟨b, o, none⟩) C ca cb cc ns ps os) 26)) = W at B0 S0 pk ⊢
  have HZ := Lib.hid (fun W' (hb : Below W.heap.size W W') => (show W'.cell? ⟨w.heap.size, 0, none⟩ = some (.slice (some ⟨bn, on, none⟩) ns.length ca) ∧ W'.cell? ⟨w.heap.size, 1, none⟩ = some (.slice (some ⟨b, o, none⟩) ps.length cb) ∧ W'.cell? ⟨w.heap.size, 2, none⟩ = some (.slice C os.length cc) from ⟨Blk.cell (S0.out.below hb S0.out.lt) 0, Blk.cell (S0.out.below hb S0.out.lt) 1, Blk.cell (S0.out.below hb S0.out.lt) 2⟩))
  have HT := Lib.hid (fun W' (hb : Below W.heap.size W W') => B0.out.trans (hb.mono B0.out.size))
  clear B0 S0
  have SF : Hid (∀ W', Below W.heap.size W W' → W'.cell? ⟨w.heap.size, 0, none⟩ = some (.slice (some ⟨bn, on, none⟩) ns.length ca) ∧ W'.cell? ⟨w.heap.size, 1, none⟩ = some (.slice (some ⟨b, o, none⟩) ps.length cb) ∧ W'.cell? ⟨bp, op + i, none⟩ = some (.int .i64 (q : Int)) ∧ W'.cell? ⟨b, o + i * 15, none⟩ = some (strV y.name) ∧ W'.cell? ⟨b, o + i * 15 + 1, none⟩ = some (strV y.owner) ∧ W'.cell? ⟨b, o + i * 15 + 2, none⟩ = some (.int .i64 (y.req 0)) ∧ W'.cell? ⟨b, o + i * 15 + 3, none⟩ = some (.int .i64 (y.req 1)) ∧ W'.cell? ⟨b, o + i * 15 + 4, none⟩ = some (.int .i64 (y.req 2)) ∧ W'.cell? ⟨b, o + i * 15 + 5, none⟩ = some (.int .i64 (y.req 3)) ∧ W'.cell? ⟨b, o + i * 15 + 6, none⟩ = some (.int .i64 (y.req 4)) ∧ W'.cell? ⟨b, o + i * 15 + 7, none⟩ = some (.slice y.al y.labels.length y.cl) ∧ W'.cell? ⟨b, o + i * 15 + 8, none⟩ = some (.slice y.aw y.whr.length y.cw) ∧ W'.cell? ⟨b, o + i * 15 + 9, none⟩ = some (.slice y.ab y.bears.length y.cb) ∧ W'.cell? ⟨b, o + i * 15 + 10, none⟩ = some (strV y.wt) ∧ W'.cell? ⟨b, o + i * 15 + 11, none⟩ = some (.slice y.awt y.wtm.length y.cwt) ∧ W'.cell? ⟨b, o + i * 15 + 12, none⟩ = some (strV y.ap) ∧ W'.cell? ⟨b, o + i * 15 + 13, none⟩ = some (.slice y.aap y.apm.length y.cap) ∧ W'.cell? ⟨b, o + i * 15 + 14, none⟩ = some (strV y.on) ∧ W'.cell? ⟨bn, on + q * 10, none⟩ = some (strV x.name) ∧ W'.cell? ⟨bn, on + q * 10 + 1, none⟩ = some (.int .i64 (x.cap 0)) ∧ W'.cell? ⟨bn, on + q * 10 + 2, none⟩ = some (.int .i64 (x.cap 1)) ∧ W'.cell? ⟨bn, on + q * 10 + 3, none⟩ = some (.int .i64 (x.cap 2)) ∧ W'.cell? ⟨bn, on + q * 10 + 4, none⟩ = some (.int .i64 (x.cap 3)) ∧ W'.cell? ⟨bn, on + q * 10 + 5, none⟩ = some (.int .i64 (x.cap 4)) ∧ W'.cell? ⟨bn, on + q * 10 + 6, none⟩ = some (.slice x.al x.labels.length x.cl) ∧ W'.cell? ⟨bn, on + q * 10 + 7, none⟩ = some (.slice x.at_ x.taints.length x.ct) ∧ W'.cell? ⟨bn, on + q * 10 + 8, none⟩ = some (.bool x.cordon) ∧ W'.cell? ⟨bn, on + q * 10 + 9, none⟩ = some (.bool x.lost)) := Lib.hid (fun W' hb => by
    obtain ⟨z0, z1, z2⟩ := HZ.out _ hb
    have pk := HPC.out _ (HT.out _ hb)
    obtain ⟨b1, o1, e1, _, c0, c1, c2, c3, c4, c5, c6, c7, c8, c9, c10, c11, c12, c13, c14⟩ := PC.out _ (HT.out _ hb)
    cases e1
    obtain ⟨b2, o2, e2, _, d0, d1, d2, d3, d4, d5, d6, d7, d8, d9⟩ := NC.out _ (HT.out _ hb)
    cases e2
    exact ⟨z0, z1, pk, c0, c1, c2, c3, c4, c5, c6, c7, c8, c9, c10, c11, c12, c13, c14, d0, d1, d2, d3, d4, d5, d6, d7, d8, d9⟩)
  go_upto_region 3 with fail
  go_cut [10, 11] (fun u v wc => OfSt W y x u v wc)
  case first =>
    go_region_held3 (fun w' => w'.cell? ⟨w.heap.size, 0, none⟩ = some (.slice (some ⟨bn, on, none⟩) ns.length ca) ∧ w'.cell? ⟨w.heap.size, 1, none⟩ = some (.slice (some ⟨b, o, none⟩) ps.length cb) ∧ w'.cell? ⟨bp, op + i, none⟩ = some (.int .i64 (q : Int)) ∧ w'.cell? ⟨b, o + i * 15, none⟩ = some (strV y.name) ∧ w'.cell? ⟨b, o + i * 15 + 1, none⟩ = some (strV y.owner) ∧ w'.cell? ⟨b, o + i * 15 + 2, none⟩ = some (.int .i64 (y.req 0)) ∧ w'.cell? ⟨b, o + i * 15 + 3, none⟩ = some (.int .i64 (y.req 1)) ∧ w'.cell? ⟨b, o + i * 15 + 4, none⟩ = some (.int .i64 (y.req 2)) ∧ w'.cell? ⟨b, o + i * 15 + 5, none⟩ = some (.int .i64 (y.req 3)) ∧ w'.cell? ⟨b, o + i * 15 + 6, none⟩ = some (.int .i64 (y.req 4)) ∧ w'.cell? ⟨b, o + i * 15 + 7, none⟩ = some (.slice y.al y.labels.length y.cl) ∧ w'.cell? ⟨b, o + i * 15 + 8, none⟩ = some (.slice y.aw y.whr.length y.cw) ∧ w'.cell? ⟨b, o + i * 15 + 9, none⟩ = some (.slice y.ab y.bears.length y.cb) ∧ w'.cell? ⟨b, o + i * 15 + 10, none⟩ = some (strV y.wt) ∧ w'.cell? ⟨b, o + i * 15 + 11, none⟩ = some (.slice y.awt y.wtm.length y.cwt) ∧ w'.cell? ⟨b, o + i * 15 + 12, none⟩ = some (strV y.ap) ∧ w'.cell? ⟨b, o + i * 15 + 13, none⟩ = some (.slice y.aap y.apm.length y.cap) ∧ w'.cell? ⟨b, o + i * 15 + 14, none⟩ = some (strV y.on) ∧ w'.cell? ⟨bn, on + q * 10, none⟩ = some (strV x.name) ∧ w'.cell? ⟨bn, on + q * 10 + 1, none⟩ = some (.int .i64 (x.cap 0)) ∧ w'.cell? ⟨bn, on + q * 10 + 2, none⟩ = some (.int .i64 (x.cap 1)) ∧ w'.cell? ⟨bn, on + q * 10 + 3, none⟩ = some (.int .i64 (x.cap 2)) ∧ w'.cell? ⟨bn, on + q * 10 + 4, none⟩ = some (.int .i64 (x.cap 3)) ∧ w'.cell? ⟨bn, on + q * 10 + 5, none⟩ = some (.int .i64 (x.cap 4)) ∧ w'.cell? ⟨bn, on + q * 10 + 6, none⟩ = some (.slice x.al x.labels.length x.cl) ∧ w'.cell? ⟨bn, on + q * 10 + 7, none⟩ = some (.slice x.at_ x.taints.length x.ct) ∧ w'.cell? ⟨bn, on + q * 10 + 8, none⟩ = some (.bool x.cordon) ∧ w'.cell? ⟨bn, on + q * 10 + 9, none⟩ = some (.bool x.lost)) (exact SF.out _ (by go_grown)) (skip)
    all_goals
      (try go_wp2_with fail)
      go_meet
      first | exact ofst1 W y x | exact ofst2 W y x
  case rest =>
    obtain ⟨u, v, rfl, rfl, hP, hN, hB⟩ := hcut
    have HB := Lib.hid hB
    obtain ⟨z0, z1, z2⟩ := HZ.out _ HB.out
    have p1 : wc.cell? ⟨u, 1, none⟩ = some (strV y.owner) := Blk.cell hP 1
    have p8 : wc.cell? ⟨u, 8, none⟩ = some (.slice y.aw y.whr.length y.cw) := Blk.cell hP 8
    have p9 : wc.cell? ⟨u, 9, none⟩ = some (.slice y.ab y.bears.length y.cb) := Blk.cell hP 9
    have p10 : wc.cell? ⟨u, 10, none⟩ = some (strV y.wt) := Blk.cell hP 10
    have p11 : wc.cell? ⟨u, 11, none⟩ = some (.slice y.awt y.wtm.length y.cwt) := Blk.cell hP 11
    have p12 : wc.cell? ⟨u, 12, none⟩ = some (strV y.ap) := Blk.cell hP 12
    have p13 : wc.cell? ⟨u, 13, none⟩ = some (.slice y.aap y.apm.length y.cap) := Blk.cell hP 13
    have n6 : wc.cell? ⟨v, 6, none⟩ = some (.slice x.al x.labels.length x.cl) := Blk.cell hN 6
    have n7 : wc.cell? ⟨v, 7, none⟩ = some (.slice x.at_ x.taints.length x.ct) := Blk.cell hN 7
    have HPb := Lib.hid hP
    have YF := Lib.hid ((H.out _ (HT.out _ HB.out)).p.fit y (List.mem_of_getElem? HY.out))
    have XF := Lib.hid ((H.out _ (HT.out _ HB.out)).n.fit x (List.mem_of_getElem? HXN.out))
    have hlp := (H.out _ (HT.out _ HB.out)).lp
    clear SF PC NC HPC hP hN hB pk
    by_cases e2 : kind = 2
    case pos =>
      subst e2
      have HE : Hid (R = some (termsO y.whr x.labels)) := Lib.hid (by rw [E.out]; rfl)
      clear E
      go_wp2_with fail
      refine (terms_any y.aw x.al y.cw x.cl y.whr x.labels _ YF.out.wh.le YF.out.wh.most (Nat.le_trans XF.out.l.le XF.out.l.most) YF.out.wh.cells XF.out.l.cells).mono ?_
      rintro e w2 ⟨rfl, hb2⟩
      have B2 := Lib.hid (HT.out _ (HB.out.trans (hb2.mono HB.out.size)))
      clear hb2
      go_wp2
      go_ret2
      rw [HE.out]
      exact ⟨rfl, B2.out⟩
    by_cases e3 : kind = 3
    case pos =>
      subst e3
      have HE : Hid (R = some (taintsO x.taints y.bears)) := Lib.hid (by rw [E.out]; rfl)
      clear E e2
      go_wp2_with fail
      refine (taints_any x.at_ y.ab x.ct y.cb x.taints y.bears _ XF.out.t.le XF.out.t.most (Nat.le_trans YF.out.b.le YF.out.b.most) XF.out.t.cells YF.out.b.cells).mono ?_
      rintro e w2 ⟨rfl, hb2⟩
      have B2 := Lib.hid (HT.out _ (HB.out.trans (hb2.mono HB.out.size)))
      clear hb2
      go_wp2
      go_ret2
      rw [HE.out]
      exact ⟨rfl, B2.out⟩
    by_cases e4 : kind = 4
    case pos =>
      subst e4
      by_cases ht : y.wt = []
      case pos =>
        have HE : Hid (R = none) := Lib.hid (by rw [E.out, ht]; rfl)
        rw [ht] at p10
        clear E e2 e3
        go_wp2
        go_ret2
        rw [HE.out]
        exact ⟨rfl, HT.out _ HB.out⟩
      have HE : Hid (R = some (1 - aboutU ns ps p i y.wt y.wtm false p.length)) := Lib.hid (by rw [E.out]; simp [ht])
      have htb : (y.wt == []) = false := by simpa using ht
      have hal := aboutU_le ns ps p i y.wt y.wtm false p.length
      have KA := Lib.hid (about_any (some ⟨bn, on, none⟩) (some ⟨b, o, none⟩) C (some ⟨bp, op, none⟩) y.awt ca cb cc cp y.cwt ns ps os p i q y.wt y.wtm false wc (H.out _ (HT.out _ HB.out)) (HP.out _ (HT.out _ HB.out)) HEE.out HQ0.out YF.out.wt.cells (Nat.le_trans YF.out.wt.le YF.out.wt.most))
      generalize aboutU ns ps p i y.wt y.wtm false p.length = m at KA HE hal
      have hws : IntKind.i64.wrap (1 - (m : Int)) = 1 - (m : Int) := IntWalk.i64_in _ (by have := HPL.out; omega)
      clear E e2 e3 ht
      go_wp2_with fail
      refine (KA.out).mono ?_
      rintro e w2 ⟨rfl, hb2⟩
      have B2 := Lib.hid (HT.out _ (HB.out.trans (hb2.mono HB.out.size)))
      clear hb2 KA
      go_wp2
      go_ret2
      rw [HE.out]
      refine ⟨?_, B2.out⟩
      show Ending.returned (.tuple #[.int .i64 _, .bool true]) = .returned (.tuple #[.int .i64 ((1 - m : Nat) : Int), .bool true])
      congr 5
      omega
    by_cases e5 : kind = 5
    case pos =>
      subst e5
      by_cases ht : y.ap = []
      case pos =>
        have HE : Hid (R = none) := Lib.hid (by rw [E.out, ht]; rfl)
        rw [ht] at p12
        clear E e2 e3 e4
        go_wp2
        go_ret2
        rw [HE.out]
        exact ⟨rfl, HT.out _ HB.out⟩
      have HE : Hid (R = some (aboutU ns ps p i y.ap y.apm true p.length)) := Lib.hid (by rw [E.out]; simp [ht])
      have htb : (y.ap == []) = false := by simpa using ht
      have KA := Lib.hid (about_any (some ⟨bn, on, none⟩) (some ⟨b, o, none⟩) C (some ⟨bp, op, none⟩) y.aap ca cb cc cp y.cap ns ps os p i q y.ap y.apm true wc (H.out _ (HT.out _ HB.out)) (HP.out _ (HT.out _ HB.out)) HEE.out HQ0.out YF.out.ap.cells (Nat.le_trans YF.out.ap.le YF.out.ap.most))
      generalize aboutU ns ps p i y.ap y.apm true p.length = m at KA HE
      clear E e2 e3 e4 ht
      go_wp2_with fail
      refine (KA.out).mono ?_
      rintro e w2 ⟨rfl, hb2⟩
      have B2 := Lib.hid (HT.out _ (HB.out.trans (hb2.mono HB.out.size)))
      clear hb2 KA
      go_wp2
      go_ret2
      rw [HE.out]
      exact ⟨rfl, B2.out⟩
    obtain ⟨hk2, hk6⟩ := HK.out
    obtain rfl : kind = 6 := by omega
    by_cases ht : y.owner = []
    case pos =>
      have HE : Hid (R = none) := Lib.hid (by rw [E.out, ht]; rfl)
      rw [ht] at p1
      clear E e2 e3 e4 e5 hk2 hk6
      go_wp2
      go_ret2
      rw [HE.out]
      exact ⟨rfl, HT.out _ HB.out⟩
    have htb : (y.owner == []) = false := by simpa using ht
    have HE : Hid (R = if singleO os y.owner then some (doubU ps p i p.length) else none) := Lib.hid (by rw [E.out]; simp [ht])
    have KS := Lib.hid (single_any (some ⟨bn, on, none⟩) (some ⟨b, o, none⟩) C ca cb cc ns ps os y.owner wc (H.out _ (HT.out _ HB.out)))
    have KD := Lib.hid (fun W' (hb : Below W.heap.size W W') => doubles_any (some ⟨bn, on, none⟩) (some ⟨b, o, none⟩) C (some ⟨bp, op, none⟩) ca cb cc cp ns ps os p i W' (H.out _ (HT.out _ hb)) (HP.out _ (HT.out _ hb)) HPL.out HI.out)
    generalize doubU ps p i p.length = m at KD HE
    generalize singleO os y.owner = S at KS HE
    clear E e2 e3 e4 e5 hk2 hk6 ht
    go_wp2_with fail
    refine (KS.out).mono ?_
    rintro e w2 ⟨rfl, hb2⟩
    have B2 := Lib.hid (HB.out.trans (hb2.mono HB.out.size))
    clear hb2 KS z0 z1 z2
    obtain ⟨z0, z1, z2⟩ := HZ.out _ B2.out
    cases S with
    | false =>
      go_wp2
      go_ret2
      rw [HE.out]
      exact ⟨rfl, HT.out _ B2.out⟩
    | true =>
      go_wp2_with fail
      refine (KD.out _ B2.out).mono ?_
      rintro e w3 ⟨rfl, hb3⟩
      have B3 := Lib.hid (HT.out _ (B2.out.trans (hb3.mono B2.out.size)))
      clear hb3
      go_wp2
      go_ret2
      rw [HE.out]
      exact ⟨rfl, B3.out⟩
end Go.Proofs.YtpdaohkpgconkaaGreat

namespace Go.Proofs.YtpdaohkpgconkaaGreat
open Go.RowKit

theorem cl4_cells (w : World) (a b c d : Int) : ∀ j u, ([.int .i64 a, .int .i64 b, .int .i64 c, .int .i64 d] : List Value)[j]? = some u → World.cell? (w.alloc (.cells #[.int .i64 a, .int .i64 b, .int .i64 c, .int .i64 d] 47)) ((⟨w.heap.size, 0, none⟩ : Addr).add j) = some u := by
  intro j u hj
  rw [WideShapes.add_plain, Nat.zero_add, ← hj, ← List.getElem?_toArray]
  exact Blk.cell (Blk.new w _ _) j
theorem cl4_one (a b c d : Int) : ∀ u ∈ ([.int .i64 a, .int .i64 b, .int .i64 c, .int .i64 d] : List Value), u.oneCell' = true := by
  intro u hu
  simp at hu
  rcases hu with rfl | rfl | rfl | rfl <;> rfl

set_option maxRecDepth 100000 in
set_option maxHeartbeats 8000000 in
theorem all8_any (A B C P : Option Addr) (ca cb cc cp : Nat) (ns : List NodeD) (ps : List PodD) (os : List OwnD) (p : List Int) (w : World) (h : SnapAt w A B C ca cb cc ns ps os) (hp : IntsAt w P cp p) :
    Calls Tryz.prog 57 #[snapV A B C ca cb cc ns ps os, .slice P p.length cp] w fun e w' => ∃ v, e = .returned (.tuple #[v, .int .i64 (placeE ns ps os p)]) ∧ w'.ownsRow w.heap.size 47 4 v (all8 ns ps os p).length (cells4 (all8 ns ps os p)) ∧ Below w.heap.size w w' := by
  have B0 : Hid (Below w.heap.size w (w.alloc (.cells (snapC A B C ca cb cc ns ps os) 26))) := Lib.hid (below1 w _)
  have S0 : Hid (Blk (w.alloc (.cells (snapC A B C ca cb cc ns ps os) 26)) w.heap.size (snapC A B C ca cb cc ns ps os) 26) := Lib.hid (Blk.new w _ _)
  have KC := Lib.hid (check7_any A B C P ca cb cc cp ns ps os p _ (h.below B0.out) (hp.below B0.out))
  obtain ⟨i0, hi0, hz0, hz1, hz2⟩ := info_parts cl_info
  by_cases hE : placeE ns ps os p = 0
  case neg =>
    have HE : Hid (all8 ns ps os p = []) := Lib.hid (by unfold all8; rw [if_neg hE])
    generalize placeE ns ps os p = er at KC hE ⊢
    have hne : (er != 0) = true := by simpa using hE
    have hnd : decide (er = 0) = false := decide_eq_false hE
    have hnb : (er == 0) = false := by simpa using hE
    clear h hp
    go_enter Tryz.func57, Tryz.ntmps57
    go_wp2_with fail
    refine (KC.out).mono ?_
    rintro e w1 ⟨rfl, hb⟩
    have B1 := Lib.hid (B0.out.trans (hb.mono B0.out.size))
    clear hb KC B0 S0
    go_wp2
    go_ret2
    rw [HE.out]
    exact ⟨_, rfl, World.ownsRow_nil _ _ _ _, B1.out⟩
  have HEE := Lib.hid hE
  have HPL := Lib.hid (placeE_len hE)
  have HA8 : Hid (all8 ns ps os p = capsU ns ps p ns.length ++ kindsU ns ps os p 5 ++ spreadsU ns ps os p os.length ++ minsU ns ps os p os.length) := Lib.hid (by unfold all8; rw [if_pos hE]; rfl)
  have hln := h.ln
  have hlp := h.lp
  have hlo := h.lo
  have hpl2 : p.length ≤ 1000 := by have := HPL.out; omega
  have H := Lib.hid (fun W' (hb : Below w.heap.size w W') => h.below hb)
  have HP := Lib.hid (fun W' (hb : Below w.heap.size w W') => hp.below hb)
  rw [hE] at KC ⊢
  clear h hp hE
  go_enter Tryz.func57, Tryz.ntmps57
  obtain ⟨W, hW⟩ : ∃ W, (w.alloc (.cells (snapC A B C ca cb cc ns ps os) 26)) = W := ⟨_, rfl⟩
  rw [hW] at B0 S0 KC
  have HZ := Lib.hid (fun W' (hb : Below W.heap.size W W') => (show W'.cell? ⟨w.heap.size, 0, none⟩ = some (.slice A ns.length ca) ∧ W'.cell? ⟨w.heap.size, 1, none⟩ = some (.slice B ps.length cb) ∧ W'.cell? ⟨w.heap.size, 2, none⟩ = some (.slice C os.length cc) from ⟨Blk.cell (S0.out.below hb S0.out.lt) 0, Blk.cell (S0.out.below hb S0.out.lt) 1, Blk.cell (S0.out.below hb S0.out.lt) 2⟩))
  obtain ⟨z0, z1, z2⟩ := HZ.out _ (Below.refl _ W)
  go_wp2_with fail
  try rw [show (w.alloc (.cells #[.slice A ns.length ca, .slice B ps.length cb, .slice C os.length cc] 26)) = W from hW]
  clear hW
  refine (KC.out).mono ?_
  rintro e w1 ⟨rfl, hb1⟩
  clear z0 z1 z2
  have HT := Lib.hid (fun W' (hb : Below W.heap.size W W') => B0.out.trans (hb.mono B0.out.size))
  have HS := Lib.hid (fun W' (hb : Below W.heap.size W W') => H.out W' (HT.out W' hb))
  have HPp := Lib.hid (fun W' (hb : Below W.heap.size W W') => HP.out W' (HT.out W' hb))
  have HB0 := Lib.hid B0.out.size
  have HB1 := Lib.hid hb1
  clear H HP B0 S0 KC hb1
  obtain ⟨z0, z1, z2⟩ := HZ.out _ HB1.out
  go_wp2_with fail
  refine (caps_any A B C P ca cb cc cp ns ps os p HPL.out _ (HS.out _ HB1.out) (HPp.out _ HB1.out)).mono ?_
  rintro e w2 ⟨v2, rfl, ho2, hb2⟩
  have O2 := Lib.hid (own_base ho2 HB1.out.size)
  have HB2 := Lib.hid (HB1.out.trans (hb2.mono HB1.out.size))
  have hcl := capsU_len ns ps p ns.length
  generalize capsU ns ps p ns.length = CL at O2 HA8 hcl
  clear ho2 hb2 HB1 z0 z1 z2
  go_wp2_with fail
  go_loopw [7, 8] (fun v kd wr => ∃ k : Nat, 2 ≤ k ∧ k ≤ 7 ∧ kd = .int .i64 (k : Int) ∧ wr.ownsRow W.heap.size 47 4 v (CL ++ kindsU ns ps os p (k - 2)).length (cells4 (CL ++ kindsU ns ps os p (k - 2))) ∧ Below W.heap.size W wr) (fun _ kd _ => 7 - (intOf kd).toNat)
  case atStart => exact ⟨2, by omega, by omega, rfl, by rw [show CL ++ kindsU ns ps os p (2 - 2) = CL from List.append_nil _]; exact O2.out, HB2.out⟩
  case round =>
    clear O2 HB2
    obtain ⟨k, hk2, hk7, rfl, ho, hb⟩ := hrel
    have HO := Lib.hid ho
    have HB := Lib.hid hb
    clear ho hb
    have hkl := kindsU_len ns ps os p (k - 2)
    have hkl2 : (kindsU ns ps os p (k - 2)).length ≤ 5 * 1000 := Nat.le_trans hkl (Nat.mul_le_mul (by omega) hpl2)
    have hkl3 : (CL ++ kindsU ns ps os p (k - 2)).length ≤ 10000 := by rw [List.length_append]; omega
    clear hkl hkl2
    by_cases hlt : k < 7
    case neg =>
      have ek : k = 7 := by omega
      have e7 : (k : Int) = 7 := by omega
      rw [e7]
      rw [ek] at HO hkl3
      clear e7 ek
      have HA9 : Hid (all8 ns ps os p = (CL ++ kindsU ns ps os p (7 - 2)) ++ spreadsU ns ps os p os.length ++ minsU ns ps os p os.length) := HA8
      generalize CL ++ kindsU ns ps os p (7 - 2) = M3 at HO HA9 hkl3
      clear hk2 hk7 hlt HA8 hcl
      go_wp2_with fail
      go_loopw [7, 12] (fun v i wr => ∃ i' : Nat, i' ≤ os.length ∧ i = .int .i64 (i' : Int) ∧ wr.ownsRow W.heap.size 47 4 v (M3 ++ spreadsU ns ps os p i').length (cells4 (M3 ++ spreadsU ns ps os p i')) ∧ Below W.heap.size W wr) (fun _ i _ => os.length - (intOf i).toNat)
      case atStart => exact ⟨0, by omega, rfl, by rw [show M3 ++ spreadsU ns ps os p 0 = M3 from List.append_nil _]; exact HO.out, HB.out⟩
      case round =>
        clear HO HB
        obtain ⟨i', hi', rfl, ho, hb⟩ := hrel
        have HO := Lib.hid ho
        have HB := Lib.hid hb
        clear ho hb
        obtain ⟨z0, z1, z2⟩ := HZ.out _ HB.out
        have hsl := spreadsU_len ns ps os p i'
        have hsl3 : (M3 ++ spreadsU ns ps os p i').length ≤ 11000 := by rw [List.length_append]; omega
        by_cases hlt : i' < os.length
        case neg =>
          obtain rfl : i' = os.length := by omega
          generalize M3 ++ spreadsU ns ps os p os.length = M4 at HO HA9 hsl3
          clear hi' hlt hkl3 hsl
          go_wp2_with fail
          go_loopw [7, 13] (fun v i wr => ∃ i' : Nat, i' ≤ os.length ∧ i = .int .i64 (i' : Int) ∧ wr.ownsRow W.heap.size 47 4 v (M4 ++ minsU ns ps os p i').length (cells4 (M4 ++ minsU ns ps os p i')) ∧ Below W.heap.size W wr) (fun _ i _ => os.length - (intOf i).toNat)
          case atStart => exact ⟨0, by omega, rfl, by rw [show M4 ++ minsU ns ps os p 0 = M4 from List.append_nil _]; exact HO.out, HB.out⟩
          case round =>
            clear HO HB z0 z1 z2
            obtain ⟨i', hi', rfl, ho, hb⟩ := hrel
            have HO := Lib.hid ho
            have HB := Lib.hid hb
            clear ho hb
            obtain ⟨z0, z1, z2⟩ := HZ.out _ HB.out
            have hml := minsU_len ns ps os p i'
            have hml3 : (M4 ++ minsU ns ps os p i').length ≤ 12000 := by rw [List.length_append]; omega
            by_cases hlt : i' < os.length
            case neg =>
              obtain rfl : i' = os.length := by omega
              go_wp2
              go_ret2
              rw [HA9.out]
              exact ⟨_, rfl, own_base HO.out HB0.out, HT.out _ HB.out⟩
            obtain ⟨o, ho⟩ : ∃ o, os[i']? = some o := ⟨os[i'], List.getElem?_eq_getElem hlt⟩
            have HOo := Lib.hid ho
            have Hd : Hid (M4 ++ minsU ns ps os p (i' + 1) = (M4 ++ minsU ns ps os p i') ++ [(8, (i' : Int), 0, max 0 (wrap64 (o.min - placedF ns ps os p (i' : Int))))]) := Lib.hid (by
              rw [minsU, ← List.append_assoc]
              congr 1
              unfold minR
              rw [HOo.out])
            have hPV : placedF ns ps os p (i' : Int) = ((offL p (membersF ps o.name)).length : Int) := by
              have hR : ownerB ns ps os p (i' : Int) = true := by
                unfold ownerB
                rw [decide_eq_true HEE.out, decide_eq_true (⟨by omega, by omega⟩ : 0 ≤ (i' : Int) ∧ (i' : Int) < (os.length : Int))]
                rfl
              obtain ⟨ko, xo, e1, hxo, _, _, hC, _⟩ := owned_is hR
              have e2 : ko = i' := by omega
              subst e2
              rw [HOo.out] at hxo
              cases hxo
              exact hC
            rw [hPV] at Hd
            have KM := Lib.hid (fun W' (hb : Below W.heap.size W W') => placedOf7_any A B C P ca cb cc cp ns ps os p i' o HOo.out HEE.out W' (HS.out W' hb) (HPp.out W' hb))
            generalize ((offL p (membersF ps o.name)).length : Int) = m at KM Hd
            obtain ⟨b, oo, hC, _, d0, d1, _⟩ := atO (HS.out _ HB.out).o ho
            subst hC
            have k0 : (0 : Int) ≤ (i' : Int) := by omega
            have k1 : (i' : Int) < (os.length : Int) := by omega
            generalize M4 ++ minsU ns ps os p i' = M at HO Hd hml3
            clear ho hPV d0
            have HB : Hid (Below W.heap.size W wr.drew) := Lib.hid HB.out.drew
            have HO : Hid (World.ownsRow wr.drew W.heap.size 47 4 u7 M.length (cells4 M)) := Lib.hid (show World.ownsRow _ _ _ _ _ _ _ from HO.out)
            have SF : Hid (∀ w', Below W.heap.size W w' → w'.cell? ⟨w.heap.size, 0, none⟩ = some (.slice A ns.length ca) ∧ w'.cell? ⟨w.heap.size, 1, none⟩ = some (.slice B ps.length cb) ∧ w'.cell? ⟨w.heap.size, 2, none⟩ = some (.slice (some ⟨b, oo, none⟩) os.length cc) ∧ w'.cell? ⟨b, oo + i' * 5 + 1, none⟩ = some (.int .i64 o.min)) := Lib.hid (fun w' hb => by
              obtain ⟨z0, z1, z2⟩ := HZ.out _ hb
              obtain ⟨b1, o1, e1, _, d0, d1, _⟩ := atO (HS.out _ hb).o HOo.out
              cases e1
              exact ⟨z0, z1, z2, d1⟩)
            go_upto_region 22 with fail
            clear z0 z1 z2 d1
            go_region_held3 (fun w' => w'.cell? ⟨w.heap.size, 0, none⟩ = some (.slice A ns.length ca) ∧ w'.cell? ⟨w.heap.size, 1, none⟩ = some (.slice B ps.length cb) ∧ w'.cell? ⟨w.heap.size, 2, none⟩ = some (.slice (some ⟨b, oo, none⟩) os.length cc) ∧ w'.cell? ⟨b, oo + i' * 5 + 1, none⟩ = some (.int .i64 o.min)) (first | exact SF.out _ HB.out | exact SF.out _ (HB.out.alloc HB.out.size _) | exact SF.out _ D4.out)
              (first
                | (go_at_call 77
                   refine (KM.out _ HB.out).mono ?_
                   rintro e w3 ⟨rfl, hb3⟩
                   have HO := Lib.hid (La.own_below HO.out hb3)
                   have HB := Lib.hid (HB.out.trans (hb3.mono HB.out.size))
                   clear hb3)
                | (refine step_append_own rfl (.tmp 79) (.tmp 94) 48 rfl W.heap.size 47 i0 (.agg #[.int .i64 0, .int .i64 0, .int .i64 0, .int .i64 0]) 4 32 Tryz.underlying48 hi0 hz0 hz1 hz2 rfl (by decide) u7 M.length (cells4 M) rfl (show World.ownsRow _ _ _ _ _ _ _ from HO.out.alloc _) ⟨_, 0, none⟩ 1 1 [.int .i64 8, .int .i64 (i' : Int), .int .i64 0, .int .i64 (max 0 (IntKind.i64.wrap (o.min - m)))] rfl rfl (cl4_cells _ _ _ _ _) (cl4_one _ _ _ _) (by unfold maxLen; omega) (by omega) (by have := HB.out.size; simp; omega) (fun v4 w4 hown4 hgrow4 => ?_)
                   have P4 := Lib.hid hown4
                   have D4 := Lib.hid ((HB.out.alloc HB.out.size (.cells #[.int .i64 8, .int .i64 (i' : Int), .int .i64 0, .int .i64 (max 0 (IntKind.i64.wrap (o.min - m)))] 47)).grown hgrow4 (by have := HB.out.size; simp; omega) (fun j hj => own_gem HO.out hj))
                   clear hown4 hgrow4))
            all_goals
              go_wp2_with fail
              go_roundw
              case rel =>
                refine ⟨i' + 1, by omega, by go_num, ?_, D4.out⟩
                rw [Hd.out, List.length_append, cells4_snoc]
                have e : IntKind.i64.wrap (o.min - m) = wrap64 (o.min - m) := IntWalk.i64_left _
                rw [← e]
                exact P4.out
              case measure => simp [intOf]; omega
        obtain ⟨o, ho⟩ : ∃ o, os[i']? = some o := ⟨os[i'], List.getElem?_eq_getElem hlt⟩
        have HOo := Lib.hid ho
        have Hd : Hid (spreadsU ns ps os p (i' + 1) = spreadsU ns ps os p i' ++ (if o.topo = [] then [] else [(7, (i' : Int), 0, skewO (spreadF ns ps os p (i' : Int)) o.skew)])) := Lib.hid (by
          rw [spreadsU]
          congr 1
          unfold spreadR
          rw [HOo.out])
        have KS := Lib.hid (fun W' (hb : Below W.heap.size W W') => skew_any A B C P ca cb cc cp ns ps os p i' o HOo.out HEE.out W' (HS.out W' hb) (HPp.out W' hb))
        generalize skewO (spreadF ns ps os p (i' : Int)) o.skew = sk at KS Hd
        obtain ⟨b, oo, hC, _, d0, d1, d2, d3, d4⟩ := atO (HS.out _ HB.out).o ho
        subst hC
        have k0 : (0 : Int) ≤ (i' : Int) := by omega
        have k1 : (i' : Int) < (os.length : Int) := by omega
        by_cases ht : o.topo = []
        case pos =>
          have hE2 : Hid (M3 ++ spreadsU ns ps os p (i' + 1) = M3 ++ spreadsU ns ps os p i') := Lib.hid (by rw [Hd.out, if_pos ht, List.append_nil])
          rw [ht] at d2
          clear ho Hd KS ht hsl d0 d1 d3 d4
          go_wp2_with fail
          go_roundw
          case rel => exact ⟨i' + 1, by omega, by go_num, by rw [hE2.out]; exact HO.out, HB.out⟩
          case measure => simp [intOf]; omega
        have hE2 : Hid (M3 ++ spreadsU ns ps os p (i' + 1) = (M3 ++ spreadsU ns ps os p i') ++ [(7, (i' : Int), 0, sk)]) := Lib.hid (by rw [Hd.out, if_neg ht, List.append_assoc])
        have htb : (o.topo == []) = false := by simpa using ht
        have htn : (o.topo != []) = true := by simp [ht]
        generalize M3 ++ spreadsU ns ps os p i' = M at HO hE2 hsl3
        clear ho Hd hsl d0 d1 d3 d4
        go_wp2_with fail
        refine (KS.out _ HB.out).mono ?_
        rintro e w3 ⟨rfl, hb3⟩
        have HO3 := Lib.hid (La.own_below HO.out hb3)
        have HB3 := Lib.hid (HB.out.trans (hb3.mono HB.out.size))
        clear hb3 KS HO HB z0 z1 z2 d2 htb htn ht
        go_wp2_with (at_builtin; refine wpList_append_own _ rfl _ _ 48 rfl W.heap.size 47 i0 (.agg #[.int .i64 0, .int .i64 0, .int .i64 0, .int .i64 0]) 4 32 Tryz.underlying48 hi0 hz0 hz1 hz2 rfl (by decide) _ _ _ rfl (show World.ownsRow _ _ _ _ _ _ _ from HO3.out.alloc _) ⟨w3.heap.size, 0, none⟩ 1 1 [.int .i64 7, .int .i64 (i' : Int), .int .i64 0, .int .i64 sk] rfl rfl ?c1s ?c2s ?c3s ?c4s ?c5s ?_)
        case c1s =>
          intro j u hj
          match j, hj with
          | 0, hj => simp at hj; subst hj; simp [Addr.add]
          | 1, hj => simp at hj; subst hj; simp [Addr.add]
          | 2, hj => simp at hj; subst hj; simp [Addr.add]
          | 3, hj => simp at hj; subst hj; simp [Addr.add]
        case c2s => first | rfl | (intro u hu; simp at hu; rcases hu with rfl | rfl | rfl | rfl <;> rfl)
        case c3s => unfold maxLen; omega
        case c4s => omega
        case c5s => have := HB3.out.size; simp; omega
        intro v4 w4 hown4 hgrow4 _
        have P4 := Lib.hid hown4
        have D4 := Lib.hid ((HB3.out.alloc HB3.out.size (.cells #[.int .i64 7, .int .i64 (i' : Int), .int .i64 0, .int .i64 sk] 47)).grown hgrow4 (by have := HB3.out.size; simp; omega) (fun j hj => own_gem HO3.out hj))
        clear hown4 hgrow4
        go_wp2_with fail
        go_roundw
        case rel =>
          refine ⟨i' + 1, by omega, by go_num, ?_, D4.out⟩
          rw [hE2.out, List.length_append, cells4_snoc]
          exact P4.out
        case measure => simp [intOf]; omega
    have Hk : Hid (CL ++ kindsU ns ps os p (k + 1 - 2) = (CL ++ kindsU ns ps os p (k - 2)) ++ podsU ns ps os p k p.length) := Lib.hid (by
      obtain ⟨j, rfl⟩ : ∃ j, k = j + 2 := ⟨k - 2, by omega⟩
      show CL ++ (kindsU ns ps os p j ++ podsU ns ps os p (j + 2) p.length) = _
      rw [← List.append_assoc]
      rfl)
    generalize CL ++ kindsU ns ps os p (k - 2) = M2 at HO Hk hkl3
    clear hcl HA8
    have e6 : (k : Int) ≤ 6 := by omega
    go_wp2_with fail
    go_loopw [7, 9] (fun v i wr => ∃ i' : Nat, i' ≤ p.length ∧ i = .int .i64 (i' : Int) ∧ wr.ownsRow W.heap.size 47 4 v (M2 ++ podsU ns ps os p k i').length (cells4 (M2 ++ podsU ns ps os p k i')) ∧ Below W.heap.size W wr) (fun _ i _ => p.length - (intOf i).toNat)
    case atStart => exact ⟨0, by omega, rfl, by rw [show M2 ++ podsU ns ps os p k 0 = M2 from List.append_nil _]; exact HO.out, HB.out⟩
    case round =>
      clear HO HB
      obtain ⟨i', hi', rfl, ho, hb⟩ := hrel
      have HO := Lib.hid ho
      have HB := Lib.hid hb
      clear ho hb
      obtain ⟨z0, z1, z2⟩ := HZ.out _ HB.out
      have hsl := podsU_len ns ps os p k i'
      have hsl3 : (M2 ++ podsU ns ps os p k i').length ≤ 11000 := by rw [List.length_append]; omega
      by_cases hlt2 : i' < p.length
      case neg =>
        obtain rfl : i' = p.length := by omega
        go_wp2_with fail
        go_roundw
        case rel => exact ⟨k + 1, by omega, by omega, by go_num, by rw [Hk.out]; exact HO.out, HB.out⟩
        case measure => simp [intOf]; omega
      have KO := Lib.hid (fun W' (hb : Below W.heap.size W W') => ofR_any A B C P ca cb cc cp ns ps os p k i' hk2 (by omega) HEE.out hlt2 W' (HS.out W' hb) (HPp.out W' hb))
      have Hd : Hid (M2 ++ podsU ns ps os p k (i' + 1) = (M2 ++ podsU ns ps os p k i') ++ (match ofU ns ps os p k i' with | some b => [((k : Int), (i' : Int), 0, (b : Int))] | none => [])) := Lib.hid (by
        rw [podsU, ← List.append_assoc]
        rfl)
      have k0 : (0 : Int) ≤ (i' : Int) := by omega
      have k1 : (i' : Int) < (p.length : Int) := by omega
      generalize M2 ++ podsU ns ps os p k i' = M at HO Hd hsl3
      generalize ofU ns ps os p k i' = R at KO Hd
      clear hsl
      go_wp2_with fail
      refine (KO.out _ HB.out).mono ?_
      rintro e w3 ⟨rfl, hb3⟩
      have HO3 := Lib.hid (La.own_below HO.out hb3)
      have HB3 := Lib.hid (HB.out.trans (hb3.mono HB.out.size))
      clear hb3 KO HO HB z0 z1 z2
      cases R with
      | none =>
        have hE2 : Hid (M2 ++ podsU ns ps os p k (i' + 1) = M) := Lib.hid (by rw [Hd.out]; simp)
        clear Hd
        go_wp2_with fail
        go_roundw
        case rel => exact ⟨i' + 1, by omega, by go_num, by rw [hE2.out]; exact HO3.out, HB3.out⟩
        case measure => simp [intOf]; omega
      | some b =>
        have hE2 : Hid (M2 ++ podsU ns ps os p k (i' + 1) = M ++ [((k : Int), (i' : Int), 0, (b : Int))]) := Hd
        clear Hd
        go_wp2_with (at_builtin; refine wpList_append_own _ rfl _ _ 48 rfl W.heap.size 47 i0 (.agg #[.int .i64 0, .int .i64 0, .int .i64 0, .int .i64 0]) 4 32 Tryz.underlying48 hi0 hz0 hz1 hz2 rfl (by decide) _ _ _ rfl (show World.ownsRow _ _ _ _ _ _ _ from HO3.out.alloc _) ⟨w3.heap.size, 0, none⟩ 1 1 [.int .i64 (k : Int), .int .i64 (i' : Int), .int .i64 0, .int .i64 (b : Int)] rfl rfl ?c1p ?c2p ?c3p ?c4p ?c5p ?_)
        case c1p =>
          intro j u hj
          match j, hj with
          | 0, hj => simp at hj; subst hj; simp [Addr.add]
          | 1, hj => simp at hj; subst hj; simp [Addr.add]
          | 2, hj => simp at hj; subst hj; simp [Addr.add]
          | 3, hj => simp at hj; subst hj; simp [Addr.add]
        case c2p => first | rfl | (intro u hu; simp at hu; rcases hu with rfl | rfl | rfl | rfl <;> rfl)
        case c3p => unfold maxLen; omega
        case c4p => omega
        case c5p => have := HB3.out.size; simp; omega
        intro v4 w4 hown4 hgrow4 _
        have P4 := Lib.hid hown4
        have D4 := Lib.hid ((HB3.out.alloc HB3.out.size (.cells #[.int .i64 (k : Int), .int .i64 (i' : Int), .int .i64 0, .int .i64 (b : Int)] 47)).grown hgrow4 (by have := HB3.out.size; simp; omega) (fun j hj => own_gem HO3.out hj))
        clear hown4 hgrow4
        go_wp2_with fail
        go_roundw
        case rel =>
          refine ⟨i' + 1, by omega, by go_num, ?_, D4.out⟩
          rw [hE2.out, List.length_append, cells4_snoc]
          exact P4.out
        case measure => simp [intOf]; omega
end Go.Proofs.YtpdaohkpgconkaaGreat

namespace Go.Proofs.YtpdaohkpgconkaaGreat
open Go.RowKit

set_option maxRecDepth 100000 in
set_option maxHeartbeats 8000000 in
theorem find9_any (A : Option Addr) (ca : Nat) (l : List ClT) (c : ClT) (w : World) (hl : l.length ≤ 1000) (ha : La.SlAt w A (cells4 l)) :
    Calls Tryz.prog 58 #[.slice A l.length ca, clV c] w fun e w' => e = .returned (.int .i64 ((findC l c.1 c.2.1 c.2.2.1).getD 0)) ∧ Below w.heap.size w w' := by
  have B0 : Hid (Below w.heap.size w (w.alloc (.cells #[.int .i64 c.1, .int .i64 c.2.1, .int .i64 c.2.2.1, .int .i64 c.2.2.2] 47))) := Lib.hid (below1 w _)
  have Q0 : Hid (Blk (w.alloc (.cells #[.int .i64 c.1, .int .i64 c.2.1, .int .i64 c.2.2.1, .int .i64 c.2.2.2] 47)) w.heap.size #[.int .i64 c.1, .int .i64 c.2.1, .int .i64 c.2.2.1, .int .i64 c.2.2.2] 47) := Lib.hid (Blk.new w _ _)
  have O1 := Lib.hid (La.SlAt.below ha B0.out)
  have EA : Hid (∀ (k : Nat) (y : ClT), l[k]? = some y → isC c.1 c.2.1 c.2.2.1 y = true → (∀ (j : Nat) (z : ClT), j < k → l[j]? = some z → isC c.1 c.2.1 c.2.2.1 z = false) → findC l c.1 c.2.1 c.2.2.1 = some y.2.2.2) := Lib.hid (fun k y h1 h2 h3 => findC_at h1 h2 h3)
  have EN : Hid ((∀ (j : Nat) (z : ClT), l[j]? = some z → isC c.1 c.2.1 c.2.2.1 z = false) → findC l c.1 c.2.1 c.2.2.1 = none) := Lib.hid (fun h => findC_no h)
  generalize findC l c.1 c.2.1 c.2.2.1 = R at EA EN ⊢
  clear ha
  go_enter Tryz.func58, Tryz.ntmps58
  go_upto_region 1 with fail
  try change Code.wp _ _ _ _ (w.alloc (.cells #[.int .i64 c.1, .int .i64 c.2.1, .int .i64 c.2.2.1, .int .i64 c.2.2.2] 47))
  generalize (w.alloc (.cells #[.int .i64 c.1, .int .i64 c.2.1, .int .i64 c.2.2.1, .int .i64 c.2.2.2] 47)) = W at B0 Q0 O1 ⊢
  go_wp2_with fail
  go_loopw [5] (fun i wr => ∃ k : Nat, k ≤ l.length ∧ i = .int .i64 k ∧ (∀ (j : Nat) (z : ClT), j < k → l[j]? = some z → isC c.1 c.2.1 c.2.2.1 z = false) ∧ Below W.heap.size W wr) (fun i _ => l.length - (intOf i).toNat)
  case atStart => exact ⟨0, by omega, rfl, fun j z h => by omega, Below.refl _ _⟩
  case round =>
    obtain ⟨k, hk, rfl, hn, hb⟩ := hrel
    have HN := Lib.hid hn
    have HB := Lib.hid hb
    clear hn hb
    by_cases hlt : k < l.length
    case neg =>
      obtain rfl : k = l.length := by omega
      have HE := Lib.hid (EN.out (fun j z hz => HN.out j z (List.getElem?_eq_some_iff.1 hz).1 hz))
      go_wp2
      go_ret
      rw [HE.out]
      exact ⟨rfl, B0.out.trans (HB.out.mono B0.out.size)⟩
    obtain ⟨y, hy⟩ : ∃ y, l[k]? = some y := ⟨l[k], List.getElem?_eq_getElem hlt⟩
    obtain ⟨g, o, hG, hbl, c0, c1, c2, c3⟩ := atC (La.SlAt.below O1.out HB.out) hy
    subst hG
    have q0 : wr.cell? ⟨w.heap.size, 0, none⟩ = some (.int .i64 c.1) := Blk.cell (Q0.out.below HB.out Q0.out.lt) 0
    have q1 : wr.cell? ⟨w.heap.size, 1, none⟩ = some (.int .i64 c.2.1) := Blk.cell (Q0.out.below HB.out Q0.out.lt) 1
    have q2 : wr.cell? ⟨w.heap.size, 2, none⟩ = some (.int .i64 c.2.2.1) := Blk.cell (Q0.out.below HB.out Q0.out.lt) 2
    have k0 : (0 : Int) ≤ (k : Int) := by omega
    have k1 : (k : Int) < (l.length : Int) := by omega
    have HY := Lib.hid hy
    have go : Hid (isC c.1 c.2.1 c.2.2.1 y = false → ∀ (j : Nat) (z : ClT), j < k + 1 → l[j]? = some z → isC c.1 c.2.1 c.2.2.1 z = false) := Lib.hid (fun h1 j z hj hz => by
      by_cases hjk : j = k
      · subst hjk
        rw [HY.out] at hz
        cases hz
        exact h1
      · exact HN.out j z (by omega) hz)
    clear hy
    go_upto_region 4 with fail
    by_cases h1 : y.1 = c.1
    case neg =>
      have h1b : (y.1 == c.1) = false := by simpa using h1
      have HF := Lib.hid (go.out (decide_eq_false (fun h => h1 h.1)))
      clear h1 go
      go_quiet (fail)
      go_wp2_with fail
      go_roundw
      case rel => exact ⟨k + 1, by omega, by go_num, HF.out, below_drewN HB.out _⟩
      case measure => simp [intOf]; omega
    have h1b : (y.1 == c.1) = true := by simpa using h1
    by_cases h2 : y.2.1 = c.2.1
    case neg =>
      have h2b : (y.2.1 == c.2.1) = false := by simpa using h2
      have HF := Lib.hid (go.out (decide_eq_false (fun h => h2 h.2.1)))
      clear h1 h2 go
      go_quiet (fail)
      go_wp2_with fail
      go_roundw
      case rel => exact ⟨k + 1, by omega, by go_num, HF.out, below_drewN HB.out _⟩
      case measure => simp [intOf]; omega
    have h2b : (y.2.1 == c.2.1) = true := by simpa using h2
    by_cases h3 : y.2.2.1 = c.2.2.1
    case neg =>
      have h3b : (y.2.2.1 == c.2.2.1) = false := by simpa using h3
      have HF := Lib.hid (go.out (decide_eq_false (fun h => h3 h.2.2)))
      clear h1 h2 h3 go
      go_quiet (fail)
      go_wp2_with fail
      go_roundw
      case rel => exact ⟨k + 1, by omega, by go_num, HF.out, below_drewN HB.out _⟩
      case measure => simp [intOf]; omega
    have h3b : (y.2.2.1 == c.2.2.1) = true := by simpa using h3
    have HF := Lib.hid (EA.out k y HY.out (decide_eq_true ⟨h1, h2, h3⟩) HN.out)
    clear h1 h2 h3 go
    go_quiet (fail)
    go_wp2
    go_ret
    rw [HF.out]
    exact ⟨rfl, B0.out.trans ((below_drewN HB.out _).mono B0.out.size)⟩
end Go.Proofs.YtpdaohkpgconkaaGreat

namespace Go.Proofs.YtpdaohkpgconkaaGreat
open Go.RowKit Go.Maps Go.Shelf

set_option maxRecDepth 100000 in
set_option maxHeartbeats 8000000 in
theorem worse9_any (A B C P Q : Option Addr) (ca cb cc cp cq : Nat) (ns : List NodeD) (ps : List PodD) (os : List OwnD) (p q : List Int) (hl : (all8 ns ps os p).length ≤ 1000) (hlq : (all8 ns ps os q).length ≤ 1000) (w : World) (h : SnapAt w A B C ca cb cc ns ps os) (hp : IntsAt w P cp p) (hq : IntsAt w Q cq q) :
    Calls Tryz.prog 24 #[snapV A B C ca cb cc ns ps os, .slice P p.length cp, .slice Q q.length cq] w fun e w' => ∃ v, e = .returned (.tuple #[v, .int .i64 (worseE ns ps os p q)]) ∧ w'.ownsRow w.heap.size 47 4 v (worseF ns ps os p q).length (cells4 (worseF ns ps os p q)) ∧ Below w.heap.size w w' := by
  have B0 : Hid (Below w.heap.size w (w.alloc (.cells (snapC A B C ca cb cc ns ps os) 26))) := Lib.hid (below1 w _)
  have S0 : Hid (Blk (w.alloc (.cells (snapC A B C ca cb cc ns ps os) 26)) w.heap.size (snapC A B C ca cb cc ns ps os) 26) := Lib.hid (Blk.new w _ _)
  have HA := Lib.hid (all8_any A B C P ca cb cc cp ns ps os p _ (h.below B0.out) (hp.below B0.out))
  have HB := Lib.hid (fun W' (hb : Below w.heap.size w W') => all8_any A B C Q ca cb cc cq ns ps os q W' (h.below hb) (hq.below hb))
  obtain ⟨i0, hi0, hz0, hz1, hz2⟩ := info_parts cl_info
  have HF : Hid (worseF ns ps os p q = if placeE ns ps os p = 0 then (all8 ns ps os q).filter (worC (all8 ns ps os p)) else []) := Lib.hid rfl
  have HF0 : Hid (placeE ns ps os q ≠ 0 → all8 ns ps os q = []) := Lib.hid (fun h => by unfold all8; rw [if_neg h])
  have HE : Hid (worseE ns ps os p q = if placeE ns ps os p = 0 then placeE ns ps os q else placeE ns ps os p) := Lib.hid rfl
  generalize worseF ns ps os p q = R at HF ⊢
  generalize worseE ns ps os p q = e9 at HE ⊢
  generalize all8 ns ps os p = L at HA HF hl
  generalize all8 ns ps os q = l at HB HF HF0 hlq
  generalize placeE ns ps os p = Ep at HA HF HE
  generalize placeE ns ps os q = Eq at HB HE HF0
  clear h hp hq
  go_enter Tryz.func24, Tryz.ntmps24
  go_wp2_with fail
  refine (HA.out).mono ?_
  rintro e w1 ⟨vA, rfl, hoA, hb⟩
  obtain ⟨Ga, cga, rfl, _⟩ := La.own_slice hoA
  have OA := Lib.hid (La.own_slat hoA)
  have B1 := Lib.hid (B0.out.trans (hb.mono B0.out.size))
  have S1 := Lib.hid (S0.out.below hb S0.out.lt)
  clear hoA hb HA B0 S0
  by_cases hE : Ep = 0
  case neg =>
    have hne : (Ep != 0) = true := by simpa using hE
    have hR : R = [] := by rw [HF.out, if_neg hE]
    have h9 : e9 = Ep := by rw [HE.out, if_neg hE]
    clear hE HF HE
    go_wp2
    go_ret2
    subst hR h9
    exact ⟨_, rfl, World.ownsRow_nil _ _ _ _, B1.out⟩
  subst hE
  have h9 : Hid (e9 = Eq) := Lib.hid (by rw [HE.out, if_pos rfl])
  have hR : Hid (R = l.filter (worC L)) := Lib.hid (by rw [HF.out, if_pos rfl])
  clear HF HE
  have KB := Lib.hid (HB.out _ B1.out)
  have z0 : w1.cell? ⟨w.heap.size, 0, none⟩ = some (.slice A ns.length ca) := Blk.cell S1.out 0
  have z1 : w1.cell? ⟨w.heap.size, 1, none⟩ = some (.slice B ps.length cb) := Blk.cell S1.out 1
  have z2 : w1.cell? ⟨w.heap.size, 2, none⟩ = some (.slice C os.length cc) := Blk.cell S1.out 2
  go_wp2_with fail
  refine (KB.out).mono ?_
  rintro e w2 ⟨v, rfl, ho, hb⟩
  obtain ⟨Gl, cg, rfl, _⟩ := La.own_slice ho
  have O2 := Lib.hid (La.own_slat ho)
  have OA2 := Lib.hid (La.SlAt.below OA.out hb)
  have B2 := Lib.hid (B1.out.trans (hb.mono B1.out.size))
  clear ho hb KB HB B1 S1 OA z0 z1 z2
  by_cases hE : Eq = 0
  case neg =>
    have hne : (Eq != 0) = true := by simpa using hE
    have hR2 : R = [] := by rw [hR.out, HF0.out hE]; rfl
    have h92 := h9.out
    clear hE hR h9 HF0
    go_wp2
    go_ret2
    subst hR2 h92
    exact ⟨_, rfl, World.ownsRow_nil _ _ _ _, B2.out⟩
  subst hE
  clear HF0
  have KW := Lib.hid (fun (W' : World) (hb : Below w2.heap.size w2 W') (y : ClT) => find9_any Ga cga L y W' hl (La.SlAt.below OA2.out hb))
  clear OA2
  go_wp2_with fail
  go_loopw [12, 13] (fun v i wr => ∃ k : Nat, k ≤ l.length ∧ i = .int .i64 k ∧ wr.ownsRow w2.heap.size 47 4 v ((l.take k).filter (worC L)).length (cells4 ((l.take k).filter (worC L))) ∧ Below w2.heap.size w2 wr) (fun _ i _ => l.length - (intOf i).toNat)
  case atStart => exact ⟨0, by omega, rfl, World.ownsRow_nil _ _ _ _, Below.refl _ _⟩
  case round =>
    obtain ⟨k, hk, rfl, ho, hb⟩ := hrel
    have HO := Lib.hid ho
    have HB := Lib.hid hb
    clear ho hb
    by_cases hlt : k < l.length
    case neg =>
      obtain rfl : k = l.length := by omega
      rw [List.take_length, ← hR.out] at HO
      have h92 := h9.out
      clear h9
      go_wp2
      go_ret2
      subst h92
      exact ⟨_, rfl, own_base HO.out B2.out.size, B2.out.trans (HB.out.mono B2.out.size)⟩
    obtain ⟨y, hy⟩ : ∃ y, l[k]? = some y := ⟨l[k], List.getElem?_eq_getElem hlt⟩
    obtain ⟨gy, oy, hGy, hbl, _⟩ := atC (La.SlAt.below O2.out HB.out) hy
    subst hGy
    have k0 : (0 : Int) ≤ (k : Int) := by omega
    have k1 : (k : Int) < (l.length : Int) := by omega
    have HF := Lib.hid (filt_snoc (worC L) hy)
    have hfl : ((l.take k).filter (worC L)).length ≤ k := Nat.le_trans (List.length_filter_le _ _) (by rw [List.length_take]; omega)
    have HX := Lib.hid (fun (W' : World) (hb : Below w2.heap.size w2 W') => (by
      obtain ⟨g', o', hG', _, x0, x1, x2, x3⟩ := atC (La.SlAt.below O2.out hb) hy
      cases hG'
      exact ⟨x0, x1, x2, x3⟩ : W'.cell? ⟨gy, oy + k * 4, none⟩ = some (.int .i64 y.1) ∧ W'.cell? ⟨gy, oy + k * 4 + 1, none⟩ = some (.int .i64 y.2.1) ∧ W'.cell? ⟨gy, oy + k * 4 + 2, none⟩ = some (.int .i64 y.2.2.1) ∧ W'.cell? ⟨gy, oy + k * 4 + 3, none⟩ = some (.int .i64 y.2.2.2)))
    have KY := Lib.hid (fun W' hb => KW.out W' hb y)
    have Hwc : Hid (worC L y = decide ((findC L y.1 y.2.1 y.2.2.1).getD 0 < y.2.2.2)) := Lib.hid rfl
    clear hy
    generalize (l.take k).filter (worC L) = M at HO HF hfl
    generalize worC L y = wb at Hwc HF
    generalize (findC L y.1 y.2.1 y.2.2.1).getD 0 = fz at Hwc KY
    go_upto_region 11 with fail
    have HD : Hid (Below w2.heap.size w2 wr.drew) := Lib.hid HB.out.drew
    obtain ⟨c0, c1, c2, c3⟩ := HX.out _ HD.out
    have hcase : (fz < y.2.2.2 ∧ wb = true) ∨ (y.2.2.2 ≤ fz ∧ wb = false) := by
      by_cases h : fz < y.2.2.2
      · exact .inl ⟨h, by rw [Hwc.out]; exact decide_eq_true h⟩
      · exact .inr ⟨by omega, by rw [Hwc.out]; exact decide_eq_false h⟩
    clear Hwc
    have Hcase := Lib.hid hcase
    have hgt : decide (fz < y.2.2.2) = wb := by
      rcases hcase with ⟨h, e⟩ | ⟨h, e⟩
      · rw [e]; exact decide_eq_true h
      · rw [e]; exact decide_eq_false (by omega)
    clear hcase
    have HGr := Lib.hid (fun W' (hb : Below wr.heap.size wr W') => La.own_below HO.out hb)
    go_cut [49] (fun v wc => v = .bool wb ∧ Below wr.heap.size wr wc)
    case first =>
      have HR0 : Hid (Below wr.heap.size wr wr.drew) := Lib.hid ((Below.refl _ wr).drew)
      go_region_held3 (fun w' => w'.cell? ⟨gy, oy + k * 4, none⟩ = some (.int .i64 y.1) ∧ w'.cell? ⟨gy, oy + k * 4 + 1, none⟩ = some (.int .i64 y.2.1) ∧ w'.cell? ⟨gy, oy + k * 4 + 2, none⟩ = some (.int .i64 y.2.2.1) ∧ w'.cell? ⟨gy, oy + k * 4 + 3, none⟩ = some (.int .i64 y.2.2.2))
        (first | exact ⟨c0, c1, c2, c3⟩ | exact ⟨by assumption, by assumption, by assumption, by assumption⟩)
        (first
          | (go_at_call 58
             refine (KY.out _ HD.out).mono ?_
             rintro e wA ⟨rfl, hbA⟩
             have HDA := Lib.hid (HD.out.trans (hbA.mono HD.out.size))
             have HRA := Lib.hid (HR0.out.trans (hbA.mono HR0.out.size))
             obtain ⟨y0, y1, y2, y3⟩ := HX.out _ HDA.out
             clear hbA))
      all_goals
        (try go_wp2_with fail)
        go_meet
        exact ⟨by first | rfl | exact congrArg Value.bool hgt | (simp only [hgt]), HRA.out⟩
    case' rest => obtain ⟨rfl, hbc⟩ := hcut
    have HO9 := Lib.hid (HGr.out _ hbc)
    have HB9 := Lib.hid (HB.out.trans (hbc.mono HB.out.size))
    clear hbc c0 c1 c2 c3 HD HO HB hgt KY
    obtain ⟨c0, c1, c2, c3⟩ := HX.out _ HB9.out
    rcases Hcase.out with ⟨_, rfl⟩ | ⟨_, rfl⟩
    · have HE : Hid ((l.take (k + 1)).filter (worC L) = M ++ [y]) := Lib.hid (by rw [HF.out]; simp)
      clear HF Hcase HGr
      go_wp2_with (at_builtin; refine wpList_append_own _ rfl _ _ 48 rfl w2.heap.size 47 i0 (.agg #[.int .i64 0, .int .i64 0, .int .i64 0, .int .i64 0]) 4 32 Tryz.underlying48 hi0 hz0 hz1 hz2 rfl (by decide) _ _ _ rfl (show World.ownsRow _ _ _ _ _ _ _ from HO9.out.alloc _) ⟨wc.heap.size, 0, none⟩ 1 1 [.int .i64 y.1, .int .i64 y.2.1, .int .i64 y.2.2.1, .int .i64 y.2.2.2] rfl rfl ?c1z ?c2z ?c3z ?c4z ?c5z ?_)
      case c1z =>
        intro j u hj
        match j, hj with
        | 0, hj => simp at hj; subst hj; simp [Addr.add]
        | 1, hj => simp at hj; subst hj; simp [Addr.add]
        | 2, hj => simp at hj; subst hj; simp [Addr.add]
        | 3, hj => simp at hj; subst hj; simp [Addr.add]
      case c2z => first | rfl | (intro u hu; simp at hu; rcases hu with rfl | rfl | rfl | rfl <;> rfl)
      case c3z => unfold maxLen; omega
      case c4z => omega
      case c5z => have := HB9.out.size; simp; omega
      intro v4 w4 hown4 hgrow4 _
      have P4 := Lib.hid hown4
      have D4 := Lib.hid ((HB9.out.alloc HB9.out.size (.cells #[.int .i64 y.1, .int .i64 y.2.1, .int .i64 y.2.2.1, .int .i64 y.2.2.2] 47)).grown hgrow4 (by have := HB9.out.size; simp; omega) (fun j hj => own_gem HO9.out hj))
      clear hown4 hgrow4 c0 c1 c2 c3
      go_wp2_with fail
      go_roundw
      case rel =>
        refine ⟨k + 1, by omega, by go_num, ?_, D4.out⟩
        rw [HE.out, List.length_append, cells4_snoc]
        exact P4.out
      case measure => simp [intOf]; omega
    · have HE : Hid ((l.take (k + 1)).filter (worC L) = M) := Lib.hid (by rw [HF.out]; simp)
      clear HF Hcase HGr
      go_wp2_with fail
      go_roundw
      case rel => exact ⟨k + 1, by omega, by go_num, by rw [HE.out]; exact HO9.out, HB9.out⟩
      case measure => simp [intOf]; omega

end Go.Proofs.YtpdaohkpgconkaaGreat

namespace Go.Proofs.YtpdaohkpgconkaaGreat
open Go.RowKit

theorem own_empty (w : World) (base : Nat) (e : TypeId) (hb : base ≤ w.heap.size) : (w.alloc (.cells #[] e)).ownsRow base e 1 (.slice (some ⟨w.heap.size, 0, none⟩) 0 0) 0 [] :=
  ⟨rfl, .inr ⟨w.heap.size, 0, #[], rfl, hb, Blk.new w _ _, Nat.le_refl _, by unfold maxLen; omega, rfl, rfl⟩⟩

set_option maxRecDepth 100000 in
set_option maxHeartbeats 8000000 in
theorem apply7_any (A B C P : Option Addr) (ca cb cc cp : Nat) (ns : List NodeD) (ps : List PodD) (os : List OwnD) (p : List Int) (kd pd nd : Int) (w : World) (h : SnapAt w A B C ca cb cc ns ps os) (hp : IntsAt w P cp p) :
    Calls Tryz.prog 66 #[snapV A B C ca cb cc ns ps os, .slice P p.length cp, stepV kd pd nd] w fun e w' => RowNo w (applyF ns ps os p kd pd nd) e w' := by
  have H := Lib.hid h
  have HP := Lib.hid hp
  have hlp := h.lp
  have hln := h.ln
  have B0 : Hid (Below w.heap.size w ((w.alloc (.cells (snapC A B C ca cb cc ns ps os) 26)).alloc (.cells #[.int .i64 kd, .int .i64 pd, .int .i64 nd] 70))) := Lib.hid (Qu.below2 w _ _)
  have S0 : Hid (Blk ((w.alloc (.cells (snapC A B C ca cb cc ns ps os) 26)).alloc (.cells #[.int .i64 kd, .int .i64 pd, .int .i64 nd] 70)) w.heap.size (snapC A B C ca cb cc ns ps os) 26) := Lib.hid (Blk.alloc (Blk.new w _ _) _)
  have X0 : Hid (Blk ((w.alloc (.cells (snapC A B C ca cb cc ns ps os) 26)).alloc (.cells #[.int .i64 kd, .int .i64 pd, .int .i64 nd] 70)) (w.heap.size + 1) #[.int .i64 kd, .int .i64 pd, .int .i64 nd] 70) := Lib.hid (blk2 w _ _ _)
  have E : Hid (applyF ns ps os p kd pd nd = if placeE ns ps os p = 0 then (if kd = 1 then evictF p pd nd else if kd = 2 then bindF ns p pd nd else ([], 2)) else ([], placeE ns ps os p)) := Lib.hid rfl
  have KC := Lib.hid (fun w' (hb : Below w.heap.size w w') => check7_any A B C P ca cb cc cp ns ps os p w' (h.below hb) (hp.below hb))
  have EL := Lib.hid (fun (hz : placeE ns ps os p = 0) => (placeE_zero hz).2.1)
  obtain ⟨i0, hi0, hz0, hz1, hz2⟩ := info_parts Qu.int_info
  generalize applyF ns ps os p kd pd nd = R at E ⊢
  generalize placeE ns ps os p = v0 at KC E EL
  clear h hp
  go_enter Tryz.func66, Tryz.ntmps66
  go_upto_region 1 with fail
  change Code.wp _ _ _ _ ((w.alloc (.cells (snapC A B C ca cb cc ns ps os) 26)).alloc (.cells #[.int .i64 kd, .int .i64 pd, .int .i64 nd] 70))
  generalize ((w.alloc (.cells (snapC A B C ca cb cc ns ps os) 26)).alloc (.cells #[.int .i64 kd, .int .i64 pd, .int .i64 nd] 70)) = W at B0 S0 X0 ⊢
  have s0 : W.cell? ⟨w.heap.size, 0, none⟩ = some (.slice A ns.length ca) := Blk.cell S0.out 0
  have s1 : W.cell? ⟨w.heap.size, 1, none⟩ = some (.slice B ps.length cb) := Blk.cell S0.out 1
  have s2 : W.cell? ⟨w.heap.size, 2, none⟩ = some (.slice C os.length cc) := Blk.cell S0.out 2
  go_wp2_with fail
  refine (KC.out _ B0.out).mono ?_
  rintro e w1 ⟨rfl, hb⟩
  have B1 := Lib.hid (B0.out.trans (hb.mono B0.out.size))
  have S1 := Lib.hid (S0.out.below hb S0.out.lt)
  have X1 := Lib.hid (X0.out.below hb X0.out.lt)
  clear hb KC S0 X0 B0 s0 s1 s2
  by_cases hv : v0 = 0
  case neg =>
    have HE : Hid (R = ([], v0)) := Lib.hid (by rw [E.out, if_neg hv])
    have hvb : (v0 == 0) = false := by simpa using hv
    have hvc : (v0 != 0) = true := by simpa using hv
    go_wp2
    go_ret2
    exact nil_post HE.out B1.out
  subst hv
  have hpl := Lib.hid (EL.out rfl)
  have hp1 : p.length ≤ 1000 := by have := hpl.out; omega
  have E2 : Hid (R = (if kd = 1 then evictF p pd nd else if kd = 2 then bindF ns p pd nd else ([], 2))) := Lib.hid (by rw [E.out, if_pos rfl])
  clear E EL
  have x0 : w1.cell? ⟨w.heap.size + 1, 0, none⟩ = some (.int .i64 kd) := Blk.cell X1.out 0
  have x1 : w1.cell? ⟨w.heap.size + 1, 1, none⟩ = some (.int .i64 pd) := Blk.cell X1.out 1
  have x2 : w1.cell? ⟨w.heap.size + 1, 2, none⟩ = some (.int .i64 nd) := Blk.cell X1.out 2
  have s0 : w1.cell? ⟨w.heap.size, 0, none⟩ = some (.slice A ns.length ca) := Blk.cell S1.out 0
  by_cases hk : kd = 1 ∨ kd = 2
  case neg =>
    have HE : Hid (R = ([], 2)) := Lib.hid (by rw [E2.out, if_neg (fun e => hk (.inl e)), if_neg (fun e => hk (.inr e))])
    have k1 : (kd != 1) = true := by simpa using (fun e => hk (.inl e) : ¬ kd = 1)
    have k2 : (kd != 2) = true := by simpa using (fun e => hk (.inr e) : ¬ kd = 2)
    have k3 : ¬ kd = 1 := fun e => hk (.inl e)
    have k4 : ¬ kd = 2 := fun e => hk (.inr e)
    go_wp2
    go_ret2
    exact nil_post HE.out B1.out
  have key9 : Hid (¬ (0 ≤ pd ∧ pd < (p.length : Int)) → R = ([], 9)) := Lib.hid (fun hn => by
    rw [E2.out]
    rcases hk with rfl | rfl
    · rw [if_pos rfl, evictF, if_neg hn]
    · rw [if_neg (by omega), if_pos rfl, bindF, if_neg hn])
  by_cases h0 : pd < 0
  · have HE := Lib.hid (key9.out (by omega))
    have h0b : decide (pd < 0) = true := decide_eq_true h0
    rcases hk with rfl | rfl
    all_goals
      go_wp2
      go_ret2
      exact nil_post HE.out B1.out
  have h0b : decide (pd < 0) = false := decide_eq_false h0
  obtain ⟨d, rfl⟩ : ∃ d : Nat, pd = (d : Int) := ⟨pd.toNat, by omega⟩
  by_cases h1 : p.length ≤ d
  · have HE := Lib.hid (key9.out (by omega))
    have h1b : decide (p.length ≤ d) = true := decide_eq_true h1
    rcases hk with rfl | rfl
    all_goals
      go_wp2
      go_ret2
      exact nil_post HE.out B1.out
  have h1b : decide (p.length ≤ d) = false := decide_eq_false h1
  have h1c : d < p.length := by omega
  by_cases h2 : nd < 0
  · have HE : Hid (R = ([], 9)) := Lib.hid (by
      rw [E2.out]
      rcases hk with rfl | rfl
      · rw [if_pos rfl, evictF, if_pos (by omega), if_neg (by omega)]
      · rw [if_neg (by omega), if_pos rfl, bindF, if_pos (by omega), if_neg (by omega)])
    have h2b : decide (nd < 0) = true := decide_eq_true h2
    rcases hk with rfl | rfl
    all_goals
      go_wp2
      go_ret2
      exact nil_post HE.out B1.out
  have h2b : decide (nd < 0) = false := decide_eq_false h2
  obtain ⟨n, rfl⟩ : ∃ n : Nat, nd = (n : Int) := ⟨nd.toNat, by omega⟩
  obtain ⟨x, hx⟩ : ∃ x, p[d]? = some x := ⟨p[d], List.getElem?_eq_getElem h1c⟩
  obtain ⟨b, o, hA, hbl, c0⟩ := atI (HP.out.below B1.out).cells hx
  subst hA
  have d0 : (0 : Int) ≤ (d : Int) := by omega
  have d1 : (d : Int) < (p.length : Int) := by omega
  clear key9
  rcases hk with rfl | rfl
  · -- evict
    by_cases h3 : n = 0
    case neg =>
      have HE : Hid (R = ([], 9)) := Lib.hid (by rw [E2.out, if_pos rfl, evictF, if_pos (by omega), if_neg (by omega)])
      have h3b : ((n : Int) != 0) = true := by simpa using h3
      go_wp2
      go_ret2
      exact nil_post HE.out B1.out
    subst h3
    have HE0 : Hid (R = if x = -1 then ([], 110) else (p.set d (-1), 0)) := Lib.hid (by
      rw [E2.out, if_pos rfl, evictF, if_pos (by omega), if_pos (by omega), Int.toNat_natCast, hx]
      by_cases e : x = -1
      · rw [if_pos (by rw [e]), if_pos e]
      · rw [if_neg (by simpa using e), if_neg e])
    have HX := Lib.hid hx
    clear E2 hx
    by_cases hxn : x = -1
    · have HE : Hid (R = ([], 110)) := Lib.hid (by rw [HE0.out, if_pos hxn])
      subst hxn
      go_wp2_with fail
      go_quiet (fail)
      go_wp2
      go_ret2
      exact nil_post HE.out (belowN B1.out _)
    have HE : Hid (R = (p.set d (-1), 0)) := Lib.hid (by rw [HE0.out, if_neg hxn])
    have hxb : (x == -1) = false := by simpa using hxn
    go_wp2_with fail
    go_quiet (fail)
    have OE := Lib.hid (own_empty (w1.drewN nq) w.heap.size 3 B1.out.size)
    have BE := Lib.hid ((belowN (Below.refl w1.heap.size w1) nq).alloc (Nat.le_refl _) (.cells #[] 3))
    have XE := Lib.hid (X1.out.below BE.out X1.out.lt)
    have CE := Lib.hid ((HP.out.below B1.out).below BE.out).cells
    have Hlt := Lib.hid X1.out.lt
    go_wp2_with (at_builtin; refine wpList_append_own _ rfl _ _ 44 rfl w.heap.size 3 i0 (.int .i64 0) 1 8 Tryz.underlying44 hi0 hz0 hz1 hz2 rfl (by decide) _ _ _ rfl (show World.ownsRow ((w1.drewN nq).alloc (.cells #[] 3)) _ _ _ _ _ _ from OE.out) ⟨b, o, none⟩ p.length cp (intsC p) rfl ?c0 ?c1 ?c2 ?c3 ?c4 ?c5 ?_)
    case c0 => simp [intsC]
    case c1 =>
      intro j u hj
      obtain ⟨b', o', hA, hc⟩ := CE.out j u hj
      cases hA
      rw [WideShapes.add_plain]
      exact hc
    case c2 =>
      intro u hu
      obtain ⟨x, _, rfl⟩ := List.mem_map.1 hu
      rfl
    case c3 => unfold maxLen; omega
    case c4 => omega
    case c5 => exact Nat.le_trans B1.out.size BE.out.size
    intro v' w2 hown' hgrow' _
    obtain ⟨g, cap, rfl, hgb⟩ : ∃ g cap, v' = .slice (some ⟨g, 0, none⟩) p.length cap ∧ w.heap.size ≤ g := by
      rcases hown'.2 with ⟨_, h⟩ | ⟨g, cap, cur, hv, hb, _⟩
      · omega
      · exact ⟨g, cap, hv, hb⟩
    have B2 := Lib.hid ((B1.out.trans (BE.out.mono B1.out.size)).grown hgrow' (Nat.le_trans B1.out.size BE.out.size) (fun j hj => own_gem OE.out hj))
    have X2 : Hid (Blk w2 (w.heap.size + 1) _ 70) := Lib.hid (Blk.kept XE.out hgrow' (fun e => by
      have := Hlt.out
      have e2 : w.heap.size + 1 = (w1.drewN nq).heap.size := Option.some.inj e
      have e3 : (w1.drewN nq).heap.size = w1.heap.size := rfl
      omega))
    have hne : g ≠ w.heap.size + 1 := by
      intro e
      rcases hown'.2 with ⟨h, _⟩ | ⟨g', cap', cur, hv, _, hg, _⟩
      · cases h
      · cases hv
        have h1 := X2.out
        unfold Blk at h1
        rw [← e, hg] at h1
        cases h1
    have hfr := own_free hown' d
    obtain ⟨b2, o2, hA2, hbl2, hcur⟩ := atI (La.own_slat hown') HX.out
    cases hA2
    rw [Nat.zero_add] at hcur
    have O3 := Lib.hid (own_put hown' d (.int .i64 (-1)))
    have B3 := Lib.hid (B2.out.setCell (p := ⟨g, d, none⟩) hgb (.int .i64 (-1)))
    have X3 := Lib.hid (X2.out.oth (Ne.symm hne) d (.int .i64 (-1)))
    clear hown' hgrow' OE BE XE CE x0 x1 x2 c0
    have x0 : w2.cell? ⟨w.heap.size + 1, 0, none⟩ = some (.int .i64 1) := Blk.cell X2.out 0
    have x1 : w2.cell? ⟨w.heap.size + 1, 1, none⟩ = some (.int .i64 (d : Int)) := Blk.cell X2.out 1
    go_upto_region 12 with fail
    generalize (w2.setCell ⟨g, d, none⟩ (.int .i64 (-1))) = W3 at O3 B3 X3 ⊢
    clear x0 x1 hfr hcur X2 B2
    have x0 : W3.cell? ⟨w.heap.size + 1, 0, none⟩ = some (.int .i64 1) := Blk.cell X3.out 0
    go_wp2
    go_ret2
    rw [HE.out]
    refine ⟨_, rfl, ?_, B3.out⟩
    have q := O3.out
    rw [ints_set] at q
    dsimp only
    rw [List.length_set]
    exact q
  · -- bind
    by_cases h3 : ns.length ≤ n
    · have HE : Hid (R = ([], 9)) := Lib.hid (by rw [E2.out, if_neg (by omega), if_pos rfl, bindF, if_pos (by omega), if_neg (by omega)])
      have h3b : decide (ns.length ≤ n) = true := decide_eq_true h3
      go_wp2
      go_ret2
      exact nil_post HE.out B1.out
    have h3b : decide (ns.length ≤ n) = false := decide_eq_false h3
    obtain ⟨y, hy⟩ : ∃ y, ns[n]? = some y := ⟨ns[n]'(by omega), List.getElem?_eq_getElem (by omega)⟩
    obtain ⟨bn, on, hAn, hbln, e0, e1, e2, e3, e4, e5, e6, e7, e8, e9⟩ := atN (H.out.below B1.out).n.cells hy
    subst hAn
    have HE0 : Hid (R = if x = -1 then (if y.lost then ([], 110) else (p.set d (n : Int), 0)) else ([], 110)) := Lib.hid (by
      rw [E2.out, if_neg (by omega), if_pos rfl, bindF, if_pos (by omega), if_pos (by omega), Int.toNat_natCast, Int.toNat_natCast, hx]
      have el : lostB ns n = y.lost := by unfold lostB; rw [hy]
      rw [el]
      by_cases e : x = -1
      · rw [if_pos (by rw [e]), if_pos e]
      · rw [if_neg (by simpa using e), if_neg e])
    have HX := Lib.hid hx
    have n0 : (0 : Int) ≤ (n : Int) := by omega
    have n1 : (n : Int) < (ns.length : Int) := by omega
    clear E2 hx hy e0 e1 e2 e3 e4 e5 e6 e7 e8
    by_cases hxn : x = -1
    case neg =>
      have HE : Hid (R = ([], 110)) := Lib.hid (by rw [HE0.out, if_neg hxn])
      have hxb : (x == -1) = false := by simpa using hxn
      go_wp2_with fail
      go_quiet (fail)
      go_wp2
      go_ret2
      exact nil_post HE.out (belowN B1.out _)
    subst hxn
    cases hyl : y.lost
    case true =>
      have HE : Hid (R = ([], 110)) := Lib.hid (by rw [HE0.out, if_pos rfl, if_pos hyl])
      rw [hyl] at e9
      go_wp2_with fail
      go_quiet (fail)
      go_wp2
      go_ret2
      exact nil_post HE.out (belowN B1.out _)
    have HE : Hid (R = (p.set d (n : Int), 0)) := Lib.hid (by rw [HE0.out, if_pos rfl, if_neg (by rw [hyl]; decide)])
    rw [hyl] at e9
    go_wp2_with fail
    go_quiet (fail)
    have OE := Lib.hid (own_empty (w1.drewN nq) w.heap.size 3 B1.out.size)
    have BE := Lib.hid ((belowN (Below.refl w1.heap.size w1) nq).alloc (Nat.le_refl _) (.cells #[] 3))
    have XE := Lib.hid (X1.out.below BE.out X1.out.lt)
    have CE := Lib.hid ((HP.out.below B1.out).below BE.out).cells
    have Hlt := Lib.hid X1.out.lt
    go_wp2_with (at_builtin; refine wpList_append_own _ rfl _ _ 44 rfl w.heap.size 3 i0 (.int .i64 0) 1 8 Tryz.underlying44 hi0 hz0 hz1 hz2 rfl (by decide) _ _ _ rfl (show World.ownsRow ((w1.drewN nq).alloc (.cells #[] 3)) _ _ _ _ _ _ from OE.out) ⟨b, o, none⟩ p.length cp (intsC p) rfl ?c0 ?c1 ?c2 ?c3 ?c4 ?c5 ?_)
    case c0 => simp [intsC]
    case c1 =>
      intro j u hj
      obtain ⟨b', o', hA, hc⟩ := CE.out j u hj
      cases hA
      rw [WideShapes.add_plain]
      exact hc
    case c2 =>
      intro u hu
      obtain ⟨x, _, rfl⟩ := List.mem_map.1 hu
      rfl
    case c3 => unfold maxLen; omega
    case c4 => omega
    case c5 => exact Nat.le_trans B1.out.size BE.out.size
    intro v' w2 hown' hgrow' _
    obtain ⟨g, cap, rfl, hgb⟩ : ∃ g cap, v' = .slice (some ⟨g, 0, none⟩) p.length cap ∧ w.heap.size ≤ g := by
      rcases hown'.2 with ⟨_, h⟩ | ⟨g, cap, cur, hv, hb, _⟩
      · omega
      · exact ⟨g, cap, hv, hb⟩
    have B2 := Lib.hid ((B1.out.trans (BE.out.mono B1.out.size)).grown hgrow' (Nat.le_trans B1.out.size BE.out.size) (fun j hj => own_gem OE.out hj))
    have X2 : Hid (Blk w2 (w.heap.size + 1) _ 70) := Lib.hid (Blk.kept XE.out hgrow' (fun e => by
      have := Hlt.out
      have e2 : w.heap.size + 1 = (w1.drewN nq).heap.size := Option.some.inj e
      have e3 : (w1.drewN nq).heap.size = w1.heap.size := rfl
      omega))
    have hne : g ≠ w.heap.size + 1 := by
      intro e
      rcases hown'.2 with ⟨h, _⟩ | ⟨g', cap', cur, hv, _, hg, _⟩
      · cases h
      · cases hv
        have h1 := X2.out
        unfold Blk at h1
        rw [← e, hg] at h1
        cases h1
    have hfr := own_free hown' d
    obtain ⟨b2, o2, hA2, hbl2, hcur⟩ := atI (La.own_slat hown') HX.out
    cases hA2
    rw [Nat.zero_add] at hcur
    have O3 := Lib.hid (own_put hown' d (.int .i64 (-1)))
    have B3 := Lib.hid (B2.out.setCell (p := ⟨g, d, none⟩) hgb (.int .i64 (-1)))
    have X3 := Lib.hid (X2.out.oth (Ne.symm hne) d (.int .i64 (-1)))
    clear hown' hgrow' OE BE XE CE x0 x1 x2 c0
    have x0 : w2.cell? ⟨w.heap.size + 1, 0, none⟩ = some (.int .i64 2) := Blk.cell X2.out 0
    have x1 : w2.cell? ⟨w.heap.size + 1, 1, none⟩ = some (.int .i64 (d : Int)) := Blk.cell X2.out 1
    go_upto_region 12 with fail
    generalize (w2.setCell ⟨g, d, none⟩ (.int .i64 (-1))) = W3 at O3 B3 X3 ⊢
    clear x0 x1 hfr hcur X2 B2
    have x0 : W3.cell? ⟨w.heap.size + 1, 0, none⟩ = some (.int .i64 2) := Blk.cell X3.out 0
    have x1 : W3.cell? ⟨w.heap.size + 1, 1, none⟩ = some (.int .i64 (d : Int)) := Blk.cell X3.out 1
    have x2 : W3.cell? ⟨w.heap.size + 1, 2, none⟩ = some (.int .i64 (n : Int)) := Blk.cell X3.out 2
    have hfr := own_free O3.out d
    obtain ⟨b3, o3, hA3, hbl3, hcur⟩ := atI (l := p.set d (-1)) (k := d) (x := -1) (La.own_slat (by have q := O3.out; rwa [ints_set] at q)) (by rw [List.getElem?_set_self (by omega)])
    cases hA3
    rw [Nat.zero_add] at hcur
    have O4 := Lib.hid (own_put O3.out d (.int .i64 (n : Int)))
    have B4 := Lib.hid (B3.out.setCell (p := ⟨g, d, none⟩) hgb (.int .i64 (n : Int)))
    go_wp2
    go_ret2
    rw [HE.out]
    refine ⟨_, rfl, ?_, B4.out⟩
    have q := O4.out
    rw [List.set_set, ints_set] at q
    dsimp only
    rw [List.length_set]
    exact q
end Go.Proofs.YtpdaohkpgconkaaGreat

namespace Go.Proofs.YtpdaohkpgconkaaGreat
open Go.RowKit Go.Maps Go.Shelf

theorem results_mid {P : Program} {fn : Func} {p s u : Tmp} {ty : TypeId} (h : fn.results = #[.tmp s, .cell p ty, .tmp u]) (tmps : Array Value) (w : World) (g : Nat) (t : TypeId) (cs : Array Value) (fr : Nat × Nat) (d : TypeDesc) (v v2 : Value)
    (hp : tmps.getD p undef = .pointer (some ⟨g, 0, none⟩)) (hs : tmps.getD s undef = v) (hu2 : tmps.getD u undef = v2) (hg : w.heap[g]? = some (.cells cs t fr))
    (hu : P.underlying ty = some d) (hd : (match d with | .struct _ | .array _ _ => true | _ => false) = true) (hi : (P.info? ty).map (·.size) = some cs.size) :
    (results fn tmps).run P w = .ok (.tuple #[v, .agg cs, v2]) w := by
  have hp' : tmps[p]?.getD undef = .pointer (some ⟨g, 0, none⟩) := by simpa using hp
  have hs' : tmps[s]?.getD undef = v := by simpa using hs
  have hu' : tmps[u]?.getD undef = v2 := by simpa using hu2
  simp [results, h, hp', hs', hu', asAddr, run_loadVar_row w g t ty cs fr d hg hu hd hi]
theorem bodyPost_mid {P : Program} {fn : Func} {p s u : Tmp} {ty : TypeId} {R : Ending → World → Prop} {a : Act} {w : World} (h : fn.results = #[.tmp s, .cell p ty, .tmp u]) (g : Nat) (t : TypeId) (cs : Array Value) (fr : Nat × Nat) (d : TypeDesc) (v v2 : Value)
    (hd0 : a.defers = []) (hp : a.tmps.getD p undef = .pointer (some ⟨g, 0, none⟩)) (hs : a.tmps.getD s undef = v) (hu2 : a.tmps.getD u undef = v2) (hg : w.heap[g]? = some (.cells cs t fr))
    (hu : P.underlying ty = some d) (hd : (match d with | .struct _ | .array _ _ => true | _ => false) = true) (hi : (P.info? ty).map (·.size) = some cs.size)
    (hR : R (.returned (.tuple #[v, .agg cs, v2])) w) : bodyPost P fn R .ret a w :=
  bodyPost_ret (results_mid h a.tmps w g t cs fr d v v2 hp hs hu2 hg hu hd hi) hd0 hR
/-- What it is to answer a row, a clause, a number. -/
abbrev StepNo (w : World) (q : List Int) (c : ClT) (x : Int) (e : Ending) (w' : World) : Prop := ∃ v, e = .returned (.tuple #[v, clV c, .int .i64 x]) ∧ w'.ownsRow w.heap.size 3 1 v q.length (intsC q) ∧ Below w.heap.size w w'
/-- Four cells of a clause are written. -/
abbrev set4 (W : World) (b : Nat) (c : ClT) : World := (((W.setCell ⟨b, 0, none⟩ (.int .i64 c.1)).setCell ⟨b, 1, none⟩ (.int .i64 c.2.1)).setCell ⟨b, 2, none⟩ (.int .i64 c.2.2.1)).setCell ⟨b, 3, none⟩ (.int .i64 c.2.2.2)
abbrev clC (c : ClT) : Array Value := #[.int .i64 c.1, .int .i64 c.2.1, .int .i64 c.2.2.1, .int .i64 c.2.2.2]
theorem blk4 {W : World} {b : Nat} {t : TypeId} {c0 : ClT} (h : Blk W b (clC c0) t) (c : ClT) : Blk (set4 W b c) b (clC c) t := (((h.set 0 _).set 1 _).set 2 _).set 3 _
theorem below4 {w W : World} {B b : Nat} (h : Below B w W) (hb : B ≤ b) (c : ClT) : Below B w (set4 W b c) := (((h.setCell (p := ⟨b, 0, none⟩) hb _).setCell (p := ⟨b, 1, none⟩) hb _).setCell (p := ⟨b, 2, none⟩) hb _).setCell (p := ⟨b, 3, none⟩) hb _
theorem own4 {w : World} {base n : Nat} {v : Value} {xs : List Value} (h : w.ownsRow base 3 1 v n xs) {b : Nat} {c0 : ClT} (hb : Blk w b (clC c0) 47) (c : ClT) : (set4 w b c).ownsRow base 3 1 v n xs := by
  have h1 := ch_set h hb (by decide) 0 (.int .i64 c.1)
  have b1 := hb.set 0 (.int .i64 c.1)
  have h2 := ch_set h1 b1 (by decide) 1 (.int .i64 c.2.1)
  have b2 := b1.set 1 (.int .i64 c.2.1)
  have h3 := ch_set h2 b2 (by decide) 2 (.int .i64 c.2.2.1)
  have b3 := b2.set 2 (.int .i64 c.2.2.1)
  exact ch_set h3 b3 (by decide) 3 (.int .i64 c.2.2.2)
theorem cells_of4 {W : World} {b : Nat} {c : ClT} (h : Blk W b (clC c) 47) : (W.cell? ⟨b, 0, none⟩ = some (.int .i64 c.1) ∧ W.cell? ⟨b, 1, none⟩ = some (.int .i64 c.2.1) ∧ W.cell? ⟨b, 2, none⟩ = some (.int .i64 c.2.2.1) ∧ W.cell? ⟨b, 3, none⟩ = some (.int .i64 c.2.2.2)) ∧ W.frozen? ⟨b, 0, none⟩ = false ∧ W.frozen? ⟨b, 1, none⟩ = false ∧ W.frozen? ⟨b, 2, none⟩ = false ∧ W.frozen? ⟨b, 3, none⟩ = false :=
  ⟨⟨Blk.cell h 0, Blk.cell h 1, Blk.cell h 2, Blk.cell h 3⟩, Blk.free h 0, Blk.free h 1, Blk.free h 2, Blk.free h 3⟩
def z4 : ClT := (0, 0, 0, 0)

/-- What a step answers: the row, the clause, the number. -/
def stepF (ns : List NodeD) (ps : List PodD) (os : List OwnD) (p : List Int) (x : Int × Int × Int) : List Int × ClT × Int := ((tryF ns ps os p x.1 x.2.1 x.2.2).1, (tryF ns ps os p x.1 x.2.1 x.2.2).2.c, (tryF ns ps os p x.1 x.2.1 x.2.2).2.e)
def mayB (ns : List NodeD) (ps : List PodD) (os : List OwnD) (p : List Int) (x : Int × Int × Int) : Bool := decide ((stepF ns ps os p x).2.2 = 0)

set_option maxRecDepth 100000 in
set_option maxHeartbeats 4000000 in
theorem step_any (A B C P : Option Addr) (ca cb cc cp : Nat) (ns : List NodeD) (ps : List PodD) (os : List OwnD) (p : List Int) (kd pd nd : Int) (w : World) (h : SnapAt w A B C ca cb cc ns ps os) (hp : IntsAt w P cp p) :
    Calls Tryz.prog 35 #[snapV A B C ca cb cc ns ps os, .slice P p.length cp, stepV kd pd nd] w fun e w' => StepNo w (stepF ns ps os p (kd, pd, nd)).1 (stepF ns ps os p (kd, pd, nd)).2.1 (stepF ns ps os p (kd, pd, nd)).2.2 e w' := by
  have B0 : Hid (Below w.heap.size w (((w.alloc (.cells (snapC A B C ca cb cc ns ps os) 26)).alloc (.cells #[.int .i64 kd, .int .i64 pd, .int .i64 nd] 70)).alloc (.cells (clC z4) 47))) := Lib.hid ((Qu.below2 w _ _).alloc (by simp; omega) _)
  have Z0 : Hid (Blk (((w.alloc (.cells (snapC A B C ca cb cc ns ps os) 26)).alloc (.cells #[.int .i64 kd, .int .i64 pd, .int .i64 nd] 70)).alloc (.cells (clC z4) 47)) w.heap.size (snapC A B C ca cb cc ns ps os) 26) := Lib.hid (Blk.alloc (Blk.alloc (Blk.new w _ _) _) _)
  have S0 : Hid (Blk (((w.alloc (.cells (snapC A B C ca cb cc ns ps os) 26)).alloc (.cells #[.int .i64 kd, .int .i64 pd, .int .i64 nd] 70)).alloc (.cells (clC z4) 47)) (w.heap.size + 1) #[.int .i64 kd, .int .i64 pd, .int .i64 nd] 70) := Lib.hid (Blk.alloc (blk2 w _ _ _) _)
  have C0 : Hid (Blk (((w.alloc (.cells (snapC A B C ca cb cc ns ps os) 26)).alloc (.cells #[.int .i64 kd, .int .i64 pd, .int .i64 nd] 70)).alloc (.cells (clC z4) 47)) (w.heap.size + 1 + 1) (clC z4) 47) := Lib.hid (by
    have := Blk.new ((w.alloc (.cells (snapC A B C ca cb cc ns ps os) 26)).alloc (.cells #[.int .i64 kd, .int .i64 pd, .int .i64 nd] 70)) (clC z4) 47
    rw [World.size_alloc, World.size_alloc] at this
    exact this)
  have KT := Lib.hid (try_any A B C P ca cb cc cp ns ps os p kd pd nd _ (h.below B0.out) (hp.below B0.out))
  have HS : Hid (stepF ns ps os p (kd, pd, nd) = ((tryF ns ps os p kd pd nd).1, (tryF ns ps os p kd pd nd).2.c, (tryF ns ps os p kd pd nd).2.e)) := Lib.hid rfl
  generalize stepF ns ps os p (kd, pd, nd) = R at HS ⊢
  generalize tryF ns ps os p kd pd nd = T at KT HS
  obtain ⟨q, ag⟩ := T
  dsimp only at KT HS
  have hR := HS.out
  clear h hp HS
  subst hR
  show Calls Tryz.prog 35 #[snapV A B C ca cb cc ns ps os, .slice P p.length cp, stepV kd pd nd] w fun e w' => StepNo w q ag.c ag.e e w'
  have KC := Lib.hid (fun W' => clauseOf_any ag W')
  have KE := Lib.hid (fun W' => errorOf_any ag W')
  generalize ag.c = c at KC ⊢
  generalize ag.e = x at KE ⊢
  generalize ag.v = av at KC KE KT ⊢
  go_enter Tryz.func35, Tryz.ntmps35
  go_upto_region 1 with fail
  try change Code.wp _ _ _ _ (((w.alloc (.cells (snapC A B C ca cb cc ns ps os) 26)).alloc (.cells #[.int .i64 kd, .int .i64 pd, .int .i64 nd] 70)).alloc (.cells (clC z4) 47))
  generalize (((w.alloc (.cells (snapC A B C ca cb cc ns ps os) 26)).alloc (.cells #[.int .i64 kd, .int .i64 pd, .int .i64 nd] 70)).alloc (.cells (clC z4) 47)) = W at B0 Z0 S0 C0 KT ⊢
  have z0 : W.cell? ⟨w.heap.size, 0, none⟩ = some (.slice A ns.length ca) := Blk.cell Z0.out 0
  have z1 : W.cell? ⟨w.heap.size, 1, none⟩ = some (.slice B ps.length cb) := Blk.cell Z0.out 1
  have z2 : W.cell? ⟨w.heap.size, 2, none⟩ = some (.slice C os.length cc) := Blk.cell Z0.out 2
  have s0 : W.cell? ⟨w.heap.size + 1, 0, none⟩ = some (.int .i64 kd) := Blk.cell S0.out 0
  have s1 : W.cell? ⟨w.heap.size + 1, 1, none⟩ = some (.int .i64 pd) := Blk.cell S0.out 1
  have s2 : W.cell? ⟨w.heap.size + 1, 2, none⟩ = some (.int .i64 nd) := Blk.cell S0.out 2
  go_wp2_with fail
  refine (KT.out).mono ?_
  rintro e w1 ⟨v, rfl, ho, hb⟩
  have O1 := Lib.hid ho
  have C1 := Lib.hid (C0.out.below hb C0.out.lt)
  have B1 := Lib.hid (B0.out.trans (hb.mono B0.out.size))
  have hb0 := Lib.hid B0.out.size
  clear ho hb KT z0 z1 z2 s0 s1 s2 Z0 S0 C0 B0
  go_wp2_with fail
  refine (KC.out _).mono ?_
  rintro e w2 ⟨rfl, hb⟩
  have O2 := Lib.hid (La.own_below O1.out hb)
  have C2 := Lib.hid (C1.out.below hb C1.out.lt)
  have B2 := Lib.hid (B1.out.trans (hb.mono B1.out.size))
  clear hb KC O1 C1 B1
  go_wp2_with fail
  refine (KE.out _).mono ?_
  rintro e w3 ⟨rfl, hb⟩
  have O3 := Lib.hid (La.own_below O2.out hb)
  have C3 := Lib.hid (C2.out.below hb C2.out.lt)
  have B3 := Lib.hid (B2.out.trans (hb.mono B2.out.size))
  clear hb KE O2 C2 B2
  obtain ⟨⟨y0, y1, y2, y3⟩, g0, g1, g2, g3⟩ := cells_of4 C3.out
  have O4 := Lib.hid (own_base (own4 O3.out C3.out c) hb0.out)
  have C4 := Lib.hid (blk4 C3.out c)
  have B4 := Lib.hid (below4 B3.out (show w.heap.size ≤ w.heap.size + 1 + 1 by omega) c)
  go_wp2
  refine bodyPost_mid Tryz.results35 (w.heap.size + 1 + 1) _ _ _ _ v (.int .i64 x) (by rfl) (by rfl) (by rfl) (by rfl) C4.out Tryz.underlying47 rfl (by kernel_rfl) ?_
  exact ⟨_, rfl, O4.out, B4.out⟩

set_option maxRecDepth 100000 in
set_option maxHeartbeats 2000000 in
theorem may_anyA (A B C P : Option Addr) (ca cb cc cp : Nat) (ns : List NodeD) (ps : List PodD) (os : List OwnD) (p : List Int) (kd pd nd : Int) (w : World) (h : SnapAt w A B C ca cb cc ns ps os) (hp : IntsAt w P cp p) :
    Calls Tryz.prog 37 #[snapV A B C ca cb cc ns ps os, .slice P p.length cp, stepV kd pd nd] w fun e w' => e = .returned (.bool (mayB ns ps os p (kd, pd, nd))) ∧ Below w.heap.size w w' := by
  have B0 : Hid (Below w.heap.size w ((w.alloc (.cells (snapC A B C ca cb cc ns ps os) 26)).alloc (.cells #[.int .i64 kd, .int .i64 pd, .int .i64 nd] 70))) := Lib.hid (Qu.below2 w _ _)
  have Z0 : Hid (Blk ((w.alloc (.cells (snapC A B C ca cb cc ns ps os) 26)).alloc (.cells #[.int .i64 kd, .int .i64 pd, .int .i64 nd] 70)) w.heap.size (snapC A B C ca cb cc ns ps os) 26) := Lib.hid (Blk.alloc (Blk.new w _ _) _)
  have S0 : Hid (Blk ((w.alloc (.cells (snapC A B C ca cb cc ns ps os) 26)).alloc (.cells #[.int .i64 kd, .int .i64 pd, .int .i64 nd] 70)) (w.heap.size + 1) #[.int .i64 kd, .int .i64 pd, .int .i64 nd] 70) := Lib.hid (blk2 w _ _ _)
  have KT := Lib.hid (try_any A B C P ca cb cc cp ns ps os p kd pd nd _ (h.below B0.out) (hp.below B0.out))
  have HS : Hid (mayB ns ps os p (kd, pd, nd) = decide ((tryF ns ps os p kd pd nd).2.e = 0)) := Lib.hid rfl
  generalize mayB ns ps os p (kd, pd, nd) = R at HS ⊢
  generalize tryF ns ps os p kd pd nd = T at KT HS
  obtain ⟨q, ag⟩ := T
  dsimp only at KT HS
  clear h hp
  have KE := Lib.hid (fun W' => errorOf_any ag W')
  generalize ag.e = x at KE HS ⊢
  generalize ag.v = av at KE KT ⊢
  go_enter Tryz.func37, Tryz.ntmps37
  go_upto_region 1 with fail
  try change Code.wp _ _ _ _ ((w.alloc (.cells (snapC A B C ca cb cc ns ps os) 26)).alloc (.cells #[.int .i64 kd, .int .i64 pd, .int .i64 nd] 70))
  generalize ((w.alloc (.cells (snapC A B C ca cb cc ns ps os) 26)).alloc (.cells #[.int .i64 kd, .int .i64 pd, .int .i64 nd] 70)) = W at B0 Z0 S0 KT ⊢
  have z0 : W.cell? ⟨w.heap.size, 0, none⟩ = some (.slice A ns.length ca) := Blk.cell Z0.out 0
  have z1 : W.cell? ⟨w.heap.size, 1, none⟩ = some (.slice B ps.length cb) := Blk.cell Z0.out 1
  have z2 : W.cell? ⟨w.heap.size, 2, none⟩ = some (.slice C os.length cc) := Blk.cell Z0.out 2
  have s0 : W.cell? ⟨w.heap.size + 1, 0, none⟩ = some (.int .i64 kd) := Blk.cell S0.out 0
  have s1 : W.cell? ⟨w.heap.size + 1, 1, none⟩ = some (.int .i64 pd) := Blk.cell S0.out 1
  have s2 : W.cell? ⟨w.heap.size + 1, 2, none⟩ = some (.int .i64 nd) := Blk.cell S0.out 2
  go_wp2_with fail
  refine (KT.out).mono ?_
  rintro e w1 ⟨v, rfl, ho, hb⟩
  have B1 := Lib.hid (B0.out.trans (hb.mono B0.out.size))
  clear ho hb KT z0 z1 z2 s0 s1 s2 Z0 S0 B0
  go_wp2_with fail
  refine (KE.out _).mono ?_
  rintro e w3 ⟨rfl, hb⟩
  have B3 := Lib.hid (B1.out.trans (hb.mono B1.out.size))
  clear hb KE B1
  by_cases hx : x = 0
  · have hR : R = true := by rw [HS.out]; exact decide_eq_true hx
    clear HS
    subst hx hR
    go_wp2
    go_ret
    exact ⟨rfl, B3.out⟩
  · have hR : R = false := by rw [HS.out]; exact decide_eq_false hx
    have h1 : (x == 0) = false := by simpa using hx
    have h2 : decide (x = 0) = false := decide_eq_false hx
    clear HS hx
    subst hR
    go_wp2
    go_ret
    exact ⟨rfl, B3.out⟩
end Go.Proofs.YtpdaohkpgconkaaGreat

namespace Go.Proofs.YtpdaohkpgconkaaGreat
open Go.RowKit Go.Maps Go.Shelf

set_option maxRecDepth 100000 in
set_option maxHeartbeats 4000000 in
theorem step10_any (A B C P : Option Addr) (ca cb cc cp : Nat) (ns : List NodeD) (ps : List PodD) (os : List OwnD) (p : List Int) (kd pd nd : Int) (hfew : ∀ p', (all8 ns ps os p').length ≤ 1000) (w : World) (h : SnapAt w A B C ca cb cc ns ps os) (hp : IntsAt w P cp p) :
    Calls Tryz.prog 36 #[snapV A B C ca cb cc ns ps os, .slice P p.length cp, stepV kd pd nd] w fun e w' => StepNo w (stepF ns ps os p (kd, pd, nd)).1 (stepF ns ps os p (kd, pd, nd)).2.1 (stepF ns ps os p (kd, pd, nd)).2.2 e w' := by
  have B0 : Hid (Below w.heap.size w (((w.alloc (.cells (snapC A B C ca cb cc ns ps os) 26)).alloc (.cells #[.int .i64 kd, .int .i64 pd, .int .i64 nd] 70)).alloc (.cells (clC z4) 47))) := Lib.hid ((Qu.below2 w _ _).alloc (by simp; omega) _)
  have Z0 : Hid (Blk (((w.alloc (.cells (snapC A B C ca cb cc ns ps os) 26)).alloc (.cells #[.int .i64 kd, .int .i64 pd, .int .i64 nd] 70)).alloc (.cells (clC z4) 47)) w.heap.size (snapC A B C ca cb cc ns ps os) 26) := Lib.hid (Blk.alloc (Blk.alloc (Blk.new w _ _) _) _)
  have S0 : Hid (Blk (((w.alloc (.cells (snapC A B C ca cb cc ns ps os) 26)).alloc (.cells #[.int .i64 kd, .int .i64 pd, .int .i64 nd] 70)).alloc (.cells (clC z4) 47)) (w.heap.size + 1) #[.int .i64 kd, .int .i64 pd, .int .i64 nd] 70) := Lib.hid (Blk.alloc (blk2 w _ _ _) _)
  have C0 : Hid (Blk (((w.alloc (.cells (snapC A B C ca cb cc ns ps os) 26)).alloc (.cells #[.int .i64 kd, .int .i64 pd, .int .i64 nd] 70)).alloc (.cells (clC z4) 47)) (w.heap.size + 1 + 1) (clC z4) 47) := Lib.hid (by
    have := Blk.new ((w.alloc (.cells (snapC A B C ca cb cc ns ps os) 26)).alloc (.cells #[.int .i64 kd, .int .i64 pd, .int .i64 nd] 70)) (clC z4) 47
    rw [World.size_alloc, World.size_alloc] at this
    exact this)
  have H := Lib.hid h
  have HP := Lib.hid hp
  have KA := Lib.hid (apply7_any A B C P ca cb cc cp ns ps os p kd pd nd _ (h.below B0.out) (hp.below B0.out))
  have KW := Lib.hid (fun (W' : World) (hb : Below w.heap.size w W') (q : List Int) (Q : Option Addr) (cq : Nat) (hq : IntsAt W' Q cq q) => worse9_any A B C P Q ca cb cc cp cq ns ps os p q (hfew p) (hfew q) W' (h.below hb) (hp.below hb) hq)
  have HOK := Lib.hid (fun h => @apply_ok ns ps os p kd pd nd h)
  have HT : Hid (stepF ns ps os p (kd, pd, nd) = if (applyF ns ps os p kd pd nd).2 ≠ 0 then ([], z4, (applyF ns ps os p kd pd nd).2)
    else if kd = 2 ∧ cordB ns nd.toNat = true then ([], z4, 100)
    else match worseU ns ps os p (applyF ns ps os p kd pd nd).1 with
      | c :: _ => ([], c, 100)
      | [] => ((applyF ns ps os p kd pd nd).1, z4, 0)) := Lib.hid (by
    unfold stepF tryF
    dsimp only
    split
    · rfl
    · split
      · rfl
      · cases worseU ns ps os p (applyF ns ps os p kd pd nd).1 <;> rfl)
  generalize stepF ns ps os p (kd, pd, nd) = R at HT ⊢
  generalize applyF ns ps os p kd pd nd = F at KA HOK HT
  obtain ⟨q, eq⟩ := F
  dsimp only at KA HOK HT
  clear h hp
  go_enter Tryz.func36, Tryz.ntmps36
  go_upto_region 1 with fail
  try change Code.wp _ _ _ _ (((w.alloc (.cells (snapC A B C ca cb cc ns ps os) 26)).alloc (.cells #[.int .i64 kd, .int .i64 pd, .int .i64 nd] 70)).alloc (.cells (clC z4) 47))
  generalize (((w.alloc (.cells (snapC A B C ca cb cc ns ps os) 26)).alloc (.cells #[.int .i64 kd, .int .i64 pd, .int .i64 nd] 70)).alloc (.cells (clC z4) 47)) = W at B0 Z0 S0 C0 KA ⊢
  have HC := Lib.hid (fun W' (hb : Below W.heap.size W W') => (show W'.cell? ⟨w.heap.size, 0, none⟩ = some (.slice A ns.length ca) ∧ W'.cell? ⟨w.heap.size, 1, none⟩ = some (.slice B ps.length cb) ∧ W'.cell? ⟨w.heap.size, 2, none⟩ = some (.slice C os.length cc) ∧ W'.cell? ⟨w.heap.size + 1, 0, none⟩ = some (.int .i64 kd) ∧ W'.cell? ⟨w.heap.size + 1, 1, none⟩ = some (.int .i64 pd) ∧ W'.cell? ⟨w.heap.size + 1, 2, none⟩ = some (.int .i64 nd) from ⟨Blk.cell (Z0.out.below hb Z0.out.lt) 0, Blk.cell (Z0.out.below hb Z0.out.lt) 1, Blk.cell (Z0.out.below hb Z0.out.lt) 2, Blk.cell (S0.out.below hb S0.out.lt) 0, Blk.cell (S0.out.below hb S0.out.lt) 1, Blk.cell (S0.out.below hb S0.out.lt) 2⟩))
  have HCl := Lib.hid (fun W' (hb : Below W.heap.size W W') => C0.out.below hb C0.out.lt)
  obtain ⟨z0, z1, z2, s0, s1, s2⟩ := HC.out _ (Below.refl _ W)
  go_wp2_with fail
  refine (KA.out).mono ?_
  rintro e w1 ⟨v, rfl, ho, hb⟩
  obtain ⟨Q, cq, rfl, _⟩ := La.own_slice ho
  have HB := Lib.hid (show Below W.heap.size W w1 from hb)
  have B1 := Lib.hid (B0.out.trans (hb.mono B0.out.size))
  have IQ := Lib.hid (IntsAt.own ho)
  have OQ := Lib.hid (own_base ho B0.out.size)
  have C1 := Lib.hid (HCl.out _ HB.out)
  clear ho hb KA z0 z1 z2 s0 s1 s2
  obtain ⟨z0, z1, z2, s0, s1, s2⟩ := HC.out _ HB.out
  by_cases hE : eq = 0
  case neg =>
    have hne : (eq != 0) = true := by simpa using hE
    have hR := HT.out
    rw [if_pos hE] at hR
    have HR := Lib.hid hR
    obtain ⟨⟨y0, y1, y2, y3⟩, g0, g1, g2, g3⟩ := cells_of4 C1.out
    have C4 := Lib.hid (blk4 C1.out z4)
    have B4 := Lib.hid (below4 B1.out (show w.heap.size ≤ w.heap.size + 1 + 1 by omega) z4)
    clear hE HT HOK hR
    go_wp2
    refine bodyPost_mid Tryz.results36 (w.heap.size + 1 + 1) _ _ _ _ (.slice none 0 0) (.int .i64 eq) (by rfl) (by rfl) (by rfl) (by rfl) C4.out Tryz.underlying47 rfl (by kernel_rfl) ?_
    rw [HR.out]
    exact ⟨_, rfl, World.ownsRow_nil _ _ _ _, B4.out⟩
  subst hE
  obtain ⟨hEp, hEq, hrange⟩ := HOK.out rfl
  have HR0 := HT.out
  rw [if_neg (by simp)] at HR0
  have HR := Lib.hid HR0
  clear HT HOK HR0
  have fin : ∀ (_ : ¬ (kd = 2 ∧ cordB ns nd.toNat = true)) , Hid (R = match worseU ns ps os p q with
      | c :: _ => ([], c, 100)
      | [] => (q, z4, 0)) := fun h => Lib.hid (by rw [HR.out, if_neg h])
  have KW1 := Lib.hid (KW.out _ B1.out q Q cq IQ.out)
  have hwF : worseF ns ps os p q = worseU ns ps os p q := by
    unfold worseF
    rw [if_pos hEp]
  rw [hwF] at KW1
  generalize worseE ns ps os p q = e9 at KW1
  generalize worseU ns ps os p q = L at KW1 fin
  clear hwF KW hEp hEq hfew
  go_upto_region 4 with fail
  by_cases h2 : kd = 2
  case neg =>
    have h2b : (kd == 2) = false := by simpa using h2
    have h2d : decide (kd = 2) = false := decide_eq_false h2
    have HF := fin (fun h => h2 h.1)
    go_wp2_with fail
    refine (KW1.out).mono ?_
    rintro e w2 ⟨vl, rfl, hol, hb2⟩
    obtain ⟨Gl, cl, rfl, _⟩ := La.own_slice hol
    have TL := Lib.hid (La.own_slat hol)
    have OQ2 := Lib.hid (La.own_below OQ.out hb2)
    have B2 := Lib.hid (B1.out.trans (hb2.mono B1.out.size))
    have C2 := Lib.hid (C1.out.below hb2 C1.out.lt)
    clear hol hb2 KW1 z0 z1 z2 s0 s1 s2 fin
    obtain ⟨⟨y0, y1, y2, y3⟩, g0, g1, g2, g3⟩ := cells_of4 C2.out
    cases L with
    | nil =>
      have hR := HF.out
      have C4 := Lib.hid (blk4 C2.out z4)
      have B4 := Lib.hid (below4 B2.out (show w.heap.size ≤ w.heap.size + 1 + 1 by omega) z4)
      have O4 := Lib.hid (own4 OQ2.out C2.out z4)
      clear HF HR
      go_wp2
      refine bodyPost_mid Tryz.results36 (w.heap.size + 1 + 1) _ _ _ _ (.slice Q q.length cq) (.int .i64 0) (by rfl) (by rfl) (by rfl) (by rfl) C4.out Tryz.underlying47 rfl (by kernel_rfl) ?_
      rw [hR]
      exact ⟨_, rfl, O4.out, B4.out⟩
    | cons c t =>
      have hR := HF.out
      obtain ⟨gy, oy, hGy, hbl, c0, c1, c2, c3⟩ := atC TL.out (k := 0) (x := c) rfl
      subst hGy
      simp only [Nat.zero_mul, Nat.add_zero] at c0 c1 c2 c3
      have hl1 : (0 : Int) < (((c :: t).length : Nat) : Int) := by rw [List.length_cons]; omega
      have hl2 : decide ((0 : Int) < (((c :: t).length : Nat) : Int)) = true := decide_eq_true hl1
      generalize (c :: t).length = n9 at hl1 hl2 ⊢
      have hl3 : 0 < n9 := by omega
      have hl4 : decide (0 < n9) = true := decide_eq_true hl3
      clear HF HR
      go_upto_region 8 with fail
      have C4 := Lib.hid (blk4 C2.out c)
      have C4d := Lib.hid (Blk.drew C4.out)
      have B4 := Lib.hid (below4 B2.out (show w.heap.size ≤ w.heap.size + 1 + 1 by omega) c)
      go_region
      all_goals
        (try go_wp2)
        refine bodyPost_mid Tryz.results36 (w.heap.size + 1 + 1) _ _ _ _ (.slice none 0 0) (.int .i64 100) (by rfl) (by rfl) (by rfl) (by rfl) (by first | exact C4.out | exact C4d.out) Tryz.underlying47 rfl (by kernel_rfl) ?_
        rw [hR]
        exact ⟨_, rfl, World.ownsRow_nil _ _ _ _, by first | exact B4.out | exact B4.out.drew | exact below_drewN B4.out _⟩
  subst h2
  obtain ⟨hn0, hn1⟩ := hrange rfl
  obtain ⟨nn, rfl⟩ := Int.eq_ofNat_of_zero_le hn0
  have hnl : nn < ns.length := by omega
  obtain ⟨x, hx⟩ : ∃ x, ns[nn]? = some x := ⟨ns[nn], List.getElem?_eq_getElem hnl⟩
  obtain ⟨bn, on, hAn, hbn, _, _, _, _, _, _, _, _, d8, _⟩ := atN (H.out.below B1.out).n.cells hx
  subst hAn
  have hcB : cordB ns (nn : Int).toNat = x.cordon := by
    unfold cordB
    rw [Int.toNat_natCast, hx]
  have HCB := Lib.hid hcB
  clear hcB hx hrange
  cases hcd : x.cordon with
  | true =>
    have hR := HR.out
    rw [if_pos ⟨rfl, by rw [HCB.out, hcd]⟩] at hR
    rw [hcd] at d8
    have HR2 := Lib.hid hR
    obtain ⟨⟨y0, y1, y2, y3⟩, g0, g1, g2, g3⟩ := cells_of4 C1.out
    have C4 := Lib.hid (blk4 C1.out z4)
    have B4 := Lib.hid (below4 B1.out (show w.heap.size ≤ w.heap.size + 1 + 1 by omega) z4)
    clear hR HR fin KW1 hcd HCB
    go_wp2
    refine bodyPost_mid Tryz.results36 (w.heap.size + 1 + 1) _ _ _ _ (.slice none 0 0) (.int .i64 100) (by rfl) (by rfl) (by rfl) (by rfl) C4.out Tryz.underlying47 rfl (by kernel_rfl) ?_
    rw [HR2.out]
    exact ⟨_, rfl, World.ownsRow_nil _ _ _ _, B4.out⟩
  | false =>
    rw [hcd] at d8
    have hcn : ¬ ((2 : Int) = 2 ∧ cordB ns (nn : Int).toNat = true) := fun h => by
      have := h.2
      rw [HCB.out, hcd] at this
      cases this
    have HCN := Lib.hid hcn
    clear hcd HCB hcn
    have HF := fin (HCN.out)
    go_wp2_with fail
    refine (KW1.out).mono ?_
    rintro e w2 ⟨vl, rfl, hol, hb2⟩
    obtain ⟨Gl, cl, rfl, _⟩ := La.own_slice hol
    have TL := Lib.hid (La.own_slat hol)
    have OQ2 := Lib.hid (La.own_below OQ.out hb2)
    have B2 := Lib.hid (B1.out.trans (hb2.mono B1.out.size))
    have C2 := Lib.hid (C1.out.below hb2 C1.out.lt)
    clear hol hb2 KW1 z0 z1 z2 s0 s1 s2 fin
    obtain ⟨⟨y0, y1, y2, y3⟩, g0, g1, g2, g3⟩ := cells_of4 C2.out
    cases L with
    | nil =>
      have hR := HF.out
      have C4 := Lib.hid (blk4 C2.out z4)
      have B4 := Lib.hid (below4 B2.out (show w.heap.size ≤ w.heap.size + 1 + 1 by omega) z4)
      have O4 := Lib.hid (own4 OQ2.out C2.out z4)
      clear HF HR
      go_wp2
      refine bodyPost_mid Tryz.results36 (w.heap.size + 1 + 1) _ _ _ _ (.slice Q q.length cq) (.int .i64 0) (by rfl) (by rfl) (by rfl) (by rfl) C4.out Tryz.underlying47 rfl (by kernel_rfl) ?_
      rw [hR]
      exact ⟨_, rfl, O4.out, B4.out⟩
    | cons c t =>
      have hR := HF.out
      obtain ⟨gy, oy, hGy, hbl, c0, c1, c2, c3⟩ := atC TL.out (k := 0) (x := c) rfl
      subst hGy
      simp only [Nat.zero_mul, Nat.add_zero] at c0 c1 c2 c3
      have hl1 : (0 : Int) < (((c :: t).length : Nat) : Int) := by rw [List.length_cons]; omega
      have hl2 : decide ((0 : Int) < (((c :: t).length : Nat) : Int)) = true := decide_eq_true hl1
      generalize (c :: t).length = n9 at hl1 hl2 ⊢
      have hl3 : 0 < n9 := by omega
      have hl4 : decide (0 < n9) = true := decide_eq_true hl3
      clear HF HR
      go_upto_region 8 with fail
      have C4 := Lib.hid (blk4 C2.out c)
      have C4d := Lib.hid (Blk.drew C4.out)
      have B4 := Lib.hid (below4 B2.out (show w.heap.size ≤ w.heap.size + 1 + 1 by omega) c)
      go_region
      all_goals
        (try go_wp2)
        refine bodyPost_mid Tryz.results36 (w.heap.size + 1 + 1) _ _ _ _ (.slice none 0 0) (.int .i64 100) (by rfl) (by rfl) (by rfl) (by rfl) (by first | exact C4.out | exact C4d.out) Tryz.underlying47 rfl (by kernel_rfl) ?_
        rw [hR]
        exact ⟨_, rfl, World.ownsRow_nil _ _ _ _, by first | exact B4.out | exact B4.out.drew | exact below_drewN B4.out _⟩

set_option maxRecDepth 100000 in
set_option maxHeartbeats 2000000 in
theorem may10_any (A B C P : Option Addr) (ca cb cc cp : Nat) (ns : List NodeD) (ps : List PodD) (os : List OwnD) (p : List Int) (kd pd nd : Int) (hfew : ∀ p', (all8 ns ps os p').length ≤ 1000) (w : World) (h : SnapAt w A B C ca cb cc ns ps os) (hp : IntsAt w P cp p) :
    Calls Tryz.prog 38 #[snapV A B C ca cb cc ns ps os, .slice P p.length cp, stepV kd pd nd] w fun e w' => e = .returned (.bool (mayB ns ps os p (kd, pd, nd))) ∧ Below w.heap.size w w' := by
  have B0 : Hid (Below w.heap.size w ((w.alloc (.cells (snapC A B C ca cb cc ns ps os) 26)).alloc (.cells #[.int .i64 kd, .int .i64 pd, .int .i64 nd] 70))) := Lib.hid (Qu.below2 w _ _)
  have Z0 : Hid (Blk ((w.alloc (.cells (snapC A B C ca cb cc ns ps os) 26)).alloc (.cells #[.int .i64 kd, .int .i64 pd, .int .i64 nd] 70)) w.heap.size (snapC A B C ca cb cc ns ps os) 26) := Lib.hid (Blk.alloc (Blk.new w _ _) _)
  have S0 : Hid (Blk ((w.alloc (.cells (snapC A B C ca cb cc ns ps os) 26)).alloc (.cells #[.int .i64 kd, .int .i64 pd, .int .i64 nd] 70)) (w.heap.size + 1) #[.int .i64 kd, .int .i64 pd, .int .i64 nd] 70) := Lib.hid (blk2 w _ _ _)
  have KT := Lib.hid (step10_any A B C P ca cb cc cp ns ps os p kd pd nd hfew _ (h.below B0.out) (hp.below B0.out))
  have HS : Hid (mayB ns ps os p (kd, pd, nd) = decide ((stepF ns ps os p (kd, pd, nd)).2.2 = 0)) := Lib.hid rfl
  generalize mayB ns ps os p (kd, pd, nd) = R at HS ⊢
  generalize stepF ns ps os p (kd, pd, nd) = T at KT HS
  obtain ⟨q, c, x⟩ := T
  dsimp only at KT HS
  clear h hp
  go_enter Tryz.func38, Tryz.ntmps38
  go_upto_region 1 with fail
  try change Code.wp _ _ _ _ ((w.alloc (.cells (snapC A B C ca cb cc ns ps os) 26)).alloc (.cells #[.int .i64 kd, .int .i64 pd, .int .i64 nd] 70))
  generalize ((w.alloc (.cells (snapC A B C ca cb cc ns ps os) 26)).alloc (.cells #[.int .i64 kd, .int .i64 pd, .int .i64 nd] 70)) = W at B0 Z0 S0 KT ⊢
  have z0 : W.cell? ⟨w.heap.size, 0, none⟩ = some (.slice A ns.length ca) := Blk.cell Z0.out 0
  have z1 : W.cell? ⟨w.heap.size, 1, none⟩ = some (.slice B ps.length cb) := Blk.cell Z0.out 1
  have z2 : W.cell? ⟨w.heap.size, 2, none⟩ = some (.slice C os.length cc) := Blk.cell Z0.out 2
  have s0 : W.cell? ⟨w.heap.size + 1, 0, none⟩ = some (.int .i64 kd) := Blk.cell S0.out 0
  have s1 : W.cell? ⟨w.heap.size + 1, 1, none⟩ = some (.int .i64 pd) := Blk.cell S0.out 1
  have s2 : W.cell? ⟨w.heap.size + 1, 2, none⟩ = some (.int .i64 nd) := Blk.cell S0.out 2
  go_wp2_with fail
  refine (KT.out).mono ?_
  rintro e w1 ⟨v, rfl, ho, hb⟩
  have B1 := Lib.hid (B0.out.trans (hb.mono B0.out.size))
  have B3 := Lib.hid (B1.out.alloc B1.out.size (.cells (clC c) 47))
  clear ho hb KT z0 z1 z2 s0 s1 s2 Z0 S0 B0
  by_cases hx : x = 0
  · have hR : R = true := by rw [HS.out]; exact decide_eq_true hx
    clear HS
    subst hx hR
    go_wp2
    go_ret
    exact ⟨rfl, B3.out⟩
  · have hR : R = false := by rw [HS.out]; exact decide_eq_false hx
    have h1 : (x == 0) = false := by simpa using hx
    have h2 : decide (x = 0) = false := decide_eq_false hx
    clear HS hx
    subst hR
    go_wp2
    go_ret
    exact ⟨rfl, B3.out⟩
end Go.Proofs.YtpdaohkpgconkaaGreat

namespace Go.Proofs.YtpdaohkpgconkaaGreat
open Go.ChangeShapes Go.WideShapes Go.ChangeAt Go.RowKit Go.Deep

abbrev S3T := Int × Int × Int
def cells3 (l : List S3T) : List Value := l.flatMap fun x => [.int .i64 x.1, .int .i64 x.2.1, .int .i64 x.2.2]
theorem cells3_at : ∀ (l : List S3T) (k : Nat) (x : S3T), l[k]? = some x → (cells3 l)[k * 3]? = some (.int .i64 x.1) ∧ (cells3 l)[k * 3 + 1]? = some (.int .i64 x.2.1) ∧ (cells3 l)[k * 3 + 2]? = some (.int .i64 x.2.2)
  | [], k, x, h => by simp at h
  | y :: t, 0, x, h => by
    simp only [List.getElem?_cons_zero, Option.some.injEq] at h
    subst h
    exact ⟨rfl, rfl, rfl⟩
  | y :: t, k + 1, x, h => by
    obtain ⟨h0, h1, h2⟩ := cells3_at t k x (by simpa using h)
    have e : cells3 (y :: t) = [.int .i64 y.1, .int .i64 y.2.1, .int .i64 y.2.2] ++ cells3 t := rfl
    rw [e]
    refine ⟨?_, ?_, ?_⟩
    · rw [List.getElem?_append_right (by simp; omega), ← h0]; congr 1; simp; omega
    · rw [List.getElem?_append_right (by simp; omega), ← h1]; congr 1; simp; omega
    · rw [List.getElem?_append_right (by simp; omega), ← h2]; congr 1; simp; omega
theorem atSt {w : World} {A : Option Addr} {l : List S3T} (h : La.SlAt w A (cells3 l)) {k : Nat} {x : S3T} (hk : l[k]? = some x) :
    ∃ b o, A = some ⟨b, o, none⟩ ∧ b < w.heap.size ∧ w.cell? ⟨b, o + k * 3, none⟩ = some (.int .i64 x.1) ∧ w.cell? ⟨b, o + k * 3 + 1, none⟩ = some (.int .i64 x.2.1) ∧ w.cell? ⟨b, o + k * 3 + 2, none⟩ = some (.int .i64 x.2.2) := by
  obtain ⟨h0, h1, h2⟩ := cells3_at l k x hk
  obtain ⟨b, o, hA, hc⟩ := h _ _ h0
  obtain ⟨b', o', hA', hc'⟩ := h _ _ h1
  rw [hA] at hA'
  cases hA'
  obtain ⟨b', o', hA', hc''⟩ := h _ _ h2
  rw [hA] at hA'
  cases hA'
  exact ⟨b, o, hA, World.block_lt_of_cell? w _ hc, hc, by rw [Nat.add_assoc]; exact hc', by rw [Nat.add_assoc]; exact hc''⟩

theorem kcStep : Tryz.prog.cellsOf 70 = 3 := by kernel_rfl
section
variable {H : Type} {enc : TypeId × Value → H} {W : World} {held : Bool}
set_option maxRecDepth 100000 in
theorem step_row (n : Nat) (cs : List Value) (x : DataW H × List MemPlace) (h : DataW.trod enc Tryz.prog W 0 (fun _ => true) held n 70 cs = some x) : ∃ y : S3T, cs = [.int .i64 y.1, .int .i64 y.2.1, .int .i64 y.2.2] := by
  obtain ⟨xs, m, _, _, hl, hxl, hf⟩ := DataW.trod_struct Tryz.underlying70 h
  rw [kcStep] at hl
  match cs, hl, xs, hxl with
  | [c0, c1, c2], _, [y0, y1, y2], _ =>
    have h0 : DataW.trod enc Tryz.prog W 0 (fun _ => true) held m 3 ((([c0, c1, c2] : List Value).drop 0).take (Tryz.prog.cellsOf 3)) = some y0 := hf 0 _ rfl
    have h1 : DataW.trod enc Tryz.prog W 0 (fun _ => true) held m 3 ((([c0, c1, c2] : List Value).drop 1).take (Tryz.prog.cellsOf 3)) = some y1 := hf 1 _ rfl
    have h2 : DataW.trod enc Tryz.prog W 0 (fun _ => true) held m 3 ((([c0, c1, c2] : List Value).drop 2).take (Tryz.prog.cellsOf 3)) = some y2 := hf 2 _ rfl
    rw [kcInt] at h0 h1 h2
    obtain ⟨i0, e0⟩ := int_one (enc := enc) (W := W) (held := held) (n := m) (c := c0) (x := y0) h0
    obtain ⟨i1, e1⟩ := int_one (enc := enc) (W := W) (held := held) (n := m) (c := c1) (x := y1) h1
    obtain ⟨i2, e2⟩ := int_one (enc := enc) (W := W) (held := held) (n := m) (c := c2) (x := y2) h2
    exact ⟨(i0, i1, i2), by rw [e0, e1, e2]⟩
end
set_option maxRecDepth 100000 in
theorem open_steps {H : Type} {enc : TypeId × Value → H} {W : World} {r : Reach} {b0 : Nat} {held : Bool} {v : Value} {d : DataW H} {p : List MemPlace}
    (hv : Value.okWide Tryz.prog W r b0 74 v) (h : DataW.Trod enc Tryz.prog W 0 (fun _ => true) held 74 v d p) :
    ∃ A c l, v = .slice A (List.length l) c ∧ La.SlAt W A (cells3 l) ∧ l.length ≤ 9223372036854775807 := by
  obtain ⟨a0, len, cap, rfl⟩ := okWide_slice Tryz.underlying74 hv
  obtain ⟨fuel, hf⟩ := h
  have hf' : DataW.trod enc Tryz.prog W 0 (fun _ => true) held fuel 74 [.slice a0 len cap] = some _ := hf
  obtain ⟨A, c, l, e, hs, h1, h2, _⟩ := slice_cells (T := S3T) (fun y => [.int .i64 y.1, .int .i64 y.2.1, .int .i64 y.2.2]) 3 (fun _ => True) Tryz.underlying74 kcStep (by omega) (fun _ => rfl) (fun n cs x h => by
    obtain ⟨y, e⟩ := step_row n cs x h
    exact ⟨y, e, trivial⟩) hf'
  simp only [List.cons.injEq, and_true] at e
  exact ⟨A, c, l, e, hs, Nat.le_trans h1 (kmax h2)⟩
set_option maxRecDepth 100000 in
theorem open_step {H : Type} {enc : TypeId × Value → H} {W : World} {r : Reach} {b0 : Nat} {held : Bool} {v : Value} {d : DataW H} {p : List MemPlace}
    (hv : Value.okWide Tryz.prog W r b0 70 v) (h : DataW.Trod enc Tryz.prog W 0 (fun _ => true) held 70 v d p) :
    ∃ x : S3T, v = stepV x.1 x.2.1 x.2.2 := by
  simp only [Value.okWide, Tryz.underlying70] at hv
  obtain ⟨cs, rfl, _, _⟩ := hv
  obtain ⟨fuel, hf⟩ := h
  obtain ⟨x, e⟩ := step_row _ _ _ hf
  refine ⟨x, ?_⟩
  have e2 : cs.toList = [.int .i64 x.1, .int .i64 x.2.1, .int .i64 x.2.2] := e
  show Value.agg cs = .agg #[.int .i64 x.1, .int .i64 x.2.1, .int .i64 x.2.2]
  congr 1
  apply Array.ext'
  rw [e2]
end Go.Proofs.YtpdaohkpgconkaaGreat
