/- Of each domain how many of an owner's pods are in it: the contract of Spread. Condition: the cluster and the numbers lie in memory. What the plain functions tell of the chapter's cluster. No conditions. Two lists of texts held against each other. Condition: they lie in memory. Two rows that are alike are equal. No conditions. The chapter's examples hold. No conditions. From what a law's walk gives to the law's row, where no variable is listed: the arguments read as they did, nothing that was there has turned. No conditions of its own. What may not be, is refused; both ends: the walk of the closed law. No conditions. An argument that is a cluster, opened: what stands in memory. No conditions of its own. A cluster of which the first 12 nodes, 30 pods, 12 owners are looked at. Condition: it lies in memory. What Bring answers: a number brought between 0 and another one, as the rest of the division is. Condition: that one is above 0. -/
import Derived.Test.YtoankplhahbgkaaGreatC06
import Derived.Laws.StructEq
import Derived.Test.YtoankplhahbgkaaGreatRows
import Derived.ProofKit
import Derived.OpenShut
import Derived.Carry
import Derived.LaidSub
import Derived.Deep.DeepHandedRow
import Derived.Deep.Slices
import Derived.StillTailTactics

namespace Go.Proofs.YtoankplhahbgkaaGreat
open Go.RowKit Go.Shelf Go.Maps Go.Sort
attribute [local go_sem] Oper.semAt_some

/-- The number that a datum is. -/
def numD (D : DataW Unit) : Int := match D with
  | .lit (.int _ c) => c
  | _ => 0
/-- One more at a key. -/
def bumpD (D : DataW Unit) (v : List UInt8) : DataW Unit := D.put (.string v) (.lit (.int .i64 (wrap64 (numD (D.atKey (.string v) (.lit (.int .i64 0))) + 1))))
/-- One pod more. -/
def spreadS (ns : List NodeD) (key : List UInt8) (p : List Int) (D : DataW Unit) (y : Nat) : DataW Unit := match p[y]? with
  | some x => match domF ns x key with
    | some v => bumpD D v
    | none => D
  | none => D
def spreadD (ns : List NodeD) (key : List UInt8) (p : List Int) (ys : List Nat) : DataW Unit := ys.foldl (spreadS ns key p) (emptyD ns key)
theorem spreadD_snoc (ns : List NodeD) (key : List UInt8) (p : List Int) (ys : List Nat) (m : Nat) (x : Int) (hx : p[m]? = some x) : spreadD ns key p (ys ++ [m]) = match domF ns x key with
    | some v => bumpD (spreadD ns key p ys) v
    | none => spreadD ns key p ys := by
  unfold spreadD
  rw [List.foldl_append]
  show spreadS ns key p _ m = _
  unfold spreadS
  rw [hx]
/-- The numbers of a map at its keys, sorted. -/
def rowD (D : DataW Unit) : List Int := (sortK D).map fun v => numD (D.atKey (.string v) (.lit (.int .i64 0)))
/-- What Spread tells. -/
def spreadF (ns : List NodeD) (ps : List PodD) (os : List OwnD) (p : List Int) (k : Int) : List Int := if ownerB ns ps os p k then (match os[k.toNat]? with
  | some x => rowD (spreadD ns x.topo p (offL p (membersF ps x.name)))
  | none => []) else []

theorem own_other {w w' : World} {base : Nat} {e : TypeId} {sz n : Nat} {v : Value} {xs : List Value} (ho : w.ownsRow base e sz v n xs) (hg : w.grownBy w' v.ownBlock) {j : Nat} {o : Obj} (hj : w.heap[j]? = some o) (hne : ∀ cs, o ≠ .cells cs e (0, 0)) : w'.heap[j]? = some o := by
  refine (hg.block j (Array.getElem?_eq_some_iff.1 hj).1 ?_).trans hj
  rcases ho.2 with ⟨rfl, _⟩ | ⟨g, cap, cur, rfl, _, hgb, _⟩
  · intro e'; cases e'
  · intro e'
    simp only [Value.ownBlock, Option.some.injEq] at e'
    subst e'
    rw [hgb] at hj
    cases hj
    exact hne cur rfl
theorem own_below2 {w w' : World} {base : Nat} {e : TypeId} {size n : Nat} {v : Value} {xs : List Value} (h : w.ownsRow base e size v n xs) (hb : RowKit.Below w.heap.size w w') : w'.ownsRow base e size v n xs := own_nc h (grown_of_below hb none) (fun r e => by cases e)
theorem own_ownsMap {w w' : World} {base : Nat} {e : TypeId} {sz n : Nat} {v : Value} {xs : List Value} (ho : w.ownsRow base e sz v n xs) (hg : w.grownBy w' v.ownBlock) {P : Program} {k : TypeId} {R : Value → Option (DataW Unit × List MemPlace)} {b m : Nat} {D : DataW Unit} (h : w.ownsMap P k R b m D) : w'.ownsMap P k R b m D := by
  obtain ⟨es, clock, hb, F, hs, hD⟩ := h
  exact ⟨es, clock, own_other ho hg hb (fun cs e' => by cases e'), F, hs, hD⟩
theorem own_own {w w' : World} {base base' : Nat} {e e' : TypeId} {sz n sz' n' : Nat} {v v' : Value} {xs xs' : List Value} (ho : w.ownsRow base e sz v n xs) (hg : w.grownBy w' v.ownBlock) (hne : e' ≠ e) (h : w.ownsRow base' e' sz' v' n' xs') : w'.ownsRow base' e' sz' v' n' xs' := by
  obtain ⟨hl, h1 | ⟨g, cap, cur, hv, hb, hg', r⟩⟩ := h
  · exact ⟨hl, .inl h1⟩
  · exact ⟨hl, .inr ⟨g, cap, cur, hv, hb, own_other ho hg hg' (fun cs q => by cases q; exact hne rfl), r⟩⟩
theorem run_ints0 (w : World) (n : Nat) (hn : n ≤ 1000000) : (Instr.makeSlice 27 (.int .i64 0) (.int .i64 (n : Int))).run Tryz.prog w = .ok (.slice (some ⟨w.heap.size, 0, none⟩) 0 n) (w.alloc (.cells (madeCells #[.int .i64 0] n) 3)) := by
  cases hi : Tryz.prog.info? 3 with
  | none => have h := int_infoK; rw [hi] at h; cases h
  | some i =>
    have h := int_infoK
    rw [hi] at h
    simp only [Option.map_some, Option.some.injEq, Prod.mk.injEq] at h
    obtain ⟨h0, h1, h2⟩ := h
    have k := run_make (P := Tryz.prog) w 27 3 i (.int .i64 0) Tryz.underlying27 hi h0 .i64 .i64 0 n (by omega) (by omega) (by rw [h2]; omega) (by omega)
    simpa [h1, Value.cells] using k
theorem own_made0 (w : World) (n base : Nat) (hn : n ≤ 1000000) (hb : base ≤ w.heap.size) : (w.alloc (.cells (madeCells #[.int .i64 0] n) 3)).ownsRow base 3 1 (.slice (some ⟨w.heap.size, 0, none⟩) 0 n) 0 [] :=
  ⟨rfl, .inr ⟨w.heap.size, n, madeCells #[.int .i64 0] n, rfl, hb, heap_alloc_new _ _, Nat.zero_le _, by unfold maxLen; omega, by rw [size_madeCells, Nat.mul_one], by simp⟩⟩
theorem keepsFrom_below {B : Nat} {W W' : World} (h : Below W.heap.size W W') : KeepsFrom B W W' := ⟨h.size, fun k _ _ hk _ => (h.block k (Array.getElem?_eq_some_iff.1 hk).1).trans hk⟩
theorem numD_lit {q : IntKind} {c : Int} {D : DataW Unit} (h : D = .lit (.int q c)) : numD D = c := by rw [h]; rfl

set_option maxRecDepth 100000 in
set_option maxHeartbeats 4000000 in
theorem spread_any (A B C P : Option Addr) (ca cb cc cp : Nat) (ns : List NodeD) (ps : List PodD) (os : List OwnD) (p : List Int) (ko : Int) (w : World) (h : SnapAt w A B C ca cb cc ns ps os) (hp : IntsAt w P cp p) :
    Calls Tryz.prog 25 #[snapV A B C ca cb cc ns ps os, .slice P p.length cp, .int .i64 ko] w fun e w' => ∃ v, e = .returned v ∧ w'.ownsRow w.heap.size 3 1 v (spreadF ns ps os p ko).length (intsC (spreadF ns ps os p ko)) ∧ Below w.heap.size w w' := by
  have hlp := Lib.hid h.lp
  have hln := Lib.hid h.ln
  have H := Lib.hid h
  have HP := Lib.hid hp
  have B0 : Hid (Below w.heap.size w ((w.alloc (.cells (snapC A B C ca cb cc ns ps os) 26)).alloc (.cells #[.slice P p.length cp] 27))) := Lib.hid (Qu.below2 w _ _)
  have S0 : Hid (Blk ((w.alloc (.cells (snapC A B C ca cb cc ns ps os) 26)).alloc (.cells #[.slice P p.length cp] 27)) w.heap.size (snapC A B C ca cb cc ns ps os) 26) := Lib.hid (Blk.alloc (Blk.new w _ _) _)
  have T0 : Hid (Blk ((w.alloc (.cells (snapC A B C ca cb cc ns ps os) 26)).alloc (.cells #[.slice P p.length cp] 27)) (w.heap.size + 1) #[.slice P p.length cp] 27) := Lib.hid (blk2 w _ _ _)
  have KC := Lib.hid ((callsIn_wide (n := 7)).2 (isOwner_any A B C P ca cb cc cp ns ps os p ko _ (h.below B0.out) (hp.below B0.out)))
  have hl0 := Blk.lt T0.out
  have E : Hid (spreadF ns ps os p ko = if ownerB ns ps os p ko then (match os[ko.toNat]? with
    | some x => rowD (spreadD ns x.topo p (offL p (membersF ps x.name)))
    | none => []) else []) := Lib.hid rfl
  have HOB := Lib.hid (fun h => @ownerB_parts ns ps os p ko h)
  generalize spreadF ns ps os p ko = R at E ⊢
  generalize ownerB ns ps os p ko = ob at KC E HOB
  clear h hp
  refine (callsIn_wide (n := 8)).1 ?_
  refine callsIn_of_wp_marks Tryz.func25 rfl trivial ?_ rfl
  simp only [Tryz.ntmps25, List.size_toArray, List.length_cons, List.length_nil, Nat.reduceAdd, Nat.reduceSub, Array.replicate_succ, Array.replicate_zero, List.push_toArray, List.append_toArray, List.nil_append, List.cons_append]
  gi_wp2_with fail
  refine ⟨trivial, ?_⟩
  refine (KC.out).mono ?_
  rintro e w1 ⟨rfl, hb⟩
  clear KC
  have S1 := Lib.hid (S0.out.below hb (by omega))
  have T1 := Lib.hid (T0.out.below hb (by omega))
  have B1 := Lib.hid (B0.out.trans (hb.mono (by omega)))
  have hl1 : Hid (w.heap.size + 1 < w1.heap.size) := Lib.hid T1.out.lt
  clear hb S0 T0 B0 hl0
  cases ob
  · have HE : Hid (R = []) := Lib.hid (by rw [E.out]; rfl)
    gi_wp2
    refine ⟨_, results_tmp rfl _ _ _, ?_⟩
    rw [HE.out]
    exact ⟨_, rfl, World.ownsRow_nil _ _ _ _, B1.out⟩
  obtain ⟨hE0, n, xo, rfl, hxo⟩ := HOB.out rfl
  have hpl := Lib.hid (placeE_len hE0)
  have HSH : Hid (Short ns) := Lib.hid (by
    refine short_of (ps := ps) (os := os) ?_
    unfold placeE at hE0
    split at hE0
    · assumption
    · rename_i hne
      exact absurd hE0 hne)
  have HX := Lib.hid hxo
  clear HOB hE0
  have HE : Hid (R = rowD (spreadD ns xo.topo p (offL p (membersF ps xo.name)))) := Lib.hid (by rw [E.out, if_pos rfl, Int.toNat_natCast, HX.out])
  clear E
  have hno : n < os.length := (List.getElem?_eq_some_iff.1 hxo).1
  have n0 : (0 : Int) ≤ (n : Int) := by omega
  have n1 : (n : Int) < (os.length : Int) := by omega
  obtain ⟨bo, oo, hC, hbo, d0, d1, d2, d3, d4⟩ := atO (H.out.below B1.out).o hxo
  subst hC
  have s2 : w1.cell? ⟨w.heap.size, 2, none⟩ = some (.slice (some ⟨bo, oo, none⟩) os.length cc) := Blk.cell S1.out 2
  -- the key
  have S2 := Lib.hid (Blk.alloc S1.out (.cells #[strV xo.topo] 9))
  have T2 := Lib.hid (Blk.alloc T1.out (.cells #[strV xo.topo] 9))
  have K2 := Lib.hid (Blk.new w1 #[strV xo.topo] 9)
  have B2 := Lib.hid (B1.out.alloc B1.out.size (.cells #[strV xo.topo] 9))
  have KE := Lib.hid ((callsIn_wide (n := 7)).2 (empty_any A B (some ⟨bo, oo, none⟩) ca cb cc ns ps os xo.topo _ (H.out.below B2.out) HSH.out))
  have t0 := Blk.cell S2.out 0
  have t1 := Blk.cell S2.out 1
  have t2 := Blk.cell S2.out 2
  clear hxo d0 d1 d3 d4 hno
  gi_wp2_with fail
  refine ⟨trivial, ?_⟩
  refine (KE.out).mono ?_
  rintro e w2 ⟨rfl, hown, hb⟩
  have hlk := K2.out.lt
  have S3 := Lib.hid (Blk.alloc (S2.out.below hb S2.out.lt) (.cells #[.map (some ((w1.alloc (.cells #[strV xo.topo] 9)).heap.size + 1))] 99))
  have T3 := Lib.hid (Blk.alloc (T2.out.below hb T2.out.lt) (.cells #[.map (some ((w1.alloc (.cells #[strV xo.topo] 9)).heap.size + 1))] 99))
  have K3 := Lib.hid (Blk.alloc (K2.out.below hb hlk) (.cells #[.map (some ((w1.alloc (.cells #[strV xo.topo] 9)).heap.size + 1))] 99))
  have M3 := Lib.hid (hown.alloc (.cells #[.map (some ((w1.alloc (.cells #[strV xo.topo] 9)).heap.size + 1))] 99))
  have Q3 := Lib.hid (Blk.new w2 #[.map (some ((w1.alloc (.cells #[strV xo.topo] 9)).heap.size + 1))] 99)
  have hb2 := B2.out.trans (hb.mono B2.out.size)
  have B3 := Lib.hid (hb2.alloc hb2.size (.cells #[.map (some ((w1.alloc (.cells #[strV xo.topo] 9)).heap.size + 1))] 99))
  have hM2 : Hid ((w1.alloc (.cells #[strV xo.topo] 9)).heap.size + 1 < w2.heap.size) := Lib.hid hown.lt
  clear hb hb2 hown KE t0 t1 t2 s2 d2 hlk S2 T2 K2 B2
  rw [World.size_alloc] at S3 T3 K3 M3 Q3 B3 hM2
  have t0 := Blk.cell S3.out 0
  have t1 := Blk.cell S3.out 1
  have t2 := Blk.cell S3.out 2
  have u0 := Blk.cell T3.out 0
  rw [World.size_alloc]
  gi_wp2_with fail
  refine ⟨trivial, ?_⟩
  refine (of_any _ A B (some ⟨bo, oo, none⟩) P ca cb cc cp ns ps os p.length (n : Int) _).mono ?_
  rintro e w3 ⟨rfl, rfl⟩
  gi_wp2_with fail
  have hsz3 : (w2.alloc (.cells #[.map (some (w1.heap.size + 1 + 1))] 99)).heap.size = w2.heap.size + 1 := by simp
  have KS := Lib.hid (of_at (8 - 1) (by omega) ca cb cc cp [] A B (some ⟨bo, oo, none⟩) P ns ps os p n xo HX.out hpl.out w _ B3.out H.out HP.out (by simp))
  rw [hsz3] at KS
  clear t0 t1 t2 u0
  generalize (w2.alloc (.cells #[.map (some (w1.heap.size + 1 + 1))] 99)) = W3 at S3 T3 K3 M3 Q3 B3 KS hsz3 ⊢
  change Code.wpIn _ _ _ _ _ _ (ofWorld W3 A B (some ⟨bo, oo, none⟩) P ca cb cc cp ns ps os p.length (n : Int))
  have S4 : Hid (Blk (ofWorld W3 A B (some ⟨bo, oo, none⟩) P ca cb cc cp ns ps os p.length (n : Int)) w.heap.size (snapC A B (some ⟨bo, oo, none⟩) ca cb cc ns ps os) 26) := Lib.hid (Blk.alloc (Blk.alloc (Blk.alloc S3.out _) _) _)
  have T4 : Hid (Blk (ofWorld W3 A B (some ⟨bo, oo, none⟩) P ca cb cc cp ns ps os p.length (n : Int)) (w.heap.size + 1) #[.slice P p.length cp] 27) := Lib.hid (Blk.alloc (Blk.alloc (Blk.alloc T3.out _) _) _)
  have K4 : Hid (Blk (ofWorld W3 A B (some ⟨bo, oo, none⟩) P ca cb cc cp ns ps os p.length (n : Int)) w1.heap.size #[strV xo.topo] 9) := Lib.hid (Blk.alloc (Blk.alloc (Blk.alloc K3.out _) _) _)
  have Q4 : Hid (Blk (ofWorld W3 A B (some ⟨bo, oo, none⟩) P ca cb cc cp ns ps os p.length (n : Int)) w2.heap.size #[.map (some (w1.heap.size + 1 + 1))] 99) := Lib.hid (Blk.alloc (Blk.alloc (Blk.alloc Q3.out _) _) _)
  have M4 : Hid ((ofWorld W3 A B (some ⟨bo, oo, none⟩) P ca cb cc cp ns ps os p.length (n : Int)).ownsMap Tryz.prog 9 (plainElem Tryz.prog 3) (w1.heap.size + 1 + 1) ns.length (emptyD ns xo.topo)) := Lib.hid (((M3.out.alloc _).alloc _).alloc _)
  have hsz4 : Hid ((ofWorld W3 A B (some ⟨bo, oo, none⟩) P ca cb cc cp ns ps os p.length (n : Int)).heap.size = w2.heap.size + 4) := Lib.hid (by simp [ofWorld, hsz3])
  have BW : Hid (Below w.heap.size w (ofWorld W3 A B (some ⟨bo, oo, none⟩) P ca cb cc cp ns ps os p.length (n : Int))) := Lib.hid (((B3.out.alloc B3.out.size _).alloc (by have := B3.out.size; simp; omega) _).alloc (by have := B3.out.size; simp; omega) _)
  generalize ofWorld W3 A B (some ⟨bo, oo, none⟩) P ca cb cc cp ns ps os p.length (n : Int) = W0 at S4 T4 K4 Q4 M4 BW KS hsz4 ⊢
  obtain ⟨Mb, hMb⟩ : ∃ Mb, w1.heap.size + 1 + 1 = Mb := ⟨_, rfl⟩
  obtain ⟨Tb, hT⟩ : ∃ Tb, w.heap.size + 1 = Tb := ⟨_, rfl⟩
  rw [hMb] at Q4 M4 hM2 ⊢
  rw [hT] at T4 hl1 ⊢
  have hMb2 : Hid (w1.heap.size < Mb) := Lib.hid (by omega)
  obtain ⟨Kb, hKb⟩ : ∃ Kb, w1.heap.size = Kb := ⟨_, rfl⟩
  obtain ⟨Cb, hCb⟩ : ∃ Cb, w2.heap.size = Cb := ⟨_, rfl⟩
  rw [hKb] at K4 hl1 hMb2 ⊢
  rw [hCb] at Q4 hM2 KS hsz4 ⊢
  have hN : Hid (w.heap.size < Tb ∧ Tb < Kb ∧ Kb < Mb ∧ Mb < Cb) := Lib.hid ⟨by omega, hl1.out, hMb2.out, hM2.out⟩
  clear hMb hT hKb hCb hMb2 hM2 hl1 S1 T1 B1 S3 T3 K3 M3 Q3 B3 hsz3 n0 n1
  refine wpIn_rangeFunc_ownG (α := OffNo p) rfl (by omega) (gf := 109) rfl trivial (enters_of Tryz.func109 (by kernel_rfl) rfl)
    KS.out keepU_t (keepU_b (by have := hN.out; have := hsz4.out; omega)) (Below.refl _ _) (fun _ => rfl)
    (fun (pre : List (OffNo p)) W => (Blk W w.heap.size (snapC A B (some ⟨bo, oo, none⟩) ca cb cc ns ps os) 26 ∧ Blk W Tb #[.slice P p.length cp] 27 ∧ Blk W Kb #[strV xo.topo] 9 ∧ Blk W Cb #[.map (some Mb)] 99 ∧ World.ownsMap (H := Unit) W Tryz.prog 9 (plainElem (H := Unit) Tryz.prog 3) Mb (ns.length + pre.length) (spreadD ns xo.topo p (pre.map (fun x => x.1)))) ∧ Below w.heap.size w W)
    (fun _ _ _ => False)
    (OwnFrom.and (fun s X Y row hs hg hr => ⟨blk_nc hs.1 hg (fun r e => (hr r e).2), blk_nc hs.2.1 hg (fun r e => (hr r e).2), blk_nc hs.2.2.1 hg (fun r e => (hr r e).2), blk_nc hs.2.2.2.1 hg (fun r e => (hr r e).2), World.ownsMap.kept (H := Unit) hs.2.2.2.2 hg (fun e => by have := (hr _ e.symm).1; have := hN.out; have := hsz4.out; omega)⟩) (ownFrom_below (Nat.le_refl _) (by have := hN.out; have := hsz4.out; omega)))
    (fun _ _ _ _ _ hs _ _ => hs)
    ⟨⟨S4.out, T4.out, K4.out, Q4.out, M4.out⟩, BW.out⟩
    (fun x => { tmps := #[snapV A B (some { block := bo, off := oo }) ca cb cc ns ps os, Value.slice P p.length cp,
          Value.int IntKind.i64 n, Value.pointer (some { block := w.heap.size, off := 0 }),
          Value.pointer (some { block := Tb, off := 0 }), undef, Value.slice none 0 0,
          Value.pointer (some { block := Kb, off := 0 }),
          Value.pointer (some { block := Cb, off := 0 }), .int .i64 (x.1 : Int), undef, undef, undef, undef, undef,
          Value.agg
            #[Value.slice A ns.length ca, Value.slice B ps.length cb,
              Value.slice (some { block := bo, off := oo }) os.length cc],
          Value.slice P p.length cp, Value.int IntKind.i64 n, Value.bool true, Value.bool false,
          Value.pointer (some { block := w.heap.size, off := 2 }),
          Value.slice (some { block := bo, off := oo }) os.length cc, Value.int IntKind.i64 n,
          Value.pointer (some { block := bo, off := oo + n * 5 }),
          Value.pointer (some { block := bo, off := oo + n * 5 + 2 }), strV xo.topo,
          Value.agg
            #[Value.slice A ns.length ca, Value.slice B ps.length cb,
              Value.slice (some { block := bo, off := oo }) os.length cc],
          Value.string { data := xo.topo.toArray }, Value.map (some Mb),
          Value.agg
            #[Value.slice A ns.length ca, Value.slice B ps.length cb,
              Value.slice (some { block := bo, off := oo }) os.length cc],
          Value.slice P p.length cp, Value.int IntKind.i64 n,
          Value.func (Fn.func 109) #[]
            #[Value.pointer (some { block := Cb + 1, off := 0 }),
              Value.pointer (some { block := Cb + 1 + 1 + 1, off := 0 }),
              Value.pointer (some { block := Cb + 1 + 1, off := 0 })],
          .int .i64 (x.1 : Int), undef, undef, undef, undef, undef, undef, undef, undef, undef, undef, undef, undef, undef, undef, undef, undef, undef, undef, undef, undef, undef, undef, undef, undef, undef, undef, undef, undef, undef, undef, undef, undef, undef, undef], defers := [] }) ?assign ?body ?done ?stop
  case assign =>
    intro l x W K hK
    gi_wp2
    exact hK
  case body =>
    rintro l pre ⟨m, hm⟩ W ⟨⟨hS, hT, hKk, hC, hM⟩, hB⟩ hlen
    obtain ⟨xv, hx, hne⟩ := id hm
    obtain ⟨b, o, hA, hbl, hc⟩ := atI (HP.out.below hB).cells hx
    subst hA
    have hml : m < p.length := (List.getElem?_eq_some_iff.1 hx).1
    have z0 := Blk.cell hS 0
    have z1 := Blk.cell hS 1
    have z2 := Blk.cell hS 2
    have p0 : W.cell? ⟨Tb, 0, none⟩ = some (.slice (some ⟨b, o, none⟩) p.length cp) := Blk.cell hT 0
    have q0 : W.cell? ⟨Kb, 0, none⟩ = some (strV xo.topo) := Blk.cell hKk 0
    have m0 : (0 : Int) ≤ (m : Int) := by omega
    have m1 : (m : Int) < (p.length : Int) := by omega
    have KD := Lib.hid (domainOf_any A B (some ⟨bo, oo, none⟩) ca cb cc ps.length os.length ns xv xo.topo W.drew (((H.out.below hB).below (Below.refl _ _).drew)).n HSH.out)
    have HBs := Lib.hid hB
    have E : Hid (spreadD ns xo.topo p (pre.map (·.1) ++ [m]) = match domF ns xv xo.topo with
      | some v => bumpD (spreadD ns xo.topo p (pre.map (·.1))) v
      | none => spreadD ns xo.topo p (pre.map (·.1))) := Lib.hid (spreadD_snoc ns xo.topo p _ m xv hx)
    have HV := Lib.hid (fun v (hv : domF ns xv xo.topo = some v) => domF_short HSH.out hv)
    generalize domF ns xv xo.topo = dv at KD E HV
    generalize spreadD ns xo.topo p (pre.map (·.1)) = D0 at hM E
    have HS := Lib.hid hS
    have HT := Lib.hid hT
    have HKk := Lib.hid hKk
    have HC := Lib.hid hC
    have HM := Lib.hid hM
    have hlen2 := Lib.hid hlen
    have hmx : Tryz.prog.follows .mixedOrders = true := by kernel_rfl
    clear hS hT hKk hC hM hB hlen hml hx
    rename_i K0 hK0
    clear hK0 KS S4 T4 K4 Q4 M4 BW HX HE H HP HSH
    gi_wp2
    rename_i Kq hKq
    have key : ∀ w', RowKit.Below W.drew.heap.size W.drew w' → Kq { tmps :=
        #[snapV A B (some { block := bo, off := oo }) ca cb cc ns ps os,
          Value.slice (some { block := b, off := o }) p.length cp, Value.int IntKind.i64 n,
          Value.pointer (some { block := w.heap.size, off := 0 }), Value.pointer (some { block := Tb, off := 0 }),
          undef, Value.slice none 0 0, Value.pointer (some { block := Kb, off := 0 }),
          Value.pointer (some { block := Cb, off := 0 }), Value.int IntKind.i64 m, strV (dv.getD []),
          Value.bool dv.isSome, undef, undef, undef,
          Value.agg
            #[Value.slice A ns.length ca, Value.slice B ps.length cb,
              Value.slice (some { block := bo, off := oo }) os.length cc],
          Value.slice (some { block := b, off := o }) p.length cp, Value.int IntKind.i64 n, Value.bool true,
          Value.bool false, Value.pointer (some { block := w.heap.size, off := 2 }),
          Value.slice (some { block := bo, off := oo }) os.length cc, Value.int IntKind.i64 n,
          Value.pointer (some { block := bo, off := oo + n * 5 }),
          Value.pointer (some { block := bo, off := oo + n * 5 + 2 }), strV xo.topo,
          Value.agg
            #[Value.slice A ns.length ca, Value.slice B ps.length cb,
              Value.slice (some { block := bo, off := oo }) os.length cc],
          Value.string { data := xo.topo.toArray }, Value.map (some Mb),
          Value.agg
            #[Value.slice A ns.length ca, Value.slice B ps.length cb,
              Value.slice (some { block := bo, off := oo }) os.length cc],
          Value.slice (some { block := b, off := o }) p.length cp, Value.int IntKind.i64 n,
          Value.func (Fn.func 109) #[]
            #[Value.pointer (some { block := Cb + 1, off := 0 }),
              Value.pointer (some { block := Cb + 1 + 1 + 1, off := 0 }),
              Value.pointer (some { block := Cb + 1 + 1, off := 0 })],
          Value.int IntKind.i64 m, Value.tuple #[strV (dv.getD []), Value.bool dv.isSome],
          Value.agg
            #[Value.slice A ns.length ca, Value.slice B ps.length cb,
              Value.slice (some { block := bo, off := oo }) os.length cc],
          Value.slice (some { block := b, off := o }) p.length cp, Value.int IntKind.i64 m,
          Value.pointer (some { block := b, off := o + m }), Value.int IntKind.i64 xv, strV xo.topo,
          Value.tuple #[strV (dv.getD []), Value.bool dv.isSome], strV (dv.getD []), Value.bool dv.isSome, undef, undef,
          undef, undef, undef, undef, undef, undef, undef, undef, undef, undef, undef, undef, undef, undef, undef, undef, undef, undef, undef, undef, undef, undef], defers := [] } w' := by
      intro w' hb
      refine hKq _ _ ?_
      clear hKq
      have hbW : Below W.heap.size W w' := ((Below.refl W.heap.size W).drew).trans hb
      have S' := Lib.hid (HS.out.below hbW HS.out.lt)
      have T' := Lib.hid (HT.out.below hbW HT.out.lt)
      have K' := Lib.hid (HKk.out.below hbW HKk.out.lt)
      have C' := Lib.hid (HC.out.below hbW HC.out.lt)
      have M' := Lib.hid (ownsMap_below HM.out hbW)
      have B' := Lib.hid (HBs.out.trans (hbW.mono HBs.out.size))
      have KF := Lib.hid (keepsFrom_below (B := W0.heap.size) hbW)
      have KU := Lib.hid (KeepU.below (us := []) hbW HBs.out.size)
      have c0 : w'.cell? ⟨Cb, 0, none⟩ = some (.map (some Mb)) := Blk.cell C'.out 0
      clear hb hbW z0 z1 z2 p0 q0 hc KD
      cases dv with
      | none =>
        gi_wp2
        refine ⟨KF.out, KU.out, ⟨S'.out, T'.out, K'.out, C'.out, ?_⟩, B'.out⟩
        have e9 : (pre ++ [(⟨m, hm⟩ : OffNo p)]).unattach = pre.map (fun x => x.1) ++ [m] := by
          show (pre ++ [(⟨m, hm⟩ : OffNo p)]).map (fun x => x.1) = _
          rw [List.map_append]
          rfl
        show World.ownsMap (H := Unit) w' _ _ _ _ _ (spreadD ns xo.topo p (pre ++ [(⟨m, hm⟩ : OffNo p)]).unattach)
        rw [e9, E.out]
        exact M'.out.mono (by simp)
      | some v =>
        have hvl : ((⟨v.toArray⟩ : ByteArray).size) ≤ maxLen := by
          have := HV.out v rfl
          rw [size_of]
          unfold maxLen
          omega
        have hkey := WideMaps.keyOf_string_mk (P := Tryz.prog) Tryz.underlying9 hvl
        have hown := M'.out
        have hkm : ns.length + pre.length < maxLen := by
          have := hlen2.out
          have := hlp.out
          have := hpl.out
          have := hln.out
          unfold maxLen
          omega
        gi_wp2_with (first
          | (gi_at_lookup; refine wpListIn_lookup_own_int _ rfl _ _ 99 rfl 9 3 .i64 (Maps.string_keyed Tryz.underlying9) Tryz.underlying99 Tryz.underlying3 (Tryz.zeroValue3 _) Mb (ns.length + pre.length) _ rfl hown _ _ rfl hkey ?_; intro c hat hwc)
          | (gi_at_mapUpdate; refine wpListIn_mapUpdate_own _ rfl _ _ _ 99 rfl 9 3 (Maps.string_keyed Tryz.underlying9) Tryz.underlying99 _ Mb (ns.length + pre.length) _ rfl hown hkm _ _ _ rfl rfl hkey _ [] (plainElem_int Tryz.underlying3 (wrap64_wf _)) ?_; intro w3 hown3 hgrow3))
        have hN' := hN.out
        have hnm : ∀ (bb : Nat) (cs : Array Value) (t : TypeId), Blk w' bb cs t → some bb ≠ some Mb := fun bb cs t hbk e => by
          cases e
          obtain ⟨es, clock, hh, _⟩ := hown
          unfold Blk at hbk
          rw [hh] at hbk
          cases hbk
        have hbg : Below w.heap.size w' w3 := (Below.refl w.heap.size w').grown hgrow3 (Nat.le_trans (by have := B'.out.size; exact this) (Nat.le_refl _)) (fun j e => by cases e; omega)
        refine ⟨KF.out.trans (KeepsFrom.of_grownBy hgrow3 (fun j e => by cases e; have := hsz4.out; omega)), KU.out.trans ⟨hbg, fun bb cs t _ h1 => h1.kept hgrow3 (hnm bb cs t h1)⟩, ⟨S'.out.kept hgrow3 (hnm _ _ _ S'.out), T'.out.kept hgrow3 (hnm _ _ _ T'.out), K'.out.kept hgrow3 (hnm _ _ _ K'.out), C'.out.kept hgrow3 (hnm _ _ _ C'.out), ?_⟩, B'.out.trans hbg⟩
        have e9 : (pre ++ [(⟨m, hm⟩ : OffNo p)]).unattach = pre.map (fun x => x.1) ++ [m] := by
          show (pre ++ [(⟨m, hm⟩ : OffNo p)]).map (fun x => x.1) = _
          rw [List.map_append]
          rfl
        show World.ownsMap (H := Unit) w3 _ _ _ _ _ (spreadD ns xo.topo p (pre ++ [(⟨m, hm⟩ : OffNo p)]).unattach)
        rw [e9, E.out]
        unfold bumpD
        rw [numD_lit hat]
        exact hown3.mono (by simp; omega)
    gi_region_with_o (refine ⟨trivial, ?_⟩; gi_at_call 78; refine (CallsIn.inRound l (callsIn_wide.2 KD.out)).mono ?_; rintro e w' ⟨rfl, hb⟩)
    all_goals exact key _ hb
  case done =>
    rintro D ys W hD hys ⟨⟨hS, hT, hKk, hC, hM⟩, hB⟩ hK
    rw [hys] at hM
    obtain ⟨Dd, hDd⟩ : ∃ Dd, spreadD ns xo.topo p (offL p (membersF ps xo.name)) = Dd := ⟨_, rfl⟩
    rw [hDd] at hM
    have HE2 : Hid (R = rowD Dd) := Lib.hid (by rw [HE.out, hDd])
    have hnn : Hid (Maps.size Dd ≤ 2000) := Lib.hid (by
      have h1 := hM.size_le
      have h2 : ys.length ≤ 1000 := by
        have e1 : ys.length = (ys.map (fun x => x.1)).length := by rw [List.length_map]
        rw [e1, hys]
        have := offL_len p (membersF ps xo.name)
        have h3 : (membersF ps xo.name).length ≤ ps.length := membersU_len ps xo.name _
        have := hlp.out
        omega
      have := hln.out
      omega)
    have c0 : W.cell? ⟨Cb, 0, none⟩ = some (.map (some Mb)) := Blk.cell hC 0
    have hmk := run_ints0 W (Maps.size Dd) (by have := hnn.out; omega)
    have HW : Hid (w.heap.size ≤ W.heap.size) := Lib.hid hB.size
    have O1 := Lib.hid (own_made0 W (Maps.size Dd) w.heap.size (by have := hnn.out; omega) hB.size)
    have C1 := Lib.hid (Blk.alloc hC (.cells (madeCells #[.int .i64 0] (Maps.size Dd)) 3))
    have M1 := Lib.hid (hM.alloc (.cells (madeCells #[.int .i64 0] (Maps.size Dd)) 3))
    have B1 := Lib.hid (hB.alloc hB.size (.cells (madeCells #[.int .i64 0] (Maps.size Dd)) 3))
    have D1 : Hid ((W.alloc (.cells (madeCells #[.int .i64 0] (Maps.size Dd)) 3)).heap[D]? = some (.deferred (some []))) := Lib.hid ((Below.heap_alloc W _ D (Array.getElem?_eq_some_iff.1 hK).1).trans hK)
    have HD := Lib.hid hD
    obtain ⟨i0, hi0, hz0, hz1, hz2⟩ := info_parts int_infoK
    rename_i K0 hK0
    clear hS hT hKk hC hB hK hD hys HE hDd KS S4 T4 K4 Q4 M4 BW H HP HSH HX hlp hln hpl
    have c1 : (W.alloc (.cells (madeCells #[.int .i64 0] (Maps.size Dd)) 3)).cell? ⟨Cb, 0, none⟩ = some (.map (some Mb)) := Blk.cell C1.out 0
    have KS2 := Lib.hid (sortedKeys_in Mb _ Dd _ _ M1.out (by have := hnn.out; unfold maxLen; omega) (by have := hnn.out; omega))
    simp only [World.size_alloc] at KS2
    have hfK : Fence.wide.fn 80 := trivial
    have hfS : Fence.wide.fn 79 := trivial
    gi_wp2_with (first
      | (gi_at_len; refine wpListIn_len_own _ rfl _ _ rfl 9 3 Tryz.underlying99 _ Mb _ Dd rfl hM ?_)
      | (gi_at_call 80; refine ((mapsKeys_in (some Mb) _).more (by omega)).mono ?_; rintro e w' ⟨rfl, rfl⟩)
      | (gi_at_call 79; refine (KS2.out.more (by omega)).mono ?_; rintro e w' ⟨v, ss, rfl, hS, hrow, hnil, hb⟩; have hrow2 := own_sorted hS hrow; obtain ⟨A9, c9, rfl, hm9⟩ := La.own_slice hrow2))
    have hb2 : RowKit.Below (W.alloc (.cells (madeCells #[.int .i64 0] (Maps.size Dd)) 3)).heap.size (W.alloc (.cells (madeCells #[.int .i64 0] (Maps.size Dd)) 3)) w' := ((Below.refl _ _).alloc (Nat.le_refl _) _).trans (hb.mono (by simp))
    have O2 := Lib.hid (own_below2 O1.out hb2)
    have C2 := Lib.hid (C1.out.below hb2 C1.out.lt)
    have M2 := Lib.hid (ownsMap_below M1.out hb2)
    have B2 := Lib.hid (B1.out.trans (hb2.mono B1.out.size))
    have D2 : Hid (w'.heap[D]? = some (.deferred (some []))) := Lib.hid ((hb2.block D (Array.getElem?_eq_some_iff.1 D1.out).1).trans D1.out)
    have R2 := Lib.hid (own_base hrow2 (base' := w.heap.size) (by have := B1.out.size; simp at this ⊢; omega))
    have hLL : Hid ((sortK Dd).length ≤ 2000) := Lib.hid (by
      unfold sortK
      rw [List.length_mergeSort]
      have h1 := hnn.out
      cases Dd with
      | map es => simpa [strKeys, Maps.size] using h1
      | _ => simp [strKeys])
    have hRD : Hid (rowD Dd = (sortK Dd).map fun v => numD (Dd.atKey (.string v) (.lit (.int .i64 0)))) := Lib.hid rfl
    have hST := Lib.hid (fun x (hx : x ∈ sortK Dd) => strKeys_le hM Tryz.underlying9 x ((List.mergeSort_perm _ _).mem_iff.1 hx))
    clear hb hb2 hrow hrow2 hS hnil O1 C1 M1 B1 D1 c0 c1 KS2 hmk hM hnn
    generalize sortK Dd = L at R2 hLL hRD hST ⊢
    gi_loopw [56, 12] (fun i v wr => ∃ k : Nat, k ≤ L.length ∧ i = .int .i64 k ∧ wr.ownsRow w.heap.size 3 1 v k (intsC ((rowD Dd).take k)) ∧ wr.ownsRow w.heap.size 9 1 (.slice A9 L.length c9) L.length (L.map encStr) ∧ World.ownsMap (H := Unit) wr Tryz.prog 9 (plainElem (H := Unit) Tryz.prog 3) Mb (ns.length + ys.length) Dd ∧ Blk wr Cb #[.map (some Mb)] 99 ∧ RowKit.Below w.heap.size w wr ∧ wr.heap[D]? = some (.deferred (some []))) (fun i _ _ => L.length - (intOf i).toNat)
    case atStart => exact ⟨0, by omega, rfl, O2.out, R2.out, M2.out, C2.out, B2.out, D2.out⟩
    case round =>
      clear O2 R2 M2 C2 B2 D2
      obtain ⟨k, hk, rfl, ho, hr, hm, hc, hb, hd⟩ := hrel
      have HO := Lib.hid ho
      have HR := Lib.hid hr
      have HM := Lib.hid hm
      have HC := Lib.hid hc
      have HB := Lib.hid hb
      have HDd := Lib.hid hd
      clear ho hr hc hb hd
      by_cases hlt : k < L.length
      · obtain ⟨x, hx⟩ : ∃ x, L[k]? = some x := ⟨L[k], List.getElem?_eq_getElem hlt⟩
        obtain ⟨g, cur, hA, hg, hgb, hgc⟩ := own_blk HR.out (k := k) (y := encStr x) (by rw [List.getElem?_map, hx]; rfl)
        subst hA
        have g0 : wr.cell? ⟨g, k, none⟩ = some (strV x) := (Blk.cell hgb k).trans hgc
        have c0 : wr.cell? ⟨Cb, 0, none⟩ = some (.map (some Mb)) := Blk.cell HC.out 0
        have k0 : (0 : Int) ≤ (k : Int) := by omega
        have k1 : (k : Int) < (L.length : Int) := by omega
        have hvl : ((⟨x.toArray⟩ : ByteArray).size) ≤ maxLen := by
          rw [size_of]
          exact hST.out x (List.mem_of_getElem? hx)
        have hkey := WideMaps.keyOf_string_mk (P := Tryz.prog) Tryz.underlying9 hvl
        have HX2 := Lib.hid hx
        have hkb : Hid (k + 1 ≤ maxLen) := Lib.hid (by have := hLL.out; unfold maxLen; omega)
        have hkc : Hid ((k + 1) * 8 ≤ 140737488355328) := Lib.hid (by have := hLL.out; omega)
        have hwz : Hid (w.heap.size ≤ wr.heap.size) := Lib.hid HB.out.size
        clear hx hgb hgc hvl
        have hLLp : L.length ≤ 2000 := hLL.out
        gi_wp2_with (first
          | (gi_at_lookup; refine wpListIn_lookup_own_int _ rfl _ _ 99 rfl 9 3 .i64 (Maps.string_keyed Tryz.underlying9) Tryz.underlying99 Tryz.underlying3 (Tryz.zeroValue3 _) Mb _ _ rfl hm _ _ rfl hkey ?_; intro c hat hwc)
          | (gi_at_builtin; refine wpListIn_append_own _ rfl _ _ 27 rfl w.heap.size 3 i0 (.int .i64 0) 1 8 Tryz.underlying27 hi0 hz0 hz1 hz2 rfl (by decide) _ _ _ rfl (HO.out.alloc _) ⟨wr.heap.size, 0, none⟩ 1 1 [.int .i64 c] rfl rfl ?c1 ?c2 hkb.out hkc.out ?c5 ?_))
        case c2 => first | rfl | (intro u hu; simp at hu; subst hu; rfl)
        case c5 => have := hwz.out; simp; omega
        intro v' w2' hown' hgrow' _
        have ha0 := HO.out.alloc (.cells #[.int .i64 c] 3)
        have O3 := Lib.hid hown'
        have R3 := Lib.hid (own_own ha0 hgrow' (by decide) (HR.out.alloc (.cells #[.int .i64 c] 3)))
        have M3 := Lib.hid (own_ownsMap ha0 hgrow' (hm.alloc (.cells #[.int .i64 c] 3)))
        have C3 : Hid (Blk w2' Cb #[.map (some Mb)] 99) := Lib.hid (own_other ha0 hgrow' (Blk.alloc HC.out (.cells #[.int .i64 c] 3)) (fun cs e => by cases e))
        have D3 : Hid (w2'.heap[D]? = some (.deferred (some []))) := Lib.hid (own_other ha0 hgrow' ((Below.heap_alloc wr _ D (Array.getElem?_eq_some_iff.1 HDd.out).1).trans HDd.out) (fun cs e => by cases e))
        have B3 := Lib.hid ((HB.out.alloc HB.out.size (.cells #[.int .i64 c] 3)).grown hgrow' (by have := hwz.out; simp; omega) (fun j hj => own_gem HO.out hj))
        have hstep : Hid ((rowD Dd).take (k + 1) = (rowD Dd).take k ++ [c]) := Lib.hid (by
          have h1 : (rowD Dd)[k]? = some c := by
            rw [hRD.out, List.getElem?_map, HX2.out]
            simp only [Option.map_some, Option.some.injEq]
            exact numD_lit hat
          obtain ⟨h2, h3⟩ := List.getElem?_eq_some_iff.1 h1
          rw [List.take_succ_eq_append_getElem h2, h3])
        clear hown' hgrow' ha0 hm hkey g0 c0
        gi_wp2
        go_roundw
        case rel =>
          refine ⟨k + 1, by omega, by go_num, ?_, R3.out, M3.out, C3.out, B3.out, D3.out⟩
          rw [hstep.out]
          have := O3.out
          simpa [intsC] using this
        case measure =>
          simp [intOf]
          omega
      · obtain rfl : k = L.length := by omega
        have hrl : (rowD Dd).length = L.length := by rw [hRD.out, List.length_map]
        gi_wp2
        refine ⟨by simp, .inl ⟨_, _, rfl, run_takeDeferred HDd.out, ?_⟩⟩
        refine ⟨_, results_tmp rfl _ _ _, _, rfl, ?_, HB.out.trans (belowK_b (w := w) (Nat.le_refl _) wr D _ _ (by have := HD.out; have := hN.out; have := hsz4.out; omega) HDd.out rfl rfl)⟩
        rw [HE2.out, hrl]
        have h9 := HO.out
        rw [List.take_of_length_le (by omega)] at h9
        exact ownsRow_putObj h9 _ HDd.out rfl
  case stop =>
    rintro D c pre W _ _ h _
    exact h.elim
end Go.Proofs.YtoankplhahbgkaaGreat

namespace Go.Proofs.YtoankplhahbgkaaGreat
open Go.RowKit Go.Maps Go.Sort

theorem ch_check (N : Nat) : checkS (chN N [98] false) chP chO = 0 := by kernel_rfl
theorem ch_checkL (N : Nat) : checkS (chN N [98] true) chP chO = 0 := by kernel_rfl
theorem ch_checkA (N : Nat) : checkS (chN N [65] true) chP chO = 50 := by kernel_rfl
theorem ch_dom2 (N : Nat) : domE (chN N [98] false) chP chO 2 bZone = none := by kernel_rfl
theorem ch_domL (N : Nat) : domE (chN N [98] true) chP chO 1 bZone = none := by kernel_rfl
theorem ch_ap1 (N : Nat) : applyF (chN N [98] false) chP chO [0, 2, -1] 1 0 0 = ([-1, 2, -1], 0) := by kernel_rfl
theorem ch_ap2 (N : Nat) : applyF (chN N [98] false) chP chO [0, 2, -1] 2 2 1 = ([0, 2, 1], 0) := by kernel_rfl
theorem ch_ap3 (N : Nat) : applyF (chN N [98] false) chP chO [0, 2, -1] 1 2 0 = ([], 110) := by kernel_rfl
theorem ch_moves : movesF [0, 2, -1] [0, 1, 1] = [(1, 1), (2, 1)] := by kernel_rfl
theorem ch_used (N : Nat) : rowV (usedF (chN N [98] false) chP chO [0, 0, -1] 0) = .agg #[.int .i64 20, .int .i64 0, .int .i64 0, .int .i64 0, .int .i64 0] := by kernel_rfl
theorem ch_counts (N : Nat) : countsF (chN N [98] false) chP chO [0, 2, -1] 0 = [1, 0, 1] := by kernel_rfl
theorem ch_placed (N : Nat) : placedF (chN N [98] false) chP chO [0, 2, -1] 0 = 2 := by kernel_rfl
theorem ch_keys (N : Nat) : strKeys (emptyD (chN N [98] false) bZone) = [[120], [121]] := by kernel_rfl
theorem ch_keysL (N : Nat) : strKeys (emptyD (chN N [98] true) bZone) = [[120]] := by kernel_rfl
theorem sort2 : ([[120], [121]] : List (List UInt8)).mergeSort leB = [[120], [121]] := by
  refine List.mergeSort_of_pairwise ?_
  simp
  decide
theorem sort1 : ([[120]] : List (List UInt8)).mergeSort leB = [[120]] := List.mergeSort_singleton _
theorem ch_doms (N : Nat) : domsF (chN N [98] false) chP chO bZone = [[120], [121]] := by
  unfold domsF sortK
  rw [ch_check, if_pos rfl, ch_keys, sort2]
theorem ch_domsL (N : Nat) : domsF (chN N [98] true) chP chO bZone = [[120]] := by
  unfold domsF sortK
  rw [ch_checkL, if_pos rfl, ch_keysL, sort1]
theorem ch_domsA (N : Nat) : domsF (chN N [65] true) chP chO bZone = [] := by
  unfold domsF
  rw [ch_checkA, if_neg (by decide)]
theorem ch_spread (N : Nat) : spreadF (chN N [98] false) chP chO [0, 2, -1] 0 = [1, 0] := by
  have h1 : ownerB (chN N [98] false) chP chO [0, 2, -1] 0 = true := by kernel_rfl
  have h2 : strKeys (spreadD (chN N [98] false) bZone [0, 2, -1] (offL [0, 2, -1] (membersF chP [111]))) = [[120], [121]] := by kernel_rfl
  unfold spreadF
  rw [if_pos h1]
  show rowD (spreadD (chN N [98] false) bZone [0, 2, -1] (offL [0, 2, -1] (membersF chP [111]))) = [1, 0]
  unfold rowD sortK
  rw [h2, sort2]
  kernel_rfl
theorem ch_spreadL (N : Nat) : spreadF (chN N [98] true) chP chO [0, 2, -1] 0 = [1] := by
  have h1 : ownerB (chN N [98] true) chP chO [0, 2, -1] 0 = true := by kernel_rfl
  have h2 : strKeys (spreadD (chN N [98] true) bZone [0, 2, -1] (offL [0, 2, -1] (membersF chP [111]))) = [[120]] := by kernel_rfl
  unfold spreadF
  rw [if_pos h1]
  show rowD (spreadD (chN N [98] true) bZone [0, 2, -1] (offL [0, 2, -1] (membersF chP [111]))) = [1]
  unfold rowD sortK
  rw [h2, sort1]
  kernel_rfl
end Go.Proofs.YtoankplhahbgkaaGreat

namespace Go.Proofs.YtoankplhahbgkaaGreat
open Go.RowKit

/-- A list of texts as a value. -/
structure TextsAt (w : World) (A : Option Addr) (c : Nat) (l : List (List UInt8)) : Prop where
  cells : La.SlAt w A (l.map strV)
  le : l.length ≤ c
  most : c ≤ 9223372036854775807
theorem TextsAt.below {w w' : World} {A : Option Addr} {c : Nat} {l : List (List UInt8)} (h : TextsAt w A c l) (hb : Below w.heap.size w w') : TextsAt w' A c l := ⟨h.cells.below hb, h.le, h.most⟩
theorem TextsAt.own {w : World} {base : Nat} {A : Option Addr} {c : Nat} {l : List (List UInt8)} (h : w.ownsRow base 9 1 (.slice A l.length c) l.length (l.map strV)) : TextsAt w A c l := by
  have hc := capOwn h
  have hm : maxLen ≤ 9223372036854775807 := by unfold maxLen; omega
  exact ⟨La.own_slat h, hc.1, Nat.le_trans hc.2 hm⟩
theorem atT {w : World} {A : Option Addr} {l : List (List UInt8)} (h : La.SlAt w A (l.map strV)) {k : Nat} {x : List UInt8} (hk : l[k]? = some x) :
    ∃ b o, A = some ⟨b, o, none⟩ ∧ b < w.heap.size ∧ w.cell? ⟨b, o + k, none⟩ = some (strV x) := by
  obtain ⟨b, o, hA, h0⟩ := h k (strV x) (by rw [List.getElem?_map, hk]; rfl)
  exact ⟨b, o, hA, World.block_lt_of_cell? w _ h0, h0⟩

set_option maxRecDepth 100000 in
set_option maxHeartbeats 2000000 in
theorem eqTexts_any (A B : Option Addr) (ca cb : Nat) (l m : List (List UInt8)) (w : World) (hl : l.length ≤ 1000) (ha : TextsAt w A ca l) (hb : TextsAt w B cb m) :
    Calls Tryz.prog 32 #[.slice A l.length ca, .slice B m.length cb] w fun e w' => e = .returned (.bool (decide (l = m))) ∧ Below w.heap.size w w' := by
  by_cases hn : l.length = m.length
  case neg =>
    have hni : ¬ (l.length : Int) = (m.length : Int) := by omega
    have hnb : ((l.length : Int) != (m.length : Int)) = true := by simpa using hni
    have hne : decide (l = m) = false := decide_eq_false (fun e => hn (by rw [e]))
    rw [hne]
    clear ha hb
    go_enter Tryz.func32, Tryz.ntmps32
    go_wp2
    go_ret
    exact ⟨rfl, Below.refl _ _⟩
  have hni : (l.length : Int) = (m.length : Int) := by omega
  have hnb : ((l.length : Int) != (m.length : Int)) = false := by simpa using hni
  have HA := Lib.hid ha
  have HB := Lib.hid hb
  clear ha hb
  obtain ⟨R, hR⟩ : ∃ R, decide (l = m) = R := ⟨_, rfl⟩
  have HR := Lib.hid hR
  rw [hR]
  clear hR
  go_enter Tryz.func32, Tryz.ntmps32
  go_wp2_with fail
  go_loopw [5] (fun i wr => ∃ k : Nat, k ≤ l.length ∧ i = .int .i64 k ∧ (∀ j, j < k → l[j]? = m[j]?) ∧ Below w.heap.size w wr) (fun i _ => l.length - (intOf i).toNat)
  case atStart => exact ⟨0, by omega, rfl, fun j h => by omega, Below.refl _ _⟩
  case round =>
    obtain ⟨k, hk, rfl, hnk, hbw⟩ := hrel
    have HN := Lib.hid hnk
    have HW := Lib.hid hbw
    clear hnk hbw
    by_cases hlt : k < l.length
    · obtain ⟨x, hx⟩ : ∃ x, l[k]? = some x := ⟨l[k], List.getElem?_eq_getElem hlt⟩
      obtain ⟨y, hy⟩ : ∃ y, m[k]? = some y := ⟨m[k]'(by omega), List.getElem?_eq_getElem (by omega)⟩
      obtain ⟨b1, o1, hA1, hbl1, c1⟩ := atT (HA.out.below HW.out).cells hx
      obtain ⟨b2, o2, hA2, hbl2, c2⟩ := atT (HB.out.below HW.out).cells hy
      subst hA1 hA2
      have HX := Lib.hid hx
      have HY := Lib.hid hy
      have k0 : (0 : Int) ≤ (k : Int) := by omega
      have k1 : (k : Int) < (l.length : Int) := by omega
      have k2 : (k : Int) < (m.length : Int) := by omega
      clear hx hy
      by_cases hxy : x = y
      · subst hxy
        have hxb : (x != x) = false := by simp
        have hxc : (x == x) = true := by simp
        go_wp2_with fail
        go_region
        go_wp2
        go_roundw
        case rel =>
          refine ⟨k + 1, by omega, by go_num, fun j hj => ?_, by first | exact HW.out | exact HW.out.drew | exact La.belowN HW.out _⟩
          by_cases hjk : j = k
          · subst hjk
            rw [HX.out, HY.out]
          · exact HN.out j (by omega)
        case measure => simp [intOf]; omega
      · have hxb : (x != y) = true := by simpa using hxy
        have hxc : (x == y) = false := by simpa using hxy
        have HE : Hid (false = R) := Lib.hid (by
          rw [← HR.out]
          symm
          refine decide_eq_false (fun e => hxy ?_)
          have h1 := HX.out
          rw [e, HY.out] at h1
          exact (Option.some.inj h1).symm)
        go_wp2_with fail
        go_region
        go_wp2
        go_ret
        exact ⟨La.retB HE.out, by first | exact HW.out | exact HW.out.drew | exact La.belowN HW.out _⟩
    · obtain rfl : k = l.length := by omega
      have HE : Hid (true = R) := Lib.hid (by
        rw [← HR.out]
        symm
        refine decide_eq_true (List.ext_getElem? fun j => ?_)
        by_cases hj : j < l.length
        · exact HN.out j hj
        · rw [List.getElem?_eq_none (by omega), List.getElem?_eq_none (by omega)])
      go_wp2
      go_ret
      exact ⟨La.retB HE.out, HW.out⟩
end Go.Proofs.YtoankplhahbgkaaGreat

namespace Go.Proofs.YtoankplhahbgkaaGreat.Qu
open Go.RowKit

theorem part_row0 (a b c d e : Int) (w : World) : (Go.part 3 #[.int .i64 a, .int .i64 b, .int .i64 c, .int .i64 d, .int .i64 e] 0).run Tryz.prog w = .ok (.int .i64 a) w := by kernel_rfl
theorem part_row1 (a b c d e : Int) (w : World) : (Go.part 3 #[.int .i64 a, .int .i64 b, .int .i64 c, .int .i64 d, .int .i64 e] 1).run Tryz.prog w = .ok (.int .i64 b) w := by kernel_rfl
theorem part_row2 (a b c d e : Int) (w : World) : (Go.part 3 #[.int .i64 a, .int .i64 b, .int .i64 c, .int .i64 d, .int .i64 e] 2).run Tryz.prog w = .ok (.int .i64 c) w := by kernel_rfl
theorem part_row3 (a b c d e : Int) (w : World) : (Go.part 3 #[.int .i64 a, .int .i64 b, .int .i64 c, .int .i64 d, .int .i64 e] 3).run Tryz.prog w = .ok (.int .i64 d) w := by kernel_rfl
theorem part_row4 (a b c d e : Int) (w : World) : (Go.part 3 #[.int .i64 a, .int .i64 b, .int .i64 c, .int .i64 d, .int .i64 e] 4).run Tryz.prog w = .ok (.int .i64 e) w := by kernel_rfl
theorem int_size (w : World) : (sizeOf 3).run Tryz.prog w = .ok 1 w := by kernel_rfl
theorem eq_int (n : Nat) (a : Int) (w : World) : (Op.equalIn (n + 1) 3 (.int .i64 a) (.int .i64 a)).run Tryz.prog w = .ok true w := by
  rw [run_equalIn_int w n 3 .i64 .i64 a a Tryz.underlying3]
  simp
theorem eq_row_in (n : Nat) (a b c d e : Int) (w : World) : (Op.equalIn (n + 2) 33 (.agg #[.int .i64 a, .int .i64 b, .int .i64 c, .int .i64 d, .int .i64 e]) (.agg #[.int .i64 a, .int .i64 b, .int .i64 c, .int .i64 d, .int .i64 e])).run Tryz.prog w = .ok true w := by
  rw [Op.equalIn]
  simp only [Sem.run_bind, run_underlying Tryz.underlying33, Result.andThen_ok, int_size]
  simp [Std.Legacy.Range.forIn_eq_forIn_range', Std.Legacy.Range.size, List.range', Sem.run_bind, part_row0, part_row1, part_row2, part_row3, part_row4, eq_int]
theorem eq_row (a b c d e : Int) (w : World) : (Op.equalIn 10000 33 (.agg #[.int .i64 a, .int .i64 b, .int .i64 c, .int .i64 d, .int .i64 e]) (.agg #[.int .i64 a, .int .i64 b, .int .i64 c, .int .i64 d, .int .i64 e])).run Tryz.prog w = .ok true w := eq_row_in 9998 a b c d e w
theorem vec_guard : Tryz.prog.eqGuardType Tryz.prog.depth 33 = false := by kernel_rfl

end Go.Proofs.YtoankplhahbgkaaGreat.Qu

namespace Go.Proofs.YtoankplhahbgkaaGreat
open Go.RowKit

theorem ints_new (W : World) (l : List Int) (hl : l.length ≤ 1000) : IntsAt (W.alloc (.cells (intsC l).toArray 3)) (some ⟨W.heap.size, 0, none⟩) l.length l := by
  refine ⟨fun j y hj => ⟨W.heap.size, 0, rfl, ?_⟩, Nat.le_refl _, by omega⟩
  rw [Nat.zero_add, Blk.cell (Blk.new W _ _) j, ← hj, ← List.getElem?_toArray]
theorem texts_new (W : World) (l : List (List UInt8)) (hl : l.length ≤ 1000) : TextsAt (W.alloc (.cells (l.map strV).toArray 9)) (some ⟨W.heap.size, 0, none⟩) l.length l := by
  refine ⟨fun j y hj => ⟨W.heap.size, 0, rfl, ?_⟩, Nat.le_refl _, by omega⟩
  rw [Nat.zero_add, Blk.cell (Blk.new W _ _) j, ← hj, ← List.getElem?_toArray]
theorem part_mov0 (a b : Int) (w : World) : (part 3 #[.int .i64 a, .int .i64 b] 0).run Tryz.prog w = .ok (.int .i64 a) w := by kernel_rfl
theorem part_mov1 (a b : Int) (w : World) : (part 3 #[.int .i64 a, .int .i64 b] 1).run Tryz.prog w = .ok (.int .i64 b) w := by kernel_rfl
theorem eq_mov_in (n : Nat) (a b : Int) (w : World) : (Op.equalIn (n + 2) 106 (.agg #[.int .i64 a, .int .i64 b]) (.agg #[.int .i64 a, .int .i64 b])).run Tryz.prog w = .ok true w := by
  rw [Op.equalIn]
  simp only [Sem.run_bind, run_underlying Tryz.underlying106, Result.andThen_ok, Qu.int_size]
  simp [Std.Legacy.Range.forIn_eq_forIn_range', Std.Legacy.Range.size, List.range', Sem.run_bind, part_mov0, part_mov1, Qu.eq_int, Qu.int_size]
theorem eq_mov (a b : Int) (w : World) : (Op.equalIn 10000 106 (.agg #[.int .i64 a, .int .i64 b]) (.agg #[.int .i64 a, .int .i64 b])).run Tryz.prog w = .ok true w := eq_mov_in 9998 a b w
theorem mov_guard : Tryz.prog.eqGuardType Tryz.prog.depth 106 = false := by kernel_rfl
/-- The cluster, its box, a placement lie in memory. -/
structure WkAt (w W : World) (N Sb : Nat) (B : Option Addr) (cb : Nat) (P : Option Addr) (p : List Int) : Prop where
  s : SnapAt W (some ⟨N + 3, 0, none⟩) B (some ⟨N + 4, 0, none⟩) 3 cb 1 (chN N [98] false) chP chO
  b : Blk W Sb #[.slice (some ⟨N + 3, 0, none⟩) 3 3, .slice B 3 cb, .slice (some ⟨N + 4, 0, none⟩) 1 1] 26
  p : IntsAt W P p.length p
  w : Below w.heap.size w W
theorem WkAt.below {w W W' : World} {N Sb : Nat} {B : Option Addr} {cb : Nat} {P : Option Addr} {p : List Int} (h : WkAt w W N Sb B cb P p) (hb : Below W.heap.size W W') : WkAt w W' N Sb B cb P p :=
  ⟨h.s.below hb, h.b.below hb h.b.lt, h.p.below hb, h.w.trans (hb.mono h.w.size)⟩
theorem WkAt.c0 {w W : World} {N Sb : Nat} {B : Option Addr} {cb : Nat} {P : Option Addr} {p : List Int} (h : WkAt w W N Sb B cb P p) : W.cell? ⟨Sb, 0, none⟩ = some (.slice (some ⟨N + 3, 0, none⟩) 3 3) ∧ W.cell? ⟨Sb, 1, none⟩ = some (.slice B 3 cb) ∧ W.cell? ⟨Sb, 2, none⟩ = some (.slice (some ⟨N + 4, 0, none⟩) 1 1) :=
  ⟨Blk.cell h.b 0, Blk.cell h.b 1, Blk.cell h.b 2⟩

set_option maxRecDepth 100000 in
set_option maxHeartbeats 8000000 in
theorem works_any (w : World) :
    Calls Tryz.prog 29 #[] w fun e w' => e = .returned (.bool true) ∧ Below w.heap.size w w' := by
  have KC := Lib.hid (chapter_any w)
  go_enter Tryz.func29, Tryz.ntmps29
  go_wp2_with fail
  refine (KC.out).mono ?_
  rintro e w1 ⟨B, cb, rfl, hch, hb⟩
  have hsn := hch.snap (by simp)
  have H0 : Hid (WkAt w ((w1.alloc (.cells #[.slice (some ⟨w.heap.size + 3, 0, none⟩) 3 3, .slice B 3 cb, .slice (some ⟨w.heap.size + 4, 0, none⟩) 1 1] 26)).alloc (.cells (intsC [0, 2, -1]).toArray 3)) w.heap.size w1.heap.size B cb (some ⟨w1.heap.size + 1, 0, none⟩) [0, 2, -1]) := Lib.hid (by
    have h1 := below1 w1 (.cells #[.slice (some ⟨w.heap.size + 3, 0, none⟩) 3 3, .slice B 3 cb, .slice (some ⟨w.heap.size + 4, 0, none⟩) 1 1] 26)
    have h2 := Qu.below2 w1 (.cells #[.slice (some ⟨w.heap.size + 3, 0, none⟩) 3 3, .slice B 3 cb, .slice (some ⟨w.heap.size + 4, 0, none⟩) 1 1] 26) (.cells (intsC [0, 2, -1]).toArray 3)
    refine ⟨hsn.below h2, Blk.alloc (Blk.new w1 _ _) _, ?_, hb.trans (h2.mono hb.size)⟩
    have := ints_new (w1.alloc (.cells #[.slice (some ⟨w.heap.size + 3, 0, none⟩) 3 3, .slice B 3 cb, .slice (some ⟨w.heap.size + 4, 0, none⟩) 1 1] 26)) [0, 2, -1] (by simp)
    rwa [World.size_alloc] at this)
  clear hch hsn hb KC
  have hw0 : (w1.alloc (.cells #[.slice (some ⟨w.heap.size + 3, 0, none⟩) 3 3, .slice B 3 cb, .slice (some ⟨w.heap.size + 4, 0, none⟩) 1 1] 26)).heap.size = w1.heap.size + 1 := World.size_alloc _ _

  obtain ⟨b0, b1, b2⟩ := H0.out.c0
  have KD := Lib.hid (domain_any _ B _ 3 cb 1 (chN w.heap.size [98] false) chP chO 2 bZone _ H0.out.s (fun hc => short_of hc))
  rw [ch_dom2] at KD
  go_wp2_with fail
  refine (KD.out).mono ?_
  rintro e V1 ⟨rfl, hb⟩
  have H1 := Lib.hid (H0.out.below hb)
  clear hb KD H0  b0 b1 b2
  obtain ⟨b0, b1, b2⟩ := H1.out.c0
  have KA := Lib.hid (apply_any _ B _ _ 3 cb 1 3 (chN w.heap.size [98] false) chP chO [0, 2, -1] 1 0 0 _ H1.out.s H1.out.p)
  rw [ch_ap1] at KA
  go_wp2_with fail
  refine (KA.out).mono ?_
  rintro e V2 ⟨v, rfl, ho, hb⟩
  have H2 := Lib.hid (H1.out.below hb)
  obtain ⟨Aa, capa, rfl, _⟩ := La.own_slice ho
  have Ia_2 := Lib.hid (IntsAt.own ho)
  clear ho
  clear hb KA H1  b0 b1 b2
  obtain ⟨b0, b1, b2⟩ := H2.out.c0
  have KA := Lib.hid (apply_any _ B _ _ 3 cb 1 3 (chN w.heap.size [98] false) chP chO [0, 2, -1] 2 2 1 _ H2.out.s H2.out.p)
  rw [ch_ap2] at KA
  go_wp2_with fail
  refine (KA.out).mono ?_
  rintro e V3 ⟨v, rfl, ho, hb⟩
  have H3 := Lib.hid (H2.out.below hb)
  have Ia_3 := Lib.hid (Ia_2.out.below hb)
  obtain ⟨Ab, capb, rfl, _⟩ := La.own_slice ho
  have Ib_3 := Lib.hid (IntsAt.own ho)
  clear ho
  clear hb KA H2 Ia_2 b0 b1 b2
  obtain ⟨b0, b1, b2⟩ := H3.out.c0
  have KA := Lib.hid (apply_any _ B _ _ 3 cb 1 3 (chN w.heap.size [98] false) chP chO [0, 2, -1] 1 2 0 _ H3.out.s H3.out.p)
  rw [ch_ap3] at KA
  go_wp2_with fail
  refine (KA.out).mono ?_
  rintro e V4 ⟨v, rfl, ho, hb⟩
  have H4 := Lib.hid (H3.out.below hb)
  have Ia_4 := Lib.hid (Ia_3.out.below hb)
  have Ib_4 := Lib.hid (Ib_3.out.below hb)
  obtain ⟨Az, capz, rfl, _⟩ := La.own_slice ho
  clear ho
  clear hb KA H3 Ia_3 Ib_3 b0 b1 b2
  obtain ⟨b0, b1, b2⟩ := H4.out.c0
  have H5 := Lib.hid (H4.out.below (below1 V4 (.cells (intsC [0, 1, 1]).toArray 3)))
  have Ia_5 := Lib.hid (Ia_4.out.below (below1 V4 (.cells (intsC [0, 1, 1]).toArray 3)))
  have Ib_5 := Lib.hid (Ib_4.out.below (below1 V4 (.cells (intsC [0, 1, 1]).toArray 3)))
  have Iq_5 := Lib.hid (ints_new V4 [0, 1, 1] (by simp))
  clear H4 Ia_4 Ib_4
  have KM := Lib.hid (moves_any _ _ 3 3 [0, 2, -1] [0, 1, 1] _ (by simp) H5.out.p Iq_5.out)
  rw [ch_moves] at KM
  obtain ⟨b0, b1, b2⟩ := H5.out.c0
  go_wp2_with fail
  refine (KM.out).mono ?_
  rintro e V6 ⟨v, rfl, ho, hb⟩
  have H6 := Lib.hid (H5.out.below hb)
  have Ia_6 := Lib.hid (Ia_5.out.below hb)
  have Ib_6 := Lib.hid (Ib_5.out.below hb)
  have Iq_6 := Lib.hid (Iq_5.out.below hb)
  obtain ⟨Am, capm, rfl, _⟩ := La.own_slice ho
  have Im_6 := Lib.hid (La.own_slat ho)
  clear ho
  clear hb KM H5 Ia_5 Ib_5 Iq_5 b0 b1 b2
  obtain ⟨b0, b1, b2⟩ := H6.out.c0
  clear Iq_6
  have H7 := Lib.hid (H6.out.below (below1 V6 (.cells (intsC [0, 0, -1]).toArray 3)))
  have Ia_7 := Lib.hid (Ia_6.out.below (below1 V6 (.cells (intsC [0, 0, -1]).toArray 3)))
  have Ib_7 := Lib.hid (Ib_6.out.below (below1 V6 (.cells (intsC [0, 0, -1]).toArray 3)))
  have Im_7 := Lib.hid (Im_6.out.below (below1 V6 (.cells (intsC [0, 0, -1]).toArray 3)))
  have Iu_7 := Lib.hid (ints_new V6 [0, 0, -1] (by simp))
  clear H6 Ia_6 Ib_6 Im_6
  have KU := Lib.hid (used_any _ B _ _ 3 cb 1 3 (chN w.heap.size [98] false) chP chO [0, 0, -1] 0 _ H7.out.s Iu_7.out)
  rw [ch_used] at KU
  obtain ⟨b0, b1, b2⟩ := H7.out.c0
  go_wp2_with fail
  refine (KU.out).mono ?_
  rintro e V8 ⟨rfl, hb⟩
  have H8 := Lib.hid (H7.out.below hb)
  have Ia_8 := Lib.hid (Ia_7.out.below hb)
  have Ib_8 := Lib.hid (Ib_7.out.below hb)
  have Im_8 := Lib.hid (Im_7.out.below hb)
  have Iu_8 := Lib.hid (Iu_7.out.below hb)
  clear hb KU H7 Ia_7 Ib_7 Im_7 Iu_7 b0 b1 b2
  obtain ⟨b0, b1, b2⟩ := H8.out.c0
  clear Iu_8
  have hvg := Qu.vec_guard
  have hvq := fun w => Qu.eq_row 20 0 0 0 0 w
  have KR := Lib.hid (counts_any _ B _ _ 3 cb 1 3 (chN w.heap.size [98] false) chP chO [0, 2, -1] 0 _ H8.out.s H8.out.p)
  rw [ch_counts] at KR
  go_wp2_with fail
  refine (KR.out).mono ?_
  rintro e V9 ⟨v, rfl, ho, hb⟩
  have H9 := Lib.hid (H8.out.below hb)
  have Ia_9 := Lib.hid (Ia_8.out.below hb)
  have Ib_9 := Lib.hid (Ib_8.out.below hb)
  have Im_9 := Lib.hid (Im_8.out.below hb)
  obtain ⟨Ac, capc, rfl, _⟩ := La.own_slice ho
  have Ic_9 := Lib.hid (IntsAt.own ho)
  clear ho
  clear hb KR H8 Ia_8 Ib_8 Im_8 b0 b1 b2
  obtain ⟨b0, b1, b2⟩ := H9.out.c0
  have H10 := Lib.hid (H9.out.below (below1 V9 (.cells (intsC [1, 0, 1]).toArray 3)))
  have Ia_10 := Lib.hid (Ia_9.out.below (below1 V9 (.cells (intsC [1, 0, 1]).toArray 3)))
  have Ib_10 := Lib.hid (Ib_9.out.below (below1 V9 (.cells (intsC [1, 0, 1]).toArray 3)))
  have Im_10 := Lib.hid (Im_9.out.below (below1 V9 (.cells (intsC [1, 0, 1]).toArray 3)))
  have Ic_10 := Lib.hid (Ic_9.out.below (below1 V9 (.cells (intsC [1, 0, 1]).toArray 3)))
  have Ie_10 := Lib.hid (ints_new V9 [1, 0, 1] (by simp))
  clear H9 Ia_9 Ib_9 Im_9 Ic_9
  have KE := Lib.hid (eqInts_any _ _ _ 3 [1, 0, 1] [1, 0, 1] _ (by simp) Ic_10.out Ie_10.out)
  rw [show decide (([1, 0, 1] : List Int) = ([1, 0, 1] : List Int)) = true from by decide] at KE
  obtain ⟨b0, b1, b2⟩ := H10.out.c0
  go_wp2_with fail
  refine (KE.out).mono ?_
  rintro e V11 ⟨rfl, hb⟩
  have H11 := Lib.hid (H10.out.below hb)
  have Ia_11 := Lib.hid (Ia_10.out.below hb)
  have Ib_11 := Lib.hid (Ib_10.out.below hb)
  have Im_11 := Lib.hid (Im_10.out.below hb)
  have Ic_11 := Lib.hid (Ic_10.out.below hb)
  have Ie_11 := Lib.hid (Ie_10.out.below hb)
  clear hb KE H10 Ia_10 Ib_10 Im_10 Ic_10 Ie_10 b0 b1 b2
  obtain ⟨b0, b1, b2⟩ := H11.out.c0
  clear Ie_11
  clear Ic_11
  have KR := Lib.hid (spread_any _ B _ _ 3 cb 1 3 (chN w.heap.size [98] false) chP chO [0, 2, -1] 0 _ H11.out.s H11.out.p)
  rw [ch_spread] at KR
  go_wp2_with fail
  refine (KR.out).mono ?_
  rintro e V12 ⟨v, rfl, ho, hb⟩
  have H12 := Lib.hid (H11.out.below hb)
  have Ia_12 := Lib.hid (Ia_11.out.below hb)
  have Ib_12 := Lib.hid (Ib_11.out.below hb)
  have Im_12 := Lib.hid (Im_11.out.below hb)
  obtain ⟨As, caps, rfl, _⟩ := La.own_slice ho
  have Is_12 := Lib.hid (IntsAt.own ho)
  clear ho
  clear hb KR H11 Ia_11 Ib_11 Im_11 b0 b1 b2
  obtain ⟨b0, b1, b2⟩ := H12.out.c0
  have H13 := Lib.hid (H12.out.below (below1 V12 (.cells (intsC [1, 0]).toArray 3)))
  have Ia_13 := Lib.hid (Ia_12.out.below (below1 V12 (.cells (intsC [1, 0]).toArray 3)))
  have Ib_13 := Lib.hid (Ib_12.out.below (below1 V12 (.cells (intsC [1, 0]).toArray 3)))
  have Im_13 := Lib.hid (Im_12.out.below (below1 V12 (.cells (intsC [1, 0]).toArray 3)))
  have Is_13 := Lib.hid (Is_12.out.below (below1 V12 (.cells (intsC [1, 0]).toArray 3)))
  have Ie_13 := Lib.hid (ints_new V12 [1, 0] (by simp))
  clear H12 Ia_12 Ib_12 Im_12 Is_12
  have KE := Lib.hid (eqInts_any _ _ _ 2 [1, 0] [1, 0] _ (by simp) Is_13.out Ie_13.out)
  rw [show decide (([1, 0] : List Int) = ([1, 0] : List Int)) = true from by decide] at KE
  obtain ⟨b0, b1, b2⟩ := H13.out.c0
  go_wp2_with fail
  refine (KE.out).mono ?_
  rintro e V14 ⟨rfl, hb⟩
  have H14 := Lib.hid (H13.out.below hb)
  have Ia_14 := Lib.hid (Ia_13.out.below hb)
  have Ib_14 := Lib.hid (Ib_13.out.below hb)
  have Im_14 := Lib.hid (Im_13.out.below hb)
  have Is_14 := Lib.hid (Is_13.out.below hb)
  have Ie_14 := Lib.hid (Ie_13.out.below hb)
  clear hb KE H13 Ia_13 Ib_13 Im_13 Is_13 Ie_13 b0 b1 b2
  obtain ⟨b0, b1, b2⟩ := H14.out.c0
  clear Ie_14
  clear Is_14
  have KP := Lib.hid (placed_any _ B _ _ 3 cb 1 3 (chN w.heap.size [98] false) chP chO [0, 2, -1] 0 _ H14.out.s H14.out.p)
  rw [ch_placed] at KP
  go_wp2_with fail
  refine (KP.out).mono ?_
  rintro e V15 ⟨rfl, hb⟩
  have H15 := Lib.hid (H14.out.below hb)
  have Ia_15 := Lib.hid (Ia_14.out.below hb)
  have Ib_15 := Lib.hid (Ib_14.out.below hb)
  have Im_15 := Lib.hid (Im_14.out.below hb)
  clear hb KP H14 Ia_14 Ib_14 Im_14 b0 b1 b2
  obtain ⟨b0, b1, b2⟩ := H15.out.c0
  have KS := Lib.hid (domains_any _ B _ 3 cb 1 (chN w.heap.size [98] false) chP chO bZone _ H15.out.s)
  rw [ch_doms] at KS
  go_wp2_with fail
  refine (KS.out).mono ?_
  rintro e V16 ⟨v, rfl, ho, hb⟩
  have H16 := Lib.hid (H15.out.below hb)
  have Ia_16 := Lib.hid (Ia_15.out.below hb)
  have Ib_16 := Lib.hid (Ib_15.out.below hb)
  have Im_16 := Lib.hid (Im_15.out.below hb)
  obtain ⟨At, capt, rfl, _⟩ := La.own_slice ho
  have It_16 := Lib.hid (TextsAt.own (l := [[120], [121]]) ho)
  clear ho
  clear hb KS H15 Ia_15 Ib_15 Im_15 b0 b1 b2
  obtain ⟨b0, b1, b2⟩ := H16.out.c0
  have H17 := Lib.hid (H16.out.below (below1 V16 (.cells ([[120], [121]].map strV).toArray 9)))
  have Ia_17 := Lib.hid (Ia_16.out.below (below1 V16 (.cells ([[120], [121]].map strV).toArray 9)))
  have Ib_17 := Lib.hid (Ib_16.out.below (below1 V16 (.cells ([[120], [121]].map strV).toArray 9)))
  have Im_17 := Lib.hid (Im_16.out.below (below1 V16 (.cells ([[120], [121]].map strV).toArray 9)))
  have It_17 := Lib.hid (It_16.out.below (below1 V16 (.cells ([[120], [121]].map strV).toArray 9)))
  have Ix_17 := Lib.hid (texts_new V16 [[120], [121]] (by simp))
  clear H16 Ia_16 Ib_16 Im_16 It_16
  have KT := Lib.hid (eqTexts_any _ _ _ 2 [[120], [121]] [[120], [121]] _ (by simp) It_17.out Ix_17.out)
  rw [show decide (([[120], [121]] : List (List UInt8)) = [[120], [121]]) = true from by decide] at KT
  obtain ⟨b0, b1, b2⟩ := H17.out.c0
  go_wp2_with fail
  refine (KT.out).mono ?_
  rintro e V18 ⟨rfl, hb⟩
  have H18 := Lib.hid (H17.out.below hb)
  have Ia_18 := Lib.hid (Ia_17.out.below hb)
  have Ib_18 := Lib.hid (Ib_17.out.below hb)
  have Im_18 := Lib.hid (Im_17.out.below hb)
  have It_18 := Lib.hid (It_17.out.below hb)
  have Ix_18 := Lib.hid (Ix_17.out.below hb)
  clear hb KT H17 Ia_17 Ib_17 Im_17 It_17 Ix_17 b0 b1 b2
  obtain ⟨b0, b1, b2⟩ := H18.out.c0
  clear It_18
  clear Ix_18
  have H19 := Lib.hid (H18.out.below (below1 V18 (.cells (intsC [-1, 2, -1]).toArray 3)))
  have Ia_19 := Lib.hid (Ia_18.out.below (below1 V18 (.cells (intsC [-1, 2, -1]).toArray 3)))
  have Ib_19 := Lib.hid (Ib_18.out.below (below1 V18 (.cells (intsC [-1, 2, -1]).toArray 3)))
  have Im_19 := Lib.hid (Im_18.out.below (below1 V18 (.cells (intsC [-1, 2, -1]).toArray 3)))
  have Ie_19 := Lib.hid (ints_new V18 [-1, 2, -1] (by simp))
  clear H18 Ia_18 Ib_18 Im_18
  have KE := Lib.hid (eqInts_any _ _ _ 3 [-1, 2, -1] [-1, 2, -1] _ (by simp) Ia_19.out Ie_19.out)
  rw [show decide (([-1, 2, -1] : List Int) = ([-1, 2, -1] : List Int)) = true from by decide] at KE
  obtain ⟨b0, b1, b2⟩ := H19.out.c0
  go_wp2_with fail
  refine (KE.out).mono ?_
  rintro e V20 ⟨rfl, hb⟩
  have H20 := Lib.hid (H19.out.below hb)
  have Ia_20 := Lib.hid (Ia_19.out.below hb)
  have Ib_20 := Lib.hid (Ib_19.out.below hb)
  have Im_20 := Lib.hid (Im_19.out.below hb)
  have Ie_20 := Lib.hid (Ie_19.out.below hb)
  clear hb KE H19 Ia_19 Ib_19 Im_19 Ie_19 b0 b1 b2
  obtain ⟨b0, b1, b2⟩ := H20.out.c0
  clear Ie_20
  clear Ia_20
  have H21 := Lib.hid (H20.out.below (below1 V20 (.cells (intsC [0, 2, 1]).toArray 3)))
  have Ib_21 := Lib.hid (Ib_20.out.below (below1 V20 (.cells (intsC [0, 2, 1]).toArray 3)))
  have Im_21 := Lib.hid (Im_20.out.below (below1 V20 (.cells (intsC [0, 2, 1]).toArray 3)))
  have Ie_21 := Lib.hid (ints_new V20 [0, 2, 1] (by simp))
  clear H20 Ib_20 Im_20
  have KE := Lib.hid (eqInts_any _ _ _ 3 [0, 2, 1] [0, 2, 1] _ (by simp) Ib_21.out Ie_21.out)
  rw [show decide (([0, 2, 1] : List Int) = ([0, 2, 1] : List Int)) = true from by decide] at KE
  obtain ⟨b0, b1, b2⟩ := H21.out.c0
  go_wp2_with fail
  refine (KE.out).mono ?_
  rintro e V22 ⟨rfl, hb⟩
  have H22 := Lib.hid (H21.out.below hb)
  have Ib_22 := Lib.hid (Ib_21.out.below hb)
  have Im_22 := Lib.hid (Im_21.out.below hb)
  have Ie_22 := Lib.hid (Ie_21.out.below hb)
  clear hb KE H21 Ib_21 Im_21 Ie_21 b0 b1 b2
  obtain ⟨b0, b1, b2⟩ := H22.out.c0
  clear Ie_22
  clear Ib_22
  obtain ⟨gm, om, hAm, m0⟩ := Im_22.out 0 (.int .i64 1) rfl
  obtain ⟨gm1, om1, hAm1, m1⟩ := Im_22.out 1 (.int .i64 1) rfl
  obtain ⟨gm2, om2, hAm2, m2⟩ := Im_22.out 2 (.int .i64 2) rfl
  obtain ⟨gm3, om3, hAm3, m3⟩ := Im_22.out 3 (.int .i64 1) rfl
  subst hAm
  cases hAm1
  cases hAm2
  cases hAm3
  rw [Nat.add_zero] at m0
  have hmg := mov_guard
  have hmq1 := fun w => eq_mov 1 1 w
  have hmq2 := fun w => eq_mov 2 1 w
  go_wp2
  go_ret
  exact ⟨rfl, H22.out.w⟩
end Go.Proofs.YtoankplhahbgkaaGreat

namespace Go.Proofs.YtoankplhahbgkaaGreat
open Go.ChangeShapes Go.WideShapes Go.ChangeAt Go.RowKit

theorem own : ownKnob Tryz.prog.godebug = none := by kernel_rfl
theorem laidOut : laidOutB Tryz.prog = true := by kernel_rfl

theorem all_stay {H : Type} {enc : TypeId × Value → H} {P : Program} (hl : laidOutB P = true) {W W' : World} (hb : Below W.heap.size W W') :
    ∀ {ts : List TypeId} {vs : List Value} {ds : List (DataW H)} {ps : List MemPlace}, (∀ t ∈ ts, P.readableRec t = true ∧ t < P.types.size) → (∀ x ∈ ps, x.block < W.heap.size) →
      DataW.TrodAll enc P W 0 (fun _ => true) true ts vs ds ps → DataW.TrodAll enc P W' 0 (fun b => decide (b < W.heap.size)) true ts vs ds ps
  | [], vs, ds, ps, _, _, h => by
    obtain ⟨rfl, rfl, rfl⟩ := trodAll_nil h
    exact trodAll_mk0
  | t :: ts, vs, ds, ps, hr, hlt, h => by
    obtain ⟨v, vs', d, ds', p, q, rfl, rfl, rfl, h0, h1⟩ := trodAll_cons h
    refine trodAll_cons_mk (Below.trod hl (hr t (by simp)).1 (hr t (by simp)).2 h0 hb (fun x hx => hlt x (by simp [hx]))) (all_stay hl hb (fun t' ht' => hr t' (by simp [ht'])) (fun x hx => hlt x (by simp [hx])) h1)

/-- The last step of each law. -/
theorem law_post {H : Type} {enc : TypeId × Value → H} {f : Func} {s : ChangeSpec} {W W' : World} {args : Array Value} {ds gs : List (DataW H)} {before : List MemPlace}
    (hW : DataW.Whole enc Tryz.prog f.params.toList s.vars false W args.toList ds gs before) (hv : s.vars = [])
    (hfn : ∀ x : List (DataW H), x.length = f.params.toList.length → s.fn H x = { results := [.lit (.bool true)], args := x })
    (hres : f.resultTypes = #[4]) (hr : ∀ t ∈ f.params.toList, Tryz.prog.readableRec t = true ∧ t < Tryz.prog.types.size) (hb : Below W.heap.size W W') :
    s.post enc Tryz.prog f false true false false W args (.bool true) W' := by
  have hW' := hW
  have hlt : ∀ p ∈ before, p.block < W.heap.size := fun p hp => hW.lt p hp
  obtain ⟨p, q, hA, hV, rfl, _, _⟩ := hW
  rw [hv] at hV
  obtain ⟨rfl, rfl⟩ := trodVars_none hV
  have hlen : ∀ {ts : List TypeId} {vs : List Value} {es : List (DataW H)} {ps : List MemPlace}, DataW.TrodAll enc Tryz.prog W 0 (fun _ => true) true ts vs es ps → es.length = ts.length := by
    intro ts
    induction ts with
    | nil => intro vs es ps h; obtain ⟨_, rfl, _⟩ := trodAll_nil h; rfl
    | cons t ts ih =>
      intro vs es ps h
      obtain ⟨v, vs', d, ds', p, q, rfl, rfl, rfl, _, h1⟩ := trodAll_cons h
      simp [ih h1]
  have hf := hfn (ds ++ []) (by simpa using hlen hA)
  refine ⟨ds, [], p ++ [], [], p, [], hW', ?_, ?_, ?_, hb.frame _, fun h => by cases h⟩
  · rw [hf, hres]
    exact trodAll_cons_mk (shut_bool Tryz.underlying4 _) trodAll_mk0
  · rw [hf]
    simpa using all_stay laidOut hb hr (fun x hx => hlt x (by simp [hx])) hA
  · rw [hf, hv]
    rfl

/-- A world for the witnesses. -/
noncomputable def restWorld (os : Os) : World := World.holding Tryz.prog os ⟨#[], #[], []⟩

end Go.Proofs.YtoankplhahbgkaaGreat

namespace Go.Proofs.YtoankplhahbgkaaGreat
open Go.RowKit

theorem ch_bad1 (N : Nat) : placeE (chN N [98] false) chP chO [] = 2 := by kernel_rfl
theorem ch_bad2 (N : Nat) : placeE (chN N [98] false) chP chO [0, 0] = 2 := by kernel_rfl
theorem ch_bad3 (N : Nat) : placeE (chN N [98] false) chP chO [0, 0, 0, 0] = 2 := by kernel_rfl
theorem ch_bad4 (N : Nat) : placeE (chN N [98] false) chP chO [0, 0, 3] = 2 := by kernel_rfl
theorem ch_bad5 (N : Nat) : placeE (chN N [98] false) chP chO [0, 0, -2] = 2 := by kernel_rfl
def stepsL : List (Int × Int × Int) := [(0, 0, 0), (3, 0, 0), (1, -1, 0), (1, 3, 0), (1, 0, 1), (2, 2, 3), (2, 2, -1), (2, 0, 1), (1, 2, 0)]
def wantL : List Int := [2, 2, 9, 9, 9, 9, 9, 110, 110]
def stepsC : List Value := stepsL.flatMap fun x => [.int .i64 x.1, .int .i64 x.2.1, .int .i64 x.2.2]
theorem ch_steps (N : Nat) (k : Nat) (hk : k < 9) : ∃ kd pd nd e r, stepsC[k * 3]? = some (.int .i64 kd) ∧ stepsC[k * 3 + 1]? = some (.int .i64 pd) ∧ stepsC[k * 3 + 2]? = some (.int .i64 nd) ∧ (intsC wantL)[k]? = some (.int .i64 e) ∧ applyF (chN N [98] false) chP chO [0, 2, -1] kd pd nd = (r, e) := by
  match k, hk with
  | 0, _ => exact ⟨0, 0, 0, 2, [], rfl, rfl, rfl, rfl, by kernel_rfl⟩
  | 1, _ => exact ⟨3, 0, 0, 2, [], rfl, rfl, rfl, rfl, by kernel_rfl⟩
  | 2, _ => exact ⟨1, -1, 0, 9, [], rfl, rfl, rfl, rfl, by kernel_rfl⟩
  | 3, _ => exact ⟨1, 3, 0, 9, [], rfl, rfl, rfl, rfl, by kernel_rfl⟩
  | 4, _ => exact ⟨1, 0, 1, 9, [], rfl, rfl, rfl, rfl, by kernel_rfl⟩
  | 5, _ => exact ⟨2, 2, 3, 9, [], rfl, rfl, rfl, rfl, by kernel_rfl⟩
  | 6, _ => exact ⟨2, 2, -1, 9, [], rfl, rfl, rfl, rfl, by kernel_rfl⟩
  | 7, _ => exact ⟨2, 0, 1, 110, [], rfl, rfl, rfl, rfl, by kernel_rfl⟩
  | 8, _ => exact ⟨1, 2, 0, 110, [], rfl, rfl, rfl, rfl, by kernel_rfl⟩
theorem ch_apL (N : Nat) : applyF (chN N [98] true) chP chO [0, 2, -1] 2 2 1 = ([], 110) := by kernel_rfl
theorem ch_plL (N : Nat) : placeE (chN N [98] true) chP chO [1, -1, -1] = 2 := by kernel_rfl
theorem ch_plA (N : Nat) : placeE (chN N [65] true) chP chO [0, 2, -1] = 50 := by kernel_rfl
theorem ch_used3 (N : Nat) : rowV (usedF (chN N [98] false) chP chO [0, 2, -1] 3) = .agg #[.int .i64 0, .int .i64 0, .int .i64 0, .int .i64 0, .int .i64 0] := by kernel_rfl
theorem ch_usedM (N : Nat) : rowV (usedF (chN N [98] false) chP chO [0, 2, -1] (-1)) = .agg #[.int .i64 0, .int .i64 0, .int .i64 0, .int .i64 0, .int .i64 0] := by kernel_rfl
theorem ch_counts1 (N : Nat) : countsF (chN N [98] false) chP chO [0, 2, -1] 1 = [] := by kernel_rfl
theorem ch_movesN : movesF [] [0, 2, -1] = [] := by kernel_rfl
theorem bad_ap {ns : List NodeD} {ps : List PodD} {os : List OwnD} {l : List Int} (h : placeE ns ps os l = 2) : applyF ns ps os l 1 0 0 = ([], 2) := by
  unfold applyF
  rw [h, if_neg (by decide)]
theorem bad_used {ns : List NodeD} {ps : List PodD} {os : List OwnD} {l : List Int} (h : placeE ns ps os l = 2) : rowV (usedF ns ps os l 0) = .agg #[.int .i64 0, .int .i64 0, .int .i64 0, .int .i64 0, .int .i64 0] := by
  have e : usedF ns ps os l 0 = fun _ => 0 := by
    funext k
    unfold usedF
    rw [if_neg (by rw [h]; rintro ⟨h1, _⟩; cases h1)]
  rw [e]
theorem bad_placed {ns : List NodeD} {ps : List PodD} {os : List OwnD} {l : List Int} (h : placeE ns ps os l = 2) : placedF ns ps os l 0 = 0 := by
  have e : ownerB ns ps os l 0 = false := by
    unfold ownerB
    rw [h]
    rfl
  unfold placedF
  rw [e]
  rfl

/-- The chapter's cluster (a name and a mark turned), its box lie in memory. -/
structure NmAt (w W : World) (N Sb : Nat) (B : Option Addr) (cb : Nat) (nm : List UInt8) (lost : Bool) : Prop where
  c : ChapAt W N (.slice B 3 cb) 3 nm lost
  b : Blk W Sb #[.slice (some ⟨N + 3, 0, none⟩) 3 3, .slice B 3 cb, .slice (some ⟨N + 4, 0, none⟩) 1 1] 26
  w : Below w.heap.size w W
theorem NmAt.below {w W W' : World} {N Sb : Nat} {B : Option Addr} {cb : Nat} {nm : List UInt8} {lost : Bool} (h : NmAt w W N Sb B cb nm lost) (hb : Below W.heap.size W W') : NmAt w W' N Sb B cb nm lost :=
  ⟨h.c.kept hb, h.b.below hb h.b.lt, h.w.trans (hb.mono h.w.size)⟩
theorem NmAt.s {w W : World} {N Sb : Nat} {B : Option Addr} {cb : Nat} {nm : List UInt8} {lost : Bool} (h : NmAt w W N Sb B cb nm lost) (hn : nm.length ≤ 1000) : SnapAt W (some ⟨N + 3, 0, none⟩) B (some ⟨N + 4, 0, none⟩) 3 cb 1 (chN N nm lost) chP chO := h.c.snap hn
theorem NmAt.c0 {w W : World} {N Sb : Nat} {B : Option Addr} {cb : Nat} {nm : List UInt8} {lost : Bool} (h : NmAt w W N Sb B cb nm lost) : W.cell? ⟨Sb, 0, none⟩ = some (.slice (some ⟨N + 3, 0, none⟩) 3 3) ∧ W.cell? ⟨Sb, 1, none⟩ = some (.slice B 3 cb) ∧ W.cell? ⟨Sb, 2, none⟩ = some (.slice (some ⟨N + 4, 0, none⟩) 1 1) :=
  ⟨Blk.cell h.b 0, Blk.cell h.b 1, Blk.cell h.b 2⟩
/-- Placements that may not be, in a row. -/
def BadAt (W : World) (N Bb : Nat) : Prop := ∀ k, k < 5 → ∃ A c l, W.cell? ⟨Bb, k, none⟩ = some (.slice A (List.length l) c) ∧ IntsAt W A c l ∧ placeE (chN N [98] false) chP chO l = 2
theorem bad_of {W : World} {N Bb : Nat} {a1 a2 a3 a4 : Option Addr} (hB : Blk W Bb #[.slice none 0 0, .slice a1 2 2, .slice a2 4 4, .slice a3 3 3, .slice a4 3 3] 27) (h1 : IntsAt W a1 2 [0, 0]) (h2 : IntsAt W a2 4 [0, 0, 0, 0]) (h3 : IntsAt W a3 3 [0, 0, 3]) (h4 : IntsAt W a4 3 [0, 0, -2]) : BadAt W N Bb := by
  intro k hk
  match k, hk with
  | 0, _ => exact ⟨none, 0, [], Blk.cell hB 0, IntsAt.nil W, ch_bad1 N⟩
  | 1, _ => exact ⟨a1, 2, [0, 0], Blk.cell hB 1, h1, ch_bad2 N⟩
  | 2, _ => exact ⟨a2, 4, [0, 0, 0, 0], Blk.cell hB 2, h2, ch_bad3 N⟩
  | 3, _ => exact ⟨a3, 3, [0, 0, 3], Blk.cell hB 3, h3, ch_bad4 N⟩
  | 4, _ => exact ⟨a4, 3, [0, 0, -2], Blk.cell hB 4, h4, ch_bad5 N⟩

theorem blk_ne {W : World} {a b : Nat} {cs ds : Array Value} {t u : TypeId} (h : Blk W a cs t) (h' : Blk W b ds u) (ht : t ≠ u) : a ≠ b := fun e => by
  subst e
  unfold Blk at h h'
  rw [h] at h'
  cases h'
  exact ht rfl
theorem ints_oth {W : World} {P c g : Nat} {l : List Int} (h : IntsAt W (some ⟨P, 0, none⟩) c l) (hg : P ≠ g) (i : Nat) (v : Value) : IntsAt (W.setCell ⟨g, i, none⟩ v) (some ⟨P, 0, none⟩) c l := by
  refine ⟨fun j y hj => ?_, h.le, h.most⟩
  obtain ⟨b, o, hA, hc⟩ := h.cells j y hj
  cases hA
  exact ⟨P, 0, rfl, (World.cell?_of_block (a := ⟨P, 0 + j, none⟩) (Below.heap_setCell W ⟨g, i, none⟩ v P hg)).trans hc⟩
theorem ints_nb {W : World} {P c g : Nat} {x : Int} {l : List Int} {cs : List Value} {t : TypeId} {b : List UInt8} (h : IntsAt W (some ⟨P, 0, none⟩) c (x :: l)) (hg : Blk W g cs.toArray t) (h0 : cs[0]? = some (strV b)) : P ≠ g := fun e => by
  subst e
  obtain ⟨b', o', hA, hc⟩ := h.cells 0 (.int .i64 x) rfl
  cases hA
  rw [Nat.add_zero, Blk.cell hg 0, List.getElem?_toArray, h0] at hc
  cases hc
theorem NmAt.lose {w W : World} {Sb : Nat} {B : Option Addr} {cb : Nat} (h : NmAt w W w.heap.size Sb B cb [98] false) : NmAt w (W.setCell ⟨w.heap.size + 3, 19, none⟩ (.bool true)) w.heap.size Sb B cb [98] true :=
  ⟨⟨h.c.l1.oth (by omega) _ _, h.c.l2.oth (by omega) _ _, h.c.n.set 19 (.bool true), h.c.o.oth (by omega) _ _, ch_set h.c.p h.c.n (by decide) _ _⟩, h.b.oth (blk_ne h.b h.c.n (by decide)) _ _, h.w.setCell (p := ⟨w.heap.size + 3, 19, none⟩) (Nat.le_add_right _ _) _⟩
theorem NmAt.name {w W : World} {Sb : Nat} {B : Option Addr} {cb : Nat} (h : NmAt w W w.heap.size Sb B cb [98] true) : NmAt w (W.setCell ⟨w.heap.size + 3, 10, none⟩ (strV [65])) w.heap.size Sb B cb [65] true :=
  ⟨⟨h.c.l1.oth (by omega) _ _, h.c.l2.oth (by omega) _ _, h.c.n.set 10 (strV [65]), h.c.o.oth (by omega) _ _, ch_set h.c.p h.c.n (by decide) _ _⟩, h.b.oth (blk_ne h.b h.c.n (by decide)) _ _, h.w.setCell (p := ⟨w.heap.size + 3, 10, none⟩) (Nat.le_add_right _ _) _⟩

end Go.Proofs.YtoankplhahbgkaaGreat

namespace Go.Proofs.YtoankplhahbgkaaGreat
open Go.ChangeShapes Go.WideShapes Go.ChangeAt Go.RowKit Go.Deep

theorem kcStr : Tryz.prog.cellsOf 9 = 1 := by kernel_rfl
theorem kcInt : Tryz.prog.cellsOf 3 = 1 := by kernel_rfl
theorem kcBool : Tryz.prog.cellsOf 4 = 1 := by kernel_rfl
theorem kcVec : Tryz.prog.cellsOf 33 = 5 := by kernel_rfl
theorem kcLabs : Tryz.prog.cellsOf 57 = 1 := by kernel_rfl
theorem kcTers : Tryz.prog.cellsOf 58 = 1 := by kernel_rfl
theorem kcNear : Tryz.prog.cellsOf 60 = 2 := by kernel_rfl
theorem kcLab : Tryz.prog.cellsOf 81 = 2 := by kernel_rfl
theorem kcTer : Tryz.prog.cellsOf 85 = 3 := by kernel_rfl
theorem kcNode : Tryz.prog.cellsOf 83 = 10 := by kernel_rfl
theorem kcPod : Tryz.prog.cellsOf 62 = 15 := by kernel_rfl
theorem kcOwner : Tryz.prog.cellsOf 64 = 5 := by kernel_rfl
theorem kcNodes : Tryz.prog.cellsOf 22 = 1 := by kernel_rfl
theorem kcPods : Tryz.prog.cellsOf 23 = 1 := by kernel_rfl
theorem kcOwners : Tryz.prog.cellsOf 24 = 1 := by kernel_rfl
theorem kcSnap : Tryz.prog.cellsOf 26 = 3 := by kernel_rfl
theorem kmax {n : Nat} (h : n ≤ maxLen) : n ≤ 9223372036854775807 := by unfold maxLen at h; omega

/-- Where a cell of a list of rows stands. -/
theorem flat_at {T : Type} (f : T → List Value) (k : Nat) (hf : ∀ y, (f y).length = k) : ∀ (l : List T) (j : Nat) (y : Value), (l.flatMap f)[j]? = some y → ∃ i r x, l[i]? = some x ∧ r < k ∧ j = i * k + r ∧ (f x)[r]? = some y
  | [], j, y, h => by simp at h
  | x :: t, j, y, h => by
    rw [List.flatMap_cons] at h
    by_cases hj : j < k
    · rw [List.getElem?_append_left (by rw [hf]; exact hj)] at h
      exact ⟨0, j, x, rfl, hj, by omega, h⟩
    · rw [List.getElem?_append_right (by rw [hf]; omega), hf] at h
      obtain ⟨i, r, z, h1, h2, h3, h4⟩ := flat_at f k hf t (j - k) y h
      refine ⟨i + 1, r, z, by simpa using h1, h2, ?_, h4⟩
      rw [Nat.succ_mul]
      omega

/-- A slice of rows, opened. -/
theorem slice_cells {H : Type} {enc : TypeId × Value → H} {W : World} {held : Bool} {T : Type} (f : T → List Value) (k : Nat) (Good : T → Prop) {t e : TypeId} (ht : Tryz.prog.underlying t = some (.slice e)) (hk : Tryz.prog.cellsOf e = k) (hpos : 0 < k) (hf : ∀ y, (f y).length = k)
    (hel : ∀ n cs x, DataW.trod enc Tryz.prog W 0 (fun _ => true) held n e cs = some x → ∃ y : T, cs = f y ∧ Good y) {fuel : Nat} {cs : List Value} {x : DataW H × List MemPlace} (h : DataW.trod enc Tryz.prog W 0 (fun _ => true) held fuel t cs = some x) :
    ∃ (A : Option Addr) (cap : Nat) (l : List T), cs = [.slice A l.length cap] ∧ La.SlAt W A (l.flatMap f) ∧ l.length ≤ cap ∧ cap ≤ maxLen ∧ ∀ y ∈ l, Good y := by
  rcases open_slice ht h with ⟨rfl, _⟩ | ⟨a, len, cap, m, n, D, Pl, rfl, _, hl, hm, hmm, _, hx⟩
  · exact ⟨none, 0, [], rfl, fun j y hj => by simp at hj, by simp, by simp, fun x hx => by simp at hx⟩
  · simp only [if_true] at hmm
    subst hmm
    rw [hk] at hx
    rcases Nat.eq_zero_or_pos len with hz | hz
    · subst hz
      exact ⟨some a, m, [], rfl, fun j y hj => by simp at hj, by simp, hm, fun x hx => by simp at hx⟩
    have hne : Nonempty T := by
      obtain ⟨cs', h1, h2⟩ := hx 0 (by omega)
      obtain ⟨y, _⟩ := hel _ _ _ h2
      exact ⟨y⟩
    have hinh : Inhabited T := Classical.inhabited_of_nonempty hne
    obtain ⟨L, hL⟩ := choose_lt (α := T) (p := fun i y => (∀ r v, (f y)[r]? = some v → W.cell? ((a.add (i * k)).add r) = some v) ∧ Good y) (n := len) (fun i hi => by
      obtain ⟨cs', h1, h2⟩ := hx i (by omega)
      obtain ⟨y, e, hg⟩ := hel _ _ _ h2
      subst e
      obtain ⟨_, _, hc⟩ := World.cells?_some h1
      refine ⟨y, fun r v hv => ?_, hg⟩
      have hr : r < k := by
        have := (List.getElem?_eq_some_iff.1 hv).1
        rwa [hf] at this
      rw [hc r hr]
      exact hv)
    refine ⟨some a, m, (List.range len).map L, by simp, ?_, by simpa using hl, hm, ?_⟩
    · rcases Nat.eq_zero_or_pos len with h0 | hp
      · subst h0
        exact fun j y hj => by simp at hj
      · obtain ⟨b, off, spot⟩ := a
        have hspot : spot = none := by
          have h9 : 0 < (f (L 0)).length := by rw [hf]; exact hpos
          have := (hL 0 hp).1 0 _ (List.getElem?_eq_getElem h9)
          simpa [Addr.add] using World.cell?_spot this
        subst hspot
        intro j y hj
        obtain ⟨i, r, z, h1, h2, h3, h4⟩ := flat_at f k hf _ j y hj
        have hil : i < len := by
          have := (List.getElem?_eq_some_iff.1 h1).1
          simpa using this
        rw [List.getElem?_map, List.getElem?_range hil] at h1
        simp only [Option.map_some, Option.some.injEq] at h1
        subst h1
        have hc := (hL i hil).1 r y h4
        rw [WideShapes.add_plain, WideShapes.add_plain] at hc
        refine ⟨b, off, rfl, ?_⟩
        rw [h3, ← Nat.add_assoc]
        exact hc
    · intro y hy
      obtain ⟨i, hi, rfl⟩ := List.mem_map.1 hy
      exact (hL i (List.mem_range.1 hi)).2

section
variable {H : Type} {enc : TypeId × Value → H} {W : World} {held : Bool}

theorem str_one {n : Nat} {c : Value} {x : DataW H × List MemPlace} (h : DataW.trod enc Tryz.prog W 0 (fun _ => true) held n 9 [c] = some x) : ∃ s : List UInt8, c = strV s ∧ s.length ≤ maxLen := by
  obtain ⟨s, e, _, m⟩ := DataW.trod_string Tryz.underlying9 h
  simp only [List.cons.injEq, and_true] at e
  exact ⟨s.data.toList, e, m⟩
theorem int_one {n : Nat} {c : Value} {x : DataW H × List MemPlace} (h : DataW.trod enc Tryz.prog W 0 (fun _ => true) held n 3 [c] = some x) : ∃ k : Int, c = .int .i64 k := by
  obtain ⟨s, e, _, m⟩ := DataW.trod_int Tryz.underlying3 h
  simp only [List.cons.injEq, and_true] at e
  exact ⟨s, e⟩
theorem bool_one {n : Nat} {c : Value} {x : DataW H × List MemPlace} (h : DataW.trod enc Tryz.prog W 0 (fun _ => true) held n 4 [c] = some x) : ∃ k : Bool, c = .bool k := by
  obtain ⟨s, e, _⟩ := DataW.trod_bool Tryz.underlying4 h
  simp only [List.cons.injEq, and_true] at e
  exact ⟨s, e⟩
set_option maxRecDepth 100000 in
theorem vec_one {n : Nat} {c0 c1 c2 c3 c4 : Value} {x : DataW H × List MemPlace} (h : DataW.trod enc Tryz.prog W 0 (fun _ => true) held n 33 [c0, c1, c2, c3, c4] = some x) : ∃ r : Nat → Int, c0 = .int .i64 (r 0) ∧ c1 = .int .i64 (r 1) ∧ c2 = .int .i64 (r 2) ∧ c3 = .int .i64 (r 3) ∧ c4 = .int .i64 (r 4) := by
  obtain ⟨xs, m, _, _, hl, hxl, hf⟩ := DataW.trod_array Tryz.underlying33 h
  match xs, hxl with
  | [x0, x1, x2, x3, x4], _ =>
    have h0 := hf 0 (by omega)
    have h1 := hf 1 (by omega)
    have h2 := hf 2 (by omega)
    have h3 := hf 3 (by omega)
    have h4 := hf 4 (by omega)
    rw [kcInt] at h0 h1 h2 h3 h4
    obtain ⟨a0, e0⟩ := int_one (enc := enc) (W := W) (held := held) (n := m) (c := c0) (x := x0) h0
    obtain ⟨a1, e1⟩ := int_one (enc := enc) (W := W) (held := held) (n := m) (c := c1) (x := x1) h1
    obtain ⟨a2, e2⟩ := int_one (enc := enc) (W := W) (held := held) (n := m) (c := c2) (x := x2) h2
    obtain ⟨a3, e3⟩ := int_one (enc := enc) (W := W) (held := held) (n := m) (c := c3) (x := x3) h3
    obtain ⟨a4, e4⟩ := int_one (enc := enc) (W := W) (held := held) (n := m) (c := c4) (x := x4) h4
    exact ⟨fun k => match k with | 0 => a0 | 1 => a1 | 2 => a2 | 3 => a3 | _ => a4, e0, e1, e2, e3, e4⟩
set_option maxRecDepth 100000 in
theorem lab_row (n : Nat) (cs : List Value) (x : DataW H × List MemPlace) (h : DataW.trod enc Tryz.prog W 0 (fun _ => true) held n 81 cs = some x) : ∃ y : L2, cs = [strV y.1, strV y.2] ∧ (y.1.length ≤ 9223372036854775807 ∧ y.2.length ≤ 9223372036854775807) := by
  obtain ⟨xs, m, _, _, hl, hxl, hf⟩ := DataW.trod_struct Tryz.underlying81 h
  rw [kcLab] at hl
  match cs, hl, xs, hxl with
  | [c0, c1], _, [y0, y1], _ =>
    have h0 : DataW.trod enc Tryz.prog W 0 (fun _ => true) held m 9 ((([c0, c1] : List Value).drop 0).take (Tryz.prog.cellsOf 9)) = some y0 := hf 0 _ rfl
    have h1 : DataW.trod enc Tryz.prog W 0 (fun _ => true) held m 9 ((([c0, c1] : List Value).drop 1).take (Tryz.prog.cellsOf 9)) = some y1 := hf 1 _ rfl
    rw [kcStr] at h0 h1
    obtain ⟨s0, e0, m0⟩ := str_one (enc := enc) (W := W) (held := held) (n := m) (c := c0) (x := y0) h0
    obtain ⟨s1, e1, m1⟩ := str_one (enc := enc) (W := W) (held := held) (n := m) (c := c1) (x := y1) h1
    exact ⟨(s0, s1), by rw [e0, e1], kmax m0, kmax m1⟩
set_option maxRecDepth 100000 in
theorem ter_row (n : Nat) (cs : List Value) (x : DataW H × List MemPlace) (h : DataW.trod enc Tryz.prog W 0 (fun _ => true) held n 85 cs = some x) : ∃ y : T3, cs = [.int .i64 y.1, strV y.2.1, strV y.2.2] ∧ (y.2.1.length ≤ 9223372036854775807 ∧ y.2.2.length ≤ 9223372036854775807) := by
  obtain ⟨xs, m, _, _, hl, hxl, hf⟩ := DataW.trod_struct Tryz.underlying85 h
  rw [kcTer] at hl
  match cs, hl, xs, hxl with
  | [c0, c1, c2], _, [y0, y1, y2], _ =>
    have h0 : DataW.trod enc Tryz.prog W 0 (fun _ => true) held m 3 ((([c0, c1, c2] : List Value).drop 0).take (Tryz.prog.cellsOf 3)) = some y0 := hf 0 _ rfl
    have h1 : DataW.trod enc Tryz.prog W 0 (fun _ => true) held m 9 ((([c0, c1, c2] : List Value).drop 1).take (Tryz.prog.cellsOf 9)) = some y1 := hf 1 _ rfl
    have h2 : DataW.trod enc Tryz.prog W 0 (fun _ => true) held m 9 ((([c0, c1, c2] : List Value).drop 2).take (Tryz.prog.cellsOf 9)) = some y2 := hf 2 _ rfl
    rw [kcInt] at h0
    rw [kcStr] at h1 h2
    obtain ⟨k, e0⟩ := int_one (enc := enc) (W := W) (held := held) (n := m) (c := c0) (x := y0) h0
    obtain ⟨s1, e1, m1⟩ := str_one (enc := enc) (W := W) (held := held) (n := m) (c := c1) (x := y1) h1
    obtain ⟨s2, e2, m2⟩ := str_one (enc := enc) (W := W) (held := held) (n := m) (c := c2) (x := y2) h2
    exact ⟨(k, s1, s2), by rw [e0, e1, e2], kmax m1, kmax m2⟩
theorem labs_one {n : Nat} {c : Value} {x : DataW H × List MemPlace} (h : DataW.trod enc Tryz.prog W 0 (fun _ => true) held n 57 [c] = some x) : ∃ A cap l, c = .slice A (List.length l) cap ∧ ListL W A cap l := by
  obtain ⟨A, cap, l, e, hs, h1, h2, hg⟩ := slice_cells (T := L2) (fun y => [strV y.1, strV y.2]) 2 _ Tryz.underlying57 kcLab (by omega) (fun _ => rfl) (fun n cs x h => lab_row n cs x h) h
  simp only [List.cons.injEq, and_true] at e
  exact ⟨A, cap, l, e, h1, kmax h2, hs, hg⟩
theorem ters_one {n : Nat} {c : Value} {x : DataW H × List MemPlace} (h : DataW.trod enc Tryz.prog W 0 (fun _ => true) held n 58 [c] = some x) : ∃ A cap l, c = .slice A (List.length l) cap ∧ ListT W A cap l := by
  obtain ⟨A, cap, l, e, hs, h1, h2, hg⟩ := slice_cells (T := T3) (fun y => [.int .i64 y.1, strV y.2.1, strV y.2.2]) 3 _ Tryz.underlying58 kcTer (by omega) (fun _ => rfl) (fun n cs x h => ter_row n cs x h) h
  simp only [List.cons.injEq, and_true] at e
  exact ⟨A, cap, l, e, h1, kmax h2, hs, hg⟩
set_option maxRecDepth 100000 in
theorem near_one {n : Nat} {c0 c1 : Value} {x : DataW H × List MemPlace} (h : DataW.trod enc Tryz.prog W 0 (fun _ => true) held n 60 [c0, c1] = some x) : ∃ s A cap l, c0 = strV s ∧ s.length ≤ 9223372036854775807 ∧ c1 = .slice A (List.length l) cap ∧ ListT W A cap l := by
  obtain ⟨xs, m, _, _, hl, hxl, hf⟩ := DataW.trod_struct Tryz.underlying60 h
  match xs, hxl with
  | [y0, y1], _ =>
    have h0 : DataW.trod enc Tryz.prog W 0 (fun _ => true) held m 9 ((([c0, c1] : List Value).drop 0).take (Tryz.prog.cellsOf 9)) = some y0 := hf 0 _ rfl
    have h1 : DataW.trod enc Tryz.prog W 0 (fun _ => true) held m 58 ((([c0, c1] : List Value).drop 1).take (Tryz.prog.cellsOf 58)) = some y1 := hf 1 _ rfl
    rw [kcStr] at h0
    rw [kcTers] at h1
    obtain ⟨s, e0, m0⟩ := str_one (enc := enc) (W := W) (held := held) (n := m) (c := c0) (x := y0) h0
    obtain ⟨A, cap, l, e1, hL⟩ := ters_one (enc := enc) (W := W) (held := held) (n := m) (c := c1) (x := y1) h1
    exact ⟨s, A, cap, l, e0, kmax m0, e1, hL⟩
set_option maxRecDepth 100000 in
theorem node_row (n : Nat) (cs : List Value) (x : DataW H × List MemPlace) (h : DataW.trod enc Tryz.prog W 0 (fun _ => true) held n 83 cs = some x) : ∃ y : NodeD, cs = [strV y.name, .int .i64 (y.cap 0), .int .i64 (y.cap 1), .int .i64 (y.cap 2), .int .i64 (y.cap 3), .int .i64 (y.cap 4), .slice y.al y.labels.length y.cl, .slice y.at_ y.taints.length y.ct, .bool y.cordon, .bool y.lost] ∧ y.fit W := by
  obtain ⟨xs, m, _, _, hl, hxl, hf⟩ := DataW.trod_struct Tryz.underlying83 h
  rw [kcNode] at hl
  match cs, hl, xs, hxl with
  | [c0, c1, c2, c3, c4, c5, c6, c7, c8, c9], _, [y0, y1, y2, y3, y4, y5], _ =>
    have h0 : DataW.trod enc Tryz.prog W 0 (fun _ => true) held m 9 ((([c0, c1, c2, c3, c4, c5, c6, c7, c8, c9] : List Value).drop 0).take (Tryz.prog.cellsOf 9)) = some y0 := hf 0 _ rfl
    have h1 : DataW.trod enc Tryz.prog W 0 (fun _ => true) held m 33 ((([c0, c1, c2, c3, c4, c5, c6, c7, c8, c9] : List Value).drop 1).take (Tryz.prog.cellsOf 33)) = some y1 := hf 1 _ rfl
    have h2 : DataW.trod enc Tryz.prog W 0 (fun _ => true) held m 57 ((([c0, c1, c2, c3, c4, c5, c6, c7, c8, c9] : List Value).drop 6).take (Tryz.prog.cellsOf 57)) = some y2 := hf 2 _ rfl
    have h3 : DataW.trod enc Tryz.prog W 0 (fun _ => true) held m 57 ((([c0, c1, c2, c3, c4, c5, c6, c7, c8, c9] : List Value).drop 7).take (Tryz.prog.cellsOf 57)) = some y3 := hf 3 _ rfl
    have h4 : DataW.trod enc Tryz.prog W 0 (fun _ => true) held m 4 ((([c0, c1, c2, c3, c4, c5, c6, c7, c8, c9] : List Value).drop 8).take (Tryz.prog.cellsOf 4)) = some y4 := hf 4 _ rfl
    have h5 : DataW.trod enc Tryz.prog W 0 (fun _ => true) held m 4 ((([c0, c1, c2, c3, c4, c5, c6, c7, c8, c9] : List Value).drop 9).take (Tryz.prog.cellsOf 4)) = some y5 := hf 5 _ rfl
    rw [kcStr] at h0
    rw [kcVec] at h1
    rw [kcLabs] at h2 h3
    rw [kcBool] at h4 h5
    obtain ⟨s, e0, m0⟩ := str_one (enc := enc) (W := W) (held := held) (n := m) (c := c0) (x := y0) h0
    obtain ⟨r, e1, e2, e3, e4, e5⟩ := vec_one (enc := enc) (W := W) (held := held) (n := m) (c0 := c1) (c1 := c2) (c2 := c3) (c3 := c4) (c4 := c5) (x := y1) h1
    obtain ⟨A1, k1, l1, e6, hL1⟩ := labs_one (enc := enc) (W := W) (held := held) (n := m) (c := c6) (x := y2) h2
    obtain ⟨A2, k2, l2, e7, hL2⟩ := labs_one (enc := enc) (W := W) (held := held) (n := m) (c := c7) (x := y3) h3
    obtain ⟨b8, e8⟩ := bool_one (enc := enc) (W := W) (held := held) (n := m) (c := c8) (x := y4) h4
    obtain ⟨b9, e9⟩ := bool_one (enc := enc) (W := W) (held := held) (n := m) (c := c9) (x := y5) h5
    exact ⟨{ name := s, cap := r, labels := l1, taints := l2, cordon := b8, lost := b9, al := A1, cl := k1, at_ := A2, ct := k2 }, by rw [e0, e1, e2, e3, e4, e5, e6, e7, e8, e9], hL1, hL2, kmax m0⟩
set_option maxRecDepth 100000 in
theorem pod_row (n : Nat) (cs : List Value) (x : DataW H × List MemPlace) (h : DataW.trod enc Tryz.prog W 0 (fun _ => true) held n 62 cs = some x) : ∃ y : PodD, cs = [strV y.name, strV y.owner, .int .i64 (y.req 0), .int .i64 (y.req 1), .int .i64 (y.req 2), .int .i64 (y.req 3), .int .i64 (y.req 4), .slice y.al y.labels.length y.cl, .slice y.aw y.whr.length y.cw, .slice y.ab y.bears.length y.cb, strV y.wt, .slice y.awt y.wtm.length y.cwt, strV y.ap, .slice y.aap y.apm.length y.cap, strV y.on] ∧ y.fit W := by
  obtain ⟨xs, m, _, _, hl, hxl, hf⟩ := DataW.trod_struct Tryz.underlying62 h
  rw [kcPod] at hl
  match cs, hl, xs, hxl with
  | [c0, c1, c2, c3, c4, c5, c6, c7, c8, c9, c10, c11, c12, c13, c14], _, [y0, y1, y2, y3, y4, y5, y6, y7, y8], _ =>
    have h0 : DataW.trod enc Tryz.prog W 0 (fun _ => true) held m 9 ((([c0, c1, c2, c3, c4, c5, c6, c7, c8, c9, c10, c11, c12, c13, c14] : List Value).drop 0).take (Tryz.prog.cellsOf 9)) = some y0 := hf 0 _ rfl
    have h1 : DataW.trod enc Tryz.prog W 0 (fun _ => true) held m 9 ((([c0, c1, c2, c3, c4, c5, c6, c7, c8, c9, c10, c11, c12, c13, c14] : List Value).drop 1).take (Tryz.prog.cellsOf 9)) = some y1 := hf 1 _ rfl
    have h2 : DataW.trod enc Tryz.prog W 0 (fun _ => true) held m 33 ((([c0, c1, c2, c3, c4, c5, c6, c7, c8, c9, c10, c11, c12, c13, c14] : List Value).drop 2).take (Tryz.prog.cellsOf 33)) = some y2 := hf 2 _ rfl
    have h3 : DataW.trod enc Tryz.prog W 0 (fun _ => true) held m 57 ((([c0, c1, c2, c3, c4, c5, c6, c7, c8, c9, c10, c11, c12, c13, c14] : List Value).drop 7).take (Tryz.prog.cellsOf 57)) = some y3 := hf 3 _ rfl
    have h4 : DataW.trod enc Tryz.prog W 0 (fun _ => true) held m 58 ((([c0, c1, c2, c3, c4, c5, c6, c7, c8, c9, c10, c11, c12, c13, c14] : List Value).drop 8).take (Tryz.prog.cellsOf 58)) = some y4 := hf 4 _ rfl
    have h5 : DataW.trod enc Tryz.prog W 0 (fun _ => true) held m 57 ((([c0, c1, c2, c3, c4, c5, c6, c7, c8, c9, c10, c11, c12, c13, c14] : List Value).drop 9).take (Tryz.prog.cellsOf 57)) = some y5 := hf 5 _ rfl
    have h6 : DataW.trod enc Tryz.prog W 0 (fun _ => true) held m 60 ((([c0, c1, c2, c3, c4, c5, c6, c7, c8, c9, c10, c11, c12, c13, c14] : List Value).drop 10).take (Tryz.prog.cellsOf 60)) = some y6 := hf 6 _ rfl
    have h7 : DataW.trod enc Tryz.prog W 0 (fun _ => true) held m 60 ((([c0, c1, c2, c3, c4, c5, c6, c7, c8, c9, c10, c11, c12, c13, c14] : List Value).drop 12).take (Tryz.prog.cellsOf 60)) = some y7 := hf 7 _ rfl
    have h8 : DataW.trod enc Tryz.prog W 0 (fun _ => true) held m 9 ((([c0, c1, c2, c3, c4, c5, c6, c7, c8, c9, c10, c11, c12, c13, c14] : List Value).drop 14).take (Tryz.prog.cellsOf 9)) = some y8 := hf 8 _ rfl
    rw [kcStr] at h0 h1 h8
    rw [kcVec] at h2
    rw [kcLabs] at h3 h5
    rw [kcTers] at h4
    rw [kcNear] at h6 h7
    obtain ⟨s0, e0, m0⟩ := str_one (enc := enc) (W := W) (held := held) (n := m) (c := c0) (x := y0) h0
    obtain ⟨s1, e1, m1⟩ := str_one (enc := enc) (W := W) (held := held) (n := m) (c := c1) (x := y1) h1
    obtain ⟨r, e2, e3, e4, e5, e6⟩ := vec_one (enc := enc) (W := W) (held := held) (n := m) (c0 := c2) (c1 := c3) (c2 := c4) (c3 := c5) (c4 := c6) (x := y2) h2
    obtain ⟨A1, k1, l1, e7, hL1⟩ := labs_one (enc := enc) (W := W) (held := held) (n := m) (c := c7) (x := y3) h3
    obtain ⟨A2, k2, l2, e8, hL2⟩ := ters_one (enc := enc) (W := W) (held := held) (n := m) (c := c8) (x := y4) h4
    obtain ⟨A3, k3, l3, e9, hL3⟩ := labs_one (enc := enc) (W := W) (held := held) (n := m) (c := c9) (x := y5) h5
    obtain ⟨s4, A4, k4, l4, e10, m4, e11, hL4⟩ := near_one (enc := enc) (W := W) (held := held) (n := m) (c0 := c10) (c1 := c11) (x := y6) h6
    obtain ⟨s5, A5, k5, l5, e12, m5, e13, hL5⟩ := near_one (enc := enc) (W := W) (held := held) (n := m) (c0 := c12) (c1 := c13) (x := y7) h7
    obtain ⟨s6, e14, m6⟩ := str_one (enc := enc) (W := W) (held := held) (n := m) (c := c14) (x := y8) h8
    exact ⟨{ name := s0, owner := s1, req := r, labels := l1, whr := l2, bears := l3, wt := s4, wtm := l4, ap := s5, apm := l5, on := s6, al := A1, cl := k1, aw := A2, cw := k2, ab := A3, cb := k3, awt := A4, cwt := k4, aap := A5, cap := k5 }, by rw [e0, e1, e2, e3, e4, e5, e6, e7, e8, e9, e10, e11, e12, e13, e14], hL1, hL2, hL3, hL4, hL5, kmax m0, kmax m1, m4, m5, kmax m6⟩
set_option maxRecDepth 100000 in
theorem owner_row (n : Nat) (cs : List Value) (x : DataW H × List MemPlace) (h : DataW.trod enc Tryz.prog W 0 (fun _ => true) held n 64 cs = some x) : ∃ y : OwnD, cs = [strV y.name, .int .i64 y.min, strV y.topo, .int .i64 y.skew, .bool y.single] ∧ y.fit := by
  obtain ⟨xs, m, _, _, hl, hxl, hf⟩ := DataW.trod_struct Tryz.underlying64 h
  rw [kcOwner] at hl
  match cs, hl, xs, hxl with
  | [c0, c1, c2, c3, c4], _, [y0, y1, y2, y3, y4], _ =>
    have h0 : DataW.trod enc Tryz.prog W 0 (fun _ => true) held m 9 ((([c0, c1, c2, c3, c4] : List Value).drop 0).take (Tryz.prog.cellsOf 9)) = some y0 := hf 0 _ rfl
    have h1 : DataW.trod enc Tryz.prog W 0 (fun _ => true) held m 3 ((([c0, c1, c2, c3, c4] : List Value).drop 1).take (Tryz.prog.cellsOf 3)) = some y1 := hf 1 _ rfl
    have h2 : DataW.trod enc Tryz.prog W 0 (fun _ => true) held m 9 ((([c0, c1, c2, c3, c4] : List Value).drop 2).take (Tryz.prog.cellsOf 9)) = some y2 := hf 2 _ rfl
    have h3 : DataW.trod enc Tryz.prog W 0 (fun _ => true) held m 3 ((([c0, c1, c2, c3, c4] : List Value).drop 3).take (Tryz.prog.cellsOf 3)) = some y3 := hf 3 _ rfl
    have h4 : DataW.trod enc Tryz.prog W 0 (fun _ => true) held m 4 ((([c0, c1, c2, c3, c4] : List Value).drop 4).take (Tryz.prog.cellsOf 4)) = some y4 := hf 4 _ rfl
    rw [kcStr] at h0 h2
    rw [kcInt] at h1 h3
    rw [kcBool] at h4
    obtain ⟨s0, e0, m0⟩ := str_one (enc := enc) (W := W) (held := held) (n := m) (c := c0) (x := y0) h0
    obtain ⟨i1, e1⟩ := int_one (enc := enc) (W := W) (held := held) (n := m) (c := c1) (x := y1) h1
    obtain ⟨s2, e2, m2⟩ := str_one (enc := enc) (W := W) (held := held) (n := m) (c := c2) (x := y2) h2
    obtain ⟨i3, e3⟩ := int_one (enc := enc) (W := W) (held := held) (n := m) (c := c3) (x := y3) h3
    obtain ⟨b4, e4⟩ := bool_one (enc := enc) (W := W) (held := held) (n := m) (c := c4) (x := y4) h4
    exact ⟨{ name := s0, min := i1, topo := s2, skew := i3, single := b4 }, by rw [e0, e1, e2, e3, e4], kmax m0, kmax m2⟩
end

/-- A cluster of any length in memory. -/
structure SnapIn (w : World) (A B C : Option Addr) (ca cb cc : Nat) (ns : List NodeD) (ps : List PodD) (os : List OwnD) : Prop where
  n : NodesAt w A ns
  p : PodsAt w B ps
  o : La.SlAt w C (cellsO os)
  fo : ∀ x ∈ os, x.fit
  can : ns.length ≤ ca ∧ ca ≤ 9223372036854775807
  cap : ps.length ≤ cb ∧ cb ≤ 9223372036854775807
  cao : os.length ≤ cc ∧ cc ≤ 9223372036854775807

set_option maxRecDepth 100000 in
theorem open_snap {H : Type} {enc : TypeId × Value → H} {W : World} {r : Reach} {b0 : Nat} {held : Bool} {v : Value} {d : DataW H} {p : List MemPlace}
    (hv : Value.okWide Tryz.prog W r b0 26 v) (h : DataW.Trod enc Tryz.prog W 0 (fun _ => true) held 26 v d p) :
    ∃ A B C ca cb cc ns ps os, v = snapV A B C ca cb cc ns ps os ∧ SnapIn W A B C ca cb cc ns ps os := by
  simp only [Value.okWide, Tryz.underlying26] at hv
  obtain ⟨cs, rfl, _, _⟩ := hv
  obtain ⟨fuel, hf0⟩ := h
  obtain ⟨xs, m, _, _, hl, hxl, hf⟩ := DataW.trod_struct Tryz.underlying26 hf0
  rw [kcSnap] at hl
  obtain ⟨c0, c1, c2, rfl⟩ : ∃ c0 c1 c2, cs = #[c0, c1, c2] := by
    obtain ⟨l⟩ := cs
    match l, hl with
    | [c0, c1, c2], _ => exact ⟨c0, c1, c2, rfl⟩
  match xs, hxl with
  | [y0, y1, y2], _ =>
    have h0 : DataW.trod enc Tryz.prog W 0 (fun _ => true) held m 22 ((([c0, c1, c2] : List Value).drop 0).take (Tryz.prog.cellsOf 22)) = some y0 := hf 0 _ rfl
    have h1 : DataW.trod enc Tryz.prog W 0 (fun _ => true) held m 23 ((([c0, c1, c2] : List Value).drop 1).take (Tryz.prog.cellsOf 23)) = some y1 := hf 1 _ rfl
    have h2 : DataW.trod enc Tryz.prog W 0 (fun _ => true) held m 24 ((([c0, c1, c2] : List Value).drop 2).take (Tryz.prog.cellsOf 24)) = some y2 := hf 2 _ rfl
    rw [kcNodes] at h0
    rw [kcPods] at h1
    rw [kcOwners] at h2
    have g0 : DataW.trod enc Tryz.prog W 0 (fun _ => true) held m 22 [c0] = some y0 := h0
    have g1 : DataW.trod enc Tryz.prog W 0 (fun _ => true) held m 23 [c1] = some y1 := h1
    have g2 : DataW.trod enc Tryz.prog W 0 (fun _ => true) held m 24 [c2] = some y2 := h2
    obtain ⟨A, ca, ns, e0, hs0, l0, k0, f0⟩ := slice_cells (T := NodeD) _ 10 _ Tryz.underlying22 kcNode (by omega) (fun _ => rfl) (fun n cs x h => node_row n cs x h) g0
    obtain ⟨B, cb, ps, e1, hs1, l1, k1, f1⟩ := slice_cells (T := PodD) _ 15 _ Tryz.underlying23 kcPod (by omega) (fun _ => rfl) (fun n cs x h => pod_row n cs x h) g1
    obtain ⟨C, cc, os, e2, hs2, l2, k2, f2⟩ := slice_cells (T := OwnD) _ 5 _ Tryz.underlying24 kcOwner (by omega) (fun _ => rfl) (fun n cs x h => owner_row n cs x h) g2
    simp only [List.cons.injEq, and_true] at e0 e1 e2
    exact ⟨A, B, C, ca, cb, cc, ns, ps, os, by rw [e0, e1, e2], ⟨hs0, f0⟩, ⟨hs1, f1⟩, hs2, f2, ⟨l0, kmax k0⟩, ⟨l1, kmax k1⟩, ⟨l2, kmax k2⟩⟩
theorem flat_ints : ∀ l : List Int, l.flatMap (fun y => [Value.int .i64 y]) = intsC l
  | [] => rfl
  | x :: t => by
    rw [List.flatMap_cons, flat_ints t]
    rfl
set_option maxRecDepth 100000 in
theorem open_intsK {H : Type} {enc : TypeId × Value → H} {W : World} {r : Reach} {b0 : Nat} {held : Bool} {v : Value} {d : DataW H} {p : List MemPlace}
    (hv : Value.okWide Tryz.prog W r b0 27 v) (h : DataW.Trod enc Tryz.prog W 0 (fun _ => true) held 27 v d p) :
    ∃ A c l, v = .slice A (List.length l) c ∧ IntsAt W A c l := by
  obtain ⟨a0, len, cap, rfl⟩ := okWide_slice Tryz.underlying27 hv
  obtain ⟨fuel, hf⟩ := h
  have hf' : DataW.trod enc Tryz.prog W 0 (fun _ => true) held fuel 27 [.slice a0 len cap] = some _ := hf
  obtain ⟨A, c, l, e, hs, h1, h2, hg⟩ := slice_cells (T := Int) (fun y => [.int .i64 y]) 1 (fun _ => True) Tryz.underlying27 kcInt (by omega) (fun _ => rfl) (fun n cs x h => by
    obtain ⟨s, e, _, _⟩ := DataW.trod_int Tryz.underlying3 h
    exact ⟨s, e, trivial⟩) hf'
  simp only [List.cons.injEq, and_true] at e
  refine ⟨A, c, l, e, ?_, h1, kmax h2⟩
  have e2 : l.flatMap (fun y => [Value.int .i64 y]) = intsC l := flat_ints l
  rw [e2] at hs
  exact hs
end Go.Proofs.YtoankplhahbgkaaGreat

namespace Go.Proofs.YtoankplhahbgkaaGreat
open Go.RowKit

theorem flat_take {T : Type} (f : T → List Value) (l : List T) (n : Nat) {j : Nat} {y : Value} (h : ((l.take n).flatMap f)[j]? = some y) : (l.flatMap f)[j]? = some y := by
  have e : l.flatMap f = (l.take n).flatMap f ++ (l.drop n).flatMap f := by rw [← List.flatMap_append, List.take_append_drop]
  rw [e, List.getElem?_append_left (List.getElem?_eq_some_iff.1 h).1]
  exact h
theorem SnapIn.take {w : World} {A B C : Option Addr} {ca cb cc : Nat} {ns : List NodeD} {ps : List PodD} {os : List OwnD} (h : SnapIn w A B C ca cb cc ns ps os) : SnapAt w A B C ca cb cc (ns.take 12) (ps.take 30) (os.take 12) := by
  refine ⟨⟨fun j y hj => h.n.cells j y (flat_take _ ns 12 hj), fun x hx => h.n.fit x (List.mem_of_mem_take hx)⟩, ⟨fun j y hj => h.p.cells j y (flat_take _ ps 30 hj), fun x hx => h.p.fit x (List.mem_of_mem_take hx)⟩, fun j y hj => h.o j y (flat_take _ os 12 hj), fun x hx => h.fo x (List.mem_of_mem_take hx), ?_, ?_, ?_, ⟨?_, h.can.2⟩, ⟨?_, h.cap.2⟩, ⟨?_, h.cao.2⟩⟩
  · simp; omega
  · simp; omega
  · simp; omega
  · have := h.can.1; simp; omega
  · have := h.cap.1; simp; omega
  · have := h.cao.1; simp; omega

theorem snap_sizeK : (Tryz.prog.info? 26).map (·.size) = some 3 := by kernel_rfl
set_option maxRecDepth 100000 in
set_option maxHeartbeats 4000000 in
theorem cut_any (A B C : Option Addr) (ca cb cc : Nat) (ns : List NodeD) (ps : List PodD) (os : List OwnD) (w : World) (h : SnapIn w A B C ca cb cc ns ps os) :
    Calls Tryz.prog 16 #[snapV A B C ca cb cc ns ps os] w fun e w' => e = .returned (snapV A B C ca cb cc (ns.take 12) (ps.take 30) (os.take 12)) ∧ Below w.heap.size w w' := by
  have h0 := Nat.le_trans h.can.1 h.can.2
  have h1 := Nat.le_trans h.cap.1 h.cap.2
  have h2 := Nat.le_trans h.cao.1 h.cao.2
  have hc0 : min (ns.length : Int) 12 ≤ (ca : Int) := by have := h.can.1; omega
  have hc1 : min (ps.length : Int) 30 ≤ (cb : Int) := by have := h.cap.1; omega
  have hc2 : min (os.length : Int) 12 ≤ (cc : Int) := by have := h.cao.1; omega
  have hp0 : (0 : Int) ≤ min (ns.length : Int) 12 := by omega
  have hp1 : (0 : Int) ≤ min (ps.length : Int) 30 := by omega
  have hp2 : (0 : Int) ≤ min (os.length : Int) 12 := by omega
  have hl0 : Hid ((min (ns.length : Int) 12).toNat = (ns.take 12).length) := Lib.hid (by simp; omega)
  have hl1 : Hid ((min (ps.length : Int) 30).toNat = (ps.take 30).length) := Lib.hid (by simp; omega)
  have hl2 : Hid ((min (os.length : Int) 12).toNat = (os.take 12).length) := Lib.hid (by simp; omega)
  clear h
  go_enter Tryz.func16, Tryz.ntmps16
  go_wp2_with fail
  have S9 : Hid (Blk ((w.alloc (.cells (snapC A B C ca cb cc ns ps os) 26)).alloc (.cells #[.slice none 0 0, .slice none 0 0, .slice none 0 0] 26)) w.heap.size (snapC A B C ca cb cc ns ps os) 26) := Lib.hid (Blk.alloc (Blk.new w _ _) _)
  have R9 : Hid (Blk ((w.alloc (.cells (snapC A B C ca cb cc ns ps os) 26)).alloc (.cells #[.slice none 0 0, .slice none 0 0, .slice none 0 0] 26)) (w.heap.size + 1) #[.slice none 0 0, .slice none 0 0, .slice none 0 0] 26) := Lib.hid (blk2 w _ _ _)
  have B9 : Hid (Below w.heap.size w ((w.alloc (.cells (snapC A B C ca cb cc ns ps os) 26)).alloc (.cells #[.slice none 0 0, .slice none 0 0, .slice none 0 0] 26))) := Lib.hid (Qu.below2 w _ _)
  generalize ((w.alloc (.cells (snapC A B C ca cb cc ns ps os) 26)).alloc (.cells #[.slice none 0 0, .slice none 0 0, .slice none 0 0] 26)) = W at S9 R9 B9 ⊢
  obtain ⟨Rb, hRb⟩ : ∃ Rb, w.heap.size + 1 = Rb := ⟨_, rfl⟩
  rw [hRb] at R9 ⊢
  have HRb := Lib.hid hRb
  clear hRb
  have S0 : W.cell? ⟨w.heap.size, 0, none⟩ = some (.slice A ns.length ca) ∧ W.cell? ⟨w.heap.size, 1, none⟩ = some (.slice B ps.length cb) ∧ W.cell? ⟨w.heap.size, 2, none⟩ = some (.slice C os.length cc) := ⟨Blk.cell S9.out 0, Blk.cell S9.out 1, Blk.cell S9.out 2⟩
  have S1 : W.drew.cell? ⟨w.heap.size, 0, none⟩ = some (.slice A ns.length ca) ∧ W.drew.cell? ⟨w.heap.size, 1, none⟩ = some (.slice B ps.length cb) ∧ W.drew.cell? ⟨w.heap.size, 2, none⟩ = some (.slice C os.length cc) := S0
  have r0 : W.cell? ⟨Rb, 0, none⟩ = some (.slice none 0 0) := Blk.cell R9.out 0
  have r1 : W.cell? ⟨Rb, 1, none⟩ = some (.slice none 0 0) := Blk.cell R9.out 1
  have r2 : W.cell? ⟨Rb, 2, none⟩ = some (.slice none 0 0) := Blk.cell R9.out 2
  have f0 := Blk.free R9.out 0
  have f1 := Blk.free R9.out 1
  have f2 := Blk.free R9.out 2
  have hne : w.heap.size ≠ Rb := by have := HRb.out; omega
  have HS3 : Hid (Blk (((W.setCell ⟨Rb, 0, none⟩ (Value.slice A (min (ns.length : Int) 12).toNat ca)).setCell ⟨Rb, 1, none⟩ (Value.slice B (min (ps.length : Int) 30).toNat cb)).setCell ⟨Rb, 2, none⟩ (Value.slice C (min (os.length : Int) 12).toNat cc)) w.heap.size (snapC A B C ca cb cc ns ps os) 26) := Lib.hid (((S9.out.oth hne 0 _).oth hne 1 _).oth hne 2 _)
  have HR3 : Hid (Blk (((W.setCell ⟨Rb, 0, none⟩ (Value.slice A (min (ns.length : Int) 12).toNat ca)).setCell ⟨Rb, 1, none⟩ (Value.slice B (min (ps.length : Int) 30).toNat cb)).setCell ⟨Rb, 2, none⟩ (Value.slice C (min (os.length : Int) 12).toNat cc)) Rb #[Value.slice A (min (ns.length : Int) 12).toNat ca, Value.slice B (min (ps.length : Int) 30).toNat cb, Value.slice C (min (os.length : Int) 12).toNat cc] 26) := Lib.hid (((R9.out.set 0 _).set 1 _).set 2 _)
  have HB3 : Hid (Below w.heap.size w (((W.setCell ⟨Rb, 0, none⟩ (Value.slice A (min (ns.length : Int) 12).toNat ca)).setCell ⟨Rb, 1, none⟩ (Value.slice B (min (ps.length : Int) 30).toNat cb)).setCell ⟨Rb, 2, none⟩ (Value.slice C (min (os.length : Int) 12).toNat cc))) := Lib.hid (by
    have := HRb.out
    exact ((B9.out.setCell (p := ⟨Rb, 0, none⟩) (by show w.heap.size ≤ Rb; omega) _).setCell (p := ⟨Rb, 1, none⟩) (by show w.heap.size ≤ Rb; omega) _).setCell (p := ⟨Rb, 2, none⟩) (by show w.heap.size ≤ Rb; omega) _)
  have S3 : (((W.setCell ⟨Rb, 0, none⟩ (Value.slice A (min (ns.length : Int) 12).toNat ca)).setCell ⟨Rb, 1, none⟩ (Value.slice B (min (ps.length : Int) 30).toNat cb)).setCell ⟨Rb, 2, none⟩ (Value.slice C (min (os.length : Int) 12).toNat cc)).drew.cell? ⟨w.heap.size, 0, none⟩ = some (.slice A ns.length ca) ∧ (((W.setCell ⟨Rb, 0, none⟩ (Value.slice A (min (ns.length : Int) 12).toNat ca)).setCell ⟨Rb, 1, none⟩ (Value.slice B (min (ps.length : Int) 30).toNat cb)).setCell ⟨Rb, 2, none⟩ (Value.slice C (min (os.length : Int) 12).toNat cc)).drew.cell? ⟨w.heap.size, 1, none⟩ = some (.slice B ps.length cb) ∧ (((W.setCell ⟨Rb, 0, none⟩ (Value.slice A (min (ns.length : Int) 12).toNat ca)).setCell ⟨Rb, 1, none⟩ (Value.slice B (min (ps.length : Int) 30).toNat cb)).setCell ⟨Rb, 2, none⟩ (Value.slice C (min (os.length : Int) 12).toNat cc)).drew.cell? ⟨w.heap.size, 2, none⟩ = some (.slice C os.length cc) := ⟨Blk.cell HS3.out 0, Blk.cell HS3.out 1, Blk.cell HS3.out 2⟩
  go_region_held3 (fun w' => w'.cell? ⟨w.heap.size, 0, none⟩ = some (.slice A ns.length ca) ∧ w'.cell? ⟨w.heap.size, 1, none⟩ = some (.slice B ps.length cb) ∧ w'.cell? ⟨w.heap.size, 2, none⟩ = some (.slice C os.length cc))
    (first | (with_reducible exact S1) | (with_reducible exact S0) | (with_reducible exact S3) | go_keep)
    (skip)
  all_goals
    go_wp2_with fail
    rw [hl0.out, hl1.out, hl2.out] at HR3 HB3 ⊢
    refine bodyPost_row1 Tryz.results16 Rb _ _ _ _ (by rfl) (by rfl) (show Blk _ Rb _ _ from HR3.out) Tryz.underlying26 rfl snap_sizeK ?_
    exact ⟨rfl, HB3.out.drew⟩
end Go.Proofs.YtoankplhahbgkaaGreat

namespace Go.Proofs.YtoankplhahbgkaaGreat.Qu
open Go.RowKit

theorem neg_lt_tmod (i : Int) {n : Int} (hn : 0 < n) : -n < i.tmod n := by
  have h := Int.tmod_lt_of_pos (-i) hn
  rw [Int.neg_tmod] at h
  omega
theorem emod_of_tmod (i n : Int) : i % n = i.tmod n % n := by
  conv => lhs; rw [← Int.mul_tdiv_add_tmod i n]
  rw [Int.mul_add_emod_self_left]
theorem emod_neg {i n : Int} (hn : 0 < n) (h : i.tmod n < 0) : i % n = i.tmod n + n := by
  have h1 : -n < i.tmod n := by
    have := neg_lt_tmod i hn
    omega
  rw [emod_of_tmod i n, ← Int.add_emod_right]
  exact Int.emod_eq_of_lt (by omega) (by omega)
theorem emod_pos {i n : Int} (hn : 0 < n) (h : ¬ i.tmod n < 0) : i % n = i.tmod n := by
  rw [emod_of_tmod i n]
  exact Int.emod_eq_of_lt (by omega) (Int.tmod_lt_of_pos i hn)

set_option maxHeartbeats 400000 in
theorem bring_any (i n : Int) (w : World) (hn : 0 < n) (hn' : n ≤ 4611686018427387904) :
    Calls Tryz.prog 88 #[.int .i64 i, .int .i64 n] w fun e w' => e = .returned (.int .i64 (i % n)) ∧ w = w' := by
  have hlt := Int.tmod_lt_of_pos i hn
  have hgt := neg_lt_tmod i hn
  have Hw : Hid (IntKind.i64.wrap (i.tmod n) = i.tmod n) := IntWalk.i64_in _ (by omega)
  by_cases h : i.tmod n < 0
  · have He := Lib.hid (emod_neg hn h)
    have Hw2 : Hid (IntKind.i64.wrap (i.tmod n + n) = i.tmod n + n) := IntWalk.i64_in _ (by omega)
    have hz : ¬ n = 0 := by omega
    go_enter Tryz.func88, Tryz.ntmps88
    go_wp2
    go_ret
    exact ⟨retI He.out.symm, rfl⟩
  · have He := Lib.hid (emod_pos hn h)
    have hz : ¬ n = 0 := by omega
    go_enter Tryz.func88, Tryz.ntmps88
    go_wp2
    go_ret
    exact ⟨retI He.out.symm, rfl⟩

end Go.Proofs.YtoankplhahbgkaaGreat.Qu
