/- Of each domain how many of an owner's pods are in it: the contract of Spread. Condition: the cluster and the numbers lie in memory. Two lists of texts held against each other. Condition: they lie in memory. Two rows that are alike are equal. No conditions. The chapter's examples hold. No conditions. What may not be, is refused; both ends: the walk of the closed law. No conditions. An argument that is a cluster, opened: what stands in memory. No conditions of its own. A cluster of which the first 12 nodes, 30 pods, 12 owners are looked at. Condition: it lies in memory. What Bring answers: a number brought between 0 and another one, as the rest of the division is. Condition: that one is above 0. Steps there and back, and the moves between two placements, taken one after another: numbers only. Conditions: the placements may be. What the nodes' pods ask for, added up, is what the pods that run ask for; what is counted on the nodes is what runs: numbers only. Conditions: each pod is on one of the nodes or waits. What is counted in the domains is no more than what is counted: numbers and keys only. Conditions: the pods are on nodes that there are. Which values nodes have for a key, as the document says it. Contracts, and what of it is the program's. Condition: the cluster lies in memory. All values that nodes have for a key, rising, as the document says it: a list into which each is put where it belongs, and that it is the keys of a map, sorted. Condition: the cluster lies in memory. What Counts, Spread and Placed tell of one owner: numbers only. Condition: the placement may be. Counts and Placed as the document says them: contracts. Condition: the cluster and the numbers lie in memory. What Holds and Bears answer, as plain functions. Condition: the lists lie in memory. What the document says of terms and of what is borne: contracts. Condition: the lists lie in memory. What the document counts for the clauses of a pod: terms, taints, single, doubles. Contracts. Condition: the cluster and the numbers lie in memory. What the document counts for the clauses of a pod: taints, single, doubles. Contracts. Condition: the cluster and the numbers lie in memory. How many pods of an owner run in each domain: what the document sums is what the program counts. No conditions. By how much an owner's spread is too great, by the document's words: skew. A contract. Condition: the cluster and the numbers lie in memory. A list of clauses as a value; Same, by the document's words, of two that are the same. No conditions but that they lie in memory. -/
import Derived.Test.YticgcimcebdjlaaGreatA04
import Derived.Laws.StructEq
import Derived.Deep.Slices
import Derived.StillTailTactics
import Derived.Laws.AppendOwnNone

namespace Go.Proofs.YticgcimcebdjlaaGreat
open Go.RowKit Go.Shelf Go.Maps Go.Sort
attribute [local go_sem] Oper.semAt_some

/-- The number that a datum is. -/
def numD (D : DataW Unit) : Int := match D with
  | .lit (.int _ c) => c
  | _ => 0
/-- One more at a key. -/
def bumpD (D : DataW Unit) (v : List UInt8) : DataW Unit := D.put (.string v) (.lit (.int .i64 (wrap64 (numD (D.atKey (.string v) (.lit (.int .i64 0))) + 1))))
/-- One pod more. -/
def spreadS (ns : List NodeD) (key : List UInt8) (p : List Int) (D : DataW Unit) (y : Nat) : DataW Unit := match p[y]? with
  | some x => match domF ns x key with
    | some v => bumpD D v
    | none => D
  | none => D
def spreadD (ns : List NodeD) (key : List UInt8) (p : List Int) (ys : List Nat) : DataW Unit := ys.foldl (spreadS ns key p) (emptyD ns key)
theorem spreadD_snoc (ns : List NodeD) (key : List UInt8) (p : List Int) (ys : List Nat) (m : Nat) (x : Int) (hx : p[m]? = some x) : spreadD ns key p (ys ++ [m]) = match domF ns x key with
    | some v => bumpD (spreadD ns key p ys) v
    | none => spreadD ns key p ys := by
  unfold spreadD
  rw [List.foldl_append]
  show spreadS ns key p _ m = _
  unfold spreadS
  rw [hx]
/-- The numbers of a map at its keys, sorted. -/
def rowD (D : DataW Unit) : List Int := (sortK D).map fun v => numD (D.atKey (.string v) (.lit (.int .i64 0)))
/-- What Spread tells. -/
def spreadF (ns : List NodeD) (ps : List PodD) (os : List OwnD) (p : List Int) (k : Int) : List Int := if ownerB ns ps os p k then (match os[k.toNat]? with
  | some x => rowD (spreadD ns x.topo p (offL p (membersF ps x.name)))
  | none => []) else []

theorem own_other {w w' : World} {base : Nat} {e : TypeId} {sz n : Nat} {v : Value} {xs : List Value} (ho : w.ownsRow base e sz v n xs) (hg : w.grownBy w' v.ownBlock) {j : Nat} {o : Obj} (hj : w.heap[j]? = some o) (hne : ∀ cs, o ≠ .cells cs e (0, 0)) : w'.heap[j]? = some o := by
  refine (hg.block j (Array.getElem?_eq_some_iff.1 hj).1 ?_).trans hj
  rcases ho.2 with ⟨rfl, _⟩ | ⟨g, cap, cur, rfl, _, hgb, _⟩
  · intro e'; cases e'
  · intro e'
    simp only [Value.ownBlock, Option.some.injEq] at e'
    subst e'
    rw [hgb] at hj
    cases hj
    exact hne cur rfl
theorem own_below2 {w w' : World} {base : Nat} {e : TypeId} {size n : Nat} {v : Value} {xs : List Value} (h : w.ownsRow base e size v n xs) (hb : RowKit.Below w.heap.size w w') : w'.ownsRow base e size v n xs := own_nc h (grown_of_below hb none) (fun r e => by cases e)
theorem own_ownsMap {w w' : World} {base : Nat} {e : TypeId} {sz n : Nat} {v : Value} {xs : List Value} (ho : w.ownsRow base e sz v n xs) (hg : w.grownBy w' v.ownBlock) {P : Program} {k : TypeId} {R : Value → Option (DataW Unit × List MemPlace)} {b m : Nat} {D : DataW Unit} (h : w.ownsMap P k R b m D) : w'.ownsMap P k R b m D := by
  obtain ⟨es, clock, hb, F, hs, hD⟩ := h
  exact ⟨es, clock, own_other ho hg hb (fun cs e' => by cases e'), F, hs, hD⟩
theorem own_own {w w' : World} {base base' : Nat} {e e' : TypeId} {sz n sz' n' : Nat} {v v' : Value} {xs xs' : List Value} (ho : w.ownsRow base e sz v n xs) (hg : w.grownBy w' v.ownBlock) (hne : e' ≠ e) (h : w.ownsRow base' e' sz' v' n' xs') : w'.ownsRow base' e' sz' v' n' xs' := by
  obtain ⟨hl, h1 | ⟨g, cap, cur, hv, hb, hg', r⟩⟩ := h
  · exact ⟨hl, .inl h1⟩
  · exact ⟨hl, .inr ⟨g, cap, cur, hv, hb, own_other ho hg hg' (fun cs q => by cases q; exact hne rfl), r⟩⟩
theorem run_ints0 (w : World) (n : Nat) (hn : n ≤ 1000000) : (Instr.makeSlice 32 (.int .i64 0) (.int .i64 (n : Int))).run Tryz.prog w = .ok (.slice (some ⟨w.heap.size, 0, none⟩) 0 n) (w.alloc (.cells (madeCells #[.int .i64 0] n) 3)) := by
  cases hi : Tryz.prog.info? 3 with
  | none => have h := int_infoK; rw [hi] at h; cases h
  | some i =>
    have h := int_infoK
    rw [hi] at h
    simp only [Option.map_some, Option.some.injEq, Prod.mk.injEq] at h
    obtain ⟨h0, h1, h2⟩ := h
    have k := run_make (P := Tryz.prog) w 32 3 i (.int .i64 0) Tryz.underlying32 hi h0 .i64 .i64 0 n (by omega) (by omega) (by rw [h2]; omega) (by omega)
    simpa [h1, Value.cells] using k
theorem own_made0 (w : World) (n base : Nat) (hn : n ≤ 1000000) (hb : base ≤ w.heap.size) : (w.alloc (.cells (madeCells #[.int .i64 0] n) 3)).ownsRow base 3 1 (.slice (some ⟨w.heap.size, 0, none⟩) 0 n) 0 [] :=
  ⟨rfl, .inr ⟨w.heap.size, n, madeCells #[.int .i64 0] n, rfl, hb, heap_alloc_new _ _, Nat.zero_le _, by unfold maxLen; omega, by rw [size_madeCells, Nat.mul_one], by simp⟩⟩
theorem keepsFrom_below {B : Nat} {W W' : World} (h : Below W.heap.size W W') : KeepsFrom B W W' := ⟨h.size, fun k _ _ hk _ => (h.block k (Array.getElem?_eq_some_iff.1 hk).1).trans hk⟩
theorem numD_lit {q : IntKind} {c : Int} {D : DataW Unit} (h : D = .lit (.int q c)) : numD D = c := by rw [h]; rfl

set_option maxRecDepth 100000 in
set_option maxHeartbeats 4000000 in
theorem spread_any (A B C P : Option Addr) (ca cb cc cp : Nat) (ns : List NodeD) (ps : List PodD) (os : List OwnD) (p : List Int) (ko : Int) (w : World) (h : SnapAt w A B C ca cb cc ns ps os) (hp : IntsAt w P cp p) :
    Calls Tryz.prog 129 #[snapV A B C ca cb cc ns ps os, .slice P p.length cp, .int .i64 ko] w fun e w' => ∃ v, e = .returned v ∧ w'.ownsRow w.heap.size 3 1 v (spreadF ns ps os p ko).length (intsC (spreadF ns ps os p ko)) ∧ Below w.heap.size w w' := by
  have hlp := Lib.hid h.lp
  have hln := Lib.hid h.ln
  have H := Lib.hid h
  have HP := Lib.hid hp
  have B0 : Hid (Below w.heap.size w ((w.alloc (.cells (snapC A B C ca cb cc ns ps os) 26)).alloc (.cells #[.slice P p.length cp] 32))) := Lib.hid (Qu.below2 w _ _)
  have S0 : Hid (Blk ((w.alloc (.cells (snapC A B C ca cb cc ns ps os) 26)).alloc (.cells #[.slice P p.length cp] 32)) w.heap.size (snapC A B C ca cb cc ns ps os) 26) := Lib.hid (Blk.alloc (Blk.new w _ _) _)
  have T0 : Hid (Blk ((w.alloc (.cells (snapC A B C ca cb cc ns ps os) 26)).alloc (.cells #[.slice P p.length cp] 32)) (w.heap.size + 1) #[.slice P p.length cp] 32) := Lib.hid (blk2 w _ _ _)
  have KC := Lib.hid ((callsIn_wide (n := 7)).2 (isOwner_any A B C P ca cb cc cp ns ps os p ko _ (h.below B0.out) (hp.below B0.out)))
  have hl0 := Blk.lt T0.out
  have E : Hid (spreadF ns ps os p ko = if ownerB ns ps os p ko then (match os[ko.toNat]? with
    | some x => rowD (spreadD ns x.topo p (offL p (membersF ps x.name)))
    | none => []) else []) := Lib.hid rfl
  have HOB := Lib.hid (fun h => @ownerB_parts ns ps os p ko h)
  generalize spreadF ns ps os p ko = R at E ⊢
  generalize ownerB ns ps os p ko = ob at KC E HOB
  clear h hp
  refine (callsIn_wide (n := 8)).1 ?_
  refine callsIn_of_wp_marks Tryz.func129 rfl trivial ?_ rfl
  simp only [Tryz.ntmps129, List.size_toArray, List.length_cons, List.length_nil, Nat.reduceAdd, Nat.reduceSub, Array.replicate_succ, Array.replicate_zero, List.push_toArray, List.append_toArray, List.nil_append, List.cons_append]
  gi_wp2_with fail
  refine ⟨trivial, ?_⟩
  refine (KC.out).mono ?_
  rintro e w1 ⟨rfl, hb⟩
  clear KC
  have S1 := Lib.hid (S0.out.below hb (by omega))
  have T1 := Lib.hid (T0.out.below hb (by omega))
  have B1 := Lib.hid (B0.out.trans (hb.mono (by omega)))
  have hl1 : Hid (w.heap.size + 1 < w1.heap.size) := Lib.hid T1.out.lt
  clear hb S0 T0 B0 hl0
  cases ob
  · have HE : Hid (R = []) := Lib.hid (by rw [E.out]; rfl)
    gi_wp2
    refine ⟨_, results_tmp rfl _ _ _, ?_⟩
    rw [HE.out]
    exact ⟨_, rfl, World.ownsRow_nil _ _ _ _, B1.out⟩
  obtain ⟨hE0, n, xo, rfl, hxo⟩ := HOB.out rfl
  have hpl := Lib.hid (placeE_len hE0)
  have HSH : Hid (Short ns) := Lib.hid (by
    refine short_of (ps := ps) (os := os) ?_
    unfold placeE at hE0
    split at hE0
    · assumption
    · rename_i hne
      exact absurd hE0 hne)
  have HX := Lib.hid hxo
  clear HOB hE0
  have HE : Hid (R = rowD (spreadD ns xo.topo p (offL p (membersF ps xo.name)))) := Lib.hid (by rw [E.out, if_pos rfl, Int.toNat_natCast, HX.out])
  clear E
  have hno : n < os.length := (List.getElem?_eq_some_iff.1 hxo).1
  have n0 : (0 : Int) ≤ (n : Int) := by omega
  have n1 : (n : Int) < (os.length : Int) := by omega
  obtain ⟨bo, oo, hC, hbo, d0, d1, d2, d3, d4⟩ := atO (H.out.below B1.out).o hxo
  subst hC
  have s2 : w1.cell? ⟨w.heap.size, 2, none⟩ = some (.slice (some ⟨bo, oo, none⟩) os.length cc) := Blk.cell S1.out 2
  -- the key
  have S2 := Lib.hid (Blk.alloc S1.out (.cells #[strV xo.topo] 9))
  have T2 := Lib.hid (Blk.alloc T1.out (.cells #[strV xo.topo] 9))
  have K2 := Lib.hid (Blk.new w1 #[strV xo.topo] 9)
  have B2 := Lib.hid (B1.out.alloc B1.out.size (.cells #[strV xo.topo] 9))
  have KE := Lib.hid ((callsIn_wide (n := 7)).2 (empty_any A B (some ⟨bo, oo, none⟩) ca cb cc ns ps os xo.topo _ (H.out.below B2.out) HSH.out))
  have t0 := Blk.cell S2.out 0
  have t1 := Blk.cell S2.out 1
  have t2 := Blk.cell S2.out 2
  clear hxo d0 d1 d3 d4 hno
  gi_wp2_with fail
  refine ⟨trivial, ?_⟩
  refine (KE.out).mono ?_
  rintro e w2 ⟨rfl, hown, hb⟩
  have hlk := K2.out.lt
  have S3 := Lib.hid (Blk.alloc (S2.out.below hb S2.out.lt) (.cells #[.map (some ((w1.alloc (.cells #[strV xo.topo] 9)).heap.size + 1))] 242))
  have T3 := Lib.hid (Blk.alloc (T2.out.below hb T2.out.lt) (.cells #[.map (some ((w1.alloc (.cells #[strV xo.topo] 9)).heap.size + 1))] 242))
  have K3 := Lib.hid (Blk.alloc (K2.out.below hb hlk) (.cells #[.map (some ((w1.alloc (.cells #[strV xo.topo] 9)).heap.size + 1))] 242))
  have M3 := Lib.hid (hown.alloc (.cells #[.map (some ((w1.alloc (.cells #[strV xo.topo] 9)).heap.size + 1))] 242))
  have Q3 := Lib.hid (Blk.new w2 #[.map (some ((w1.alloc (.cells #[strV xo.topo] 9)).heap.size + 1))] 242)
  have hb2 := B2.out.trans (hb.mono B2.out.size)
  have B3 := Lib.hid (hb2.alloc hb2.size (.cells #[.map (some ((w1.alloc (.cells #[strV xo.topo] 9)).heap.size + 1))] 242))
  have hM2 : Hid ((w1.alloc (.cells #[strV xo.topo] 9)).heap.size + 1 < w2.heap.size) := Lib.hid hown.lt
  clear hb hb2 hown KE t0 t1 t2 s2 d2 hlk S2 T2 K2 B2
  rw [World.size_alloc] at S3 T3 K3 M3 Q3 B3 hM2
  have t0 := Blk.cell S3.out 0
  have t1 := Blk.cell S3.out 1
  have t2 := Blk.cell S3.out 2
  have u0 := Blk.cell T3.out 0
  rw [World.size_alloc]
  gi_wp2_with fail
  refine ⟨trivial, ?_⟩
  refine (of_any _ A B (some ⟨bo, oo, none⟩) P ca cb cc cp ns ps os p.length (n : Int) _).mono ?_
  rintro e w3 ⟨rfl, rfl⟩
  gi_wp2_with fail
  have hsz3 : (w2.alloc (.cells #[.map (some (w1.heap.size + 1 + 1))] 242)).heap.size = w2.heap.size + 1 := by simp
  have KS := Lib.hid (of_at (8 - 1) (by omega) ca cb cc cp [] A B (some ⟨bo, oo, none⟩) P ns ps os p n xo HX.out hpl.out w _ B3.out H.out HP.out (by simp))
  rw [hsz3] at KS
  clear t0 t1 t2 u0
  generalize (w2.alloc (.cells #[.map (some (w1.heap.size + 1 + 1))] 242)) = W3 at S3 T3 K3 M3 Q3 B3 KS hsz3 ⊢
  change Code.wpIn _ _ _ _ _ _ (ofWorld W3 A B (some ⟨bo, oo, none⟩) P ca cb cc cp ns ps os p.length (n : Int))
  have S4 : Hid (Blk (ofWorld W3 A B (some ⟨bo, oo, none⟩) P ca cb cc cp ns ps os p.length (n : Int)) w.heap.size (snapC A B (some ⟨bo, oo, none⟩) ca cb cc ns ps os) 26) := Lib.hid (Blk.alloc (Blk.alloc (Blk.alloc S3.out _) _) _)
  have T4 : Hid (Blk (ofWorld W3 A B (some ⟨bo, oo, none⟩) P ca cb cc cp ns ps os p.length (n : Int)) (w.heap.size + 1) #[.slice P p.length cp] 32) := Lib.hid (Blk.alloc (Blk.alloc (Blk.alloc T3.out _) _) _)
  have K4 : Hid (Blk (ofWorld W3 A B (some ⟨bo, oo, none⟩) P ca cb cc cp ns ps os p.length (n : Int)) w1.heap.size #[strV xo.topo] 9) := Lib.hid (Blk.alloc (Blk.alloc (Blk.alloc K3.out _) _) _)
  have Q4 : Hid (Blk (ofWorld W3 A B (some ⟨bo, oo, none⟩) P ca cb cc cp ns ps os p.length (n : Int)) w2.heap.size #[.map (some (w1.heap.size + 1 + 1))] 242) := Lib.hid (Blk.alloc (Blk.alloc (Blk.alloc Q3.out _) _) _)
  have M4 : Hid ((ofWorld W3 A B (some ⟨bo, oo, none⟩) P ca cb cc cp ns ps os p.length (n : Int)).ownsMap Tryz.prog 9 (plainElem Tryz.prog 3) (w1.heap.size + 1 + 1) ns.length (emptyD ns xo.topo)) := Lib.hid (((M3.out.alloc _).alloc _).alloc _)
  have hsz4 : Hid ((ofWorld W3 A B (some ⟨bo, oo, none⟩) P ca cb cc cp ns ps os p.length (n : Int)).heap.size = w2.heap.size + 4) := Lib.hid (by simp [ofWorld, hsz3])
  have BW : Hid (Below w.heap.size w (ofWorld W3 A B (some ⟨bo, oo, none⟩) P ca cb cc cp ns ps os p.length (n : Int))) := Lib.hid (((B3.out.alloc B3.out.size _).alloc (by have := B3.out.size; simp; omega) _).alloc (by have := B3.out.size; simp; omega) _)
  generalize ofWorld W3 A B (some ⟨bo, oo, none⟩) P ca cb cc cp ns ps os p.length (n : Int) = W0 at S4 T4 K4 Q4 M4 BW KS hsz4 ⊢
  obtain ⟨Mb, hMb⟩ : ∃ Mb, w1.heap.size + 1 + 1 = Mb := ⟨_, rfl⟩
  obtain ⟨Tb, hT⟩ : ∃ Tb, w.heap.size + 1 = Tb := ⟨_, rfl⟩
  rw [hMb] at Q4 M4 hM2 ⊢
  rw [hT] at T4 hl1 ⊢
  have hMb2 : Hid (w1.heap.size < Mb) := Lib.hid (by omega)
  obtain ⟨Kb, hKb⟩ : ∃ Kb, w1.heap.size = Kb := ⟨_, rfl⟩
  obtain ⟨Cb, hCb⟩ : ∃ Cb, w2.heap.size = Cb := ⟨_, rfl⟩
  rw [hKb] at K4 hl1 hMb2 ⊢
  rw [hCb] at Q4 hM2 KS hsz4 ⊢
  have hN : Hid (w.heap.size < Tb ∧ Tb < Kb ∧ Kb < Mb ∧ Mb < Cb) := Lib.hid ⟨by omega, hl1.out, hMb2.out, hM2.out⟩
  clear hMb hT hKb hCb hMb2 hM2 hl1 S1 T1 B1 S3 T3 K3 M3 Q3 B3 hsz3 n0 n1
  refine wpIn_rangeFunc_ownG (α := OffNo p) rfl (by omega) (gf := 236) rfl trivial (enters_of Tryz.func236 (by kernel_rfl) rfl)
    KS.out keepU_t (keepU_b (by have := hN.out; have := hsz4.out; omega)) (Below.refl _ _) (fun _ => rfl)
    (fun (pre : List (OffNo p)) W => (Blk W w.heap.size (snapC A B (some ⟨bo, oo, none⟩) ca cb cc ns ps os) 26 ∧ Blk W Tb #[.slice P p.length cp] 32 ∧ Blk W Kb #[strV xo.topo] 9 ∧ Blk W Cb #[.map (some Mb)] 242 ∧ World.ownsMap (H := Unit) W Tryz.prog 9 (plainElem (H := Unit) Tryz.prog 3) Mb (ns.length + pre.length) (spreadD ns xo.topo p (pre.map (fun x => x.1)))) ∧ Below w.heap.size w W)
    (fun _ _ _ => False)
    (OwnFrom.and (fun s X Y row hs hg hr => ⟨blk_nc hs.1 hg (fun r e => (hr r e).2), blk_nc hs.2.1 hg (fun r e => (hr r e).2), blk_nc hs.2.2.1 hg (fun r e => (hr r e).2), blk_nc hs.2.2.2.1 hg (fun r e => (hr r e).2), World.ownsMap.kept (H := Unit) hs.2.2.2.2 hg (fun e => by have := (hr _ e.symm).1; have := hN.out; have := hsz4.out; omega)⟩) (ownFrom_below (Nat.le_refl _) (by have := hN.out; have := hsz4.out; omega)))
    (fun _ _ _ _ _ hs _ _ => hs)
    ⟨⟨S4.out, T4.out, K4.out, Q4.out, M4.out⟩, BW.out⟩
    (fun x => { tmps := #[snapV A B (some { block := bo, off := oo }) ca cb cc ns ps os, Value.slice P p.length cp,
          Value.int IntKind.i64 n, Value.pointer (some { block := w.heap.size, off := 0 }),
          Value.pointer (some { block := Tb, off := 0 }), undef, Value.slice none 0 0,
          Value.pointer (some { block := Kb, off := 0 }),
          Value.pointer (some { block := Cb, off := 0 }), .int .i64 (x.1 : Int), undef, undef, undef, undef, undef,
          Value.agg
            #[Value.slice A ns.length ca, Value.slice B ps.length cb,
              Value.slice (some { block := bo, off := oo }) os.length cc],
          Value.slice P p.length cp, Value.int IntKind.i64 n, Value.bool true, Value.bool false,
          Value.pointer (some { block := w.heap.size, off := 2 }),
          Value.slice (some { block := bo, off := oo }) os.length cc, Value.int IntKind.i64 n,
          Value.pointer (some { block := bo, off := oo + n * 5 }),
          Value.pointer (some { block := bo, off := oo + n * 5 + 2 }), strV xo.topo,
          Value.agg
            #[Value.slice A ns.length ca, Value.slice B ps.length cb,
              Value.slice (some { block := bo, off := oo }) os.length cc],
          Value.string { data := xo.topo.toArray }, Value.map (some Mb),
          Value.agg
            #[Value.slice A ns.length ca, Value.slice B ps.length cb,
              Value.slice (some { block := bo, off := oo }) os.length cc],
          Value.slice P p.length cp, Value.int IntKind.i64 n,
          Value.func (Fn.func 236) #[]
            #[Value.pointer (some { block := Cb + 1, off := 0 }),
              Value.pointer (some { block := Cb + 1 + 1 + 1, off := 0 }),
              Value.pointer (some { block := Cb + 1 + 1, off := 0 })],
          .int .i64 (x.1 : Int), undef, undef, undef, undef, undef, undef, undef, undef, undef, undef, undef, undef, undef, undef, undef, undef, undef, undef, undef, undef, undef, undef, undef, undef, undef, undef, undef, undef, undef, undef, undef, undef, undef, undef], defers := [] }) ?assign ?body ?done ?stop
  case assign =>
    intro l x W K hK
    gi_wp2
    exact hK
  case body =>
    rintro l pre ⟨m, hm⟩ W ⟨⟨hS, hT, hKk, hC, hM⟩, hB⟩ hlen
    obtain ⟨xv, hx, hne⟩ := id hm
    obtain ⟨b, o, hA, hbl, hc⟩ := atI (HP.out.below hB).cells hx
    subst hA
    have hml : m < p.length := (List.getElem?_eq_some_iff.1 hx).1
    have z0 := Blk.cell hS 0
    have z1 := Blk.cell hS 1
    have z2 := Blk.cell hS 2
    have p0 : W.cell? ⟨Tb, 0, none⟩ = some (.slice (some ⟨b, o, none⟩) p.length cp) := Blk.cell hT 0
    have q0 : W.cell? ⟨Kb, 0, none⟩ = some (strV xo.topo) := Blk.cell hKk 0
    have m0 : (0 : Int) ≤ (m : Int) := by omega
    have m1 : (m : Int) < (p.length : Int) := by omega
    have KD := Lib.hid (domainOf_any A B (some ⟨bo, oo, none⟩) ca cb cc ps.length os.length ns xv xo.topo W.drew (((H.out.below hB).below (Below.refl _ _).drew)).n HSH.out)
    have HBs := Lib.hid hB
    have E : Hid (spreadD ns xo.topo p (pre.map (·.1) ++ [m]) = match domF ns xv xo.topo with
      | some v => bumpD (spreadD ns xo.topo p (pre.map (·.1))) v
      | none => spreadD ns xo.topo p (pre.map (·.1))) := Lib.hid (spreadD_snoc ns xo.topo p _ m xv hx)
    have HV := Lib.hid (fun v (hv : domF ns xv xo.topo = some v) => domF_short HSH.out hv)
    generalize domF ns xv xo.topo = dv at KD E HV
    generalize spreadD ns xo.topo p (pre.map (·.1)) = D0 at hM E
    have HS := Lib.hid hS
    have HT := Lib.hid hT
    have HKk := Lib.hid hKk
    have HC := Lib.hid hC
    have HM := Lib.hid hM
    have hlen2 := Lib.hid hlen
    have hmx : Tryz.prog.follows .mixedOrders = true := by kernel_rfl
    clear hS hT hKk hC hM hB hlen hml hx
    rename_i K0 hK0
    clear hK0 KS S4 T4 K4 Q4 M4 BW HX HE H HP HSH
    gi_wp2
    rename_i Kq hKq
    have key : ∀ w', RowKit.Below W.drew.heap.size W.drew w' → Kq { tmps :=
        #[snapV A B (some { block := bo, off := oo }) ca cb cc ns ps os,
          Value.slice (some { block := b, off := o }) p.length cp, Value.int IntKind.i64 n,
          Value.pointer (some { block := w.heap.size, off := 0 }), Value.pointer (some { block := Tb, off := 0 }),
          undef, Value.slice none 0 0, Value.pointer (some { block := Kb, off := 0 }),
          Value.pointer (some { block := Cb, off := 0 }), Value.int IntKind.i64 m, strV (dv.getD []),
          Value.bool dv.isSome, undef, undef, undef,
          Value.agg
            #[Value.slice A ns.length ca, Value.slice B ps.length cb,
              Value.slice (some { block := bo, off := oo }) os.length cc],
          Value.slice (some { block := b, off := o }) p.length cp, Value.int IntKind.i64 n, Value.bool true,
          Value.bool false, Value.pointer (some { block := w.heap.size, off := 2 }),
          Value.slice (some { block := bo, off := oo }) os.length cc, Value.int IntKind.i64 n,
          Value.pointer (some { block := bo, off := oo + n * 5 }),
          Value.pointer (some { block := bo, off := oo + n * 5 + 2 }), strV xo.topo,
          Value.agg
            #[Value.slice A ns.length ca, Value.slice B ps.length cb,
              Value.slice (some { block := bo, off := oo }) os.length cc],
          Value.string { data := xo.topo.toArray }, Value.map (some Mb),
          Value.agg
            #[Value.slice A ns.length ca, Value.slice B ps.length cb,
              Value.slice (some { block := bo, off := oo }) os.length cc],
          Value.slice (some { block := b, off := o }) p.length cp, Value.int IntKind.i64 n,
          Value.func (Fn.func 236) #[]
            #[Value.pointer (some { block := Cb + 1, off := 0 }),
              Value.pointer (some { block := Cb + 1 + 1 + 1, off := 0 }),
              Value.pointer (some { block := Cb + 1 + 1, off := 0 })],
          Value.int IntKind.i64 m, Value.tuple #[strV (dv.getD []), Value.bool dv.isSome],
          Value.agg
            #[Value.slice A ns.length ca, Value.slice B ps.length cb,
              Value.slice (some { block := bo, off := oo }) os.length cc],
          Value.slice (some { block := b, off := o }) p.length cp, Value.int IntKind.i64 m,
          Value.pointer (some { block := b, off := o + m }), Value.int IntKind.i64 xv, strV xo.topo,
          Value.tuple #[strV (dv.getD []), Value.bool dv.isSome], strV (dv.getD []), Value.bool dv.isSome, undef, undef,
          undef, undef, undef, undef, undef, undef, undef, undef, undef, undef, undef, undef, undef, undef, undef, undef, undef, undef, undef, undef, undef, undef], defers := [] } w' := by
      intro w' hb
      refine hKq _ _ ?_
      clear hKq
      have hbW : Below W.heap.size W w' := ((Below.refl W.heap.size W).drew).trans hb
      have S' := Lib.hid (HS.out.below hbW HS.out.lt)
      have T' := Lib.hid (HT.out.below hbW HT.out.lt)
      have K' := Lib.hid (HKk.out.below hbW HKk.out.lt)
      have C' := Lib.hid (HC.out.below hbW HC.out.lt)
      have M' := Lib.hid (ownsMap_below HM.out hbW)
      have B' := Lib.hid (HBs.out.trans (hbW.mono HBs.out.size))
      have KF := Lib.hid (keepsFrom_below (B := W0.heap.size) hbW)
      have KU := Lib.hid (KeepU.below (us := []) hbW HBs.out.size)
      have c0 : w'.cell? ⟨Cb, 0, none⟩ = some (.map (some Mb)) := Blk.cell C'.out 0
      clear hb hbW z0 z1 z2 p0 q0 hc KD
      cases dv with
      | none =>
        gi_wp2
        refine ⟨KF.out, KU.out, ⟨S'.out, T'.out, K'.out, C'.out, ?_⟩, B'.out⟩
        have e9 : (pre ++ [(⟨m, hm⟩ : OffNo p)]).unattach = pre.map (fun x => x.1) ++ [m] := by
          show (pre ++ [(⟨m, hm⟩ : OffNo p)]).map (fun x => x.1) = _
          rw [List.map_append]
          rfl
        show World.ownsMap (H := Unit) w' _ _ _ _ _ (spreadD ns xo.topo p (pre ++ [(⟨m, hm⟩ : OffNo p)]).unattach)
        rw [e9, E.out]
        exact M'.out.mono (by simp)
      | some v =>
        have hvl : ((⟨v.toArray⟩ : ByteArray).size) ≤ maxLen := by
          have := HV.out v rfl
          rw [size_of]
          unfold maxLen
          omega
        have hkey := WideMaps.keyOf_string_mk (P := Tryz.prog) Tryz.underlying9 hvl
        have hown := M'.out
        have hkm : ns.length + pre.length < maxLen := by
          have := hlen2.out
          have := hlp.out
          have := hpl.out
          have := hln.out
          unfold maxLen
          omega
        gi_wp2_with (first
          | (gi_at_lookup; refine wpListIn_lookup_own_int _ rfl _ _ 242 rfl 9 3 .i64 (Maps.string_keyed Tryz.underlying9) Tryz.underlying242 Tryz.underlying3 (Tryz.zeroValue3 _) Mb (ns.length + pre.length) _ rfl hown _ _ rfl hkey ?_; intro c hat hwc)
          | (gi_at_mapUpdate; refine wpListIn_mapUpdate_own _ rfl _ _ _ 242 rfl 9 3 (Maps.string_keyed Tryz.underlying9) Tryz.underlying242 _ Mb (ns.length + pre.length) _ rfl hown hkm _ _ _ rfl rfl hkey _ [] (plainElem_int Tryz.underlying3 (wrap64_wf _)) ?_; intro w3 hown3 hgrow3))
        have hN' := hN.out
        have hnm : ∀ (bb : Nat) (cs : Array Value) (t : TypeId), Blk w' bb cs t → some bb ≠ some Mb := fun bb cs t hbk e => by
          cases e
          obtain ⟨es, clock, hh, _⟩ := hown
          unfold Blk at hbk
          rw [hh] at hbk
          cases hbk
        have hbg : Below w.heap.size w' w3 := (Below.refl w.heap.size w').grown hgrow3 (Nat.le_trans (by have := B'.out.size; exact this) (Nat.le_refl _)) (fun j e => by cases e; omega)
        refine ⟨KF.out.trans (KeepsFrom.of_grownBy hgrow3 (fun j e => by cases e; have := hsz4.out; omega)), KU.out.trans ⟨hbg, fun bb cs t _ h1 => h1.kept hgrow3 (hnm bb cs t h1)⟩, ⟨S'.out.kept hgrow3 (hnm _ _ _ S'.out), T'.out.kept hgrow3 (hnm _ _ _ T'.out), K'.out.kept hgrow3 (hnm _ _ _ K'.out), C'.out.kept hgrow3 (hnm _ _ _ C'.out), ?_⟩, B'.out.trans hbg⟩
        have e9 : (pre ++ [(⟨m, hm⟩ : OffNo p)]).unattach = pre.map (fun x => x.1) ++ [m] := by
          show (pre ++ [(⟨m, hm⟩ : OffNo p)]).map (fun x => x.1) = _
          rw [List.map_append]
          rfl
        show World.ownsMap (H := Unit) w3 _ _ _ _ _ (spreadD ns xo.topo p (pre ++ [(⟨m, hm⟩ : OffNo p)]).unattach)
        rw [e9, E.out]
        unfold bumpD
        rw [numD_lit hat]
        exact hown3.mono (by simp; omega)
    gi_region_with_o (refine ⟨trivial, ?_⟩; gi_at_call 189; refine (CallsIn.inRound l (callsIn_wide.2 KD.out)).mono ?_; rintro e w' ⟨rfl, hb⟩)
    all_goals exact key _ hb
  case done =>
    rintro D ys W hD hys ⟨⟨hS, hT, hKk, hC, hM⟩, hB⟩ hK
    rw [hys] at hM
    obtain ⟨Dd, hDd⟩ : ∃ Dd, spreadD ns xo.topo p (offL p (membersF ps xo.name)) = Dd := ⟨_, rfl⟩
    rw [hDd] at hM
    have HE2 : Hid (R = rowD Dd) := Lib.hid (by rw [HE.out, hDd])
    have hnn : Hid (Maps.size Dd ≤ 2000) := Lib.hid (by
      have h1 := hM.size_le
      have h2 : ys.length ≤ 1000 := by
        have e1 : ys.length = (ys.map (fun x => x.1)).length := by rw [List.length_map]
        rw [e1, hys]
        have := offL_len p (membersF ps xo.name)
        have h3 : (membersF ps xo.name).length ≤ ps.length := membersU_len ps xo.name _
        have := hlp.out
        omega
      have := hln.out
      omega)
    have c0 : W.cell? ⟨Cb, 0, none⟩ = some (.map (some Mb)) := Blk.cell hC 0
    have hmk := run_ints0 W (Maps.size Dd) (by have := hnn.out; omega)
    have HW : Hid (w.heap.size ≤ W.heap.size) := Lib.hid hB.size
    have O1 := Lib.hid (own_made0 W (Maps.size Dd) w.heap.size (by have := hnn.out; omega) hB.size)
    have C1 := Lib.hid (Blk.alloc hC (.cells (madeCells #[.int .i64 0] (Maps.size Dd)) 3))
    have M1 := Lib.hid (hM.alloc (.cells (madeCells #[.int .i64 0] (Maps.size Dd)) 3))
    have B1 := Lib.hid (hB.alloc hB.size (.cells (madeCells #[.int .i64 0] (Maps.size Dd)) 3))
    have D1 : Hid ((W.alloc (.cells (madeCells #[.int .i64 0] (Maps.size Dd)) 3)).heap[D]? = some (.deferred (some []))) := Lib.hid ((Below.heap_alloc W _ D (Array.getElem?_eq_some_iff.1 hK).1).trans hK)
    have HD := Lib.hid hD
    obtain ⟨i0, hi0, hz0, hz1, hz2⟩ := info_parts int_infoK
    rename_i K0 hK0
    clear hS hT hKk hC hB hK hD hys HE hDd KS S4 T4 K4 Q4 M4 BW H HP HSH HX hlp hln hpl
    have c1 : (W.alloc (.cells (madeCells #[.int .i64 0] (Maps.size Dd)) 3)).cell? ⟨Cb, 0, none⟩ = some (.map (some Mb)) := Blk.cell C1.out 0
    have KS2 := Lib.hid (sortedKeys_in Mb _ Dd _ _ M1.out (by have := hnn.out; unfold maxLen; omega) (by have := hnn.out; omega))
    simp only [World.size_alloc] at KS2
    have hfK : Fence.wide.fn 191 := trivial
    have hfS : Fence.wide.fn 190 := trivial
    gi_wp2_with (first
      | (gi_at_len; refine wpListIn_len_own _ rfl _ _ rfl 9 3 Tryz.underlying242 _ Mb _ Dd rfl hM ?_)
      | (gi_at_call 191; refine ((mapsKeys_in (some Mb) _).more (by omega)).mono ?_; rintro e w' ⟨rfl, rfl⟩)
      | (gi_at_call 190; refine (KS2.out.more (by omega)).mono ?_; rintro e w' ⟨v, ss, rfl, hS, hrow, hnil, hb⟩; have hrow2 := own_sorted hS hrow; obtain ⟨A9, c9, rfl, hm9⟩ := La.own_slice hrow2))
    have hb2 : RowKit.Below (W.alloc (.cells (madeCells #[.int .i64 0] (Maps.size Dd)) 3)).heap.size (W.alloc (.cells (madeCells #[.int .i64 0] (Maps.size Dd)) 3)) w' := ((Below.refl _ _).alloc (Nat.le_refl _) _).trans (hb.mono (by simp))
    have O2 := Lib.hid (own_below2 O1.out hb2)
    have C2 := Lib.hid (C1.out.below hb2 C1.out.lt)
    have M2 := Lib.hid (ownsMap_below M1.out hb2)
    have B2 := Lib.hid (B1.out.trans (hb2.mono B1.out.size))
    have D2 : Hid (w'.heap[D]? = some (.deferred (some []))) := Lib.hid ((hb2.block D (Array.getElem?_eq_some_iff.1 D1.out).1).trans D1.out)
    have R2 := Lib.hid (own_base hrow2 (base' := w.heap.size) (by have := B1.out.size; simp at this ⊢; omega))
    have hLL : Hid ((sortK Dd).length ≤ 2000) := Lib.hid (by
      unfold sortK
      rw [List.length_mergeSort]
      have h1 := hnn.out
      cases Dd with
      | map es => simpa [strKeys, Maps.size] using h1
      | _ => simp [strKeys])
    have hRD : Hid (rowD Dd = (sortK Dd).map fun v => numD (Dd.atKey (.string v) (.lit (.int .i64 0)))) := Lib.hid rfl
    have hST := Lib.hid (fun x (hx : x ∈ sortK Dd) => strKeys_le hM Tryz.underlying9 x ((List.mergeSort_perm _ _).mem_iff.1 hx))
    clear hb hb2 hrow hrow2 hS hnil O1 C1 M1 B1 D1 c0 c1 KS2 hmk hM hnn
    generalize sortK Dd = L at R2 hLL hRD hST ⊢
    gi_loopw [56, 12] (fun i v wr => ∃ k : Nat, k ≤ L.length ∧ i = .int .i64 k ∧ wr.ownsRow w.heap.size 3 1 v k (intsC ((rowD Dd).take k)) ∧ wr.ownsRow w.heap.size 9 1 (.slice A9 L.length c9) L.length (L.map encStr) ∧ World.ownsMap (H := Unit) wr Tryz.prog 9 (plainElem (H := Unit) Tryz.prog 3) Mb (ns.length + ys.length) Dd ∧ Blk wr Cb #[.map (some Mb)] 242 ∧ RowKit.Below w.heap.size w wr ∧ wr.heap[D]? = some (.deferred (some []))) (fun i _ _ => L.length - (intOf i).toNat)
    case atStart => exact ⟨0, by omega, rfl, O2.out, R2.out, M2.out, C2.out, B2.out, D2.out⟩
    case round =>
      clear O2 R2 M2 C2 B2 D2
      obtain ⟨k, hk, rfl, ho, hr, hm, hc, hb, hd⟩ := hrel
      have HO := Lib.hid ho
      have HR := Lib.hid hr
      have HM := Lib.hid hm
      have HC := Lib.hid hc
      have HB := Lib.hid hb
      have HDd := Lib.hid hd
      clear ho hr hc hb hd
      by_cases hlt : k < L.length
      · obtain ⟨x, hx⟩ : ∃ x, L[k]? = some x := ⟨L[k], List.getElem?_eq_getElem hlt⟩
        obtain ⟨g, cur, hA, hg, hgb, hgc⟩ := own_blk HR.out (k := k) (y := encStr x) (by rw [List.getElem?_map, hx]; rfl)
        subst hA
        have g0 : wr.cell? ⟨g, k, none⟩ = some (strV x) := (Blk.cell hgb k).trans hgc
        have c0 : wr.cell? ⟨Cb, 0, none⟩ = some (.map (some Mb)) := Blk.cell HC.out 0
        have k0 : (0 : Int) ≤ (k : Int) := by omega
        have k1 : (k : Int) < (L.length : Int) := by omega
        have hvl : ((⟨x.toArray⟩ : ByteArray).size) ≤ maxLen := by
          rw [size_of]
          exact hST.out x (List.mem_of_getElem? hx)
        have hkey := WideMaps.keyOf_string_mk (P := Tryz.prog) Tryz.underlying9 hvl
        have HX2 := Lib.hid hx
        have hkb : Hid (k + 1 ≤ maxLen) := Lib.hid (by have := hLL.out; unfold maxLen; omega)
        have hkc : Hid ((k + 1) * 8 ≤ 140737488355328) := Lib.hid (by have := hLL.out; omega)
        have hwz : Hid (w.heap.size ≤ wr.heap.size) := Lib.hid HB.out.size
        clear hx hgb hgc hvl
        have hLLp : L.length ≤ 2000 := hLL.out
        gi_wp2_with (first
          | (gi_at_lookup; refine wpListIn_lookup_own_int _ rfl _ _ 242 rfl 9 3 .i64 (Maps.string_keyed Tryz.underlying9) Tryz.underlying242 Tryz.underlying3 (Tryz.zeroValue3 _) Mb _ _ rfl hm _ _ rfl hkey ?_; intro c hat hwc)
          | (gi_at_builtin; refine wpListIn_append_own _ rfl _ _ 32 rfl w.heap.size 3 i0 (.int .i64 0) 1 8 Tryz.underlying32 hi0 hz0 hz1 hz2 rfl (by decide) _ _ _ rfl (HO.out.alloc _) ⟨wr.heap.size, 0, none⟩ 1 1 [.int .i64 c] rfl rfl ?c1 ?c2 hkb.out hkc.out ?c5 ?_))
        case c2 => first | rfl | (intro u hu; simp at hu; subst hu; rfl)
        case c5 => have := hwz.out; simp; omega
        intro v' w2' hown' hgrow' _
        have ha0 := HO.out.alloc (.cells #[.int .i64 c] 3)
        have O3 := Lib.hid hown'
        have R3 := Lib.hid (own_own ha0 hgrow' (by decide) (HR.out.alloc (.cells #[.int .i64 c] 3)))
        have M3 := Lib.hid (own_ownsMap ha0 hgrow' (hm.alloc (.cells #[.int .i64 c] 3)))
        have C3 : Hid (Blk w2' Cb #[.map (some Mb)] 242) := Lib.hid (own_other ha0 hgrow' (Blk.alloc HC.out (.cells #[.int .i64 c] 3)) (fun cs e => by cases e))
        have D3 : Hid (w2'.heap[D]? = some (.deferred (some []))) := Lib.hid (own_other ha0 hgrow' ((Below.heap_alloc wr _ D (Array.getElem?_eq_some_iff.1 HDd.out).1).trans HDd.out) (fun cs e => by cases e))
        have B3 := Lib.hid ((HB.out.alloc HB.out.size (.cells #[.int .i64 c] 3)).grown hgrow' (by have := hwz.out; simp; omega) (fun j hj => own_gem HO.out hj))
        have hstep : Hid ((rowD Dd).take (k + 1) = (rowD Dd).take k ++ [c]) := Lib.hid (by
          have h1 : (rowD Dd)[k]? = some c := by
            rw [hRD.out, List.getElem?_map, HX2.out]
            simp only [Option.map_some, Option.some.injEq]
            exact numD_lit hat
          obtain ⟨h2, h3⟩ := List.getElem?_eq_some_iff.1 h1
          rw [List.take_succ_eq_append_getElem h2, h3])
        clear hown' hgrow' ha0 hm hkey g0 c0
        gi_wp2
        go_roundw
        case rel =>
          refine ⟨k + 1, by omega, by go_num, ?_, R3.out, M3.out, C3.out, B3.out, D3.out⟩
          rw [hstep.out]
          have := O3.out
          simpa [intsC] using this
        case measure =>
          simp [intOf]
          omega
      · obtain rfl : k = L.length := by omega
        have hrl : (rowD Dd).length = L.length := by rw [hRD.out, List.length_map]
        gi_wp2
        refine ⟨by simp, .inl ⟨_, _, rfl, run_takeDeferred HDd.out, ?_⟩⟩
        refine ⟨_, results_tmp rfl _ _ _, _, rfl, ?_, HB.out.trans (belowK_b (w := w) (Nat.le_refl _) wr D _ _ (by have := HD.out; have := hN.out; have := hsz4.out; omega) HDd.out rfl rfl)⟩
        rw [HE2.out, hrl]
        have h9 := HO.out
        rw [List.take_of_length_le (by omega)] at h9
        exact ownsRow_putObj h9 _ HDd.out rfl
  case stop =>
    rintro D c pre W _ _ h _
    exact h.elim
end Go.Proofs.YticgcimcebdjlaaGreat

namespace Go.Proofs.YticgcimcebdjlaaGreat
open Go.RowKit

/-- A list of texts as a value. -/
structure TextsAt (w : World) (A : Option Addr) (c : Nat) (l : List (List UInt8)) : Prop where
  cells : La.SlAt w A (l.map strV)
  le : l.length ≤ c
  most : c ≤ 9223372036854775807
theorem TextsAt.below {w w' : World} {A : Option Addr} {c : Nat} {l : List (List UInt8)} (h : TextsAt w A c l) (hb : Below w.heap.size w w') : TextsAt w' A c l := ⟨h.cells.below hb, h.le, h.most⟩
theorem TextsAt.own {w : World} {base : Nat} {A : Option Addr} {c : Nat} {l : List (List UInt8)} (h : w.ownsRow base 9 1 (.slice A l.length c) l.length (l.map strV)) : TextsAt w A c l := by
  have hc := capOwn h
  have hm : maxLen ≤ 9223372036854775807 := by unfold maxLen; omega
  exact ⟨La.own_slat h, hc.1, Nat.le_trans hc.2 hm⟩
end Go.Proofs.YticgcimcebdjlaaGreat

namespace Go.Proofs.YticgcimcebdjlaaGreat.Qu
open Go.RowKit

theorem eq_int (n : Nat) (a : Int) (w : World) : (Op.equalIn (n + 1) 3 (.int .i64 a) (.int .i64 a)).run Tryz.prog w = .ok true w := by
  rw [run_equalIn_int w n 3 .i64 .i64 a a Tryz.underlying3]
  simp
end Go.Proofs.YticgcimcebdjlaaGreat.Qu

namespace Go.Proofs.YticgcimcebdjlaaGreat
open Go.RowKit

/-- The cluster, its box, a placement lie in memory. -/
structure WkAt (w W : World) (N Sb : Nat) (B : Option Addr) (cb : Nat) (P : Option Addr) (p : List Int) : Prop where
  s : SnapAt W (some ⟨N + 3, 0, none⟩) B (some ⟨N + 4, 0, none⟩) 3 cb 1 (chN N [98] false) chP chO
  b : Blk W Sb #[.slice (some ⟨N + 3, 0, none⟩) 3 3, .slice B 3 cb, .slice (some ⟨N + 4, 0, none⟩) 1 1] 26
  p : IntsAt W P p.length p
  w : Below w.heap.size w W
theorem WkAt.below {w W W' : World} {N Sb : Nat} {B : Option Addr} {cb : Nat} {P : Option Addr} {p : List Int} (h : WkAt w W N Sb B cb P p) (hb : Below W.heap.size W W') : WkAt w W' N Sb B cb P p :=
  ⟨h.s.below hb, h.b.below hb h.b.lt, h.p.below hb, h.w.trans (hb.mono h.w.size)⟩
theorem WkAt.c0 {w W : World} {N Sb : Nat} {B : Option Addr} {cb : Nat} {P : Option Addr} {p : List Int} (h : WkAt w W N Sb B cb P p) : W.cell? ⟨Sb, 0, none⟩ = some (.slice (some ⟨N + 3, 0, none⟩) 3 3) ∧ W.cell? ⟨Sb, 1, none⟩ = some (.slice B 3 cb) ∧ W.cell? ⟨Sb, 2, none⟩ = some (.slice (some ⟨N + 4, 0, none⟩) 1 1) :=
  ⟨Blk.cell h.b 0, Blk.cell h.b 1, Blk.cell h.b 2⟩

end Go.Proofs.YticgcimcebdjlaaGreat

namespace Go.Proofs.YticgcimcebdjlaaGreat
open Go.RowKit

/-- The chapter's cluster (a name and a mark turned), its box lie in memory. -/
structure NmAt (w W : World) (N Sb : Nat) (B : Option Addr) (cb : Nat) (nm : List UInt8) (lost : Bool) : Prop where
  c : ChapAt W N (.slice B 3 cb) 3 nm lost
  b : Blk W Sb #[.slice (some ⟨N + 3, 0, none⟩) 3 3, .slice B 3 cb, .slice (some ⟨N + 4, 0, none⟩) 1 1] 26
  w : Below w.heap.size w W
theorem NmAt.below {w W W' : World} {N Sb : Nat} {B : Option Addr} {cb : Nat} {nm : List UInt8} {lost : Bool} (h : NmAt w W N Sb B cb nm lost) (hb : Below W.heap.size W W') : NmAt w W' N Sb B cb nm lost :=
  ⟨h.c.kept hb, h.b.below hb h.b.lt, h.w.trans (hb.mono h.w.size)⟩
theorem NmAt.s {w W : World} {N Sb : Nat} {B : Option Addr} {cb : Nat} {nm : List UInt8} {lost : Bool} (h : NmAt w W N Sb B cb nm lost) (hn : nm.length ≤ 1000) : SnapAt W (some ⟨N + 3, 0, none⟩) B (some ⟨N + 4, 0, none⟩) 3 cb 1 (chN N nm lost) chP chO := h.c.snap hn
theorem NmAt.c0 {w W : World} {N Sb : Nat} {B : Option Addr} {cb : Nat} {nm : List UInt8} {lost : Bool} (h : NmAt w W N Sb B cb nm lost) : W.cell? ⟨Sb, 0, none⟩ = some (.slice (some ⟨N + 3, 0, none⟩) 3 3) ∧ W.cell? ⟨Sb, 1, none⟩ = some (.slice B 3 cb) ∧ W.cell? ⟨Sb, 2, none⟩ = some (.slice (some ⟨N + 4, 0, none⟩) 1 1) :=
  ⟨Blk.cell h.b 0, Blk.cell h.b 1, Blk.cell h.b 2⟩
theorem blk_ne {W : World} {a b : Nat} {cs ds : Array Value} {t u : TypeId} (h : Blk W a cs t) (h' : Blk W b ds u) (ht : t ≠ u) : a ≠ b := fun e => by
  subst e
  unfold Blk at h h'
  rw [h] at h'
  cases h'
  exact ht rfl
theorem NmAt.name {w W : World} {Sb : Nat} {B : Option Addr} {cb : Nat} (h : NmAt w W w.heap.size Sb B cb [98] true) : NmAt w (W.setCell ⟨w.heap.size + 3, 10, none⟩ (strV [65])) w.heap.size Sb B cb [65] true :=
  ⟨⟨h.c.l1.oth (by omega) _ _, h.c.l2.oth (by omega) _ _, h.c.n.set 10 (strV [65]), h.c.o.oth (by omega) _ _, ch_set h.c.p h.c.n (by decide) _ _⟩, h.b.oth (blk_ne h.b h.c.n (by decide)) _ _, h.w.setCell (p := ⟨w.heap.size + 3, 10, none⟩) (Nat.le_add_right _ _) _⟩

end Go.Proofs.YticgcimcebdjlaaGreat

namespace Go.Proofs.YticgcimcebdjlaaGreat
open Go.ChangeShapes Go.WideShapes Go.ChangeAt Go.RowKit Go.Deep

theorem kcStr : Tryz.prog.cellsOf 9 = 1 := by kernel_rfl
theorem kcInt : Tryz.prog.cellsOf 3 = 1 := by kernel_rfl
theorem kcBool : Tryz.prog.cellsOf 4 = 1 := by kernel_rfl
theorem kcVec : Tryz.prog.cellsOf 77 = 5 := by kernel_rfl
theorem kcLabs : Tryz.prog.cellsOf 78 = 1 := by kernel_rfl
theorem kcTers : Tryz.prog.cellsOf 79 = 1 := by kernel_rfl
theorem kcNear : Tryz.prog.cellsOf 81 = 2 := by kernel_rfl
theorem kcLab : Tryz.prog.cellsOf 133 = 2 := by kernel_rfl
theorem kcTer : Tryz.prog.cellsOf 135 = 3 := by kernel_rfl
theorem kcNode : Tryz.prog.cellsOf 114 = 10 := by kernel_rfl
theorem kcPod : Tryz.prog.cellsOf 83 = 15 := by kernel_rfl
theorem kcOwner : Tryz.prog.cellsOf 191 = 5 := by kernel_rfl
theorem kcNodes : Tryz.prog.cellsOf 22 = 1 := by kernel_rfl
theorem kcPods : Tryz.prog.cellsOf 23 = 1 := by kernel_rfl
theorem kcOwners : Tryz.prog.cellsOf 24 = 1 := by kernel_rfl
theorem kcSnap : Tryz.prog.cellsOf 26 = 3 := by kernel_rfl
theorem kmax {n : Nat} (h : n ≤ maxLen) : n ≤ 9223372036854775807 := by unfold maxLen at h; omega

/-- Where a cell of a list of rows stands. -/
theorem flat_at {T : Type} (f : T → List Value) (k : Nat) (hf : ∀ y, (f y).length = k) : ∀ (l : List T) (j : Nat) (y : Value), (l.flatMap f)[j]? = some y → ∃ i r x, l[i]? = some x ∧ r < k ∧ j = i * k + r ∧ (f x)[r]? = some y
  | [], j, y, h => by simp at h
  | x :: t, j, y, h => by
    rw [List.flatMap_cons] at h
    by_cases hj : j < k
    · rw [List.getElem?_append_left (by rw [hf]; exact hj)] at h
      exact ⟨0, j, x, rfl, hj, by omega, h⟩
    · rw [List.getElem?_append_right (by rw [hf]; omega), hf] at h
      obtain ⟨i, r, z, h1, h2, h3, h4⟩ := flat_at f k hf t (j - k) y h
      refine ⟨i + 1, r, z, by simpa using h1, h2, ?_, h4⟩
      rw [Nat.succ_mul]
      omega

/-- A slice of rows, opened. -/
theorem slice_cells {H : Type} {enc : TypeId × Value → H} {W : World} {held : Bool} {T : Type} (f : T → List Value) (k : Nat) (Good : T → Prop) {t e : TypeId} (ht : Tryz.prog.underlying t = some (.slice e)) (hk : Tryz.prog.cellsOf e = k) (hpos : 0 < k) (hf : ∀ y, (f y).length = k)
    (hel : ∀ n cs x, DataW.trod enc Tryz.prog W 0 (fun _ => true) held n e cs = some x → ∃ y : T, cs = f y ∧ Good y) {fuel : Nat} {cs : List Value} {x : DataW H × List MemPlace} (h : DataW.trod enc Tryz.prog W 0 (fun _ => true) held fuel t cs = some x) :
    ∃ (A : Option Addr) (cap : Nat) (l : List T), cs = [.slice A l.length cap] ∧ La.SlAt W A (l.flatMap f) ∧ l.length ≤ cap ∧ cap ≤ maxLen ∧ ∀ y ∈ l, Good y := by
  rcases open_slice ht h with ⟨rfl, _⟩ | ⟨a, len, cap, m, n, D, Pl, rfl, _, hl, hm, hmm, _, hx⟩
  · exact ⟨none, 0, [], rfl, fun j y hj => by simp at hj, by simp, by simp, fun x hx => by simp at hx⟩
  · simp only [if_true] at hmm
    subst hmm
    rw [hk] at hx
    rcases Nat.eq_zero_or_pos len with hz | hz
    · subst hz
      exact ⟨some a, m, [], rfl, fun j y hj => by simp at hj, by simp, hm, fun x hx => by simp at hx⟩
    have hne : Nonempty T := by
      obtain ⟨cs', h1, h2⟩ := hx 0 (by omega)
      obtain ⟨y, _⟩ := hel _ _ _ h2
      exact ⟨y⟩
    have hinh : Inhabited T := Classical.inhabited_of_nonempty hne
    obtain ⟨L, hL⟩ := choose_lt (α := T) (p := fun i y => (∀ r v, (f y)[r]? = some v → W.cell? ((a.add (i * k)).add r) = some v) ∧ Good y) (n := len) (fun i hi => by
      obtain ⟨cs', h1, h2⟩ := hx i (by omega)
      obtain ⟨y, e, hg⟩ := hel _ _ _ h2
      subst e
      obtain ⟨_, _, hc⟩ := World.cells?_some h1
      refine ⟨y, fun r v hv => ?_, hg⟩
      have hr : r < k := by
        have := (List.getElem?_eq_some_iff.1 hv).1
        rwa [hf] at this
      rw [hc r hr]
      exact hv)
    refine ⟨some a, m, (List.range len).map L, by simp, ?_, by simpa using hl, hm, ?_⟩
    · rcases Nat.eq_zero_or_pos len with h0 | hp
      · subst h0
        exact fun j y hj => by simp at hj
      · obtain ⟨b, off, spot⟩ := a
        have hspot : spot = none := by
          have h9 : 0 < (f (L 0)).length := by rw [hf]; exact hpos
          have := (hL 0 hp).1 0 _ (List.getElem?_eq_getElem h9)
          simpa [Addr.add] using World.cell?_spot this
        subst hspot
        intro j y hj
        obtain ⟨i, r, z, h1, h2, h3, h4⟩ := flat_at f k hf _ j y hj
        have hil : i < len := by
          have := (List.getElem?_eq_some_iff.1 h1).1
          simpa using this
        rw [List.getElem?_map, List.getElem?_range hil] at h1
        simp only [Option.map_some, Option.some.injEq] at h1
        subst h1
        have hc := (hL i hil).1 r y h4
        rw [WideShapes.add_plain, WideShapes.add_plain] at hc
        refine ⟨b, off, rfl, ?_⟩
        rw [h3, ← Nat.add_assoc]
        exact hc
    · intro y hy
      obtain ⟨i, hi, rfl⟩ := List.mem_map.1 hy
      exact (hL i (List.mem_range.1 hi)).2

section
variable {H : Type} {enc : TypeId × Value → H} {W : World} {held : Bool}

theorem str_one {n : Nat} {c : Value} {x : DataW H × List MemPlace} (h : DataW.trod enc Tryz.prog W 0 (fun _ => true) held n 9 [c] = some x) : ∃ s : List UInt8, c = strV s ∧ s.length ≤ maxLen := by
  obtain ⟨s, e, _, m⟩ := DataW.trod_string Tryz.underlying9 h
  simp only [List.cons.injEq, and_true] at e
  exact ⟨s.data.toList, e, m⟩
theorem int_one {n : Nat} {c : Value} {x : DataW H × List MemPlace} (h : DataW.trod enc Tryz.prog W 0 (fun _ => true) held n 3 [c] = some x) : ∃ k : Int, c = .int .i64 k := by
  obtain ⟨s, e, _, m⟩ := DataW.trod_int Tryz.underlying3 h
  simp only [List.cons.injEq, and_true] at e
  exact ⟨s, e⟩
theorem bool_one {n : Nat} {c : Value} {x : DataW H × List MemPlace} (h : DataW.trod enc Tryz.prog W 0 (fun _ => true) held n 4 [c] = some x) : ∃ k : Bool, c = .bool k := by
  obtain ⟨s, e, _⟩ := DataW.trod_bool Tryz.underlying4 h
  simp only [List.cons.injEq, and_true] at e
  exact ⟨s, e⟩
set_option maxRecDepth 100000 in
theorem vec_one {n : Nat} {c0 c1 c2 c3 c4 : Value} {x : DataW H × List MemPlace} (h : DataW.trod enc Tryz.prog W 0 (fun _ => true) held n 77 [c0, c1, c2, c3, c4] = some x) : ∃ r : Nat → Int, c0 = .int .i64 (r 0) ∧ c1 = .int .i64 (r 1) ∧ c2 = .int .i64 (r 2) ∧ c3 = .int .i64 (r 3) ∧ c4 = .int .i64 (r 4) := by
  obtain ⟨xs, m, _, _, hl, hxl, hf⟩ := DataW.trod_array Tryz.underlying77 h
  match xs, hxl with
  | [x0, x1, x2, x3, x4], _ =>
    have h0 := hf 0 (by omega)
    have h1 := hf 1 (by omega)
    have h2 := hf 2 (by omega)
    have h3 := hf 3 (by omega)
    have h4 := hf 4 (by omega)
    rw [kcInt] at h0 h1 h2 h3 h4
    obtain ⟨a0, e0⟩ := int_one (enc := enc) (W := W) (held := held) (n := m) (c := c0) (x := x0) h0
    obtain ⟨a1, e1⟩ := int_one (enc := enc) (W := W) (held := held) (n := m) (c := c1) (x := x1) h1
    obtain ⟨a2, e2⟩ := int_one (enc := enc) (W := W) (held := held) (n := m) (c := c2) (x := x2) h2
    obtain ⟨a3, e3⟩ := int_one (enc := enc) (W := W) (held := held) (n := m) (c := c3) (x := x3) h3
    obtain ⟨a4, e4⟩ := int_one (enc := enc) (W := W) (held := held) (n := m) (c := c4) (x := x4) h4
    exact ⟨fun k => match k with | 0 => a0 | 1 => a1 | 2 => a2 | 3 => a3 | _ => a4, e0, e1, e2, e3, e4⟩
set_option maxRecDepth 100000 in
theorem lab_row (n : Nat) (cs : List Value) (x : DataW H × List MemPlace) (h : DataW.trod enc Tryz.prog W 0 (fun _ => true) held n 133 cs = some x) : ∃ y : L2, cs = [strV y.1, strV y.2] ∧ (y.1.length ≤ 9223372036854775807 ∧ y.2.length ≤ 9223372036854775807) := by
  obtain ⟨xs, m, _, _, hl, hxl, hf⟩ := DataW.trod_struct Tryz.underlying133 h
  rw [kcLab] at hl
  match cs, hl, xs, hxl with
  | [c0, c1], _, [y0, y1], _ =>
    have h0 : DataW.trod enc Tryz.prog W 0 (fun _ => true) held m 9 ((([c0, c1] : List Value).drop 0).take (Tryz.prog.cellsOf 9)) = some y0 := hf 0 _ rfl
    have h1 : DataW.trod enc Tryz.prog W 0 (fun _ => true) held m 9 ((([c0, c1] : List Value).drop 1).take (Tryz.prog.cellsOf 9)) = some y1 := hf 1 _ rfl
    rw [kcStr] at h0 h1
    obtain ⟨s0, e0, m0⟩ := str_one (enc := enc) (W := W) (held := held) (n := m) (c := c0) (x := y0) h0
    obtain ⟨s1, e1, m1⟩ := str_one (enc := enc) (W := W) (held := held) (n := m) (c := c1) (x := y1) h1
    exact ⟨(s0, s1), by rw [e0, e1], kmax m0, kmax m1⟩
set_option maxRecDepth 100000 in
theorem ter_row (n : Nat) (cs : List Value) (x : DataW H × List MemPlace) (h : DataW.trod enc Tryz.prog W 0 (fun _ => true) held n 135 cs = some x) : ∃ y : T3, cs = [.int .i64 y.1, strV y.2.1, strV y.2.2] ∧ (y.2.1.length ≤ 9223372036854775807 ∧ y.2.2.length ≤ 9223372036854775807) := by
  obtain ⟨xs, m, _, _, hl, hxl, hf⟩ := DataW.trod_struct Tryz.underlying135 h
  rw [kcTer] at hl
  match cs, hl, xs, hxl with
  | [c0, c1, c2], _, [y0, y1, y2], _ =>
    have h0 : DataW.trod enc Tryz.prog W 0 (fun _ => true) held m 3 ((([c0, c1, c2] : List Value).drop 0).take (Tryz.prog.cellsOf 3)) = some y0 := hf 0 _ rfl
    have h1 : DataW.trod enc Tryz.prog W 0 (fun _ => true) held m 9 ((([c0, c1, c2] : List Value).drop 1).take (Tryz.prog.cellsOf 9)) = some y1 := hf 1 _ rfl
    have h2 : DataW.trod enc Tryz.prog W 0 (fun _ => true) held m 9 ((([c0, c1, c2] : List Value).drop 2).take (Tryz.prog.cellsOf 9)) = some y2 := hf 2 _ rfl
    rw [kcInt] at h0
    rw [kcStr] at h1 h2
    obtain ⟨k, e0⟩ := int_one (enc := enc) (W := W) (held := held) (n := m) (c := c0) (x := y0) h0
    obtain ⟨s1, e1, m1⟩ := str_one (enc := enc) (W := W) (held := held) (n := m) (c := c1) (x := y1) h1
    obtain ⟨s2, e2, m2⟩ := str_one (enc := enc) (W := W) (held := held) (n := m) (c := c2) (x := y2) h2
    exact ⟨(k, s1, s2), by rw [e0, e1, e2], kmax m1, kmax m2⟩
theorem labs_one {n : Nat} {c : Value} {x : DataW H × List MemPlace} (h : DataW.trod enc Tryz.prog W 0 (fun _ => true) held n 78 [c] = some x) : ∃ A cap l, c = .slice A (List.length l) cap ∧ ListL W A cap l := by
  obtain ⟨A, cap, l, e, hs, h1, h2, hg⟩ := slice_cells (T := L2) (fun y => [strV y.1, strV y.2]) 2 _ Tryz.underlying78 kcLab (by omega) (fun _ => rfl) (fun n cs x h => lab_row n cs x h) h
  simp only [List.cons.injEq, and_true] at e
  exact ⟨A, cap, l, e, h1, kmax h2, hs, hg⟩
theorem ters_one {n : Nat} {c : Value} {x : DataW H × List MemPlace} (h : DataW.trod enc Tryz.prog W 0 (fun _ => true) held n 79 [c] = some x) : ∃ A cap l, c = .slice A (List.length l) cap ∧ ListT W A cap l := by
  obtain ⟨A, cap, l, e, hs, h1, h2, hg⟩ := slice_cells (T := T3) (fun y => [.int .i64 y.1, strV y.2.1, strV y.2.2]) 3 _ Tryz.underlying79 kcTer (by omega) (fun _ => rfl) (fun n cs x h => ter_row n cs x h) h
  simp only [List.cons.injEq, and_true] at e
  exact ⟨A, cap, l, e, h1, kmax h2, hs, hg⟩
set_option maxRecDepth 100000 in
theorem near_one {n : Nat} {c0 c1 : Value} {x : DataW H × List MemPlace} (h : DataW.trod enc Tryz.prog W 0 (fun _ => true) held n 81 [c0, c1] = some x) : ∃ s A cap l, c0 = strV s ∧ s.length ≤ 9223372036854775807 ∧ c1 = .slice A (List.length l) cap ∧ ListT W A cap l := by
  obtain ⟨xs, m, _, _, hl, hxl, hf⟩ := DataW.trod_struct Tryz.underlying81 h
  match xs, hxl with
  | [y0, y1], _ =>
    have h0 : DataW.trod enc Tryz.prog W 0 (fun _ => true) held m 9 ((([c0, c1] : List Value).drop 0).take (Tryz.prog.cellsOf 9)) = some y0 := hf 0 _ rfl
    have h1 : DataW.trod enc Tryz.prog W 0 (fun _ => true) held m 79 ((([c0, c1] : List Value).drop 1).take (Tryz.prog.cellsOf 79)) = some y1 := hf 1 _ rfl
    rw [kcStr] at h0
    rw [kcTers] at h1
    obtain ⟨s, e0, m0⟩ := str_one (enc := enc) (W := W) (held := held) (n := m) (c := c0) (x := y0) h0
    obtain ⟨A, cap, l, e1, hL⟩ := ters_one (enc := enc) (W := W) (held := held) (n := m) (c := c1) (x := y1) h1
    exact ⟨s, A, cap, l, e0, kmax m0, e1, hL⟩
set_option maxRecDepth 100000 in
theorem node_row (n : Nat) (cs : List Value) (x : DataW H × List MemPlace) (h : DataW.trod enc Tryz.prog W 0 (fun _ => true) held n 114 cs = some x) : ∃ y : NodeD, cs = [strV y.name, .int .i64 (y.cap 0), .int .i64 (y.cap 1), .int .i64 (y.cap 2), .int .i64 (y.cap 3), .int .i64 (y.cap 4), .slice y.al y.labels.length y.cl, .slice y.at_ y.taints.length y.ct, .bool y.cordon, .bool y.lost] ∧ y.fit W := by
  obtain ⟨xs, m, _, _, hl, hxl, hf⟩ := DataW.trod_struct Tryz.underlying114 h
  rw [kcNode] at hl
  match cs, hl, xs, hxl with
  | [c0, c1, c2, c3, c4, c5, c6, c7, c8, c9], _, [y0, y1, y2, y3, y4, y5], _ =>
    have h0 : DataW.trod enc Tryz.prog W 0 (fun _ => true) held m 9 ((([c0, c1, c2, c3, c4, c5, c6, c7, c8, c9] : List Value).drop 0).take (Tryz.prog.cellsOf 9)) = some y0 := hf 0 _ rfl
    have h1 : DataW.trod enc Tryz.prog W 0 (fun _ => true) held m 77 ((([c0, c1, c2, c3, c4, c5, c6, c7, c8, c9] : List Value).drop 1).take (Tryz.prog.cellsOf 77)) = some y1 := hf 1 _ rfl
    have h2 : DataW.trod enc Tryz.prog W 0 (fun _ => true) held m 78 ((([c0, c1, c2, c3, c4, c5, c6, c7, c8, c9] : List Value).drop 6).take (Tryz.prog.cellsOf 78)) = some y2 := hf 2 _ rfl
    have h3 : DataW.trod enc Tryz.prog W 0 (fun _ => true) held m 78 ((([c0, c1, c2, c3, c4, c5, c6, c7, c8, c9] : List Value).drop 7).take (Tryz.prog.cellsOf 78)) = some y3 := hf 3 _ rfl
    have h4 : DataW.trod enc Tryz.prog W 0 (fun _ => true) held m 4 ((([c0, c1, c2, c3, c4, c5, c6, c7, c8, c9] : List Value).drop 8).take (Tryz.prog.cellsOf 4)) = some y4 := hf 4 _ rfl
    have h5 : DataW.trod enc Tryz.prog W 0 (fun _ => true) held m 4 ((([c0, c1, c2, c3, c4, c5, c6, c7, c8, c9] : List Value).drop 9).take (Tryz.prog.cellsOf 4)) = some y5 := hf 5 _ rfl
    rw [kcStr] at h0
    rw [kcVec] at h1
    rw [kcLabs] at h2 h3
    rw [kcBool] at h4 h5
    obtain ⟨s, e0, m0⟩ := str_one (enc := enc) (W := W) (held := held) (n := m) (c := c0) (x := y0) h0
    obtain ⟨r, e1, e2, e3, e4, e5⟩ := vec_one (enc := enc) (W := W) (held := held) (n := m) (c0 := c1) (c1 := c2) (c2 := c3) (c3 := c4) (c4 := c5) (x := y1) h1
    obtain ⟨A1, k1, l1, e6, hL1⟩ := labs_one (enc := enc) (W := W) (held := held) (n := m) (c := c6) (x := y2) h2
    obtain ⟨A2, k2, l2, e7, hL2⟩ := labs_one (enc := enc) (W := W) (held := held) (n := m) (c := c7) (x := y3) h3
    obtain ⟨b8, e8⟩ := bool_one (enc := enc) (W := W) (held := held) (n := m) (c := c8) (x := y4) h4
    obtain ⟨b9, e9⟩ := bool_one (enc := enc) (W := W) (held := held) (n := m) (c := c9) (x := y5) h5
    exact ⟨{ name := s, cap := r, labels := l1, taints := l2, cordon := b8, lost := b9, al := A1, cl := k1, at_ := A2, ct := k2 }, by rw [e0, e1, e2, e3, e4, e5, e6, e7, e8, e9], hL1, hL2, kmax m0⟩
set_option maxRecDepth 100000 in
theorem pod_row (n : Nat) (cs : List Value) (x : DataW H × List MemPlace) (h : DataW.trod enc Tryz.prog W 0 (fun _ => true) held n 83 cs = some x) : ∃ y : PodD, cs = [strV y.name, strV y.owner, .int .i64 (y.req 0), .int .i64 (y.req 1), .int .i64 (y.req 2), .int .i64 (y.req 3), .int .i64 (y.req 4), .slice y.al y.labels.length y.cl, .slice y.aw y.whr.length y.cw, .slice y.ab y.bears.length y.cb, strV y.wt, .slice y.awt y.wtm.length y.cwt, strV y.ap, .slice y.aap y.apm.length y.cap, strV y.on] ∧ y.fit W := by
  obtain ⟨xs, m, _, _, hl, hxl, hf⟩ := DataW.trod_struct Tryz.underlying83 h
  rw [kcPod] at hl
  match cs, hl, xs, hxl with
  | [c0, c1, c2, c3, c4, c5, c6, c7, c8, c9, c10, c11, c12, c13, c14], _, [y0, y1, y2, y3, y4, y5, y6, y7, y8], _ =>
    have h0 : DataW.trod enc Tryz.prog W 0 (fun _ => true) held m 9 ((([c0, c1, c2, c3, c4, c5, c6, c7, c8, c9, c10, c11, c12, c13, c14] : List Value).drop 0).take (Tryz.prog.cellsOf 9)) = some y0 := hf 0 _ rfl
    have h1 : DataW.trod enc Tryz.prog W 0 (fun _ => true) held m 9 ((([c0, c1, c2, c3, c4, c5, c6, c7, c8, c9, c10, c11, c12, c13, c14] : List Value).drop 1).take (Tryz.prog.cellsOf 9)) = some y1 := hf 1 _ rfl
    have h2 : DataW.trod enc Tryz.prog W 0 (fun _ => true) held m 77 ((([c0, c1, c2, c3, c4, c5, c6, c7, c8, c9, c10, c11, c12, c13, c14] : List Value).drop 2).take (Tryz.prog.cellsOf 77)) = some y2 := hf 2 _ rfl
    have h3 : DataW.trod enc Tryz.prog W 0 (fun _ => true) held m 78 ((([c0, c1, c2, c3, c4, c5, c6, c7, c8, c9, c10, c11, c12, c13, c14] : List Value).drop 7).take (Tryz.prog.cellsOf 78)) = some y3 := hf 3 _ rfl
    have h4 : DataW.trod enc Tryz.prog W 0 (fun _ => true) held m 79 ((([c0, c1, c2, c3, c4, c5, c6, c7, c8, c9, c10, c11, c12, c13, c14] : List Value).drop 8).take (Tryz.prog.cellsOf 79)) = some y4 := hf 4 _ rfl
    have h5 : DataW.trod enc Tryz.prog W 0 (fun _ => true) held m 78 ((([c0, c1, c2, c3, c4, c5, c6, c7, c8, c9, c10, c11, c12, c13, c14] : List Value).drop 9).take (Tryz.prog.cellsOf 78)) = some y5 := hf 5 _ rfl
    have h6 : DataW.trod enc Tryz.prog W 0 (fun _ => true) held m 81 ((([c0, c1, c2, c3, c4, c5, c6, c7, c8, c9, c10, c11, c12, c13, c14] : List Value).drop 10).take (Tryz.prog.cellsOf 81)) = some y6 := hf 6 _ rfl
    have h7 : DataW.trod enc Tryz.prog W 0 (fun _ => true) held m 81 ((([c0, c1, c2, c3, c4, c5, c6, c7, c8, c9, c10, c11, c12, c13, c14] : List Value).drop 12).take (Tryz.prog.cellsOf 81)) = some y7 := hf 7 _ rfl
    have h8 : DataW.trod enc Tryz.prog W 0 (fun _ => true) held m 9 ((([c0, c1, c2, c3, c4, c5, c6, c7, c8, c9, c10, c11, c12, c13, c14] : List Value).drop 14).take (Tryz.prog.cellsOf 9)) = some y8 := hf 8 _ rfl
    rw [kcStr] at h0 h1 h8
    rw [kcVec] at h2
    rw [kcLabs] at h3 h5
    rw [kcTers] at h4
    rw [kcNear] at h6 h7
    obtain ⟨s0, e0, m0⟩ := str_one (enc := enc) (W := W) (held := held) (n := m) (c := c0) (x := y0) h0
    obtain ⟨s1, e1, m1⟩ := str_one (enc := enc) (W := W) (held := held) (n := m) (c := c1) (x := y1) h1
    obtain ⟨r, e2, e3, e4, e5, e6⟩ := vec_one (enc := enc) (W := W) (held := held) (n := m) (c0 := c2) (c1 := c3) (c2 := c4) (c3 := c5) (c4 := c6) (x := y2) h2
    obtain ⟨A1, k1, l1, e7, hL1⟩ := labs_one (enc := enc) (W := W) (held := held) (n := m) (c := c7) (x := y3) h3
    obtain ⟨A2, k2, l2, e8, hL2⟩ := ters_one (enc := enc) (W := W) (held := held) (n := m) (c := c8) (x := y4) h4
    obtain ⟨A3, k3, l3, e9, hL3⟩ := labs_one (enc := enc) (W := W) (held := held) (n := m) (c := c9) (x := y5) h5
    obtain ⟨s4, A4, k4, l4, e10, m4, e11, hL4⟩ := near_one (enc := enc) (W := W) (held := held) (n := m) (c0 := c10) (c1 := c11) (x := y6) h6
    obtain ⟨s5, A5, k5, l5, e12, m5, e13, hL5⟩ := near_one (enc := enc) (W := W) (held := held) (n := m) (c0 := c12) (c1 := c13) (x := y7) h7
    obtain ⟨s6, e14, m6⟩ := str_one (enc := enc) (W := W) (held := held) (n := m) (c := c14) (x := y8) h8
    exact ⟨{ name := s0, owner := s1, req := r, labels := l1, whr := l2, bears := l3, wt := s4, wtm := l4, ap := s5, apm := l5, on := s6, al := A1, cl := k1, aw := A2, cw := k2, ab := A3, cb := k3, awt := A4, cwt := k4, aap := A5, cap := k5 }, by rw [e0, e1, e2, e3, e4, e5, e6, e7, e8, e9, e10, e11, e12, e13, e14], hL1, hL2, hL3, hL4, hL5, kmax m0, kmax m1, m4, m5, kmax m6⟩
set_option maxRecDepth 100000 in
theorem owner_row (n : Nat) (cs : List Value) (x : DataW H × List MemPlace) (h : DataW.trod enc Tryz.prog W 0 (fun _ => true) held n 191 cs = some x) : ∃ y : OwnD, cs = [strV y.name, .int .i64 y.min, strV y.topo, .int .i64 y.skew, .bool y.single] ∧ y.fit := by
  obtain ⟨xs, m, _, _, hl, hxl, hf⟩ := DataW.trod_struct Tryz.underlying191 h
  rw [kcOwner] at hl
  match cs, hl, xs, hxl with
  | [c0, c1, c2, c3, c4], _, [y0, y1, y2, y3, y4], _ =>
    have h0 : DataW.trod enc Tryz.prog W 0 (fun _ => true) held m 9 ((([c0, c1, c2, c3, c4] : List Value).drop 0).take (Tryz.prog.cellsOf 9)) = some y0 := hf 0 _ rfl
    have h1 : DataW.trod enc Tryz.prog W 0 (fun _ => true) held m 3 ((([c0, c1, c2, c3, c4] : List Value).drop 1).take (Tryz.prog.cellsOf 3)) = some y1 := hf 1 _ rfl
    have h2 : DataW.trod enc Tryz.prog W 0 (fun _ => true) held m 9 ((([c0, c1, c2, c3, c4] : List Value).drop 2).take (Tryz.prog.cellsOf 9)) = some y2 := hf 2 _ rfl
    have h3 : DataW.trod enc Tryz.prog W 0 (fun _ => true) held m 3 ((([c0, c1, c2, c3, c4] : List Value).drop 3).take (Tryz.prog.cellsOf 3)) = some y3 := hf 3 _ rfl
    have h4 : DataW.trod enc Tryz.prog W 0 (fun _ => true) held m 4 ((([c0, c1, c2, c3, c4] : List Value).drop 4).take (Tryz.prog.cellsOf 4)) = some y4 := hf 4 _ rfl
    rw [kcStr] at h0 h2
    rw [kcInt] at h1 h3
    rw [kcBool] at h4
    obtain ⟨s0, e0, m0⟩ := str_one (enc := enc) (W := W) (held := held) (n := m) (c := c0) (x := y0) h0
    obtain ⟨i1, e1⟩ := int_one (enc := enc) (W := W) (held := held) (n := m) (c := c1) (x := y1) h1
    obtain ⟨s2, e2, m2⟩ := str_one (enc := enc) (W := W) (held := held) (n := m) (c := c2) (x := y2) h2
    obtain ⟨i3, e3⟩ := int_one (enc := enc) (W := W) (held := held) (n := m) (c := c3) (x := y3) h3
    obtain ⟨b4, e4⟩ := bool_one (enc := enc) (W := W) (held := held) (n := m) (c := c4) (x := y4) h4
    exact ⟨{ name := s0, min := i1, topo := s2, skew := i3, single := b4 }, by rw [e0, e1, e2, e3, e4], kmax m0, kmax m2⟩
end

/-- A cluster of any length in memory. -/
structure SnapIn (w : World) (A B C : Option Addr) (ca cb cc : Nat) (ns : List NodeD) (ps : List PodD) (os : List OwnD) : Prop where
  n : NodesAt w A ns
  p : PodsAt w B ps
  o : La.SlAt w C (cellsO os)
  fo : ∀ x ∈ os, x.fit
  can : ns.length ≤ ca ∧ ca ≤ 9223372036854775807
  cap : ps.length ≤ cb ∧ cb ≤ 9223372036854775807
  cao : os.length ≤ cc ∧ cc ≤ 9223372036854775807

set_option maxRecDepth 100000 in
theorem open_snap {H : Type} {enc : TypeId × Value → H} {W : World} {r : Reach} {b0 : Nat} {held : Bool} {v : Value} {d : DataW H} {p : List MemPlace}
    (hv : Value.okWide Tryz.prog W r b0 26 v) (h : DataW.Trod enc Tryz.prog W 0 (fun _ => true) held 26 v d p) :
    ∃ A B C ca cb cc ns ps os, v = snapV A B C ca cb cc ns ps os ∧ SnapIn W A B C ca cb cc ns ps os := by
  simp only [Value.okWide, Tryz.underlying26] at hv
  obtain ⟨cs, rfl, _, _⟩ := hv
  obtain ⟨fuel, hf0⟩ := h
  obtain ⟨xs, m, _, _, hl, hxl, hf⟩ := DataW.trod_struct Tryz.underlying26 hf0
  rw [kcSnap] at hl
  obtain ⟨c0, c1, c2, rfl⟩ : ∃ c0 c1 c2, cs = #[c0, c1, c2] := by
    obtain ⟨l⟩ := cs
    match l, hl with
    | [c0, c1, c2], _ => exact ⟨c0, c1, c2, rfl⟩
  match xs, hxl with
  | [y0, y1, y2], _ =>
    have h0 : DataW.trod enc Tryz.prog W 0 (fun _ => true) held m 22 ((([c0, c1, c2] : List Value).drop 0).take (Tryz.prog.cellsOf 22)) = some y0 := hf 0 _ rfl
    have h1 : DataW.trod enc Tryz.prog W 0 (fun _ => true) held m 23 ((([c0, c1, c2] : List Value).drop 1).take (Tryz.prog.cellsOf 23)) = some y1 := hf 1 _ rfl
    have h2 : DataW.trod enc Tryz.prog W 0 (fun _ => true) held m 24 ((([c0, c1, c2] : List Value).drop 2).take (Tryz.prog.cellsOf 24)) = some y2 := hf 2 _ rfl
    rw [kcNodes] at h0
    rw [kcPods] at h1
    rw [kcOwners] at h2
    have g0 : DataW.trod enc Tryz.prog W 0 (fun _ => true) held m 22 [c0] = some y0 := h0
    have g1 : DataW.trod enc Tryz.prog W 0 (fun _ => true) held m 23 [c1] = some y1 := h1
    have g2 : DataW.trod enc Tryz.prog W 0 (fun _ => true) held m 24 [c2] = some y2 := h2
    obtain ⟨A, ca, ns, e0, hs0, l0, k0, f0⟩ := slice_cells (T := NodeD) _ 10 _ Tryz.underlying22 kcNode (by omega) (fun _ => rfl) (fun n cs x h => node_row n cs x h) g0
    obtain ⟨B, cb, ps, e1, hs1, l1, k1, f1⟩ := slice_cells (T := PodD) _ 15 _ Tryz.underlying23 kcPod (by omega) (fun _ => rfl) (fun n cs x h => pod_row n cs x h) g1
    obtain ⟨C, cc, os, e2, hs2, l2, k2, f2⟩ := slice_cells (T := OwnD) _ 5 _ Tryz.underlying24 kcOwner (by omega) (fun _ => rfl) (fun n cs x h => owner_row n cs x h) g2
    simp only [List.cons.injEq, and_true] at e0 e1 e2
    exact ⟨A, B, C, ca, cb, cc, ns, ps, os, by rw [e0, e1, e2], ⟨hs0, f0⟩, ⟨hs1, f1⟩, hs2, f2, ⟨l0, kmax k0⟩, ⟨l1, kmax k1⟩, ⟨l2, kmax k2⟩⟩
end Go.Proofs.YticgcimcebdjlaaGreat

namespace Go.Proofs.YticgcimcebdjlaaGreat
open Go.RowKit

theorem flat_take {T : Type} (f : T → List Value) (l : List T) (n : Nat) {j : Nat} {y : Value} (h : ((l.take n).flatMap f)[j]? = some y) : (l.flatMap f)[j]? = some y := by
  have e : l.flatMap f = (l.take n).flatMap f ++ (l.drop n).flatMap f := by rw [← List.flatMap_append, List.take_append_drop]
  rw [e, List.getElem?_append_left (List.getElem?_eq_some_iff.1 h).1]
  exact h
theorem SnapIn.take {w : World} {A B C : Option Addr} {ca cb cc : Nat} {ns : List NodeD} {ps : List PodD} {os : List OwnD} (h : SnapIn w A B C ca cb cc ns ps os) : SnapAt w A B C ca cb cc (ns.take 12) (ps.take 30) (os.take 12) := by
  refine ⟨⟨fun j y hj => h.n.cells j y (flat_take _ ns 12 hj), fun x hx => h.n.fit x (List.mem_of_mem_take hx)⟩, ⟨fun j y hj => h.p.cells j y (flat_take _ ps 30 hj), fun x hx => h.p.fit x (List.mem_of_mem_take hx)⟩, fun j y hj => h.o j y (flat_take _ os 12 hj), fun x hx => h.fo x (List.mem_of_mem_take hx), ?_, ?_, ?_, ⟨?_, h.can.2⟩, ⟨?_, h.cap.2⟩, ⟨?_, h.cao.2⟩⟩
  · simp; omega
  · simp; omega
  · simp; omega
  · have := h.can.1; simp; omega
  · have := h.cap.1; simp; omega
  · have := h.cao.1; simp; omega

end Go.Proofs.YticgcimcebdjlaaGreat

namespace Go.Proofs.YticgcimcebdjlaaGreat.Qu
open Go.RowKit

theorem neg_lt_tmod (i : Int) {n : Int} (hn : 0 < n) : -n < i.tmod n := by
  have h := Int.tmod_lt_of_pos (-i) hn
  rw [Int.neg_tmod] at h
  omega
theorem emod_of_tmod (i n : Int) : i % n = i.tmod n % n := by
  conv => lhs; rw [← Int.mul_tdiv_add_tmod i n]
  rw [Int.mul_add_emod_self_left]
theorem emod_neg {i n : Int} (hn : 0 < n) (h : i.tmod n < 0) : i % n = i.tmod n + n := by
  have h1 : -n < i.tmod n := by
    have := neg_lt_tmod i hn
    omega
  rw [emod_of_tmod i n, ← Int.add_emod_right]
  exact Int.emod_eq_of_lt (by omega) (by omega)
theorem emod_pos {i n : Int} (hn : 0 < n) (h : ¬ i.tmod n < 0) : i % n = i.tmod n := by
  rw [emod_of_tmod i n]
  exact Int.emod_eq_of_lt (by omega) (Int.tmod_lt_of_pos i hn)

set_option maxHeartbeats 400000 in
theorem bring_any (i n : Int) (w : World) (hn : 0 < n) (hn' : n ≤ 4611686018427387904) :
    Calls Tryz.prog 15 #[.int .i64 i, .int .i64 n] w fun e w' => e = .returned (.int .i64 (i % n)) ∧ w = w' := by
  have hlt := Int.tmod_lt_of_pos i hn
  have hgt := neg_lt_tmod i hn
  have Hw : Hid (IntKind.i64.wrap (i.tmod n) = i.tmod n) := IntWalk.i64_in _ (by omega)
  by_cases h : i.tmod n < 0
  · have He := Lib.hid (emod_neg hn h)
    have Hw2 : Hid (IntKind.i64.wrap (i.tmod n + n) = i.tmod n + n) := IntWalk.i64_in _ (by omega)
    have hz : ¬ n = 0 := by omega
    go_enter Tryz.func15, Tryz.ntmps15
    go_wp2
    go_ret
    exact ⟨retI He.out.symm, rfl⟩
  · have He := Lib.hid (emod_pos hn h)
    have hz : ¬ n = 0 := by omega
    go_enter Tryz.func15, Tryz.ntmps15
    go_wp2
    go_ret
    exact ⟨retI He.out.symm, rfl⟩

end Go.Proofs.YticgcimcebdjlaaGreat.Qu

namespace Go.Proofs.YticgcimcebdjlaaGreat
open Go.RowKit

theorem placeE_zero {ns : List NodeD} {ps : List PodD} {os : List OwnD} {p : List Int} (h : placeE ns ps os p = 0) : checkS ns ps os = 0 ∧ p.length = ps.length ∧ ∀ x ∈ p, okB ns x = true := by
  unfold placeE at h
  by_cases h0 : checkS ns ps os = 0
  · rw [if_pos h0] at h
    by_cases h1 : p.length = ps.length
    · rw [if_pos h1] at h
      by_cases h2 : p.all (okB ns) = true
      · exact ⟨h0, h1, List.all_eq_true.1 h2⟩
      · rw [if_neg h2] at h
        cases h
    · rw [if_neg h1] at h
      cases h
  · rw [if_neg h0] at h
    exact absurd h h0
theorem ok_tp {ns : List NodeD} {x : Int} (h : okB ns x = true) (hx : 0 ≤ x) : tpB ns x = true := by
  unfold okB at h
  rw [decide_eq_false (by omega), Bool.false_or] at h
  exact h
end Go.Proofs.YticgcimcebdjlaaGreat

namespace Go.Proofs.YticgcimcebdjlaaGreat
open Go.RowKit

theorem wrap_step (s x : Int) : wrap64 (wrap64 s + x) = wrap64 (s + x) := by
  unfold wrap64
  omega
/-- What a pod asks for. -/
def reqAt (ps : List PodD) (k y : Nat) : Int := match ps[y]? with
  | some x => x.req k
  | none => 0
def reqS (ps : List PodD) (k : Nat) (ys : List Nat) : Int := (ys.map (reqAt ps k)).sum
theorem addW_from (ps : List PodD) (k : Nat) : ∀ (ys : List Nat) (s : Int), ys.foldl (fun a y => wrap64 (a + (match ps[y]? with | some x => x.req k | none => 0))) (wrap64 s) = wrap64 (s + reqS ps k ys)
  | [], s => by simp [reqS]
  | y :: t, s => by
    rw [List.foldl_cons, wrap_step]
    have := addW_from ps k t (s + reqAt ps k y)
    unfold reqAt at this
    rw [this]
    unfold reqS
    rw [List.map_cons, List.sum_cons, ← Int.add_assoc]
    rfl
theorem addW_is (ps : List PodD) (k : Nat) (ys : List Nat) : addW ps ys k = wrap64 (reqS ps k ys) := by
  have := addW_from ps k ys 0
  rw [show wrap64 0 = 0 by unfold wrap64; omega, Int.zero_add] at this
  exact this
theorem sum_bump : ∀ (l : List Int) (i : Nat), i < l.length → (l.set i (l.getD i 0 + 1)).sum = l.sum + 1
  | [], i, h => by simp at h
  | x :: t, 0, _ => by
    simp
    omega
  | x :: t, i + 1, h => by
    have := sum_bump t i (by simpa using h)
    rw [List.set_cons_succ, List.sum_cons, List.sum_cons, List.getD_cons_succ, this]
    omega
/-- What is counted on the nodes is how many there are. -/
theorem cnt_sum (n : Nat) (p : List Int) (ys : List Nat) (h : ∀ y ∈ ys, ∃ x, p[y]? = some x ∧ 0 ≤ x ∧ x < (n : Int)) : (cntL n p ys).sum = (ys.length : Int) := by
  suffices g : ∀ (ys : List Nat) (l : List Int), l.length = n → (∀ y ∈ ys, ∃ x, p[y]? = some x ∧ 0 ≤ x ∧ x < (n : Int)) → (ys.foldl (fun l y => match p[y]? with | some x => l.set x.toNat (l.getD x.toNat 0 + 1) | none => l) l).sum = l.sum + (ys.length : Int) by
    refine (g ys (List.replicate n 0) (List.length_replicate ..) h).trans ?_
    simp
  intro ys
  induction ys with
  | nil => intro l _ _; simp
  | cons y t ih =>
    intro l hl hy
    obtain ⟨x, hx, h0, h1⟩ := hy y (by simp)
    rw [List.foldl_cons]
    simp only [hx]
    rw [ih _ (by rw [List.length_set, hl]) (fun z hz => hy z (by simp [hz])), sum_bump l x.toNat (by omega)]
    simp
    omega
end Go.Proofs.YticgcimcebdjlaaGreat

namespace Go.Proofs.YticgcimcebdjlaaGreat
open Go.RowKit Go.Shelf Go.Maps Go.Sort

theorem insert_perm (x : Lit × DataW Unit) : ∀ l : List (Lit × DataW Unit), (DataW.insert x l).Perm (x :: l)
  | [] => by simp [DataW.insert]
  | y :: r => by
    unfold DataW.insert
    split
    · exact List.Perm.refl _
    · exact ((insert_perm x r).cons y).trans (List.Perm.swap x y r)
/-- A map whose keys are texts, each once. -/
structure KeyedD (D : DataW Unit) : Prop where
  isMap : IsMap D
  texts : ∀ es, D = .map es → ∀ q ∈ es, ∃ x, q.1 = .string x
  once : (strKeys D).Nodup
theorem keys_filter (v : List UInt8) : ∀ es : List (Lit × DataW Unit), (∀ q ∈ es, ∃ x, q.1 = .string x) → (es.filter fun p => !p.1.sameKey (.string v)).map (fun p => strOf p.1) = (es.map fun p => strOf p.1).filter (· != v)
  | [], _ => rfl
  | q :: t, h => by
    obtain ⟨x, hx⟩ := h q (by simp)
    have ih := keys_filter v t (fun z hz => h z (by simp [hz]))
    rw [List.map_cons, hx]
    by_cases e : x = v
    · subst e
      rw [List.filter_cons_of_neg (by rw [hx]; simp [WideAt.sameKey_self (show WideAt.IsKeyLit (.string x) from trivial)]), List.filter_cons_of_neg (by simp [strOf]), ih]
    · have hn : (Lit.string x).sameKey (.string v) = false := by
        cases hc : (Lit.string x).sameKey (.string v) with
        | false => rfl
        | true => exact absurd (by simpa using WideAt.sameKey_eq hc) e
      rw [List.filter_cons_of_pos (by rw [hx, hn]; rfl), List.filter_cons_of_pos (by simpa [strOf] using e), List.map_cons, ih, hx]
theorem keys_put {D : DataW Unit} (h : KeyedD D) (v : List UInt8) (d : DataW Unit) : (strKeys (D.put (.string v) d)).Perm (v :: (strKeys D).filter (· != v)) := by
  obtain ⟨es, rfl⟩ := h.isMap
  show ((DataW.insert (.string v, d) (es.filter fun p => !p.1.sameKey (.string v))).map fun p => strOf p.1).Perm _
  refine ((insert_perm _ _).map _).trans ?_
  rw [List.map_cons, keys_filter v es (h.texts es rfl)]
  exact List.Perm.refl _
theorem KeyedD.put {D : DataW Unit} (h : KeyedD D) (v : List UInt8) (d : DataW Unit) : KeyedD (D.put (.string v) d) := by
  have hp := keys_put h v d
  obtain ⟨es, rfl⟩ := h.isMap
  refine ⟨⟨_, rfl⟩, ?_, ?_⟩
  · intro es' he q hq
    cases he
    have := (insert_perm (.string v, d) (es.filter fun p => !p.1.sameKey (.string v))).mem_iff.1 hq
    rcases List.mem_cons.1 this with rfl | hm
    · exact ⟨v, rfl⟩
    · exact h.texts es rfl q (List.mem_filter.1 hm).1
  · refine hp.nodup_iff.2 (List.nodup_cons.2 ⟨fun hm => ?_, h.once.filter _⟩)
    have := (List.mem_filter.1 hm).2
    simp at this
theorem keys_same {D : DataW Unit} (h : KeyedD D) {v : List UInt8} (hv : v ∈ strKeys D) (d : DataW Unit) : (strKeys (D.put (.string v) d)).Perm (strKeys D) := by
  refine (keys_put h v d).trans ?_
  rw [← h.once.erase_eq_filter]
  exact (List.perm_cons_erase hv).symm
theorem mem_put {D : DataW Unit} (h : KeyedD D) (v : List UInt8) (d : DataW Unit) (u : List UInt8) : u ∈ strKeys (D.put (.string v) d) ↔ u = v ∨ u ∈ strKeys D := by
  rw [(keys_put h v d).mem_iff, List.mem_cons, List.mem_filter]
  by_cases e : u = v <;> simp [e]

/-- The number at a text. -/
def valD (D : DataW Unit) (v : List UInt8) : Int := numD (D.atKey (.string v) (.lit (.int .i64 0)))
theorem val_put {D : DataW Unit} (h : KeyedD D) (v : List UInt8) (d : DataW Unit) (u : List UInt8) : valD (D.put (.string v) d) u = if u = v then numD d else valD D u := by
  unfold valD
  by_cases e : u = v
  · subst e
    rw [if_pos rfl, atKey_put_same h.isMap (show WideAt.IsKeyLit (.string u) from trivial)]
  · rw [if_neg e, atKey_put_other (by intro hc; cases hc; exact e rfl)]
def sumK (D : DataW Unit) : Int := ((strKeys D).map (valD D)).sum
theorem sum_perm {l l' : List Int} (h : l.Perm l') : l.sum = l'.sum := by
  induction h with
  | nil => rfl
  | cons x _ ih => rw [List.sum_cons, List.sum_cons, ih]
  | swap x y l => simp; omega
  | trans _ _ h1 h2 => rw [h1, h2]
theorem sum_turn {f g : List UInt8 → Int} {v : List UInt8} : ∀ {l : List (List UInt8)}, l.Nodup → (∀ u, u ≠ v → g u = f u) → (l.map g).sum = (l.map f).sum + (if v ∈ l then g v - f v else 0)
  | [], _, _ => by simp
  | u :: t, h, e => by
    obtain ⟨h1, h2⟩ := List.nodup_cons.1 h
    have ih := sum_turn h2 e
    rw [List.map_cons, List.map_cons, List.sum_cons, List.sum_cons, ih]
    by_cases hu : u = v
    · subst hu
      rw [if_neg h1, if_pos (by simp)]
      omega
    · rw [e u hu]
      by_cases hv : v ∈ t
      · rw [if_pos hv, if_pos (by simp [hv])]
        omega
      · rw [if_neg hv, if_neg (by simp [hv]; exact fun hc => hu hc.symm)]
        omega
theorem rowD_sum (D : DataW Unit) : (rowD D).sum = sumK D := by
  unfold rowD sortK sumK
  exact sum_perm ((List.mergeSort_perm _ _).map _)

theorem keyed_nil : KeyedD (.map []) := ⟨⟨[], rfl⟩, (by intro es h q hq; cases h; cases hq), List.nodup_nil⟩
theorem keyed_doms (ns : List NodeD) (key : List UInt8) : ∀ k, KeyedD (domsU ns key k) ∧ ∀ v, valD (domsU ns key k) v = 0
  | 0 => ⟨keyed_nil, fun _ => rfl⟩
  | k + 1 => by
    obtain ⟨h1, h2⟩ := keyed_doms ns key k
    rw [domsU]
    cases hd : domF ns (k : Int) key with
    | none => exact ⟨h1, h2⟩
    | some v =>
      refine ⟨h1.put v _, fun u => ?_⟩
      show valD ((domsU ns key k).put (.string v) (.lit (.int .i64 0))) u = 0
      rw [val_put h1]
      split
      · rfl
      · exact h2 u
theorem doms_has (ns : List NodeD) (key : List UInt8) (n : Nat) (v : List UInt8) (h : domF ns (n : Int) key = some v) : ∀ k, n < k → v ∈ strKeys (domsU ns key k)
  | 0, h' => absurd h' (by omega)
  | k + 1, h' => by
    rw [domsU]
    by_cases e : n = k
    · subst e
      rw [h]
      exact (mem_put (keyed_doms ns key n).1 v _ v).2 (.inl rfl)
    · have ih := doms_has ns key n v h k (by omega)
      cases hd : domF ns (k : Int) key with
      | none => exact ih
      | some u => exact (mem_put (keyed_doms ns key k).1 u _ v).2 (.inr ih)
theorem empty_has {ns : List NodeD} {key v : List UInt8} {x : Int} (h : domF ns x key = some v) : v ∈ strKeys (emptyD ns key) := by
  have h' := h
  unfold domF at h'
  by_cases ht : tpB ns x = true
  · obtain ⟨n, rfl, hn⟩ := tpB_lt ht
    exact doms_has ns key n v h ns.length hn
  · rw [if_neg ht] at h'
    cases h'

/-- A map of the domains in which c at most are counted. -/
structure SpreadAt (ns : List NodeD) (key : List UInt8) (D : DataW Unit) (c : Nat) : Prop where
  keyed : KeyedD D
  keys : (strKeys D).Perm (strKeys (emptyD ns key))
  vals : ∀ v, 0 ≤ valD D v ∧ valD D v ≤ (c : Int)
  sum : sumK D ≤ (c : Int)
theorem SpreadAt.mono {ns : List NodeD} {key : List UInt8} {D : DataW Unit} {c d : Nat} (h : SpreadAt ns key D c) (hd : c ≤ d) : SpreadAt ns key D d :=
  ⟨h.keyed, h.keys, fun v => by have := h.vals v; omega, by have := h.sum; omega⟩
theorem sum_zero : ∀ l : List (List UInt8), ∀ f : List UInt8 → Int, (∀ v, f v = 0) → (l.map f).sum = 0
  | [], _, _ => rfl
  | u :: t, f, h => by rw [List.map_cons, List.sum_cons, h u, sum_zero t f h]; rfl
theorem spread_zero (ns : List NodeD) (key : List UInt8) : SpreadAt ns key (emptyD ns key) 0 := by
  obtain ⟨h1, h2⟩ := keyed_doms ns key ns.length
  refine ⟨h1, List.Perm.refl _, fun v => ?_, ?_⟩
  · rw [show valD (emptyD ns key) v = 0 from h2 v]
    omega
  · rw [show sumK (emptyD ns key) = 0 from sum_zero _ _ h2]
    omega
theorem spread_bump {ns : List NodeD} {key v : List UInt8} {D : DataW Unit} {c : Nat} (h : SpreadAt ns key D c) (hc : c ≤ 1000) (hv : v ∈ strKeys (emptyD ns key)) : SpreadAt ns key (bumpD D v) (c + 1) := by
  have hm : v ∈ strKeys D := h.keys.mem_iff.2 hv
  have hw : wrap64 (valD D v + 1) = valD D v + 1 := IntWalk.wrap64_in _ (by have := h.vals v; omega)
  have e : bumpD D v = D.put (.string v) (.lit (.int .i64 (valD D v + 1))) := by
    rw [← hw]
    rfl
  have hval : ∀ u, valD (bumpD D v) u = if u = v then valD D v + 1 else valD D u := by
    intro u
    rw [e, val_put h.keyed]
    rfl
  have hk : (strKeys (bumpD D v)).Perm (strKeys D) := by
    rw [e]
    exact keys_same h.keyed hm _
  refine ⟨by rw [e]; exact h.keyed.put v _, hk.trans h.keys, fun u => ?_, ?_⟩
  · rw [hval]
    have h1 := h.vals v
    have h2 := h.vals u
    split <;> omega
  · have h1 : sumK (bumpD D v) = ((strKeys D).map (valD (bumpD D v))).sum := sum_perm (hk.map _)
    rw [h1, sum_turn (f := valD D) (v := v) h.keyed.once (fun u hu => by rw [hval, if_neg hu]), if_pos hm, hval, if_pos rfl]
    have := h.sum
    unfold sumK at this
    omega
theorem spread_from (ns : List NodeD) (key : List UInt8) (p : List Int) : ∀ (ys : List Nat) (D : DataW Unit) (c : Nat), SpreadAt ns key D c → c + ys.length ≤ 1000 → SpreadAt ns key (ys.foldl (spreadS ns key p) D) (c + ys.length)
  | [], D, c, h, _ => h
  | y :: t, D, c, h, hl => by
    rw [List.length_cons] at hl
    have hs : SpreadAt ns key (spreadS ns key p D y) (c + 1) := by
      unfold spreadS
      cases hy : p[y]? with
      | none => exact h.mono (by omega)
      | some x =>
        dsimp only
        cases hd : domF ns x key with
        | none => exact h.mono (by omega)
        | some v => exact spread_bump h (by omega) (empty_has hd)
    have := spread_from ns key p t _ (c + 1) hs (by omega)
    rw [List.foldl_cons, List.length_cons, show c + (t.length + 1) = c + 1 + t.length by omega]
    exact this
theorem spread_all (ns : List NodeD) (key : List UInt8) (p : List Int) (ys : List Nat) (h : ys.length ≤ 1000) : SpreadAt ns key (spreadD ns key p ys) ys.length := by
  have := spread_from ns key p ys _ 0 (spread_zero ns key) (by omega)
  rwa [Nat.zero_add] at this

theorem cnt_pos (n : Nat) (p : List Int) (ys : List Nat) : ∀ x ∈ cntL n p ys, 0 ≤ x := by
  suffices g : ∀ (ys : List Nat) (l : List Int), (∀ x ∈ l, 0 ≤ x) → ∀ x ∈ (ys.foldl (fun l y => match p[y]? with | some x => l.set x.toNat (l.getD x.toNat 0 + 1) | none => l) l), 0 ≤ x by
    exact g ys (List.replicate n 0) (fun x hx => by rw [List.eq_of_mem_replicate hx]; exact Int.le_refl _)
  intro ys
  induction ys with
  | nil => intro l h; exact h
  | cons y t ih =>
    intro l h
    rw [List.foldl_cons]
    refine ih _ ?_
    cases hy : p[y]? with
    | none => exact h
    | some z =>
      intro x hx
      rcases List.mem_or_eq_of_mem_set hx with hx | rfl
      · exact h x hx
      · have : 0 ≤ l.getD z.toNat 0 := by
          rw [List.getD_eq_getElem?_getD]
          cases hq : l[z.toNat]? with
          | none => exact Int.le_refl _
          | some q => exact h q (List.mem_of_getElem? hq)
        omega
end Go.Proofs.YticgcimcebdjlaaGreat

namespace Go.Proofs.YticgcimcebdjlaaGreat
open Go.RowKit Go.Maps Go.Sort

/-- Which value a node has for a key. -/
def valK (x : NodeD) (key : List UInt8) : Option (List UInt8) := if x.lost then none else (x.labels.find? (fun y => decide (y.1 = key))).map (·.2)
end Go.Proofs.YticgcimcebdjlaaGreat

namespace Go.Proofs.YticgcimcebdjlaaGreat
open Go.RowKit Go.Maps Go.Sort

/-- A text put where it belongs, unless it is there. -/
def insS (v : List UInt8) : List (List UInt8) → List (List UInt8)
  | [] => [v]
  | x :: t => if Op.bytesLess x v then x :: insS v t else if x = v then x :: t else v :: x :: t
def domsR (ns : List NodeD) (key : List UInt8) : Nat → List (List UInt8)
  | 0 => []
  | k + 1 => match domF ns (k : Int) key with
    | some v => insS v (domsR ns key k)
    | none => domsR ns key k
theorem ins_mem (v u : List UInt8) : ∀ l, u ∈ insS v l ↔ u = v ∨ u ∈ l
  | [] => by simp [insS]
  | x :: t => by
    have ih := ins_mem v u t
    rw [insS]
    split
    · rw [List.mem_cons, ih, List.mem_cons]
      constructor
      · rintro (h | h | h)
        · exact .inr (.inl h)
        · exact .inl h
        · exact .inr (.inr h)
      · rintro (h | h | h)
        · exact .inr (.inl h)
        · exact .inl h
        · exact .inr (.inr h)
    · split
      · rename_i _ e
        subst e
        rw [List.mem_cons]
        constructor
        · exact .inr
        · rintro (h | h)
          · exact .inl h
          · exact h
      · rw [List.mem_cons]
theorem ins_len (v : List UInt8) : ∀ l, (insS v l).length ≤ l.length + 1
  | [] => by simp [insS]
  | x :: t => by
    have ih := ins_len v t
    rw [insS]
    split
    · simp only [List.length_cons]; omega
    · split <;> simp
theorem domsR_len (ns : List NodeD) (key : List UInt8) : ∀ k, (domsR ns key k).length ≤ k
  | 0 => Nat.le_refl _
  | k + 1 => by
    have ih := domsR_len ns key k
    rw [domsR]
    split
    · have := ins_len ‹_› (domsR ns key k)
      omega
    · omega
/-- One stands ahead of another. -/
def Ahead (a b : List UInt8) : Prop := a ≤ b ∧ a ≠ b
theorem less_ahead {a b : List UInt8} (h : Op.bytesLess a b = true) : Ahead a b := by
  rw [Proofs.bytesLess_eq, decide_eq_true_eq] at h
  exact ⟨List.le_of_lt h, fun e => List.lt_irrefl _ (e ▸ h)⟩
theorem less_not {a b : List UInt8} (h : Op.bytesLess a b = false) : b ≤ a := by
  rw [Proofs.bytesLess_eq, decide_eq_false_iff_not] at h
  exact List.not_lt.1 h
theorem Ahead.trans {a b c : List UInt8} (h : Ahead a b) (k : Ahead b c) : Ahead a c :=
  ⟨List.le_trans h.1 k.1, fun e => h.2 (List.le_antisymm h.1 (e ▸ k.1))⟩
theorem ins_rises (v : List UInt8) : ∀ l : List (List UInt8), l.Pairwise Ahead → (insS v l).Pairwise Ahead
  | [], _ => by simp [insS]
  | x :: t, h => by
    obtain ⟨h1, h2⟩ := List.pairwise_cons.1 h
    rw [insS]
    split
    · rename_i hl
      refine List.pairwise_cons.2 ⟨fun u hu => ?_, ins_rises v t h2⟩
      rcases (ins_mem v u t).1 hu with rfl | hm
      · exact less_ahead hl
      · exact h1 u hm
    · rename_i hl
      split
      · exact h
      · rename_i hne
        have hv : Ahead v x := ⟨less_not (by simpa using hl), fun e => hne e.symm⟩
        exact List.pairwise_cons.2 ⟨fun u hu => by
          rcases List.mem_cons.1 hu with rfl | hm
          · exact hv
          · exact hv.trans (h1 u hm), h⟩
theorem doms_same (ns : List NodeD) (key : List UInt8) : ∀ k, (domsR ns key k).Pairwise Ahead ∧ ∀ u, u ∈ domsR ns key k ↔ u ∈ strKeys (domsU ns key k)
  | 0 => ⟨List.Pairwise.nil, fun u => by
    show u ∈ [] ↔ u ∈ strKeys (.map [])
    simp [strKeys]⟩
  | k + 1 => by
    obtain ⟨h1, h2⟩ := doms_same ns key k
    rw [domsR, domsU]
    cases hd : domF ns (k : Int) key with
    | none => exact ⟨h1, h2⟩
    | some v =>
      refine ⟨ins_rises v _ h1, fun u => ?_⟩
      dsimp only
      rw [ins_mem, mem_put (keyed_doms ns key k).1, h2]
theorem doms_sort (ns : List NodeD) (key : List UInt8) (k : Nat) : sortK (domsU ns key k) = domsR ns key k := by
  obtain ⟨h1, h2⟩ := doms_same ns key k
  have hnd : (domsR ns key k).Nodup := h1.imp (fun h => h.2)
  have hp : (domsR ns key k).Perm (strKeys (domsU ns key k)) := (List.perm_ext_iff_of_nodup hnd (keyed_doms ns key k).1.once).2 h2
  have e := mergeSort_of_perm hp
  unfold sortK
  rw [← e]
  exact List.mergeSort_of_pairwise (h1.imp (fun h => decide_eq_true h.1))
end Go.Proofs.YticgcimcebdjlaaGreat

namespace Go.Proofs.YticgcimcebdjlaaGreat
open Go.RowKit Go.Shelf Go.Maps Go.Sort

theorem members_in (ps : List PodD) (name : List UInt8) : ∀ n, ∀ y ∈ membersU ps name n, 0 ≤ y ∧ y < (n : Int)
  | 0, y, h => by cases h
  | n + 1, y, h => by
    rw [membersU, List.mem_append] at h
    rcases h with h | h
    · have := members_in ps name n y h
      omega
    · cases hn : ps[n]? with
      | none => rw [hn] at h; cases h
      | some x =>
        rw [hn] at h
        dsimp only at h
        by_cases e : x.owner = name
        · rw [if_pos e] at h
          simp only [List.mem_singleton] at h
          omega
        · rw [if_neg e] at h
          cases h
theorem off_in {ns : List NodeD} {ps : List PodD} {os : List OwnD} {p : List Int} (hE : placeE ns ps os p = 0) (name : List UInt8) : ∀ y ∈ offL p (membersF ps name), ∃ x, p[y]? = some x ∧ 0 ≤ x ∧ x < (ns.length : Int) := by
  intro y hy
  unfold offL at hy
  obtain ⟨h1, h2⟩ := List.mem_filter.1 hy
  obtain ⟨z, hz, rfl⟩ := List.mem_map.1 h1
  have h3 := members_in ps name ps.length z hz
  have hl := placeE_len hE
  have hlt : z.toNat < p.length := by omega
  refine ⟨p[z.toNat], List.getElem?_eq_getElem hlt, ?_⟩
  have h4 : p[z.toNat] ≠ -1 := by
    intro e
    rw [List.getElem?_eq_getElem hlt, e] at h2
    simp at h2
  obtain ⟨n, hn, hn2⟩ := tpB_lt (placeE_on hE (List.getElem?_eq_getElem hlt) h4)
  omega

theorem sums_of {ns : List NodeD} {ps : List PodD} {os : List OwnD} {p : List Int} (hE : placeE ns ps os p = 0) (hl : ps.length ≤ 1000) {j : Nat} {x : OwnD} (hx : os[j]? = some x) :
    (countsF ns ps os p j).length = ns.length ∧ (spreadF ns ps os p j).length = (domsF ns ps os x.topo).length ∧ (countsF ns ps os p j).sum = placedF ns ps os p j ∧ placedF ns ps os p j ≤ 1000 ∧ (spreadF ns ps os p j).sum ≤ placedF ns ps os p j ∧ (∀ z ∈ countsF ns ps os p j, 0 ≤ z) ∧ ∀ z ∈ spreadF ns ps os p j, 0 ≤ z := by
  have hj := (List.getElem?_eq_some_iff.1 hx).1
  have hO : ownerB ns ps os p (j : Int) = true := by
    unfold ownerB
    rw [decide_eq_true hE, decide_eq_true (by omega)]
    rfl
  have hC : checkS ns ps os = 0 := (placeE_zero hE).1
  have e1 : ofF ps os p (j : Int) = offL p (membersF ps x.name) := by
    unfold ofF
    rw [Int.toNat_natCast, hx]
  have e2 : countsF ns ps os p (j : Int) = cntL ns.length p (offL p (membersF ps x.name)) := by
    unfold countsF
    rw [if_pos hO, e1]
  have e3 : placedF ns ps os p (j : Int) = ((offL p (membersF ps x.name)).length : Int) := by
    unfold placedF
    rw [if_pos hO, e1]
  have e4 : spreadF ns ps os p (j : Int) = rowD (spreadD ns x.topo p (offL p (membersF ps x.name))) := by
    unfold spreadF
    rw [if_pos hO, Int.toNat_natCast, hx]
  have e5 : domsF ns ps os x.topo = sortK (emptyD ns x.topo) := by
    unfold domsF
    rw [if_pos hC]
  have hle : (offL p (membersF ps x.name)).length ≤ 1000 := Nat.le_trans (offL_len _ _) (Nat.le_trans (membersU_len ps x.name ps.length) hl)
  have hS := spread_all ns x.topo p (offL p (membersF ps x.name)) hle
  have hin := off_in hE x.name
  rw [e2, e3, e4, e5]
  generalize offL p (membersF ps x.name) = ys at hle hS hin
  refine ⟨cntL_len _ _ _, ?_, cnt_sum _ _ _ hin, by omega, ?_, cnt_pos _ _ _, ?_⟩
  · unfold rowD
    rw [List.length_map]
    unfold sortK
    rw [List.length_mergeSort, List.length_mergeSort]
    exact hS.keys.length_eq
  · rw [rowD_sum]
    exact hS.sum
  · intro z hz
    unfold rowD at hz
    obtain ⟨v, _, rfl⟩ := List.mem_map.1 hz
    exact (hS.vals v).1
end Go.Proofs.YticgcimcebdjlaaGreat

namespace Go.Proofs.YticgcimcebdjlaaGreat
open Go.RowKit Go.Maps Go.Sort

/-- What is told of an owner that is asked for. -/
theorem owned_is {ns : List NodeD} {ps : List PodD} {os : List OwnD} {p : List Int} {k : Int} (h : ownerB ns ps os p k = true) :
    ∃ (ko : Nat) (xo : OwnD), k = (ko : Int) ∧ os[ko]? = some xo ∧ placeE ns ps os p = 0 ∧ countsF ns ps os p k = cntL ns.length p (offL p (membersF ps xo.name)) ∧ placedF ns ps os p k = ((offL p (membersF ps xo.name)).length : Int) ∧ spreadF ns ps os p k = rowD (spreadD ns xo.topo p (offL p (membersF ps xo.name))) := by
  obtain ⟨h1, n, x, rfl, hx⟩ := ownerB_parts h
  have ho : ofF ps os p (n : Int) = offL p (membersF ps x.name) := by
    unfold ofF
    rw [Int.toNat_natCast, hx]
  refine ⟨n, x, rfl, hx, h1, ?_, ?_, ?_⟩
  · unfold countsF
    rw [if_pos h, ho]
  · unfold placedF
    rw [if_pos h, ho]
  · unfold spreadF
    rw [if_pos h, Int.toNat_natCast, hx]

end Go.Proofs.YticgcimcebdjlaaGreat

namespace Go.Proofs.YticgcimcebdjlaaGreat.La
open Go.RowKit

set_option maxRecDepth 100000 in
set_option maxHeartbeats 1000000 in
theorem indexFunc_any (p : List UInt8 × List UInt8 → Bool) (g : FuncId) (q : Value) (A : Option Addr) (c : Nat) (l : List (List UInt8 × List UInt8)) (w : World) (hn : l.length ≤ 1000) (_hc : l.length ≤ c) (hs : SlAt w A (cellsL l))
    (hg1 : ∀ (args : Array Value) (w : World), (callFunc g args).run Tryz.prog w = .ok (.enter g args) w)
    (hcl : ∀ (x : List UInt8 × List UInt8) (w' : World), Below w.heap.size w w' → Calls Tryz.prog g #[labV x, q] w' fun e w'' => e = .returned (.bool (p x)) ∧ Below w'.heap.size w' w'') :
    Calls Tryz.prog 261 #[.slice A l.length c, .func (Fn.func g) #[] #[q]] w fun e w' => (∃ i : Int, e = .returned (.int .i64 i) ∧ -1 ≤ i ∧ i ≤ 1000 ∧ (decide (0 ≤ i) = l.any p)) ∧ Below w.heap.size w w' := by
  have HS := Lib.hid hs
  have Hcl := Lib.hid hcl
  clear hs hcl
  go_enter Tryz.func261, Tryz.ntmps261
  go_wp2
  go_loopw [8] (fun i wr => ∃ k : Nat, k ≤ l.length ∧ i = .int .i64 k ∧ (l.take k).any p = false ∧ Below w.heap.size w wr) (fun i _ => l.length - (intOf i).toNat)
  case atStart => exact ⟨0, by omega, rfl, rfl, Below.refl _ _⟩
  case round =>
    obtain ⟨k, hk, rfl, hp, hbw⟩ := hrel
    have Hp := Lib.hid hp
    have Hbw := Lib.hid hbw
    clear hp hbw
    by_cases hlt : k < l.length
    · obtain ⟨x, hxk⟩ : ∃ x, l[k]? = some x := ⟨l[k], List.getElem?_eq_getElem hlt⟩
      obtain ⟨b0, o0, hA, hb0, hx⟩ := SlAt.lab (HS.out.below Hbw.out) hxk
      have ht : l.take (k + 1) = l.take k ++ [x] := by rw [List.take_add_one, hxk]; rfl
      subst hA
      have hx0 : wr.cell? ⟨b0, o0 + k * 2, none⟩ = some (strV x.1) := hx.1
      have hx1 : wr.cell? ⟨b0, o0 + k * 2 + 1, none⟩ = some (strV x.2) := hx.2
      have Hx := Lib.hid hx
      have Hk := Lib.hid hxk
      have Ht := Lib.hid ht
      clear hx hxk ht
      cases hpx : p x
      · have K := Lib.hid (Hcl.out x wr Hbw.out)
        rw [hpx] at K
        have Hpx := Lib.hid hpx
        clear hpx
        go_wp2_with fail
        refine K.out.mono ?_
        rintro e w2 ⟨rfl, hb2⟩
        have Hbw2 := Lib.hid (Hbw.out.trans (hb2.mono Hbw.out.size))
        clear hb2
        go_wp2
        go_roundw
        case rel => exact ⟨k + 1, by omega, by go_num, by rw [Ht.out, List.any_append, Hp.out]; simp [Hpx.out], Hbw2.out⟩
        case measure => simp [intOf]; omega
      · have K := Lib.hid (Hcl.out x wr Hbw.out)
        rw [hpx] at K
        have Hpx := Lib.hid hpx
        clear hpx
        go_wp2_with fail
        refine K.out.mono ?_
        rintro e w2 ⟨rfl, hb2⟩
        have Hbw2 := Lib.hid (Hbw.out.trans (hb2.mono Hbw.out.size))
        clear hb2
        go_wp2
        go_ret
        refine ⟨⟨(k : Int), rfl, by omega, by omega, ?_⟩, Hbw2.out⟩
        have : l.any p = true := List.any_eq_true.2 ⟨x, List.mem_of_getElem? Hk.out, Hpx.out⟩
        rw [this]
        simp
    · obtain rfl : k = l.length := by omega
      go_wp2
      go_ret
      refine ⟨⟨-1, rfl, by omega, by omega, ?_⟩, Hbw.out⟩
      have := Hp.out
      rw [List.take_length] at this
      rw [this]
      simp

set_option maxHeartbeats 400000 in
theorem containsFunc_any (p : List UInt8 × List UInt8 → Bool) (g : FuncId) (q : Value) (A : Option Addr) (c : Nat) (l : List (List UInt8 × List UInt8)) (w : World) (hn : l.length ≤ 1000) (hc : l.length ≤ c) (hs : SlAt w A (cellsL l))
    (hg1 : ∀ (args : Array Value) (w : World), (callFunc g args).run Tryz.prog w = .ok (.enter g args) w)
    (hcl : ∀ (x : List UInt8 × List UInt8) (w' : World), Below w.heap.size w w' → Calls Tryz.prog g #[labV x, q] w' fun e w'' => e = .returned (.bool (p x)) ∧ Below w'.heap.size w' w'') :
    Calls Tryz.prog 247 #[.slice A l.length c, .func (Fn.func g) #[] #[q]] w fun e w' => e = .returned (.bool (l.any p)) ∧ Below w.heap.size w w' := by
  have K := Lib.hid (indexFunc_any p g q A c l w hn hc hs hg1 hcl)
  clear hs hcl hg1
  go_enter Tryz.func247, Tryz.ntmps247
  go_wp2_with fail
  refine K.out.mono ?_
  rintro e w1 ⟨⟨i, rfl, hi0, hi1, hi⟩, hb⟩
  have HB := Lib.hid hb
  have Hi := Lib.hid hi
  clear hb hi
  go_wp2
  go_ret
  exact ⟨retB (by rw [← Hi.out]), HB.out⟩

def keyP (t : Int × List UInt8 × List UInt8) (x : List UInt8 × List UInt8) : Bool := decide (x.1 = t.2.1)
def bothP (t : Int × List UInt8 × List UInt8) (x : List UInt8 × List UInt8) : Bool := decide (x.1 = t.2.1) && decide (x.2 = t.2.2)
def holdL (t : Int × List UInt8 × List UInt8) (l : List (List UInt8 × List UInt8)) : Bool :=
  if t.1 = 1 then l.any (bothP t) else if t.1 = 2 then !l.any (bothP t) else if t.1 = 3 then l.any (keyP t) else !l.any (keyP t)

set_option maxHeartbeats 400000 in
theorem hold1_any (t : Int × List UInt8 × List UInt8) (x : List UInt8 × List UInt8) (b : Nat) (w : World) (h : Blk w b #[.int .i64 t.1, strV t.2.1, strV t.2.2] 135) :
    Calls Tryz.prog 259 #[labV x, .pointer (some ⟨b, 0, none⟩)] w fun e w' => e = .returned (.bool (keyP t x)) ∧ Below w.heap.size w w' := by
  obtain ⟨d0, d1, d2, f0, f1, f2⟩ := Blk.c3 h
  have hlt := h.lt
  clear h
  go_enter Tryz.func259, Tryz.ntmps259
  go_wp2
  go_ret
  refine ⟨retB ?_, below1 _ _⟩
  unfold keyP
  rw [Bool.eq_iff_iff]
  simp

set_option maxHeartbeats 400000 in
theorem hold2_any (t : Int × List UInt8 × List UInt8) (x : List UInt8 × List UInt8) (b : Nat) (w : World) (h : Blk w b #[.int .i64 t.1, strV t.2.1, strV t.2.2] 135) :
    Calls Tryz.prog 260 #[labV x, .pointer (some ⟨b, 0, none⟩)] w fun e w' => e = .returned (.bool (bothP t x)) ∧ Below w.heap.size w w' := by
  obtain ⟨d0, d1, d2, f0, f1, f2⟩ := Blk.c3 h
  have hlt := h.lt
  clear h
  go_enter Tryz.func260, Tryz.ntmps260
  go_wp2
  all_goals
    go_ret
    refine ⟨retB ?_, below1 _ _⟩
    unfold bothP
    rw [Bool.eq_iff_iff]
    simp_all

set_option maxHeartbeats 1000000 in
theorem holds1_any (t : Int × List UInt8 × List UInt8) (A : Option Addr) (c : Nat) (l : List (List UInt8 × List UInt8)) (w : World) (hn : l.length ≤ 1000) (hc : l.length ≤ c) (hs : SlAt w A (cellsL l)) :
    Calls Tryz.prog 245 #[terV t, .slice A l.length c] w fun e w' => e = .returned (.bool (holdL t l)) ∧ Below w.heap.size w w' := by
  have hS := hs.below (below1 w (.cells #[.int .i64 t.1, strV t.2.1, strV t.2.2] 135))
  have hT := Blk.new w #[.int .i64 t.1, strV t.2.1, strV t.2.2] 135
  have K1 := Lib.hid (containsFunc_any (keyP t) 259 (.pointer (some ⟨w.heap.size, 0, none⟩)) A c l _ hn hc hS (fun _ _ => by kernel_rfl) (fun x w' hb => hold1_any t x w.heap.size w' (hT.below hb hT.lt)))
  have K2 := Lib.hid (containsFunc_any (bothP t) 260 (.pointer (some ⟨w.heap.size, 0, none⟩)) A c l _ hn hc hS (fun _ _ => by kernel_rfl) (fun x w' hb => hold2_any t x w.heap.size w' (hT.below hb hT.lt)))
  have HB := Lib.hid (below1 w (.cells #[.int .i64 t.1, strV t.2.1, strV t.2.2] 135))
  clear hs hS hT
  obtain ⟨k, a, b⟩ := t
  simp only at K1 K2 HB
  by_cases h1 : k = 1
  · have hb1 : (k == 1) = true := by simpa using h1
    have E : Hid (holdL (k, a, b) l = l.any (bothP (k, a, b))) := by show holdL _ _ = _; unfold holdL; rw [if_pos h1]
    have H1 := Lib.hid h1
    clear h1
    go_enter Tryz.func245, Tryz.ntmps245
    go_wp2_with fail
    refine K2.out.mono ?_
    rintro e w1 ⟨rfl, hb⟩
    have HB2 := Lib.hid (HB.out.trans (hb.mono HB.out.size))
    clear hb
    go_wp2
    go_ret
    exact ⟨retB (by rw [E.out]), HB2.out⟩
  · have hb1 : (k == 1) = false := by simpa using h1
    have H1 := Lib.hid h1
    clear h1
    by_cases h2 : k = 2
    · have hb2 : (k == 2) = true := by simpa using h2
      have E : Hid (holdL (k, a, b) l = !l.any (bothP (k, a, b))) := by show holdL _ _ = _; unfold holdL; rw [if_neg H1.out, if_pos h2]
      have H2 := Lib.hid h2
      clear h2
      go_enter Tryz.func245, Tryz.ntmps245
      go_wp2_with fail
      refine K2.out.mono ?_
      rintro e w1 ⟨rfl, hb⟩
      have HB2 := Lib.hid (HB.out.trans (hb.mono HB.out.size))
      clear hb
      go_wp2
      go_ret
      exact ⟨retB (by rw [E.out]), HB2.out⟩
    · have hb2 : (k == 2) = false := by simpa using h2
      have H2 := Lib.hid h2
      clear h2
      by_cases h3 : k = 3
      · have hb3 : (k == 3) = true := by simpa using h3
        have E : Hid (holdL (k, a, b) l = l.any (keyP (k, a, b))) := by show holdL _ _ = _; unfold holdL; rw [if_neg H1.out, if_neg H2.out, if_pos h3]
        have H3 := Lib.hid h3
        clear h3
        go_enter Tryz.func245, Tryz.ntmps245
        go_wp2_with fail
        refine K1.out.mono ?_
        rintro e w1 ⟨rfl, hb⟩
        have HB2 := Lib.hid (HB.out.trans (hb.mono HB.out.size))
        clear hb
        go_wp2
        go_ret
        exact ⟨retB (by rw [E.out]), HB2.out⟩
      · have hb3 : (k == 3) = false := by simpa using h3
        have E : Hid (holdL (k, a, b) l = !l.any (keyP (k, a, b))) := by show holdL _ _ = _; unfold holdL; rw [if_neg H1.out, if_neg H2.out, if_neg h3]
        have H3 := Lib.hid h3
        clear h3
        go_enter Tryz.func245, Tryz.ntmps245
        go_wp2_with fail
        refine K1.out.mono ?_
        rintro e w1 ⟨rfl, hb⟩
        have HB2 := Lib.hid (HB.out.trans (hb.mono HB.out.size))
        clear hb
        go_wp2
        go_ret
        exact ⟨retB (by rw [E.out]), HB2.out⟩

def holdsL (ts : List (Int × List UInt8 × List UInt8)) (l : List (List UInt8 × List UInt8)) : Bool := ts.all (fun t => holdL t l)

set_option maxHeartbeats 1000000 in
theorem holds_any (A1 A2 : Option Addr) (c1 c2 : Nat) (ts : List (Int × List UInt8 × List UInt8)) (l : List (List UInt8 × List UInt8)) (w : World) (hn1 : ts.length ≤ 1000) (_hc1 : ts.length ≤ c1) (hn : l.length ≤ 1000) (hc : l.length ≤ c2) (ht : SlAt w A1 (cellsT ts)) (hs : SlAt w A2 (cellsL l)) :
    Calls Tryz.prog 207 #[.slice A1 ts.length c1, .slice A2 l.length c2] w fun e w' => e = .returned (.bool (holdsL ts l)) ∧ Below w.heap.size w w' := by
  have HT := Lib.hid ht
  have HS := Lib.hid hs
  clear ht hs
  go_enter Tryz.func207, Tryz.ntmps207
  go_wp2
  go_loopw [9] (fun i wr => ∃ k : Nat, k ≤ ts.length ∧ i = .int .i64 k ∧ (ts.take k).all (fun t => holdL t l) = true ∧ Below w.heap.size w wr) (fun i _ => ts.length - (intOf i).toNat)
  case atStart => exact ⟨0, by omega, rfl, rfl, Below.refl _ _⟩
  case round =>
    obtain ⟨k, hk, rfl, hp, hbw⟩ := hrel
    have Hp := Lib.hid hp
    have Hbw := Lib.hid hbw
    clear hp hbw
    by_cases hlt : k < ts.length
    · obtain ⟨x, hxk⟩ : ∃ x, ts[k]? = some x := ⟨ts[k], List.getElem?_eq_getElem hlt⟩
      obtain ⟨b0, o0, hA, hb0, hx⟩ := SlAt.ter (HT.out.below Hbw.out) hxk
      have htk : ts.take (k + 1) = ts.take k ++ [x] := by rw [List.take_add_one, hxk]; rfl
      subst hA
      have hx0 : wr.cell? ⟨b0, o0 + k * 3, none⟩ = some (.int .i64 x.1) := hx.1
      have hx1 : wr.cell? ⟨b0, o0 + k * 3 + 1, none⟩ = some (strV x.2.1) := hx.2.1
      have hx2 : wr.cell? ⟨b0, o0 + k * 3 + 2, none⟩ = some (strV x.2.2) := hx.2.2
      have Hk := Lib.hid hxk
      have Ht := Lib.hid htk
      clear hx hxk htk
      have K := Lib.hid (holds1_any x A2 c2 l _ hn hc ((HS.out.below Hbw.out).below (below1 wr (.cells #[.int .i64 x.1, strV x.2.1, strV x.2.2] 135))))
      have Hbw1 := Lib.hid (Hbw.out.alloc Hbw.out.size (.cells #[.int .i64 x.1, strV x.2.1, strV x.2.2] 135))
      cases hpx : holdL x l
      · rw [hpx] at K
        have Hpx := Lib.hid hpx
        clear hpx
        go_wp2_with fail
        refine K.out.mono ?_
        rintro e w2 ⟨rfl, hb2⟩
        have Hbw2 := Lib.hid (Hbw1.out.trans (hb2.mono Hbw1.out.size))
        clear hb2
        go_wp2
        go_ret
        refine ⟨retB ?_, Hbw2.out⟩
        symm
        unfold holdsL
        rw [List.all_eq_false]
        exact ⟨x, List.mem_of_getElem? Hk.out, by rw [Hpx.out]; simp⟩
      · rw [hpx] at K
        have Hpx := Lib.hid hpx
        clear hpx
        go_wp2_with fail
        refine K.out.mono ?_
        rintro e w2 ⟨rfl, hb2⟩
        have Hbw2 := Lib.hid (Hbw1.out.trans (hb2.mono Hbw1.out.size))
        clear hb2
        go_wp2
        go_roundw
        case rel => exact ⟨k + 1, by omega, by go_num, by rw [Ht.out, List.all_append, Hp.out]; simp [Hpx.out], Hbw2.out⟩
        case measure => simp [intOf]; omega
    · obtain rfl : k = ts.length := by omega
      go_wp2
      go_ret
      refine ⟨retB ?_, Hbw.out⟩
      have := Hp.out
      rw [List.take_length] at this
      exact this.symm

def bearP (t x : List UInt8 × List UInt8) : Bool := decide (x.1 = t.1) && (decide (x.2 = t.2) || decide (x.2 = [42]))
def bearsL (bs ts : List (List UInt8 × List UInt8)) : Bool := ts.all (fun t => bs.any (bearP t))

set_option maxHeartbeats 400000 in
theorem bear1_any (t x : List UInt8 × List UInt8) (b : Nat) (w : World) (h : Blk w b #[strV t.1, strV t.2] 133) :
    Calls Tryz.prog 246 #[labV x, .pointer (some ⟨b, 0, none⟩)] w fun e w' => e = .returned (.bool (bearP t x)) ∧ Below w.heap.size w w' := by
  obtain ⟨d0, d1, f0, f1⟩ := Blk.c2 h
  have hlt := h.lt
  clear h
  go_enter Tryz.func246, Tryz.ntmps246
  go_wp2
  all_goals
    go_ret
    refine ⟨retB ?_, below1 _ _⟩
    unfold bearP
    rw [Bool.eq_iff_iff]
    simp_all

set_option maxHeartbeats 1000000 in
theorem bears_any (A1 A2 : Option Addr) (c1 c2 : Nat) (bs ts : List (List UInt8 × List UInt8)) (w : World) (hn1 : bs.length ≤ 1000) (hc1 : bs.length ≤ c1) (hn : ts.length ≤ 1000) (_hc : ts.length ≤ c2) (hb : SlAt w A1 (cellsL bs)) (ht : SlAt w A2 (cellsL ts)) :
    Calls Tryz.prog 208 #[.slice A1 bs.length c1, .slice A2 ts.length c2] w fun e w' => e = .returned (.bool (bearsL bs ts)) ∧ Below w.heap.size w w' := by
  have HT := Lib.hid ht
  have HS := Lib.hid hb
  clear ht hb
  go_enter Tryz.func208, Tryz.ntmps208
  go_wp2
  go_loopw [10] (fun i wr => ∃ k : Nat, k ≤ ts.length ∧ i = .int .i64 k ∧ (ts.take k).all (fun t => bs.any (bearP t)) = true ∧ Below w.heap.size w wr) (fun i _ => ts.length - (intOf i).toNat)
  case atStart => exact ⟨0, by omega, rfl, rfl, Below.refl _ _⟩
  case round =>
    obtain ⟨k, hk, rfl, hp, hbw⟩ := hrel
    have Hp := Lib.hid hp
    have Hbw := Lib.hid hbw
    clear hp hbw
    by_cases hlt : k < ts.length
    · obtain ⟨x, hxk⟩ : ∃ x, ts[k]? = some x := ⟨ts[k], List.getElem?_eq_getElem hlt⟩
      obtain ⟨b0, o0, hA, hb0, hx⟩ := SlAt.lab (HT.out.below Hbw.out) hxk
      have htk : ts.take (k + 1) = ts.take k ++ [x] := by rw [List.take_add_one, hxk]; rfl
      subst hA
      have hx0 : wr.cell? ⟨b0, o0 + k * 2, none⟩ = some (strV x.1) := hx.1
      have hx1 : wr.cell? ⟨b0, o0 + k * 2 + 1, none⟩ = some (strV x.2) := hx.2
      have Hk := Lib.hid hxk
      have Ht := Lib.hid htk
      clear hx hxk htk
      have hT := Blk.new wr #[strV x.1, strV x.2] 133
      have K := Lib.hid (containsFunc_any (bearP x) 246 (.pointer (some ⟨wr.heap.size, 0, none⟩)) A1 c1 bs _ hn1 hc1 ((HS.out.below Hbw.out).below (below1 wr (.cells #[strV x.1, strV x.2] 133))) (fun _ _ => by kernel_rfl) (fun y w' hb => bear1_any x y wr.heap.size w' (hT.below hb hT.lt)))
      have Hbw1 := Lib.hid (Hbw.out.alloc Hbw.out.size (.cells #[strV x.1, strV x.2] 133))
      clear hT
      cases hpx : bs.any (bearP x)
      · rw [hpx] at K
        have Hpx := Lib.hid hpx
        clear hpx
        go_wp2_with fail
        refine K.out.mono ?_
        rintro e w2 ⟨rfl, hb2⟩
        have Hbw2 := Lib.hid (Hbw1.out.trans (hb2.mono Hbw1.out.size))
        clear hb2
        go_wp2
        go_ret
        refine ⟨retB ?_, Hbw2.out⟩
        symm
        unfold bearsL
        rw [List.all_eq_false]
        exact ⟨x, List.mem_of_getElem? Hk.out, by rw [Hpx.out]; simp⟩
      · rw [hpx] at K
        have Hpx := Lib.hid hpx
        clear hpx
        go_wp2_with fail
        refine K.out.mono ?_
        rintro e w2 ⟨rfl, hb2⟩
        have Hbw2 := Lib.hid (Hbw1.out.trans (hb2.mono Hbw1.out.size))
        clear hb2
        go_wp2
        go_roundw
        case rel => exact ⟨k + 1, by omega, by go_num, by rw [Ht.out, List.all_append, Hp.out]; simp [Hpx.out], Hbw2.out⟩
        case measure => simp [intOf]; omega
    · obtain rfl : k = ts.length := by omega
      go_wp2
      go_ret
      refine ⟨retB ?_, Hbw.out⟩
      have := Hp.out
      rw [List.take_length] at this
      exact this.symm

end Go.Proofs.YticgcimcebdjlaaGreat.La

namespace Go.Proofs.YticgcimcebdjlaaGreat
open Go.RowKit

/-- The value of the first of that key. -/
def getO (l : List L2) (k : List UInt8) : Option (List UInt8) := (l.find? (fun y => decide (y.1 = k))).map (·.2)
/-- Whether a term holds, by the document's words. -/
def holdO (t : T3) (l : List L2) : Bool := if t.1 = 1 then decide (getO l t.2.1 = some t.2.2) else if t.1 = 2 then !decide (getO l t.2.1 = some t.2.2) else if t.1 = 3 then (getO l t.2.1).isSome else !(getO l t.2.1).isSome
def holdsO (ts : List T3) (l : List L2) : Bool := ts.all (fun t => holdO t l)

end Go.Proofs.YticgcimcebdjlaaGreat

namespace Go.Proofs.YticgcimcebdjlaaGreat
open Go.RowKit

/-- How many of a list are so. -/
def numL {α : Type} (f : α → Bool) (l : List α) : Nat := (l.filter f).length
theorem numL_snoc {α : Type} (f : α → Bool) {l : List α} {k : Nat} {y : α} (hy : l[k]? = some y) : numL f (l.take (k + 1)) = numL f (l.take k) + (if f y then 1 else 0) := by
  unfold numL
  rw [List.take_add_one, hy, List.filter_append, List.length_append]
  cases h : f y <;> simp [h]
theorem numL_le {α : Type} (f : α → Bool) (l : List α) : numL f l ≤ l.length := List.length_filter_le _ _
def termsO (ts : List T3) (l : List L2) : Nat := numL (fun t => !holdO t l) ts
def taintsO (ts bs : List L2) : Nat := numL (fun t => !La.bearsL bs [t]) ts

end Go.Proofs.YticgcimcebdjlaaGreat

namespace Go.Proofs.YticgcimcebdjlaaGreat
open Go.RowKit

/-- Whether the owner of that name is single. -/
def singleO (os : List OwnD) (name : List UInt8) : Bool := match os.find? (fun o => decide (o.name = name)) with
  | some o => o.single
  | none => false
/-- How many of the first k other pods stand where that one stands, and are of its owner. -/
def doubU (ps : List PodD) (p : List Int) (pod : Nat) : Nat → Nat
  | 0 => 0
  | k + 1 => doubU ps p pod k + (if k ≠ pod ∧ p[k]? = p[pod]? ∧ (ps[k]?).map (·.owner) = (ps[pod]?).map (·.owner) then 1 else 0)
theorem doubU_le (ps : List PodD) (p : List Int) (pod : Nat) : ∀ k, doubU ps p pod k ≤ k
  | 0 => Nat.le_refl _
  | k + 1 => by
    have := doubU_le ps p pod k
    rw [doubU]
    split <;> omega

end Go.Proofs.YticgcimcebdjlaaGreat

namespace Go.Proofs.YticgcimcebdjlaaGreat
open Go.RowKit Go.Maps Go.Sort

/-- What those of the first nodes have together that have that value. -/
def sumV (ns : List NodeD) (key : List UInt8) (L : List Int) (v : List UInt8) : Nat → Int
  | 0 => 0
  | k + 1 => sumV ns key L v k + (if domF ns (k : Int) key = some v then L.getD k 0 else 0)
theorem sumV_zero (ns : List NodeD) (key v : List UInt8) (L : List Int) (h : ∀ k, L.getD k 0 = 0) : ∀ k, sumV ns key L v k = 0
  | 0 => rfl
  | k + 1 => by
    rw [sumV, sumV_zero ns key v L h k, h]
    split <;> rfl
theorem sumV_set (ns : List NodeD) (key v : List UInt8) (L : List Int) (q : Nat) (hq : q < L.length) : ∀ k, sumV ns key (L.set q (L.getD q 0 + 1)) v k = sumV ns key L v k + (if q < k ∧ domF ns (q : Int) key = some v then 1 else 0)
  | 0 => by
    rw [if_neg (by omega)]
    rfl
  | k + 1 => by
    rw [sumV, sumV, sumV_set ns key v L q hq k]
    by_cases e : q = k
    · subst e
      rw [if_neg (fun h => by omega)]
      by_cases hd : domF ns (q : Int) key = some v
      · rw [if_pos hd, if_pos hd, if_pos ⟨by omega, hd⟩]
        rw [List.getD_eq_getElem?_getD, List.getElem?_set_self hq]
        simp
        omega
      · rw [if_neg hd, if_neg hd, if_neg (fun h => hd h.2)]
    · have h1 : (L.set q (L.getD q 0 + 1)).getD k 0 = L.getD k 0 := by
        rw [List.getD_eq_getElem?_getD, List.getElem?_set_ne e, ← List.getD_eq_getElem?_getD]
      have h2 : (if q < k + 1 ∧ domF ns (q : Int) key = some v then (1 : Int) else 0) = if q < k ∧ domF ns (q : Int) key = some v then 1 else 0 := by
        by_cases hk : q < k ∧ domF ns (q : Int) key = some v
        · rw [if_pos hk, if_pos ⟨by omega, hk.2⟩]
        · rw [if_neg hk, if_neg (fun h => hk ⟨by omega, h.2⟩)]
      rw [h1, h2]
      omega
theorem two_from (ns : List NodeD) (key : List UInt8) (p : List Int) : ∀ (ys : List Nat) (D : DataW Unit) (L : List Int) (c : Nat), SpreadAt ns key D c → c + ys.length ≤ 1000 → L.length = ns.length → (∀ y ∈ ys, ∃ x, p[y]? = some x ∧ 0 ≤ x ∧ x < (ns.length : Int)) → (∀ v, valD D v = sumV ns key L v ns.length) → ∀ v, valD (ys.foldl (spreadS ns key p) D) v = sumV ns key (ys.foldl (fun l y => match p[y]? with | some x => l.set x.toNat (l.getD x.toNat 0 + 1) | none => l) L) v ns.length
  | [], _, _, _, _, _, _, _, hv => hv
  | y :: t, D, L, c, h, hc, hL, hy, hv => by
    rw [List.length_cons] at hc
    obtain ⟨x, hx, hx0, hx1⟩ := hy y (by simp)
    obtain ⟨q, rfl⟩ : ∃ q : Nat, x = (q : Int) := ⟨x.toNat, by omega⟩
    have hs : SpreadAt ns key (spreadS ns key p D y) (c + 1) := spread_from ns key p [y] D c h (by simp; omega)
    rw [List.foldl_cons, List.foldl_cons]
    have hst : (match p[y]? with | some x => L.set x.toNat (L.getD x.toNat 0 + 1) | none => L) = L.set q (L.getD q 0 + 1) := by
      rw [hx]
      simp
    rw [hst]
    refine two_from ns key p t _ _ (c + 1) hs (by omega) (by rw [List.length_set, hL]) (fun z hz => hy z (by simp [hz])) (fun v => ?_)
    rw [sumV_set ns key v L q (by omega), ← hv]
    have hq : q < ns.length := by omega
    unfold spreadS
    rw [hx]
    dsimp only
    cases hd : domF ns (q : Int) key with
    | none =>
      rw [if_neg (fun h => by have := h.2; cases this)]
      simp
    | some u =>
      dsimp only
      have hw : wrap64 (valD D u + 1) = valD D u + 1 := IntWalk.wrap64_in _ (by have := h.vals u; omega)
      have e : bumpD D u = D.put (.string u) (.lit (.int .i64 (valD D u + 1))) := by
        rw [← hw]
        rfl
      rw [e, val_put h.keyed]
      by_cases huv : v = u
      · subst huv
        rw [if_pos rfl, if_pos ⟨hq, rfl⟩]
        rfl
      · rw [if_neg huv, if_neg (fun h => huv (by have := h.2; cases this; rfl))]
        omega

theorem repl_getD (n k : Nat) : (List.replicate n (0 : Int)).getD k 0 = 0 := by
  rw [List.getD_eq_getElem?_getD, List.getElem?_replicate]
  split <;> rfl

theorem spread_is (ns : List NodeD) (key : List UInt8) (p : List Int) (ys : List Nat) (hl : ys.length ≤ 1000) (hy : ∀ y ∈ ys, ∃ x, p[y]? = some x ∧ 0 ≤ x ∧ x < (ns.length : Int)) :
    rowD (spreadD ns key p ys) = (domsR ns key ns.length).map (fun v => sumV ns key (cntL ns.length p ys) v ns.length) := by
  have hA := spread_all ns key p ys hl
  have hk : sortK (spreadD ns key p ys) = domsR ns key ns.length := by
    rw [← doms_sort]
    exact mergeSort_of_perm hA.keys
  unfold rowD
  rw [hk]
  refine List.map_congr_left (fun v _ => ?_)
  exact two_from ns key p ys _ _ 0 (spread_zero ns key) (by omega) (List.length_replicate ..) hy (fun u => by
    rw [sumV_zero ns key u _ (repl_getD ns.length)]
    exact (keyed_doms ns key ns.length).2 u) v

end Go.Proofs.YticgcimcebdjlaaGreat

namespace Go.Proofs.YticgcimcebdjlaaGreat
open Go.RowKit

def minL (l : List Int) : Int := l.foldl min (l.headD 0)
def maxL (l : List Int) : Int := l.foldl max (l.headD 0)
/-- By how much it is too great. -/
def skewO (l : List Int) (skew : Int) : Int := if l = [] then 0 else max 0 (wrap64 (wrap64 (maxL l - minL l) - skew))
end Go.Proofs.YticgcimcebdjlaaGreat

namespace Go.Proofs.YticgcimcebdjlaaGreat
open Go.RowKit

/-- A clause: its kind, A, B, By. -/
abbrev ClT := Int × Int × Int × Int
abbrev clV (x : ClT) : Value := .agg #[.int .i64 x.1, .int .i64 x.2.1, .int .i64 x.2.2.1, .int .i64 x.2.2.2]
def cells4 (l : List ClT) : List Value := l.flatMap fun x => [.int .i64 x.1, .int .i64 x.2.1, .int .i64 x.2.2.1, .int .i64 x.2.2.2]
theorem cells4_snoc (l : List ClT) (x : ClT) : cells4 (l ++ [x]) = cells4 l ++ [.int .i64 x.1, .int .i64 x.2.1, .int .i64 x.2.2.1, .int .i64 x.2.2.2] := by simp [cells4]
theorem cells4_at : ∀ (l : List ClT) (k : Nat) (x : ClT), l[k]? = some x → (cells4 l)[k * 4]? = some (.int .i64 x.1) ∧ (cells4 l)[k * 4 + 1]? = some (.int .i64 x.2.1) ∧ (cells4 l)[k * 4 + 2]? = some (.int .i64 x.2.2.1) ∧ (cells4 l)[k * 4 + 3]? = some (.int .i64 x.2.2.2)
  | [], k, x, h => by simp at h
  | y :: t, 0, x, h => by
    simp only [List.getElem?_cons_zero, Option.some.injEq] at h
    subst h
    exact ⟨rfl, rfl, rfl, rfl⟩
  | y :: t, k + 1, x, h => by
    obtain ⟨h0, h1, h2, h3⟩ := cells4_at t k x (by simpa using h)
    have e : cells4 (y :: t) = [.int .i64 y.1, .int .i64 y.2.1, .int .i64 y.2.2.1, .int .i64 y.2.2.2] ++ cells4 t := rfl
    rw [e]
    refine ⟨?_, ?_, ?_, ?_⟩
    · rw [List.getElem?_append_right (by simp; omega), ← h0]; congr 1; simp; omega
    · rw [List.getElem?_append_right (by simp; omega), ← h1]; congr 1; simp; omega
    · rw [List.getElem?_append_right (by simp; omega), ← h2]; congr 1; simp; omega
    · rw [List.getElem?_append_right (by simp; omega), ← h3]; congr 1; simp; omega
theorem atC {w : World} {A : Option Addr} {l : List ClT} (h : La.SlAt w A (cells4 l)) {k : Nat} {x : ClT} (hk : l[k]? = some x) :
    ∃ b o, A = some ⟨b, o, none⟩ ∧ b < w.heap.size ∧ w.cell? ⟨b, o + k * 4, none⟩ = some (.int .i64 x.1) ∧ w.cell? ⟨b, o + k * 4 + 1, none⟩ = some (.int .i64 x.2.1) ∧ w.cell? ⟨b, o + k * 4 + 2, none⟩ = some (.int .i64 x.2.2.1) ∧ w.cell? ⟨b, o + k * 4 + 3, none⟩ = some (.int .i64 x.2.2.2) := by
  obtain ⟨h0, h1, h2, h3⟩ := cells4_at l k x hk
  obtain ⟨b, o, hA, c0⟩ := h _ _ h0
  obtain ⟨b', o', hA', c1⟩ := h _ _ h1
  rw [hA] at hA'
  cases hA'
  obtain ⟨b', o', hA', c2⟩ := h _ _ h2
  rw [hA] at hA'
  cases hA'
  obtain ⟨b', o', hA', c3⟩ := h _ _ h3
  rw [hA] at hA'
  cases hA'
  exact ⟨b, o, hA, World.block_lt_of_cell? w _ c0, c0, c1, c2, c3⟩

theorem part_cl0 (a b c d : Int) (w : World) : (Go.part 3 #[.int .i64 a, .int .i64 b, .int .i64 c, .int .i64 d] 0).run Tryz.prog w = .ok (.int .i64 a) w := by kernel_rfl
theorem part_cl1 (a b c d : Int) (w : World) : (Go.part 3 #[.int .i64 a, .int .i64 b, .int .i64 c, .int .i64 d] 1).run Tryz.prog w = .ok (.int .i64 b) w := by kernel_rfl
theorem part_cl2 (a b c d : Int) (w : World) : (Go.part 3 #[.int .i64 a, .int .i64 b, .int .i64 c, .int .i64 d] 2).run Tryz.prog w = .ok (.int .i64 c) w := by kernel_rfl
theorem part_cl3 (a b c d : Int) (w : World) : (Go.part 3 #[.int .i64 a, .int .i64 b, .int .i64 c, .int .i64 d] 3).run Tryz.prog w = .ok (.int .i64 d) w := by kernel_rfl
theorem cl_guard : Tryz.prog.eqGuardType Tryz.prog.depth 50 = false := by kernel_rfl

end Go.Proofs.YticgcimcebdjlaaGreat
