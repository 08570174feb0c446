/- Of each domain how many of an owner's pods are in it: the contract of Spread. Condition: the cluster and the numbers lie in memory. -/
import Derived.Test.YtfnigiiocapceaaGreatKd
import Derived.Test.YtfnigiiocapceaaGreatKe
namespace Go.Proofs.YtfnigiiocapceaaGreat
open Go.RowKit Go.Shelf Go.Maps Go.Sort
attribute [local go_sem] Oper.semAt_some

/-- The number that a datum is. -/
def numD (D : DataW Unit) : Int := match D with
  | .lit (.int _ c) => c
  | _ => 0
/-- One more at a key. -/
def bumpD (D : DataW Unit) (v : List UInt8) : DataW Unit := D.put (.string v) (.lit (.int .i64 (wrap64 (numD (D.atKey (.string v) (.lit (.int .i64 0))) + 1))))
/-- One pod more. -/
def spreadS (ns : List NodeD) (key : List UInt8) (p : List Int) (D : DataW Unit) (y : Nat) : DataW Unit := match p[y]? with
  | some x => match domF ns x key with
    | some v => bumpD D v
    | none => D
  | none => D
def spreadD (ns : List NodeD) (key : List UInt8) (p : List Int) (ys : List Nat) : DataW Unit := ys.foldl (spreadS ns key p) (emptyD ns key)
theorem spreadD_snoc (ns : List NodeD) (key : List UInt8) (p : List Int) (ys : List Nat) (m : Nat) (x : Int) (hx : p[m]? = some x) : spreadD ns key p (ys ++ [m]) = match domF ns x key with
    | some v => bumpD (spreadD ns key p ys) v
    | none => spreadD ns key p ys := by
  unfold spreadD
  rw [List.foldl_append]
  show spreadS ns key p _ m = _
  unfold spreadS
  rw [hx]
/-- The numbers of a map at its keys, sorted. -/
def rowD (D : DataW Unit) : List Int := (sortK D).map fun v => numD (D.atKey (.string v) (.lit (.int .i64 0)))
/-- What Spread tells. -/
def spreadF (ns : List NodeD) (ps : List PodD) (os : List OwnD) (p : List Int) (k : Int) : List Int := if ownerB ns ps os p k then (match os[k.toNat]? with
  | some x => rowD (spreadD ns x.topo p (offL p (membersF ps x.name)))
  | none => []) else []

theorem own_other {w w' : World} {base : Nat} {e : TypeId} {sz n : Nat} {v : Value} {xs : List Value} (ho : w.ownsRow base e sz v n xs) (hg : w.grownBy w' v.ownBlock) {j : Nat} {o : Obj} (hj : w.heap[j]? = some o) (hne : ∀ cs, o ≠ .cells cs e (0, 0)) : w'.heap[j]? = some o := by
  refine (hg.block j (Array.getElem?_eq_some_iff.1 hj).1 ?_).trans hj
  rcases ho.2 with ⟨rfl, _⟩ | ⟨g, cap, cur, rfl, _, hgb, _⟩
  · intro e'; cases e'
  · intro e'
    simp only [Value.ownBlock, Option.some.injEq] at e'
    subst e'
    rw [hgb] at hj
    cases hj
    exact hne cur rfl
theorem own_below2 {w w' : World} {base : Nat} {e : TypeId} {size n : Nat} {v : Value} {xs : List Value} (h : w.ownsRow base e size v n xs) (hb : RowKit.Below w.heap.size w w') : w'.ownsRow base e size v n xs := own_nc h (grown_of_below hb none) (fun r e => by cases e)
theorem own_ownsMap {w w' : World} {base : Nat} {e : TypeId} {sz n : Nat} {v : Value} {xs : List Value} (ho : w.ownsRow base e sz v n xs) (hg : w.grownBy w' v.ownBlock) {P : Program} {k : TypeId} {R : Value → Option (DataW Unit × List MemPlace)} {b m : Nat} {D : DataW Unit} (h : w.ownsMap P k R b m D) : w'.ownsMap P k R b m D := by
  obtain ⟨es, clock, hb, F, hs, hD⟩ := h
  exact ⟨es, clock, own_other ho hg hb (fun cs e' => by cases e'), F, hs, hD⟩
theorem own_own {w w' : World} {base base' : Nat} {e e' : TypeId} {sz n sz' n' : Nat} {v v' : Value} {xs xs' : List Value} (ho : w.ownsRow base e sz v n xs) (hg : w.grownBy w' v.ownBlock) (hne : e' ≠ e) (h : w.ownsRow base' e' sz' v' n' xs') : w'.ownsRow base' e' sz' v' n' xs' := by
  obtain ⟨hl, h1 | ⟨g, cap, cur, hv, hb, hg', r⟩⟩ := h
  · exact ⟨hl, .inl h1⟩
  · exact ⟨hl, .inr ⟨g, cap, cur, hv, hb, own_other ho hg hg' (fun cs q => by cases q; exact hne rfl), r⟩⟩
theorem run_ints0 (w : World) (n : Nat) (hn : n ≤ 1000000) : (Instr.makeSlice 27 (.int .i64 0) (.int .i64 (n : Int))).run Tryz.prog w = .ok (.slice (some ⟨w.heap.size, 0, none⟩) 0 n) (w.alloc (.cells (madeCells #[.int .i64 0] n) 3)) := by
  cases hi : Tryz.prog.info? 3 with
  | none => have h := int_infoK; rw [hi] at h; cases h
  | some i =>
    have h := int_infoK
    rw [hi] at h
    simp only [Option.map_some, Option.some.injEq, Prod.mk.injEq] at h
    obtain ⟨h0, h1, h2⟩ := h
    have k := run_make (P := Tryz.prog) w 27 3 i (.int .i64 0) Tryz.underlying27 hi h0 .i64 .i64 0 n (by omega) (by omega) (by rw [h2]; omega) (by omega)
    simpa [h1, Value.cells] using k
theorem own_made0 (w : World) (n base : Nat) (hn : n ≤ 1000000) (hb : base ≤ w.heap.size) : (w.alloc (.cells (madeCells #[.int .i64 0] n) 3)).ownsRow base 3 1 (.slice (some ⟨w.heap.size, 0, none⟩) 0 n) 0 [] :=
  ⟨rfl, .inr ⟨w.heap.size, n, madeCells #[.int .i64 0] n, rfl, hb, heap_alloc_new _ _, Nat.zero_le _, by unfold maxLen; omega, by rw [size_madeCells, Nat.mul_one], by simp⟩⟩
theorem keepsFrom_below {B : Nat} {W W' : World} (h : Below W.heap.size W W') : KeepsFrom B W W' := ⟨h.size, fun k o _ hk _ => (h.block k (Array.getElem?_eq_some_iff.1 hk).1).trans hk⟩
theorem numD_lit {q : IntKind} {c : Int} {D : DataW Unit} (h : D = .lit (.int q c)) : numD D = c := by rw [h]; rfl

set_option maxRecDepth 100000 in
set_option maxHeartbeats 4000000 in
theorem spread_any (A B C P : Option Addr) (ca cb cc cp : Nat) (ns : List NodeD) (ps : List PodD) (os : List OwnD) (p : List Int) (ko : Int) (w : World) (h : SnapAt w A B C ca cb cc ns ps os) (hp : IntsAt w P cp p) :
    Calls Tryz.prog 18 #[snapV A B C ca cb cc ns ps os, .slice P p.length cp, .int .i64 ko] w fun e w' => ∃ v, e = .returned v ∧ w'.ownsRow w.heap.size 3 1 v (spreadF ns ps os p ko).length (intsC (spreadF ns ps os p ko)) ∧ Below w.heap.size w w' := by
  have hlp := Lib.hid h.lp
  have hln := Lib.hid h.ln
  have H := Lib.hid h
  have HP := Lib.hid hp
  have B0 : Hid (Below w.heap.size w ((w.alloc (.cells (snapC A B C ca cb cc ns ps os) 26)).alloc (.cells #[.slice P p.length cp] 27))) := Lib.hid (Qu.below2 w _ _)
  have S0 : Hid (Blk ((w.alloc (.cells (snapC A B C ca cb cc ns ps os) 26)).alloc (.cells #[.slice P p.length cp] 27)) w.heap.size (snapC A B C ca cb cc ns ps os) 26) := Lib.hid (Blk.alloc (Blk.new w _ _) _)
  have T0 : Hid (Blk ((w.alloc (.cells (snapC A B C ca cb cc ns ps os) 26)).alloc (.cells #[.slice P p.length cp] 27)) (w.heap.size + 1) #[.slice P p.length cp] 27) := Lib.hid (blk2 w _ _ _)
  have KC := Lib.hid ((callsIn_wide (n := 7)).2 (isOwner_any A B C P ca cb cc cp ns ps os p ko _ (h.below B0.out) (hp.below B0.out)))
  have hl0 := Blk.lt T0.out
  have E : Hid (spreadF ns ps os p ko = if ownerB ns ps os p ko then (match os[ko.toNat]? with
    | some x => rowD (spreadD ns x.topo p (offL p (membersF ps x.name)))
    | none => []) else []) := Lib.hid rfl
  have HOB := Lib.hid (fun h => @ownerB_parts ns ps os p ko h)
  generalize spreadF ns ps os p ko = R at E ⊢
  generalize ownerB ns ps os p ko = ob at KC E HOB
  clear h hp
  refine (callsIn_wide (n := 8)).1 ?_
  refine callsIn_of_wp_marks Tryz.func18 rfl trivial ?_ rfl
  simp only [Tryz.ntmps18, List.size_toArray, List.length_cons, List.length_nil, Nat.reduceAdd, Nat.reduceSub, Array.replicate_succ, Array.replicate_zero, List.push_toArray, List.append_toArray, List.nil_append, List.cons_append]
  gi_wp2_with fail
  refine ⟨trivial, ?_⟩
  refine (KC.out).mono ?_
  rintro e w1 ⟨rfl, hb⟩
  clear KC
  have S1 := Lib.hid (S0.out.below hb (by omega))
  have T1 := Lib.hid (T0.out.below hb (by omega))
  have B1 := Lib.hid (B0.out.trans (hb.mono (by omega)))
  have hl1 : Hid (w.heap.size + 1 < w1.heap.size) := Lib.hid T1.out.lt
  clear hb S0 T0 B0 hl0
  cases ob
  · have HE : Hid (R = []) := Lib.hid (by rw [E.out]; rfl)
    gi_wp2
    refine ⟨_, results_tmp rfl _ _ _, ?_⟩
    rw [HE.out]
    exact ⟨_, rfl, World.ownsRow_nil _ _ _ _, B1.out⟩
  obtain ⟨hE0, n, xo, rfl, hxo⟩ := HOB.out rfl
  have hpl := Lib.hid (placeE_len hE0)
  have HSH : Hid (Short ns) := Lib.hid (by
    refine short_of (ps := ps) (os := os) ?_
    unfold placeE at hE0
    split at hE0
    · assumption
    · rename_i hne
      exact absurd hE0 hne)
  have HX := Lib.hid hxo
  clear HOB hE0
  have HE : Hid (R = rowD (spreadD ns xo.topo p (offL p (membersF ps xo.name)))) := Lib.hid (by rw [E.out, if_pos rfl, Int.toNat_natCast, HX.out])
  clear E
  have hno : n < os.length := (List.getElem?_eq_some_iff.1 hxo).1
  have n0 : (0 : Int) ≤ (n : Int) := by omega
  have n1 : (n : Int) < (os.length : Int) := by omega
  obtain ⟨bo, oo, hC, hbo, d0, d1, d2, d3, d4⟩ := atO (H.out.below B1.out).o hxo
  subst hC
  have s2 : w1.cell? ⟨w.heap.size, 2, none⟩ = some (.slice (some ⟨bo, oo, none⟩) os.length cc) := Blk.cell S1.out 2
  -- the key
  have S2 := Lib.hid (Blk.alloc S1.out (.cells #[strV xo.topo] 9))
  have T2 := Lib.hid (Blk.alloc T1.out (.cells #[strV xo.topo] 9))
  have K2 := Lib.hid (Blk.new w1 #[strV xo.topo] 9)
  have B2 := Lib.hid (B1.out.alloc B1.out.size (.cells #[strV xo.topo] 9))
  have KE := Lib.hid ((callsIn_wide (n := 7)).2 (empty_any A B (some ⟨bo, oo, none⟩) ca cb cc ns ps os xo.topo _ (H.out.below B2.out) HSH.out))
  have t0 := Blk.cell S2.out 0
  have t1 := Blk.cell S2.out 1
  have t2 := Blk.cell S2.out 2
  clear hxo d0 d1 d3 d4 hno
  gi_wp2_with fail
  refine ⟨trivial, ?_⟩
  refine (KE.out).mono ?_
  rintro e w2 ⟨rfl, hown, hb⟩
  have hlk := K2.out.lt
  have S3 := Lib.hid (Blk.alloc (S2.out.below hb S2.out.lt) (.cells #[.map (some ((w1.alloc (.cells #[strV xo.topo] 9)).heap.size + 1))] 81))
  have T3 := Lib.hid (Blk.alloc (T2.out.below hb T2.out.lt) (.cells #[.map (some ((w1.alloc (.cells #[strV xo.topo] 9)).heap.size + 1))] 81))
  have K3 := Lib.hid (Blk.alloc (K2.out.below hb hlk) (.cells #[.map (some ((w1.alloc (.cells #[strV xo.topo] 9)).heap.size + 1))] 81))
  have M3 := Lib.hid (hown.alloc (.cells #[.map (some ((w1.alloc (.cells #[strV xo.topo] 9)).heap.size + 1))] 81))
  have Q3 := Lib.hid (Blk.new w2 #[.map (some ((w1.alloc (.cells #[strV xo.topo] 9)).heap.size + 1))] 81)
  have hb2 := B2.out.trans (hb.mono B2.out.size)
  have B3 := Lib.hid (hb2.alloc hb2.size (.cells #[.map (some ((w1.alloc (.cells #[strV xo.topo] 9)).heap.size + 1))] 81))
  have hM2 : Hid ((w1.alloc (.cells #[strV xo.topo] 9)).heap.size + 1 < w2.heap.size) := Lib.hid hown.lt
  clear hb hb2 hown KE t0 t1 t2 s2 d2 hlk S2 T2 K2 B2
  rw [World.size_alloc] at S3 T3 K3 M3 Q3 B3 hM2
  have t0 := Blk.cell S3.out 0
  have t1 := Blk.cell S3.out 1
  have t2 := Blk.cell S3.out 2
  have u0 := Blk.cell T3.out 0
  rw [World.size_alloc]
  gi_wp2_with fail
  refine ⟨trivial, ?_⟩
  refine (of_any _ A B (some ⟨bo, oo, none⟩) P ca cb cc cp ns ps os p.length (n : Int) _).mono ?_
  rintro e w3 ⟨rfl, rfl⟩
  gi_wp2_with fail
  have hsz3 : (w2.alloc (.cells #[.map (some (w1.heap.size + 1 + 1))] 81)).heap.size = w2.heap.size + 1 := by simp
  have KS := Lib.hid (of_at (8 - 1) (by omega) ca cb cc cp [] A B (some ⟨bo, oo, none⟩) P ns ps os p n xo HX.out hpl.out w _ B3.out H.out HP.out (by simp))
  rw [hsz3] at KS
  clear t0 t1 t2 u0
  generalize (w2.alloc (.cells #[.map (some (w1.heap.size + 1 + 1))] 81)) = W3 at S3 T3 K3 M3 Q3 B3 KS hsz3 ⊢
  change Code.wpIn _ _ _ _ _ _ (ofWorld W3 A B (some ⟨bo, oo, none⟩) P ca cb cc cp ns ps os p.length (n : Int))
  have S4 : Hid (Blk (ofWorld W3 A B (some ⟨bo, oo, none⟩) P ca cb cc cp ns ps os p.length (n : Int)) w.heap.size (snapC A B (some ⟨bo, oo, none⟩) ca cb cc ns ps os) 26) := Lib.hid (Blk.alloc (Blk.alloc (Blk.alloc S3.out _) _) _)
  have T4 : Hid (Blk (ofWorld W3 A B (some ⟨bo, oo, none⟩) P ca cb cc cp ns ps os p.length (n : Int)) (w.heap.size + 1) #[.slice P p.length cp] 27) := Lib.hid (Blk.alloc (Blk.alloc (Blk.alloc T3.out _) _) _)
  have K4 : Hid (Blk (ofWorld W3 A B (some ⟨bo, oo, none⟩) P ca cb cc cp ns ps os p.length (n : Int)) w1.heap.size #[strV xo.topo] 9) := Lib.hid (Blk.alloc (Blk.alloc (Blk.alloc K3.out _) _) _)
  have Q4 : Hid (Blk (ofWorld W3 A B (some ⟨bo, oo, none⟩) P ca cb cc cp ns ps os p.length (n : Int)) w2.heap.size #[.map (some (w1.heap.size + 1 + 1))] 81) := Lib.hid (Blk.alloc (Blk.alloc (Blk.alloc Q3.out _) _) _)
  have M4 : Hid ((ofWorld W3 A B (some ⟨bo, oo, none⟩) P ca cb cc cp ns ps os p.length (n : Int)).ownsMap Tryz.prog 9 (plainElem Tryz.prog 3) (w1.heap.size + 1 + 1) ns.length (emptyD ns xo.topo)) := Lib.hid (((M3.out.alloc _).alloc _).alloc _)
  have hsz4 : Hid ((ofWorld W3 A B (some ⟨bo, oo, none⟩) P ca cb cc cp ns ps os p.length (n : Int)).heap.size = w2.heap.size + 4) := Lib.hid (by simp [ofWorld, hsz3])
  have BW : Hid (Below w.heap.size w (ofWorld W3 A B (some ⟨bo, oo, none⟩) P ca cb cc cp ns ps os p.length (n : Int))) := Lib.hid (((B3.out.alloc B3.out.size _).alloc (by have := B3.out.size; simp; omega) _).alloc (by have := B3.out.size; simp; omega) _)
  generalize ofWorld W3 A B (some ⟨bo, oo, none⟩) P ca cb cc cp ns ps os p.length (n : Int) = W0 at S4 T4 K4 Q4 M4 BW KS hsz4 ⊢
  obtain ⟨Mb, hMb⟩ : ∃ Mb, w1.heap.size + 1 + 1 = Mb := ⟨_, rfl⟩
  obtain ⟨Tb, hT⟩ : ∃ Tb, w.heap.size + 1 = Tb := ⟨_, rfl⟩
  rw [hMb] at Q4 M4 hM2 ⊢
  rw [hT] at T4 hl1 ⊢
  have hMb2 : Hid (w1.heap.size < Mb) := Lib.hid (by omega)
  obtain ⟨Kb, hKb⟩ : ∃ Kb, w1.heap.size = Kb := ⟨_, rfl⟩
  obtain ⟨Cb, hCb⟩ : ∃ Cb, w2.heap.size = Cb := ⟨_, rfl⟩
  rw [hKb] at K4 hl1 hMb2 ⊢
  rw [hCb] at Q4 hM2 KS hsz4 ⊢
  have hN : Hid (w.heap.size < Tb ∧ Tb < Kb ∧ Kb < Mb ∧ Mb < Cb) := Lib.hid ⟨by omega, hl1.out, hMb2.out, hM2.out⟩
  clear hMb hT hKb hCb hMb2 hM2 hl1 S1 T1 B1 S3 T3 K3 M3 Q3 B3 hsz3 n0 n1
  refine wpIn_rangeFunc_ownG (α := OffNo p) rfl (by omega) (gf := 66) rfl trivial (enters_of Tryz.func66 (by kernel_rfl) rfl)
    KS.out keepU_t (keepU_b (by have := hN.out; have := hsz4.out; omega)) (Below.refl _ _) (fun _ => rfl)
    (fun (pre : List (OffNo p)) W => (Blk W w.heap.size (snapC A B (some ⟨bo, oo, none⟩) ca cb cc ns ps os) 26 ∧ Blk W Tb #[.slice P p.length cp] 27 ∧ Blk W Kb #[strV xo.topo] 9 ∧ Blk W Cb #[.map (some Mb)] 81 ∧ World.ownsMap (H := Unit) W Tryz.prog 9 (plainElem (H := Unit) Tryz.prog 3) Mb (ns.length + pre.length) (spreadD ns xo.topo p (pre.map (fun x => x.1)))) ∧ Below w.heap.size w W)
    (fun _ _ _ => False)
    (OwnFrom.and (fun s X Y row hs hg hr => ⟨blk_nc hs.1 hg (fun r e => (hr r e).2), blk_nc hs.2.1 hg (fun r e => (hr r e).2), blk_nc hs.2.2.1 hg (fun r e => (hr r e).2), blk_nc hs.2.2.2.1 hg (fun r e => (hr r e).2), World.ownsMap.kept (H := Unit) hs.2.2.2.2 hg (fun e => by have := (hr _ e.symm).1; have := hN.out; have := hsz4.out; omega)⟩) (ownFrom_below (Nat.le_refl _) (by have := hN.out; have := hsz4.out; omega)))
    (fun _ _ _ _ _ hs _ _ => hs)
    ⟨⟨S4.out, T4.out, K4.out, Q4.out, M4.out⟩, BW.out⟩
    (fun x => { tmps := #[snapV A B (some { block := bo, off := oo }) ca cb cc ns ps os, Value.slice P p.length cp,
          Value.int IntKind.i64 n, Value.pointer (some { block := w.heap.size, off := 0 }),
          Value.pointer (some { block := Tb, off := 0 }), undef, Value.slice none 0 0,
          Value.pointer (some { block := Kb, off := 0 }),
          Value.pointer (some { block := Cb, off := 0 }), .int .i64 (x.1 : Int), undef, undef, undef, undef, undef,
          Value.agg
            #[Value.slice A ns.length ca, Value.slice B ps.length cb,
              Value.slice (some { block := bo, off := oo }) os.length cc],
          Value.slice P p.length cp, Value.int IntKind.i64 n, Value.bool true, Value.bool false,
          Value.pointer (some { block := w.heap.size, off := 2 }),
          Value.slice (some { block := bo, off := oo }) os.length cc, Value.int IntKind.i64 n,
          Value.pointer (some { block := bo, off := oo + n * 5 }),
          Value.pointer (some { block := bo, off := oo + n * 5 + 2 }), strV xo.topo,
          Value.agg
            #[Value.slice A ns.length ca, Value.slice B ps.length cb,
              Value.slice (some { block := bo, off := oo }) os.length cc],
          Value.string { data := xo.topo.toArray }, Value.map (some Mb),
          Value.agg
            #[Value.slice A ns.length ca, Value.slice B ps.length cb,
              Value.slice (some { block := bo, off := oo }) os.length cc],
          Value.slice P p.length cp, Value.int IntKind.i64 n,
          Value.func (Fn.func 66) #[]
            #[Value.pointer (some { block := Cb + 1, off := 0 }),
              Value.pointer (some { block := Cb + 1 + 1 + 1, off := 0 }),
              Value.pointer (some { block := Cb + 1 + 1, off := 0 })],
          .int .i64 (x.1 : Int), undef, undef, undef, undef, undef, undef, undef, undef, undef, undef, undef, undef, undef, undef, undef, undef, undef, undef, undef, undef, undef, undef, undef, undef, undef, undef, undef, undef, undef, undef, undef, undef, undef, undef], defers := [] }) ?assign ?body ?done ?stop
  case assign =>
    intro l x W K hK
    gi_wp2
    exact hK
  case body =>
    rintro l pre ⟨m, hm⟩ W ⟨⟨hS, hT, hKk, hC, hM⟩, hB⟩ hlen
    obtain ⟨xv, hx, hne⟩ := id hm
    obtain ⟨b, o, hA, hbl, hc⟩ := atI (HP.out.below hB).cells hx
    subst hA
    have hml : m < p.length := (List.getElem?_eq_some_iff.1 hx).1
    have z0 := Blk.cell hS 0
    have z1 := Blk.cell hS 1
    have z2 := Blk.cell hS 2
    have p0 : W.cell? ⟨Tb, 0, none⟩ = some (.slice (some ⟨b, o, none⟩) p.length cp) := Blk.cell hT 0
    have q0 : W.cell? ⟨Kb, 0, none⟩ = some (strV xo.topo) := Blk.cell hKk 0
    have m0 : (0 : Int) ≤ (m : Int) := by omega
    have m1 : (m : Int) < (p.length : Int) := by omega
    have KD := Lib.hid (domainOf_any A B (some ⟨bo, oo, none⟩) ca cb cc ps.length os.length ns xv xo.topo W.drew (((H.out.below hB).below (Below.refl _ _).drew)).n HSH.out)
    have HBs := Lib.hid hB
    have E : Hid (spreadD ns xo.topo p (pre.map (·.1) ++ [m]) = match domF ns xv xo.topo with
      | some v => bumpD (spreadD ns xo.topo p (pre.map (·.1))) v
      | none => spreadD ns xo.topo p (pre.map (·.1))) := Lib.hid (spreadD_snoc ns xo.topo p _ m xv hx)
    have HV := Lib.hid (fun v (hv : domF ns xv xo.topo = some v) => domF_short HSH.out hv)
    generalize domF ns xv xo.topo = dv at KD E HV
    generalize spreadD ns xo.topo p (pre.map (·.1)) = D0 at hM E
    have HS := Lib.hid hS
    have HT := Lib.hid hT
    have HKk := Lib.hid hKk
    have HC := Lib.hid hC
    have HM := Lib.hid hM
    have hlen2 := Lib.hid hlen
    have hmx : Tryz.prog.follows .mixedOrders = true := by kernel_rfl
    clear hS hT hKk hC hM hB hlen hml hx
    rename_i K0 hK0
    clear hK0 KS S4 T4 K4 Q4 M4 BW HX HE H HP HSH
    gi_wp2
    rename_i Kq hKq
    have key : ∀ w', RowKit.Below W.drew.heap.size W.drew w' → Kq { tmps :=
        #[snapV A B (some { block := bo, off := oo }) ca cb cc ns ps os,
          Value.slice (some { block := b, off := o }) p.length cp, Value.int IntKind.i64 n,
          Value.pointer (some { block := w.heap.size, off := 0 }), Value.pointer (some { block := Tb, off := 0 }),
          undef, Value.slice none 0 0, Value.pointer (some { block := Kb, off := 0 }),
          Value.pointer (some { block := Cb, off := 0 }), Value.int IntKind.i64 m, strV (dv.getD []),
          Value.bool dv.isSome, undef, undef, undef,
          Value.agg
            #[Value.slice A ns.length ca, Value.slice B ps.length cb,
              Value.slice (some { block := bo, off := oo }) os.length cc],
          Value.slice (some { block := b, off := o }) p.length cp, Value.int IntKind.i64 n, Value.bool true,
          Value.bool false, Value.pointer (some { block := w.heap.size, off := 2 }),
          Value.slice (some { block := bo, off := oo }) os.length cc, Value.int IntKind.i64 n,
          Value.pointer (some { block := bo, off := oo + n * 5 }),
          Value.pointer (some { block := bo, off := oo + n * 5 + 2 }), strV xo.topo,
          Value.agg
            #[Value.slice A ns.length ca, Value.slice B ps.length cb,
              Value.slice (some { block := bo, off := oo }) os.length cc],
          Value.string { data := xo.topo.toArray }, Value.map (some Mb),
          Value.agg
            #[Value.slice A ns.length ca, Value.slice B ps.length cb,
              Value.slice (some { block := bo, off := oo }) os.length cc],
          Value.slice (some { block := b, off := o }) p.length cp, Value.int IntKind.i64 n,
          Value.func (Fn.func 66) #[]
            #[Value.pointer (some { block := Cb + 1, off := 0 }),
              Value.pointer (some { block := Cb + 1 + 1 + 1, off := 0 }),
              Value.pointer (some { block := Cb + 1 + 1, off := 0 })],
          Value.int IntKind.i64 m, Value.tuple #[strV (dv.getD []), Value.bool dv.isSome],
          Value.agg
            #[Value.slice A ns.length ca, Value.slice B ps.length cb,
              Value.slice (some { block := bo, off := oo }) os.length cc],
          Value.slice (some { block := b, off := o }) p.length cp, Value.int IntKind.i64 m,
          Value.pointer (some { block := b, off := o + m }), Value.int IntKind.i64 xv, strV xo.topo,
          Value.tuple #[strV (dv.getD []), Value.bool dv.isSome], strV (dv.getD []), Value.bool dv.isSome, undef, undef,
          undef, undef, undef, undef, undef, undef, undef, undef, undef, undef, undef, undef, undef, undef, undef, undef, undef, undef, undef, undef, undef, undef], defers := [] } w' := by
      intro w' hb
      refine hKq _ _ ?_
      clear hKq
      have hbW : Below W.heap.size W w' := ((Below.refl W.heap.size W).drew).trans hb
      have S' := Lib.hid (HS.out.below hbW HS.out.lt)
      have T' := Lib.hid (HT.out.below hbW HT.out.lt)
      have K' := Lib.hid (HKk.out.below hbW HKk.out.lt)
      have C' := Lib.hid (HC.out.below hbW HC.out.lt)
      have M' := Lib.hid (ownsMap_below HM.out hbW)
      have B' := Lib.hid (HBs.out.trans (hbW.mono HBs.out.size))
      have KF := Lib.hid (keepsFrom_below (B := W0.heap.size) hbW)
      have KU := Lib.hid (KeepU.below (us := []) hbW HBs.out.size)
      have c0 : w'.cell? ⟨Cb, 0, none⟩ = some (.map (some Mb)) := Blk.cell C'.out 0
      clear hb hbW z0 z1 z2 p0 q0 hc KD
      cases dv with
      | none =>
        gi_wp2
        refine ⟨KF.out, KU.out, ⟨S'.out, T'.out, K'.out, C'.out, ?_⟩, B'.out⟩
        have e9 : (pre ++ [(⟨m, hm⟩ : OffNo p)]).unattach = pre.map (fun x => x.1) ++ [m] := by
          show (pre ++ [(⟨m, hm⟩ : OffNo p)]).map (fun x => x.1) = _
          rw [List.map_append]
          rfl
        show World.ownsMap (H := Unit) w' _ _ _ _ _ (spreadD ns xo.topo p (pre ++ [(⟨m, hm⟩ : OffNo p)]).unattach)
        rw [e9, E.out]
        exact M'.out.mono (by simp)
      | some v =>
        have hvl : ((⟨v.toArray⟩ : ByteArray).size) ≤ maxLen := by
          have := HV.out v rfl
          rw [size_of]
          unfold maxLen
          omega
        have hkey := WideMaps.keyOf_string_mk (P := Tryz.prog) Tryz.underlying9 hvl
        have hown := M'.out
        have hkm : ns.length + pre.length < maxLen := by
          have := hlen2.out
          have := hlp.out
          have := hpl.out
          have := hln.out
          unfold maxLen
          omega
        gi_wp2_with (first
          | (gi_at_lookup; refine wpListIn_lookup_own_int _ rfl _ _ 81 rfl 9 3 .i64 (Maps.string_keyed Tryz.underlying9) Tryz.underlying81 Tryz.underlying3 (Tryz.zeroValue3 _) Mb (ns.length + pre.length) _ rfl hown _ _ rfl hkey ?_; intro c hat hwc)
          | (gi_at_mapUpdate; refine wpListIn_mapUpdate_own _ rfl _ _ _ 81 rfl 9 3 (Maps.string_keyed Tryz.underlying9) Tryz.underlying81 _ Mb (ns.length + pre.length) _ rfl hown hkm _ _ _ rfl rfl hkey _ [] (plainElem_int Tryz.underlying3 (wrap64_wf _)) ?_; intro w3 hown3 hgrow3))
        have hN' := hN.out
        have hnm : ∀ (bb : Nat) (cs : Array Value) (t : TypeId), Blk w' bb cs t → some bb ≠ some Mb := fun bb cs t hbk e => by
          cases e
          obtain ⟨es, clock, hh, _⟩ := hown
          unfold Blk at hbk
          rw [hh] at hbk
          cases hbk
        have hbg : Below w.heap.size w' w3 := (Below.refl w.heap.size w').grown hgrow3 (Nat.le_trans (by have := B'.out.size; exact this) (Nat.le_refl _)) (fun j e => by cases e; omega)
        refine ⟨KF.out.trans (KeepsFrom.of_grownBy hgrow3 (fun j e => by cases e; have := hsz4.out; omega)), KU.out.trans ⟨hbg, fun bb cs t _ h1 => h1.kept hgrow3 (hnm bb cs t h1)⟩, ⟨S'.out.kept hgrow3 (hnm _ _ _ S'.out), T'.out.kept hgrow3 (hnm _ _ _ T'.out), K'.out.kept hgrow3 (hnm _ _ _ K'.out), C'.out.kept hgrow3 (hnm _ _ _ C'.out), ?_⟩, B'.out.trans hbg⟩
        have e9 : (pre ++ [(⟨m, hm⟩ : OffNo p)]).unattach = pre.map (fun x => x.1) ++ [m] := by
          show (pre ++ [(⟨m, hm⟩ : OffNo p)]).map (fun x => x.1) = _
          rw [List.map_append]
          rfl
        show World.ownsMap (H := Unit) w3 _ _ _ _ _ (spreadD ns xo.topo p (pre ++ [(⟨m, hm⟩ : OffNo p)]).unattach)
        rw [e9, E.out]
        unfold bumpD
        rw [numD_lit hat]
        exact hown3.mono (by simp; omega)
    gi_region_with_o (refine ⟨trivial, ?_⟩; gi_at_call 47; refine (CallsIn.inRound l (callsIn_wide.2 KD.out)).mono ?_; rintro e w' ⟨rfl, hb⟩)
    all_goals exact key _ hb
  case done =>
    rintro D ys W hD hys ⟨⟨hS, hT, hKk, hC, hM⟩, hB⟩ hK
    rw [hys] at hM
    obtain ⟨Dd, hDd⟩ : ∃ Dd, spreadD ns xo.topo p (offL p (membersF ps xo.name)) = Dd := ⟨_, rfl⟩
    rw [hDd] at hM
    have HE2 : Hid (R = rowD Dd) := Lib.hid (by rw [HE.out, hDd])
    have hnn : Hid (Maps.size Dd ≤ 2000) := Lib.hid (by
      have h1 := hM.size_le
      have h2 : ys.length ≤ 1000 := by
        have e1 : ys.length = (ys.map (fun x => x.1)).length := by rw [List.length_map]
        rw [e1, hys]
        have := offL_len p (membersF ps xo.name)
        have h3 : (membersF ps xo.name).length ≤ ps.length := membersU_len ps xo.name _
        have := hlp.out
        omega
      have := hln.out
      omega)
    have c0 : W.cell? ⟨Cb, 0, none⟩ = some (.map (some Mb)) := Blk.cell hC 0
    have hmk := run_ints0 W (Maps.size Dd) (by have := hnn.out; omega)
    have HW : Hid (w.heap.size ≤ W.heap.size) := Lib.hid hB.size
    have O1 := Lib.hid (own_made0 W (Maps.size Dd) w.heap.size (by have := hnn.out; omega) hB.size)
    have C1 := Lib.hid (Blk.alloc hC (.cells (madeCells #[.int .i64 0] (Maps.size Dd)) 3))
    have M1 := Lib.hid (hM.alloc (.cells (madeCells #[.int .i64 0] (Maps.size Dd)) 3))
    have B1 := Lib.hid (hB.alloc hB.size (.cells (madeCells #[.int .i64 0] (Maps.size Dd)) 3))
    have D1 : Hid ((W.alloc (.cells (madeCells #[.int .i64 0] (Maps.size Dd)) 3)).heap[D]? = some (.deferred (some []))) := Lib.hid ((Below.heap_alloc W _ D (Array.getElem?_eq_some_iff.1 hK).1).trans hK)
    have HD := Lib.hid hD
    obtain ⟨i0, hi0, hz0, hz1, hz2⟩ := info_parts int_infoK
    rename_i K0 hK0
    clear hS hT hKk hC hB hK hD hys HE hDd KS S4 T4 K4 Q4 M4 BW H HP HSH HX hlp hln hpl
    have c1 : (W.alloc (.cells (madeCells #[.int .i64 0] (Maps.size Dd)) 3)).cell? ⟨Cb, 0, none⟩ = some (.map (some Mb)) := Blk.cell C1.out 0
    have KS2 := Lib.hid (sortedKeys_in Mb _ Dd _ _ M1.out (by have := hnn.out; unfold maxLen; omega) (by have := hnn.out; omega))
    simp only [World.size_alloc] at KS2
    have hfK : Fence.wide.fn 49 := trivial
    have hfS : Fence.wide.fn 48 := trivial
    gi_wp2_with (first
      | (gi_at_len; refine wpListIn_len_own _ rfl _ _ rfl 9 3 Tryz.underlying81 _ Mb _ Dd rfl hM ?_)
      | (gi_at_call 49; refine ((mapsKeys_in (some Mb) _).more (by omega)).mono ?_; rintro e w' ⟨rfl, rfl⟩)
      | (gi_at_call 48; refine (KS2.out.more (by omega)).mono ?_; rintro e w' ⟨v, ss, rfl, hS, hrow, hnil, hb⟩; have hrow2 := own_sorted hS hrow; obtain ⟨A9, c9, rfl, hm9⟩ := La.own_slice hrow2))
    have hb2 : RowKit.Below (W.alloc (.cells (madeCells #[.int .i64 0] (Maps.size Dd)) 3)).heap.size (W.alloc (.cells (madeCells #[.int .i64 0] (Maps.size Dd)) 3)) w' := ((Below.refl _ _).alloc (Nat.le_refl _) _).trans (hb.mono (by simp))
    have O2 := Lib.hid (own_below2 O1.out hb2)
    have C2 := Lib.hid (C1.out.below hb2 C1.out.lt)
    have M2 := Lib.hid (ownsMap_below M1.out hb2)
    have B2 := Lib.hid (B1.out.trans (hb2.mono B1.out.size))
    have D2 : Hid (w'.heap[D]? = some (.deferred (some []))) := Lib.hid ((hb2.block D (Array.getElem?_eq_some_iff.1 D1.out).1).trans D1.out)
    have R2 := Lib.hid (own_base hrow2 (base' := w.heap.size) (by have := B1.out.size; simp at this ⊢; omega))
    have hLL : Hid ((sortK Dd).length ≤ 2000) := Lib.hid (by
      unfold sortK
      rw [List.length_mergeSort]
      have h1 := hnn.out
      cases Dd with
      | map es => simpa [strKeys, Maps.size] using h1
      | _ => simp [strKeys])
    have hRD : Hid (rowD Dd = (sortK Dd).map fun v => numD (Dd.atKey (.string v) (.lit (.int .i64 0)))) := Lib.hid rfl
    have hST := Lib.hid (fun x (hx : x ∈ sortK Dd) => strKeys_le hM Tryz.underlying9 x ((List.mergeSort_perm _ _).mem_iff.1 hx))
    clear hb hb2 hrow hrow2 hS hnil O1 C1 M1 B1 D1 c0 c1 KS2 hmk hM hnn
    generalize sortK Dd = L at R2 hLL hRD hST ⊢
    gi_loopw [56, 12] (fun i v wr => ∃ k : Nat, k ≤ L.length ∧ i = .int .i64 k ∧ wr.ownsRow w.heap.size 3 1 v k (intsC ((rowD Dd).take k)) ∧ wr.ownsRow w.heap.size 9 1 (.slice A9 L.length c9) L.length (L.map encStr) ∧ World.ownsMap (H := Unit) wr Tryz.prog 9 (plainElem (H := Unit) Tryz.prog 3) Mb (ns.length + ys.length) Dd ∧ Blk wr Cb #[.map (some Mb)] 81 ∧ RowKit.Below w.heap.size w wr ∧ wr.heap[D]? = some (.deferred (some []))) (fun i _ _ => L.length - (intOf i).toNat)
    case atStart => exact ⟨0, by omega, rfl, O2.out, R2.out, M2.out, C2.out, B2.out, D2.out⟩
    case round =>
      clear O2 R2 M2 C2 B2 D2
      obtain ⟨k, hk, rfl, ho, hr, hm, hc, hb, hd⟩ := hrel
      have HO := Lib.hid ho
      have HR := Lib.hid hr
      have HM := Lib.hid hm
      have HC := Lib.hid hc
      have HB := Lib.hid hb
      have HDd := Lib.hid hd
      clear ho hr hc hb hd
      by_cases hlt : k < L.length
      · obtain ⟨x, hx⟩ : ∃ x, L[k]? = some x := ⟨L[k], List.getElem?_eq_getElem hlt⟩
        obtain ⟨g, cur, hA, hg, hgb, hgc⟩ := own_blk HR.out (k := k) (y := encStr x) (by rw [List.getElem?_map, hx]; rfl)
        subst hA
        have g0 : wr.cell? ⟨g, k, none⟩ = some (strV x) := (Blk.cell hgb k).trans hgc
        have c0 : wr.cell? ⟨Cb, 0, none⟩ = some (.map (some Mb)) := Blk.cell HC.out 0
        have k0 : (0 : Int) ≤ (k : Int) := by omega
        have k1 : (k : Int) < (L.length : Int) := by omega
        have hvl : ((⟨x.toArray⟩ : ByteArray).size) ≤ maxLen := by
          rw [size_of]
          exact hST.out x (List.mem_of_getElem? hx)
        have hkey := WideMaps.keyOf_string_mk (P := Tryz.prog) Tryz.underlying9 hvl
        have HX2 := Lib.hid hx
        have hkb : Hid (k + 1 ≤ maxLen) := Lib.hid (by have := hLL.out; unfold maxLen; omega)
        have hkc : Hid ((k + 1) * 8 ≤ 140737488355328) := Lib.hid (by have := hLL.out; omega)
        have hwz : Hid (w.heap.size ≤ wr.heap.size) := Lib.hid HB.out.size
        clear hx hgb hgc hvl
        have hLLp : L.length ≤ 2000 := hLL.out
        gi_wp2_with (first
          | (gi_at_lookup; refine wpListIn_lookup_own_int _ rfl _ _ 81 rfl 9 3 .i64 (Maps.string_keyed Tryz.underlying9) Tryz.underlying81 Tryz.underlying3 (Tryz.zeroValue3 _) Mb _ _ rfl hm _ _ rfl hkey ?_; intro c hat hwc)
          | (gi_at_builtin; refine wpListIn_append_own _ rfl _ _ 27 rfl w.heap.size 3 i0 (.int .i64 0) 1 8 Tryz.underlying27 hi0 hz0 hz1 hz2 rfl (by decide) _ _ _ rfl (HO.out.alloc _) ⟨wr.heap.size, 0, none⟩ 1 1 [.int .i64 c] rfl rfl ?c1 ?c2 hkb.out hkc.out ?c5 ?_))
        case c2 => first | rfl | (intro u hu; simp at hu; subst hu; rfl)
        case c5 => have := hwz.out; simp; omega
        intro v' w2' hown' hgrow' _
        have ha0 := HO.out.alloc (.cells #[.int .i64 c] 3)
        have O3 := Lib.hid hown'
        have R3 := Lib.hid (own_own ha0 hgrow' (by decide) (HR.out.alloc (.cells #[.int .i64 c] 3)))
        have M3 := Lib.hid (own_ownsMap ha0 hgrow' (hm.alloc (.cells #[.int .i64 c] 3)))
        have C3 : Hid (Blk w2' Cb #[.map (some Mb)] 81) := Lib.hid (own_other ha0 hgrow' (Blk.alloc HC.out (.cells #[.int .i64 c] 3)) (fun cs e => by cases e))
        have D3 : Hid (w2'.heap[D]? = some (.deferred (some []))) := Lib.hid (own_other ha0 hgrow' ((Below.heap_alloc wr _ D (Array.getElem?_eq_some_iff.1 HDd.out).1).trans HDd.out) (fun cs e => by cases e))
        have B3 := Lib.hid ((HB.out.alloc HB.out.size (.cells #[.int .i64 c] 3)).grown hgrow' (by have := hwz.out; simp; omega) (fun j hj => own_gem HO.out hj))
        have hstep : Hid ((rowD Dd).take (k + 1) = (rowD Dd).take k ++ [c]) := Lib.hid (by
          have h1 : (rowD Dd)[k]? = some c := by
            rw [hRD.out, List.getElem?_map, HX2.out]
            simp only [Option.map_some, Option.some.injEq]
            exact numD_lit hat
          obtain ⟨h2, h3⟩ := List.getElem?_eq_some_iff.1 h1
          rw [List.take_succ_eq_append_getElem h2, h3])
        clear hown' hgrow' ha0 hm hkey g0 c0
        gi_wp2
        go_roundw
        case rel =>
          refine ⟨k + 1, by omega, by go_num, ?_, R3.out, M3.out, C3.out, B3.out, D3.out⟩
          rw [hstep.out]
          have := O3.out
          simpa [intsC] using this
        case measure =>
          simp [intOf]
          omega
      · obtain rfl : k = L.length := by omega
        have hrl : (rowD Dd).length = L.length := by rw [hRD.out, List.length_map]
        gi_wp2
        refine ⟨by simp, .inl ⟨_, _, rfl, run_takeDeferred HDd.out, ?_⟩⟩
        refine ⟨_, results_tmp rfl _ _ _, _, rfl, ?_, HB.out.trans (belowK_b (w := w) (Nat.le_refl _) wr D _ _ (by have := HD.out; have := hN.out; have := hsz4.out; omega) HDd.out rfl rfl)⟩
        rw [HE2.out, hrl]
        have h9 := HO.out
        rw [List.take_of_length_le (by omega)] at h9
        exact ownsRow_putObj h9 _ HDd.out rfl
  case stop =>
    rintro D c pre W _ _ h _
    exact h.elim
end Go.Proofs.YtfnigiiocapceaaGreat
