/- How many pods of an owner do not wait: the contract of Placed. Condition: the cluster and the numbers lie in memory. Of each node how many of an owner's pods are on it: the contract of Counts. Condition: the cluster and the numbers lie in memory. -/
import Derived.Test.YtfnigiiocapceaaGreatKc
import Derived.Test.YtfnigiiocapceaaGreatKb
import Derived.Test.YtfnigiiocapceaaGreatKa
import Derived.Laws.OwnMore

namespace Go.Proofs.YtfnigiiocapceaaGreat
open Go.RowKit Go.Shelf
attribute [local go_sem] Oper.semAt_some

/-- The pods of an owner that do not wait. -/
def ofF (ps : List PodD) (os : List OwnD) (p : List Int) (k : Int) : List Nat := match os[k.toNat]? with
  | some x => offL p (membersF ps x.name)
  | none => []
/-- What Placed tells. -/
def placedF (ns : List NodeD) (ps : List PodD) (os : List OwnD) (p : List Int) (k : Int) : Int := if ownerB ns ps os p k then ((ofF ps os p k).length : Int) else 0
theorem ownerB_parts {ns : List NodeD} {ps : List PodD} {os : List OwnD} {p : List Int} {k : Int} (h : ownerB ns ps os p k = true) : placeE ns ps os p = 0 ∧ ∃ (n : Nat) (x : OwnD), k = (n : Int) ∧ os[n]? = some x := by
  unfold ownerB at h
  simp only [Bool.and_eq_true, decide_eq_true_eq] at h
  obtain ⟨h1, h2, h3⟩ := h
  have hn : k.toNat < os.length := by omega
  exact ⟨h1, k.toNat, os[k.toNat], by omega, List.getElem?_eq_getElem hn⟩
set_option maxRecDepth 100000 in
set_option maxHeartbeats 2000000 in
theorem placed_any (A B C P : Option Addr) (ca cb cc cp : Nat) (ns : List NodeD) (ps : List PodD) (os : List OwnD) (p : List Int) (ko : Int) (w : World) (h : SnapAt w A B C ca cb cc ns ps os) (hp : IntsAt w P cp p) :
    Calls Tryz.prog 20 #[snapV A B C ca cb cc ns ps os, .slice P p.length cp, .int .i64 ko] w fun e w' => e = .returned (.int .i64 (placedF ns ps os p ko)) ∧ Below w.heap.size w w' := by
  have hlp := Lib.hid h.lp
  have H := Lib.hid h
  have HP := Lib.hid hp
  have B0 : Hid (Below w.heap.size w (w.alloc (.cells (snapC A B C ca cb cc ns ps os) 26))) := Lib.hid (below1 w _)
  have S0 : Hid (Blk (w.alloc (.cells (snapC A B C ca cb cc ns ps os) 26)) w.heap.size (snapC A B C ca cb cc ns ps os) 26) := Lib.hid (Blk.new w _ _)
  have KC := Lib.hid ((callsIn_wide (n := 7)).2 (isOwner_any A B C P ca cb cc cp ns ps os p ko _ (h.below B0.out) (hp.below B0.out)))
  have hl0 := Blk.lt S0.out
  have E : Hid (placedF ns ps os p ko = if ownerB ns ps os p ko then ((ofF ps os p ko).length : Int) else 0) := Lib.hid rfl
  have HOB := Lib.hid (fun h => @ownerB_parts ns ps os p ko h)
  generalize placedF ns ps os p ko = R at E ⊢
  generalize ownerB ns ps os p ko = ob at KC E HOB
  clear h hp
  refine (callsIn_wide (n := 8)).1 ?_
  refine callsIn_of_wp_marks Tryz.func20 rfl trivial ?_ rfl
  simp only [Tryz.ntmps20, List.size_toArray, List.length_cons, List.length_nil, Nat.reduceAdd, Nat.reduceSub, Array.replicate_succ, Array.replicate_zero, List.push_toArray, List.append_toArray, List.nil_append, List.cons_append]
  gi_wp2_with fail
  refine ⟨trivial, ?_⟩
  refine (KC.out).mono ?_
  rintro e w1 ⟨rfl, hb⟩
  clear KC
  have S1 := Lib.hid (S0.out.below hb (by omega))
  have B1 := Lib.hid (B0.out.trans (hb.mono (by omega)))
  clear hb S0 B0 hl0
  have s0 : w1.cell? ⟨w.heap.size, 0, none⟩ = some (.slice A ns.length ca) := Blk.cell S1.out 0
  have s1 : w1.cell? ⟨w.heap.size, 1, none⟩ = some (.slice B ps.length cb) := Blk.cell S1.out 1
  have s2 : w1.cell? ⟨w.heap.size, 2, none⟩ = some (.slice C os.length cc) := Blk.cell S1.out 2
  cases ob
  · have HE : Hid (R = 0) := Lib.hid (by rw [E.out]; rfl)
    gi_wp2
    refine ⟨_, results_tmp rfl _ _ _, ?_, B1.out⟩
    exact La.retI HE.out.symm
  obtain ⟨hE0, n, xo, rfl, hxo⟩ := HOB.out rfl
  have hpl := Lib.hid (placeE_len hE0)
  have HX := Lib.hid hxo
  clear HOB hE0 hxo
  have HE : Hid (R = ((offL p (membersF ps xo.name)).length : Int)) := Lib.hid (by rw [E.out, if_pos rfl]; unfold ofF; rw [Int.toNat_natCast, HX.out])
  clear E s0 s1 s2
  have Z1 := Lib.hid (Blk.alloc S1.out (.cells #[.int .i64 0] 3))
  have B3 := Lib.hid (B1.out.alloc B1.out.size (.cells #[.int .i64 0] 3))
  have t0 : (w1.alloc (.cells #[.int .i64 0] 3)).cell? ⟨w.heap.size, 0, none⟩ = some (.slice A ns.length ca) := Blk.cell Z1.out 0
  have t1 : (w1.alloc (.cells #[.int .i64 0] 3)).cell? ⟨w.heap.size, 1, none⟩ = some (.slice B ps.length cb) := Blk.cell Z1.out 1
  have t2 : (w1.alloc (.cells #[.int .i64 0] 3)).cell? ⟨w.heap.size, 2, none⟩ = some (.slice C os.length cc) := Blk.cell Z1.out 2
  gi_wp2_with fail
  refine ⟨trivial, ?_⟩
  refine (of_any _ A B C P ca cb cc cp ns ps os p.length (n : Int) _).mono ?_
  rintro e w3 ⟨rfl, rfl⟩
  gi_wp2_with fail
  have Q0 : Hid (Blk (ofWorld (w1.alloc (.cells #[.int .i64 0] 3)) A B C P ca cb cc cp ns ps os p.length (n : Int)) w1.heap.size #[.int .i64 0] 3) := Lib.hid (Blk.alloc (Blk.alloc (Blk.alloc (Blk.new w1 _ _) _) _) _)
  have hw1 : Hid (w.heap.size ≤ w1.heap.size) := Lib.hid B1.out.size
  have BW : Hid (Below w.heap.size w (ofWorld (w1.alloc (.cells #[.int .i64 0] 3)) A B C P ca cb cc cp ns ps os p.length (n : Int))) := Lib.hid (((B3.out.alloc B3.out.size _).alloc (by have := hw1.out; simp; omega) _).alloc (by have := hw1.out; simp; omega) _)
  have KS := Lib.hid (of_at (8 - 1) (by omega) ca cb cc cp [w1.heap.size] A B C P ns ps os p n xo HX.out hpl.out w _ B3.out H.out HP.out (by simp))
  rw [show (w1.alloc (.cells #[.int .i64 0] 3)).heap.size = w1.heap.size + 1 from World.size_alloc _ _] at KS
  clear t0 t1 t2
  change Code.wpIn _ _ _ _ _ _ (ofWorld (w1.alloc (.cells #[.int .i64 0] 3)) A B C P ca cb cc cp ns ps os p.length (n : Int))
  have hW0 : Hid (w1.heap.size < (ofWorld (w1.alloc (.cells #[.int .i64 0] 3)) A B C P ca cb cc cp ns ps os p.length (n : Int)).heap.size) := Lib.hid Q0.out.lt
  generalize ofWorld (w1.alloc (.cells #[.int .i64 0] 3)) A B C P ca cb cc cp ns ps os p.length (n : Int) = W0 at Q0 BW KS hW0 ⊢
  refine wpIn_rangeFunc_ownG (α := OffNo p) rfl (by omega) (gf := 66) rfl trivial (enters_of Tryz.func66 (by kernel_rfl) rfl)
    KS.out keepU_t (keepU_b (by have := hw1.out; have := hW0.out; omega)) (Below.refl _ _) (fun _ => rfl)
    (fun pre W => Blk W w1.heap.size #[.int .i64 (pre.length : Int)] 3 ∧ Below w.heap.size w W)
    (fun _ _ _ => False)
    (OwnFrom.and (fun s X Y row hs hg hr => blk_nc hs hg (fun r e => (hr r e).2)) (ownFrom_below (Nat.le_refl _) (by have := hw1.out; have := hW0.out; omega)))
    (fun _ _ _ _ _ hs _ _ => hs)
    ⟨Q0.out, BW.out⟩
    (fun x => { tmps := #[snapV A B C ca cb cc ns ps os, Value.slice P p.length cp, Value.int IntKind.i64 n,
          Value.pointer (some { block := w.heap.size, off := 0 }), undef, undef, Value.int IntKind.i64 0,
          Value.pointer (some { block := w1.heap.size, off := 0 }),
          Value.agg #[Value.slice A ns.length ca, Value.slice B ps.length cb, Value.slice C os.length cc],
          Value.slice P p.length cp, Value.int IntKind.i64 n, Value.bool true, Value.bool false,
          Value.agg #[Value.slice A ns.length ca, Value.slice B ps.length cb, Value.slice C os.length cc],
          Value.slice P p.length cp, Value.int IntKind.i64 n,
          Value.func (Fn.func 66) #[]
            #[Value.pointer (some { block := w1.heap.size + 1, off := 0 }),
              Value.pointer (some { block := w1.heap.size + 1 + 1 + 1, off := 0 }),
              Value.pointer (some { block := w1.heap.size + 1 + 1, off := 0 })],
          .int .i64 (x.1 : Int), undef, undef, undef], defers := [] }) ?assign ?body ?done ?stop
  case assign =>
    intro l x W K hK
    gi_wp2
    simp
    exact hK
  case body =>
    rintro l pre ⟨m, hm⟩ W ⟨hQ, hB⟩ hlen
    have q0 : W.cell? ⟨w1.heap.size, 0, none⟩ = some (.int .i64 (pre.length : Int)) := Blk.cell hQ 0
    have q1 : W.frozen? ⟨w1.heap.size, 0, none⟩ = false := Blk.free hQ 0
    have hl : pre.length + 1 ≤ 9223372036854775807 := by
      have := hlp.out
      have := hpl.out
      omega
    have hwr : wrap64 ((pre.length : Int) + 1) = (pre.length : Int) + 1 := IntWalk.wrap64_in _ (by omega)
    have HQ := Lib.hid hQ
    have HB := Lib.hid hB
    have hlen2 := Lib.hid hlen
    clear hQ hB hlen hl
    gi_wp2
    refine ⟨(KeepsOthers.setCell _ _ _).from _, KeepU.set W (by simp) hw1.out 0 _, ?_, HB.out.setCell (p := ⟨w1.heap.size, 0, none⟩) hw1.out _⟩
    have := HQ.out.set 0 (.int .i64 ((pre.length : Int) + 1))
    rw [List.length_append]
    exact this
  case done =>
    rintro D ys W hD hys ⟨hQ, hB⟩ hK
    have q0 : W.cell? ⟨w1.heap.size, 0, none⟩ = some (.int .i64 (ys.length : Int)) := Blk.cell hQ 0
    have HB := Lib.hid hB
    have HK := Lib.hid hK
    have HD := Lib.hid hD
    have HY := Lib.hid hys
    clear hQ hB hK hD hys
    gi_wp2
    refine ⟨by simp, .inl ⟨_, _, rfl, run_takeDeferred HK.out, ?_⟩⟩
    refine ⟨_, results_tmp rfl _ _ _, ?_, HB.out.trans (belowK_b (w := w) (Nat.le_refl _) W D _ _ (by have := HD.out; have := hw1.out; have := hW0.out; omega) HK.out rfl rfl)⟩
    refine La.retI ?_
    rw [HE.out, ← HY.out, List.length_map]
  case stop =>
    rintro D c pre W _ _ h _
    exact h.elim
end Go.Proofs.YtfnigiiocapceaaGreat

namespace Go.Proofs.YtfnigiiocapceaaGreat
open Go.RowKit Go.Shelf
attribute [local go_sem] Oper.semAt_some

/-- How many of some pods are on each node. -/
def cntL (n : Nat) (p : List Int) (ys : List Nat) : List Int := ys.foldl (fun l y => match p[y]? with | some x => l.set x.toNat (l.getD x.toNat 0 + 1) | none => l) (List.replicate n 0)
theorem cntL_snoc (n : Nat) (p : List Int) (ys : List Nat) (m : Nat) (x : Int) (hx : p[m]? = some x) : cntL n p (ys ++ [m]) = (cntL n p ys).set x.toNat ((cntL n p ys).getD x.toNat 0 + 1) := by
  unfold cntL
  rw [List.foldl_append]
  simp [hx]
theorem cntL_len (n : Nat) (p : List Int) (ys : List Nat) : (cntL n p ys).length = n := by
  unfold cntL
  suffices h : ∀ (ys : List Nat) (l : List Int), (ys.foldl (fun l y => match p[y]? with | some x => l.set x.toNat (l.getD x.toNat 0 + 1) | none => l) l).length = l.length by
    rw [h]; simp
  intro ys
  induction ys with
  | nil => intro l; rfl
  | cons y t ih =>
    intro l
    rw [List.foldl_cons, ih]
    cases p[y]? <;> simp
theorem cntL_le (n : Nat) (p : List Int) (ys : List Nat) : ∀ j, 0 ≤ (cntL n p ys).getD j 0 ∧ (cntL n p ys).getD j 0 ≤ ys.length := by
  unfold cntL
  suffices h : ∀ (ys : List Nat) (l : List Int) (c : Nat), (∀ j, 0 ≤ l.getD j 0 ∧ l.getD j 0 ≤ c) → ∀ j, 0 ≤ (ys.foldl (fun l y => match p[y]? with | some x => l.set x.toNat (l.getD x.toNat 0 + 1) | none => l) l).getD j 0 ∧ (ys.foldl (fun l y => match p[y]? with | some x => l.set x.toNat (l.getD x.toNat 0 + 1) | none => l) l).getD j 0 ≤ (c + ys.length : Nat) by
    intro j
    have := h ys (List.replicate n 0) 0 (fun j => by
      rw [List.getD_eq_getElem?_getD, List.getElem?_replicate]
      split <;> simp) j
    simpa using this
  intro ys
  induction ys with
  | nil => intro l c hl j; simpa using hl j
  | cons y t ih =>
    intro l c hl j
    rw [List.foldl_cons]
    have := ih (match p[y]? with | some x => l.set x.toNat (l.getD x.toNat 0 + 1) | none => l) (c + 1) (fun j => by
      cases hy : p[y]? with
      | none =>
        have := hl j
        dsimp only
        omega
      | some x =>
        dsimp only
        have h1 := hl j
        have h2 := hl x.toNat
        rw [List.getD_eq_getElem?_getD (l := l.set _ _), List.getElem?_set]
        by_cases hj : x.toNat = j
        · rw [if_pos hj]
          split
          · simp only [Option.getD_some]
            omega
          · simp
            omega
        · rw [if_neg hj, ← List.getD_eq_getElem?_getD]
          omega) j
    rw [List.length_cons]
    have e : c + 1 + t.length = c + (t.length + 1) := by omega
    rw [e] at this
    exact this
/-- What Counts tells. -/
def countsF (ns : List NodeD) (ps : List PodD) (os : List OwnD) (p : List Int) (k : Int) : List Int := if ownerB ns ps os p k then cntL ns.length p (ofF ps os p k) else []

theorem int_infoK : (Tryz.prog.info? 3).map (fun i => (i.zero, i.size, i.bytes)) = some (some (.int .i64 0), 1, 8) := by kernel_rfl
theorem run_ints (w : World) (n : Nat) (hn : n ≤ 1000000) : (Instr.makeSlice 27 (.int .i64 (n : Int)) (.int .i64 (n : Int))).run Tryz.prog w = .ok (.slice (some ⟨w.heap.size, 0, none⟩) n n) (w.alloc (.cells (madeCells #[.int .i64 0] n) 3)) := by
  cases hi : Tryz.prog.info? 3 with
  | none => have h := int_infoK; rw [hi] at h; cases h
  | some i =>
    have h := int_infoK
    rw [hi] at h
    simp only [Option.map_some, Option.some.injEq, Prod.mk.injEq] at h
    obtain ⟨h0, h1, h2⟩ := h
    have k := run_make (P := Tryz.prog) w 27 3 i (.int .i64 0) Tryz.underlying27 hi h0 .i64 .i64 n n (by omega) (by omega) (by rw [h2]; omega) (by omega)
    simpa [h1, Value.cells] using k
theorem own_made (w : World) (n base : Nat) (hn : n ≤ 1000000) (hb : base ≤ w.heap.size) : (w.alloc (.cells (madeCells #[.int .i64 0] n) 3)).ownsRow base 3 1 (.slice (some ⟨w.heap.size, 0, none⟩) n n) n (intsC (List.replicate n 0)) := by
  refine ⟨by simp [intsC], .inr ⟨w.heap.size, n, madeCells #[.int .i64 0] n, rfl, hb, heap_alloc_new _ _, Nat.le_refl _, by unfold maxLen; omega, by rw [size_madeCells, Nat.mul_one], ?_⟩⟩
  rw [toList_madeCells_one, Nat.mul_one, List.take_of_length_le (by simp)]
  simp [intsC]
theorem own_nc {w w' : World} {base : Nat} {e : TypeId} {size n : Nat} {v : Value} {xs : List Value} {row : Option Nat} (h : w.ownsRow base e size v n xs) (hg : w.grownBy w' row) (hr : ∀ r, row = some r → ∃ o : Obj, w.heap[r]? = some o ∧ o.isCells = false) : w'.ownsRow base e size v n xs := by
  refine h.kept hg ?_
  rcases h.2 with ⟨rfl, _⟩ | ⟨g, cap, cur, rfl, _, hgb, _⟩
  · exact .inl rfl
  · refine .inr fun e' => ?_
    obtain ⟨o, ho, hc⟩ := hr g e'.symm
    rw [hgb] at ho
    cases ho
    cases hc
/-- A pod of a placement that may be, that does not wait, is on a node that is not lost. -/
theorem placeE_on {ns : List NodeD} {ps : List PodD} {os : List OwnD} {p : List Int} (hE : placeE ns ps os p = 0) {k : Nat} {x : Int} (hk : p[k]? = some x) (hx : x ≠ -1) : tpB ns x = true := by
  have hl := placeE_len hE
  unfold placeE at hE
  split at hE
  · split at hE
    · rename_i hall
      rw [List.all_eq_true] at hall
      have := hall x (List.mem_of_getElem? hk)
      unfold okB at this
      rw [decide_eq_false hx, Bool.false_or] at this
      exact this
    · cases hE
  · rename_i hne
    exact absurd hE hne
theorem tpB_lt {ns : List NodeD} {x : Int} (h : tpB ns x = true) : ∃ n : Nat, x = (n : Int) ∧ n < ns.length := by
  unfold tpB at h
  simp only [Bool.and_eq_true, decide_eq_true_eq] at h
  refine ⟨x.toNat, by omega, ?_⟩
  cases hq : ns[x.toNat]? with
  | none => rw [hq] at h; simp at h
  | some y => exact (List.getElem?_eq_some_iff.1 hq).1

set_option maxRecDepth 100000 in
set_option maxHeartbeats 2000000 in
theorem counts_any (A B C P : Option Addr) (ca cb cc cp : Nat) (ns : List NodeD) (ps : List PodD) (os : List OwnD) (p : List Int) (ko : Int) (w : World) (h : SnapAt w A B C ca cb cc ns ps os) (hp : IntsAt w P cp p) :
    Calls Tryz.prog 16 #[snapV A B C ca cb cc ns ps os, .slice P p.length cp, .int .i64 ko] w fun e w' => ∃ v, e = .returned v ∧ w'.ownsRow w.heap.size 3 1 v (countsF ns ps os p ko).length (intsC (countsF ns ps os p ko)) ∧ Below w.heap.size w w' := by
  have hlp := Lib.hid h.lp
  have hln := h.ln
  have H := Lib.hid h
  have HP := Lib.hid hp
  have B0 : Hid (Below w.heap.size w ((w.alloc (.cells (snapC A B C ca cb cc ns ps os) 26)).alloc (.cells #[.slice P p.length cp] 27))) := Lib.hid (Qu.below2 w _ _)
  have S0 : Hid (Blk ((w.alloc (.cells (snapC A B C ca cb cc ns ps os) 26)).alloc (.cells #[.slice P p.length cp] 27)) w.heap.size (snapC A B C ca cb cc ns ps os) 26) := Lib.hid (Blk.alloc (Blk.new w _ _) _)
  have T0 : Hid (Blk ((w.alloc (.cells (snapC A B C ca cb cc ns ps os) 26)).alloc (.cells #[.slice P p.length cp] 27)) (w.heap.size + 1) #[.slice P p.length cp] 27) := Lib.hid (blk2 w _ _ _)
  have KC := Lib.hid ((callsIn_wide (n := 7)).2 (isOwner_any A B C P ca cb cc cp ns ps os p ko _ (h.below B0.out) (hp.below B0.out)))
  have hl0 := Blk.lt T0.out
  have E : Hid (countsF ns ps os p ko = if ownerB ns ps os p ko then cntL ns.length p (ofF ps os p ko) else []) := Lib.hid rfl
  have HOB := Lib.hid (fun h => @ownerB_parts ns ps os p ko h)
  generalize countsF ns ps os p ko = R at E ⊢
  generalize ownerB ns ps os p ko = ob at KC E HOB
  clear h hp
  refine (callsIn_wide (n := 8)).1 ?_
  refine callsIn_of_wp_marks Tryz.func16 rfl trivial ?_ rfl
  simp only [Tryz.ntmps16, List.size_toArray, List.length_cons, List.length_nil, Nat.reduceAdd, Nat.reduceSub, Array.replicate_succ, Array.replicate_zero, List.push_toArray, List.append_toArray, List.nil_append, List.cons_append]
  gi_wp2_with fail
  refine ⟨trivial, ?_⟩
  refine (KC.out).mono ?_
  rintro e w1 ⟨rfl, hb⟩
  clear KC
  have S1 := Lib.hid (S0.out.below hb (by omega))
  have T1 := Lib.hid (T0.out.below hb (by omega))
  have B1 := Lib.hid (B0.out.trans (hb.mono (by omega)))
  have hl1 : Hid (w.heap.size + 1 < w1.heap.size) := Lib.hid T1.out.lt
  clear hb S0 T0 B0 hl0
  cases ob
  · have HE : Hid (R = []) := Lib.hid (by rw [E.out]; rfl)
    gi_wp2
    refine ⟨_, results_tmp rfl _ _ _, ?_⟩
    rw [HE.out]
    exact ⟨_, rfl, World.ownsRow_nil _ _ _ _, B1.out⟩
  obtain ⟨hE0, n, xo, rfl, hxo⟩ := HOB.out rfl
  have hpl := Lib.hid (placeE_len hE0)
  have HON := Lib.hid (fun (k : Nat) (x : Int) (hk : p[k]? = some x) (hx : x ≠ -1) => tpB_lt (placeE_on hE0 hk hx))
  have HX := Lib.hid hxo
  clear HOB hE0 hxo
  have HE : Hid (R = cntL ns.length p (offL p (membersF ps xo.name))) := Lib.hid (by rw [E.out, if_pos rfl]; unfold ofF; rw [Int.toNat_natCast, HX.out])
  clear E
  have hmk := run_ints w1 ns.length (by omega)
  have s0 : w1.cell? ⟨w.heap.size, 0, none⟩ = some (.slice A ns.length ca) := Blk.cell S1.out 0
  -- the row, its box
  have O3 := Lib.hid ((own_made w1 ns.length w.heap.size (by omega) B1.out.size).alloc (.cells #[.slice (some ⟨w1.heap.size, 0, none⟩) ns.length ns.length] 27))
  have Q3 := Lib.hid (blk2 w1 (.cells (madeCells #[.int .i64 0] ns.length) 3) #[.slice (some ⟨w1.heap.size, 0, none⟩) ns.length ns.length] 27)
  have S3 := Lib.hid (Blk.alloc (Blk.alloc S1.out (.cells (madeCells #[.int .i64 0] ns.length) 3)) (.cells #[.slice (some ⟨w1.heap.size, 0, none⟩) ns.length ns.length] 27))
  have T3 := Lib.hid (Blk.alloc (Blk.alloc T1.out (.cells (madeCells #[.int .i64 0] ns.length) 3)) (.cells #[.slice (some ⟨w1.heap.size, 0, none⟩) ns.length ns.length] 27))
  have B3 := Lib.hid ((B1.out.alloc B1.out.size (.cells (madeCells #[.int .i64 0] ns.length) 3)).alloc (by have := B1.out.size; simp; omega) (.cells #[.slice (some ⟨w1.heap.size, 0, none⟩) ns.length ns.length] 27))
  have t0 := Blk.cell S3.out 0
  have t1 := Blk.cell S3.out 1
  have t2 := Blk.cell S3.out 2
  have u0 := Blk.cell T3.out 0
  gi_wp2_with fail
  refine ⟨trivial, ?_⟩
  refine (of_any _ A B C P ca cb cc cp ns ps os p.length (n : Int) _).mono ?_
  rintro e w3 ⟨rfl, rfl⟩
  gi_wp2_with fail
  have KS := Lib.hid (of_at (8 - 1) (by omega) ca cb cc cp [w1.heap.size] A B C P ns ps os p n xo HX.out hpl.out w _ B3.out H.out HP.out (by simp; omega))
  have hsz : ((w1.alloc (.cells (madeCells #[.int .i64 0] ns.length) 3)).alloc (.cells #[.slice (some ⟨w1.heap.size, 0, none⟩) ns.length ns.length] 27)).heap.size = w1.heap.size + 1 + 1 := by simp
  rw [hsz] at KS
  clear t0 t1 t2 u0 s0 hmk
  generalize ((w1.alloc (.cells (madeCells #[.int .i64 0] ns.length) 3)).alloc (.cells #[.slice (some ⟨w1.heap.size, 0, none⟩) ns.length ns.length] 27)) = W3 at O3 Q3 S3 T3 B3 KS hsz ⊢
  change Code.wpIn _ _ _ _ _ _ (ofWorld W3 A B C P ca cb cc cp ns ps os p.length (n : Int))
  have O4 : Hid ((ofWorld W3 A B C P ca cb cc cp ns ps os p.length (n : Int)).ownsRow w.heap.size 3 1 (.slice (some ⟨w1.heap.size, 0, none⟩) ns.length ns.length) ns.length (intsC (List.replicate ns.length 0))) := Lib.hid (((O3.out.alloc _).alloc _).alloc _)
  have Q4 : Hid (Blk (ofWorld W3 A B C P ca cb cc cp ns ps os p.length (n : Int)) (w1.heap.size + 1) #[.slice (some ⟨w1.heap.size, 0, none⟩) ns.length ns.length] 27) := Lib.hid (Blk.alloc (Blk.alloc (Blk.alloc Q3.out _) _) _)
  have T4 : Hid (Blk (ofWorld W3 A B C P ca cb cc cp ns ps os p.length (n : Int)) (w.heap.size + 1) #[.slice P p.length cp] 27) := Lib.hid (Blk.alloc (Blk.alloc (Blk.alloc T3.out _) _) _)
  have hsz4 : Hid ((ofWorld W3 A B C P ca cb cc cp ns ps os p.length (n : Int)).heap.size = w1.heap.size + 5) := Lib.hid (by simp [ofWorld, hsz])
  have BW : Hid (Below w.heap.size w (ofWorld W3 A B C P ca cb cc cp ns ps os p.length (n : Int))) := Lib.hid (((B3.out.alloc B3.out.size _).alloc (by have := B3.out.size; simp; omega) _).alloc (by have := B3.out.size; simp; omega) _)
  generalize ofWorld W3 A B C P ca cb cc cp ns ps os p.length (n : Int) = W0 at O4 Q4 T4 BW KS hsz4 ⊢
  obtain ⟨G, hG⟩ : ∃ G, w1.heap.size = G := ⟨_, rfl⟩
  obtain ⟨Tb, hT⟩ : ∃ Tb, w.heap.size + 1 = Tb := ⟨_, rfl⟩
  rw [hG] at O4 Q4 KS hsz4 hl1 ⊢
  rw [hT] at T4 hl1 ⊢
  obtain ⟨Q, hQ⟩ : ∃ Q, G + 1 = Q := ⟨_, rfl⟩
  rw [hQ] at Q4 KS ⊢
  have hN : Hid (w.heap.size < Tb ∧ Tb < G ∧ Q = G + 1) := Lib.hid ⟨by omega, hl1.out, hQ.symm⟩
  clear hG hT hQ S1 T1 B1 O3 Q3 S3 T3 B3 hsz hl1
  refine wpIn_rangeFunc_ownG (α := OffNo p) rfl (by omega) (gf := 66) rfl trivial (enters_of Tryz.func66 (by kernel_rfl) rfl)
    KS.out keepU_t (keepU_b (by have := hN.out; have := hsz4.out; omega)) (Below.refl _ _) (fun _ => rfl)
    (fun pre W => (W.ownsRow w.heap.size 3 1 (.slice (some ⟨G, 0, none⟩) ns.length ns.length) ns.length (intsC (cntL ns.length p (pre.map (·.1)))) ∧ Blk W Q #[.slice (some ⟨G, 0, none⟩) ns.length ns.length] 27 ∧ Blk W Tb #[.slice P p.length cp] 27) ∧ Below w.heap.size w W)
    (fun _ _ _ => False)
    (OwnFrom.and (fun s X Y row hs hg hr => ⟨own_nc hs.1 hg (fun r e => (hr r e).2), blk_nc hs.2.1 hg (fun r e => (hr r e).2), blk_nc hs.2.2 hg (fun r e => (hr r e).2)⟩) (ownFrom_below (Nat.le_refl _) (by have := hN.out; have := hsz4.out; omega)))
    (fun _ _ _ _ _ hs _ _ => hs)
    ⟨⟨O4.out, Q4.out, T4.out⟩, BW.out⟩
    (fun x => { tmps := #[snapV A B C ca cb cc ns ps os, Value.slice P p.length cp, Value.int IntKind.i64 n,
          Value.pointer (some { block := w.heap.size, off := 0 }),
          Value.pointer (some { block := Tb, off := 0 }), undef, Value.slice none 0 0,
          Value.pointer (some { block := Q, off := 0 }), .int .i64 (x.1 : Int),
          Value.agg #[Value.slice A ns.length ca, Value.slice B ps.length cb, Value.slice C os.length cc],
          Value.slice P p.length cp, Value.int IntKind.i64 n, Value.bool true, Value.bool false,
          Value.pointer (some { block := w.heap.size, off := 0 }), Value.slice A ns.length ca,
          Value.int IntKind.i64 ns.length, Value.slice (some { block := G, off := 0 }) ns.length ns.length,
          Value.agg #[Value.slice A ns.length ca, Value.slice B ps.length cb, Value.slice C os.length cc],
          Value.slice P p.length cp, Value.int IntKind.i64 n,
          Value.func (Fn.func 66) #[]
            #[Value.pointer (some { block := Q + 1, off := 0 }),
              Value.pointer (some { block := Q + 1 + 1 + 1, off := 0 }),
              Value.pointer (some { block := Q + 1 + 1, off := 0 })],
          .int .i64 (x.1 : Int), undef, undef, undef, undef, undef, undef, undef, undef, undef, undef], defers := [] }) ?assign ?body ?done ?stop
  case assign =>
    intro l x W K hK
    gi_wp2
    exact hK
  case body =>
    rintro l pre ⟨m, hm⟩ W ⟨⟨hO, hQb, hTb⟩, hB⟩ hlen
    obtain ⟨xv, hx, hne⟩ := id hm
    obtain ⟨q, rfl, hq⟩ := HON.out m xv hx hne
    obtain ⟨b, o, hA, hbl, hc⟩ := atI (HP.out.below hB).cells hx
    subst hA
    have hml : m < p.length := (List.getElem?_eq_some_iff.1 hx).1
    have hcl := cntL_len ns.length p (pre.map (·.1))
    obtain ⟨c, hcc⟩ : ∃ c, (cntL ns.length p (pre.map (·.1)))[q]? = some c := ⟨_, List.getElem?_eq_getElem (by omega)⟩
    obtain ⟨g', cur, hA', _, hgb, hgc⟩ := own_blk hO (k := q) (y := .int .i64 c) (by unfold intsC; rw [List.getElem?_map, hcc]; rfl)
    cases hA'
    have hle := cntL_le ns.length p (pre.map (·.1)) q
    rw [List.getD_eq_getElem?_getD, hcc] at hle
    simp only [Option.getD_some, List.length_map] at hle
    have q0 : W.cell? ⟨Q, 0, none⟩ = some (.slice (some ⟨G, 0, none⟩) ns.length ns.length) := Blk.cell hQb 0
    have p0 : W.cell? ⟨Tb, 0, none⟩ = some (.slice (some ⟨b, o, none⟩) p.length cp) := Blk.cell hTb 0
    have g0 : W.cell? ⟨G, q, none⟩ = some (.int .i64 c) := (Blk.cell hgb q).trans hgc
    have g1 : W.frozen? ⟨G, q, none⟩ = false := Blk.free hgb q
    have m0 : (0 : Int) ≤ (m : Int) := by omega
    have m1 : (m : Int) < (p.length : Int) := by omega
    have k0 : (0 : Int) ≤ (q : Int) := by omega
    have k1 : (q : Int) < (ns.length : Int) := by omega
    have hwr : wrap64 (c + 1) = c + 1 := IntWalk.wrap64_in _ (by
      have := hlp.out
      have := hpl.out
      omega)
    have hwi : IntKind.i64.wrap (c + 1) = c + 1 := (IntWalk.i64_left _).trans hwr
    have HQ := Lib.hid hQb
    have HT := Lib.hid hTb
    have HO := Lib.hid hO
    have HB := Lib.hid hB
    have HXX := Lib.hid hx
    have HCC := Lib.hid hcc
    clear hO hQb hTb hB hle hlen hx hcc hml hq hgb hgc hcl
    have hmx : Tryz.prog.follows .mixedOrders = true := by kernel_rfl
    gi_wp2
    gi_region_with_o fail
    all_goals gi_wp2
    all_goals
      refine ⟨((KeepsOthers.setCell _ _ _).trans (KeepsOthers.drew _)).from _, ?_, ⟨?_, ?_, ?_⟩, ?_⟩
      · exact (KeepU.set W (by simp) (by have := hN.out; omega) q _).trans ⟨(Below.refl _ _).drew, fun _ _ _ _ h => h⟩
      · have h1 := own_put HO.out q (.int .i64 (c + 1))
        rw [ints_set] at h1
        rw [List.map_append]
        show World.ownsRow _ _ _ _ _ _ (intsC (cntL ns.length p (pre.map (·.1) ++ [m])))
        rw [cntL_snoc _ _ _ _ _ HXX.out, Int.toNat_natCast, List.getD_eq_getElem?_getD, HCC.out]
        exact h1
      · exact Blk.oth HQ.out (by have := hN.out; omega) q _
      · exact Blk.oth HT.out (by have := hN.out; omega) q _
      · exact (HB.out.setCell (p := ⟨G, q, none⟩) (by have := hN.out; omega) _).drew
  case done =>
    rintro D ys W hD hys ⟨⟨hO, hQb, hTb⟩, hB⟩ hK
    have q0 : W.cell? ⟨Q, 0, none⟩ = some (.slice (some ⟨G, 0, none⟩) ns.length ns.length) := Blk.cell hQb 0
    have HO := Lib.hid hO
    have HB := Lib.hid hB
    have HK := Lib.hid hK
    have HD := Lib.hid hD
    have HY := Lib.hid hys
    clear hO hQb hTb hB hK hD hys
    gi_wp2
    refine ⟨by simp, .inl ⟨_, _, rfl, run_takeDeferred HK.out, ?_⟩⟩
    refine ⟨_, results_tmp rfl _ _ _, _, rfl, ?_, HB.out.trans (belowK_b (w := w) (Nat.le_refl _) W D _ _ (by have := HD.out; have := hN.out; have := hsz4.out; omega) HK.out rfl rfl)⟩
    rw [HE.out, cntL_len, ← HY.out]
    exact ownsRow_putObj HO.out _ HK.out rfl
  case stop =>
    rintro D c pre W _ _ h _
    exact h.elim
end Go.Proofs.YtfnigiiocapceaaGreat
