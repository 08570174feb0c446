/- How many pods of an owner do not wait: the contract of Placed. Condition: the cluster and the numbers lie in memory. Of each node how many of an owner's pods are on it: the contract of Counts. Condition: the cluster and the numbers lie in memory. The sorted keys of a map: the library's contracts, at this program. No conditions but what they say. The domains of a key: the contracts of emptyDomains and of Domains. Condition: the cluster lies in memory. The domains of a key, sorted: the contract of Domains. Condition: the cluster lies in memory. Of each domain how many of an owner's pods are in it: the contract of Spread. Condition: the cluster and the numbers lie in memory. Two lists of texts held against each other. Condition: they lie in memory. The chapter's examples hold. No conditions. What may not be, is refused; both ends: the walk of the closed law. No conditions. An argument that is a cluster, opened: what stands in memory. No conditions of its own. Clusters of whatever size: those that are too great are refused. Contracts of Check, and of a placement's. Condition: the cluster lies in memory. What compares two nodes, or two pods, where one fits best: contracts. Condition: both have a place in the row. Numbers of any length copied and held against each other; may a placement be, as the document says it. Contracts. Condition: the arguments lie in memory. A cluster of which the first 12 nodes, 30 pods, 12 owners are looked at. Condition: it lies in memory. What Bring answers: a number brought between 0 and another one, as the rest of the division is. Condition: that one is above 0. A placement that may be, made out of numbers: the contract of fitted. Condition: the cluster and the numbers lie in memory. Steps there and back, and the moves between two placements, taken one after another: numbers only. Conditions: the placements may be. What the nodes' pods ask for, added up, is what the pods that run ask for; what is counted on the nodes is what runs: numbers only. Conditions: each pod is on one of the nodes or waits. -/
import Derived.Test.YtmmokiaipfalmaaGreatA04
import Derived.Laws.OwnMore
import Derived.Test.YtmmokiaipfalmaaGreatShelfIter
import Derived.Maps.OwnIn
import Derived.Maps.Views
import Derived.Deep.Slices
import Derived.Handy
import Derived.Laws.AppendOwnNone
import Derived.StillTailTactics

namespace Go.Proofs.YtmmokiaipfalmaaGreat
open Go.RowKit Go.Shelf
attribute [local go_sem] Oper.semAt_some

/-- The pods of an owner that do not wait. -/
def ofF (ps : List PodD) (os : List OwnD) (p : List Int) (k : Int) : List Nat := match os[k.toNat]? with
  | some x => offL p (membersF ps x.name)
  | none => []
/-- What Placed tells. -/
def placedF (ns : List NodeD) (ps : List PodD) (os : List OwnD) (p : List Int) (k : Int) : Int := if ownerB ns ps os p k then ((ofF ps os p k).length : Int) else 0
theorem ownerB_parts {ns : List NodeD} {ps : List PodD} {os : List OwnD} {p : List Int} {k : Int} (h : ownerB ns ps os p k = true) : placeE ns ps os p = 0 ∧ ∃ (n : Nat) (x : OwnD), k = (n : Int) ∧ os[n]? = some x := by
  unfold ownerB at h
  simp only [Bool.and_eq_true, decide_eq_true_eq] at h
  obtain ⟨h1, h2, h3⟩ := h
  have hn : k.toNat < os.length := by omega
  exact ⟨h1, k.toNat, os[k.toNat], by omega, List.getElem?_eq_getElem hn⟩
set_option maxRecDepth 100000 in
set_option maxHeartbeats 2000000 in
theorem placed_any (A B C P : Option Addr) (ca cb cc cp : Nat) (ns : List NodeD) (ps : List PodD) (os : List OwnD) (p : List Int) (ko : Int) (w : World) (h : SnapAt w A B C ca cb cc ns ps os) (hp : IntsAt w P cp p) :
    Calls Tryz.prog 360 #[snapV A B C ca cb cc ns ps os, .slice P p.length cp, .int .i64 ko] w fun e w' => e = .returned (.int .i64 (placedF ns ps os p ko)) ∧ Below w.heap.size w w' := by
  have hlp := Lib.hid h.lp
  have H := Lib.hid h
  have HP := Lib.hid hp
  have B0 : Hid (Below w.heap.size w (w.alloc (.cells (snapC A B C ca cb cc ns ps os) 26))) := Lib.hid (below1 w _)
  have S0 : Hid (Blk (w.alloc (.cells (snapC A B C ca cb cc ns ps os) 26)) w.heap.size (snapC A B C ca cb cc ns ps os) 26) := Lib.hid (Blk.new w _ _)
  have KC := Lib.hid ((callsIn_wide (n := 7)).2 (isOwner_any A B C P ca cb cc cp ns ps os p ko _ (h.below B0.out) (hp.below B0.out)))
  have hl0 := Blk.lt S0.out
  have E : Hid (placedF ns ps os p ko = if ownerB ns ps os p ko then ((ofF ps os p ko).length : Int) else 0) := Lib.hid rfl
  have HOB := Lib.hid (fun h => @ownerB_parts ns ps os p ko h)
  generalize placedF ns ps os p ko = R at E ⊢
  generalize ownerB ns ps os p ko = ob at KC E HOB
  clear h hp
  refine (callsIn_wide (n := 8)).1 ?_
  refine callsIn_of_wp_marks Tryz.func360 rfl trivial ?_ rfl
  simp only [Tryz.ntmps360, List.size_toArray, List.length_cons, List.length_nil, Nat.reduceAdd, Nat.reduceSub, Array.replicate_succ, Array.replicate_zero, List.push_toArray, List.append_toArray, List.nil_append, List.cons_append]
  gi_wp2_with fail
  refine ⟨trivial, ?_⟩
  refine (KC.out).mono ?_
  rintro e w1 ⟨rfl, hb⟩
  clear KC
  have S1 := Lib.hid (S0.out.below hb (by omega))
  have B1 := Lib.hid (B0.out.trans (hb.mono (by omega)))
  clear hb S0 B0 hl0
  have s0 : w1.cell? ⟨w.heap.size, 0, none⟩ = some (.slice A ns.length ca) := Blk.cell S1.out 0
  have s1 : w1.cell? ⟨w.heap.size, 1, none⟩ = some (.slice B ps.length cb) := Blk.cell S1.out 1
  have s2 : w1.cell? ⟨w.heap.size, 2, none⟩ = some (.slice C os.length cc) := Blk.cell S1.out 2
  cases ob
  · have HE : Hid (R = 0) := Lib.hid (by rw [E.out]; rfl)
    gi_wp2
    refine ⟨_, results_tmp rfl _ _ _, ?_, B1.out⟩
    exact La.retI HE.out.symm
  obtain ⟨hE0, n, xo, rfl, hxo⟩ := HOB.out rfl
  have hpl := Lib.hid (placeE_len hE0)
  have HX := Lib.hid hxo
  clear HOB hE0 hxo
  have HE : Hid (R = ((offL p (membersF ps xo.name)).length : Int)) := Lib.hid (by rw [E.out, if_pos rfl]; unfold ofF; rw [Int.toNat_natCast, HX.out])
  clear E s0 s1 s2
  have Z1 := Lib.hid (Blk.alloc S1.out (.cells #[.int .i64 0] 3))
  have B3 := Lib.hid (B1.out.alloc B1.out.size (.cells #[.int .i64 0] 3))
  have t0 : (w1.alloc (.cells #[.int .i64 0] 3)).cell? ⟨w.heap.size, 0, none⟩ = some (.slice A ns.length ca) := Blk.cell Z1.out 0
  have t1 : (w1.alloc (.cells #[.int .i64 0] 3)).cell? ⟨w.heap.size, 1, none⟩ = some (.slice B ps.length cb) := Blk.cell Z1.out 1
  have t2 : (w1.alloc (.cells #[.int .i64 0] 3)).cell? ⟨w.heap.size, 2, none⟩ = some (.slice C os.length cc) := Blk.cell Z1.out 2
  gi_wp2_with fail
  refine ⟨trivial, ?_⟩
  refine (of_any _ A B C P ca cb cc cp ns ps os p.length (n : Int) _).mono ?_
  rintro e w3 ⟨rfl, rfl⟩
  gi_wp2_with fail
  have Q0 : Hid (Blk (ofWorld (w1.alloc (.cells #[.int .i64 0] 3)) A B C P ca cb cc cp ns ps os p.length (n : Int)) w1.heap.size #[.int .i64 0] 3) := Lib.hid (Blk.alloc (Blk.alloc (Blk.alloc (Blk.new w1 _ _) _) _) _)
  have hw1 : Hid (w.heap.size ≤ w1.heap.size) := Lib.hid B1.out.size
  have BW : Hid (Below w.heap.size w (ofWorld (w1.alloc (.cells #[.int .i64 0] 3)) A B C P ca cb cc cp ns ps os p.length (n : Int))) := Lib.hid (((B3.out.alloc B3.out.size _).alloc (by have := hw1.out; simp; omega) _).alloc (by have := hw1.out; simp; omega) _)
  have KS := Lib.hid (of_at (8 - 1) (by omega) ca cb cc cp [w1.heap.size] A B C P ns ps os p n xo HX.out hpl.out w _ B3.out H.out HP.out (by simp))
  rw [show (w1.alloc (.cells #[.int .i64 0] 3)).heap.size = w1.heap.size + 1 from World.size_alloc _ _] at KS
  clear t0 t1 t2
  change Code.wpIn _ _ _ _ _ _ (ofWorld (w1.alloc (.cells #[.int .i64 0] 3)) A B C P ca cb cc cp ns ps os p.length (n : Int))
  have hW0 : Hid (w1.heap.size < (ofWorld (w1.alloc (.cells #[.int .i64 0] 3)) A B C P ca cb cc cp ns ps os p.length (n : Int)).heap.size) := Lib.hid Q0.out.lt
  generalize ofWorld (w1.alloc (.cells #[.int .i64 0] 3)) A B C P ca cb cc cp ns ps os p.length (n : Int) = W0 at Q0 BW KS hW0 ⊢
  refine wpIn_rangeFunc_ownG (α := OffNo p) rfl (by omega) (gf := 364) rfl trivial (enters_of Tryz.func364 (by kernel_rfl) rfl)
    KS.out keepU_t (keepU_b (by have := hw1.out; have := hW0.out; omega)) (Below.refl _ _) (fun _ => rfl)
    (fun pre W => Blk W w1.heap.size #[.int .i64 (pre.length : Int)] 3 ∧ Below w.heap.size w W)
    (fun _ _ _ => False)
    (OwnFrom.and (fun s X Y row hs hg hr => blk_nc hs hg (fun r e => (hr r e).2)) (ownFrom_below (Nat.le_refl _) (by have := hw1.out; have := hW0.out; omega)))
    (fun _ _ _ _ _ hs _ _ => hs)
    ⟨Q0.out, BW.out⟩
    (fun x => { tmps := #[snapV A B C ca cb cc ns ps os, Value.slice P p.length cp, Value.int IntKind.i64 n,
          Value.pointer (some { block := w.heap.size, off := 0 }), undef, undef, Value.int IntKind.i64 0,
          Value.pointer (some { block := w1.heap.size, off := 0 }),
          Value.agg #[Value.slice A ns.length ca, Value.slice B ps.length cb, Value.slice C os.length cc],
          Value.slice P p.length cp, Value.int IntKind.i64 n, Value.bool true, Value.bool false,
          Value.agg #[Value.slice A ns.length ca, Value.slice B ps.length cb, Value.slice C os.length cc],
          Value.slice P p.length cp, Value.int IntKind.i64 n,
          Value.func (Fn.func 364) #[]
            #[Value.pointer (some { block := w1.heap.size + 1, off := 0 }),
              Value.pointer (some { block := w1.heap.size + 1 + 1 + 1, off := 0 }),
              Value.pointer (some { block := w1.heap.size + 1 + 1, off := 0 })],
          .int .i64 (x.1 : Int), undef, undef, undef], defers := [] }) ?assign ?body ?done ?stop
  case assign =>
    intro l x W K hK
    gi_wp2
    simp
    exact hK
  case body =>
    rintro l pre ⟨m, hm⟩ W ⟨hQ, hB⟩ hlen
    have q0 : W.cell? ⟨w1.heap.size, 0, none⟩ = some (.int .i64 (pre.length : Int)) := Blk.cell hQ 0
    have q1 : W.frozen? ⟨w1.heap.size, 0, none⟩ = false := Blk.free hQ 0
    have hl : pre.length + 1 ≤ 9223372036854775807 := by
      have := hlp.out
      have := hpl.out
      omega
    have hwr : wrap64 ((pre.length : Int) + 1) = (pre.length : Int) + 1 := IntWalk.wrap64_in _ (by omega)
    have HQ := Lib.hid hQ
    have HB := Lib.hid hB
    have hlen2 := Lib.hid hlen
    clear hQ hB hlen hl
    gi_wp2
    refine ⟨(KeepsOthers.setCell _ _ _).from _, KeepU.set W (by simp) hw1.out 0 _, ?_, HB.out.setCell (p := ⟨w1.heap.size, 0, none⟩) hw1.out _⟩
    have := HQ.out.set 0 (.int .i64 ((pre.length : Int) + 1))
    rw [List.length_append]
    exact this
  case done =>
    rintro D ys W hD hys ⟨hQ, hB⟩ hK
    have q0 : W.cell? ⟨w1.heap.size, 0, none⟩ = some (.int .i64 (ys.length : Int)) := Blk.cell hQ 0
    have HB := Lib.hid hB
    have HK := Lib.hid hK
    have HD := Lib.hid hD
    have HY := Lib.hid hys
    clear hQ hB hK hD hys
    gi_wp2
    refine ⟨by simp, .inl ⟨_, _, rfl, run_takeDeferred HK.out, ?_⟩⟩
    refine ⟨_, results_tmp rfl _ _ _, ?_, HB.out.trans (belowK_b (w := w) (Nat.le_refl _) W D _ _ (by have := HD.out; have := hw1.out; have := hW0.out; omega) HK.out rfl rfl)⟩
    refine La.retI ?_
    rw [HE.out, ← HY.out, List.length_map]
  case stop =>
    rintro D c pre W _ _ h _
    exact h.elim
end Go.Proofs.YtmmokiaipfalmaaGreat

namespace Go.Proofs.YtmmokiaipfalmaaGreat
open Go.RowKit Go.Shelf
attribute [local go_sem] Oper.semAt_some

/-- How many of some pods are on each node. -/
def cntL (n : Nat) (p : List Int) (ys : List Nat) : List Int := ys.foldl (fun l y => match p[y]? with | some x => l.set x.toNat (l.getD x.toNat 0 + 1) | none => l) (List.replicate n 0)
/-- What Counts tells. -/
def countsF (ns : List NodeD) (ps : List PodD) (os : List OwnD) (p : List Int) (k : Int) : List Int := if ownerB ns ps os p k then cntL ns.length p (ofF ps os p k) else []

theorem int_infoK : (Tryz.prog.info? 3).map (fun i => (i.zero, i.size, i.bytes)) = some (some (.int .i64 0), 1, 8) := by kernel_rfl
theorem own_nc {w w' : World} {base : Nat} {e : TypeId} {size n : Nat} {v : Value} {xs : List Value} {row : Option Nat} (h : w.ownsRow base e size v n xs) (hg : w.grownBy w' row) (hr : ∀ r, row = some r → ∃ o : Obj, w.heap[r]? = some o ∧ o.isCells = false) : w'.ownsRow base e size v n xs := by
  refine h.kept hg ?_
  rcases h.2 with ⟨rfl, _⟩ | ⟨g, cap, cur, rfl, _, hgb, _⟩
  · exact .inl rfl
  · refine .inr fun e' => ?_
    obtain ⟨o, ho, hc⟩ := hr g e'.symm
    rw [hgb] at ho
    cases ho
    cases hc
/-- A pod of a placement that may be, that does not wait, is on a node that is not lost. -/
theorem placeE_on {ns : List NodeD} {ps : List PodD} {os : List OwnD} {p : List Int} (hE : placeE ns ps os p = 0) {k : Nat} {x : Int} (hk : p[k]? = some x) (hx : x ≠ -1) : tpB ns x = true := by
  have hl := placeE_len hE
  unfold placeE at hE
  split at hE
  · split at hE
    · rename_i hall
      rw [List.all_eq_true] at hall
      have := hall x (List.mem_of_getElem? hk)
      unfold okB at this
      rw [decide_eq_false hx, Bool.false_or] at this
      exact this
    · cases hE
  · rename_i hne
    exact absurd hE hne
theorem tpB_lt {ns : List NodeD} {x : Int} (h : tpB ns x = true) : ∃ n : Nat, x = (n : Int) ∧ n < ns.length := by
  unfold tpB at h
  simp only [Bool.and_eq_true, decide_eq_true_eq] at h
  refine ⟨x.toNat, by omega, ?_⟩
  cases hq : ns[x.toNat]? with
  | none => rw [hq] at h; simp at h
  | some y => exact (List.getElem?_eq_some_iff.1 hq).1

end Go.Proofs.YtmmokiaipfalmaaGreat

namespace Go.Proofs.YtmmokiaipfalmaaGreat
open Go.RowKit Go.Maps Go.Sort Go.Shelf

theorem sorts_in (m : Nat) : AnyZ.SortsIn Tryz.prog Tryz.sorted325_ren Fence.wide m :=
  ⟨fun blk off cap ss W hH hblk hsz => callsIn_wide.2 (AnyM.slices_Sort_string Tryz.sort368 blk off cap ss W hH hblk hsz),
   fun p cap W => callsIn_wide.2 (AnyM.slices_Sort_string_none Tryz.sort368 p cap W)⟩

theorem mapsKeys_in (mb : Option Nat) (W : World) : CallsIn Fence.wide 5 Tryz.prog 326 #[.map mb] W fun e w' => e = .returned (.func (.func 369) #[] #[.pointer (some ⟨W.heap.size, 0, none⟩)]) ∧ w' = W.alloc (.cells #[.map mb] 314) :=
  AnyZ.keys_in Tryz.keys326 Fence.wide 5 trivial rfl mb W

set_option maxHeartbeats 1000000 in
theorem sortedKeys_in {H : Type} (b nn : Nat) (D0 : DataW H) (R : Value → Option (DataW H × List MemPlace)) (w : World) (hown : w.ownsMap Tryz.prog 9 R b nn D0) (hmax : Maps.size D0 ≤ maxLen) (hbytes : Maps.size D0 * 16 ≤ 140737488355328) :
    CallsIn Fence.wide 5 Tryz.prog 325 #[.func (.func 369) #[] #[.pointer (some ⟨w.heap.size, 0, none⟩)]] (w.alloc (.cells #[.map (some b)] 314)) fun e w' => ∃ (v : Value) (ss : List (List UInt8)), e = .returned v ∧ ss.Perm (strKeys D0) ∧
      w'.ownsRow (w.alloc (.cells #[.map (some b)] 314)).heap.size 9 1 v ss.length ((ss.mergeSort (fun x y => decide (x ≤ y))).map encStr) ∧ (v = .slice none 0 0 ↔ ss = []) ∧ Below (w.alloc (.cells #[.map (some b)] 314)).heap.size (w.alloc (.cells #[.map (some b)] 314)) w' := by
  have hbl := hown.lt
  have hseq : SeqGives Fence.wide 2 Tryz.prog 369 #[.pointer (some ⟨w.heap.size, 0, none⟩)] encStr (fun ss => ss.Perm (strKeys D0)) (Maps.size D0) (w.alloc (.cells #[.map (some b)] 314)) :=
    AnyZ.keys_gives (ρ := Tryz.keys326_ren) { Tryz.keys326 with } Fence.wide _ trivial rfl (by omega) w.heap.size b nn D0 _ (by simp) (by simp) (by
      obtain ⟨es, clock, hb, Ft, hs, hD⟩ := hown
      exact ⟨es, clock, (Below.heap_alloc _ _ b hbl).trans hb, Ft, hs, hD⟩)
  exact AnyZ.sorted_in Tryz.sorted325 Fence.wide 5 trivial trivial trivial trivial rfl (by omega) (sorts_in _) (enters_of Tryz.func368 (by kernel_rfl) rfl) 369 #[.pointer (some ⟨w.heap.size, 0, none⟩)] trivial (enters_of Tryz.func369 (by kernel_rfl) rfl) _ _ hmax hbytes _ hseq

end Go.Proofs.YtmmokiaipfalmaaGreat

namespace Go.Proofs.YtmmokiaipfalmaaGreat
open Go.RowKit Go.Maps

theorem span15 (ok : Nat → Nat → Bool) : ∀ (t : List UInt8) (a : Nat), a ≤ 15 → La.spanF ok t a ≤ 15
  | [], a, h => h
  | b :: t, a, h => by
    rw [La.spanF]
    split
    · exact h
    · rename_i hn
      exact span15 ok t (a + 1) (by
        have : ¬ a = 15 := fun e => hn (.inl e)
        omega)
theorem chkK_all {α : Type} {mb : α → Bool} {ri : α → α → Bool} {l : List α} (h : La.chkA mb ri l = 0) : ∀ x ∈ l, mb x = true := by
  intro x hx
  obtain ⟨k, hk⟩ := List.mem_iff_getElem?.1 hx
  have hlt := (List.getElem?_eq_some_iff.1 hk).1
  unfold La.chkA at h
  split at h
  · cases h
  · rename_i hn
    cases hm : mb x with
    | true => rfl
    | false =>
      exfalso
      have h1 : La.chkK mb ri l (k + 1) = false := by
        rw [La.chkK, hk]
        dsimp only
        rw [La.okAt_no hm, Bool.and_false]
      exact hn (.inr (La.chkK_false h1 (by omega)))
/-- The labels of a cluster that may be have short values. -/
theorem short_of {ns : List NodeD} {ps : List PodD} {os : List OwnD} (h : checkS ns ps os = 0) : Short ns := by
  intro x hx y hy
  unfold checkS at h
  split at h
  · rename_i hc
    unfold clusB at hc
    simp only [Bool.and_eq_true, List.all_eq_true] at hc
    have h1 := hc.1.1.2 x hx
    unfold nodeB at h1
    simp only [Bool.and_eq_true, beq_iff_eq] at h1
    have h2 := chkK_all h1.1.2 y hy
    unfold La.labB at h2
    simp only [Bool.and_eq_true] at h2
    have h3 := h2.2
    unfold La.valueB at h3
    simp only [Bool.and_eq_true, decide_eq_true_eq] at h3
    have := span15 La.okVal y.2 0 (by omega)
    omega
  · cases h

/-- The map of the domains that the first k nodes have for a key: each has a 0. -/
def domsU (ns : List NodeD) (key : List UInt8) : Nat → DataW Unit
  | 0 => .map []
  | k + 1 => match domF ns (k : Int) key with
    | some v => (domsU ns key k).put (.string v) (.lit (.int .i64 0))
    | none => domsU ns key k
def emptyD (ns : List NodeD) (key : List UInt8) : DataW Unit := domsU ns key ns.length
theorem domF_short {ns : List NodeD} {key v : List UInt8} {k : Int} (hs : Short ns) (h : domF ns k key = some v) : v.length ≤ 281474976710656 := by
  unfold domF at h
  split at h
  · split at h
    · rename_i x hx
      cases hf : x.labels.find? (fun y => decide (y.1 = key)) with
      | none => rw [hf] at h; cases h
      | some y =>
        rw [hf] at h
        cases h
        exact hs x (List.mem_of_getElem? hx) y (List.mem_of_find?_eq_some hf)
    · cases h
  · cases h
theorem ownsMap_below {P : Program} {k : TypeId} {R : Value → Option (DataW Unit × List MemPlace)} {w w' : World} {b n : Nat} {D : DataW Unit} (h : w.ownsMap P k R b n D) (hb : Below w.heap.size w w') : w'.ownsMap P k R b n D := h.kept (grown_of_below hb none) (by simp)

set_option maxRecDepth 100000 in
set_option maxHeartbeats 2000000 in
theorem empty_any (A B C : Option Addr) (ca cb cc : Nat) (ns : List NodeD) (ps : List PodD) (os : List OwnD) (key : List UInt8) (w : World) (h : SnapAt w A B C ca cb cc ns ps os) (hsh : Short ns) :
    Calls Tryz.prog 322 #[snapV A B C ca cb cc ns ps os, strV key] w fun e w' => e = .returned (.map (some (w.heap.size + 1))) ∧ w'.ownsMap Tryz.prog 9 (plainElem Tryz.prog 3) (w.heap.size + 1) ns.length (emptyD ns key) ∧ Below w.heap.size w w' := by
  have hln := h.ln
  have H := Lib.hid h
  have S0 : Hid (Blk (w.alloc (.cells (snapC A B C ca cb cc ns ps os) 26)) w.heap.size (snapC A B C ca cb cc ns ps os) 26) := Lib.hid (Blk.new w _ _)
  have S1 := Lib.hid (Blk.alloc S0.out (.map #[] 0))
  have B1 : Hid (Below w.heap.size w ((w.alloc (.cells (snapC A B C ca cb cc ns ps os) 26)).alloc (.map #[] 0))) := Lib.hid (Qu.below2 w _ _)
  have hmm := @run_makeMap Tryz.prog
  have hm0 := World.ownsMap_made (H := Unit) (w.alloc (.cells (snapC A B C ca cb cc ns ps os) 26)) Tryz.prog 9 (plainElem Tryz.prog 3)
  rw [World.size_alloc] at hm0
  have M1 := Lib.hid hm0
  have KD := Lib.hid (fun (k : Int) w1 (hb : Below w.heap.size w w1) => domainOf_any A B C ca cb cc ps.length os.length ns k key w1 (h.below hb).n hsh)
  have HSH := Lib.hid hsh
  have s0 := Blk.cell S1.out 0
  clear h hm0 hsh
  go_enter Tryz.func322, Tryz.ntmps322
  go_wp2_with fail
  clear hmm
  generalize hW1 : ((w.alloc (.cells (snapC A B C ca cb cc ns ps os) 26)).alloc (.map #[] 0)) = W1 at S1 B1 M1 s0 ⊢
  clear hW1 s0 S0
  obtain ⟨Mb, hMb⟩ : ∃ Mb, w.heap.size + 1 = Mb := ⟨_, rfl⟩
  rw [hMb] at M1 ⊢
  have HMb := Lib.hid hMb
  clear hMb
  go_loopw [13] (fun i wr => ∃ k : Nat, k ≤ ns.length ∧ i = .int .i64 k ∧ wr.ownsMap Tryz.prog 9 (plainElem Tryz.prog 3) Mb k (domsU ns key k) ∧ Below w.heap.size w wr ∧ Blk wr w.heap.size (snapC A B C ca cb cc ns ps os) 26) (fun i _ => ns.length - (intOf i).toNat)
  case atStart => exact ⟨0, by omega, rfl, M1.out, B1.out, S1.out⟩
  case round =>
    clear M1 B1 S1
    obtain ⟨k, hk, rfl, hown, hbw, hsk⟩ := hrel
    have HM := Lib.hid hown
    have HB := Lib.hid hbw
    have HS := Lib.hid hsk
    clear hown hbw hsk
    have s0 : wr.cell? ⟨w.heap.size, 0, none⟩ = some (.slice A ns.length ca) := Blk.cell HS.out 0
    have s1 : wr.cell? ⟨w.heap.size, 1, none⟩ = some (.slice B ps.length cb) := Blk.cell HS.out 1
    have s2 : wr.cell? ⟨w.heap.size, 2, none⟩ = some (.slice C os.length cc) := Blk.cell HS.out 2
    by_cases hlt : k < ns.length
    · have K1 := Lib.hid (KD.out (k : Int) wr HB.out)
      have E : Hid (domsU ns key (k + 1) = match domF ns (k : Int) key with
        | some v => (domsU ns key k).put (.string v) (.lit (.int .i64 0))
        | none => domsU ns key k) := Lib.hid rfl
      have HV := Lib.hid (fun v (hv : domF ns (k : Int) key = some v) => domF_short HSH.out hv)
      generalize domF ns (k : Int) key = dv at K1 E HV
      have k1 : (k : Int) < (ns.length : Int) := by omega
      go_wp2_with fail
      refine (K1.out).mono ?_
      rintro e w2 ⟨rfl, hb⟩
      have M2 := Lib.hid (ownsMap_below HM.out hb)
      have S2 := Lib.hid (HS.out.below hb HS.out.lt)
      have B2 := Lib.hid (HB.out.trans (hb.mono HB.out.size))
      clear hb K1 s0 s1 s2
      cases dv with
      | none =>
        go_wp2
        go_roundw
        case rel => exact ⟨k + 1, by omega, by go_num, by rw [E.out]; exact M2.out.mono (by omega), B2.out, S2.out⟩
        case measure => simp [intOf]; omega
      | some v =>
        have hvl : ((⟨v.toArray⟩ : ByteArray).size) ≤ maxLen := by
          have := HV.out v rfl
          rw [size_of]
          unfold maxLen
          omega
        have hkey := WideMaps.keyOf_string_mk (P := Tryz.prog) Tryz.underlying9 hvl
        have hown := M2.out
        have hkm : k < maxLen := by unfold maxLen; omega
        go_wp2_with (at_mapUpdate; refine wpList_mapUpdate_own _ rfl _ _ _ 314 rfl 9 3 (Maps.string_keyed Tryz.underlying9) Tryz.underlying314 _ Mb k _ rfl hown hkm _ _ _ rfl rfl hkey _ [] (plainElem_int Tryz.underlying3 (by decide)) ?_)
        intro w3 hown3 hgrow3
        have M3 := Lib.hid hown3
        have hMlt : w.heap.size < Mb := by have := HMb.out; omega
        have B3 := Lib.hid (B2.out.grown hgrow3 B2.out.size (fun j e => by cases e; omega))
        have S3 := Lib.hid (S2.out.kept hgrow3 (fun e => by cases e; omega))
        clear hown hown3 hgrow3 hkey hvl hkm
        go_wp2
        go_roundw
        case rel => exact ⟨k + 1, by omega, by go_num, by rw [E.out]; exact M3.out, B3.out, S3.out⟩
        case measure => simp [intOf]; omega
    · obtain rfl : k = ns.length := by omega
      go_wp2
      go_ret
      rw [HMb.out]
      exact ⟨rfl, HM.out, HB.out⟩
end Go.Proofs.YtmmokiaipfalmaaGreat

namespace Go.Proofs.YtmmokiaipfalmaaGreat
open Go.RowKit Go.Maps Go.Sort

/-- The keys of a map, sorted. -/
def sortK (D : DataW Unit) : List (List UInt8) := (strKeys D).mergeSort leB
theorem own_sorted {w : World} {base : Nat} {v : Value} {D : DataW Unit} {ss : List (List UInt8)} (hp : ss.Perm (strKeys D)) (h : w.ownsRow base 9 1 v ss.length ((ss.mergeSort (fun x y => decide (x ≤ y))).map encStr)) :
    w.ownsRow base 9 1 v (sortK D).length ((sortK D).map encStr) := by
  have e : ss.mergeSort (fun x y => decide (x ≤ y)) = sortK D := mergeSort_of_perm hp
  rw [e] at h
  have hl : ss.length = (sortK D).length := by rw [← e, List.length_mergeSort]
  rw [hl] at h
  exact h

end Go.Proofs.YtmmokiaipfalmaaGreat

namespace Go.Proofs.YtmmokiaipfalmaaGreat
open Go.RowKit Go.Shelf Go.Maps Go.Sort
attribute [local go_sem] Oper.semAt_some

/-- The number that a datum is. -/
def numD (D : DataW Unit) : Int := match D with
  | .lit (.int _ c) => c
  | _ => 0
/-- One more at a key. -/
def bumpD (D : DataW Unit) (v : List UInt8) : DataW Unit := D.put (.string v) (.lit (.int .i64 (wrap64 (numD (D.atKey (.string v) (.lit (.int .i64 0))) + 1))))
/-- One pod more. -/
def spreadS (ns : List NodeD) (key : List UInt8) (p : List Int) (D : DataW Unit) (y : Nat) : DataW Unit := match p[y]? with
  | some x => match domF ns x key with
    | some v => bumpD D v
    | none => D
  | none => D
def spreadD (ns : List NodeD) (key : List UInt8) (p : List Int) (ys : List Nat) : DataW Unit := ys.foldl (spreadS ns key p) (emptyD ns key)
theorem spreadD_snoc (ns : List NodeD) (key : List UInt8) (p : List Int) (ys : List Nat) (m : Nat) (x : Int) (hx : p[m]? = some x) : spreadD ns key p (ys ++ [m]) = match domF ns x key with
    | some v => bumpD (spreadD ns key p ys) v
    | none => spreadD ns key p ys := by
  unfold spreadD
  rw [List.foldl_append]
  show spreadS ns key p _ m = _
  unfold spreadS
  rw [hx]
/-- The numbers of a map at its keys, sorted. -/
def rowD (D : DataW Unit) : List Int := (sortK D).map fun v => numD (D.atKey (.string v) (.lit (.int .i64 0)))
/-- What Spread tells. -/
def spreadF (ns : List NodeD) (ps : List PodD) (os : List OwnD) (p : List Int) (k : Int) : List Int := if ownerB ns ps os p k then (match os[k.toNat]? with
  | some x => rowD (spreadD ns x.topo p (offL p (membersF ps x.name)))
  | none => []) else []

theorem own_other {w w' : World} {base : Nat} {e : TypeId} {sz n : Nat} {v : Value} {xs : List Value} (ho : w.ownsRow base e sz v n xs) (hg : w.grownBy w' v.ownBlock) {j : Nat} {o : Obj} (hj : w.heap[j]? = some o) (hne : ∀ cs, o ≠ .cells cs e (0, 0)) : w'.heap[j]? = some o := by
  refine (hg.block j (Array.getElem?_eq_some_iff.1 hj).1 ?_).trans hj
  rcases ho.2 with ⟨rfl, _⟩ | ⟨g, cap, cur, rfl, _, hgb, _⟩
  · intro e'; cases e'
  · intro e'
    simp only [Value.ownBlock, Option.some.injEq] at e'
    subst e'
    rw [hgb] at hj
    cases hj
    exact hne cur rfl
theorem own_below2 {w w' : World} {base : Nat} {e : TypeId} {size n : Nat} {v : Value} {xs : List Value} (h : w.ownsRow base e size v n xs) (hb : RowKit.Below w.heap.size w w') : w'.ownsRow base e size v n xs := own_nc h (grown_of_below hb none) (fun r e => by cases e)
theorem own_ownsMap {w w' : World} {base : Nat} {e : TypeId} {sz n : Nat} {v : Value} {xs : List Value} (ho : w.ownsRow base e sz v n xs) (hg : w.grownBy w' v.ownBlock) {P : Program} {k : TypeId} {R : Value → Option (DataW Unit × List MemPlace)} {b m : Nat} {D : DataW Unit} (h : w.ownsMap P k R b m D) : w'.ownsMap P k R b m D := by
  obtain ⟨es, clock, hb, F, hs, hD⟩ := h
  exact ⟨es, clock, own_other ho hg hb (fun cs e' => by cases e'), F, hs, hD⟩
theorem own_own {w w' : World} {base base' : Nat} {e e' : TypeId} {sz n sz' n' : Nat} {v v' : Value} {xs xs' : List Value} (ho : w.ownsRow base e sz v n xs) (hg : w.grownBy w' v.ownBlock) (hne : e' ≠ e) (h : w.ownsRow base' e' sz' v' n' xs') : w'.ownsRow base' e' sz' v' n' xs' := by
  obtain ⟨hl, h1 | ⟨g, cap, cur, hv, hb, hg', r⟩⟩ := h
  · exact ⟨hl, .inl h1⟩
  · exact ⟨hl, .inr ⟨g, cap, cur, hv, hb, own_other ho hg hg' (fun cs q => by cases q; exact hne rfl), r⟩⟩
theorem run_ints0 (w : World) (n : Nat) (hn : n ≤ 1000000) : (Instr.makeSlice 27 (.int .i64 0) (.int .i64 (n : Int))).run Tryz.prog w = .ok (.slice (some ⟨w.heap.size, 0, none⟩) 0 n) (w.alloc (.cells (madeCells #[.int .i64 0] n) 3)) := by
  cases hi : Tryz.prog.info? 3 with
  | none => have h := int_infoK; rw [hi] at h; cases h
  | some i =>
    have h := int_infoK
    rw [hi] at h
    simp only [Option.map_some, Option.some.injEq, Prod.mk.injEq] at h
    obtain ⟨h0, h1, h2⟩ := h
    have k := run_make (P := Tryz.prog) w 27 3 i (.int .i64 0) Tryz.underlying27 hi h0 .i64 .i64 0 n (by omega) (by omega) (by rw [h2]; omega) (by omega)
    simpa [h1, Value.cells] using k
theorem own_made0 (w : World) (n base : Nat) (hn : n ≤ 1000000) (hb : base ≤ w.heap.size) : (w.alloc (.cells (madeCells #[.int .i64 0] n) 3)).ownsRow base 3 1 (.slice (some ⟨w.heap.size, 0, none⟩) 0 n) 0 [] :=
  ⟨rfl, .inr ⟨w.heap.size, n, madeCells #[.int .i64 0] n, rfl, hb, heap_alloc_new _ _, Nat.zero_le _, by unfold maxLen; omega, by rw [size_madeCells, Nat.mul_one], by simp⟩⟩
theorem keepsFrom_below {B : Nat} {W W' : World} (h : Below W.heap.size W W') : KeepsFrom B W W' := ⟨h.size, fun k _ _ hk _ => (h.block k (Array.getElem?_eq_some_iff.1 hk).1).trans hk⟩
theorem numD_lit {q : IntKind} {c : Int} {D : DataW Unit} (h : D = .lit (.int q c)) : numD D = c := by rw [h]; rfl

set_option maxRecDepth 100000 in
set_option maxHeartbeats 4000000 in
theorem spread_any (A B C P : Option Addr) (ca cb cc cp : Nat) (ns : List NodeD) (ps : List PodD) (os : List OwnD) (p : List Int) (ko : Int) (w : World) (h : SnapAt w A B C ca cb cc ns ps os) (hp : IntsAt w P cp p) :
    Calls Tryz.prog 250 #[snapV A B C ca cb cc ns ps os, .slice P p.length cp, .int .i64 ko] w fun e w' => ∃ v, e = .returned v ∧ w'.ownsRow w.heap.size 3 1 v (spreadF ns ps os p ko).length (intsC (spreadF ns ps os p ko)) ∧ Below w.heap.size w w' := by
  have hlp := Lib.hid h.lp
  have hln := Lib.hid h.ln
  have H := Lib.hid h
  have HP := Lib.hid hp
  have B0 : Hid (Below w.heap.size w ((w.alloc (.cells (snapC A B C ca cb cc ns ps os) 26)).alloc (.cells #[.slice P p.length cp] 27))) := Lib.hid (Qu.below2 w _ _)
  have S0 : Hid (Blk ((w.alloc (.cells (snapC A B C ca cb cc ns ps os) 26)).alloc (.cells #[.slice P p.length cp] 27)) w.heap.size (snapC A B C ca cb cc ns ps os) 26) := Lib.hid (Blk.alloc (Blk.new w _ _) _)
  have T0 : Hid (Blk ((w.alloc (.cells (snapC A B C ca cb cc ns ps os) 26)).alloc (.cells #[.slice P p.length cp] 27)) (w.heap.size + 1) #[.slice P p.length cp] 27) := Lib.hid (blk2 w _ _ _)
  have KC := Lib.hid ((callsIn_wide (n := 7)).2 (isOwner_any A B C P ca cb cc cp ns ps os p ko _ (h.below B0.out) (hp.below B0.out)))
  have hl0 := Blk.lt T0.out
  have E : Hid (spreadF ns ps os p ko = if ownerB ns ps os p ko then (match os[ko.toNat]? with
    | some x => rowD (spreadD ns x.topo p (offL p (membersF ps x.name)))
    | none => []) else []) := Lib.hid rfl
  have HOB := Lib.hid (fun h => @ownerB_parts ns ps os p ko h)
  generalize spreadF ns ps os p ko = R at E ⊢
  generalize ownerB ns ps os p ko = ob at KC E HOB
  clear h hp
  refine (callsIn_wide (n := 8)).1 ?_
  refine callsIn_of_wp_marks Tryz.func250 rfl trivial ?_ rfl
  simp only [Tryz.ntmps250, List.size_toArray, List.length_cons, List.length_nil, Nat.reduceAdd, Nat.reduceSub, Array.replicate_succ, Array.replicate_zero, List.push_toArray, List.append_toArray, List.nil_append, List.cons_append]
  gi_wp2_with fail
  refine ⟨trivial, ?_⟩
  refine (KC.out).mono ?_
  rintro e w1 ⟨rfl, hb⟩
  clear KC
  have S1 := Lib.hid (S0.out.below hb (by omega))
  have T1 := Lib.hid (T0.out.below hb (by omega))
  have B1 := Lib.hid (B0.out.trans (hb.mono (by omega)))
  have hl1 : Hid (w.heap.size + 1 < w1.heap.size) := Lib.hid T1.out.lt
  clear hb S0 T0 B0 hl0
  cases ob
  · have HE : Hid (R = []) := Lib.hid (by rw [E.out]; rfl)
    gi_wp2
    refine ⟨_, results_tmp rfl _ _ _, ?_⟩
    rw [HE.out]
    exact ⟨_, rfl, World.ownsRow_nil _ _ _ _, B1.out⟩
  obtain ⟨hE0, n, xo, rfl, hxo⟩ := HOB.out rfl
  have hpl := Lib.hid (placeE_len hE0)
  have HSH : Hid (Short ns) := Lib.hid (by
    refine short_of (ps := ps) (os := os) ?_
    unfold placeE at hE0
    split at hE0
    · assumption
    · rename_i hne
      exact absurd hE0 hne)
  have HX := Lib.hid hxo
  clear HOB hE0
  have HE : Hid (R = rowD (spreadD ns xo.topo p (offL p (membersF ps xo.name)))) := Lib.hid (by rw [E.out, if_pos rfl, Int.toNat_natCast, HX.out])
  clear E
  have hno : n < os.length := (List.getElem?_eq_some_iff.1 hxo).1
  have n0 : (0 : Int) ≤ (n : Int) := by omega
  have n1 : (n : Int) < (os.length : Int) := by omega
  obtain ⟨bo, oo, hC, hbo, d0, d1, d2, d3, d4⟩ := atO (H.out.below B1.out).o hxo
  subst hC
  have s2 : w1.cell? ⟨w.heap.size, 2, none⟩ = some (.slice (some ⟨bo, oo, none⟩) os.length cc) := Blk.cell S1.out 2
  -- the key
  have S2 := Lib.hid (Blk.alloc S1.out (.cells #[strV xo.topo] 9))
  have T2 := Lib.hid (Blk.alloc T1.out (.cells #[strV xo.topo] 9))
  have K2 := Lib.hid (Blk.new w1 #[strV xo.topo] 9)
  have B2 := Lib.hid (B1.out.alloc B1.out.size (.cells #[strV xo.topo] 9))
  have KE := Lib.hid ((callsIn_wide (n := 7)).2 (empty_any A B (some ⟨bo, oo, none⟩) ca cb cc ns ps os xo.topo _ (H.out.below B2.out) HSH.out))
  have t0 := Blk.cell S2.out 0
  have t1 := Blk.cell S2.out 1
  have t2 := Blk.cell S2.out 2
  clear hxo d0 d1 d3 d4 hno
  gi_wp2_with fail
  refine ⟨trivial, ?_⟩
  refine (KE.out).mono ?_
  rintro e w2 ⟨rfl, hown, hb⟩
  have hlk := K2.out.lt
  have S3 := Lib.hid (Blk.alloc (S2.out.below hb S2.out.lt) (.cells #[.map (some ((w1.alloc (.cells #[strV xo.topo] 9)).heap.size + 1))] 314))
  have T3 := Lib.hid (Blk.alloc (T2.out.below hb T2.out.lt) (.cells #[.map (some ((w1.alloc (.cells #[strV xo.topo] 9)).heap.size + 1))] 314))
  have K3 := Lib.hid (Blk.alloc (K2.out.below hb hlk) (.cells #[.map (some ((w1.alloc (.cells #[strV xo.topo] 9)).heap.size + 1))] 314))
  have M3 := Lib.hid (hown.alloc (.cells #[.map (some ((w1.alloc (.cells #[strV xo.topo] 9)).heap.size + 1))] 314))
  have Q3 := Lib.hid (Blk.new w2 #[.map (some ((w1.alloc (.cells #[strV xo.topo] 9)).heap.size + 1))] 314)
  have hb2 := B2.out.trans (hb.mono B2.out.size)
  have B3 := Lib.hid (hb2.alloc hb2.size (.cells #[.map (some ((w1.alloc (.cells #[strV xo.topo] 9)).heap.size + 1))] 314))
  have hM2 : Hid ((w1.alloc (.cells #[strV xo.topo] 9)).heap.size + 1 < w2.heap.size) := Lib.hid hown.lt
  clear hb hb2 hown KE t0 t1 t2 s2 d2 hlk S2 T2 K2 B2
  rw [World.size_alloc] at S3 T3 K3 M3 Q3 B3 hM2
  have t0 := Blk.cell S3.out 0
  have t1 := Blk.cell S3.out 1
  have t2 := Blk.cell S3.out 2
  have u0 := Blk.cell T3.out 0
  rw [World.size_alloc]
  gi_wp2_with fail
  refine ⟨trivial, ?_⟩
  refine (of_any _ A B (some ⟨bo, oo, none⟩) P ca cb cc cp ns ps os p.length (n : Int) _).mono ?_
  rintro e w3 ⟨rfl, rfl⟩
  gi_wp2_with fail
  have hsz3 : (w2.alloc (.cells #[.map (some (w1.heap.size + 1 + 1))] 314)).heap.size = w2.heap.size + 1 := by simp
  have KS := Lib.hid (of_at (8 - 1) (by omega) ca cb cc cp [] A B (some ⟨bo, oo, none⟩) P ns ps os p n xo HX.out hpl.out w _ B3.out H.out HP.out (by simp))
  rw [hsz3] at KS
  clear t0 t1 t2 u0
  generalize (w2.alloc (.cells #[.map (some (w1.heap.size + 1 + 1))] 314)) = W3 at S3 T3 K3 M3 Q3 B3 KS hsz3 ⊢
  change Code.wpIn _ _ _ _ _ _ (ofWorld W3 A B (some ⟨bo, oo, none⟩) P ca cb cc cp ns ps os p.length (n : Int))
  have S4 : Hid (Blk (ofWorld W3 A B (some ⟨bo, oo, none⟩) P ca cb cc cp ns ps os p.length (n : Int)) w.heap.size (snapC A B (some ⟨bo, oo, none⟩) ca cb cc ns ps os) 26) := Lib.hid (Blk.alloc (Blk.alloc (Blk.alloc S3.out _) _) _)
  have T4 : Hid (Blk (ofWorld W3 A B (some ⟨bo, oo, none⟩) P ca cb cc cp ns ps os p.length (n : Int)) (w.heap.size + 1) #[.slice P p.length cp] 27) := Lib.hid (Blk.alloc (Blk.alloc (Blk.alloc T3.out _) _) _)
  have K4 : Hid (Blk (ofWorld W3 A B (some ⟨bo, oo, none⟩) P ca cb cc cp ns ps os p.length (n : Int)) w1.heap.size #[strV xo.topo] 9) := Lib.hid (Blk.alloc (Blk.alloc (Blk.alloc K3.out _) _) _)
  have Q4 : Hid (Blk (ofWorld W3 A B (some ⟨bo, oo, none⟩) P ca cb cc cp ns ps os p.length (n : Int)) w2.heap.size #[.map (some (w1.heap.size + 1 + 1))] 314) := Lib.hid (Blk.alloc (Blk.alloc (Blk.alloc Q3.out _) _) _)
  have M4 : Hid ((ofWorld W3 A B (some ⟨bo, oo, none⟩) P ca cb cc cp ns ps os p.length (n : Int)).ownsMap Tryz.prog 9 (plainElem Tryz.prog 3) (w1.heap.size + 1 + 1) ns.length (emptyD ns xo.topo)) := Lib.hid (((M3.out.alloc _).alloc _).alloc _)
  have hsz4 : Hid ((ofWorld W3 A B (some ⟨bo, oo, none⟩) P ca cb cc cp ns ps os p.length (n : Int)).heap.size = w2.heap.size + 4) := Lib.hid (by simp [ofWorld, hsz3])
  have BW : Hid (Below w.heap.size w (ofWorld W3 A B (some ⟨bo, oo, none⟩) P ca cb cc cp ns ps os p.length (n : Int))) := Lib.hid (((B3.out.alloc B3.out.size _).alloc (by have := B3.out.size; simp; omega) _).alloc (by have := B3.out.size; simp; omega) _)
  generalize ofWorld W3 A B (some ⟨bo, oo, none⟩) P ca cb cc cp ns ps os p.length (n : Int) = W0 at S4 T4 K4 Q4 M4 BW KS hsz4 ⊢
  obtain ⟨Mb, hMb⟩ : ∃ Mb, w1.heap.size + 1 + 1 = Mb := ⟨_, rfl⟩
  obtain ⟨Tb, hT⟩ : ∃ Tb, w.heap.size + 1 = Tb := ⟨_, rfl⟩
  rw [hMb] at Q4 M4 hM2 ⊢
  rw [hT] at T4 hl1 ⊢
  have hMb2 : Hid (w1.heap.size < Mb) := Lib.hid (by omega)
  obtain ⟨Kb, hKb⟩ : ∃ Kb, w1.heap.size = Kb := ⟨_, rfl⟩
  obtain ⟨Cb, hCb⟩ : ∃ Cb, w2.heap.size = Cb := ⟨_, rfl⟩
  rw [hKb] at K4 hl1 hMb2 ⊢
  rw [hCb] at Q4 hM2 KS hsz4 ⊢
  have hN : Hid (w.heap.size < Tb ∧ Tb < Kb ∧ Kb < Mb ∧ Mb < Cb) := Lib.hid ⟨by omega, hl1.out, hMb2.out, hM2.out⟩
  clear hMb hT hKb hCb hMb2 hM2 hl1 S1 T1 B1 S3 T3 K3 M3 Q3 B3 hsz3 n0 n1
  refine wpIn_rangeFunc_ownG (α := OffNo p) rfl (by omega) (gf := 364) rfl trivial (enters_of Tryz.func364 (by kernel_rfl) rfl)
    KS.out keepU_t (keepU_b (by have := hN.out; have := hsz4.out; omega)) (Below.refl _ _) (fun _ => rfl)
    (fun (pre : List (OffNo p)) W => (Blk W w.heap.size (snapC A B (some ⟨bo, oo, none⟩) ca cb cc ns ps os) 26 ∧ Blk W Tb #[.slice P p.length cp] 27 ∧ Blk W Kb #[strV xo.topo] 9 ∧ Blk W Cb #[.map (some Mb)] 314 ∧ World.ownsMap (H := Unit) W Tryz.prog 9 (plainElem (H := Unit) Tryz.prog 3) Mb (ns.length + pre.length) (spreadD ns xo.topo p (pre.map (fun x => x.1)))) ∧ Below w.heap.size w W)
    (fun _ _ _ => False)
    (OwnFrom.and (fun s X Y row hs hg hr => ⟨blk_nc hs.1 hg (fun r e => (hr r e).2), blk_nc hs.2.1 hg (fun r e => (hr r e).2), blk_nc hs.2.2.1 hg (fun r e => (hr r e).2), blk_nc hs.2.2.2.1 hg (fun r e => (hr r e).2), World.ownsMap.kept (H := Unit) hs.2.2.2.2 hg (fun e => by have := (hr _ e.symm).1; have := hN.out; have := hsz4.out; omega)⟩) (ownFrom_below (Nat.le_refl _) (by have := hN.out; have := hsz4.out; omega)))
    (fun _ _ _ _ _ hs _ _ => hs)
    ⟨⟨S4.out, T4.out, K4.out, Q4.out, M4.out⟩, BW.out⟩
    (fun x => { tmps := #[snapV A B (some { block := bo, off := oo }) ca cb cc ns ps os, Value.slice P p.length cp,
          Value.int IntKind.i64 n, Value.pointer (some { block := w.heap.size, off := 0 }),
          Value.pointer (some { block := Tb, off := 0 }), undef, Value.slice none 0 0,
          Value.pointer (some { block := Kb, off := 0 }),
          Value.pointer (some { block := Cb, off := 0 }), .int .i64 (x.1 : Int), undef, undef, undef, undef, undef,
          Value.agg
            #[Value.slice A ns.length ca, Value.slice B ps.length cb,
              Value.slice (some { block := bo, off := oo }) os.length cc],
          Value.slice P p.length cp, Value.int IntKind.i64 n, Value.bool true, Value.bool false,
          Value.pointer (some { block := w.heap.size, off := 2 }),
          Value.slice (some { block := bo, off := oo }) os.length cc, Value.int IntKind.i64 n,
          Value.pointer (some { block := bo, off := oo + n * 5 }),
          Value.pointer (some { block := bo, off := oo + n * 5 + 2 }), strV xo.topo,
          Value.agg
            #[Value.slice A ns.length ca, Value.slice B ps.length cb,
              Value.slice (some { block := bo, off := oo }) os.length cc],
          Value.string { data := xo.topo.toArray }, Value.map (some Mb),
          Value.agg
            #[Value.slice A ns.length ca, Value.slice B ps.length cb,
              Value.slice (some { block := bo, off := oo }) os.length cc],
          Value.slice P p.length cp, Value.int IntKind.i64 n,
          Value.func (Fn.func 364) #[]
            #[Value.pointer (some { block := Cb + 1, off := 0 }),
              Value.pointer (some { block := Cb + 1 + 1 + 1, off := 0 }),
              Value.pointer (some { block := Cb + 1 + 1, off := 0 })],
          .int .i64 (x.1 : Int), undef, undef, undef, undef, undef, undef, undef, undef, undef, undef, undef, undef, undef, undef, undef, undef, undef, undef, undef, undef, undef, undef, undef, undef, undef, undef, undef, undef, undef, undef, undef, undef, undef, undef], defers := [] }) ?assign ?body ?done ?stop
  case assign =>
    intro l x W K hK
    gi_wp2
    exact hK
  case body =>
    rintro l pre ⟨m, hm⟩ W ⟨⟨hS, hT, hKk, hC, hM⟩, hB⟩ hlen
    obtain ⟨xv, hx, hne⟩ := id hm
    obtain ⟨b, o, hA, hbl, hc⟩ := atI (HP.out.below hB).cells hx
    subst hA
    have hml : m < p.length := (List.getElem?_eq_some_iff.1 hx).1
    have z0 := Blk.cell hS 0
    have z1 := Blk.cell hS 1
    have z2 := Blk.cell hS 2
    have p0 : W.cell? ⟨Tb, 0, none⟩ = some (.slice (some ⟨b, o, none⟩) p.length cp) := Blk.cell hT 0
    have q0 : W.cell? ⟨Kb, 0, none⟩ = some (strV xo.topo) := Blk.cell hKk 0
    have m0 : (0 : Int) ≤ (m : Int) := by omega
    have m1 : (m : Int) < (p.length : Int) := by omega
    have KD := Lib.hid (domainOf_any A B (some ⟨bo, oo, none⟩) ca cb cc ps.length os.length ns xv xo.topo W.drew (((H.out.below hB).below (Below.refl _ _).drew)).n HSH.out)
    have HBs := Lib.hid hB
    have E : Hid (spreadD ns xo.topo p (pre.map (·.1) ++ [m]) = match domF ns xv xo.topo with
      | some v => bumpD (spreadD ns xo.topo p (pre.map (·.1))) v
      | none => spreadD ns xo.topo p (pre.map (·.1))) := Lib.hid (spreadD_snoc ns xo.topo p _ m xv hx)
    have HV := Lib.hid (fun v (hv : domF ns xv xo.topo = some v) => domF_short HSH.out hv)
    generalize domF ns xv xo.topo = dv at KD E HV
    generalize spreadD ns xo.topo p (pre.map (·.1)) = D0 at hM E
    have HS := Lib.hid hS
    have HT := Lib.hid hT
    have HKk := Lib.hid hKk
    have HC := Lib.hid hC
    have HM := Lib.hid hM
    have hlen2 := Lib.hid hlen
    have hmx : Tryz.prog.follows .mixedOrders = true := by kernel_rfl
    clear hS hT hKk hC hM hB hlen hml hx
    rename_i K0 hK0
    clear hK0 KS S4 T4 K4 Q4 M4 BW HX HE H HP HSH
    gi_wp2
    rename_i Kq hKq
    have key : ∀ w', RowKit.Below W.drew.heap.size W.drew w' → Kq { tmps :=
        #[snapV A B (some { block := bo, off := oo }) ca cb cc ns ps os,
          Value.slice (some { block := b, off := o }) p.length cp, Value.int IntKind.i64 n,
          Value.pointer (some { block := w.heap.size, off := 0 }), Value.pointer (some { block := Tb, off := 0 }),
          undef, Value.slice none 0 0, Value.pointer (some { block := Kb, off := 0 }),
          Value.pointer (some { block := Cb, off := 0 }), Value.int IntKind.i64 m, strV (dv.getD []),
          Value.bool dv.isSome, undef, undef, undef,
          Value.agg
            #[Value.slice A ns.length ca, Value.slice B ps.length cb,
              Value.slice (some { block := bo, off := oo }) os.length cc],
          Value.slice (some { block := b, off := o }) p.length cp, Value.int IntKind.i64 n, Value.bool true,
          Value.bool false, Value.pointer (some { block := w.heap.size, off := 2 }),
          Value.slice (some { block := bo, off := oo }) os.length cc, Value.int IntKind.i64 n,
          Value.pointer (some { block := bo, off := oo + n * 5 }),
          Value.pointer (some { block := bo, off := oo + n * 5 + 2 }), strV xo.topo,
          Value.agg
            #[Value.slice A ns.length ca, Value.slice B ps.length cb,
              Value.slice (some { block := bo, off := oo }) os.length cc],
          Value.string { data := xo.topo.toArray }, Value.map (some Mb),
          Value.agg
            #[Value.slice A ns.length ca, Value.slice B ps.length cb,
              Value.slice (some { block := bo, off := oo }) os.length cc],
          Value.slice (some { block := b, off := o }) p.length cp, Value.int IntKind.i64 n,
          Value.func (Fn.func 364) #[]
            #[Value.pointer (some { block := Cb + 1, off := 0 }),
              Value.pointer (some { block := Cb + 1 + 1 + 1, off := 0 }),
              Value.pointer (some { block := Cb + 1 + 1, off := 0 })],
          Value.int IntKind.i64 m, Value.tuple #[strV (dv.getD []), Value.bool dv.isSome],
          Value.agg
            #[Value.slice A ns.length ca, Value.slice B ps.length cb,
              Value.slice (some { block := bo, off := oo }) os.length cc],
          Value.slice (some { block := b, off := o }) p.length cp, Value.int IntKind.i64 m,
          Value.pointer (some { block := b, off := o + m }), Value.int IntKind.i64 xv, strV xo.topo,
          Value.tuple #[strV (dv.getD []), Value.bool dv.isSome], strV (dv.getD []), Value.bool dv.isSome, undef, undef,
          undef, undef, undef, undef, undef, undef, undef, undef, undef, undef, undef, undef, undef, undef, undef, undef, undef, undef, undef, undef, undef, undef], defers := [] } w' := by
      intro w' hb
      refine hKq _ _ ?_
      clear hKq
      have hbW : Below W.heap.size W w' := ((Below.refl W.heap.size W).drew).trans hb
      have S' := Lib.hid (HS.out.below hbW HS.out.lt)
      have T' := Lib.hid (HT.out.below hbW HT.out.lt)
      have K' := Lib.hid (HKk.out.below hbW HKk.out.lt)
      have C' := Lib.hid (HC.out.below hbW HC.out.lt)
      have M' := Lib.hid (ownsMap_below HM.out hbW)
      have B' := Lib.hid (HBs.out.trans (hbW.mono HBs.out.size))
      have KF := Lib.hid (keepsFrom_below (B := W0.heap.size) hbW)
      have KU := Lib.hid (KeepU.below (us := []) hbW HBs.out.size)
      have c0 : w'.cell? ⟨Cb, 0, none⟩ = some (.map (some Mb)) := Blk.cell C'.out 0
      clear hb hbW z0 z1 z2 p0 q0 hc KD
      cases dv with
      | none =>
        gi_wp2
        refine ⟨KF.out, KU.out, ⟨S'.out, T'.out, K'.out, C'.out, ?_⟩, B'.out⟩
        have e9 : (pre ++ [(⟨m, hm⟩ : OffNo p)]).unattach = pre.map (fun x => x.1) ++ [m] := by
          show (pre ++ [(⟨m, hm⟩ : OffNo p)]).map (fun x => x.1) = _
          rw [List.map_append]
          rfl
        show World.ownsMap (H := Unit) w' _ _ _ _ _ (spreadD ns xo.topo p (pre ++ [(⟨m, hm⟩ : OffNo p)]).unattach)
        rw [e9, E.out]
        exact M'.out.mono (by simp)
      | some v =>
        have hvl : ((⟨v.toArray⟩ : ByteArray).size) ≤ maxLen := by
          have := HV.out v rfl
          rw [size_of]
          unfold maxLen
          omega
        have hkey := WideMaps.keyOf_string_mk (P := Tryz.prog) Tryz.underlying9 hvl
        have hown := M'.out
        have hkm : ns.length + pre.length < maxLen := by
          have := hlen2.out
          have := hlp.out
          have := hpl.out
          have := hln.out
          unfold maxLen
          omega
        gi_wp2_with (first
          | (gi_at_lookup; refine wpListIn_lookup_own_int _ rfl _ _ 314 rfl 9 3 .i64 (Maps.string_keyed Tryz.underlying9) Tryz.underlying314 Tryz.underlying3 (Tryz.zeroValue3 _) Mb (ns.length + pre.length) _ rfl hown _ _ rfl hkey ?_; intro c hat hwc)
          | (gi_at_mapUpdate; refine wpListIn_mapUpdate_own _ rfl _ _ _ 314 rfl 9 3 (Maps.string_keyed Tryz.underlying9) Tryz.underlying314 _ Mb (ns.length + pre.length) _ rfl hown hkm _ _ _ rfl rfl hkey _ [] (plainElem_int Tryz.underlying3 (wrap64_wf _)) ?_; intro w3 hown3 hgrow3))
        have hN' := hN.out
        have hnm : ∀ (bb : Nat) (cs : Array Value) (t : TypeId), Blk w' bb cs t → some bb ≠ some Mb := fun bb cs t hbk e => by
          cases e
          obtain ⟨es, clock, hh, _⟩ := hown
          unfold Blk at hbk
          rw [hh] at hbk
          cases hbk
        have hbg : Below w.heap.size w' w3 := (Below.refl w.heap.size w').grown hgrow3 (Nat.le_trans (by have := B'.out.size; exact this) (Nat.le_refl _)) (fun j e => by cases e; omega)
        refine ⟨KF.out.trans (KeepsFrom.of_grownBy hgrow3 (fun j e => by cases e; have := hsz4.out; omega)), KU.out.trans ⟨hbg, fun bb cs t _ h1 => h1.kept hgrow3 (hnm bb cs t h1)⟩, ⟨S'.out.kept hgrow3 (hnm _ _ _ S'.out), T'.out.kept hgrow3 (hnm _ _ _ T'.out), K'.out.kept hgrow3 (hnm _ _ _ K'.out), C'.out.kept hgrow3 (hnm _ _ _ C'.out), ?_⟩, B'.out.trans hbg⟩
        have e9 : (pre ++ [(⟨m, hm⟩ : OffNo p)]).unattach = pre.map (fun x => x.1) ++ [m] := by
          show (pre ++ [(⟨m, hm⟩ : OffNo p)]).map (fun x => x.1) = _
          rw [List.map_append]
          rfl
        show World.ownsMap (H := Unit) w3 _ _ _ _ _ (spreadD ns xo.topo p (pre ++ [(⟨m, hm⟩ : OffNo p)]).unattach)
        rw [e9, E.out]
        unfold bumpD
        rw [numD_lit hat]
        exact hown3.mono (by simp; omega)
    gi_region_with_o (refine ⟨trivial, ?_⟩; gi_at_call 324; refine (CallsIn.inRound l (callsIn_wide.2 KD.out)).mono ?_; rintro e w' ⟨rfl, hb⟩)
    all_goals exact key _ hb
  case done =>
    rintro D ys W hD hys ⟨⟨hS, hT, hKk, hC, hM⟩, hB⟩ hK
    rw [hys] at hM
    obtain ⟨Dd, hDd⟩ : ∃ Dd, spreadD ns xo.topo p (offL p (membersF ps xo.name)) = Dd := ⟨_, rfl⟩
    rw [hDd] at hM
    have HE2 : Hid (R = rowD Dd) := Lib.hid (by rw [HE.out, hDd])
    have hnn : Hid (Maps.size Dd ≤ 2000) := Lib.hid (by
      have h1 := hM.size_le
      have h2 : ys.length ≤ 1000 := by
        have e1 : ys.length = (ys.map (fun x => x.1)).length := by rw [List.length_map]
        rw [e1, hys]
        have := offL_len p (membersF ps xo.name)
        have h3 : (membersF ps xo.name).length ≤ ps.length := membersU_len ps xo.name _
        have := hlp.out
        omega
      have := hln.out
      omega)
    have c0 : W.cell? ⟨Cb, 0, none⟩ = some (.map (some Mb)) := Blk.cell hC 0
    have hmk := run_ints0 W (Maps.size Dd) (by have := hnn.out; omega)
    have HW : Hid (w.heap.size ≤ W.heap.size) := Lib.hid hB.size
    have O1 := Lib.hid (own_made0 W (Maps.size Dd) w.heap.size (by have := hnn.out; omega) hB.size)
    have C1 := Lib.hid (Blk.alloc hC (.cells (madeCells #[.int .i64 0] (Maps.size Dd)) 3))
    have M1 := Lib.hid (hM.alloc (.cells (madeCells #[.int .i64 0] (Maps.size Dd)) 3))
    have B1 := Lib.hid (hB.alloc hB.size (.cells (madeCells #[.int .i64 0] (Maps.size Dd)) 3))
    have D1 : Hid ((W.alloc (.cells (madeCells #[.int .i64 0] (Maps.size Dd)) 3)).heap[D]? = some (.deferred (some []))) := Lib.hid ((Below.heap_alloc W _ D (Array.getElem?_eq_some_iff.1 hK).1).trans hK)
    have HD := Lib.hid hD
    obtain ⟨i0, hi0, hz0, hz1, hz2⟩ := info_parts int_infoK
    rename_i K0 hK0
    clear hS hT hKk hC hB hK hD hys HE hDd KS S4 T4 K4 Q4 M4 BW H HP HSH HX hlp hln hpl
    have c1 : (W.alloc (.cells (madeCells #[.int .i64 0] (Maps.size Dd)) 3)).cell? ⟨Cb, 0, none⟩ = some (.map (some Mb)) := Blk.cell C1.out 0
    have KS2 := Lib.hid (sortedKeys_in Mb _ Dd _ _ M1.out (by have := hnn.out; unfold maxLen; omega) (by have := hnn.out; omega))
    simp only [World.size_alloc] at KS2
    have hfK : Fence.wide.fn 326 := trivial
    have hfS : Fence.wide.fn 325 := trivial
    gi_wp2_with (first
      | (gi_at_len; refine wpListIn_len_own _ rfl _ _ rfl 9 3 Tryz.underlying314 _ Mb _ Dd rfl hM ?_)
      | (gi_at_call 326; refine ((mapsKeys_in (some Mb) _).more (by omega)).mono ?_; rintro e w' ⟨rfl, rfl⟩)
      | (gi_at_call 325; refine (KS2.out.more (by omega)).mono ?_; rintro e w' ⟨v, ss, rfl, hS, hrow, hnil, hb⟩; have hrow2 := own_sorted hS hrow; obtain ⟨A9, c9, rfl, hm9⟩ := La.own_slice hrow2))
    have hb2 : RowKit.Below (W.alloc (.cells (madeCells #[.int .i64 0] (Maps.size Dd)) 3)).heap.size (W.alloc (.cells (madeCells #[.int .i64 0] (Maps.size Dd)) 3)) w' := ((Below.refl _ _).alloc (Nat.le_refl _) _).trans (hb.mono (by simp))
    have O2 := Lib.hid (own_below2 O1.out hb2)
    have C2 := Lib.hid (C1.out.below hb2 C1.out.lt)
    have M2 := Lib.hid (ownsMap_below M1.out hb2)
    have B2 := Lib.hid (B1.out.trans (hb2.mono B1.out.size))
    have D2 : Hid (w'.heap[D]? = some (.deferred (some []))) := Lib.hid ((hb2.block D (Array.getElem?_eq_some_iff.1 D1.out).1).trans D1.out)
    have R2 := Lib.hid (own_base hrow2 (base' := w.heap.size) (by have := B1.out.size; simp at this ⊢; omega))
    have hLL : Hid ((sortK Dd).length ≤ 2000) := Lib.hid (by
      unfold sortK
      rw [List.length_mergeSort]
      have h1 := hnn.out
      cases Dd with
      | map es => simpa [strKeys, Maps.size] using h1
      | _ => simp [strKeys])
    have hRD : Hid (rowD Dd = (sortK Dd).map fun v => numD (Dd.atKey (.string v) (.lit (.int .i64 0)))) := Lib.hid rfl
    have hST := Lib.hid (fun x (hx : x ∈ sortK Dd) => strKeys_le hM Tryz.underlying9 x ((List.mergeSort_perm _ _).mem_iff.1 hx))
    clear hb hb2 hrow hrow2 hS hnil O1 C1 M1 B1 D1 c0 c1 KS2 hmk hM hnn
    generalize sortK Dd = L at R2 hLL hRD hST ⊢
    gi_loopw [56, 12] (fun i v wr => ∃ k : Nat, k ≤ L.length ∧ i = .int .i64 k ∧ wr.ownsRow w.heap.size 3 1 v k (intsC ((rowD Dd).take k)) ∧ wr.ownsRow w.heap.size 9 1 (.slice A9 L.length c9) L.length (L.map encStr) ∧ World.ownsMap (H := Unit) wr Tryz.prog 9 (plainElem (H := Unit) Tryz.prog 3) Mb (ns.length + ys.length) Dd ∧ Blk wr Cb #[.map (some Mb)] 314 ∧ RowKit.Below w.heap.size w wr ∧ wr.heap[D]? = some (.deferred (some []))) (fun i _ _ => L.length - (intOf i).toNat)
    case atStart => exact ⟨0, by omega, rfl, O2.out, R2.out, M2.out, C2.out, B2.out, D2.out⟩
    case round =>
      clear O2 R2 M2 C2 B2 D2
      obtain ⟨k, hk, rfl, ho, hr, hm, hc, hb, hd⟩ := hrel
      have HO := Lib.hid ho
      have HR := Lib.hid hr
      have HM := Lib.hid hm
      have HC := Lib.hid hc
      have HB := Lib.hid hb
      have HDd := Lib.hid hd
      clear ho hr hc hb hd
      by_cases hlt : k < L.length
      · obtain ⟨x, hx⟩ : ∃ x, L[k]? = some x := ⟨L[k], List.getElem?_eq_getElem hlt⟩
        obtain ⟨g, cur, hA, hg, hgb, hgc⟩ := own_blk HR.out (k := k) (y := encStr x) (by rw [List.getElem?_map, hx]; rfl)
        subst hA
        have g0 : wr.cell? ⟨g, k, none⟩ = some (strV x) := (Blk.cell hgb k).trans hgc
        have c0 : wr.cell? ⟨Cb, 0, none⟩ = some (.map (some Mb)) := Blk.cell HC.out 0
        have k0 : (0 : Int) ≤ (k : Int) := by omega
        have k1 : (k : Int) < (L.length : Int) := by omega
        have hvl : ((⟨x.toArray⟩ : ByteArray).size) ≤ maxLen := by
          rw [size_of]
          exact hST.out x (List.mem_of_getElem? hx)
        have hkey := WideMaps.keyOf_string_mk (P := Tryz.prog) Tryz.underlying9 hvl
        have HX2 := Lib.hid hx
        have hkb : Hid (k + 1 ≤ maxLen) := Lib.hid (by have := hLL.out; unfold maxLen; omega)
        have hkc : Hid ((k + 1) * 8 ≤ 140737488355328) := Lib.hid (by have := hLL.out; omega)
        have hwz : Hid (w.heap.size ≤ wr.heap.size) := Lib.hid HB.out.size
        clear hx hgb hgc hvl
        have hLLp : L.length ≤ 2000 := hLL.out
        gi_wp2_with (first
          | (gi_at_lookup; refine wpListIn_lookup_own_int _ rfl _ _ 314 rfl 9 3 .i64 (Maps.string_keyed Tryz.underlying9) Tryz.underlying314 Tryz.underlying3 (Tryz.zeroValue3 _) Mb _ _ rfl hm _ _ rfl hkey ?_; intro c hat hwc)
          | (gi_at_builtin; refine wpListIn_append_own _ rfl _ _ 27 rfl w.heap.size 3 i0 (.int .i64 0) 1 8 Tryz.underlying27 hi0 hz0 hz1 hz2 rfl (by decide) _ _ _ rfl (HO.out.alloc _) ⟨wr.heap.size, 0, none⟩ 1 1 [.int .i64 c] rfl rfl ?c1 ?c2 hkb.out hkc.out ?c5 ?_))
        case c2 => first | rfl | (intro u hu; simp at hu; subst hu; rfl)
        case c5 => have := hwz.out; simp; omega
        intro v' w2' hown' hgrow' _
        have ha0 := HO.out.alloc (.cells #[.int .i64 c] 3)
        have O3 := Lib.hid hown'
        have R3 := Lib.hid (own_own ha0 hgrow' (by decide) (HR.out.alloc (.cells #[.int .i64 c] 3)))
        have M3 := Lib.hid (own_ownsMap ha0 hgrow' (hm.alloc (.cells #[.int .i64 c] 3)))
        have C3 : Hid (Blk w2' Cb #[.map (some Mb)] 314) := Lib.hid (own_other ha0 hgrow' (Blk.alloc HC.out (.cells #[.int .i64 c] 3)) (fun cs e => by cases e))
        have D3 : Hid (w2'.heap[D]? = some (.deferred (some []))) := Lib.hid (own_other ha0 hgrow' ((Below.heap_alloc wr _ D (Array.getElem?_eq_some_iff.1 HDd.out).1).trans HDd.out) (fun cs e => by cases e))
        have B3 := Lib.hid ((HB.out.alloc HB.out.size (.cells #[.int .i64 c] 3)).grown hgrow' (by have := hwz.out; simp; omega) (fun j hj => own_gem HO.out hj))
        have hstep : Hid ((rowD Dd).take (k + 1) = (rowD Dd).take k ++ [c]) := Lib.hid (by
          have h1 : (rowD Dd)[k]? = some c := by
            rw [hRD.out, List.getElem?_map, HX2.out]
            simp only [Option.map_some, Option.some.injEq]
            exact numD_lit hat
          obtain ⟨h2, h3⟩ := List.getElem?_eq_some_iff.1 h1
          rw [List.take_succ_eq_append_getElem h2, h3])
        clear hown' hgrow' ha0 hm hkey g0 c0
        gi_wp2
        go_roundw
        case rel =>
          refine ⟨k + 1, by omega, by go_num, ?_, R3.out, M3.out, C3.out, B3.out, D3.out⟩
          rw [hstep.out]
          have := O3.out
          simpa [intsC] using this
        case measure =>
          simp [intOf]
          omega
      · obtain rfl : k = L.length := by omega
        have hrl : (rowD Dd).length = L.length := by rw [hRD.out, List.length_map]
        gi_wp2
        refine ⟨by simp, .inl ⟨_, _, rfl, run_takeDeferred HDd.out, ?_⟩⟩
        refine ⟨_, results_tmp rfl _ _ _, _, rfl, ?_, HB.out.trans (belowK_b (w := w) (Nat.le_refl _) wr D _ _ (by have := HD.out; have := hN.out; have := hsz4.out; omega) HDd.out rfl rfl)⟩
        rw [HE2.out, hrl]
        have h9 := HO.out
        rw [List.take_of_length_le (by omega)] at h9
        exact ownsRow_putObj h9 _ HDd.out rfl
  case stop =>
    rintro D c pre W _ _ h _
    exact h.elim
end Go.Proofs.YtmmokiaipfalmaaGreat

namespace Go.Proofs.YtmmokiaipfalmaaGreat
open Go.RowKit

/-- A list of texts as a value. -/
structure TextsAt (w : World) (A : Option Addr) (c : Nat) (l : List (List UInt8)) : Prop where
  cells : La.SlAt w A (l.map strV)
  le : l.length ≤ c
  most : c ≤ 9223372036854775807
theorem TextsAt.below {w w' : World} {A : Option Addr} {c : Nat} {l : List (List UInt8)} (h : TextsAt w A c l) (hb : Below w.heap.size w w') : TextsAt w' A c l := ⟨h.cells.below hb, h.le, h.most⟩
theorem TextsAt.own {w : World} {base : Nat} {A : Option Addr} {c : Nat} {l : List (List UInt8)} (h : w.ownsRow base 9 1 (.slice A l.length c) l.length (l.map strV)) : TextsAt w A c l := by
  have hc := capOwn h
  have hm : maxLen ≤ 9223372036854775807 := by unfold maxLen; omega
  exact ⟨La.own_slat h, hc.1, Nat.le_trans hc.2 hm⟩
end Go.Proofs.YtmmokiaipfalmaaGreat

namespace Go.Proofs.YtmmokiaipfalmaaGreat
open Go.RowKit

/-- The cluster, its box, a placement lie in memory. -/
structure WkAt (w W : World) (N Sb : Nat) (B : Option Addr) (cb : Nat) (P : Option Addr) (p : List Int) : Prop where
  s : SnapAt W (some ⟨N + 3, 0, none⟩) B (some ⟨N + 4, 0, none⟩) 3 cb 1 (chN N [98] false) chP chO
  b : Blk W Sb #[.slice (some ⟨N + 3, 0, none⟩) 3 3, .slice B 3 cb, .slice (some ⟨N + 4, 0, none⟩) 1 1] 26
  p : IntsAt W P p.length p
  w : Below w.heap.size w W
theorem WkAt.below {w W W' : World} {N Sb : Nat} {B : Option Addr} {cb : Nat} {P : Option Addr} {p : List Int} (h : WkAt w W N Sb B cb P p) (hb : Below W.heap.size W W') : WkAt w W' N Sb B cb P p :=
  ⟨h.s.below hb, h.b.below hb h.b.lt, h.p.below hb, h.w.trans (hb.mono h.w.size)⟩
theorem WkAt.c0 {w W : World} {N Sb : Nat} {B : Option Addr} {cb : Nat} {P : Option Addr} {p : List Int} (h : WkAt w W N Sb B cb P p) : W.cell? ⟨Sb, 0, none⟩ = some (.slice (some ⟨N + 3, 0, none⟩) 3 3) ∧ W.cell? ⟨Sb, 1, none⟩ = some (.slice B 3 cb) ∧ W.cell? ⟨Sb, 2, none⟩ = some (.slice (some ⟨N + 4, 0, none⟩) 1 1) :=
  ⟨Blk.cell h.b 0, Blk.cell h.b 1, Blk.cell h.b 2⟩

end Go.Proofs.YtmmokiaipfalmaaGreat

namespace Go.Proofs.YtmmokiaipfalmaaGreat
open Go.RowKit

/-- The chapter's cluster (a name and a mark turned), its box lie in memory. -/
structure NmAt (w W : World) (N Sb : Nat) (B : Option Addr) (cb : Nat) (nm : List UInt8) (lost : Bool) : Prop where
  c : ChapAt W N (.slice B 3 cb) 3 nm lost
  b : Blk W Sb #[.slice (some ⟨N + 3, 0, none⟩) 3 3, .slice B 3 cb, .slice (some ⟨N + 4, 0, none⟩) 1 1] 26
  w : Below w.heap.size w W
theorem NmAt.below {w W W' : World} {N Sb : Nat} {B : Option Addr} {cb : Nat} {nm : List UInt8} {lost : Bool} (h : NmAt w W N Sb B cb nm lost) (hb : Below W.heap.size W W') : NmAt w W' N Sb B cb nm lost :=
  ⟨h.c.kept hb, h.b.below hb h.b.lt, h.w.trans (hb.mono h.w.size)⟩
theorem NmAt.s {w W : World} {N Sb : Nat} {B : Option Addr} {cb : Nat} {nm : List UInt8} {lost : Bool} (h : NmAt w W N Sb B cb nm lost) (hn : nm.length ≤ 1000) : SnapAt W (some ⟨N + 3, 0, none⟩) B (some ⟨N + 4, 0, none⟩) 3 cb 1 (chN N nm lost) chP chO := h.c.snap hn
theorem NmAt.c0 {w W : World} {N Sb : Nat} {B : Option Addr} {cb : Nat} {nm : List UInt8} {lost : Bool} (h : NmAt w W N Sb B cb nm lost) : W.cell? ⟨Sb, 0, none⟩ = some (.slice (some ⟨N + 3, 0, none⟩) 3 3) ∧ W.cell? ⟨Sb, 1, none⟩ = some (.slice B 3 cb) ∧ W.cell? ⟨Sb, 2, none⟩ = some (.slice (some ⟨N + 4, 0, none⟩) 1 1) :=
  ⟨Blk.cell h.b 0, Blk.cell h.b 1, Blk.cell h.b 2⟩
theorem blk_ne {W : World} {a b : Nat} {cs ds : Array Value} {t u : TypeId} (h : Blk W a cs t) (h' : Blk W b ds u) (ht : t ≠ u) : a ≠ b := fun e => by
  subst e
  unfold Blk at h h'
  rw [h] at h'
  cases h'
  exact ht rfl
theorem NmAt.name {w W : World} {Sb : Nat} {B : Option Addr} {cb : Nat} (h : NmAt w W w.heap.size Sb B cb [98] true) : NmAt w (W.setCell ⟨w.heap.size + 3, 10, none⟩ (strV [65])) w.heap.size Sb B cb [65] true :=
  ⟨⟨h.c.l1.oth (by omega) _ _, h.c.l2.oth (by omega) _ _, h.c.n.set 10 (strV [65]), h.c.o.oth (by omega) _ _, ch_set h.c.p h.c.n (by decide) _ _⟩, h.b.oth (blk_ne h.b h.c.n (by decide)) _ _, h.w.setCell (p := ⟨w.heap.size + 3, 10, none⟩) (Nat.le_add_right _ _) _⟩

end Go.Proofs.YtmmokiaipfalmaaGreat

namespace Go.Proofs.YtmmokiaipfalmaaGreat
open Go.ChangeShapes Go.WideShapes Go.ChangeAt Go.RowKit Go.Deep

theorem kcStr : Tryz.prog.cellsOf 9 = 1 := by kernel_rfl
theorem kcInt : Tryz.prog.cellsOf 3 = 1 := by kernel_rfl
theorem kcBool : Tryz.prog.cellsOf 4 = 1 := by kernel_rfl
theorem kcVec : Tryz.prog.cellsOf 47 = 5 := by kernel_rfl
theorem kcLabs : Tryz.prog.cellsOf 48 = 1 := by kernel_rfl
theorem kcTers : Tryz.prog.cellsOf 49 = 1 := by kernel_rfl
theorem kcNear : Tryz.prog.cellsOf 51 = 2 := by kernel_rfl
theorem kcLab : Tryz.prog.cellsOf 100 = 2 := by kernel_rfl
theorem kcTer : Tryz.prog.cellsOf 98 = 3 := by kernel_rfl
theorem kcNode : Tryz.prog.cellsOf 81 = 10 := by kernel_rfl
theorem kcPod : Tryz.prog.cellsOf 53 = 15 := by kernel_rfl
theorem kcOwner : Tryz.prog.cellsOf 102 = 5 := by kernel_rfl
theorem kcNodes : Tryz.prog.cellsOf 22 = 1 := by kernel_rfl
theorem kcPods : Tryz.prog.cellsOf 23 = 1 := by kernel_rfl
theorem kcOwners : Tryz.prog.cellsOf 24 = 1 := by kernel_rfl
theorem kcSnap : Tryz.prog.cellsOf 26 = 3 := by kernel_rfl
theorem kmax {n : Nat} (h : n ≤ maxLen) : n ≤ 9223372036854775807 := by unfold maxLen at h; omega

/-- Where a cell of a list of rows stands. -/
theorem flat_at {T : Type} (f : T → List Value) (k : Nat) (hf : ∀ y, (f y).length = k) : ∀ (l : List T) (j : Nat) (y : Value), (l.flatMap f)[j]? = some y → ∃ i r x, l[i]? = some x ∧ r < k ∧ j = i * k + r ∧ (f x)[r]? = some y
  | [], j, y, h => by simp at h
  | x :: t, j, y, h => by
    rw [List.flatMap_cons] at h
    by_cases hj : j < k
    · rw [List.getElem?_append_left (by rw [hf]; exact hj)] at h
      exact ⟨0, j, x, rfl, hj, by omega, h⟩
    · rw [List.getElem?_append_right (by rw [hf]; omega), hf] at h
      obtain ⟨i, r, z, h1, h2, h3, h4⟩ := flat_at f k hf t (j - k) y h
      refine ⟨i + 1, r, z, by simpa using h1, h2, ?_, h4⟩
      rw [Nat.succ_mul]
      omega

/-- A slice of rows, opened. -/
theorem slice_cells {H : Type} {enc : TypeId × Value → H} {W : World} {held : Bool} {T : Type} (f : T → List Value) (k : Nat) (Good : T → Prop) {t e : TypeId} (ht : Tryz.prog.underlying t = some (.slice e)) (hk : Tryz.prog.cellsOf e = k) (hpos : 0 < k) (hf : ∀ y, (f y).length = k)
    (hel : ∀ n cs x, DataW.trod enc Tryz.prog W 0 (fun _ => true) held n e cs = some x → ∃ y : T, cs = f y ∧ Good y) {fuel : Nat} {cs : List Value} {x : DataW H × List MemPlace} (h : DataW.trod enc Tryz.prog W 0 (fun _ => true) held fuel t cs = some x) :
    ∃ (A : Option Addr) (cap : Nat) (l : List T), cs = [.slice A l.length cap] ∧ La.SlAt W A (l.flatMap f) ∧ l.length ≤ cap ∧ cap ≤ maxLen ∧ ∀ y ∈ l, Good y := by
  rcases open_slice ht h with ⟨rfl, _⟩ | ⟨a, len, cap, m, n, D, Pl, rfl, _, hl, hm, hmm, _, hx⟩
  · exact ⟨none, 0, [], rfl, fun j y hj => by simp at hj, by simp, by simp, fun x hx => by simp at hx⟩
  · simp only [if_true] at hmm
    subst hmm
    rw [hk] at hx
    rcases Nat.eq_zero_or_pos len with hz | hz
    · subst hz
      exact ⟨some a, m, [], rfl, fun j y hj => by simp at hj, by simp, hm, fun x hx => by simp at hx⟩
    have hne : Nonempty T := by
      obtain ⟨cs', h1, h2⟩ := hx 0 (by omega)
      obtain ⟨y, _⟩ := hel _ _ _ h2
      exact ⟨y⟩
    have hinh : Inhabited T := Classical.inhabited_of_nonempty hne
    obtain ⟨L, hL⟩ := choose_lt (α := T) (p := fun i y => (∀ r v, (f y)[r]? = some v → W.cell? ((a.add (i * k)).add r) = some v) ∧ Good y) (n := len) (fun i hi => by
      obtain ⟨cs', h1, h2⟩ := hx i (by omega)
      obtain ⟨y, e, hg⟩ := hel _ _ _ h2
      subst e
      obtain ⟨_, _, hc⟩ := World.cells?_some h1
      refine ⟨y, fun r v hv => ?_, hg⟩
      have hr : r < k := by
        have := (List.getElem?_eq_some_iff.1 hv).1
        rwa [hf] at this
      rw [hc r hr]
      exact hv)
    refine ⟨some a, m, (List.range len).map L, by simp, ?_, by simpa using hl, hm, ?_⟩
    · rcases Nat.eq_zero_or_pos len with h0 | hp
      · subst h0
        exact fun j y hj => by simp at hj
      · obtain ⟨b, off, spot⟩ := a
        have hspot : spot = none := by
          have h9 : 0 < (f (L 0)).length := by rw [hf]; exact hpos
          have := (hL 0 hp).1 0 _ (List.getElem?_eq_getElem h9)
          simpa [Addr.add] using World.cell?_spot this
        subst hspot
        intro j y hj
        obtain ⟨i, r, z, h1, h2, h3, h4⟩ := flat_at f k hf _ j y hj
        have hil : i < len := by
          have := (List.getElem?_eq_some_iff.1 h1).1
          simpa using this
        rw [List.getElem?_map, List.getElem?_range hil] at h1
        simp only [Option.map_some, Option.some.injEq] at h1
        subst h1
        have hc := (hL i hil).1 r y h4
        rw [WideShapes.add_plain, WideShapes.add_plain] at hc
        refine ⟨b, off, rfl, ?_⟩
        rw [h3, ← Nat.add_assoc]
        exact hc
    · intro y hy
      obtain ⟨i, hi, rfl⟩ := List.mem_map.1 hy
      exact (hL i (List.mem_range.1 hi)).2

section
variable {H : Type} {enc : TypeId × Value → H} {W : World} {held : Bool}

theorem str_one {n : Nat} {c : Value} {x : DataW H × List MemPlace} (h : DataW.trod enc Tryz.prog W 0 (fun _ => true) held n 9 [c] = some x) : ∃ s : List UInt8, c = strV s ∧ s.length ≤ maxLen := by
  obtain ⟨s, e, _, m⟩ := DataW.trod_string Tryz.underlying9 h
  simp only [List.cons.injEq, and_true] at e
  exact ⟨s.data.toList, e, m⟩
theorem int_one {n : Nat} {c : Value} {x : DataW H × List MemPlace} (h : DataW.trod enc Tryz.prog W 0 (fun _ => true) held n 3 [c] = some x) : ∃ k : Int, c = .int .i64 k := by
  obtain ⟨s, e, _, m⟩ := DataW.trod_int Tryz.underlying3 h
  simp only [List.cons.injEq, and_true] at e
  exact ⟨s, e⟩
theorem bool_one {n : Nat} {c : Value} {x : DataW H × List MemPlace} (h : DataW.trod enc Tryz.prog W 0 (fun _ => true) held n 4 [c] = some x) : ∃ k : Bool, c = .bool k := by
  obtain ⟨s, e, _⟩ := DataW.trod_bool Tryz.underlying4 h
  simp only [List.cons.injEq, and_true] at e
  exact ⟨s, e⟩
set_option maxRecDepth 100000 in
theorem vec_one {n : Nat} {c0 c1 c2 c3 c4 : Value} {x : DataW H × List MemPlace} (h : DataW.trod enc Tryz.prog W 0 (fun _ => true) held n 47 [c0, c1, c2, c3, c4] = some x) : ∃ r : Nat → Int, c0 = .int .i64 (r 0) ∧ c1 = .int .i64 (r 1) ∧ c2 = .int .i64 (r 2) ∧ c3 = .int .i64 (r 3) ∧ c4 = .int .i64 (r 4) := by
  obtain ⟨xs, m, _, _, hl, hxl, hf⟩ := DataW.trod_array Tryz.underlying47 h
  match xs, hxl with
  | [x0, x1, x2, x3, x4], _ =>
    have h0 := hf 0 (by omega)
    have h1 := hf 1 (by omega)
    have h2 := hf 2 (by omega)
    have h3 := hf 3 (by omega)
    have h4 := hf 4 (by omega)
    rw [kcInt] at h0 h1 h2 h3 h4
    obtain ⟨a0, e0⟩ := int_one (enc := enc) (W := W) (held := held) (n := m) (c := c0) (x := x0) h0
    obtain ⟨a1, e1⟩ := int_one (enc := enc) (W := W) (held := held) (n := m) (c := c1) (x := x1) h1
    obtain ⟨a2, e2⟩ := int_one (enc := enc) (W := W) (held := held) (n := m) (c := c2) (x := x2) h2
    obtain ⟨a3, e3⟩ := int_one (enc := enc) (W := W) (held := held) (n := m) (c := c3) (x := x3) h3
    obtain ⟨a4, e4⟩ := int_one (enc := enc) (W := W) (held := held) (n := m) (c := c4) (x := x4) h4
    exact ⟨fun k => match k with | 0 => a0 | 1 => a1 | 2 => a2 | 3 => a3 | _ => a4, e0, e1, e2, e3, e4⟩
set_option maxRecDepth 100000 in
theorem lab_row (n : Nat) (cs : List Value) (x : DataW H × List MemPlace) (h : DataW.trod enc Tryz.prog W 0 (fun _ => true) held n 100 cs = some x) : ∃ y : L2, cs = [strV y.1, strV y.2] ∧ (y.1.length ≤ 9223372036854775807 ∧ y.2.length ≤ 9223372036854775807) := by
  obtain ⟨xs, m, _, _, hl, hxl, hf⟩ := DataW.trod_struct Tryz.underlying100 h
  rw [kcLab] at hl
  match cs, hl, xs, hxl with
  | [c0, c1], _, [y0, y1], _ =>
    have h0 : DataW.trod enc Tryz.prog W 0 (fun _ => true) held m 9 ((([c0, c1] : List Value).drop 0).take (Tryz.prog.cellsOf 9)) = some y0 := hf 0 _ rfl
    have h1 : DataW.trod enc Tryz.prog W 0 (fun _ => true) held m 9 ((([c0, c1] : List Value).drop 1).take (Tryz.prog.cellsOf 9)) = some y1 := hf 1 _ rfl
    rw [kcStr] at h0 h1
    obtain ⟨s0, e0, m0⟩ := str_one (enc := enc) (W := W) (held := held) (n := m) (c := c0) (x := y0) h0
    obtain ⟨s1, e1, m1⟩ := str_one (enc := enc) (W := W) (held := held) (n := m) (c := c1) (x := y1) h1
    exact ⟨(s0, s1), by rw [e0, e1], kmax m0, kmax m1⟩
set_option maxRecDepth 100000 in
theorem ter_row (n : Nat) (cs : List Value) (x : DataW H × List MemPlace) (h : DataW.trod enc Tryz.prog W 0 (fun _ => true) held n 98 cs = some x) : ∃ y : T3, cs = [.int .i64 y.1, strV y.2.1, strV y.2.2] ∧ (y.2.1.length ≤ 9223372036854775807 ∧ y.2.2.length ≤ 9223372036854775807) := by
  obtain ⟨xs, m, _, _, hl, hxl, hf⟩ := DataW.trod_struct Tryz.underlying98 h
  rw [kcTer] at hl
  match cs, hl, xs, hxl with
  | [c0, c1, c2], _, [y0, y1, y2], _ =>
    have h0 : DataW.trod enc Tryz.prog W 0 (fun _ => true) held m 3 ((([c0, c1, c2] : List Value).drop 0).take (Tryz.prog.cellsOf 3)) = some y0 := hf 0 _ rfl
    have h1 : DataW.trod enc Tryz.prog W 0 (fun _ => true) held m 9 ((([c0, c1, c2] : List Value).drop 1).take (Tryz.prog.cellsOf 9)) = some y1 := hf 1 _ rfl
    have h2 : DataW.trod enc Tryz.prog W 0 (fun _ => true) held m 9 ((([c0, c1, c2] : List Value).drop 2).take (Tryz.prog.cellsOf 9)) = some y2 := hf 2 _ rfl
    rw [kcInt] at h0
    rw [kcStr] at h1 h2
    obtain ⟨k, e0⟩ := int_one (enc := enc) (W := W) (held := held) (n := m) (c := c0) (x := y0) h0
    obtain ⟨s1, e1, m1⟩ := str_one (enc := enc) (W := W) (held := held) (n := m) (c := c1) (x := y1) h1
    obtain ⟨s2, e2, m2⟩ := str_one (enc := enc) (W := W) (held := held) (n := m) (c := c2) (x := y2) h2
    exact ⟨(k, s1, s2), by rw [e0, e1, e2], kmax m1, kmax m2⟩
theorem labs_one {n : Nat} {c : Value} {x : DataW H × List MemPlace} (h : DataW.trod enc Tryz.prog W 0 (fun _ => true) held n 48 [c] = some x) : ∃ A cap l, c = .slice A (List.length l) cap ∧ ListL W A cap l := by
  obtain ⟨A, cap, l, e, hs, h1, h2, hg⟩ := slice_cells (T := L2) (fun y => [strV y.1, strV y.2]) 2 _ Tryz.underlying48 kcLab (by omega) (fun _ => rfl) (fun n cs x h => lab_row n cs x h) h
  simp only [List.cons.injEq, and_true] at e
  exact ⟨A, cap, l, e, h1, kmax h2, hs, hg⟩
theorem ters_one {n : Nat} {c : Value} {x : DataW H × List MemPlace} (h : DataW.trod enc Tryz.prog W 0 (fun _ => true) held n 49 [c] = some x) : ∃ A cap l, c = .slice A (List.length l) cap ∧ ListT W A cap l := by
  obtain ⟨A, cap, l, e, hs, h1, h2, hg⟩ := slice_cells (T := T3) (fun y => [.int .i64 y.1, strV y.2.1, strV y.2.2]) 3 _ Tryz.underlying49 kcTer (by omega) (fun _ => rfl) (fun n cs x h => ter_row n cs x h) h
  simp only [List.cons.injEq, and_true] at e
  exact ⟨A, cap, l, e, h1, kmax h2, hs, hg⟩
set_option maxRecDepth 100000 in
theorem near_one {n : Nat} {c0 c1 : Value} {x : DataW H × List MemPlace} (h : DataW.trod enc Tryz.prog W 0 (fun _ => true) held n 51 [c0, c1] = some x) : ∃ s A cap l, c0 = strV s ∧ s.length ≤ 9223372036854775807 ∧ c1 = .slice A (List.length l) cap ∧ ListT W A cap l := by
  obtain ⟨xs, m, _, _, hl, hxl, hf⟩ := DataW.trod_struct Tryz.underlying51 h
  match xs, hxl with
  | [y0, y1], _ =>
    have h0 : DataW.trod enc Tryz.prog W 0 (fun _ => true) held m 9 ((([c0, c1] : List Value).drop 0).take (Tryz.prog.cellsOf 9)) = some y0 := hf 0 _ rfl
    have h1 : DataW.trod enc Tryz.prog W 0 (fun _ => true) held m 49 ((([c0, c1] : List Value).drop 1).take (Tryz.prog.cellsOf 49)) = some y1 := hf 1 _ rfl
    rw [kcStr] at h0
    rw [kcTers] at h1
    obtain ⟨s, e0, m0⟩ := str_one (enc := enc) (W := W) (held := held) (n := m) (c := c0) (x := y0) h0
    obtain ⟨A, cap, l, e1, hL⟩ := ters_one (enc := enc) (W := W) (held := held) (n := m) (c := c1) (x := y1) h1
    exact ⟨s, A, cap, l, e0, kmax m0, e1, hL⟩
set_option maxRecDepth 100000 in
theorem node_row (n : Nat) (cs : List Value) (x : DataW H × List MemPlace) (h : DataW.trod enc Tryz.prog W 0 (fun _ => true) held n 81 cs = some x) : ∃ y : NodeD, cs = [strV y.name, .int .i64 (y.cap 0), .int .i64 (y.cap 1), .int .i64 (y.cap 2), .int .i64 (y.cap 3), .int .i64 (y.cap 4), .slice y.al y.labels.length y.cl, .slice y.at_ y.taints.length y.ct, .bool y.cordon, .bool y.lost] ∧ y.fit W := by
  obtain ⟨xs, m, _, _, hl, hxl, hf⟩ := DataW.trod_struct Tryz.underlying81 h
  rw [kcNode] at hl
  match cs, hl, xs, hxl with
  | [c0, c1, c2, c3, c4, c5, c6, c7, c8, c9], _, [y0, y1, y2, y3, y4, y5], _ =>
    have h0 : DataW.trod enc Tryz.prog W 0 (fun _ => true) held m 9 ((([c0, c1, c2, c3, c4, c5, c6, c7, c8, c9] : List Value).drop 0).take (Tryz.prog.cellsOf 9)) = some y0 := hf 0 _ rfl
    have h1 : DataW.trod enc Tryz.prog W 0 (fun _ => true) held m 47 ((([c0, c1, c2, c3, c4, c5, c6, c7, c8, c9] : List Value).drop 1).take (Tryz.prog.cellsOf 47)) = some y1 := hf 1 _ rfl
    have h2 : DataW.trod enc Tryz.prog W 0 (fun _ => true) held m 48 ((([c0, c1, c2, c3, c4, c5, c6, c7, c8, c9] : List Value).drop 6).take (Tryz.prog.cellsOf 48)) = some y2 := hf 2 _ rfl
    have h3 : DataW.trod enc Tryz.prog W 0 (fun _ => true) held m 48 ((([c0, c1, c2, c3, c4, c5, c6, c7, c8, c9] : List Value).drop 7).take (Tryz.prog.cellsOf 48)) = some y3 := hf 3 _ rfl
    have h4 : DataW.trod enc Tryz.prog W 0 (fun _ => true) held m 4 ((([c0, c1, c2, c3, c4, c5, c6, c7, c8, c9] : List Value).drop 8).take (Tryz.prog.cellsOf 4)) = some y4 := hf 4 _ rfl
    have h5 : DataW.trod enc Tryz.prog W 0 (fun _ => true) held m 4 ((([c0, c1, c2, c3, c4, c5, c6, c7, c8, c9] : List Value).drop 9).take (Tryz.prog.cellsOf 4)) = some y5 := hf 5 _ rfl
    rw [kcStr] at h0
    rw [kcVec] at h1
    rw [kcLabs] at h2 h3
    rw [kcBool] at h4 h5
    obtain ⟨s, e0, m0⟩ := str_one (enc := enc) (W := W) (held := held) (n := m) (c := c0) (x := y0) h0
    obtain ⟨r, e1, e2, e3, e4, e5⟩ := vec_one (enc := enc) (W := W) (held := held) (n := m) (c0 := c1) (c1 := c2) (c2 := c3) (c3 := c4) (c4 := c5) (x := y1) h1
    obtain ⟨A1, k1, l1, e6, hL1⟩ := labs_one (enc := enc) (W := W) (held := held) (n := m) (c := c6) (x := y2) h2
    obtain ⟨A2, k2, l2, e7, hL2⟩ := labs_one (enc := enc) (W := W) (held := held) (n := m) (c := c7) (x := y3) h3
    obtain ⟨b8, e8⟩ := bool_one (enc := enc) (W := W) (held := held) (n := m) (c := c8) (x := y4) h4
    obtain ⟨b9, e9⟩ := bool_one (enc := enc) (W := W) (held := held) (n := m) (c := c9) (x := y5) h5
    exact ⟨{ name := s, cap := r, labels := l1, taints := l2, cordon := b8, lost := b9, al := A1, cl := k1, at_ := A2, ct := k2 }, by rw [e0, e1, e2, e3, e4, e5, e6, e7, e8, e9], hL1, hL2, kmax m0⟩
set_option maxRecDepth 100000 in
theorem pod_row (n : Nat) (cs : List Value) (x : DataW H × List MemPlace) (h : DataW.trod enc Tryz.prog W 0 (fun _ => true) held n 53 cs = some x) : ∃ y : PodD, cs = [strV y.name, strV y.owner, .int .i64 (y.req 0), .int .i64 (y.req 1), .int .i64 (y.req 2), .int .i64 (y.req 3), .int .i64 (y.req 4), .slice y.al y.labels.length y.cl, .slice y.aw y.whr.length y.cw, .slice y.ab y.bears.length y.cb, strV y.wt, .slice y.awt y.wtm.length y.cwt, strV y.ap, .slice y.aap y.apm.length y.cap, strV y.on] ∧ y.fit W := by
  obtain ⟨xs, m, _, _, hl, hxl, hf⟩ := DataW.trod_struct Tryz.underlying53 h
  rw [kcPod] at hl
  match cs, hl, xs, hxl with
  | [c0, c1, c2, c3, c4, c5, c6, c7, c8, c9, c10, c11, c12, c13, c14], _, [y0, y1, y2, y3, y4, y5, y6, y7, y8], _ =>
    have h0 : DataW.trod enc Tryz.prog W 0 (fun _ => true) held m 9 ((([c0, c1, c2, c3, c4, c5, c6, c7, c8, c9, c10, c11, c12, c13, c14] : List Value).drop 0).take (Tryz.prog.cellsOf 9)) = some y0 := hf 0 _ rfl
    have h1 : DataW.trod enc Tryz.prog W 0 (fun _ => true) held m 9 ((([c0, c1, c2, c3, c4, c5, c6, c7, c8, c9, c10, c11, c12, c13, c14] : List Value).drop 1).take (Tryz.prog.cellsOf 9)) = some y1 := hf 1 _ rfl
    have h2 : DataW.trod enc Tryz.prog W 0 (fun _ => true) held m 47 ((([c0, c1, c2, c3, c4, c5, c6, c7, c8, c9, c10, c11, c12, c13, c14] : List Value).drop 2).take (Tryz.prog.cellsOf 47)) = some y2 := hf 2 _ rfl
    have h3 : DataW.trod enc Tryz.prog W 0 (fun _ => true) held m 48 ((([c0, c1, c2, c3, c4, c5, c6, c7, c8, c9, c10, c11, c12, c13, c14] : List Value).drop 7).take (Tryz.prog.cellsOf 48)) = some y3 := hf 3 _ rfl
    have h4 : DataW.trod enc Tryz.prog W 0 (fun _ => true) held m 49 ((([c0, c1, c2, c3, c4, c5, c6, c7, c8, c9, c10, c11, c12, c13, c14] : List Value).drop 8).take (Tryz.prog.cellsOf 49)) = some y4 := hf 4 _ rfl
    have h5 : DataW.trod enc Tryz.prog W 0 (fun _ => true) held m 48 ((([c0, c1, c2, c3, c4, c5, c6, c7, c8, c9, c10, c11, c12, c13, c14] : List Value).drop 9).take (Tryz.prog.cellsOf 48)) = some y5 := hf 5 _ rfl
    have h6 : DataW.trod enc Tryz.prog W 0 (fun _ => true) held m 51 ((([c0, c1, c2, c3, c4, c5, c6, c7, c8, c9, c10, c11, c12, c13, c14] : List Value).drop 10).take (Tryz.prog.cellsOf 51)) = some y6 := hf 6 _ rfl
    have h7 : DataW.trod enc Tryz.prog W 0 (fun _ => true) held m 51 ((([c0, c1, c2, c3, c4, c5, c6, c7, c8, c9, c10, c11, c12, c13, c14] : List Value).drop 12).take (Tryz.prog.cellsOf 51)) = some y7 := hf 7 _ rfl
    have h8 : DataW.trod enc Tryz.prog W 0 (fun _ => true) held m 9 ((([c0, c1, c2, c3, c4, c5, c6, c7, c8, c9, c10, c11, c12, c13, c14] : List Value).drop 14).take (Tryz.prog.cellsOf 9)) = some y8 := hf 8 _ rfl
    rw [kcStr] at h0 h1 h8
    rw [kcVec] at h2
    rw [kcLabs] at h3 h5
    rw [kcTers] at h4
    rw [kcNear] at h6 h7
    obtain ⟨s0, e0, m0⟩ := str_one (enc := enc) (W := W) (held := held) (n := m) (c := c0) (x := y0) h0
    obtain ⟨s1, e1, m1⟩ := str_one (enc := enc) (W := W) (held := held) (n := m) (c := c1) (x := y1) h1
    obtain ⟨r, e2, e3, e4, e5, e6⟩ := vec_one (enc := enc) (W := W) (held := held) (n := m) (c0 := c2) (c1 := c3) (c2 := c4) (c3 := c5) (c4 := c6) (x := y2) h2
    obtain ⟨A1, k1, l1, e7, hL1⟩ := labs_one (enc := enc) (W := W) (held := held) (n := m) (c := c7) (x := y3) h3
    obtain ⟨A2, k2, l2, e8, hL2⟩ := ters_one (enc := enc) (W := W) (held := held) (n := m) (c := c8) (x := y4) h4
    obtain ⟨A3, k3, l3, e9, hL3⟩ := labs_one (enc := enc) (W := W) (held := held) (n := m) (c := c9) (x := y5) h5
    obtain ⟨s4, A4, k4, l4, e10, m4, e11, hL4⟩ := near_one (enc := enc) (W := W) (held := held) (n := m) (c0 := c10) (c1 := c11) (x := y6) h6
    obtain ⟨s5, A5, k5, l5, e12, m5, e13, hL5⟩ := near_one (enc := enc) (W := W) (held := held) (n := m) (c0 := c12) (c1 := c13) (x := y7) h7
    obtain ⟨s6, e14, m6⟩ := str_one (enc := enc) (W := W) (held := held) (n := m) (c := c14) (x := y8) h8
    exact ⟨{ name := s0, owner := s1, req := r, labels := l1, whr := l2, bears := l3, wt := s4, wtm := l4, ap := s5, apm := l5, on := s6, al := A1, cl := k1, aw := A2, cw := k2, ab := A3, cb := k3, awt := A4, cwt := k4, aap := A5, cap := k5 }, by rw [e0, e1, e2, e3, e4, e5, e6, e7, e8, e9, e10, e11, e12, e13, e14], hL1, hL2, hL3, hL4, hL5, kmax m0, kmax m1, m4, m5, kmax m6⟩
set_option maxRecDepth 100000 in
theorem owner_row (n : Nat) (cs : List Value) (x : DataW H × List MemPlace) (h : DataW.trod enc Tryz.prog W 0 (fun _ => true) held n 102 cs = some x) : ∃ y : OwnD, cs = [strV y.name, .int .i64 y.min, strV y.topo, .int .i64 y.skew, .bool y.single] ∧ y.fit := by
  obtain ⟨xs, m, _, _, hl, hxl, hf⟩ := DataW.trod_struct Tryz.underlying102 h
  rw [kcOwner] at hl
  match cs, hl, xs, hxl with
  | [c0, c1, c2, c3, c4], _, [y0, y1, y2, y3, y4], _ =>
    have h0 : DataW.trod enc Tryz.prog W 0 (fun _ => true) held m 9 ((([c0, c1, c2, c3, c4] : List Value).drop 0).take (Tryz.prog.cellsOf 9)) = some y0 := hf 0 _ rfl
    have h1 : DataW.trod enc Tryz.prog W 0 (fun _ => true) held m 3 ((([c0, c1, c2, c3, c4] : List Value).drop 1).take (Tryz.prog.cellsOf 3)) = some y1 := hf 1 _ rfl
    have h2 : DataW.trod enc Tryz.prog W 0 (fun _ => true) held m 9 ((([c0, c1, c2, c3, c4] : List Value).drop 2).take (Tryz.prog.cellsOf 9)) = some y2 := hf 2 _ rfl
    have h3 : DataW.trod enc Tryz.prog W 0 (fun _ => true) held m 3 ((([c0, c1, c2, c3, c4] : List Value).drop 3).take (Tryz.prog.cellsOf 3)) = some y3 := hf 3 _ rfl
    have h4 : DataW.trod enc Tryz.prog W 0 (fun _ => true) held m 4 ((([c0, c1, c2, c3, c4] : List Value).drop 4).take (Tryz.prog.cellsOf 4)) = some y4 := hf 4 _ rfl
    rw [kcStr] at h0 h2
    rw [kcInt] at h1 h3
    rw [kcBool] at h4
    obtain ⟨s0, e0, m0⟩ := str_one (enc := enc) (W := W) (held := held) (n := m) (c := c0) (x := y0) h0
    obtain ⟨i1, e1⟩ := int_one (enc := enc) (W := W) (held := held) (n := m) (c := c1) (x := y1) h1
    obtain ⟨s2, e2, m2⟩ := str_one (enc := enc) (W := W) (held := held) (n := m) (c := c2) (x := y2) h2
    obtain ⟨i3, e3⟩ := int_one (enc := enc) (W := W) (held := held) (n := m) (c := c3) (x := y3) h3
    obtain ⟨b4, e4⟩ := bool_one (enc := enc) (W := W) (held := held) (n := m) (c := c4) (x := y4) h4
    exact ⟨{ name := s0, min := i1, topo := s2, skew := i3, single := b4 }, by rw [e0, e1, e2, e3, e4], kmax m0, kmax m2⟩
end

/-- A cluster of any length in memory. -/
structure SnapIn (w : World) (A B C : Option Addr) (ca cb cc : Nat) (ns : List NodeD) (ps : List PodD) (os : List OwnD) : Prop where
  n : NodesAt w A ns
  p : PodsAt w B ps
  o : La.SlAt w C (cellsO os)
  fo : ∀ x ∈ os, x.fit
  can : ns.length ≤ ca ∧ ca ≤ 9223372036854775807
  cap : ps.length ≤ cb ∧ cb ≤ 9223372036854775807
  cao : os.length ≤ cc ∧ cc ≤ 9223372036854775807

set_option maxRecDepth 100000 in
theorem open_snap {H : Type} {enc : TypeId × Value → H} {W : World} {r : Reach} {b0 : Nat} {held : Bool} {v : Value} {d : DataW H} {p : List MemPlace}
    (hv : Value.okWide Tryz.prog W r b0 26 v) (h : DataW.Trod enc Tryz.prog W 0 (fun _ => true) held 26 v d p) :
    ∃ A B C ca cb cc ns ps os, v = snapV A B C ca cb cc ns ps os ∧ SnapIn W A B C ca cb cc ns ps os := by
  simp only [Value.okWide, Tryz.underlying26] at hv
  obtain ⟨cs, rfl, _, _⟩ := hv
  obtain ⟨fuel, hf0⟩ := h
  obtain ⟨xs, m, _, _, hl, hxl, hf⟩ := DataW.trod_struct Tryz.underlying26 hf0
  rw [kcSnap] at hl
  obtain ⟨c0, c1, c2, rfl⟩ : ∃ c0 c1 c2, cs = #[c0, c1, c2] := by
    obtain ⟨l⟩ := cs
    match l, hl with
    | [c0, c1, c2], _ => exact ⟨c0, c1, c2, rfl⟩
  match xs, hxl with
  | [y0, y1, y2], _ =>
    have h0 : DataW.trod enc Tryz.prog W 0 (fun _ => true) held m 22 ((([c0, c1, c2] : List Value).drop 0).take (Tryz.prog.cellsOf 22)) = some y0 := hf 0 _ rfl
    have h1 : DataW.trod enc Tryz.prog W 0 (fun _ => true) held m 23 ((([c0, c1, c2] : List Value).drop 1).take (Tryz.prog.cellsOf 23)) = some y1 := hf 1 _ rfl
    have h2 : DataW.trod enc Tryz.prog W 0 (fun _ => true) held m 24 ((([c0, c1, c2] : List Value).drop 2).take (Tryz.prog.cellsOf 24)) = some y2 := hf 2 _ rfl
    rw [kcNodes] at h0
    rw [kcPods] at h1
    rw [kcOwners] at h2
    have g0 : DataW.trod enc Tryz.prog W 0 (fun _ => true) held m 22 [c0] = some y0 := h0
    have g1 : DataW.trod enc Tryz.prog W 0 (fun _ => true) held m 23 [c1] = some y1 := h1
    have g2 : DataW.trod enc Tryz.prog W 0 (fun _ => true) held m 24 [c2] = some y2 := h2
    obtain ⟨A, ca, ns, e0, hs0, l0, k0, f0⟩ := slice_cells (T := NodeD) _ 10 _ Tryz.underlying22 kcNode (by omega) (fun _ => rfl) (fun n cs x h => node_row n cs x h) g0
    obtain ⟨B, cb, ps, e1, hs1, l1, k1, f1⟩ := slice_cells (T := PodD) _ 15 _ Tryz.underlying23 kcPod (by omega) (fun _ => rfl) (fun n cs x h => pod_row n cs x h) g1
    obtain ⟨C, cc, os, e2, hs2, l2, k2, f2⟩ := slice_cells (T := OwnD) _ 5 _ Tryz.underlying24 kcOwner (by omega) (fun _ => rfl) (fun n cs x h => owner_row n cs x h) g2
    simp only [List.cons.injEq, and_true] at e0 e1 e2
    exact ⟨A, B, C, ca, cb, cc, ns, ps, os, by rw [e0, e1, e2], ⟨hs0, f0⟩, ⟨hs1, f1⟩, hs2, f2, ⟨l0, kmax k0⟩, ⟨l1, kmax k1⟩, ⟨l2, kmax k2⟩⟩
theorem flat_ints : ∀ l : List Int, l.flatMap (fun y => [Value.int .i64 y]) = intsC l
  | [] => rfl
  | x :: t => by
    rw [List.flatMap_cons, flat_ints t]
    rfl
set_option maxRecDepth 100000 in
theorem open_intsK {H : Type} {enc : TypeId × Value → H} {W : World} {r : Reach} {b0 : Nat} {held : Bool} {v : Value} {d : DataW H} {p : List MemPlace}
    (hv : Value.okWide Tryz.prog W r b0 27 v) (h : DataW.Trod enc Tryz.prog W 0 (fun _ => true) held 27 v d p) :
    ∃ A c l, v = .slice A (List.length l) c ∧ IntsAt W A c l := by
  obtain ⟨a0, len, cap, rfl⟩ := okWide_slice Tryz.underlying27 hv
  obtain ⟨fuel, hf⟩ := h
  have hf' : DataW.trod enc Tryz.prog W 0 (fun _ => true) held fuel 27 [.slice a0 len cap] = some _ := hf
  obtain ⟨A, c, l, e, hs, h1, h2, hg⟩ := slice_cells (T := Int) (fun y => [.int .i64 y]) 1 (fun _ => True) Tryz.underlying27 kcInt (by omega) (fun _ => rfl) (fun n cs x h => by
    obtain ⟨s, e, _, _⟩ := DataW.trod_int Tryz.underlying3 h
    exact ⟨s, e, trivial⟩) hf'
  simp only [List.cons.injEq, and_true] at e
  refine ⟨A, c, l, e, ?_, h1, kmax h2⟩
  have e2 : l.flatMap (fun y => [Value.int .i64 y]) = intsC l := flat_ints l
  rw [e2] at hs
  exact hs
end Go.Proofs.YtmmokiaipfalmaaGreat

namespace Go.Proofs.YtmmokiaipfalmaaGreat
open Go.RowKit Go.Maps

/-- No more than there may be. -/
def Few (ns : List NodeD) (ps : List PodD) (os : List OwnD) : Prop := ns.length ≤ 8 ∧ ps.length ≤ 24 ∧ os.length ≤ 8
instance (ns : List NodeD) (ps : List PodD) (os : List OwnD) : Decidable (Few ns ps os) := inferInstanceAs (Decidable (_ ∧ _ ∧ _))
theorem SnapIn.at {w : World} {A B C : Option Addr} {ca cb cc : Nat} {ns : List NodeD} {ps : List PodD} {os : List OwnD} (h : SnapIn w A B C ca cb cc ns ps os) (hs : Few ns ps os) : SnapAt w A B C ca cb cc ns ps os :=
  ⟨h.n, h.p, h.o, h.fo, by have := hs.1; omega, by have := hs.2.1; omega, by have := hs.2.2; omega, h.can, h.cap, h.cao⟩
theorem SnapAt.toIn {w : World} {A B C : Option Addr} {ca cb cc : Nat} {ns : List NodeD} {ps : List PodD} {os : List OwnD} (h : SnapAt w A B C ca cb cc ns ps os) : SnapIn w A B C ca cb cc ns ps os := ⟨h.n, h.p, h.o, h.fo, h.can, h.cap, h.cao⟩
theorem SnapIn.low {w w' : World} {A B C : Option Addr} {ca cb cc : Nat} {ns : List NodeD} {ps : List PodD} {os : List OwnD} (h : SnapIn w A B C ca cb cc ns ps os) (hb : Below w.heap.size w w') : SnapIn w' A B C ca cb cc ns ps os :=
  ⟨h.n.below hb, h.p.below hb, h.o.below hb, h.fo, h.can, h.cap, h.cao⟩
theorem clusB_few {ns : List NodeD} {ps : List PodD} {os : List OwnD} (h : clusB ns ps os = true) : Few ns ps os := by
  unfold clusB at h
  simp only [Bool.and_eq_true, decide_eq_true_eq] at h
  obtain ⟨⟨⟨⟨⟨⟨⟨⟨h1, h2⟩, h3⟩, _⟩, _⟩, _⟩, _⟩, _⟩, _⟩ := h
  exact ⟨by omega, by omega, by omega⟩
theorem checkS_few {ns : List NodeD} {ps : List PodD} {os : List OwnD} (h : checkS ns ps os ≠ 50) : Few ns ps os := by
  unfold checkS at h
  cases hc : clusB ns ps os with
  | true => exact clusB_few hc
  | false => rw [hc] at h; exact absurd rfl h
theorem checkS_big {ns : List NodeD} {ps : List PodD} {os : List OwnD} (h : ¬ Few ns ps os) : checkS ns ps os = 50 := Classical.byContradiction fun h' => h (checkS_few h')
theorem placeE_big {ns : List NodeD} {ps : List PodD} {os : List OwnD} (p : List Int) (h : ¬ Few ns ps os) : placeE ns ps os p = 50 := by
  unfold placeE
  rw [checkS_big h]
  rfl
theorem placeE_few {ns : List NodeD} {ps : List PodD} {os : List OwnD} {p : List Int} (h : placeE ns ps os p = 0) : Few ns ps os := Classical.byContradiction fun h' => by
  rw [placeE_big p h'] at h
  cases h

set_option maxRecDepth 100000 in
set_option maxHeartbeats 1000000 in
theorem may_big (A B C : Option Addr) (ca cb cc : Nat) (ns : List NodeD) (ps : List PodD) (os : List OwnD) (w : World) (hs : ¬ Few ns ps os) :
    Calls Tryz.prog 143 #[snapV A B C ca cb cc ns ps os] w fun e w' => e = .returned (.bool false) ∧ Below w.heap.size w w' := by
  have B0 : Hid (Below w.heap.size w (w.alloc (.cells (snapC A B C ca cb cc ns ps os) 26))) := Lib.hid (below1 w _)
  have S0 : Hid (Blk (w.alloc (.cells (snapC A B C ca cb cc ns ps os) 26)) w.heap.size (snapC A B C ca cb cc ns ps os) 26) := Lib.hid (Blk.new w _ _)
  go_enter Tryz.func143, Tryz.ntmps143
  go_upto_region 1 with fail
  try change Code.wp _ _ _ _ (w.alloc (.cells (snapC A B C ca cb cc ns ps os) 26))
  generalize (w.alloc (.cells (snapC A B C ca cb cc ns ps os) 26)) = W at B0 S0 ⊢
  have z0 : W.cell? ⟨w.heap.size, 0, none⟩ = some (.slice A ns.length ca) := Blk.cell S0.out 0
  have z1 : W.cell? ⟨w.heap.size, 1, none⟩ = some (.slice B ps.length cb) := Blk.cell S0.out 1
  have z2 : W.cell? ⟨w.heap.size, 2, none⟩ = some (.slice C os.length cc) := Blk.cell S0.out 2
  by_cases h1 : ns.length ≤ 8
  case neg =>
    have a1 : decide ((ns.length : Int) ≤ 8) = false := by simp; omega
    have b1 : decide (ns.length ≤ 8) = false := by simp; omega
    clear h1
    go_wp2
    go_ret
    exact ⟨rfl, B0.out⟩
  have a1 : decide ((ns.length : Int) ≤ 8) = true := by simp; omega
  have b1 : decide (ns.length ≤ 8) = true := by simp; omega
  by_cases h2 : ps.length ≤ 24
  case neg =>
    have a2 : decide ((ps.length : Int) ≤ 24) = false := by simp; omega
    have b2 : decide (ps.length ≤ 24) = false := by simp; omega
    clear h1 h2
    go_wp2
    go_ret
    exact ⟨rfl, B0.out⟩
  have a2 : decide ((ps.length : Int) ≤ 24) = true := by simp; omega
  have b2 : decide (ps.length ≤ 24) = true := by simp; omega
  have h3 : ¬ os.length ≤ 8 := fun h3 => hs ⟨h1, h2, h3⟩
  have a3 : decide ((os.length : Int) ≤ 8) = false := by simp; omega
  have b3 : decide (os.length ≤ 8) = false := by simp; omega
  clear h1 h2 h3 hs
  go_wp2
  go_ret
  exact ⟨rfl, B0.out⟩
set_option maxRecDepth 100000 in
set_option maxHeartbeats 1000000 in
theorem check_in (A B C : Option Addr) (ca cb cc : Nat) (ns : List NodeD) (ps : List PodD) (os : List OwnD) (w : World) (h : SnapIn w A B C ca cb cc ns ps os) :
    Calls Tryz.prog 71 #[snapV A B C ca cb cc ns ps os] w fun e w' => e = .returned (.int .i64 (checkS ns ps os)) ∧ Below w.heap.size w w' := by
  by_cases hs : Few ns ps os
  · exact check_any A B C ca cb cc ns ps os w (h.at hs)
  rw [checkS_big hs]
  have B0 : Hid (Below w.heap.size w (w.alloc (.cells (snapC A B C ca cb cc ns ps os) 26))) := Lib.hid (below1 w _)
  have S0 : Hid (Blk (w.alloc (.cells (snapC A B C ca cb cc ns ps os) 26)) w.heap.size (snapC A B C ca cb cc ns ps os) 26) := Lib.hid (Blk.new w _ _)
  have KM := Lib.hid (may_big A B C ca cb cc ns ps os (w.alloc (.cells (snapC A B C ca cb cc ns ps os) 26)) hs)
  clear h hs
  go_enter Tryz.func71, Tryz.ntmps71
  go_wp2_with fail
  refine (KM.out).mono ?_
  rintro e w1 ⟨rfl, hb⟩
  have B1 := Lib.hid (B0.out.trans (hb.mono B0.out.size))
  clear hb
  go_wp2
  go_ret
  exact ⟨rfl, B1.out⟩
set_option maxRecDepth 100000 in
set_option maxHeartbeats 1000000 in
theorem pcheck_in (A B C P : Option Addr) (ca cb cc cp : Nat) (ns : List NodeD) (ps : List PodD) (os : List OwnD) (p : List Int) (w : World) (h : SnapIn w A B C ca cb cc ns ps os) (hp : IntsAt w P cp p) :
    Calls Tryz.prog 18 #[snapV A B C ca cb cc ns ps os, .slice P p.length cp] w fun e w' => e = .returned (.int .i64 (placeE ns ps os p)) ∧ Below w.heap.size w w' := by
  by_cases hs : Few ns ps os
  · exact pcheck_any A B C P ca cb cc cp ns ps os p w (h.at hs) hp
  have hE := checkS_big hs
  rw [placeE_big p hs]
  have B0 : Hid (Below w.heap.size w (w.alloc (.cells (snapC A B C ca cb cc ns ps os) 26))) := Lib.hid (below1 w _)
  have S0 : Hid (Blk (w.alloc (.cells (snapC A B C ca cb cc ns ps os) 26)) w.heap.size (snapC A B C ca cb cc ns ps os) 26) := Lib.hid (Blk.new w _ _)
  have KM := Lib.hid (check_in A B C ca cb cc ns ps os (w.alloc (.cells (snapC A B C ca cb cc ns ps os) 26)) (h.low B0.out))
  rw [hE] at KM
  clear h hs hE hp
  go_enter Tryz.func18, Tryz.ntmps18
  go_wp2_with fail
  refine (KM.out).mono ?_
  rintro e w1 ⟨rfl, hb⟩
  have B1 := Lib.hid (B0.out.trans (hb.mono B0.out.size))
  clear hb
  go_wp2
  go_ret
  exact ⟨rfl, B1.out⟩
end Go.Proofs.YtmmokiaipfalmaaGreat

namespace Go.Proofs.YtmmokiaipfalmaaGreat
open Go.RowKit

theorem isPlaceF_any (i n : Int) (w : World) : Calls Tryz.prog 79 #[.int .i64 i, .int .i64 n] w fun e w' => e = .returned (.bool (decide (0 ≤ i) && decide (i < n))) ∧ w' = w := by
  by_cases h0 : 0 ≤ i
  · have t0 : decide (0 ≤ i) = true := decide_eq_true h0
    rw [t0, Bool.true_and]
    clear h0
    go_enter Tryz.func79, Tryz.ntmps79
    go_wp2
    go_ret
    exact ⟨rfl, rfl⟩
  · have t0 : decide (0 ≤ i) = false := decide_eq_false h0
    rw [t0, Bool.false_and]
    clear h0
    go_enter Tryz.func79, Tryz.ntmps79
    go_wp2
    go_ret
    exact ⟨rfl, rfl⟩
theorem either_any (a b : Int) (w : World) : Calls Tryz.prog 152 #[.int .i64 a, .int .i64 b] w fun e w' => e = .returned (.int .i64 (if a = 0 then b else a)) ∧ w' = w := by
  by_cases h0 : a = 0
  · have t0 : (a != 0) = false := by simpa using h0
    rw [if_pos h0]
    clear h0
    go_enter Tryz.func152, Tryz.ntmps152
    go_wp2
    go_ret
    exact ⟨rfl, rfl⟩
  · have t0 : (a != 0) = true := by simpa using h0
    rw [if_neg h0]
    clear h0
    go_enter Tryz.func152, Tryz.ntmps152
    go_wp2
    go_ret
    exact ⟨rfl, rfl⟩
/-- How two nodes compare: by what is left, then by their place. -/
def cmpL (F : Nat → Int) (i j : Nat) : Int := if Lib.compareInt (F i) (F j) = 0 then Lib.compareInt (i : Int) (j : Int) else Lib.compareInt (F i) (F j)
/-- How two pods compare: the greater one is ahead, then by their place. -/
def cmpS (F : Nat → Int) (i j : Nat) : Int := if Lib.compareInt (F j) (F i) = 0 then Lib.compareInt (i : Int) (j : Int) else Lib.compareInt (F j) (F i)
abbrev row_lefts (F : Nat → Int) : Value := .agg #[.int .i64 (F 0), .int .i64 (F 1), .int .i64 (F 2), .int .i64 (F 3), .int .i64 (F 4), .int .i64 (F 5), .int .i64 (F 6), .int .i64 (F 7)]
set_option maxRecDepth 100000 in
set_option maxHeartbeats 4000000 in
theorem lefts_cmp (F : Nat → Int) (i j : Nat) (hi : i < 8) (hj : j < 8) (w : World) : Calls Tryz.prog 75 #[row_lefts F, .int .i64 (i : Int), .int .i64 (j : Int)] w fun e w' => e = .returned (.int .i64 (cmpL F i j)) ∧ Below w.heap.size w w' := by
  have Q0 := Lib.hid (Blk.new w #[.int .i64 (F 0), .int .i64 (F 1), .int .i64 (F 2), .int .i64 (F 3), .int .i64 (F 4), .int .i64 (F 5), .int .i64 (F 6), .int .i64 (F 7)] 109)
  have B0 := Lib.hid (below1 w (.cells #[.int .i64 (F 0), .int .i64 (F 1), .int .i64 (F 2), .int .i64 (F 3), .int .i64 (F 4), .int .i64 (F 5), .int .i64 (F 6), .int .i64 (F 7)] 109))
  have AT : Hid (∀ k : Nat, k < 8 → ((w.alloc (.cells #[.int .i64 (F 0), .int .i64 (F 1), .int .i64 (F 2), .int .i64 (F 3), .int .i64 (F 4), .int .i64 (F 5), .int .i64 (F 6), .int .i64 (F 7)] 109))).cell? ⟨w.heap.size, k, none⟩ = some (.int .i64 (F k))) := Lib.hid (fun k hk => by
    have h := Blk.cell Q0.out k
    rw [h]
    match k, hk with
    | 0, _ => rfl
    | 1, _ => rfl
    | 2, _ => rfl
    | 3, _ => rfl
    | 4, _ => rfl
    | 5, _ => rfl
    | 6, _ => rfl
    | 7, _ => rfl
    | k + 8, hk => omega)
  have KC := Lib.hid (fun x y w => cmp_any x y w)
  have E : Hid (cmpL F i j = if Lib.compareInt (F i) (F j) = 0 then Lib.compareInt (i : Int) (j : Int) else Lib.compareInt (F i) (F j)) := Lib.hid rfl
  generalize cmpL F i j = R at E ⊢
  have i0 : (0 : Int) ≤ (i : Int) := by omega
  have j0 : (0 : Int) ≤ (j : Int) := by omega
  have i1 : (i : Int) < 8 := by omega
  have j1 : (j : Int) < 8 := by omega
  go_enter Tryz.func75, Tryz.ntmps75
  go_upto_region 1 with fail
  try change Code.wp _ _ _ _ (w.alloc (.cells #[.int .i64 (F 0), .int .i64 (F 1), .int .i64 (F 2), .int .i64 (F 3), .int .i64 (F 4), .int .i64 (F 5), .int .i64 (F 6), .int .i64 (F 7)] 109))
  generalize (w.alloc (.cells #[.int .i64 (F 0), .int .i64 (F 1), .int .i64 (F 2), .int .i64 (F 3), .int .i64 (F 4), .int .i64 (F 5), .int .i64 (F 6), .int .i64 (F 7)] 109)) = W0 at Q0 B0 AT ⊢
  have T0 : W0.drew.cell? ⟨w.heap.size, i, none⟩ = some (.int .i64 (F i)) ∧ W0.drew.cell? ⟨w.heap.size, j, none⟩ = some (.int .i64 (F j)) := ⟨AT.out i hi, AT.out j hj⟩
  generalize hx : F i = u at T0 E
  generalize hy : F j = v at T0 E
  have KE : Hid (∀ w, Calls Tryz.prog 152 #[.int .i64 (Lib.compareInt u v), .int .i64 (Lib.compareInt (i : Int) (j : Int))] w fun e w' => e = .returned (.int .i64 R) ∧ w' = w) := Lib.hid (fun w => by rw [E.out]; exact either_any _ _ w)
  clear E
  go_region_held3 (fun w' => w'.cell? ⟨w.heap.size, i, none⟩ = some (.int .i64 u) ∧ w'.cell? ⟨w.heap.size, j, none⟩ = some (.int .i64 v))
    (with_reducible exact T0)
    (first
      | (go_at_call 153; with_reducible refine (KC.out _ _ _).mono ?_; rintro e w3 ⟨rfl, rfl⟩)
      | (go_at_call 152; with_reducible refine (KE.out _).mono ?_; rintro e w3 ⟨rfl, rfl⟩))
  all_goals
    (try go_wp2_with fail)
    go_ret
    exact ⟨rfl, B0.out.drew⟩
end Go.Proofs.YtmmokiaipfalmaaGreat

namespace Go.Proofs.YtmmokiaipfalmaaGreat
open Go.RowKit

set_option maxRecDepth 100000 in
set_option maxHeartbeats 2000000 in
theorem eqInts_anyL (A B : Option Addr) (ca cb : Nat) (l m : List Int) (w : World) (hl : l.length ≤ 9223372036854775807) (ha : IntsAt w A ca l) (hb : IntsAt w B cb m) :
    Calls Tryz.prog 28 #[.slice A l.length ca, .slice B m.length cb] w fun e w' => e = .returned (.bool (decide (l = m))) ∧ Below w.heap.size w w' := by
  by_cases hn : l.length = m.length
  case neg =>
    have hni : ¬ (l.length : Int) = (m.length : Int) := by omega
    have hnb : ((l.length : Int) != (m.length : Int)) = true := by simpa using hni
    have hne : decide (l = m) = false := decide_eq_false (fun e => hn (by rw [e]))
    rw [hne]
    clear ha hb
    go_enter Tryz.func28, Tryz.ntmps28
    go_wp2
    go_ret
    exact ⟨rfl, Below.refl _ _⟩
  have hni : (l.length : Int) = (m.length : Int) := by omega
  have hnb : ((l.length : Int) != (m.length : Int)) = false := by simpa using hni
  have HA := Lib.hid ha
  have HB := Lib.hid hb
  clear ha hb
  obtain ⟨R, hR⟩ : ∃ R, decide (l = m) = R := ⟨_, rfl⟩
  have HR := Lib.hid hR
  rw [hR]
  clear hR
  go_enter Tryz.func28, Tryz.ntmps28
  go_wp2_with fail
  go_loopw [5] (fun i wr => ∃ k : Nat, k ≤ l.length ∧ i = .int .i64 k ∧ (∀ j, j < k → l[j]? = m[j]?) ∧ Below w.heap.size w wr) (fun i _ => l.length - (intOf i).toNat)
  case atStart => exact ⟨0, by omega, rfl, fun j h => by omega, Below.refl _ _⟩
  case round =>
    obtain ⟨k, hk, rfl, hnk, hbw⟩ := hrel
    have HN := Lib.hid hnk
    have HW := Lib.hid hbw
    clear hnk hbw
    by_cases hlt : k < l.length
    · obtain ⟨x, hx⟩ : ∃ x, l[k]? = some x := ⟨l[k], List.getElem?_eq_getElem hlt⟩
      obtain ⟨y, hy⟩ : ∃ y, m[k]? = some y := ⟨m[k]'(by omega), List.getElem?_eq_getElem (by omega)⟩
      obtain ⟨b1, o1, hA1, hbl1, c1⟩ := atI (HA.out.below HW.out).cells hx
      obtain ⟨b2, o2, hA2, hbl2, c2⟩ := atI (HB.out.below HW.out).cells hy
      subst hA1 hA2
      have HX := Lib.hid hx
      have HY := Lib.hid hy
      have k0 : (0 : Int) ≤ (k : Int) := by omega
      have k1 : (k : Int) < (l.length : Int) := by omega
      have k2 : (k : Int) < (m.length : Int) := by omega
      clear hx hy
      by_cases hxy : x = y
      · subst hxy
        have hxb : (x != x) = false := by simp
        go_wp2_with fail
        go_region
        go_wp2
        go_roundw
        case rel =>
          refine ⟨k + 1, by omega, by go_num, fun j hj => ?_, by first | exact HW.out | exact HW.out.drew | exact La.belowN HW.out _⟩
          by_cases hjk : j = k
          · subst hjk
            rw [HX.out, HY.out]
          · exact HN.out j (by omega)
        case measure => simp [intOf]; omega
      · have hxb : (x != y) = true := by simpa using hxy
        have HE : Hid (false = R) := Lib.hid (by
          rw [← HR.out]
          symm
          refine decide_eq_false (fun e => hxy ?_)
          have h1 := HX.out
          rw [e, HY.out] at h1
          exact (Option.some.inj h1).symm)
        go_wp2_with fail
        go_region
        go_wp2
        go_ret
        exact ⟨La.retB HE.out, by first | exact HW.out | exact HW.out.drew | exact La.belowN HW.out _⟩
    · obtain rfl : k = l.length := by omega
      have HE : Hid (true = R) := Lib.hid (by
        rw [← HR.out]
        symm
        refine decide_eq_true (List.ext_getElem? fun j => ?_)
        by_cases hj : j < l.length
        · exact HN.out j hj
        · rw [List.getElem?_eq_none (by omega), List.getElem?_eq_none (by omega)])
      go_wp2
      go_ret
      exact ⟨La.retB HE.out, HW.out⟩

/-- Numbers that can be copied. -/
structure NumsIn (w : World) (P : Option Addr) (cp : Nat) (l : List Int) : Prop where
  ints : IntsAt w P cp l
  nil : P = none → cp = 0
  few : l.length * 8 ≤ 140737488355328
theorem NumsIn.below {w w' : World} {P : Option Addr} {cp : Nat} {l : List Int} (h : NumsIn w P cp l) (hb : Below w.heap.size w w') : NumsIn w' P cp l := ⟨h.ints.below hb, h.nil, h.few⟩
theorem NumsIn.own {w : World} {base : Nat} {A : Option Addr} {c : Nat} {l : List Int} (h : w.ownsRow base 3 1 (.slice A l.length c) l.length (intsC l)) (hl : l.length * 8 ≤ 140737488355328) : NumsIn w A c l := by
  refine ⟨IntsAt.own h, fun e => ?_, hl⟩
  subst e
  rcases h.2 with ⟨hv, _⟩ | ⟨g, cap, cur, hv, _⟩
  · simp only [Value.slice.injEq] at hv
    exact hv.2.2
  · cases hv
theorem noneI {w : World} {l : List Int} (h : La.SlAt w none (intsC l)) : l = [] := by
  cases l with
  | nil => rfl
  | cons x t =>
    obtain ⟨b, o, hA, _⟩ := atI h (k := 0) (x := x) rfl
    cases hA
end Go.Proofs.YtmmokiaipfalmaaGreat

namespace Go.Proofs.YtmmokiaipfalmaaGreat
open Go.RowKit

theorem flat_take {T : Type} (f : T → List Value) (l : List T) (n : Nat) {j : Nat} {y : Value} (h : ((l.take n).flatMap f)[j]? = some y) : (l.flatMap f)[j]? = some y := by
  have e : l.flatMap f = (l.take n).flatMap f ++ (l.drop n).flatMap f := by rw [← List.flatMap_append, List.take_append_drop]
  rw [e, List.getElem?_append_left (List.getElem?_eq_some_iff.1 h).1]
  exact h
theorem SnapIn.take {w : World} {A B C : Option Addr} {ca cb cc : Nat} {ns : List NodeD} {ps : List PodD} {os : List OwnD} (h : SnapIn w A B C ca cb cc ns ps os) : SnapAt w A B C ca cb cc (ns.take 12) (ps.take 30) (os.take 12) := by
  refine ⟨⟨fun j y hj => h.n.cells j y (flat_take _ ns 12 hj), fun x hx => h.n.fit x (List.mem_of_mem_take hx)⟩, ⟨fun j y hj => h.p.cells j y (flat_take _ ps 30 hj), fun x hx => h.p.fit x (List.mem_of_mem_take hx)⟩, fun j y hj => h.o j y (flat_take _ os 12 hj), fun x hx => h.fo x (List.mem_of_mem_take hx), ?_, ?_, ?_, ⟨?_, h.can.2⟩, ⟨?_, h.cap.2⟩, ⟨?_, h.cao.2⟩⟩
  · simp; omega
  · simp; omega
  · simp; omega
  · have := h.can.1; simp; omega
  · have := h.cap.1; simp; omega
  · have := h.cao.1; simp; omega

theorem snap_sizeK : (Tryz.prog.info? 26).map (·.size) = some 3 := by kernel_rfl
end Go.Proofs.YtmmokiaipfalmaaGreat

namespace Go.Proofs.YtmmokiaipfalmaaGreat.Qu
open Go.RowKit

theorem neg_lt_tmod (i : Int) {n : Int} (hn : 0 < n) : -n < i.tmod n := by
  have h := Int.tmod_lt_of_pos (-i) hn
  rw [Int.neg_tmod] at h
  omega
theorem emod_of_tmod (i n : Int) : i % n = i.tmod n % n := by
  conv => lhs; rw [← Int.mul_tdiv_add_tmod i n]
  rw [Int.mul_add_emod_self_left]
theorem emod_neg {i n : Int} (hn : 0 < n) (h : i.tmod n < 0) : i % n = i.tmod n + n := by
  have h1 : -n < i.tmod n := by
    have := neg_lt_tmod i hn
    omega
  rw [emod_of_tmod i n, ← Int.add_emod_right]
  exact Int.emod_eq_of_lt (by omega) (by omega)
theorem emod_pos {i n : Int} (hn : 0 < n) (h : ¬ i.tmod n < 0) : i % n = i.tmod n := by
  rw [emod_of_tmod i n]
  exact Int.emod_eq_of_lt (by omega) (Int.tmod_lt_of_pos i hn)

set_option maxHeartbeats 400000 in
theorem bring_any (i n : Int) (w : World) (hn : 0 < n) (hn' : n ≤ 4611686018427387904) :
    Calls Tryz.prog 70 #[.int .i64 i, .int .i64 n] w fun e w' => e = .returned (.int .i64 (i % n)) ∧ w = w' := by
  have hlt := Int.tmod_lt_of_pos i hn
  have hgt := neg_lt_tmod i hn
  have Hw : Hid (IntKind.i64.wrap (i.tmod n) = i.tmod n) := IntWalk.i64_in _ (by omega)
  by_cases h : i.tmod n < 0
  · have He := Lib.hid (emod_neg hn h)
    have Hw2 : Hid (IntKind.i64.wrap (i.tmod n + n) = i.tmod n + n) := IntWalk.i64_in _ (by omega)
    have hz : ¬ n = 0 := by omega
    go_enter Tryz.func70, Tryz.ntmps70
    go_wp2
    go_ret
    exact ⟨retI He.out.symm, rfl⟩
  · have He := Lib.hid (emod_pos hn h)
    have hz : ¬ n = 0 := by omega
    go_enter Tryz.func70, Tryz.ntmps70
    go_wp2
    go_ret
    exact ⟨retI He.out.symm, rfl⟩

end Go.Proofs.YtmmokiaipfalmaaGreat.Qu

namespace Go.Proofs.YtmmokiaipfalmaaGreat
open Go.RowKit

/-- The node that a number names. -/
def fitN (ns : List NodeD) (l : List Int) (k : Nat) : Int := match l[k]? with
  | some x => x % ((ns.length : Int) + 1) - 1
  | none => -1
/-- .. if pods may be there; else none. -/
def fit1 (ns : List NodeD) (l : List Int) (k : Nat) : Int := if tpB ns (fitN ns l k) then fitN ns l k else -1
def fitU (ns : List NodeD) (l : List Int) : Nat → List Int
  | 0 => []
  | k + 1 => fitU ns l k ++ [fit1 ns l k]
theorem fitU_len (ns : List NodeD) (l : List Int) : ∀ k, (fitU ns l k).length = k
  | 0 => rfl
  | k + 1 => by rw [fitU, List.length_append, fitU_len ns l k]; rfl
theorem fitN_in (ns : List NodeD) (l : List Int) (k : Nat) : fitN ns l k = -1 ∨ (0 ≤ fitN ns l k ∧ fitN ns l k < (ns.length : Int)) := by
  unfold fitN
  cases l[k]? with
  | none => exact .inl rfl
  | some x =>
    dsimp only
    have h1 := Int.emod_nonneg x (show (ns.length : Int) + 1 ≠ 0 by omega)
    have h2 := Int.emod_lt_of_pos x (show (0 : Int) < (ns.length : Int) + 1 by omega)
    omega
end Go.Proofs.YtmmokiaipfalmaaGreat

namespace Go.Proofs.YtmmokiaipfalmaaGreat
open Go.RowKit

theorem placeE_zero {ns : List NodeD} {ps : List PodD} {os : List OwnD} {p : List Int} (h : placeE ns ps os p = 0) : checkS ns ps os = 0 ∧ p.length = ps.length ∧ ∀ x ∈ p, okB ns x = true := by
  unfold placeE at h
  by_cases h0 : checkS ns ps os = 0
  · rw [if_pos h0] at h
    by_cases h1 : p.length = ps.length
    · rw [if_pos h1] at h
      by_cases h2 : p.all (okB ns) = true
      · exact ⟨h0, h1, List.all_eq_true.1 h2⟩
      · rw [if_neg h2] at h
        cases h
    · rw [if_neg h1] at h
      cases h
  · rw [if_neg h0] at h
    exact absurd h h0
theorem placeE_of {ns : List NodeD} {ps : List PodD} {os : List OwnD} {p : List Int} (h0 : checkS ns ps os = 0) (h1 : p.length = ps.length) (h2 : ∀ x ∈ p, okB ns x = true) : placeE ns ps os p = 0 := by
  unfold placeE
  rw [if_pos h0, if_pos h1, if_pos (List.all_eq_true.2 h2)]
theorem ok_none (ns : List NodeD) : okB ns (-1) = true := rfl
theorem placeE_set {ns : List NodeD} {ps : List PodD} {os : List OwnD} {p : List Int} (h : placeE ns ps os p = 0) (k : Nat) {x : Int} (hx : okB ns x = true) : placeE ns ps os (p.set k x) = 0 := by
  obtain ⟨h0, h1, h2⟩ := placeE_zero h
  refine placeE_of h0 (by rw [List.length_set, h1]) ?_
  intro y hy
  rcases List.mem_or_eq_of_mem_set hy with hy | rfl
  · exact h2 y hy
  · exact hx
end Go.Proofs.YtmmokiaipfalmaaGreat

namespace Go.Proofs.YtmmokiaipfalmaaGreat
open Go.RowKit

theorem wrap_step (s x : Int) : wrap64 (wrap64 s + x) = wrap64 (s + x) := by
  unfold wrap64
  omega
/-- What a pod asks for. -/
def reqAt (ps : List PodD) (k y : Nat) : Int := match ps[y]? with
  | some x => x.req k
  | none => 0
def reqS (ps : List PodD) (k : Nat) (ys : List Nat) : Int := (ys.map (reqAt ps k)).sum
theorem addW_from (ps : List PodD) (k : Nat) : ∀ (ys : List Nat) (s : Int), ys.foldl (fun a y => wrap64 (a + (match ps[y]? with | some x => x.req k | none => 0))) (wrap64 s) = wrap64 (s + reqS ps k ys)
  | [], s => by simp [reqS]
  | y :: t, s => by
    rw [List.foldl_cons, wrap_step]
    have := addW_from ps k t (s + reqAt ps k y)
    unfold reqAt at this
    rw [this]
    unfold reqS
    rw [List.map_cons, List.sum_cons, ← Int.add_assoc]
    rfl
theorem addW_is (ps : List PodD) (k : Nat) (ys : List Nat) : addW ps ys k = wrap64 (reqS ps k ys) := by
  have := addW_from ps k ys 0
  rw [show wrap64 0 = 0 by unfold wrap64; omega, Int.zero_add] at this
  exact this
end Go.Proofs.YtmmokiaipfalmaaGreat
