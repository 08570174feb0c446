/- A pod more on a node makes none of its shares less, and no other node's another one: the law's walk. Condition: the cluster lies in memory; a number for each of its pods does, too. A cluster as an argument, opened: how many bytes its pods take; four numbers in a row. No conditions but the form's own. -/
import Derived.Test.YtmdmjnffnjlgmaaA06
import Derived.Handy
import Derived.StillTailTactics
import Derived.SizedLaws

namespace Go.Proofs.Ytmdmjnffnjlgmaa
open Go.RowKit

theorem bringH (i : Int) (n : Nat) (hn : 0 < n) (hn' : n ≤ 1000) : ∃ k : Nat, k < n ∧ ∀ w, Calls Try.prog 15 #[.int .i64 i, .int .i64 (n : Int)] w fun e w' => e = .returned (.int .i64 (k : Int)) ∧ w' = w := by
  have h1 := Int.emod_nonneg i (show (n : Int) ≠ 0 by omega)
  have h2 := Int.emod_lt_of_pos i (show (0 : Int) < (n : Int) by omega)
  refine ⟨(i % (n : Int)).toNat, by omega, fun w => ?_⟩
  have h := Qu.bring_any i (n : Int) w (by omega) (by omega)
  rw [Int.toNat_of_nonneg h1]
  exact h.mono fun e w' ⟨a, b⟩ => ⟨a, b.symm⟩
theorem quietB {v : Value} {f : FuncId} {args : Array Value} {w : World} {n : Nat} (h : ∀ w, Calls Try.prog f args w fun e w' => e = .returned v ∧ w' = w) : Calls Try.prog f args (w.drewN n) fun e w' => e = .returned v ∧ ∃ m, w' = w.drewN m :=
  (h _).mono fun _ _ ⟨a, b⟩ => ⟨a, n, b⟩
theorem below_tH {w W X : World} (h : Below w.heap.size w W) (hb : Below W.heap.size W X) : Below w.heap.size w X := h.trans (hb.mono h.size)
theorem size_drewH (w : World) : w.drew.heap.size = w.heap.size := rfl
theorem blk_cH {W X : World} {g : Nat} {cs : Array Value} {t : TypeId} (h : Blk W g cs t) (hb : Below W.heap.size W X) : Blk X g cs t := h.below hb h.lt
theorem blk_setH {w : World} {g : Nat} {a b x y : Int} {t : TypeId} (h : Blk w g #[.int .i64 a, .int .i64 b] t) : Blk ((w.setCell ⟨g, 0, none⟩ (.int .i64 x)).setCell ⟨g, 1, none⟩ (.int .i64 y)) g #[.int .i64 x, .int .i64 y] t := (h.set 0 _).set 1 _
theorem below_dH' {B : Nat} {w W : World} (h : Below B w W) : Below B w W.drew := h.drew
theorem l2H (w : World) (cs : Array Value) (t : TypeId) (o : Obj) : Blk ((w.alloc o).alloc (.cells cs t)) (w.heap.size + 1) cs t := blk2 w o cs t
theorem setZH {w : World} {g : Nat} {x y : Int} {t : TypeId} (h : Blk w g #[.int .i64 0, .int .i64 0] t) : Blk ((w.setCell ⟨g, 0, none⟩ (.int .i64 x)).setCell ⟨g, 1, none⟩ (.int .i64 y)) g #[.int .i64 x, .int .i64 y] t := blk_setH h
theorem othZH {w : World} {g g' : Nat} {cs : Array Value} {t : TypeId} {u v : Value} (h : Blk w g cs t) (hne : g ≠ g') : Blk ((w.setCell ⟨g', 0, none⟩ u).setCell ⟨g', 1, none⟩ v) g cs t := (h.oth hne 0 u).oth hne 1 v
theorem own_othH {w : World} {base : Nat} {e : TypeId} {sz n m c : Nat} {g j : Nat} {xs : List Value} (ho : w.ownsRow base e sz (.slice (some ⟨g, 0, none⟩) m c) n xs) (hne : j ≠ g) (i : Nat) (u : Value) : (w.setCell ⟨j, i, none⟩ u).ownsRow base e sz (.slice (some ⟨g, 0, none⟩) m c) n xs := by
  obtain ⟨hl, h1 | ⟨g', cap, cur, hv, hb, hg, r⟩⟩ := ho
  · exact ⟨hl, .inl h1⟩
  · cases hv
    refine ⟨hl, .inr ⟨_, _, cur, rfl, hb, (Below.heap_setCell w ⟨j, i, none⟩ u _ ?_).trans hg, r⟩⟩
    intro e'
    exact hne e'.symm
theorem below_nH {B : Nat} {w w' : World} (h : Below B w w') (n : Nat) : Below B w (w'.drewN n) := h.trans ⟨rfl, rfl, rfl, Nat.le_refl _, fun _ _ => rfl⟩

set_option maxRecDepth 100000 in
set_option maxHeartbeats 16000000 in
theorem heatGrows_law (A B C : Option Addr) (ca cb cc : Nat) (ns : List NodeD) (ps : List PodD) (os : List OwnD) (pod node : Int) (w : World) (h : SnapIn w A B C ca cb cc ns ps os) (hm : ps.length * 8 ≤ 140737488355328) :
    Calls Try.prog 4 #[snapV A B C ca cb cc ns ps os, .int .i64 pod, .int .i64 node] w fun e w' => e = .returned (.bool true) ∧ Below w.heap.size w w' := by
  have H := Lib.hid h
  have HM := Lib.hid hm
  have KW := Lib.hid works12_any
  have B0 : Hid (Below w.heap.size w (w.alloc (.cells (snapC A B C ca cb cc ns ps os) 26))) := Lib.hid (below1 w _)
  have S0 : Hid (Blk (w.alloc (.cells (snapC A B C ca cb cc ns ps os) 26)) w.heap.size (snapC A B C ca cb cc ns ps os) 26) := Lib.hid (Blk.new w _ _)
  have KP := Lib.hid (placement_in A B C ca cb cc ns ps os (w.alloc (.cells (snapC A B C ca cb cc ns ps os) 26)) (h.low B0.out) hm)
  have HL := Lib.hid (placesP_len ns ps)
  rw [placesP_len] at KP
  generalize placesP ns ps = p at KP HL
  clear h hm
  go_enter Try.func4, Try.ntmps4
  go_upto_region 1 with fail
  generalize (w.alloc (.cells (snapC A B C ca cb cc ns ps os) 26)) = W0 at B0 S0 KP ⊢
  have z0 : W0.cell? ⟨w.heap.size, 0, none⟩ = some (.slice A ns.length ca) := Blk.cell S0.out 0
  have z1 : W0.cell? ⟨w.heap.size, 1, none⟩ = some (.slice B ps.length cb) := Blk.cell S0.out 1
  have z2 : W0.cell? ⟨w.heap.size, 2, none⟩ = some (.slice C os.length cc) := Blk.cell S0.out 2
  go_wp2_with fail
  refine (KP.out).mono ?_
  rintro e W1 ⟨X, cx, rfl, ho, hb⟩
  have O1 : Hid (W1.ownsRow w.heap.size 3 1 (.slice X ps.length cx) ps.length (intsC p)) := Lib.hid (own_moreH ho B0.out.size)
  have S1 := Lib.hid (S0.out.below hb S0.out.lt)
  have B1 := Lib.hid (B0.out.trans (hb.mono B0.out.size))
  clear hb ho KP z0 z1 z2 S0 B0
  have KC := Lib.hid (pcheck_in A B C X ca cb cc cx ns ps os p W1 (H.out.low B1.out) (IntsAt.own (by rw [HL.out]; exact O1.out)))
  rw [HL.out] at KC
  have HE := Lib.hid (fun hE : placeE ns ps os p = 0 => hE)
  obtain ⟨E, hEE⟩ : ∃ E, placeE ns ps os p = E := ⟨_, rfl⟩
  have HEE := Lib.hid hEE
  rw [hEE] at KC
  clear HE hEE
  have z0 : W1.cell? ⟨w.heap.size, 0, none⟩ = some (.slice A ns.length ca) := Blk.cell S1.out 0
  have z1 : W1.cell? ⟨w.heap.size, 1, none⟩ = some (.slice B ps.length cb) := Blk.cell S1.out 1
  have z2 : W1.cell? ⟨w.heap.size, 2, none⟩ = some (.slice C os.length cc) := Blk.cell S1.out 2
  go_wp2_with fail
  refine (KC.out).mono ?_
  rintro e W2 ⟨rfl, hb⟩
  have O2 : Hid (W2.ownsRow w.heap.size 3 1 (.slice X ps.length cx) ps.length (intsC p)) := Lib.hid (La.own_below O1.out hb)
  have S2 := Lib.hid (S1.out.below hb S1.out.lt)
  have B2 := Lib.hid (B1.out.trans (hb.mono B1.out.size))
  clear hb KC z0 z1 z2 S1 B1 O1
  have z0 : W2.cell? ⟨w.heap.size, 0, none⟩ = some (.slice A ns.length ca) := Blk.cell S2.out 0
  have z1 : W2.cell? ⟨w.heap.size, 1, none⟩ = some (.slice B ps.length cb) := Blk.cell S2.out 1
  have z2 : W2.cell? ⟨w.heap.size, 2, none⟩ = some (.slice C os.length cc) := Blk.cell S2.out 2
  by_cases hE : E = 0
  case neg =>
    have hE1 : (E == 0) = false := by simpa using hE
    have hE2 : decide (E = 0) = false := decide_eq_false hE
    go_wp2_with fail
    refine (KW.out _).mono ?_
    rintro e w9 ⟨rfl, hb⟩
    have D := Lib.hid (B2.out.trans (hb.mono B2.out.size))
    clear hb
    go_wp2
    go_ret
    exact ⟨rfl, D.out⟩
  subst hE
  by_cases hp0 : 0 < ps.length
  case neg =>
    have hp9 : ps = [] := List.eq_nil_of_length_eq_zero (by omega)
    subst hp9
    go_wp2_with fail
    refine (KW.out _).mono ?_
    rintro e w9 ⟨rfl, hb⟩
    have D := Lib.hid (B2.out.trans (hb.mono B2.out.size))
    clear hb
    go_wp2
    go_ret
    exact ⟨rfl, D.out⟩
  have hp1 : (ps.length : Int) ≠ 0 := by omega
  have hp2 : ((ps.length : Int) == 0) = false := by simpa using hp1
  have hp3 : ps ≠ [] := by rintro rfl; simp at hp0
  have hp4 : decide (ps.length = 0) = false := decide_eq_false (by omega)
  by_cases hn0 : 0 < ns.length
  case neg =>
    have hn9 : ns = [] := List.eq_nil_of_length_eq_zero (by omega)
    subst hn9
    go_wp2_with fail
    refine (KW.out _).mono ?_
    rintro e w9 ⟨rfl, hb⟩
    have D := Lib.hid (B2.out.trans (hb.mono B2.out.size))
    clear hb
    go_wp2
    go_ret
    exact ⟨rfl, D.out⟩
  have hn1 : (ns.length : Int) ≠ 0 := by omega
  have hn2 : ((ns.length : Int) == 0) = false := by simpa using hn1
  have hn3 : ns ≠ [] := by rintro rfl; simp at hn0
  have hn4 : decide (ns.length = 0) = false := decide_eq_false (by omega)
  have hfw := placeE_few HEE.out
  have hf1 := hfw.1
  have hf2 := hfw.2.1
  have HF := Lib.hid hfw
  obtain ⟨k, hk, KB1⟩ := bringH pod ps.length hp0 (by omega)
  obtain ⟨n, hn, KB2⟩ := bringH node ns.length hn0 (by omega)
  have HB1 := Lib.hid KB1
  have HB2 := Lib.hid KB2
  have HK := Lib.hid hk
  have HN := Lib.hid hn
  clear KB1 KB2 hfw hf1 hf2
  go_upto_region 6 with fail
  go_quiet (first | (go_at_call 15; with_reducible exact quietB HB1.out) | (go_at_call 15; with_reducible exact quietB HB2.out))
  have O3 : Hid ((W2.drewN nq).ownsRow w.heap.size 3 1 (.slice X ps.length cx) ps.length (intsC p)) := Lib.hid (La.own_below O2.out (below_nH (Below.refl _ _) nq))
  have S3 := Lib.hid (S2.out.below (below_nH (Below.refl _ _) nq) S2.out.lt)
  have B3 := Lib.hid (below_nH B2.out nq)
  clear O2 S2 B2 z0 z1 z2 hp1 hp2 hp3 hp4 hn1 hn2 hn3 hn4
  generalize W2.drewN nq = W3 at O3 S3 B3 ⊢
  have z0 : W3.cell? ⟨w.heap.size, 0, none⟩ = some (.slice A ns.length ca) := Blk.cell S3.out 0
  have z1 : W3.cell? ⟨w.heap.size, 1, none⟩ = some (.slice B ps.length cb) := Blk.cell S3.out 1
  have z2 : W3.cell? ⟨w.heap.size, 2, none⟩ = some (.slice C os.length cc) := Blk.cell S3.out 2
  have NX : Hid (NumsIn W3 X cx p) := Lib.hid (NumsIn.own (by rw [HL.out]; exact O3.out) (by have := HM.out; rw [HL.out]; exact this))
  have KQ1 := Lib.hid (copyInts_any X cx p W3 NX.out)
  rw [HL.out] at KQ1
  go_wp2_with fail
  refine (KQ1.out).mono ?_
  rintro e W4 ⟨va, rfl, ho, hb⟩
  obtain ⟨Qa, cqa, rfl, _⟩ := La.own_slice ho
  have OA4 : Hid (W4.ownsRow W3.heap.size 3 1 (.slice Qa ps.length cqa) ps.length (intsC p)) := Lib.hid ho
  have KQ2 := Lib.hid (copyInts_any X cx p W4 (NX.out.below hb))
  rw [HL.out] at KQ2
  have S4 := Lib.hid (S3.out.below hb S3.out.lt)
  have B4 := Lib.hid (B3.out.trans (hb.mono B3.out.size))
  have hG3 : Hid (w.heap.size < W3.heap.size) := Lib.hid S3.out.lt
  clear hb ho KQ1 z0 z1 z2 S3 B3 O3 NX
  generalize W3.heap.size = G3 at OA4 hG3
  have z0 : W4.cell? ⟨w.heap.size, 0, none⟩ = some (.slice A ns.length ca) := Blk.cell S4.out 0
  have z1 : W4.cell? ⟨w.heap.size, 1, none⟩ = some (.slice B ps.length cb) := Blk.cell S4.out 1
  have z2 : W4.cell? ⟨w.heap.size, 2, none⟩ = some (.slice C os.length cc) := Blk.cell S4.out 2
  go_wp2_with fail
  refine (KQ2.out).mono ?_
  rintro e W5 ⟨vb, rfl, ho, hb⟩
  obtain ⟨Qb, cqb, rfl, _⟩ := La.own_slice ho
  have hkp : Hid (k < p.length) := Lib.hid (by have := HL.out; have := HK.out; omega)
  obtain ⟨v0, hv0⟩ : ∃ v0, p[k]? = some v0 := ⟨_, List.getElem?_eq_getElem hkp.out⟩
  have hck : (intsC p)[k]? = some (.int .i64 v0) := by unfold intsC; rw [List.getElem?_map, hv0]; rfl
  obtain ⟨ga, cura, hA', hga, hgba, hgca⟩ := own_blk OA4.out hck
  subst hA'
  have hga4 : Hid (ga < W4.heap.size) := Lib.hid hgba.lt
  have OA5 : Hid (W5.ownsRow G3 3 1 (.slice (some ⟨ga, 0, none⟩) ps.length cqa) ps.length (intsC p)) := Lib.hid (La.own_below OA4.out hb)
  have CA5 := hgba.below hb hgba.lt
  obtain ⟨gb, curb, hB', hgb, hgbb, hgcb⟩ := own_blk ho hck
  subst hB'
  have OB5 : Hid (W5.ownsRow W4.heap.size 3 1 (.slice (some ⟨gb, 0, none⟩) ps.length cqb) ps.length (intsC p)) := Lib.hid ho
  have S5 := Lib.hid (S4.out.below hb S4.out.lt)
  have B5 := Lib.hid (B4.out.trans (hb.mono B4.out.size))
  have HAB : Hid (w.heap.size < ga ∧ ga < gb) := Lib.hid ⟨by have := hG3.out; omega, by have := hga4.out; omega⟩
  have HGB : Hid (W4.heap.size ≤ gb) := Lib.hid hgb
  generalize W4.heap.size = G4 at OB5 hga4 HGB
  have a0 : W5.cell? ⟨ga, k, none⟩ = some (.int .i64 v0) := (Blk.cell CA5 k).trans hgca
  have a1 : W5.frozen? ⟨ga, k, none⟩ = false := Blk.free CA5 k
  have b0 : W5.cell? ⟨gb, k, none⟩ = some (.int .i64 v0) := (Blk.cell hgbb k).trans hgcb
  have b1 : W5.frozen? ⟨gb, k, none⟩ = false := Blk.free hgbb k
  have hkk := HK.out
  have k0 : (0 : Int) ≤ (k : Int) := by omega
  have k1 : (k : Int) < (ps.length : Int) := by omega
  have habn : ga ≠ gb := by have := HAB.out; omega
  have habm : gb ≠ ga := by have := HAB.out; omega
  have hwa : w.heap.size ≠ ga := by have := HAB.out; omega
  have hwb : w.heap.size ≠ gb := by have := HAB.out; omega
  clear hb ho hga hgba hgca CA5 hgb hgbb hgcb hck S4 B4 OA4 KQ2 z0 z1 z2
  have OA6 : Hid (((W5.setCell ⟨ga, k, none⟩ (.int .i64 (-1))).setCell ⟨gb, k, none⟩ (.int .i64 (n : Int))).ownsRow G3 3 1 (.slice (some ⟨ga, 0, none⟩) ps.length cqa) ps.length (intsC (p.set k (-1)))) := Lib.hid (by
    have h1 := own_put OA5.out k (.int .i64 (-1))
    rw [ints_set] at h1
    exact own_othH h1 habm k _)
  have OB6 : Hid (((W5.setCell ⟨ga, k, none⟩ (.int .i64 (-1))).setCell ⟨gb, k, none⟩ (.int .i64 (n : Int))).ownsRow G4 3 1 (.slice (some ⟨gb, 0, none⟩) ps.length cqb) ps.length (intsC (p.set k (n : Int)))) := Lib.hid (by
    have h1 := own_put (own_othH OB5.out habn k (.int .i64 (-1))) k (.int .i64 (n : Int))
    rw [ints_set] at h1
    exact h1)
  have S6 : Hid (Blk ((W5.setCell ⟨ga, k, none⟩ (.int .i64 (-1))).setCell ⟨gb, k, none⟩ (.int .i64 (n : Int))) w.heap.size (snapC A B C ca cb cc ns ps os) 26) := Lib.hid ((S5.out.oth hwa k _).oth hwb k _)
  have B6 : Hid (Below w.heap.size w ((W5.setCell ⟨ga, k, none⟩ (.int .i64 (-1))).setCell ⟨gb, k, none⟩ (.int .i64 (n : Int)))) := Lib.hid ((B5.out.setCell (p := ⟨ga, k, none⟩) (by show w.heap.size ≤ ga; have := HAB.out; omega) _).setCell (p := ⟨gb, k, none⟩) (by show w.heap.size ≤ gb; have := HAB.out; omega) _)
  have HE6 : Hid (∃ y, ((W5.setCell ⟨ga, k, none⟩ (.int .i64 (-1))).setCell ⟨gb, k, none⟩ (.int .i64 (n : Int))).cell? ⟨gb, k, none⟩ = some y) := Lib.hid (by
    obtain ⟨g, cur, hA, _, hgb, hgc⟩ := own_blk OB6.out (k := k) (y := .int .i64 ((p.set k (n : Int))[k]'(by rw [List.length_set]; exact hkp.out))) (by unfold intsC; rw [List.getElem?_map, List.getElem?_eq_getElem (by rw [List.length_set]; exact hkp.out)]; rfl)
    cases hA
    exact ⟨_, (Blk.cell hgb k).trans hgc⟩)
  have HF6 : Hid (((W5.setCell ⟨ga, k, none⟩ (.int .i64 (-1))).setCell ⟨gb, k, none⟩ (.int .i64 (n : Int))).frozen? ⟨gb, k, none⟩ = false) := Lib.hid (by
    obtain ⟨g, cur, hA, _, hgb, hgc⟩ := own_blk OB6.out (k := k) (y := .int .i64 ((p.set k (n : Int))[k]'(by rw [List.length_set]; exact hkp.out))) (by unfold intsC; rw [List.getElem?_map, List.getElem?_eq_getElem (by rw [List.length_set]; exact hkp.out)]; rfl)
    cases hA
    exact Blk.free hgb k)
  go_upto_region 10 with fail
  clear a0 a1 b0 b1 S5 B5 OA5 OB5 hv0
  generalize ((W5.setCell ⟨ga, k, none⟩ (.int .i64 (-1))).setCell ⟨gb, k, none⟩ (.int .i64 (n : Int))) = W6 at OA6 OB6 S6 B6 HE6 HF6 ⊢
  have z0 : W6.cell? ⟨w.heap.size, 0, none⟩ = some (.slice A ns.length ca) := Blk.cell S6.out 0
  have z1 : W6.cell? ⟨w.heap.size, 1, none⟩ = some (.slice B ps.length cb) := Blk.cell S6.out 1
  have z2 : W6.cell? ⟨w.heap.size, 2, none⟩ = some (.slice C os.length cc) := Blk.cell S6.out 2
  have hnl := HN.out
  obtain ⟨xn, hxn⟩ : ∃ xn, ns[n]? = some xn := ⟨_, List.getElem?_eq_getElem hnl⟩
  have n0 : (0 : Int) ≤ (n : Int) := by omega
  have n1 : (n : Int) < (ns.length : Int) := by omega
  have HS6 := Lib.hid (H.out.low B6.out)
  obtain ⟨nb, no, hNa, hnbl, _, _, _, _, _, _, _, _, _, d9⟩ := atN HS6.out.n.1 hxn
  subst hNa
  have HXN := Lib.hid hxn
  clear hxn
  cases hlost : xn.lost
  case true =>
    rw [hlost] at d9
    have hlb : lostB ns n = true := by unfold lostB; rw [HXN.out]; exact hlost
    have E7 : Hid ((p.set k (n : Int)).set k (-1) = moreP ns p k n) := Lib.hid (by unfold moreP; rw [if_pos hlb, List.set_set])
    have hcb := HE6.out
    obtain ⟨yb, b0⟩ := hcb
    have b1 := HF6.out
    have OA7 : Hid ((W6.setCell ⟨gb, k, none⟩ (.int .i64 (-1))).ownsRow G3 3 1 (.slice (some ⟨ga, 0, none⟩) ps.length cqa) ps.length (intsC (p.set k (-1)))) := Lib.hid (own_othH OA6.out habm k _)
    have OB7 : Hid ((W6.setCell ⟨gb, k, none⟩ (.int .i64 (-1))).ownsRow G4 3 1 (.slice (some ⟨gb, 0, none⟩) ps.length cqb) ps.length (intsC (moreP ns p k n))) := Lib.hid (by
      have h1 := own_put OB6.out k (.int .i64 (-1))
      rw [ints_set, E7.out] at h1
      exact h1)
    have S7 : Hid (Blk (W6.setCell ⟨gb, k, none⟩ (.int .i64 (-1))) w.heap.size (snapC (some ⟨nb, no, none⟩) B C ca cb cc ns ps os) 26) := Lib.hid (S6.out.oth hwb k _)
    have B7 : Hid (Below w.heap.size w (W6.setCell ⟨gb, k, none⟩ (.int .i64 (-1)))) := Lib.hid (B6.out.setCell (p := ⟨gb, k, none⟩) (by show w.heap.size ≤ gb; have := HAB.out; omega) _)
    go_upto_region 12 with fail
    clear b0 b1 OA6 OB6 S6 B6 HE6 HF6 z0 z1 z2 d9 hlb
    generalize (W6.setCell ⟨gb, k, none⟩ (.int .i64 (-1))) = W7 at OA7 OB7 S7 B7 ⊢
    have IA : Hid (IntsAt W7 (some ⟨ga, 0, none⟩) cqa (p.set k (-1))) := Lib.hid (IntsAt.own (by rw [List.length_set, HL.out]; exact OA7.out))
    have IB : Hid (IntsAt W7 (some ⟨gb, 0, none⟩) cqb (moreP ns p k n)) := Lib.hid (IntsAt.own (by rw [more_len, HL.out]; exact OB7.out))
    have KA : Hid (∀ (m : Nat) W', Below W7.heap.size W7 W' → Calls Try.prog 12 #[snapV (some ⟨nb, no, none⟩) B C ca cb cc ns ps os, .slice (some ⟨ga, 0, none⟩) ps.length cqa, .int .i64 (m : Int)] W' fun e w' => e = .returned (.agg #[.int .i64 (shareF ns ps os (p.set k (-1)) (m : Int) 0), .int .i64 (shareF ns ps os (p.set k (-1)) (m : Int) 1)]) ∧ Below W'.heap.size W' w') := Lib.hid (fun m W' hb => by
      have h := hShare_in (some ⟨nb, no, none⟩) B C (some ⟨ga, 0, none⟩) ca cb cc cqa ns ps os (p.set k (-1)) (m : Int) W' (H.out.low (B7.out.trans (hb.mono B7.out.size))) (IA.out.below hb)
      rw [List.length_set, HL.out] at h
      exact h)
    have KB : Hid (∀ (m : Nat) W', Below W7.heap.size W7 W' → Calls Try.prog 12 #[snapV (some ⟨nb, no, none⟩) B C ca cb cc ns ps os, .slice (some ⟨gb, 0, none⟩) ps.length cqb, .int .i64 (m : Int)] W' fun e w' => e = .returned (.agg #[.int .i64 (shareF ns ps os (moreP ns p k n) (m : Int) 0), .int .i64 (shareF ns ps os (moreP ns p k n) (m : Int) 1)]) ∧ Below W'.heap.size W' w') := Lib.hid (fun m W' hb => by
      have h := hShare_in (some ⟨nb, no, none⟩) B C (some ⟨gb, 0, none⟩) ca cb cc cqb ns ps os (moreP ns p k n) (m : Int) W' (H.out.low (B7.out.trans (hb.mono B7.out.size))) (IB.out.below hb)
      rw [more_len, HL.out] at h
      exact h)
    have KU : Hid (∀ (m : Nat) W', Below W7.heap.size W7 W' → Calls Try.prog 17 #[snapV (some ⟨nb, no, none⟩) B C ca cb cc ns ps os, .slice (some ⟨gb, 0, none⟩) ps.length cqb, .int .i64 (m : Int)] W' fun e w' => e = .returned (rowV (usedF ns ps os (moreP ns p k n) (m : Int))) ∧ Below W'.heap.size W' w') := Lib.hid (fun m W' hb => by
      have h := used_any (some ⟨nb, no, none⟩) B C (some ⟨gb, 0, none⟩) ca cb cc cqb ns ps os (moreP ns p k n) (m : Int) W' ((H.out.low (B7.out.trans (hb.mono B7.out.size))).at HF.out) (IB.out.below hb)
      rw [more_len, HL.out] at h
      exact h)
    have GR : Hid (∀ (m : Nat) (x : NodeD), ns[m]? = some x → ∀ q, q < 5 → (m ≠ n → shareF ns ps os (p.set k (-1)) (m : Int) q = shareF ns ps os (moreP ns p k n) (m : Int) q) ∧ shareF ns ps os (p.set k (-1)) (m : Int) q ≤ shareF ns ps os (moreP ns p k n) (m : Int) q ∧ (Qu.fitsV (usedF ns ps os (moreP ns p k n) (m : Int)) x.cap = true → shareF ns ps os (moreP ns p k n) (m : Int) q ≤ 1000)) := Lib.hid (fun m x hx q hq => growsH HEE.out hkp.out HN.out (List.getElem?_eq_some_iff.1 hx).1 hx hq)
    have HC7 : Hid (∀ W', Below W7.heap.size W7 W' → W'.cell? ⟨w.heap.size, 0, none⟩ = some (.slice (some ⟨nb, no, none⟩) ns.length ca) ∧ W'.cell? ⟨w.heap.size, 1, none⟩ = some (.slice B ps.length cb) ∧ W'.cell? ⟨w.heap.size, 2, none⟩ = some (.slice C os.length cc)) := Lib.hid (fun W' hb => ⟨Blk.cell (S7.out.below hb S7.out.lt) 0, Blk.cell (S7.out.below hb S7.out.lt) 1, Blk.cell (S7.out.below hb S7.out.lt) 2⟩)
    have NS7 : Hid (∀ W', Below W7.heap.size W7 W' → SnapIn W' (some ⟨nb, no, none⟩) B C ca cb cc ns ps os) := Lib.hid (fun W' hb => H.out.low (B7.out.trans (hb.mono B7.out.size)))
    clear OA7 OB7 IA IB S7 HS6 E7 HEE
    obtain ⟨z0, z1, z2⟩ := HC7.out W7 (Below.refl _ _)
    go_wp2_with fail
    clear z0 z1 z2
    go_loopw [12] (fun i wr => ∃ m : Nat, m ≤ ns.length ∧ i = .int .i64 m ∧ Below W7.heap.size W7 wr) (fun i _ => ns.length - (RowKit.intOf i).toNat)
    case atStart => exact ⟨0, by omega, rfl, Below.refl _ _⟩
    case round =>
      obtain ⟨m, hml, rfl, hb⟩ := hrel
      have HB := Lib.hid hb
      clear hb
      obtain ⟨z0, z1, z2⟩ := HC7.out wr HB.out
      by_cases hlt : m < ns.length
      · obtain ⟨x, hx⟩ : ∃ x, ns[m]? = some x := ⟨_, List.getElem?_eq_getElem hlt⟩
        have m0 : (0 : Int) ≤ (m : Int) := by omega
        have m1 : (m : Int) < (ns.length : Int) := by omega
        obtain ⟨e0, l0, f0⟩ := GR.out m x hx 0 (by omega)
        obtain ⟨e1, l1, f1⟩ := GR.out m x hx 1 (by omega)
        have KA1 := Lib.hid (fun W' (hb : Below wr.heap.size wr W') => KA.out m W' (HB.out.trans (hb.mono HB.out.size)))
        have KB1 := Lib.hid (fun W' (hb : Below wr.heap.size wr W') => KB.out m W' (HB.out.trans (hb.mono HB.out.size)))
        have KU1 := Lib.hid (fun W' (hb : Below wr.heap.size wr W') => KU.out m W' (HB.out.trans (hb.mono HB.out.size)))
        have HX := Lib.hid hx
        generalize shareF ns ps os (p.set k (-1)) (m : Int) 0 = x0 at KA1 e0 l0
        generalize shareF ns ps os (p.set k (-1)) (m : Int) 1 = x1 at KA1 e1 l1
        generalize shareF ns ps os (moreP ns p k n) (m : Int) 0 = y0 at KB1 e0 l0 f0
        generalize shareF ns ps os (moreP ns p k n) (m : Int) 1 = y1 at KB1 e1 l1 f1
        generalize usedF ns ps os (moreP ns p k n) (m : Int) = U at KU1 f0 f1
        have L0 := Lib.hid l0
        have L1 := Lib.hid l1
        have F0 := Lib.hid f0
        have F1 := Lib.hid f1
        have E0 := Lib.hid e0
        have E1 := Lib.hid e1
        have HCw := Lib.hid (fun W' (hb : Below wr.heap.size wr W') => HC7.out W' (HB.out.trans (hb.mono HB.out.size)))
        clear hx l0 l1 f0 f1 e0 e1
        go_upto_region 15 with fail
        have D1 : Hid (Blk (wr.alloc (.cells #[.int .i64 0, .int .i64 0] 31)).drew wr.heap.size #[.int .i64 0, .int .i64 0] 31) := Lib.hid (Blk.drew (Blk.new wr _ _))
        have D2 : Hid (Blk ((wr.alloc (.cells #[.int .i64 0, .int .i64 0] 31)).alloc (.cells #[.int .i64 0, .int .i64 0] 31)).drew wr.heap.size #[.int .i64 0, .int .i64 0] 31) := Lib.hid (Blk.drew (Blk.alloc (Blk.new wr _ _) _))
        have D3 : Hid (Blk ((wr.alloc (.cells #[.int .i64 0, .int .i64 0] 31)).alloc (.cells #[.int .i64 0, .int .i64 0] 31)).drew (wr.heap.size + 1) #[.int .i64 0, .int .i64 0] 31) := Lib.hid (Blk.drew (blk2 wr _ _ _))
        go_cut [13, 14] (fun u v wc => ∃ g1 g2, u = .pointer (some ⟨g1, 0, none⟩) ∧ v = .pointer (some ⟨g2, 0, none⟩) ∧ Blk wc g1 #[.int .i64 x0, .int .i64 x1] 31 ∧ Blk wc g2 #[.int .i64 y0, .int .i64 y1] 31 ∧ Below wr.heap.size wr wc)
        case first =>
          go_region_held3 (fun w' => w'.cell? ⟨w.heap.size, 0, none⟩ = some (.slice (some ⟨nb, no, none⟩) ns.length ca) ∧ w'.cell? ⟨w.heap.size, 1, none⟩ = some (.slice B ps.length cb) ∧ w'.cell? ⟨w.heap.size, 2, none⟩ = some (.slice C os.length cc))
            ((refine HCw.out _ ?_; go_grown))
            (first
              | (go_at_call 12
                 with_reducible refine Calls.mono (KA1.out _ ?_) ?_
                 · go_grown
                 rintro e wA ⟨rfl, hbA⟩
                 have HA : Hid (Below wr.heap.size wr wA) := Lib.hid (by
                   refine below_tH ?_ hbA
                   go_grown)
                 have gA := HA.out
                 have HAs := HA.out.size
                 have HAt := hbA.size
                 (try simp only [World.size_alloc, size_drewH] at HAt)
                 (try have P0 : Hid (Blk wA wr.heap.size #[.int .i64 0, .int .i64 0] 31) := Lib.hid (by with_reducible exact blk_cH D1.out hbA))
                 (try have P0 : Hid (Blk wA wr.heap.size #[.int .i64 0, .int .i64 0] 31) := Lib.hid (by with_reducible exact blk_cH D2.out hbA))
                 (try have P1 : Hid (Blk wA (wr.heap.size + 1) #[.int .i64 0, .int .i64 0] 31) := Lib.hid (by with_reducible exact blk_cH D3.out hbA))
                 (try have hn1 : ¬ wr.heap.size = wA.heap.size := by omega)
                 (try have hn2 : ¬ wA.heap.size = wr.heap.size := by omega)
                 (try have hn3 : ¬ wr.heap.size + 1 = wA.heap.size := by omega)
                 (try have hn4 : ¬ wA.heap.size = wr.heap.size + 1 := by omega)
                 have Q1 : Hid (Blk (wA.alloc (.cells #[.int .i64 0, .int .i64 0] 31)) wA.heap.size #[.int .i64 0, .int .i64 0] 31) := Lib.hid (Blk.new wA _ _)
                 have Q2 : Hid (Blk ((wA.alloc (.cells #[.int .i64 0, .int .i64 0] 31)).alloc (.cells #[.int .i64 0, .int .i64 0] 31)) wA.heap.size #[.int .i64 0, .int .i64 0] 31) := Lib.hid (Blk.alloc Q1.out _)
                 have Q3 : Hid (Blk ((wA.alloc (.cells #[.int .i64 0, .int .i64 0] 31)).alloc (.cells #[.int .i64 0, .int .i64 0] 31)) (wA.heap.size + 1) #[.int .i64 0, .int .i64 0] 31) := Lib.hid (blk2 wA _ _ _)
                 (try have P2 : Hid (Blk (wA.alloc (.cells #[.int .i64 0, .int .i64 0] 31)) wr.heap.size #[.int .i64 0, .int .i64 0] 31) := Lib.hid (Blk.alloc P0.out _))
                 clear hbA)
              | (go_at_call 12
                 with_reducible refine Calls.mono (KB1.out _ ?_) ?_
                 · go_grown
                 rintro e wB ⟨rfl, hbB⟩
                 have HBc : Hid (Below wr.heap.size wr wB) := Lib.hid (by
                   refine below_tH ?_ hbB
                   go_grown)
                 have gB := HBc.out
                 have HBs := HBc.out.size
                 have HBt := hbB.size
                 (try simp only [World.size_alloc, size_drewH] at HBt)
                 (try have R0 : Hid (Blk wB wr.heap.size #[.int .i64 0, .int .i64 0] 31) := Lib.hid (by with_reducible exact blk_cH P0.out hbB))
                 (try have R0 : Hid (Blk wB wr.heap.size #[.int .i64 0, .int .i64 0] 31) := Lib.hid (by with_reducible exact blk_cH P2.out hbB))
                 (try have R1 : Hid (Blk wB (wr.heap.size + 1) #[.int .i64 0, .int .i64 0] 31) := Lib.hid (by with_reducible exact blk_cH P1.out hbB))
                 (try have R2 : Hid (Blk wB wA.heap.size #[.int .i64 0, .int .i64 0] 31) := Lib.hid (by with_reducible exact blk_cH Q1.out hbB))
                 (try have R2 : Hid (Blk wB wA.heap.size #[.int .i64 0, .int .i64 0] 31) := Lib.hid (by with_reducible exact blk_cH Q2.out hbB))
                 (try have R3 : Hid (Blk wB (wA.heap.size + 1) #[.int .i64 0, .int .i64 0] 31) := Lib.hid (by with_reducible exact blk_cH Q3.out hbB))
                 (try have ra0 : wB.cell? ⟨wr.heap.size, 0, none⟩ = some (.int .i64 0) := Blk.cell R0.out 0)
                 (try have raf0 : wB.frozen? ⟨wr.heap.size, 0, none⟩ = false := Blk.free R0.out 0)
                 (try have raz0 : ∀ o, (wB.alloc o).cell? ⟨wr.heap.size, 0, none⟩ = some (.int .i64 0) := fun o => Blk.cell (Blk.alloc R0.out o) 0)
                 (try have ray0 : ∀ o, (wB.alloc o).frozen? ⟨wr.heap.size, 0, none⟩ = false := fun o => Blk.free (Blk.alloc R0.out o) 0)
                 (try have ra1 : wB.cell? ⟨wr.heap.size, 1, none⟩ = some (.int .i64 0) := Blk.cell R0.out 1)
                 (try have raf1 : wB.frozen? ⟨wr.heap.size, 1, none⟩ = false := Blk.free R0.out 1)
                 (try have raz1 : ∀ o, (wB.alloc o).cell? ⟨wr.heap.size, 1, none⟩ = some (.int .i64 0) := fun o => Blk.cell (Blk.alloc R0.out o) 1)
                 (try have ray1 : ∀ o, (wB.alloc o).frozen? ⟨wr.heap.size, 1, none⟩ = false := fun o => Blk.free (Blk.alloc R0.out o) 1)
                 (try have ran0 : ¬ wr.heap.size = wB.heap.size := by omega)
                 (try have ran1 : ¬ wB.heap.size = wr.heap.size := by omega)
                 (try have rb0 : wB.cell? ⟨wr.heap.size + 1, 0, none⟩ = some (.int .i64 0) := Blk.cell R1.out 0)
                 (try have rbf0 : wB.frozen? ⟨wr.heap.size + 1, 0, none⟩ = false := Blk.free R1.out 0)
                 (try have rbz0 : ∀ o, (wB.alloc o).cell? ⟨wr.heap.size + 1, 0, none⟩ = some (.int .i64 0) := fun o => Blk.cell (Blk.alloc R1.out o) 0)
                 (try have rby0 : ∀ o, (wB.alloc o).frozen? ⟨wr.heap.size + 1, 0, none⟩ = false := fun o => Blk.free (Blk.alloc R1.out o) 0)
                 (try have rb1 : wB.cell? ⟨wr.heap.size + 1, 1, none⟩ = some (.int .i64 0) := Blk.cell R1.out 1)
                 (try have rbf1 : wB.frozen? ⟨wr.heap.size + 1, 1, none⟩ = false := Blk.free R1.out 1)
                 (try have rbz1 : ∀ o, (wB.alloc o).cell? ⟨wr.heap.size + 1, 1, none⟩ = some (.int .i64 0) := fun o => Blk.cell (Blk.alloc R1.out o) 1)
                 (try have rby1 : ∀ o, (wB.alloc o).frozen? ⟨wr.heap.size + 1, 1, none⟩ = false := fun o => Blk.free (Blk.alloc R1.out o) 1)
                 (try have rbn0 : ¬ wr.heap.size + 1 = wB.heap.size := by omega)
                 (try have rbn1 : ¬ wB.heap.size = wr.heap.size + 1 := by omega)
                 (try have rc0 : wB.cell? ⟨wA.heap.size, 0, none⟩ = some (.int .i64 0) := Blk.cell R2.out 0)
                 (try have rcf0 : wB.frozen? ⟨wA.heap.size, 0, none⟩ = false := Blk.free R2.out 0)
                 (try have rcz0 : ∀ o, (wB.alloc o).cell? ⟨wA.heap.size, 0, none⟩ = some (.int .i64 0) := fun o => Blk.cell (Blk.alloc R2.out o) 0)
                 (try have rcy0 : ∀ o, (wB.alloc o).frozen? ⟨wA.heap.size, 0, none⟩ = false := fun o => Blk.free (Blk.alloc R2.out o) 0)
                 (try have rc1 : wB.cell? ⟨wA.heap.size, 1, none⟩ = some (.int .i64 0) := Blk.cell R2.out 1)
                 (try have rcf1 : wB.frozen? ⟨wA.heap.size, 1, none⟩ = false := Blk.free R2.out 1)
                 (try have rcz1 : ∀ o, (wB.alloc o).cell? ⟨wA.heap.size, 1, none⟩ = some (.int .i64 0) := fun o => Blk.cell (Blk.alloc R2.out o) 1)
                 (try have rcy1 : ∀ o, (wB.alloc o).frozen? ⟨wA.heap.size, 1, none⟩ = false := fun o => Blk.free (Blk.alloc R2.out o) 1)
                 (try have rcn0 : ¬ wA.heap.size = wB.heap.size := by omega)
                 (try have rcn1 : ¬ wB.heap.size = wA.heap.size := by omega)
                 (try have rd0 : wB.cell? ⟨wA.heap.size + 1, 0, none⟩ = some (.int .i64 0) := Blk.cell R3.out 0)
                 (try have rdf0 : wB.frozen? ⟨wA.heap.size + 1, 0, none⟩ = false := Blk.free R3.out 0)
                 (try have rdz0 : ∀ o, (wB.alloc o).cell? ⟨wA.heap.size + 1, 0, none⟩ = some (.int .i64 0) := fun o => Blk.cell (Blk.alloc R3.out o) 0)
                 (try have rdy0 : ∀ o, (wB.alloc o).frozen? ⟨wA.heap.size + 1, 0, none⟩ = false := fun o => Blk.free (Blk.alloc R3.out o) 0)
                 (try have rd1 : wB.cell? ⟨wA.heap.size + 1, 1, none⟩ = some (.int .i64 0) := Blk.cell R3.out 1)
                 (try have rdf1 : wB.frozen? ⟨wA.heap.size + 1, 1, none⟩ = false := Blk.free R3.out 1)
                 (try have rdz1 : ∀ o, (wB.alloc o).cell? ⟨wA.heap.size + 1, 1, none⟩ = some (.int .i64 0) := fun o => Blk.cell (Blk.alloc R3.out o) 1)
                 (try have rdy1 : ∀ o, (wB.alloc o).frozen? ⟨wA.heap.size + 1, 1, none⟩ = false := fun o => Blk.free (Blk.alloc R3.out o) 1)
                 (try have rdn0 : ¬ wA.heap.size + 1 = wB.heap.size := by omega)
                 (try have rdn1 : ¬ wB.heap.size = wA.heap.size + 1 := by omega)
                 (try have r0p := R0.out)
                 (try have r1p := R1.out)
                 (try have r2p := R2.out)
                 (try have r3p := R3.out)
                 clear hbB)
              | skip)
          all_goals
            (try go_wp2_with fail)
            go_meet
            refine ⟨_, _, rfl, rfl, ?_, ?_, by go_grown⟩
          all_goals
            repeat (first
              | (with_reducible exact R0.out)
              | (with_reducible exact R1.out)
              | (with_reducible exact R2.out)
              | (with_reducible exact R3.out)
              | (with_reducible exact Blk.new _ _ _)
              | (with_reducible exact l2H _ _ _ _)
              | (with_reducible refine setZH ?_)
              | (with_reducible refine othZH ?_ ?_)
              | (with_reducible refine Blk.alloc ?_ _)
              | (with_reducible assumption)
              | (with_reducible exact Nat.succ_ne_self _)
              | (with_reducible exact (Nat.succ_ne_self _).symm))
        case rest =>
          obtain ⟨g1, g2, rfl, rfl, hG1, hG2, hbc⟩ := hcut
          clear D1 D2 D3 KA1 KB1 z0 z1 z2
          obtain ⟨z0, z1, z2⟩ := HCw.out wc hbc
          have a0 : wc.cell? ⟨g1, 0, none⟩ = some (.int .i64 x0) := Blk.cell hG1 0
          have a1 : wc.cell? ⟨g1, 1, none⟩ = some (.int .i64 x1) := Blk.cell hG1 1
          have b0 : wc.cell? ⟨g2, 0, none⟩ = some (.int .i64 y0) := Blk.cell hG2 0
          have b1 : wc.cell? ⟨g2, 1, none⟩ = some (.int .i64 y1) := Blk.cell hG2 1
          have G2 := Lib.hid hG2
          have HBc := Lib.hid hbc
          have KU2 := Lib.hid (KU1.out wc hbc)
          clear hG1 hG2 hbc KU1
          go_upto_region 16 with fail
          go_cut [106] (fun v wd => v = .bool false ∧ wd = wc)
          case first =>
            have hl0 : decide (y0 < x0) = false := decide_eq_false (by have := L0.out; omega)
            have hl1 : decide (y1 < x1) = false := decide_eq_false (by have := L1.out; omega)
            have hl2 : ¬ y0 < x0 := by have := L0.out; omega
            have hl3 : ¬ y1 < x1 := by have := L1.out; omega
            have hgd := guard2
            have heq := eq2
            by_cases hmn : m = n
            case pos =>
              obtain rfl : m = n := hmn
              have hmj : ((m : Int) != (m : Int)) = false := by simp
              go_wp2_with fail
              go_meet
              exact ⟨rfl, rfl⟩
            case neg =>
              obtain rfl : x0 = y0 := E0.out hmn
              obtain rfl : x1 = y1 := E1.out hmn
              have hmi : ¬ (m : Int) = (n : Int) := by omega
              have hmj : ((m : Int) != (n : Int)) = true := bne_iff_ne.2 hmi
              go_wp2_with fail
              go_meet
              exact ⟨rfl, rfl⟩
          case rest =>
            obtain ⟨rfl, rfl⟩ := hcut
            go_upto_region 18 with fail
            go_wp2_with fail
            refine (KU2.out).mono ?_
            rintro e wd ⟨rfl, hb⟩
            have HBd := Lib.hid (HBc.out.trans (hb.mono HBc.out.size))
            have G2d := Lib.hid (G2.out.below hb G2.out.lt)
            clear hb KU2 a0 a1 b0 b1 z0 z1 z2
            go_upto_region 19 with fail
            have U0 : Hid (Blk (wd.alloc (.cells #[.int .i64 (U 0), .int .i64 (U 1), .int .i64 (U 2), .int .i64 (U 3), .int .i64 (U 4)] 43)) wd.heap.size #[.int .i64 (U 0), .int .i64 (U 1), .int .i64 (U 2), .int .i64 (U 3), .int .i64 (U 4)] 43) := Lib.hid (Blk.new wd _ _)
            have HBe : Hid (Below wr.heap.size wr (wd.alloc (.cells #[.int .i64 (U 0), .int .i64 (U 1), .int .i64 (U 2), .int .i64 (U 3), .int .i64 (U 4)] 43))) := Lib.hid (HBd.out.alloc HBd.out.size _)
            have G2e : Hid (Blk (wd.alloc (.cells #[.int .i64 (U 0), .int .i64 (U 1), .int .i64 (U 2), .int .i64 (U 3), .int .i64 (U 4)] 43)) g2 #[.int .i64 y0, .int .i64 y1] 31) := Lib.hid (G2d.out.alloc _)
            generalize (wd.alloc (.cells #[.int .i64 (U 0), .int .i64 (U 1), .int .i64 (U 2), .int .i64 (U 3), .int .i64 (U 4)] 43)) = we at U0 HBe G2e ⊢
            have u0 : we.cell? ⟨wd.heap.size, 0, none⟩ = some (.int .i64 (U 0)) := Blk.cell U0.out 0
            have u1 : we.cell? ⟨wd.heap.size, 1, none⟩ = some (.int .i64 (U 1)) := Blk.cell U0.out 1
            have u2 : we.cell? ⟨wd.heap.size, 2, none⟩ = some (.int .i64 (U 2)) := Blk.cell U0.out 2
            have u3 : we.cell? ⟨wd.heap.size, 3, none⟩ = some (.int .i64 (U 3)) := Blk.cell U0.out 3
            have u4 : we.cell? ⟨wd.heap.size, 4, none⟩ = some (.int .i64 (U 4)) := Blk.cell U0.out 4
            obtain ⟨z0, z1, z2⟩ := HCw.out we HBe.out
            have HSe := Lib.hid (H.out.low ((B7.out.trans (HB.out.mono B7.out.size)).trans (HBe.out.mono (Nat.le_trans B7.out.size HB.out.size))))
            obtain ⟨nb', no', hNA, hnbl', c0, c1, c2, c3, c4, c5, c6, c7, c8, c9⟩ := atN HSe.out.n.1 HX.out
            cases hNA
            have KF := Lib.hid (fun W => Qu.fits_any U x.cap W)
            generalize Qu.fitsV U x.cap = f at KF F0 F1
            clear c0 c6 c7 c8 c9 HSe
            cases f with
            | true =>
              have hy0 := F0.out rfl
              have hy1 := F1.out rfl
              have hd0 : decide ((1000 : Int) < y0) = false := decide_eq_false (by omega)
              have hd1 : decide ((1000 : Int) < y1) = false := decide_eq_false (by omega)
              have hd2 : ¬ (1000 : Int) < y0 := by omega
              have hd3 : ¬ (1000 : Int) < y1 := by omega
              clear hy0 hy1
              go_still_tail 7, (by kernel_rfl)
              change wpList _ _ _ _ _ we.drew
              go_wp2_with fail
              refine (KF.out _).mono ?_
              rintro e wf ⟨rfl, hbf⟩
              have G2f : Hid (Blk wf g2 #[.int .i64 y0, .int .i64 y1] 31) := Lib.hid (Blk.below (G2e.out.drew) hbf G2e.out.lt)
              have HBf : Hid (Below wr.heap.size wr wf) := Lib.hid ((below_dH' HBe.out).trans (hbf.mono HBe.out.size))
              have b0 : wf.cell? ⟨g2, 0, none⟩ = some (.int .i64 y0) := Blk.cell G2f.out 0
              have b1 : wf.cell? ⟨g2, 1, none⟩ = some (.int .i64 y1) := Blk.cell G2f.out 1
              clear hbf u0 u1 u2 u3 u4 c1 c2 c3 c4 c5 z0 z1 z2
              have hf1 : ns.length ≤ 8 := HF.out.1
              go_wp2_with fail
              go_roundw
              case rel => exact ⟨m + 1, by omega, by go_num, HB.out.trans (HBf.out.mono HB.out.size)⟩
              case measure => simp [RowKit.intOf]; omega
            | false =>
              go_still_tail 7, (by kernel_rfl)
              change wpList _ _ _ _ _ we.drew
              go_wp2_with fail
              refine (KF.out _).mono ?_
              rintro e wf ⟨rfl, hbf⟩
              have HBf : Hid (Below wr.heap.size wr wf) := Lib.hid ((below_dH' HBe.out).trans (hbf.mono HBe.out.size))
              clear hbf u0 u1 u2 u3 u4 c1 c2 c3 c4 c5 z0 z1 z2
              have hf1 : ns.length ≤ 8 := HF.out.1
              go_wp2_with fail
              go_roundw
              case rel => exact ⟨m + 1, by omega, by go_num, HB.out.trans (HBf.out.mono HB.out.size)⟩
              case measure => simp [RowKit.intOf]; omega
      · obtain rfl : m = ns.length := by omega
        go_wp2_with fail
        refine (KW.out _).mono ?_
        rintro e w9 ⟨rfl, hb⟩
        have D := Lib.hid ((B7.out.trans (HB.out.mono B7.out.size)).trans (hb.mono (Nat.le_trans B7.out.size HB.out.size)))
        clear hb
        go_wp2
        go_ret
        exact ⟨rfl, D.out⟩
  case false =>
    rw [hlost] at d9
    have hlb : lostB ns n = false := by unfold lostB; rw [HXN.out]; exact hlost
    have E7 : Hid (p.set k (n : Int) = moreP ns p k n) := Lib.hid (by unfold moreP; rw [if_neg (by rw [hlb]; decide)])
    have OB7 : Hid (W6.ownsRow G4 3 1 (.slice (some ⟨gb, 0, none⟩) ps.length cqb) ps.length (intsC (moreP ns p k n))) := Lib.hid (by rw [← E7.out]; exact OB6.out)
    have OA7 := OA6
    have S7 := S6
    have B7 := B6
    go_upto_region 12 with fail
    clear OA6 OB6 S6 B6 HE6 HF6 z0 z1 z2 d9 hlb
    generalize W6 = W7 at OA7 OB7 S7 B7 ⊢
    have IA : Hid (IntsAt W7 (some ⟨ga, 0, none⟩) cqa (p.set k (-1))) := Lib.hid (IntsAt.own (by rw [List.length_set, HL.out]; exact OA7.out))
    have IB : Hid (IntsAt W7 (some ⟨gb, 0, none⟩) cqb (moreP ns p k n)) := Lib.hid (IntsAt.own (by rw [more_len, HL.out]; exact OB7.out))
    have KA : Hid (∀ (m : Nat) W', Below W7.heap.size W7 W' → Calls Try.prog 12 #[snapV (some ⟨nb, no, none⟩) B C ca cb cc ns ps os, .slice (some ⟨ga, 0, none⟩) ps.length cqa, .int .i64 (m : Int)] W' fun e w' => e = .returned (.agg #[.int .i64 (shareF ns ps os (p.set k (-1)) (m : Int) 0), .int .i64 (shareF ns ps os (p.set k (-1)) (m : Int) 1)]) ∧ Below W'.heap.size W' w') := Lib.hid (fun m W' hb => by
      have h := hShare_in (some ⟨nb, no, none⟩) B C (some ⟨ga, 0, none⟩) ca cb cc cqa ns ps os (p.set k (-1)) (m : Int) W' (H.out.low (B7.out.trans (hb.mono B7.out.size))) (IA.out.below hb)
      rw [List.length_set, HL.out] at h
      exact h)
    have KB : Hid (∀ (m : Nat) W', Below W7.heap.size W7 W' → Calls Try.prog 12 #[snapV (some ⟨nb, no, none⟩) B C ca cb cc ns ps os, .slice (some ⟨gb, 0, none⟩) ps.length cqb, .int .i64 (m : Int)] W' fun e w' => e = .returned (.agg #[.int .i64 (shareF ns ps os (moreP ns p k n) (m : Int) 0), .int .i64 (shareF ns ps os (moreP ns p k n) (m : Int) 1)]) ∧ Below W'.heap.size W' w') := Lib.hid (fun m W' hb => by
      have h := hShare_in (some ⟨nb, no, none⟩) B C (some ⟨gb, 0, none⟩) ca cb cc cqb ns ps os (moreP ns p k n) (m : Int) W' (H.out.low (B7.out.trans (hb.mono B7.out.size))) (IB.out.below hb)
      rw [more_len, HL.out] at h
      exact h)
    have KU : Hid (∀ (m : Nat) W', Below W7.heap.size W7 W' → Calls Try.prog 17 #[snapV (some ⟨nb, no, none⟩) B C ca cb cc ns ps os, .slice (some ⟨gb, 0, none⟩) ps.length cqb, .int .i64 (m : Int)] W' fun e w' => e = .returned (rowV (usedF ns ps os (moreP ns p k n) (m : Int))) ∧ Below W'.heap.size W' w') := Lib.hid (fun m W' hb => by
      have h := used_any (some ⟨nb, no, none⟩) B C (some ⟨gb, 0, none⟩) ca cb cc cqb ns ps os (moreP ns p k n) (m : Int) W' ((H.out.low (B7.out.trans (hb.mono B7.out.size))).at HF.out) (IB.out.below hb)
      rw [more_len, HL.out] at h
      exact h)
    have GR : Hid (∀ (m : Nat) (x : NodeD), ns[m]? = some x → ∀ q, q < 5 → (m ≠ n → shareF ns ps os (p.set k (-1)) (m : Int) q = shareF ns ps os (moreP ns p k n) (m : Int) q) ∧ shareF ns ps os (p.set k (-1)) (m : Int) q ≤ shareF ns ps os (moreP ns p k n) (m : Int) q ∧ (Qu.fitsV (usedF ns ps os (moreP ns p k n) (m : Int)) x.cap = true → shareF ns ps os (moreP ns p k n) (m : Int) q ≤ 1000)) := Lib.hid (fun m x hx q hq => growsH HEE.out hkp.out HN.out (List.getElem?_eq_some_iff.1 hx).1 hx hq)
    have HC7 : Hid (∀ W', Below W7.heap.size W7 W' → W'.cell? ⟨w.heap.size, 0, none⟩ = some (.slice (some ⟨nb, no, none⟩) ns.length ca) ∧ W'.cell? ⟨w.heap.size, 1, none⟩ = some (.slice B ps.length cb) ∧ W'.cell? ⟨w.heap.size, 2, none⟩ = some (.slice C os.length cc)) := Lib.hid (fun W' hb => ⟨Blk.cell (S7.out.below hb S7.out.lt) 0, Blk.cell (S7.out.below hb S7.out.lt) 1, Blk.cell (S7.out.below hb S7.out.lt) 2⟩)
    have NS7 : Hid (∀ W', Below W7.heap.size W7 W' → SnapIn W' (some ⟨nb, no, none⟩) B C ca cb cc ns ps os) := Lib.hid (fun W' hb => H.out.low (B7.out.trans (hb.mono B7.out.size)))
    clear OA7 OB7 IA IB S7 HS6 E7 HEE
    obtain ⟨z0, z1, z2⟩ := HC7.out W7 (Below.refl _ _)
    go_wp2_with fail
    clear z0 z1 z2
    go_loopw [12] (fun i wr => ∃ m : Nat, m ≤ ns.length ∧ i = .int .i64 m ∧ Below W7.heap.size W7 wr) (fun i _ => ns.length - (RowKit.intOf i).toNat)
    case atStart => exact ⟨0, by omega, rfl, Below.refl _ _⟩
    case round =>
      obtain ⟨m, hml, rfl, hb⟩ := hrel
      have HB := Lib.hid hb
      clear hb
      obtain ⟨z0, z1, z2⟩ := HC7.out wr HB.out
      by_cases hlt : m < ns.length
      · obtain ⟨x, hx⟩ : ∃ x, ns[m]? = some x := ⟨_, List.getElem?_eq_getElem hlt⟩
        have m0 : (0 : Int) ≤ (m : Int) := by omega
        have m1 : (m : Int) < (ns.length : Int) := by omega
        obtain ⟨e0, l0, f0⟩ := GR.out m x hx 0 (by omega)
        obtain ⟨e1, l1, f1⟩ := GR.out m x hx 1 (by omega)
        have KA1 := Lib.hid (fun W' (hb : Below wr.heap.size wr W') => KA.out m W' (HB.out.trans (hb.mono HB.out.size)))
        have KB1 := Lib.hid (fun W' (hb : Below wr.heap.size wr W') => KB.out m W' (HB.out.trans (hb.mono HB.out.size)))
        have KU1 := Lib.hid (fun W' (hb : Below wr.heap.size wr W') => KU.out m W' (HB.out.trans (hb.mono HB.out.size)))
        have HX := Lib.hid hx
        generalize shareF ns ps os (p.set k (-1)) (m : Int) 0 = x0 at KA1 e0 l0
        generalize shareF ns ps os (p.set k (-1)) (m : Int) 1 = x1 at KA1 e1 l1
        generalize shareF ns ps os (moreP ns p k n) (m : Int) 0 = y0 at KB1 e0 l0 f0
        generalize shareF ns ps os (moreP ns p k n) (m : Int) 1 = y1 at KB1 e1 l1 f1
        generalize usedF ns ps os (moreP ns p k n) (m : Int) = U at KU1 f0 f1
        have L0 := Lib.hid l0
        have L1 := Lib.hid l1
        have F0 := Lib.hid f0
        have F1 := Lib.hid f1
        have E0 := Lib.hid e0
        have E1 := Lib.hid e1
        have HCw := Lib.hid (fun W' (hb : Below wr.heap.size wr W') => HC7.out W' (HB.out.trans (hb.mono HB.out.size)))
        clear hx l0 l1 f0 f1 e0 e1
        go_upto_region 15 with fail
        have D1 : Hid (Blk (wr.alloc (.cells #[.int .i64 0, .int .i64 0] 31)).drew wr.heap.size #[.int .i64 0, .int .i64 0] 31) := Lib.hid (Blk.drew (Blk.new wr _ _))
        have D2 : Hid (Blk ((wr.alloc (.cells #[.int .i64 0, .int .i64 0] 31)).alloc (.cells #[.int .i64 0, .int .i64 0] 31)).drew wr.heap.size #[.int .i64 0, .int .i64 0] 31) := Lib.hid (Blk.drew (Blk.alloc (Blk.new wr _ _) _))
        have D3 : Hid (Blk ((wr.alloc (.cells #[.int .i64 0, .int .i64 0] 31)).alloc (.cells #[.int .i64 0, .int .i64 0] 31)).drew (wr.heap.size + 1) #[.int .i64 0, .int .i64 0] 31) := Lib.hid (Blk.drew (blk2 wr _ _ _))
        go_cut [13, 14] (fun u v wc => ∃ g1 g2, u = .pointer (some ⟨g1, 0, none⟩) ∧ v = .pointer (some ⟨g2, 0, none⟩) ∧ Blk wc g1 #[.int .i64 x0, .int .i64 x1] 31 ∧ Blk wc g2 #[.int .i64 y0, .int .i64 y1] 31 ∧ Below wr.heap.size wr wc)
        case first =>
          go_region_held3 (fun w' => w'.cell? ⟨w.heap.size, 0, none⟩ = some (.slice (some ⟨nb, no, none⟩) ns.length ca) ∧ w'.cell? ⟨w.heap.size, 1, none⟩ = some (.slice B ps.length cb) ∧ w'.cell? ⟨w.heap.size, 2, none⟩ = some (.slice C os.length cc))
            ((refine HCw.out _ ?_; go_grown))
            (first
              | (go_at_call 12
                 with_reducible refine Calls.mono (KA1.out _ ?_) ?_
                 · go_grown
                 rintro e wA ⟨rfl, hbA⟩
                 have HA : Hid (Below wr.heap.size wr wA) := Lib.hid (by
                   refine below_tH ?_ hbA
                   go_grown)
                 have gA := HA.out
                 have HAs := HA.out.size
                 have HAt := hbA.size
                 (try simp only [World.size_alloc, size_drewH] at HAt)
                 (try have P0 : Hid (Blk wA wr.heap.size #[.int .i64 0, .int .i64 0] 31) := Lib.hid (by with_reducible exact blk_cH D1.out hbA))
                 (try have P0 : Hid (Blk wA wr.heap.size #[.int .i64 0, .int .i64 0] 31) := Lib.hid (by with_reducible exact blk_cH D2.out hbA))
                 (try have P1 : Hid (Blk wA (wr.heap.size + 1) #[.int .i64 0, .int .i64 0] 31) := Lib.hid (by with_reducible exact blk_cH D3.out hbA))
                 (try have hn1 : ¬ wr.heap.size = wA.heap.size := by omega)
                 (try have hn2 : ¬ wA.heap.size = wr.heap.size := by omega)
                 (try have hn3 : ¬ wr.heap.size + 1 = wA.heap.size := by omega)
                 (try have hn4 : ¬ wA.heap.size = wr.heap.size + 1 := by omega)
                 have Q1 : Hid (Blk (wA.alloc (.cells #[.int .i64 0, .int .i64 0] 31)) wA.heap.size #[.int .i64 0, .int .i64 0] 31) := Lib.hid (Blk.new wA _ _)
                 have Q2 : Hid (Blk ((wA.alloc (.cells #[.int .i64 0, .int .i64 0] 31)).alloc (.cells #[.int .i64 0, .int .i64 0] 31)) wA.heap.size #[.int .i64 0, .int .i64 0] 31) := Lib.hid (Blk.alloc Q1.out _)
                 have Q3 : Hid (Blk ((wA.alloc (.cells #[.int .i64 0, .int .i64 0] 31)).alloc (.cells #[.int .i64 0, .int .i64 0] 31)) (wA.heap.size + 1) #[.int .i64 0, .int .i64 0] 31) := Lib.hid (blk2 wA _ _ _)
                 (try have P2 : Hid (Blk (wA.alloc (.cells #[.int .i64 0, .int .i64 0] 31)) wr.heap.size #[.int .i64 0, .int .i64 0] 31) := Lib.hid (Blk.alloc P0.out _))
                 clear hbA)
              | (go_at_call 12
                 with_reducible refine Calls.mono (KB1.out _ ?_) ?_
                 · go_grown
                 rintro e wB ⟨rfl, hbB⟩
                 have HBc : Hid (Below wr.heap.size wr wB) := Lib.hid (by
                   refine below_tH ?_ hbB
                   go_grown)
                 have gB := HBc.out
                 have HBs := HBc.out.size
                 have HBt := hbB.size
                 (try simp only [World.size_alloc, size_drewH] at HBt)
                 (try have R0 : Hid (Blk wB wr.heap.size #[.int .i64 0, .int .i64 0] 31) := Lib.hid (by with_reducible exact blk_cH P0.out hbB))
                 (try have R0 : Hid (Blk wB wr.heap.size #[.int .i64 0, .int .i64 0] 31) := Lib.hid (by with_reducible exact blk_cH P2.out hbB))
                 (try have R1 : Hid (Blk wB (wr.heap.size + 1) #[.int .i64 0, .int .i64 0] 31) := Lib.hid (by with_reducible exact blk_cH P1.out hbB))
                 (try have R2 : Hid (Blk wB wA.heap.size #[.int .i64 0, .int .i64 0] 31) := Lib.hid (by with_reducible exact blk_cH Q1.out hbB))
                 (try have R2 : Hid (Blk wB wA.heap.size #[.int .i64 0, .int .i64 0] 31) := Lib.hid (by with_reducible exact blk_cH Q2.out hbB))
                 (try have R3 : Hid (Blk wB (wA.heap.size + 1) #[.int .i64 0, .int .i64 0] 31) := Lib.hid (by with_reducible exact blk_cH Q3.out hbB))
                 (try have ra0 : wB.cell? ⟨wr.heap.size, 0, none⟩ = some (.int .i64 0) := Blk.cell R0.out 0)
                 (try have raf0 : wB.frozen? ⟨wr.heap.size, 0, none⟩ = false := Blk.free R0.out 0)
                 (try have raz0 : ∀ o, (wB.alloc o).cell? ⟨wr.heap.size, 0, none⟩ = some (.int .i64 0) := fun o => Blk.cell (Blk.alloc R0.out o) 0)
                 (try have ray0 : ∀ o, (wB.alloc o).frozen? ⟨wr.heap.size, 0, none⟩ = false := fun o => Blk.free (Blk.alloc R0.out o) 0)
                 (try have ra1 : wB.cell? ⟨wr.heap.size, 1, none⟩ = some (.int .i64 0) := Blk.cell R0.out 1)
                 (try have raf1 : wB.frozen? ⟨wr.heap.size, 1, none⟩ = false := Blk.free R0.out 1)
                 (try have raz1 : ∀ o, (wB.alloc o).cell? ⟨wr.heap.size, 1, none⟩ = some (.int .i64 0) := fun o => Blk.cell (Blk.alloc R0.out o) 1)
                 (try have ray1 : ∀ o, (wB.alloc o).frozen? ⟨wr.heap.size, 1, none⟩ = false := fun o => Blk.free (Blk.alloc R0.out o) 1)
                 (try have ran0 : ¬ wr.heap.size = wB.heap.size := by omega)
                 (try have ran1 : ¬ wB.heap.size = wr.heap.size := by omega)
                 (try have rb0 : wB.cell? ⟨wr.heap.size + 1, 0, none⟩ = some (.int .i64 0) := Blk.cell R1.out 0)
                 (try have rbf0 : wB.frozen? ⟨wr.heap.size + 1, 0, none⟩ = false := Blk.free R1.out 0)
                 (try have rbz0 : ∀ o, (wB.alloc o).cell? ⟨wr.heap.size + 1, 0, none⟩ = some (.int .i64 0) := fun o => Blk.cell (Blk.alloc R1.out o) 0)
                 (try have rby0 : ∀ o, (wB.alloc o).frozen? ⟨wr.heap.size + 1, 0, none⟩ = false := fun o => Blk.free (Blk.alloc R1.out o) 0)
                 (try have rb1 : wB.cell? ⟨wr.heap.size + 1, 1, none⟩ = some (.int .i64 0) := Blk.cell R1.out 1)
                 (try have rbf1 : wB.frozen? ⟨wr.heap.size + 1, 1, none⟩ = false := Blk.free R1.out 1)
                 (try have rbz1 : ∀ o, (wB.alloc o).cell? ⟨wr.heap.size + 1, 1, none⟩ = some (.int .i64 0) := fun o => Blk.cell (Blk.alloc R1.out o) 1)
                 (try have rby1 : ∀ o, (wB.alloc o).frozen? ⟨wr.heap.size + 1, 1, none⟩ = false := fun o => Blk.free (Blk.alloc R1.out o) 1)
                 (try have rbn0 : ¬ wr.heap.size + 1 = wB.heap.size := by omega)
                 (try have rbn1 : ¬ wB.heap.size = wr.heap.size + 1 := by omega)
                 (try have rc0 : wB.cell? ⟨wA.heap.size, 0, none⟩ = some (.int .i64 0) := Blk.cell R2.out 0)
                 (try have rcf0 : wB.frozen? ⟨wA.heap.size, 0, none⟩ = false := Blk.free R2.out 0)
                 (try have rcz0 : ∀ o, (wB.alloc o).cell? ⟨wA.heap.size, 0, none⟩ = some (.int .i64 0) := fun o => Blk.cell (Blk.alloc R2.out o) 0)
                 (try have rcy0 : ∀ o, (wB.alloc o).frozen? ⟨wA.heap.size, 0, none⟩ = false := fun o => Blk.free (Blk.alloc R2.out o) 0)
                 (try have rc1 : wB.cell? ⟨wA.heap.size, 1, none⟩ = some (.int .i64 0) := Blk.cell R2.out 1)
                 (try have rcf1 : wB.frozen? ⟨wA.heap.size, 1, none⟩ = false := Blk.free R2.out 1)
                 (try have rcz1 : ∀ o, (wB.alloc o).cell? ⟨wA.heap.size, 1, none⟩ = some (.int .i64 0) := fun o => Blk.cell (Blk.alloc R2.out o) 1)
                 (try have rcy1 : ∀ o, (wB.alloc o).frozen? ⟨wA.heap.size, 1, none⟩ = false := fun o => Blk.free (Blk.alloc R2.out o) 1)
                 (try have rcn0 : ¬ wA.heap.size = wB.heap.size := by omega)
                 (try have rcn1 : ¬ wB.heap.size = wA.heap.size := by omega)
                 (try have rd0 : wB.cell? ⟨wA.heap.size + 1, 0, none⟩ = some (.int .i64 0) := Blk.cell R3.out 0)
                 (try have rdf0 : wB.frozen? ⟨wA.heap.size + 1, 0, none⟩ = false := Blk.free R3.out 0)
                 (try have rdz0 : ∀ o, (wB.alloc o).cell? ⟨wA.heap.size + 1, 0, none⟩ = some (.int .i64 0) := fun o => Blk.cell (Blk.alloc R3.out o) 0)
                 (try have rdy0 : ∀ o, (wB.alloc o).frozen? ⟨wA.heap.size + 1, 0, none⟩ = false := fun o => Blk.free (Blk.alloc R3.out o) 0)
                 (try have rd1 : wB.cell? ⟨wA.heap.size + 1, 1, none⟩ = some (.int .i64 0) := Blk.cell R3.out 1)
                 (try have rdf1 : wB.frozen? ⟨wA.heap.size + 1, 1, none⟩ = false := Blk.free R3.out 1)
                 (try have rdz1 : ∀ o, (wB.alloc o).cell? ⟨wA.heap.size + 1, 1, none⟩ = some (.int .i64 0) := fun o => Blk.cell (Blk.alloc R3.out o) 1)
                 (try have rdy1 : ∀ o, (wB.alloc o).frozen? ⟨wA.heap.size + 1, 1, none⟩ = false := fun o => Blk.free (Blk.alloc R3.out o) 1)
                 (try have rdn0 : ¬ wA.heap.size + 1 = wB.heap.size := by omega)
                 (try have rdn1 : ¬ wB.heap.size = wA.heap.size + 1 := by omega)
                 (try have r0p := R0.out)
                 (try have r1p := R1.out)
                 (try have r2p := R2.out)
                 (try have r3p := R3.out)
                 clear hbB)
              | skip)
          all_goals
            (try go_wp2_with fail)
            go_meet
            refine ⟨_, _, rfl, rfl, ?_, ?_, by go_grown⟩
          all_goals
            repeat (first
              | (with_reducible exact R0.out)
              | (with_reducible exact R1.out)
              | (with_reducible exact R2.out)
              | (with_reducible exact R3.out)
              | (with_reducible exact Blk.new _ _ _)
              | (with_reducible exact l2H _ _ _ _)
              | (with_reducible refine setZH ?_)
              | (with_reducible refine othZH ?_ ?_)
              | (with_reducible refine Blk.alloc ?_ _)
              | (with_reducible assumption)
              | (with_reducible exact Nat.succ_ne_self _)
              | (with_reducible exact (Nat.succ_ne_self _).symm))
        case rest =>
          obtain ⟨g1, g2, rfl, rfl, hG1, hG2, hbc⟩ := hcut
          clear D1 D2 D3 KA1 KB1 z0 z1 z2
          obtain ⟨z0, z1, z2⟩ := HCw.out wc hbc
          have a0 : wc.cell? ⟨g1, 0, none⟩ = some (.int .i64 x0) := Blk.cell hG1 0
          have a1 : wc.cell? ⟨g1, 1, none⟩ = some (.int .i64 x1) := Blk.cell hG1 1
          have b0 : wc.cell? ⟨g2, 0, none⟩ = some (.int .i64 y0) := Blk.cell hG2 0
          have b1 : wc.cell? ⟨g2, 1, none⟩ = some (.int .i64 y1) := Blk.cell hG2 1
          have G2 := Lib.hid hG2
          have HBc := Lib.hid hbc
          have KU2 := Lib.hid (KU1.out wc hbc)
          clear hG1 hG2 hbc KU1
          go_upto_region 16 with fail
          go_cut [106] (fun v wd => v = .bool false ∧ wd = wc)
          case first =>
            have hl0 : decide (y0 < x0) = false := decide_eq_false (by have := L0.out; omega)
            have hl1 : decide (y1 < x1) = false := decide_eq_false (by have := L1.out; omega)
            have hl2 : ¬ y0 < x0 := by have := L0.out; omega
            have hl3 : ¬ y1 < x1 := by have := L1.out; omega
            have hgd := guard2
            have heq := eq2
            by_cases hmn : m = n
            case pos =>
              obtain rfl : m = n := hmn
              have hmj : ((m : Int) != (m : Int)) = false := by simp
              go_wp2_with fail
              go_meet
              exact ⟨rfl, rfl⟩
            case neg =>
              obtain rfl : x0 = y0 := E0.out hmn
              obtain rfl : x1 = y1 := E1.out hmn
              have hmi : ¬ (m : Int) = (n : Int) := by omega
              have hmj : ((m : Int) != (n : Int)) = true := bne_iff_ne.2 hmi
              go_wp2_with fail
              go_meet
              exact ⟨rfl, rfl⟩
          case rest =>
            obtain ⟨rfl, rfl⟩ := hcut
            go_upto_region 18 with fail
            go_wp2_with fail
            refine (KU2.out).mono ?_
            rintro e wd ⟨rfl, hb⟩
            have HBd := Lib.hid (HBc.out.trans (hb.mono HBc.out.size))
            have G2d := Lib.hid (G2.out.below hb G2.out.lt)
            clear hb KU2 a0 a1 b0 b1 z0 z1 z2
            go_upto_region 19 with fail
            have U0 : Hid (Blk (wd.alloc (.cells #[.int .i64 (U 0), .int .i64 (U 1), .int .i64 (U 2), .int .i64 (U 3), .int .i64 (U 4)] 43)) wd.heap.size #[.int .i64 (U 0), .int .i64 (U 1), .int .i64 (U 2), .int .i64 (U 3), .int .i64 (U 4)] 43) := Lib.hid (Blk.new wd _ _)
            have HBe : Hid (Below wr.heap.size wr (wd.alloc (.cells #[.int .i64 (U 0), .int .i64 (U 1), .int .i64 (U 2), .int .i64 (U 3), .int .i64 (U 4)] 43))) := Lib.hid (HBd.out.alloc HBd.out.size _)
            have G2e : Hid (Blk (wd.alloc (.cells #[.int .i64 (U 0), .int .i64 (U 1), .int .i64 (U 2), .int .i64 (U 3), .int .i64 (U 4)] 43)) g2 #[.int .i64 y0, .int .i64 y1] 31) := Lib.hid (G2d.out.alloc _)
            generalize (wd.alloc (.cells #[.int .i64 (U 0), .int .i64 (U 1), .int .i64 (U 2), .int .i64 (U 3), .int .i64 (U 4)] 43)) = we at U0 HBe G2e ⊢
            have u0 : we.cell? ⟨wd.heap.size, 0, none⟩ = some (.int .i64 (U 0)) := Blk.cell U0.out 0
            have u1 : we.cell? ⟨wd.heap.size, 1, none⟩ = some (.int .i64 (U 1)) := Blk.cell U0.out 1
            have u2 : we.cell? ⟨wd.heap.size, 2, none⟩ = some (.int .i64 (U 2)) := Blk.cell U0.out 2
            have u3 : we.cell? ⟨wd.heap.size, 3, none⟩ = some (.int .i64 (U 3)) := Blk.cell U0.out 3
            have u4 : we.cell? ⟨wd.heap.size, 4, none⟩ = some (.int .i64 (U 4)) := Blk.cell U0.out 4
            obtain ⟨z0, z1, z2⟩ := HCw.out we HBe.out
            have HSe := Lib.hid (H.out.low ((B7.out.trans (HB.out.mono B7.out.size)).trans (HBe.out.mono (Nat.le_trans B7.out.size HB.out.size))))
            obtain ⟨nb', no', hNA, hnbl', c0, c1, c2, c3, c4, c5, c6, c7, c8, c9⟩ := atN HSe.out.n.1 HX.out
            cases hNA
            have KF := Lib.hid (fun W => Qu.fits_any U x.cap W)
            generalize Qu.fitsV U x.cap = f at KF F0 F1
            clear c0 c6 c7 c8 c9 HSe
            cases f with
            | true =>
              have hy0 := F0.out rfl
              have hy1 := F1.out rfl
              have hd0 : decide ((1000 : Int) < y0) = false := decide_eq_false (by omega)
              have hd1 : decide ((1000 : Int) < y1) = false := decide_eq_false (by omega)
              have hd2 : ¬ (1000 : Int) < y0 := by omega
              have hd3 : ¬ (1000 : Int) < y1 := by omega
              clear hy0 hy1
              go_still_tail 7, (by kernel_rfl)
              change wpList _ _ _ _ _ we.drew
              go_wp2_with fail
              refine (KF.out _).mono ?_
              rintro e wf ⟨rfl, hbf⟩
              have G2f : Hid (Blk wf g2 #[.int .i64 y0, .int .i64 y1] 31) := Lib.hid (Blk.below (G2e.out.drew) hbf G2e.out.lt)
              have HBf : Hid (Below wr.heap.size wr wf) := Lib.hid ((below_dH' HBe.out).trans (hbf.mono HBe.out.size))
              have b0 : wf.cell? ⟨g2, 0, none⟩ = some (.int .i64 y0) := Blk.cell G2f.out 0
              have b1 : wf.cell? ⟨g2, 1, none⟩ = some (.int .i64 y1) := Blk.cell G2f.out 1
              clear hbf u0 u1 u2 u3 u4 c1 c2 c3 c4 c5 z0 z1 z2
              have hf1 : ns.length ≤ 8 := HF.out.1
              go_wp2_with fail
              go_roundw
              case rel => exact ⟨m + 1, by omega, by go_num, HB.out.trans (HBf.out.mono HB.out.size)⟩
              case measure => simp [RowKit.intOf]; omega
            | false =>
              go_still_tail 7, (by kernel_rfl)
              change wpList _ _ _ _ _ we.drew
              go_wp2_with fail
              refine (KF.out _).mono ?_
              rintro e wf ⟨rfl, hbf⟩
              have HBf : Hid (Below wr.heap.size wr wf) := Lib.hid ((below_dH' HBe.out).trans (hbf.mono HBe.out.size))
              clear hbf u0 u1 u2 u3 u4 c1 c2 c3 c4 c5 z0 z1 z2
              have hf1 : ns.length ≤ 8 := HF.out.1
              go_wp2_with fail
              go_roundw
              case rel => exact ⟨m + 1, by omega, by go_num, HB.out.trans (HBf.out.mono HB.out.size)⟩
              case measure => simp [RowKit.intOf]; omega
      · obtain rfl : m = ns.length := by omega
        go_wp2_with fail
        refine (KW.out _).mono ?_
        rintro e w9 ⟨rfl, hb⟩
        have D := Lib.hid ((B7.out.trans (HB.out.mono B7.out.size)).trans (hb.mono (Nat.le_trans B7.out.size HB.out.size)))
        clear hb
        go_wp2
        go_ret
        exact ⟨rfl, D.out⟩
end Go.Proofs.Ytmdmjnffnjlgmaa

namespace Go.Proofs.Ytmdmjnffnjlgmaa
open Go.ChangeShapes Go.WideShapes Go.ChangeAt Go.RowKit Go.Deep

theorem bytes_podH : Try.prog.bytesOf 58 = 240 := by kernel_rfl
set_option maxRecDepth 100000 in
theorem open_snapN {H : Type} {enc : TypeId × Value → H} {W : World} {r : Reach} {b0 : Nat} {held : Bool} {v : Value} {d : DataW H} {p : List MemPlace}
    (hv : Value.okWide Try.prog W r b0 26 v) (h : DataW.Trod enc Try.prog W 0 (fun _ => true) held 26 v d p) :
    ∃ A B C ca cb cc ns ps os, v = snapV A B C ca cb cc ns ps os ∧ SnapIn W A B C ca cb cc ns ps os ∧ (ps.length = 0 ∨ ∃ ys es sp, d = .agg ys ∧ ys[1]? = some (.slice es sp) ∧ es.length = ps.length) := by
  obtain ⟨A, B, C, ca, cb, cc, ns, ps, os, rfl, hs⟩ := open_snap hv h
  refine ⟨A, B, C, ca, cb, cc, ns, ps, os, rfl, hs, ?_⟩
  obtain ⟨fuel, hf0⟩ := h
  obtain ⟨xs, m, _, hx, hl, hxl, hf⟩ := DataW.trod_struct Try.underlying26 hf0
  match xs, hxl, hx with
  | [y0, y1, y2], _, hx =>
    have h1 : DataW.trod enc Try.prog W 0 (fun _ => true) held m 23 ((([.slice A ns.length ca, .slice B ps.length cb, .slice C os.length cc] : List Value).drop 1).take (Try.prog.cellsOf 23)) = some y1 := hf 1 _ rfl
    rw [kcPods] at h1
    have g1 : DataW.trod enc Try.prog W 0 (fun _ => true) held m 23 [.slice B ps.length cb] = some y1 := h1
    simp only [Prod.mk.injEq, List.map_cons, List.map_nil] at hx
    rcases open_slice Try.underlying23 g1 with ⟨hcs, _⟩ | ⟨a, len, cap, m', n, D, Pl, hcs, _, hl2, hm, hmm, hx1, _⟩
    · simp only [List.cons.injEq, Value.slice.injEq, and_true] at hcs
      exact .inl hcs.2.1
    · simp only [List.cons.injEq, Value.slice.injEq, and_true] at hcs
      refine .inr ⟨_, _, _, hx.1, by rw [hx1]; rfl, by simp [hcs.2.1]⟩
theorem few_podsH {H : Type} {ts : List TypeId} {ds : List (DataW H)} {d : DataW H} {n : Nat} (h : (DataW.weightsEach Try.prog ts ds).all (· ≤ reachBytes) = true) {j : Nat} (ht : ts[j]? = some 26) (hd : ds[j]? = some d) (hs : n = 0 ∨ ∃ ys es sp, d = .agg ys ∧ ys[1]? = some (.slice es sp) ∧ es.length = n) :
    n * 8 ≤ 140737488355328 := by
  rcases hs with rfl | ⟨ys, es, sp, rfl, hy, rfl⟩
  · omega
  · have h1 : (es.length + sp.length) * Try.prog.bytesOf 58 ∈ DataW.weights Try.prog 23 (DataW.slice es sp : DataW H) := by
      simp [DataW.weights, Try.underlying23]
    have h2 : (es.length + sp.length) * Try.prog.bytesOf 58 ∈ DataW.weights Try.prog 26 (DataW.agg ys : DataW H) := by
      rw [DataW.weights, Try.underlying26]
      exact DataW.weights_mem_each (j := 1) (t := 23) rfl hy _ h1
    have h3 := List.all_eq_true.1 h _ (DataW.weights_mem_each ht hd _ h2)
    rw [bytes_podH] at h3
    have h4 : (es.length + sp.length) * 240 ≤ reachBytes := of_decide_eq_true h3
    simp only [reachBytes] at h4
    omega
end Go.Proofs.Ytmdmjnffnjlgmaa
