/- What both ends of layer 14 want: the chapter's cluster with a pod that asks more; Pack where it doesn't pack. Condition: the arguments lie in memory. Both ends of layer 14: the law's walk. No conditions. -/
import Derived.Test.YtmmokiaipfalmaaGreatA14

namespace Go.Proofs.YtmmokiaipfalmaaGreat
open Go.RowKit

theorem own_putS {w : World} {base : Nat} {e : TypeId} {sz g n cap : Nat} {xs : List Value} (h : w.ownsRow base e sz (.slice (some ⟨g, 0, none⟩) n cap) n xs) (k : Nat) (v : Value) :
    (w.setCell ⟨g, k, none⟩ v).ownsRow base e sz (.slice (some ⟨g, 0, none⟩) n cap) n (xs.set k v) := by
  obtain ⟨hl, h1 | ⟨g', cap', cur, hv, hb, hg, h1, h2, h3, h4⟩⟩ := h
  · cases h1.1
  · cases hv
    refine ⟨by simpa using hl, .inr ⟨g, cap, cur.setIfInBounds k v, rfl, hb, heap_setCell_same _ g _ _ _ _ hg, h1, h2, by simpa using h3, ?_⟩⟩
    rw [Array.toList_setIfInBounds, List.take_set, h4]
def feP2 : List PodD := [fePod 112 50, fePod 113 30, fePod 114 40, fePod 116 200]
theorem fe_more : (((((cellsP feP).set 47 (.int .i64 200)).set 48 (.int .i64 0)).set 49 (.int .i64 0)).set 50 (.int .i64 0)).set 51 (.int .i64 0) = cellsP feP2 := by kernel_rfl
theorem fe_snap2 {w : World} {N : Nat} {B : Option Addr} {cb : Nat} (h1 : Blk w (N + 1) (cellsN feN).toArray 81) (h2 : w.ownsRow N 53 15 (.slice B 4 cb) 4 (cellsP feP2)) : SnapIn w (some ⟨N + 1, 0, none⟩) B none 2 cb 0 feN feP2 [] := by
  have nolab : ListL w none 0 [] := ⟨by simp, by omega, fun j y hj => by simp [La.cellsL] at hj, fun x hx => by cases hx⟩
  have noter : ListT w none 0 [] := ⟨by simp, by omega, fun j y hj => by simp [La.cellsT] at hj, fun x hx => by cases hx⟩
  have hcap : 4 ≤ cb ∧ cb ≤ maxLen := by
    rcases h2.2 with ⟨e, _⟩ | ⟨g, cap, cur, e, _, _, h3, h4, _⟩
    · cases e
    · cases e
      exact ⟨h3, h4⟩
  refine ⟨⟨fun j y hj => ⟨N + 1, 0, rfl, ?_⟩, fun x hx => ?_⟩, ⟨La.own_slat h2, fun x hx => ?_⟩, fun j y hj => (by simp [cellsO] at hj), fun x hx => (by cases hx), ⟨by simp [feN], by omega⟩, ⟨by simp [feP2]; omega, by have := hcap.2; unfold maxLen at this; omega⟩, ⟨by simp, by omega⟩⟩
  · rw [Nat.zero_add, Blk.cell h1 j, ← hj, ← List.getElem?_toArray]
  · simp only [feN, List.mem_cons, List.not_mem_nil, or_false] at hx
    rcases hx with rfl | rfl <;> exact ⟨nolab, nolab, by simp [feNode]⟩
  · simp only [feP2, List.mem_cons, List.not_mem_nil, or_false] at hx
    rcases hx with rfl | rfl | rfl | rfl <;> exact ⟨nolab, noter, nolab, noter, noter, by simp [fePod]⟩
theorem fe_few2 : Few feN feP2 [] := ⟨by decide, by decide, by decide⟩
set_option maxRecDepth 100000 in
set_option maxHeartbeats 4000000 in
theorem pack_bad (A B C P D : Option Addr) (ca cb cc cp cd : Nat) (ns : List NodeD) (ps : List PodD) (os : List OwnD) (p pods : List Int) (hE : placeE ns ps os p ≠ 0) (w : World) (h : SnapIn w A B C ca cb cc ns ps os) (hp : IntsAt w P cp p) :
    Calls Tryz.prog 27 #[snapV A B C ca cb cc ns ps os, .slice P p.length cp, .slice D pods.length cd] w fun e w' => e = .returned (.tuple #[.slice none 0 0, .slice none 0 0, .int .i64 (placeE ns ps os p)]) ∧ Below w.heap.size w w' := by
  have B0 : Hid (Below w.heap.size w (w.alloc (.cells (snapC A B C ca cb cc ns ps os) 26))) := Lib.hid (below1 w _)
  have S0 : Hid (Blk (w.alloc (.cells (snapC A B C ca cb cc ns ps os) 26)) w.heap.size (snapC A B C ca cb cc ns ps os) 26) := Lib.hid (Blk.new w _ _)
  have KE := Lib.hid (pcheck_in A B C P ca cb cc cp ns ps os p _ (h.low B0.out) (hp.below B0.out))
  clear h hp
  generalize placeE ns ps os p = E at KE hE ⊢
  have hE1 : (E == 0) = false := by simpa using hE
  have hE2 : decide (E = 0) = false := decide_eq_false hE
  clear hE
  go_enter Tryz.func27, Tryz.ntmps27
  go_upto_region 1 with fail
  try change Code.wp _ _ _ _ (w.alloc (.cells (snapC A B C ca cb cc ns ps os) 26))
  generalize (w.alloc (.cells (snapC A B C ca cb cc ns ps os) 26)) = W0 at B0 S0 KE ⊢
  go_step3
  have z0 : W0.cell? ⟨w.heap.size, 0, none⟩ = some (.slice A ns.length ca) := Blk.cell S0.out 0
  have z1 : W0.cell? ⟨w.heap.size, 1, none⟩ = some (.slice B ps.length cb) := Blk.cell S0.out 1
  have z2 : W0.cell? ⟨w.heap.size, 2, none⟩ = some (.slice C os.length cc) := Blk.cell S0.out 2
  go_wp2_with fail
  refine (KE.out).mono ?_
  rintro e W1 ⟨rfl, hb⟩
  have D := Lib.hid (B0.out.trans (hb.mono B0.out.size))
  clear hb KE z0 z1 z2 S0 B0
  go_wp2
  dsimp only [Exit.noGoto]
  go_ret3
  exact ⟨rfl, D.out⟩
theorem fn_b0 : rankU feN feP [] [0, 1, -1, -1] 0 = [] := by kernel_rfl
theorem fn_b4 : rankU feN feP [] [0, 1, -1, -1] 4 = [] := by kernel_rfl
theorem fn_p0 : placeE feN feP [] [0, 0, 1, -1] = 0 := by kernel_rfl
theorem fn_o : orderU feN feP [3, 3, -1, 9, 0] = [0, 3] := by kernel_rfl
theorem fn_pk : packF feN feP [] [0, 0, 1, -1] [0, 3] = ([0, 0, 1, 0], []) := by kernel_rfl
theorem fn_p1 : placeE feN feP2 [] [0, 1, -1, -1] = 0 := by kernel_rfl
theorem fn_o2 : orderU feN feP2 [3, 2] = [3, 2] := by kernel_rfl
theorem fn_pk2 : packF feN feP2 [] [0, 1, -1, -1] [3, 2] = ([0, 1, 0, -1], [3]) := by kernel_rfl
theorem fn_e : placeE feN feP2 [] [0] = 2 := by kernel_rfl
theorem fn_l1 : leftF feN feP2 [] [1, 1, -1, -1] 1 = 0 := by kernel_rfl
theorem fn_l2 : leftF feN feP2 [] [0, 1, -1, -1] 2 = 0 := by kernel_rfl
theorem fn_l3 : leftF feN feP2 [] [0, 1, -1, -1] (-1) = 0 := by kernel_rfl
theorem fn_l4 : leftF feN feP2 [] [0] 0 = 0 := by kernel_rfl
theorem fn_rm : rankU feN feP2 [] [0, 1, -1, -1] (-1) = [] := by kernel_rfl
theorem fn_ck : checkS feN feP2 [] = 0 := by kernel_rfl
theorem fn_on : orderU feN feP2 [] = [] := by kernel_rfl
theorem fn_oo : orderU feN feP2 [-1, 4] = [] := by kernel_rfl
end Go.Proofs.YtmmokiaipfalmaaGreat

namespace Go.Proofs.YtmmokiaipfalmaaGreat
open Go.RowKit

/-- The cluster, its pods' row and its box lie in memory. -/
structure FnW (w W : World) (N g cb Sb : Nat) (ps : List PodD) : Prop where
  c : Blk W (N + 1) (cellsN feN).toArray 81
  p : W.ownsRow N 53 15 (.slice (some ⟨g, 0, none⟩) 4 cb) 4 (cellsP ps)
  b : Blk W Sb #[.slice (some ⟨N + 1, 0, none⟩) 2 2, .slice (some ⟨g, 0, none⟩) 4 cb, .slice none 0 0] 26
  z : w.heap.size = N
  w : Below w.heap.size w W
theorem FnW.below {w W W' : World} {N g cb Sb : Nat} {ps : List PodD} (h : FnW w W N g cb Sb ps) (hb : Below W.heap.size W W') : FnW w W' N g cb Sb ps := ⟨h.c.below hb h.c.lt, La.own_below h.p hb, h.b.below hb h.b.lt, h.z, h.w.trans (hb.mono h.w.size)⟩
theorem FnW.c0 {w W : World} {N g cb Sb : Nat} {ps : List PodD} (h : FnW w W N g cb Sb ps) : W.cell? ⟨Sb, 0, none⟩ = some (.slice (some ⟨N + 1, 0, none⟩) 2 2) ∧ W.cell? ⟨Sb, 1, none⟩ = some (.slice (some ⟨g, 0, none⟩) 4 cb) ∧ W.cell? ⟨Sb, 2, none⟩ = some (.slice none 0 0) := ⟨Blk.cell h.b 0, Blk.cell h.b 1, Blk.cell h.b 2⟩
theorem FnW.s1 {w W : World} {N g cb Sb : Nat} (h : FnW w W N g cb Sb feP) {a : Prop} (f : FeAt W N (.slice (some ⟨g, 0, none⟩) 4 cb) 4 → a) (ha : Blk W (N + 3) #[.int .i64 50, .int .i64 30, .int .i64 40, .int .i64 20] 3) : a := f ⟨h.c, ha, h.p⟩
theorem own_cellS {w : World} {base : Nat} {e : TypeId} {sz g n cap j : Nat} {xs : List Value} {y : Value} (h : w.ownsRow base e sz (.slice (some ⟨g, 0, none⟩) n cap) n xs) (hj : xs[j]? = some y) : w.cell? ⟨g, j, none⟩ = some y := by
  obtain ⟨b, o, hA, hc⟩ := La.own_slat h j y hj
  cases hA
  rwa [Nat.zero_add] at hc
theorem own_freeS {w : World} {base : Nat} {e : TypeId} {sz g n cap : Nat} {xs : List Value} (h : w.ownsRow base e sz (.slice (some ⟨g, 0, none⟩) n cap) n xs) (k : Nat) :
    w.frozen? ⟨g, k, none⟩ = false := by
  obtain ⟨hl, h1 | ⟨g', cap', cur, hv, hb, hg, h1, h2, h3, h4⟩⟩ := h
  · cases h1.1
  · cases hv
    exact Blk.free (show Blk w g cur e from hg) k
theorem own_lt {w : World} {base : Nat} {e : TypeId} {sz g n cap : Nat} {xs : List Value} (h : w.ownsRow base e sz (.slice (some ⟨g, 0, none⟩) n cap) n xs) : base ≤ g ∧ g < w.heap.size := by
  obtain ⟨hl, h1 | ⟨g', cap', cur, hv, hb, hg, h1, h2, h3, h4⟩⟩ := h
  · cases h1.1
  · cases hv
    exact ⟨hb, (Array.getElem?_eq_some_iff.1 hg).1⟩
theorem own_ne {w : World} {base : Nat} {e : TypeId} {sz g n cap j : Nat} {xs : List Value} {cs : Array Value} {t : TypeId} (h : w.ownsRow base e sz (.slice (some ⟨g, 0, none⟩) n cap) n xs) (hj : Blk w j cs t) (hne : t ≠ e) : j ≠ g := by
  obtain ⟨hl, h1 | ⟨g', cap', cur, hv, hb, hg, h1, h2, h3, h4⟩⟩ := h
  · cases h1.1
  · cases hv
    intro e'
    subst e'
    unfold Blk at hj
    rw [hj] at hg
    injection hg with hg
    injection hg with _ ht _
    exact hne ht
theorem FnW.more {w W : World} {N g cb Sb : Nat} (h : FnW w W N g cb Sb feP) : FnW w (((((W.setCell ⟨g, 47, none⟩ (.int .i64 200)).setCell ⟨g, 48, none⟩ (.int .i64 0)).setCell ⟨g, 49, none⟩ (.int .i64 0)).setCell ⟨g, 50, none⟩ (.int .i64 0)).setCell ⟨g, 51, none⟩ (.int .i64 0)) N g cb Sb feP2 := by
  have n1 := own_ne h.p h.c (by decide)
  have n2 := own_ne h.p h.b (by decide)
  have hp := own_putS (own_putS (own_putS (own_putS (own_putS h.p 47 (.int .i64 200)) 48 (.int .i64 0)) 49 (.int .i64 0)) 50 (.int .i64 0)) 51 (.int .i64 0)
  rw [fe_more] at hp
  have hg : w.heap.size ≤ g := by have := (own_lt h.p).1; have := h.z; omega
  refine ⟨((((h.c.oth n1 _ _).oth n1 _ _).oth n1 _ _).oth n1 _ _).oth n1 _ _, hp, ((((h.b.oth n2 _ _).oth n2 _ _).oth n2 _ _).oth n2 _ _).oth n2 _ _, h.z, ?_⟩
  exact ((((h.w.setCell (p := ⟨g, 47, none⟩) hg _).setCell (p := ⟨g, 48, none⟩) hg _).setCell (p := ⟨g, 49, none⟩) hg _).setCell (p := ⟨g, 50, none⟩) hg _).setCell (p := ⟨g, 51, none⟩) hg _
theorem FnW.s2 {w W : World} {N g cb Sb : Nat} (h : FnW w W N g cb Sb feP2) : SnapIn W (some ⟨N + 1, 0, none⟩) (some ⟨g, 0, none⟩) none 2 cb 0 feN feP2 [] := fe_snap2 h.c h.p
theorem ints_more {W : World} {A : Option Addr} {c g : Nat} {l : List Int} (h : IntsAt W A c l) (hne : ∀ a, A = some a → a.block ≠ g) : IntsAt (((((W.setCell ⟨g, 47, none⟩ (.int .i64 200)).setCell ⟨g, 48, none⟩ (.int .i64 0)).setCell ⟨g, 49, none⟩ (.int .i64 0)).setCell ⟨g, 50, none⟩ (.int .i64 0)).setCell ⟨g, 51, none⟩ (.int .i64 0)) A c l :=
  ints_grown h (grown_set (grown_set (grown_set (grown_set (grown_set (World.grownBy.refl W (some g)) 47 _) 48 _) 49 _) 50 _) 51 _) (fun a ha e => hne a ha (by injection e))
theorem best_none (A B C P : Option Addr) (ca cb cc cp : Nat) (ns : List NodeD) (ps : List PodD) (os : List OwnD) (p : List Int) (pd : Int) (hR : rankU ns ps os p pd = []) (w : World) (h : SnapAt w A B C ca cb cc ns ps os) (hp : IntsAt w P cp p) :
    Calls Tryz.prog 22 #[snapV A B C ca cb cc ns ps os, .slice P p.length cp, .int .i64 pd] w fun e w' => e = .returned (.tuple #[.int .i64 0, .bool false]) ∧ Below w.heap.size w w' := by
  have q := bestU_any A B C P ca cb cc cp ns ps os p pd w h hp
  rw [hR] at q
  exact q
theorem rank_none (A B C P : Option Addr) (ca cb cc cp : Nat) (ns : List NodeD) (ps : List PodD) (os : List OwnD) (p : List Int) (pd : Int) (hR : rankU ns ps os p pd = []) (w : World) (h : SnapAt w A B C ca cb cc ns ps os) (hp : IntsAt w P cp p) :
    Calls Tryz.prog 20 #[snapV A B C ca cb cc ns ps os, .slice P p.length cp, .int .i64 pd] w fun e w' => ∃ X cx, e = .returned (.slice X 0 cx) ∧ Below w.heap.size w w' := by
  refine (rankU_any A B C P ca cb cc cp ns ps os p pd w h hp).mono ?_
  rintro e w' ⟨X, cx, rfl, _, hb⟩
  exact ⟨X, cx, by rw [hR]; rfl, hb⟩
theorem order_none (A B C D : Option Addr) (ca cb cc cd : Nat) (ns : List NodeD) (ps : List PodD) (os : List OwnD) (pods : List Int) (hck : checkS ns ps os = 0) (hR : orderU ns ps pods = []) (w : World) (h : SnapIn w A B C ca cb cc ns ps os) (hD : IntsAt w D cd pods) :
    Calls Tryz.prog 29 #[snapV A B C ca cb cc ns ps os, .slice D pods.length cd] w fun e w' => ∃ X cx, e = .returned (.slice X 0 cx) ∧ Below w.heap.size w w' := by
  refine (order_any A B C D ca cb cc cd ns ps os pods hck w h hD).mono ?_
  rintro e w' ⟨X, cx, rfl, _, _, hb⟩
  exact ⟨X, cx, by rw [hR]; rfl, hb⟩
theorem pack_is (A B C P D : Option Addr) (ca cb cc cp cd : Nat) (ns : List NodeD) (ps : List PodD) (os : List OwnD) (p pods q W : List Int) (L : List Nat) (hE : placeE ns ps os p = 0) (hO : orderU ns ps pods = L) (hF : packF ns ps os p L = (q, W)) (hW : W.length ≤ 1) (w : World) (h : SnapIn w A B C ca cb cc ns ps os) (hpp : ∀ a, P = some a → ∃ b o, a = ⟨b, o, none⟩) (hp : IntsAt w P cp p) (hD : IntsAt w D cd pods) :
    Calls Tryz.prog 27 #[snapV A B C ca cb cc ns ps os, .slice P p.length cp, .slice D pods.length cd] w fun e w' => PackNo w q W p.length e w' := by
  have k := pack_any A B C P D ca cb cc cp cd ns ps os p pods hE w h hpp hp hD
  rw [hO, hF] at k
  have e : W.mergeSort (fun x y => decide (x ≤ y)) = W := by
    match W, hW with
    | [], _ => simp
    | [x], _ => simp
  rwa [show (q, W).1 = q from rfl, show (q, W).2 = W from rfl, e] at k
theorem ints_nil (w : World) : IntsAt w none 0 [] := ⟨fun j y hj => by simp [intsC] at hj, Nat.le_refl _, by omega⟩
set_option maxRecDepth 100000 in
set_option maxHeartbeats 16000000 in
theorem fitNames_law (w : World) :
    Calls Tryz.prog 4 #[] w fun e w' => e = .returned (.bool true) ∧ Below w.heap.size w w' := by
  have KC := Lib.hid (chapter14_any w)
  obtain ⟨N, hN⟩ : ∃ N, w.heap.size = N := ⟨_, rfl⟩
  rw [hN] at KC
  have HN := Lib.hid hN
  clear hN
  go_enter Tryz.func4, Tryz.ntmps4
  go_wp2_with fail
  refine (KC.out).mono ?_
  rintro e w1 ⟨B, cb, rfl, hf, hb⟩
  have hb : Below w.heap.size w w1 := by rw [HN.out]; exact hb
  obtain ⟨g, rfl⟩ : ∃ g, B = some ⟨g, 0, none⟩ := by
    rcases hf.p.2 with ⟨e, h0⟩ | ⟨g, cap, cur, e, _⟩
    · cases h0
    · cases e
      exact ⟨g, rfl⟩
  have HA3 : Hid (Blk w1 (N + 3) #[.int .i64 50, .int .i64 30, .int .i64 40, .int .i64 20] 3) := Lib.hid hf.a
  have H0 : Hid (FnW w (w1.alloc (.cells #[.slice (some ⟨N + 1, 0, none⟩) 2 2, .slice (some ⟨g, 0, none⟩) 4 cb, .slice none 0 0] 26)) N g cb w1.heap.size feP) := Lib.hid ⟨hf.n.below (below1 _ _) hf.n.lt, La.own_below hf.p (below1 _ _), Blk.new w1 _ _, HN.out, hb.trans ((below1 w1 _).mono hb.size)⟩
  have A0 : Hid (Blk (w1.alloc (.cells #[.slice (some ⟨N + 1, 0, none⟩) 2 2, .slice (some ⟨g, 0, none⟩) 4 cb, .slice none 0 0] 26)) (N + 3) #[.int .i64 50, .int .i64 30, .int .i64 40, .int .i64 20] 3) := Lib.hid (HA3.out.below (below1 _ _) HA3.out.lt)
  clear hf hb KC HA3
  go_upto_region 2 with fail
  try change Code.wp _ _ _ _ (w1.alloc (.cells #[.slice (some ⟨N + 1, 0, none⟩) 2 2, .slice (some ⟨g, 0, none⟩) 4 cb, .slice none 0 0] 26))
  generalize (w1.alloc (.cells #[.slice (some ⟨N + 1, 0, none⟩) 2 2, .slice (some ⟨g, 0, none⟩) 4 cb, .slice none 0 0] 26)) = V at H0 A0 ⊢
  obtain ⟨Sb, hSb⟩ : ∃ Sb, w1.heap.size = Sb := ⟨_, rfl⟩
  rw [hSb] at H0 ⊢
  clear hSb
  have IP0 := Lib.hid (ints_newF V [0, 1, -1, -1] (by simp))
  have HPG : Hid (V.heap.size ≠ g) := Lib.hid (by have := (own_lt H0.out.p).2; omega)
  have H1 := Lib.hid (H0.out.below (below1 V (.cells (intsC [0, 1, -1, -1]).toArray 3)))
  have A1 := Lib.hid (A0.out.below (below1 V (.cells (intsC [0, 1, -1, -1]).toArray 3)) A0.out.lt)
  go_upto_region 3 with fail
  try change Code.wp _ _ _ _ (V.alloc (.cells (intsC [0, 1, -1, -1]).toArray 3))
  generalize (V.alloc (.cells (intsC [0, 1, -1, -1]).toArray 3)) = V0 at H1 IP0 A1 ⊢
  obtain ⟨Pb, hPb⟩ : ∃ Pb, V.heap.size = Pb := ⟨_, rfl⟩
  rw [hPb] at IP0 HPG ⊢
  clear hPb H0 A0
  have H0 := H1
  have A0 := A1
  clear H1 A1
  obtain ⟨b0, b1, b2⟩ := H0.out.c0
  have K := Lib.hid (best_none (some ⟨N + 1, 0, none⟩) (some ⟨g, 0, none⟩) none _ 2 cb 0 4 feN feP [] [0, 1, -1, -1] 0 fn_b0 _ ((H0.out.s1 (fun f => f.snap) A0.out).at fe_few) IP0.out)
  go_wp2_with fail
  refine (K.out).mono ?_
  rintro e V1 ⟨rfl, hb⟩
  have H1 := Lib.hid (H0.out.below hb)
  have A1 := Lib.hid (A0.out.below hb A0.out.lt)
  have IP1 := Lib.hid (IP0.out.below hb)
  clear hb K b0 b1 b2 H0 A0 IP0
  obtain ⟨b0, b1, b2⟩ := H1.out.c0
  have K := Lib.hid (best_none (some ⟨N + 1, 0, none⟩) (some ⟨g, 0, none⟩) none _ 2 cb 0 4 feN feP [] [0, 1, -1, -1] 4 fn_b4 _ ((H1.out.s1 (fun f => f.snap) A1.out).at fe_few) IP1.out)
  go_wp2_with fail
  refine (K.out).mono ?_
  rintro e V2 ⟨rfl, hb⟩
  have H2 := Lib.hid (H1.out.below hb)
  have A2 := Lib.hid (A1.out.below hb A1.out.lt)
  have IP2 := Lib.hid (IP1.out.below hb)
  clear hb K b0 b1 b2 H1 A1 IP1
  have R0x := Lib.hid (ints_newF V2 [0, 0, 1, -1] (by simp))
  have Hx0 := Lib.hid (H2.out.below (below1 V2 (.cells (intsC [0, 0, 1, -1]).toArray 3)))
  have Ax0 := Lib.hid (A2.out.below (below1 V2 (.cells (intsC [0, 0, 1, -1]).toArray 3)) A2.out.lt)
  have IPx0 := Lib.hid (IP2.out.below (below1 V2 (.cells (intsC [0, 0, 1, -1]).toArray 3)))
  have R1x := Lib.hid (ints_newF (V2.alloc (.cells (intsC [0, 0, 1, -1]).toArray 3)) [3, 3, -1, 9, 0] (by simp))
  have Hx1 := Lib.hid (Hx0.out.below (below1 (V2.alloc (.cells (intsC [0, 0, 1, -1]).toArray 3)) (.cells (intsC [3, 3, -1, 9, 0]).toArray 3)))
  have Ax1 := Lib.hid (Ax0.out.below (below1 (V2.alloc (.cells (intsC [0, 0, 1, -1]).toArray 3)) (.cells (intsC [3, 3, -1, 9, 0]).toArray 3)) Ax0.out.lt)
  have IPx1 := Lib.hid (IPx0.out.below (below1 (V2.alloc (.cells (intsC [0, 0, 1, -1]).toArray 3)) (.cells (intsC [3, 3, -1, 9, 0]).toArray 3)))
  rw [World.size_alloc] at R1x
  have R0x := Lib.hid (R0x.out.below (below1 (V2.alloc (.cells (intsC [0, 0, 1, -1]).toArray 3)) (.cells (intsC [3, 3, -1, 9, 0]).toArray 3)))
  obtain ⟨b0, b1, b2⟩ := Hx1.out.c0
  have K := Lib.hid (pack_is (some ⟨N + 1, 0, none⟩) (some ⟨g, 0, none⟩) none _ _ 2 cb 0 4 5 feN feP [] [0, 0, 1, -1] [3, 3, -1, 9, 0] [0, 0, 1, 0] [] [0, 3] fn_p0 fn_o fn_pk (by simp) _ (Hx1.out.s1 (fun f => f.snap) Ax1.out) (fun a h => by cases h; exact ⟨_, _, rfl⟩) R0x.out R1x.out)
  clear b0 b1 b2
  obtain ⟨b0, b1, b2⟩ := H2.out.c0
  go_wp2_with fail
  refine (K.out).mono ?_
  rintro e V3 ⟨Xq, cq, Yq, cyq, rfl, ho, hI, hb⟩
  have H3 := Lib.hid (Hx1.out.below hb)
  have A3 := Lib.hid (Ax1.out.below hb Ax1.out.lt)
  have IP3 := Lib.hid (IPx1.out.below hb)
  have IQ3 := Lib.hid (IntsAt.own ho)
  have HQG : Hid (∀ a, Xq = some a → a.block ≠ g) := Lib.hid (fun a ha e => by have h1 := (own_lt Hx1.out.p).2; rcases ho.2 with ⟨e1, _⟩ | ⟨g', cap, cur, e1, e2, _⟩ <;> cases e1 <;> cases ha; dsimp only at e; omega)
  clear ho hI
  clear hb K b0 b1 b2 H2 A2 IP2 R0x Hx0 Ax0 IPx0 R1x Hx1 Ax1 IPx1
  have HX := Lib.hid (H3.out.more)
  have IPx := Lib.hid (ints_more IP3.out (g := g) (fun a ha => by cases ha; exact HPG.out))
  have IQx := Lib.hid (ints_more IQ3.out HQG.out)
  obtain ⟨b0, b1, b2⟩ := H3.out.c0
  have y47 : V3.cell? ⟨g, 47, none⟩ = some (.int .i64 20) := own_cellS H3.out.p rfl
  have g47 := own_freeS H3.out.p 47
  have y48 : V3.cell? ⟨g, 48, none⟩ = some (.int .i64 0) := own_cellS H3.out.p rfl
  have g48 := own_freeS H3.out.p 48
  have y49 : V3.cell? ⟨g, 49, none⟩ = some (.int .i64 0) := own_cellS H3.out.p rfl
  have g49 := own_freeS H3.out.p 49
  have y50 : V3.cell? ⟨g, 50, none⟩ = some (.int .i64 0) := own_cellS H3.out.p rfl
  have g50 := own_freeS H3.out.p 50
  have y51 : V3.cell? ⟨g, 51, none⟩ = some (.int .i64 0) := own_cellS H3.out.p rfl
  have g51 := own_freeS H3.out.p 51
  go_upto_region 7 with fail
  clear y47 g47 y48 g48 y49 g49 y50 g50 y51 g51 b0 b1 b2 HPG HQG H3 A3 IP3 IQ3
  try change Code.wp _ _ _ _ (((((V3.setCell ⟨g, 47, none⟩ (.int .i64 200)).setCell ⟨g, 48, none⟩ (.int .i64 0)).setCell ⟨g, 49, none⟩ (.int .i64 0)).setCell ⟨g, 50, none⟩ (.int .i64 0)).setCell ⟨g, 51, none⟩ (.int .i64 0))
  generalize (((((V3.setCell ⟨g, 47, none⟩ (.int .i64 200)).setCell ⟨g, 48, none⟩ (.int .i64 0)).setCell ⟨g, 49, none⟩ (.int .i64 0)).setCell ⟨g, 50, none⟩ (.int .i64 0)).setCell ⟨g, 51, none⟩ (.int .i64 0)) = V4 at HX IPx IQx ⊢
  have H4 := HX
  have IP4 := IPx
  have IQ4 := IQx
  clear HX IPx IQx
  have R0x := Lib.hid (ints_newF V4 [3, 2] (by simp))
  have Hx0 := Lib.hid (H4.out.below (below1 V4 (.cells (intsC [3, 2]).toArray 3)))
  have IPx0 := Lib.hid (IP4.out.below (below1 V4 (.cells (intsC [3, 2]).toArray 3)))
  have IQx0 := Lib.hid (IQ4.out.below (below1 V4 (.cells (intsC [3, 2]).toArray 3)))
  obtain ⟨b0, b1, b2⟩ := Hx0.out.c0
  have K := Lib.hid (pack_is (some ⟨N + 1, 0, none⟩) (some ⟨g, 0, none⟩) none _ _ 2 cb 0 4 2 feN feP2 [] [0, 1, -1, -1] [3, 2] [0, 1, 0, -1] [3] [3, 2] fn_p1 fn_o2 fn_pk2 (by simp) _ Hx0.out.s2 (fun a h => by cases h; exact ⟨_, _, rfl⟩) IPx0.out R0x.out)
  clear b0 b1 b2
  obtain ⟨b0, b1, b2⟩ := H4.out.c0
  go_wp2_with fail
  refine (K.out).mono ?_
  rintro e V5 ⟨Xr, cr, Yr, cyr, rfl, ho, hI, hb⟩
  have H5 := Lib.hid (Hx0.out.below hb)
  have IP5 := Lib.hid (IPx0.out.below hb)
  have IQ5 := Lib.hid (IQx0.out.below hb)
  have IR5 := Lib.hid (IntsAt.own ho)
  have IS5 := Lib.hid hI
  clear ho hI
  clear hb K b0 b1 b2 H4 IP4 IQ4 R0x Hx0 IPx0 IQx0
  have R0x := Lib.hid (ints_newF V5 [0] (by simp))
  have Hx0 := Lib.hid (H5.out.below (below1 V5 (.cells (intsC [0]).toArray 3)))
  have IPx0 := Lib.hid (IP5.out.below (below1 V5 (.cells (intsC [0]).toArray 3)))
  have IQx0 := Lib.hid (IQ5.out.below (below1 V5 (.cells (intsC [0]).toArray 3)))
  have IRx0 := Lib.hid (IR5.out.below (below1 V5 (.cells (intsC [0]).toArray 3)))
  have ISx0 := Lib.hid (IS5.out.below (below1 V5 (.cells (intsC [0]).toArray 3)))
  obtain ⟨b0, b1, b2⟩ := Hx0.out.c0
  have K := Lib.hid (pack_bad (some ⟨N + 1, 0, none⟩) (some ⟨g, 0, none⟩) none _ none 2 cb 0 1 0 feN feP2 [] [0] [] (by rw [fn_e]; decide) _ Hx0.out.s2 R0x.out)
  rw [fn_e] at K
  clear b0 b1 b2
  obtain ⟨b0, b1, b2⟩ := H5.out.c0
  go_wp2_with fail
  refine (K.out).mono ?_
  rintro e V6 ⟨rfl, hb⟩
  have H6 := Lib.hid (Hx0.out.below hb)
  have IP6 := Lib.hid (IPx0.out.below hb)
  have IQ6 := Lib.hid (IQx0.out.below hb)
  have IR6 := Lib.hid (IRx0.out.below hb)
  have IS6 := Lib.hid (ISx0.out.below hb)
  clear hb K b0 b1 b2 H5 IP5 IQ5 IR5 IS5 R0x Hx0 IPx0 IQx0 IRx0 ISx0
  have R0x := Lib.hid (ints_newF V6 [1, 1, -1, -1] (by simp))
  have Hx0 := Lib.hid (H6.out.below (below1 V6 (.cells (intsC [1, 1, -1, -1]).toArray 3)))
  have IPx0 := Lib.hid (IP6.out.below (below1 V6 (.cells (intsC [1, 1, -1, -1]).toArray 3)))
  have IQx0 := Lib.hid (IQ6.out.below (below1 V6 (.cells (intsC [1, 1, -1, -1]).toArray 3)))
  have IRx0 := Lib.hid (IR6.out.below (below1 V6 (.cells (intsC [1, 1, -1, -1]).toArray 3)))
  have ISx0 := Lib.hid (IS6.out.below (below1 V6 (.cells (intsC [1, 1, -1, -1]).toArray 3)))
  obtain ⟨b0, b1, b2⟩ := Hx0.out.c0
  have K := Lib.hid (Left_any (some ⟨N + 1, 0, none⟩) (some ⟨g, 0, none⟩) none _ 2 cb 0 4 feN feP2 [] [1, 1, -1, -1] 1 _ Hx0.out.s2 R0x.out)
  rw [fn_l1] at K
  clear b0 b1 b2
  obtain ⟨b0, b1, b2⟩ := H6.out.c0
  go_wp2_with fail
  refine (K.out).mono ?_
  rintro e V7 ⟨rfl, hb⟩
  have H7 := Lib.hid (Hx0.out.below hb)
  have IP7 := Lib.hid (IPx0.out.below hb)
  have IQ7 := Lib.hid (IQx0.out.below hb)
  have IR7 := Lib.hid (IRx0.out.below hb)
  have IS7 := Lib.hid (ISx0.out.below hb)
  clear hb K b0 b1 b2 H6 IP6 IQ6 IR6 IS6 R0x Hx0 IPx0 IQx0 IRx0 ISx0
  obtain ⟨b0, b1, b2⟩ := H7.out.c0
  have K := Lib.hid (Left_any (some ⟨N + 1, 0, none⟩) (some ⟨g, 0, none⟩) none _ 2 cb 0 4 feN feP2 [] [0, 1, -1, -1] 2 _ H7.out.s2 IP7.out)
  rw [fn_l2] at K
  go_wp2_with fail
  refine (K.out).mono ?_
  rintro e V8 ⟨rfl, hb⟩
  have H8 := Lib.hid (H7.out.below hb)
  have IP8 := Lib.hid (IP7.out.below hb)
  have IQ8 := Lib.hid (IQ7.out.below hb)
  have IR8 := Lib.hid (IR7.out.below hb)
  have IS8 := Lib.hid (IS7.out.below hb)
  clear hb K b0 b1 b2 H7 IP7 IQ7 IR7 IS7
  obtain ⟨b0, b1, b2⟩ := H8.out.c0
  have K := Lib.hid (Left_any (some ⟨N + 1, 0, none⟩) (some ⟨g, 0, none⟩) none _ 2 cb 0 4 feN feP2 [] [0, 1, -1, -1] (-1) _ H8.out.s2 IP8.out)
  rw [fn_l3] at K
  go_wp2_with fail
  refine (K.out).mono ?_
  rintro e V9 ⟨rfl, hb⟩
  have H9 := Lib.hid (H8.out.below hb)
  have IP9 := Lib.hid (IP8.out.below hb)
  have IQ9 := Lib.hid (IQ8.out.below hb)
  have IR9 := Lib.hid (IR8.out.below hb)
  have IS9 := Lib.hid (IS8.out.below hb)
  clear hb K b0 b1 b2 H8 IP8 IQ8 IR8 IS8
  have R0x := Lib.hid (ints_newF V9 [0] (by simp))
  have Hx0 := Lib.hid (H9.out.below (below1 V9 (.cells (intsC [0]).toArray 3)))
  have IPx0 := Lib.hid (IP9.out.below (below1 V9 (.cells (intsC [0]).toArray 3)))
  have IQx0 := Lib.hid (IQ9.out.below (below1 V9 (.cells (intsC [0]).toArray 3)))
  have IRx0 := Lib.hid (IR9.out.below (below1 V9 (.cells (intsC [0]).toArray 3)))
  have ISx0 := Lib.hid (IS9.out.below (below1 V9 (.cells (intsC [0]).toArray 3)))
  obtain ⟨b0, b1, b2⟩ := Hx0.out.c0
  have K := Lib.hid (Left_any (some ⟨N + 1, 0, none⟩) (some ⟨g, 0, none⟩) none _ 2 cb 0 1 feN feP2 [] [0] 0 _ Hx0.out.s2 R0x.out)
  rw [fn_l4] at K
  clear b0 b1 b2
  obtain ⟨b0, b1, b2⟩ := H9.out.c0
  go_wp2_with fail
  refine (K.out).mono ?_
  rintro e V10 ⟨rfl, hb⟩
  have H10 := Lib.hid (Hx0.out.below hb)
  have IP10 := Lib.hid (IPx0.out.below hb)
  have IQ10 := Lib.hid (IQx0.out.below hb)
  have IR10 := Lib.hid (IRx0.out.below hb)
  have IS10 := Lib.hid (ISx0.out.below hb)
  clear hb K b0 b1 b2 H9 IP9 IQ9 IR9 IS9 R0x Hx0 IPx0 IQx0 IRx0 ISx0
  obtain ⟨b0, b1, b2⟩ := H10.out.c0
  have K := Lib.hid (works14_any V10)
  go_wp2_with fail
  refine (K.out).mono ?_
  rintro e V11 ⟨rfl, hb⟩
  have H11 := Lib.hid (H10.out.below hb)
  have IP11 := Lib.hid (IP10.out.below hb)
  have IQ11 := Lib.hid (IQ10.out.below hb)
  have IR11 := Lib.hid (IR10.out.below hb)
  have IS11 := Lib.hid (IS10.out.below hb)
  clear hb K b0 b1 b2 H10 IP10 IQ10 IR10 IS10
  have R0x := Lib.hid (ints_newF V11 [0, 0, 1, 0] (by simp))
  have Hx0 := Lib.hid (H11.out.below (below1 V11 (.cells (intsC [0, 0, 1, 0]).toArray 3)))
  have IPx0 := Lib.hid (IP11.out.below (below1 V11 (.cells (intsC [0, 0, 1, 0]).toArray 3)))
  have IQx0 := Lib.hid (IQ11.out.below (below1 V11 (.cells (intsC [0, 0, 1, 0]).toArray 3)))
  have IRx0 := Lib.hid (IR11.out.below (below1 V11 (.cells (intsC [0, 0, 1, 0]).toArray 3)))
  have ISx0 := Lib.hid (IS11.out.below (below1 V11 (.cells (intsC [0, 0, 1, 0]).toArray 3)))
  obtain ⟨b0, b1, b2⟩ := Hx0.out.c0
  have K := Lib.hid (eqSameF Xq _ cq 4 [0, 0, 1, 0] _ (by simp) IQx0.out R0x.out)
  clear b0 b1 b2
  obtain ⟨b0, b1, b2⟩ := H11.out.c0
  go_wp2_with fail
  refine (K.out).mono ?_
  rintro e V12 ⟨rfl, hb⟩
  have H12 := Lib.hid (Hx0.out.below hb)
  have IP12 := Lib.hid (IPx0.out.below hb)
  have IQ12 := Lib.hid (IQx0.out.below hb)
  have IR12 := Lib.hid (IRx0.out.below hb)
  have IS12 := Lib.hid (ISx0.out.below hb)
  clear hb K b0 b1 b2 H11 IP11 IQ11 IR11 IS11 R0x Hx0 IPx0 IQx0 IRx0 ISx0
  have R0x := Lib.hid (ints_newF V12 [0, 1, 0, -1] (by simp))
  have Hx0 := Lib.hid (H12.out.below (below1 V12 (.cells (intsC [0, 1, 0, -1]).toArray 3)))
  have IPx0 := Lib.hid (IP12.out.below (below1 V12 (.cells (intsC [0, 1, 0, -1]).toArray 3)))
  have IRx0 := Lib.hid (IR12.out.below (below1 V12 (.cells (intsC [0, 1, 0, -1]).toArray 3)))
  have ISx0 := Lib.hid (IS12.out.below (below1 V12 (.cells (intsC [0, 1, 0, -1]).toArray 3)))
  obtain ⟨b0, b1, b2⟩ := Hx0.out.c0
  have K := Lib.hid (eqSameF Xr _ cr 4 [0, 1, 0, -1] _ (by simp) IRx0.out R0x.out)
  clear b0 b1 b2
  obtain ⟨b0, b1, b2⟩ := H12.out.c0
  go_wp2_with fail
  refine (K.out).mono ?_
  rintro e V13 ⟨rfl, hb⟩
  have H13 := Lib.hid (Hx0.out.below hb)
  have IP13 := Lib.hid (IPx0.out.below hb)
  have IR13 := Lib.hid (IRx0.out.below hb)
  have IS13 := Lib.hid (ISx0.out.below hb)
  clear hb K b0 b1 b2 H12 IP12 IR12 IS12 R0x Hx0 IPx0 IRx0 ISx0
  have R0x := Lib.hid (ints_newF V13 [3] (by simp))
  have Hx0 := Lib.hid (H13.out.below (below1 V13 (.cells (intsC [3]).toArray 3)))
  have IPx0 := Lib.hid (IP13.out.below (below1 V13 (.cells (intsC [3]).toArray 3)))
  have ISx0 := Lib.hid (IS13.out.below (below1 V13 (.cells (intsC [3]).toArray 3)))
  obtain ⟨b0, b1, b2⟩ := Hx0.out.c0
  have K := Lib.hid (eqSameF Yr _ cyr 1 [3] _ (by simp) ISx0.out R0x.out)
  clear b0 b1 b2
  obtain ⟨b0, b1, b2⟩ := H13.out.c0
  go_wp2_with fail
  refine (K.out).mono ?_
  rintro e V14 ⟨rfl, hb⟩
  have H14 := Lib.hid (Hx0.out.below hb)
  have IP14 := Lib.hid (IPx0.out.below hb)
  have IS14 := Lib.hid (ISx0.out.below hb)
  clear hb K b0 b1 b2 H13 IP13 IS13 R0x Hx0 IPx0 ISx0
  obtain ⟨b0, b1, b2⟩ := H14.out.c0
  have K := Lib.hid (rank_none (some ⟨N + 1, 0, none⟩) (some ⟨g, 0, none⟩) none _ 2 cb 0 4 feN feP2 [] [0, 1, -1, -1] (-1) fn_rm _ (H14.out.s2.at fe_few2) IP14.out)
  go_wp2_with fail
  refine (K.out).mono ?_
  rintro e V15 ⟨Xk, ck, rfl, hb⟩
  have H15 := Lib.hid (H14.out.below hb)
  have IP15 := Lib.hid (IP14.out.below hb)
  clear hb K b0 b1 b2 H14 IP14
  obtain ⟨b0, b1, b2⟩ := H15.out.c0
  have K := Lib.hid (order_none (some ⟨N + 1, 0, none⟩) (some ⟨g, 0, none⟩) none none 2 cb 0 0 feN feP2 [] [] fn_ck fn_on _ H15.out.s2 (ints_nil _))
  go_wp2_with fail
  refine (K.out).mono ?_
  rintro e V16 ⟨Xo, co, rfl, hb⟩
  have H16 := Lib.hid (H15.out.below hb)
  have IP16 := Lib.hid (IP15.out.below hb)
  clear hb K b0 b1 b2 H15 IP15
  have R0x := Lib.hid (ints_newF V16 [-1, 4] (by simp))
  have Hx0 := Lib.hid (H16.out.below (below1 V16 (.cells (intsC [-1, 4]).toArray 3)))
  have IPx0 := Lib.hid (IP16.out.below (below1 V16 (.cells (intsC [-1, 4]).toArray 3)))
  obtain ⟨b0, b1, b2⟩ := Hx0.out.c0
  have K := Lib.hid (order_none (some ⟨N + 1, 0, none⟩) (some ⟨g, 0, none⟩) none _ 2 cb 0 2 feN feP2 [] [-1, 4] fn_ck fn_oo _ Hx0.out.s2 R0x.out)
  clear b0 b1 b2
  obtain ⟨b0, b1, b2⟩ := H16.out.c0
  go_wp2_with fail
  refine (K.out).mono ?_
  rintro e V17 ⟨Xt, ct, rfl, hb⟩
  have H17 := Lib.hid (Hx0.out.below hb)
  have IP17 := Lib.hid (IPx0.out.below hb)
  clear hb K b0 b1 b2 H16 IP16 R0x Hx0 IPx0
  go_wp2
  go_ret
  exact ⟨rfl, H17.out.w⟩
end Go.Proofs.YtmmokiaipfalmaaGreat
