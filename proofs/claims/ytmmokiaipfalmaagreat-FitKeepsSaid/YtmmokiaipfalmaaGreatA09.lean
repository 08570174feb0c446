/- What one placement makes worse: the program's worseThan, its closure, Worse. Contracts. Condition: the cluster and the numbers lie in memory. Whether a placement is safe, by how much it is broken: the program's Safe, Sum. Contracts. Condition: the cluster and the numbers lie in memory. What is against a step, as a value of any type: the program's try, clauseOf, errorOf, Step, May. Contracts. Condition: the cluster and the numbers lie in memory. What a step makes, or why it may not be done; whether it may be: the program's Step, May, and the document's. Contracts. Condition: the cluster and the numbers lie in memory. The nodes for a pod; steps, one behind the other: the program's Ways, Run. Contracts. Condition: the cluster, the numbers, the steps lie in memory. Where a pod fits best: the contract of Rank. Condition: the cluster and the placement lie in memory. Where a pod fits best: the contract of Best. Condition: the cluster and the placement lie in memory. The nodes for a pod, and pods, as they are ranked: plain lists, put in order by insertion. No conditions. Is a number in a list: the contract of the helper of layer 14. Condition: the numbers lie in memory. What Rank, Ways, Best, Apply and Left tell, as numbers; what is left where the row leads. Condition: the arguments lie in memory. The greatest of each quantity, and how great pods are: the contracts of mostOf and sizesOf. Condition: the cluster lies in memory, and may be. -/
import Derived.Test.YtmmokiaipfalmaaGreatA08

namespace Go.Proofs.YtmmokiaipfalmaaGreat
open Go.RowKit Go.Maps Go.Shelf

set_option maxRecDepth 100000 in
set_option maxHeartbeats 4000000 in
theorem worse1_any (c : ClT) (hk : OkC c) (g mb n : Nat) (L : List ClT) (hL : ∀ d ∈ L, OkC d) (hr : L.Pairwise Rise3) (hg0 : ∀ d ∈ L, 0 ≤ d.2.2.2) (w : World) (hg : Blk w g #[.map (some mb)] 146) (hm : w.ownsMap Tryz.prog 192 intE mb n (mapW (L.filter brokC))) :
    Calls Tryz.prog 163 #[clV c, .pointer (some ⟨g, 0, none⟩)] w fun e w' => e = .returned (.bool (worC L c)) ∧ Below w.heap.size w w' := by
  have B0 : Hid (Below w.heap.size w (w.alloc (.cells #[.int .i64 c.1, .int .i64 c.2.1, .int .i64 c.2.2.1, .int .i64 c.2.2.2] 62))) := Lib.hid (below1 w _)
  have Q0 : Hid (Blk (w.alloc (.cells #[.int .i64 c.1, .int .i64 c.2.1, .int .i64 c.2.2.1, .int .i64 c.2.2.2] 62)) w.heap.size #[.int .i64 c.1, .int .i64 c.2.1, .int .i64 c.2.2.1, .int .i64 c.2.2.2] 62) := Lib.hid (Blk.new w _ _)
  have G0 : Hid (Blk (w.alloc (.cells #[.int .i64 c.1, .int .i64 c.2.1, .int .i64 c.2.2.1, .int .i64 c.2.2.2] 62)) g #[.map (some mb)] 146) := Lib.hid (Blk.alloc hg _)
  have M0 := Lib.hid (own_mapB hm B0.out)
  have HKO := Lib.hid (keyOf_w hk)
  have HAT := Lib.hid (mapW_at hk (l := L.filter brokC) (fun d hd => hL d (List.mem_filter.1 hd).1) (rise_filter hr _))
  have HE := Lib.hid (worC_broken hr hg0 c)
  have KW := Lib.hid (fun W' => whichOf_any c W')
  generalize (findC (L.filter brokC) c.1 c.2.1 c.2.2.1).getD 0 = z at HAT HE
  generalize worC L c = res at HE ⊢
  generalize mapW (L.filter brokC) = D at M0 HAT
  clear hg hm hL hr hg0 hk
  have hz : (z < c.2.2.2 ∧ decide (z < c.2.2.2) = true) ∨ (¬ z < c.2.2.2 ∧ decide (z < c.2.2.2) = false) := by
    by_cases h : z < c.2.2.2
    · exact .inl ⟨h, decide_eq_true h⟩
    · exact .inr ⟨h, decide_eq_false h⟩
  go_enter Tryz.func163, Tryz.ntmps163
  go_upto_region 1 with fail
  try change Code.wp _ _ _ _ (w.alloc (.cells #[.int .i64 c.1, .int .i64 c.2.1, .int .i64 c.2.2.1, .int .i64 c.2.2.2] 62))
  generalize (w.alloc (.cells #[.int .i64 c.1, .int .i64 c.2.1, .int .i64 c.2.2.1, .int .i64 c.2.2.2] 62)) = W at B0 Q0 G0 M0 ⊢
  have HC := Lib.hid (fun W' (hb : Below W.heap.size W W') => (show W'.cell? ⟨w.heap.size, 0, none⟩ = some (.int .i64 c.1) ∧ W'.cell? ⟨w.heap.size, 1, none⟩ = some (.int .i64 c.2.1) ∧ W'.cell? ⟨w.heap.size, 2, none⟩ = some (.int .i64 c.2.2.1) ∧ W'.cell? ⟨w.heap.size, 3, none⟩ = some (.int .i64 c.2.2.2) ∧ W'.cell? ⟨g, 0, none⟩ = some (.map (some mb)) from ⟨Blk.cell (Q0.out.below hb Q0.out.lt) 0, Blk.cell (Q0.out.below hb Q0.out.lt) 1, Blk.cell (Q0.out.below hb Q0.out.lt) 2, Blk.cell (Q0.out.below hb Q0.out.lt) 3, Blk.cell (G0.out.below hb G0.out.lt) 0⟩))
  have HOm := Lib.hid (fun W' (hb : Below W.heap.size W W') => own_mapB M0.out hb)
  have HD : Hid (Below W.heap.size W W.drew) := Lib.hid ((Below.refl _ W).drew)
  obtain ⟨c0, c1, c2, c3, c4⟩ := HC.out _ HD.out
  rcases hz with ⟨h1, h2⟩ | ⟨h1, h2⟩
  · rw [h2] at HE
    have HR := Lib.hid HE.out.symm
    clear HE h2
    go_region_held3 (fun w' => w'.cell? ⟨w.heap.size, 0, none⟩ = some (.int .i64 c.1) ∧ w'.cell? ⟨w.heap.size, 1, none⟩ = some (.int .i64 c.2.1) ∧ w'.cell? ⟨w.heap.size, 2, none⟩ = some (.int .i64 c.2.2.1) ∧ w'.cell? ⟨w.heap.size, 3, none⟩ = some (.int .i64 c.2.2.2) ∧ w'.cell? ⟨g, 0, none⟩ = some (.map (some mb)))
      (first | exact ⟨c0, c1, c2, c3, c4⟩ | exact ⟨y0, y1, y2, y3, y4⟩)
      (first
        | (go_at_call 164
           refine (KW.out _).mono ?_
           rintro e wA ⟨rfl, hbA⟩
           have HDA := Lib.hid (HD.out.trans (hbA.mono HD.out.size))
           obtain ⟨y0, y1, y2, y3, y4⟩ := HC.out _ HDA.out
           have hlk := look_run (HOm.out _ HDA.out) HKO.out HAT.out
           clear hbA))
    all_goals
      (try go_wp2_with fail)
      go_ret
      exact ⟨La.retB HR.out.symm, B0.out.trans (HDA.out.mono B0.out.size)⟩
  · have HE0 := HE
    rw [h2] at HE
    have HR := Lib.hid HE.out.symm
    have h3 : c.2.2.2 ≤ z := by omega
    clear HE h2 h1
    go_region_held3 (fun w' => w'.cell? ⟨w.heap.size, 0, none⟩ = some (.int .i64 c.1) ∧ w'.cell? ⟨w.heap.size, 1, none⟩ = some (.int .i64 c.2.1) ∧ w'.cell? ⟨w.heap.size, 2, none⟩ = some (.int .i64 c.2.2.1) ∧ w'.cell? ⟨w.heap.size, 3, none⟩ = some (.int .i64 c.2.2.2) ∧ w'.cell? ⟨g, 0, none⟩ = some (.map (some mb)))
      (first | exact ⟨c0, c1, c2, c3, c4⟩ | exact ⟨y0, y1, y2, y3, y4⟩)
      (first
        | (go_at_call 164
           refine (KW.out _).mono ?_
           rintro e wA ⟨rfl, hbA⟩
           have HDA := Lib.hid (HD.out.trans (hbA.mono HD.out.size))
           obtain ⟨y0, y1, y2, y3, y4⟩ := HC.out _ HDA.out
           have hlk := look_run (HOm.out _ HDA.out) HKO.out HAT.out
           clear hbA))
    all_goals
      (try go_wp2_with fail)
      go_ret
      exact ⟨La.retB HE0.out, B0.out.trans (HDA.out.mono B0.out.size)⟩

/-- What worseThan hands on. -/
def FunAt (B0 : Nat) (w : World) (E : Int) (L : List ClT) (F : Value) : Prop := (E ≠ 0 → F = .nilFunc) ∧ (E = 0 → ∃ g mb, F = .func (Fn.func 163) #[] #[.pointer (some ⟨g, 0, none⟩)] ∧ B0 ≤ g ∧ Blk w g #[.map (some mb)] 146 ∧ w.ownsMap Tryz.prog 192 intE mb L.length (mapW (L.filter brokC)))

set_option maxRecDepth 100000 in
set_option maxHeartbeats 2000000 in
theorem worseThan_any (A B C P : Option Addr) (ca cb cc cp : Nat) (ns : List NodeD) (ps : List PodD) (os : List OwnD) (p : List Int) (hk : ∀ c ∈ all8 ns ps os p, OkC c) (hl : (all8 ns ps os p).length ≤ 12000) (w : World) (h : SnapAt w A B C ca cb cc ns ps os) (hp : IntsAt w P cp p) :
    Calls Tryz.prog 91 #[snapV A B C ca cb cc ns ps os, .slice P p.length cp] w fun e w' => ∃ F, e = .returned (.tuple #[F, .int .i64 (placeE ns ps os p)]) ∧ FunAt w.heap.size w' (placeE ns ps os p) (all8 ns ps os p) F ∧ Below w.heap.size w w' := by
  have B0 : Hid (Below w.heap.size w (w.alloc (.cells (snapC A B C ca cb cc ns ps os) 26))) := Lib.hid (below1 w _)
  have HA := Lib.hid (brokenBy_any A B C P ca cb cc cp ns ps os p hk hl _ (h.below B0.out) (hp.below B0.out))
  generalize all8 ns ps os p = l at HA ⊢
  generalize placeE ns ps os p = E at HA ⊢
  clear h hp hk hl
  go_enter Tryz.func91, Tryz.ntmps91
  go_wp2_with fail
  refine (HA.out).mono ?_
  rintro e w1 ⟨m, rfl, hm, hb⟩
  have HM := Lib.hid hm
  have B1 := Lib.hid (B0.out.trans (hb.mono B0.out.size))
  clear hm hb HA B0
  by_cases hE : E = 0
  case neg =>
    have hne : (E != 0) = true := by simpa using hE
    have HE := Lib.hid hE
    have B2 := Lib.hid (B1.out.alloc B1.out.size (.cells #[.map m] 146))
    clear hE
    go_wp2
    go_ret2
    exact ⟨_, rfl, ⟨fun _ => rfl, fun h => absurd h HE.out⟩, B2.out⟩
  subst hE
  obtain ⟨mb, rfl, hmb, hmo⟩ := HM.out.2 rfl
  have B2 := Lib.hid (B1.out.alloc B1.out.size (.cells #[.map (some mb)] 146))
  have Q2 := Lib.hid (Blk.new w1 #[.map (some mb)] 146)
  have M2 := Lib.hid (hmo.alloc (.cells #[.map (some mb)] 146))
  have hsz := Lib.hid B1.out.size
  clear hmb hmo HM
  go_wp2
  go_ret2
  exact ⟨_, rfl, ⟨fun h => absurd rfl h, fun _ => ⟨_, mb, rfl, hsz.out, Q2.out, M2.out⟩⟩, B2.out⟩

set_option maxRecDepth 100000 in
set_option maxHeartbeats 8000000 in
theorem worse_any (A B C P Q : Option Addr) (ca cb cc cp cq : Nat) (ns : List NodeD) (ps : List PodD) (os : List OwnD) (p q : List Int) (hk : ∀ c ∈ all8 ns ps os p, OkC c) (hkq : ∀ c ∈ all8 ns ps os q, OkC c) (hl : (all8 ns ps os p).length ≤ 12000) (hlq : (all8 ns ps os q).length ≤ 12000) (w : World) (h : SnapAt w A B C ca cb cc ns ps os) (hp : IntsAt w P cp p) (hq : IntsAt w Q cq q) :
    Calls Tryz.prog 36 #[snapV A B C ca cb cc ns ps os, .slice P p.length cp, .slice Q q.length cq] w fun e w' => ∃ v, e = .returned (.tuple #[v, .int .i64 (worseE ns ps os p q)]) ∧ w'.ownsRow w.heap.size 62 4 v (worseF ns ps os p q).length (cells4 (worseF ns ps os p q)) ∧ Below w.heap.size w w' := by
  have B0 : Hid (Below w.heap.size w (w.alloc (.cells (snapC A B C ca cb cc ns ps os) 26))) := Lib.hid (below1 w _)
  have S0 : Hid (Blk (w.alloc (.cells (snapC A B C ca cb cc ns ps os) 26)) w.heap.size (snapC A B C ca cb cc ns ps os) 26) := Lib.hid (Blk.new w _ _)
  have HA := Lib.hid (worseThan_any A B C P ca cb cc cp ns ps os p hk hl _ (h.below B0.out) (hp.below B0.out))
  have HB := Lib.hid (fun W' (hb : Below w.heap.size w W') => allP_any A B C Q ca cb cc cq ns ps os q W' (h.below hb) (hq.below hb))
  have HR := Lib.hid (all8_rise ns ps os p)
  have HG := Lib.hid (fun c hc => (all8_good ns ps os p c hc).1)
  have HK := Lib.hid hk
  have HKq := Lib.hid hkq
  obtain ⟨i0, hi0, hz0, hz1, hz2⟩ := info_parts cl_info
  have HF : Hid (worseF ns ps os p q = if placeE ns ps os p = 0 then (all8 ns ps os q).filter (worC (all8 ns ps os p)) else []) := Lib.hid rfl
  have HF0 : Hid (placeE ns ps os q ≠ 0 → all8 ns ps os q = []) := Lib.hid (fun h => by unfold all8; rw [if_neg h])
  have HE : Hid (worseE ns ps os p q = if placeE ns ps os p = 0 then placeE ns ps os q else placeE ns ps os p) := Lib.hid rfl
  generalize worseF ns ps os p q = R at HF ⊢
  generalize worseE ns ps os p q = e9 at HE ⊢
  generalize all8 ns ps os p = L at HA HR HG HK HF
  generalize all8 ns ps os q = l at HB HKq HF HF0 hlq
  generalize placeE ns ps os p = Ep at HA HF HE
  generalize placeE ns ps os q = Eq at HB HE HF0
  clear h hp hq hk hkq hl
  go_enter Tryz.func36, Tryz.ntmps36
  go_wp2_with fail
  refine (HA.out).mono ?_
  rintro e w1 ⟨F, rfl, hF, hb⟩
  have HFn := Lib.hid hF
  have B1 := Lib.hid (B0.out.trans (hb.mono B0.out.size))
  have S1 := Lib.hid (S0.out.below hb S0.out.lt)
  clear hF hb HA B0 S0
  by_cases hE : Ep = 0
  case neg =>
    have hne : (Ep != 0) = true := by simpa using hE
    have hR : R = [] := by rw [HF.out, if_neg hE]
    have h9 : e9 = Ep := by rw [HE.out, if_neg hE]
    clear hE HF HE
    go_wp2
    go_ret2
    subst hR h9
    exact ⟨_, rfl, World.ownsRow_nil _ _ _ _, B1.out⟩
  subst hE
  obtain ⟨g, mb, rfl, hg, hgb, hmo⟩ := HFn.out.2 rfl
  have G1 := Lib.hid hgb
  have M1 := Lib.hid hmo
  have h9 : Hid (e9 = Eq) := Lib.hid (by rw [HE.out, if_pos rfl])
  have hR : Hid (R = l.filter (worC L)) := Lib.hid (by rw [HF.out, if_pos rfl])
  clear hg hgb hmo HFn HF HE
  have KB := Lib.hid (HB.out _ B1.out)
  have z0 : w1.cell? ⟨w.heap.size, 0, none⟩ = some (.slice A ns.length ca) := Blk.cell S1.out 0
  have z1 : w1.cell? ⟨w.heap.size, 1, none⟩ = some (.slice B ps.length cb) := Blk.cell S1.out 1
  have z2 : w1.cell? ⟨w.heap.size, 2, none⟩ = some (.slice C os.length cc) := Blk.cell S1.out 2
  go_wp2_with fail
  refine (KB.out).mono ?_
  rintro e w2 ⟨v, rfl, ho, hb⟩
  obtain ⟨Gl, cg, rfl, _⟩ := La.own_slice ho
  have O2 := Lib.hid (La.own_slat ho)
  have B2 := Lib.hid (B1.out.trans (hb.mono B1.out.size))
  have G2 := Lib.hid (G1.out.below hb G1.out.lt)
  have M2 := Lib.hid (own_mapB M1.out hb)
  clear ho hb KB HB B1 S1 G1 M1 z0 z1 z2
  by_cases hE : Eq = 0
  case neg =>
    have hne : (Eq != 0) = true := by simpa using hE
    have hR2 : R = [] := by rw [hR.out, HF0.out hE]; rfl
    have h92 := h9.out
    clear hE hR h9 HF0
    go_wp2
    go_ret2
    subst hR2 h92
    exact ⟨_, rfl, World.ownsRow_nil _ _ _ _, B2.out⟩
  subst hE
  clear HF0
  have henter : ∀ (args : Array Value) (w : World), (callFunc 163 args).run Tryz.prog w = .ok (.enter 163 args) w := fun _ _ => by kernel_rfl
  have KW := Lib.hid (fun (W' : World) (hb : Below w2.heap.size w2 W') (y : ClT) (hy : y ∈ l) => worse1_any y (HKq.out y hy) g mb L.length L HK.out HR.out HG.out W' (G2.out.below hb G2.out.lt) (own_mapB M2.out hb))
  clear HK HR HG G2 M2
  go_wp2_with fail
  go_loopw [11, 34] (fun v i wr => ∃ k : Nat, k ≤ l.length ∧ i = .int .i64 k ∧ wr.ownsRow w2.heap.size 62 4 v ((l.take k).filter (worC L)).length (cells4 ((l.take k).filter (worC L))) ∧ Below w2.heap.size w2 wr) (fun _ i _ => l.length - (intOf i).toNat)
  case atStart => exact ⟨0, by omega, rfl, World.ownsRow_nil _ _ _ _, Below.refl _ _⟩
  case round =>
    obtain ⟨k, hk, rfl, ho, hb⟩ := hrel
    have HO := Lib.hid ho
    have HB := Lib.hid hb
    clear ho hb
    by_cases hlt : k < l.length
    case neg =>
      obtain rfl : k = l.length := by omega
      rw [List.take_length, ← hR.out] at HO
      have h92 := h9.out
      clear h9
      go_wp2
      go_ret2
      subst h92
      exact ⟨_, rfl, own_base HO.out B2.out.size, B2.out.trans (HB.out.mono B2.out.size)⟩
    obtain ⟨y, hy⟩ : ∃ y, l[k]? = some y := ⟨l[k], List.getElem?_eq_getElem hlt⟩
    have hyl := List.mem_of_getElem? hy
    obtain ⟨gy, oy, hGy, hbl, c0, c1, c2, c3⟩ := atC (La.SlAt.below O2.out HB.out) hy
    subst hGy
    have k0 : (0 : Int) ≤ (k : Int) := by omega
    have k1 : (k : Int) < (l.length : Int) := by omega
    have HF := Lib.hid (filt_snoc (worC L) hy)
    have hfl : ((l.take k).filter (worC L)).length ≤ k := Nat.le_trans (List.length_filter_le _ _) (by rw [List.length_take]; omega)
    clear hy
    generalize (l.take k).filter (worC L) = M at HO HF hfl
    go_upto_region 11 with fail
    have T8 : Hid (Blk (wr.alloc (.cells #[.int .i64 y.1, .int .i64 y.2.1, .int .i64 y.2.2.1, .int .i64 y.2.2.2] 62)) wr.heap.size #[.int .i64 y.1, .int .i64 y.2.1, .int .i64 y.2.2.1, .int .i64 y.2.2.2] 62) := Lib.hid (Blk.new wr _ _)
    have R8 : Hid (Below wr.heap.size wr (wr.alloc (.cells #[.int .i64 y.1, .int .i64 y.2.1, .int .i64 y.2.2.1, .int .i64 y.2.2.2] 62))) := Lib.hid (below1 wr _)
    try change Code.wp _ _ _ _ (wr.alloc (.cells #[.int .i64 y.1, .int .i64 y.2.1, .int .i64 y.2.2.1, .int .i64 y.2.2.2] 62))
    generalize (wr.alloc (.cells #[.int .i64 y.1, .int .i64 y.2.1, .int .i64 y.2.2.1, .int .i64 y.2.2.2] 62)) = W8 at T8 R8 ⊢
    have HO8 := Lib.hid (La.own_below HO.out R8.out)
    have HB8 := Lib.hid (HB.out.trans (R8.out.mono HB.out.size))
    clear c0 c1 c2 c3
    have c0 : W8.cell? ⟨wr.heap.size, 0, none⟩ = some (.int .i64 y.1) := Blk.cell T8.out 0
    have c1 : W8.cell? ⟨wr.heap.size, 1, none⟩ = some (.int .i64 y.2.1) := Blk.cell T8.out 1
    have c2 : W8.cell? ⟨wr.heap.size, 2, none⟩ = some (.int .i64 y.2.2.1) := Blk.cell T8.out 2
    have c3 : W8.cell? ⟨wr.heap.size, 3, none⟩ = some (.int .i64 y.2.2.2) := Blk.cell T8.out 3
    have KY := Lib.hid (KW.out W8 HB8.out y hyl)
    clear R8 HO HB hyl
    go_wp2_with fail
    refine (KY.out).mono ?_
    rintro e w3 ⟨rfl, hb3⟩
    have HO9 := Lib.hid (La.own_below HO8.out hb3)
    have HB9 := Lib.hid (HB8.out.trans (hb3.mono HB8.out.size))
    have T9 := Lib.hid (T8.out.below hb3 T8.out.lt)
    clear KY c0 c1 c2 c3 hb3 HO8 HB8 T8
    have c0 : w3.cell? ⟨wr.heap.size, 0, none⟩ = some (.int .i64 y.1) := Blk.cell T9.out 0
    have c1 : w3.cell? ⟨wr.heap.size, 1, none⟩ = some (.int .i64 y.2.1) := Blk.cell T9.out 1
    have c2 : w3.cell? ⟨wr.heap.size, 2, none⟩ = some (.int .i64 y.2.2.1) := Blk.cell T9.out 2
    have c3 : w3.cell? ⟨wr.heap.size, 3, none⟩ = some (.int .i64 y.2.2.2) := Blk.cell T9.out 3
    cases hwy : worC L y with
    | false =>
      have HE : Hid ((l.take (k + 1)).filter (worC L) = M) := Lib.hid (by rw [HF.out, hwy]; simp)
      clear HF hwy
      go_wp2_with fail
      go_roundw
      case rel => exact ⟨k + 1, by omega, by go_num, by rw [HE.out]; exact HO9.out, HB9.out⟩
      case measure => simp [intOf]; omega
    | true =>
      have HE : Hid ((l.take (k + 1)).filter (worC L) = M ++ [y]) := Lib.hid (by rw [HF.out, hwy]; simp)
      clear HF hwy
      go_wp2_with (at_builtin; refine wpList_append_own _ rfl _ _ 58 rfl w2.heap.size 62 i0 (.agg #[.int .i64 0, .int .i64 0, .int .i64 0, .int .i64 0]) 4 32 Tryz.underlying58 hi0 hz0 hz1 hz2 rfl (by decide) _ _ _ rfl (show World.ownsRow _ _ _ _ _ _ _ from HO9.out.alloc _) ⟨w3.heap.size, 0, none⟩ 1 1 [.int .i64 y.1, .int .i64 y.2.1, .int .i64 y.2.2.1, .int .i64 y.2.2.2] rfl rfl ?c1z ?c2z ?c3z ?c4z ?c5z ?_)
      case c1z =>
        intro j u hj
        match j, hj with
        | 0, hj => simp at hj; subst hj; simp [Addr.add]
        | 1, hj => simp at hj; subst hj; simp [Addr.add]
        | 2, hj => simp at hj; subst hj; simp [Addr.add]
        | 3, hj => simp at hj; subst hj; simp [Addr.add]
      case c2z => first | rfl | (intro u hu; simp at hu; rcases hu with rfl | rfl | rfl | rfl <;> rfl)
      case c3z => unfold maxLen; omega
      case c4z => omega
      case c5z => have := HB9.out.size; simp; omega
      intro v4 w4 hown4 hgrow4 _
      have P4 := Lib.hid hown4
      have D4 := Lib.hid ((HB9.out.alloc HB9.out.size (.cells #[.int .i64 y.1, .int .i64 y.2.1, .int .i64 y.2.2.1, .int .i64 y.2.2.2] 62)).grown hgrow4 (by have := HB9.out.size; simp; omega) (fun j hj => own_gem HO9.out hj))
      clear hown4 hgrow4
      go_wp2_with fail
      go_roundw
      case rel =>
        refine ⟨k + 1, by omega, by go_num, ?_, D4.out⟩
        rw [HE.out, List.length_append, cells4_snoc]
        exact P4.out
      case measure => simp [intOf]; omega
end Go.Proofs.YtmmokiaipfalmaaGreat

namespace Go.Proofs.YtmmokiaipfalmaaGreat
open Go.RowKit Go.Maps Go.Shelf

theorem worse_at (A B C P Q : Option Addr) (ca cb cc cp cq : Nat) (ns : List NodeD) (ps : List PodD) (os : List OwnD) (p q : List Int) (w : World) (h : SnapAt w A B C ca cb cc ns ps os) (hp : IntsAt w P cp p) (hq : IntsAt w Q cq q) :
    Calls Tryz.prog 36 #[snapV A B C ca cb cc ns ps os, .slice P p.length cp, .slice Q q.length cq] w fun e w' => ∃ v, e = .returned (.tuple #[v, .int .i64 (worseE ns ps os p q)]) ∧ w'.ownsRow w.heap.size 62 4 v (worseF ns ps os p q).length (cells4 (worseF ns ps os p q)) ∧ Below w.heap.size w w' :=
  worse_any A B C P Q ca cb cc cp cq ns ps os p q (all8_fine h p).1 (all8_fine h q).1 (all8_fine h p).2 (all8_fine h q).2 w h hp hq
end Go.Proofs.YtmmokiaipfalmaaGreat

namespace Go.Proofs.YtmmokiaipfalmaaGreat
open Go.RowKit Go.Maps Go.Shelf

/-- What is against a step. -/
inductive Ag
  | no
  | err (e : Int)
  | cl (c : ClT)
def Ag.v : Ag → Value
  | .no => .nilIface
  | .err e => .iface 30 (.int .i64 e)
  | .cl c => .iface 62 (clV c)
def Ag.c : Ag → ClT
  | .cl c => c
  | _ => (0, 0, 0, 0)
def Ag.e : Ag → Int
  | .no => 0
  | .err e => e
  | .cl _ => 100
def cordB (ns : List NodeD) (k : Nat) : Bool := match ns[k]? with
  | none => false
  | some x => x.cordon
/-- What a step makes, and what is against it. -/
def tryF (ns : List NodeD) (ps : List PodD) (os : List OwnD) (p : List Int) (kd pd nd : Int) : List Int × Ag :=
  if (applyF ns ps os p kd pd nd).2 ≠ 0 then ([], .err (applyF ns ps os p kd pd nd).2)
  else if kd = 2 ∧ cordB ns nd.toNat = true then ([], .err 100)
  else match worseU ns ps os p (applyF ns ps os p kd pd nd).1 with
    | c :: _ => ([], .cl c)
    | [] => ((applyF ns ps os p kd pd nd).1, .no)
/-- Where a step may be done, the cluster and the placement may be, and so the one that it makes. -/
theorem apply_ok {ns : List NodeD} {ps : List PodD} {os : List OwnD} {p : List Int} {kd pd nd : Int} (h : (applyF ns ps os p kd pd nd).2 = 0) : placeE ns ps os p = 0 ∧ placeE ns ps os (applyF ns ps os p kd pd nd).1 = 0 ∧ (kd = 2 → 0 ≤ nd ∧ nd < (ns.length : Int)) := by
  unfold applyF at h ⊢
  by_cases hE : placeE ns ps os p = 0
  · rw [if_pos hE] at h ⊢
    refine ⟨hE, ?_⟩
    by_cases h1 : kd = 1
    · rw [if_pos h1] at h ⊢
      unfold evictF at h ⊢
      split at h
      · rename_i hp
        rw [if_pos hp]
        split at h
        · rename_i hn
          rw [if_pos hn]
          split at h
          · cases h
          · rename_i hw
            rw [if_neg hw]
            exact ⟨placeE_set hE _ (ok_none ns), fun h2 => by omega⟩
        · cases h
      · cases h
    · rw [if_neg h1] at h ⊢
      by_cases h2 : kd = 2
      · rw [if_pos h2] at h ⊢
        unfold bindF at h ⊢
        split at h
        · rename_i hp
          rw [if_pos hp]
          split at h
          · rename_i hn
            rw [if_pos hn]
            split at h
            · rename_i hw
              rw [if_pos hw]
              split at h
              · cases h
              · rename_i hl
                rw [if_neg hl]
                refine ⟨placeE_set hE _ ?_, fun _ => hn⟩
                unfold okB tpB
                unfold lostB at hl
                have hlt : nd.toNat < ns.length := by omega
                rw [List.getElem?_eq_getElem hlt] at hl ⊢
                have hl : ns[nd.toNat].lost = false := by simpa using hl
                simp [hl, hn.1]
            · cases h
          · cases h
        · cases h
      · rw [if_neg h2] at h
        cases h
  · rw [if_neg hE] at h
    exact absurd h hE

set_option maxRecDepth 100000 in
set_option maxHeartbeats 1000000 in
theorem errorOf_any (a : Ag) (w : World) : Calls Tryz.prog 95 #[a.v] w fun e w' => e = .returned (.int .i64 a.e) ∧ Below w.heap.size w w' := by
  cases a with
  | no =>
    show Calls Tryz.prog 95 #[.nilIface] w _
    have heq : ∀ w : World, (Op.equal 20 .nilIface .nilIface).run Tryz.prog w = .ok true w := fun w => by kernel_rfl
    go_enter Tryz.func95, Tryz.ntmps95
    go_wp2
    go_ret
    exact ⟨rfl, Below.refl _ _⟩
  | err e =>
    have hta : ∀ w : World, (Instr.typeAssert (.iface 30 (.int .i64 e)) 20 62 true).run Tryz.prog w = .ok (.tuple #[.agg #[.int .i64 0, .int .i64 0, .int .i64 0, .int .i64 0], .bool false]) w := fun w => by kernel_rfl
    have htb : ∀ w : World, (Instr.typeAssert (.iface 30 (.int .i64 e)) 20 30 false).run Tryz.prog w = .ok (.int .i64 e) w := fun w => by kernel_rfl
    have heq : ∀ w : World, (Op.equal 20 (.iface 30 (.int .i64 e)) .nilIface).run Tryz.prog w = .ok false w := fun w => by kernel_rfl
    show Calls Tryz.prog 95 #[.iface 30 (.int .i64 e)] w _
    go_enter Tryz.func95, Tryz.ntmps95
    go_wp2
    go_ret
    exact ⟨rfl, Below.refl _ _⟩
  | cl c =>
    have hta : ∀ w : World, (Instr.typeAssert (.iface 62 (clV c)) 20 62 true).run Tryz.prog w = .ok (.tuple #[clV c, .bool true]) w := fun w => by kernel_rfl
    have heq : ∀ w : World, (Op.equal 20 (.iface 62 (clV c)) .nilIface).run Tryz.prog w = .ok false w := fun w => by kernel_rfl
    show Calls Tryz.prog 95 #[.iface 62 (clV c)] w _
    go_enter Tryz.func95, Tryz.ntmps95
    go_wp2
    go_ret
    exact ⟨rfl, Below.refl _ _⟩

set_option maxRecDepth 100000 in
set_option maxHeartbeats 4000000 in
theorem try_any (A B C P : Option Addr) (ca cb cc cp : Nat) (ns : List NodeD) (ps : List PodD) (os : List OwnD) (p : List Int) (kd pd nd : Int) (w : World) (h : SnapAt w A B C ca cb cc ns ps os) (hp : IntsAt w P cp p) :
    Calls Tryz.prog 93 #[snapV A B C ca cb cc ns ps os, .slice P p.length cp, stepV kd pd nd] w fun e w' => ∃ v, e = .returned (.tuple #[v, (tryF ns ps os p kd pd nd).2.v]) ∧ w'.ownsRow w.heap.size 3 1 v (tryF ns ps os p kd pd nd).1.length (intsC (tryF ns ps os p kd pd nd).1) ∧ Below w.heap.size w w' := by
  have B0 : Hid (Below w.heap.size w ((w.alloc (.cells (snapC A B C ca cb cc ns ps os) 26)).alloc (.cells #[.int .i64 kd, .int .i64 pd, .int .i64 nd] 39))) := Lib.hid (Qu.below2 w _ _)
  have Z0 : Hid (Blk ((w.alloc (.cells (snapC A B C ca cb cc ns ps os) 26)).alloc (.cells #[.int .i64 kd, .int .i64 pd, .int .i64 nd] 39)) w.heap.size (snapC A B C ca cb cc ns ps os) 26) := Lib.hid (Blk.alloc (Blk.new w _ _) _)
  have S0 : Hid (Blk ((w.alloc (.cells (snapC A B C ca cb cc ns ps os) 26)).alloc (.cells #[.int .i64 kd, .int .i64 pd, .int .i64 nd] 39)) (w.heap.size + 1) #[.int .i64 kd, .int .i64 pd, .int .i64 nd] 39) := Lib.hid (blk2 w _ _ _)
  have H := Lib.hid h
  have HP := Lib.hid hp
  have KA := Lib.hid (apply_any A B C P ca cb cc cp ns ps os p kd pd nd _ (h.below B0.out) (hp.below B0.out))
  have KW := Lib.hid (fun (W' : World) (hb : Below w.heap.size w W') (q : List Int) (Q : Option Addr) (cq : Nat) (hq : IntsAt W' Q cq q) => worse_at A B C P Q ca cb cc cp cq ns ps os p q W' (h.below hb) (hp.below hb) hq)
  have HOK := Lib.hid (fun h => @apply_ok ns ps os p kd pd nd h)
  have HT : Hid (tryF ns ps os p kd pd nd = if (applyF ns ps os p kd pd nd).2 ≠ 0 then ([], .err (applyF ns ps os p kd pd nd).2)
    else if kd = 2 ∧ cordB ns nd.toNat = true then ([], .err 100)
    else match worseU ns ps os p (applyF ns ps os p kd pd nd).1 with
      | c :: _ => ([], .cl c)
      | [] => ((applyF ns ps os p kd pd nd).1, .no)) := Lib.hid rfl
  generalize tryF ns ps os p kd pd nd = R at HT ⊢
  generalize applyF ns ps os p kd pd nd = F at KA HOK HT
  obtain ⟨q, eq⟩ := F
  dsimp only at KA HOK HT
  clear h hp
  go_enter Tryz.func93, Tryz.ntmps93
  go_upto_region 1 with fail
  try change Code.wp _ _ _ _ ((w.alloc (.cells (snapC A B C ca cb cc ns ps os) 26)).alloc (.cells #[.int .i64 kd, .int .i64 pd, .int .i64 nd] 39))
  generalize ((w.alloc (.cells (snapC A B C ca cb cc ns ps os) 26)).alloc (.cells #[.int .i64 kd, .int .i64 pd, .int .i64 nd] 39)) = W at B0 Z0 S0 KA ⊢
  have HC := Lib.hid (fun W' (hb : Below W.heap.size W W') => (show W'.cell? ⟨w.heap.size, 0, none⟩ = some (.slice A ns.length ca) ∧ W'.cell? ⟨w.heap.size, 1, none⟩ = some (.slice B ps.length cb) ∧ W'.cell? ⟨w.heap.size, 2, none⟩ = some (.slice C os.length cc) ∧ W'.cell? ⟨w.heap.size + 1, 0, none⟩ = some (.int .i64 kd) ∧ W'.cell? ⟨w.heap.size + 1, 1, none⟩ = some (.int .i64 pd) ∧ W'.cell? ⟨w.heap.size + 1, 2, none⟩ = some (.int .i64 nd) from ⟨Blk.cell (Z0.out.below hb Z0.out.lt) 0, Blk.cell (Z0.out.below hb Z0.out.lt) 1, Blk.cell (Z0.out.below hb Z0.out.lt) 2, Blk.cell (S0.out.below hb S0.out.lt) 0, Blk.cell (S0.out.below hb S0.out.lt) 1, Blk.cell (S0.out.below hb S0.out.lt) 2⟩))
  obtain ⟨z0, z1, z2, s0, s1, s2⟩ := HC.out _ (Below.refl _ W)
  go_wp2_with fail
  refine (KA.out).mono ?_
  rintro e w1 ⟨v, rfl, ho, hb⟩
  obtain ⟨Q, cq, rfl, _⟩ := La.own_slice ho
  have HB := Lib.hid (show Below W.heap.size W w1 from hb)
  have B1 := Lib.hid (B0.out.trans (hb.mono B0.out.size))
  have IQ := Lib.hid (IntsAt.own ho)
  have OQ := Lib.hid (own_base ho B0.out.size)
  clear ho hb KA z0 z1 z2 s0 s1 s2
  obtain ⟨z0, z1, z2, s0, s1, s2⟩ := HC.out _ HB.out
  by_cases hE : eq = 0
  case neg =>
    have hne : (eq != 0) = true := by simpa using hE
    have hR := HT.out
    rw [if_pos hE] at hR
    have HR := Lib.hid hR
    clear hE HT HOK hR
    go_wp2
    go_ret2
    rw [HR.out]
    exact ⟨_, rfl, World.ownsRow_nil _ _ _ _, B1.out⟩
  subst hE
  obtain ⟨hEp, hEq, hrange⟩ := HOK.out rfl
  have HR0 := HT.out
  rw [if_neg (by simp)] at HR0
  have HR := Lib.hid HR0
  clear HT HOK HR0
  have fin : ∀ (_ : ¬ (kd = 2 ∧ cordB ns nd.toNat = true)) , Hid (R = match worseU ns ps os p q with
      | c :: _ => ([], .cl c)
      | [] => (q, .no)) := fun h => Lib.hid (by rw [HR.out, if_neg h])
  have hlen : Hid (IntsAt w1 Q cq q) := IQ
  have KW1 := Lib.hid (KW.out _ B1.out q Q cq IQ.out)
  have hwF : worseF ns ps os p q = worseU ns ps os p q := by
    unfold worseF
    rw [if_pos hEp]
  rw [hwF] at KW1
  generalize worseE ns ps os p q = e9 at KW1
  generalize worseU ns ps os p q = L at KW1 fin
  clear hwF KW hEp hEq hlen
  by_cases h2 : kd = 2
  case neg =>
    have h2b : (kd == 2) = false := by simpa using h2
    have h2d : decide (kd = 2) = false := decide_eq_false h2
    have HF := fin (fun h => h2 h.1)
    go_wp2_with fail
    refine (KW1.out).mono ?_
    rintro e w2 ⟨vl, rfl, hol, hb2⟩
    obtain ⟨Gl, cl, rfl, _⟩ := La.own_slice hol
    have TL := Lib.hid (La.own_slat hol)
    have OQ2 := Lib.hid (La.own_below OQ.out hb2)
    have B2 := Lib.hid (B1.out.trans (hb2.mono B1.out.size))
    clear hol hb2 KW1 z0 z1 z2 s0 s1 s2 fin
    cases L with
    | nil =>
      have hR := HF.out
      clear HF HR
      go_wp2
      go_ret2
      rw [hR]
      exact ⟨_, rfl, OQ2.out, B2.out⟩
    | cons c t =>
      have hR := HF.out
      obtain ⟨gy, oy, hGy, hbl, c0, c1, c2, c3⟩ := atC TL.out (k := 0) (x := c) rfl
      subst hGy
      simp only [Nat.zero_mul, Nat.add_zero] at c0 c1 c2 c3
      have hl1 : (0 : Int) < (((c :: t).length : Nat) : Int) := by rw [List.length_cons]; omega
      have hl2 : decide ((0 : Int) < (((c :: t).length : Nat) : Int)) = true := decide_eq_true hl1
      have HL1 := Lib.hid hl1
      generalize (c :: t).length = n9 at hl1 hl2 ⊢
      have hl3 : 0 < n9 := by omega
      have hl4 : decide (0 < n9) = true := decide_eq_true hl3
      clear HF HR
      go_upto_region 8 with fail
      go_region
      all_goals
        (try go_wp2)
        go_ret2
        rw [hR]
        exact ⟨_, rfl, World.ownsRow_nil _ _ _ _, by first | exact B2.out | exact B2.out.drew | exact below_drewN B2.out _⟩
  subst h2
  obtain ⟨hn0, hn1⟩ := hrange rfl
  obtain ⟨nn, rfl⟩ := Int.eq_ofNat_of_zero_le hn0
  have hnl : nn < ns.length := by omega
  obtain ⟨x, hx⟩ : ∃ x, ns[nn]? = some x := ⟨ns[nn], List.getElem?_eq_getElem hnl⟩
  obtain ⟨bn, on, hAn, hbn, _, _, _, _, _, _, _, _, d8, _⟩ := atN (H.out.below B1.out).n.cells hx
  subst hAn
  have hcB : cordB ns (nn : Int).toNat = x.cordon := by
    unfold cordB
    rw [Int.toNat_natCast, hx]
  have HCB := Lib.hid hcB
  clear hcB hx hrange
  cases hcd : x.cordon with
  | true =>
    have hR := HR.out
    rw [if_pos ⟨rfl, by rw [HCB.out, hcd]⟩] at hR
    rw [hcd] at d8
    have HR2 := Lib.hid hR
    clear hR HR fin KW1 hcd HCB
    go_wp2
    go_ret2
    rw [HR2.out]
    exact ⟨_, rfl, World.ownsRow_nil _ _ _ _, B1.out⟩
  | false =>
    rw [hcd] at d8
    have hcn : ¬ ((2 : Int) = 2 ∧ cordB ns (nn : Int).toNat = true) := fun h => by
      have := h.2
      rw [HCB.out, hcd] at this
      cases this
    have HCN := Lib.hid hcn
    clear hcd HCB hcn
    have HF := fin (HCN.out)
    go_wp2_with fail
    refine (KW1.out).mono ?_
    rintro e w2 ⟨vl, rfl, hol, hb2⟩
    obtain ⟨Gl, cl, rfl, _⟩ := La.own_slice hol
    have TL := Lib.hid (La.own_slat hol)
    have OQ2 := Lib.hid (La.own_below OQ.out hb2)
    have B2 := Lib.hid (B1.out.trans (hb2.mono B1.out.size))
    clear hol hb2 KW1 z0 z1 z2 s0 s1 s2 fin
    cases L with
    | nil =>
      have hR := HF.out
      clear HF HR
      go_wp2
      go_ret2
      rw [hR]
      exact ⟨_, rfl, OQ2.out, B2.out⟩
    | cons c t =>
      have hR := HF.out
      obtain ⟨gy, oy, hGy, hbl, c0, c1, c2, c3⟩ := atC TL.out (k := 0) (x := c) rfl
      subst hGy
      simp only [Nat.zero_mul, Nat.add_zero] at c0 c1 c2 c3
      have hl1 : (0 : Int) < (((c :: t).length : Nat) : Int) := by rw [List.length_cons]; omega
      have hl2 : decide ((0 : Int) < (((c :: t).length : Nat) : Int)) = true := decide_eq_true hl1
      have HL1 := Lib.hid hl1
      generalize (c :: t).length = n9 at hl1 hl2 ⊢
      have hl3 : 0 < n9 := by omega
      have hl4 : decide (0 < n9) = true := decide_eq_true hl3
      clear HF HR
      go_upto_region 8 with fail
      go_region
      all_goals
        (try go_wp2)
        go_ret2
        rw [hR]
        exact ⟨_, rfl, World.ownsRow_nil _ _ _ _, by first | exact B2.out | exact B2.out.drew | exact below_drewN B2.out _⟩
end Go.Proofs.YtmmokiaipfalmaaGreat

namespace Go.Proofs.YtmmokiaipfalmaaGreat
open Go.RowKit Go.Maps Go.Shelf

def z4 : ClT := (0, 0, 0, 0)

/-- What a step answers: the row, the clause, the number. -/
def stepF (ns : List NodeD) (ps : List PodD) (os : List OwnD) (p : List Int) (x : Int × Int × Int) : List Int × ClT × Int := ((tryF ns ps os p x.1 x.2.1 x.2.2).1, (tryF ns ps os p x.1 x.2.1 x.2.2).2.c, (tryF ns ps os p x.1 x.2.1 x.2.2).2.e)
def mayB (ns : List NodeD) (ps : List PodD) (os : List OwnD) (p : List Int) (x : Int × Int × Int) : Bool := decide ((stepF ns ps os p x).2.2 = 0)

set_option maxRecDepth 100000 in
set_option maxHeartbeats 2000000 in
theorem may_anyA (A B C P : Option Addr) (ca cb cc cp : Nat) (ns : List NodeD) (ps : List PodD) (os : List OwnD) (p : List Int) (kd pd nd : Int) (w : World) (h : SnapAt w A B C ca cb cc ns ps os) (hp : IntsAt w P cp p) :
    Calls Tryz.prog 76 #[snapV A B C ca cb cc ns ps os, .slice P p.length cp, stepV kd pd nd] w fun e w' => e = .returned (.bool (mayB ns ps os p (kd, pd, nd))) ∧ Below w.heap.size w w' := by
  have B0 : Hid (Below w.heap.size w ((w.alloc (.cells (snapC A B C ca cb cc ns ps os) 26)).alloc (.cells #[.int .i64 kd, .int .i64 pd, .int .i64 nd] 39))) := Lib.hid (Qu.below2 w _ _)
  have Z0 : Hid (Blk ((w.alloc (.cells (snapC A B C ca cb cc ns ps os) 26)).alloc (.cells #[.int .i64 kd, .int .i64 pd, .int .i64 nd] 39)) w.heap.size (snapC A B C ca cb cc ns ps os) 26) := Lib.hid (Blk.alloc (Blk.new w _ _) _)
  have S0 : Hid (Blk ((w.alloc (.cells (snapC A B C ca cb cc ns ps os) 26)).alloc (.cells #[.int .i64 kd, .int .i64 pd, .int .i64 nd] 39)) (w.heap.size + 1) #[.int .i64 kd, .int .i64 pd, .int .i64 nd] 39) := Lib.hid (blk2 w _ _ _)
  have KT := Lib.hid (try_any A B C P ca cb cc cp ns ps os p kd pd nd _ (h.below B0.out) (hp.below B0.out))
  have HS : Hid (mayB ns ps os p (kd, pd, nd) = decide ((tryF ns ps os p kd pd nd).2.e = 0)) := Lib.hid rfl
  generalize mayB ns ps os p (kd, pd, nd) = R at HS ⊢
  generalize tryF ns ps os p kd pd nd = T at KT HS
  obtain ⟨q, ag⟩ := T
  dsimp only at KT HS
  clear h hp
  have KE := Lib.hid (fun W' => errorOf_any ag W')
  generalize ag.e = x at KE HS ⊢
  generalize ag.v = av at KE KT ⊢
  go_enter Tryz.func76, Tryz.ntmps76
  go_upto_region 1 with fail
  try change Code.wp _ _ _ _ ((w.alloc (.cells (snapC A B C ca cb cc ns ps os) 26)).alloc (.cells #[.int .i64 kd, .int .i64 pd, .int .i64 nd] 39))
  generalize ((w.alloc (.cells (snapC A B C ca cb cc ns ps os) 26)).alloc (.cells #[.int .i64 kd, .int .i64 pd, .int .i64 nd] 39)) = W at B0 Z0 S0 KT ⊢
  have z0 : W.cell? ⟨w.heap.size, 0, none⟩ = some (.slice A ns.length ca) := Blk.cell Z0.out 0
  have z1 : W.cell? ⟨w.heap.size, 1, none⟩ = some (.slice B ps.length cb) := Blk.cell Z0.out 1
  have z2 : W.cell? ⟨w.heap.size, 2, none⟩ = some (.slice C os.length cc) := Blk.cell Z0.out 2
  have s0 : W.cell? ⟨w.heap.size + 1, 0, none⟩ = some (.int .i64 kd) := Blk.cell S0.out 0
  have s1 : W.cell? ⟨w.heap.size + 1, 1, none⟩ = some (.int .i64 pd) := Blk.cell S0.out 1
  have s2 : W.cell? ⟨w.heap.size + 1, 2, none⟩ = some (.int .i64 nd) := Blk.cell S0.out 2
  go_wp2_with fail
  refine (KT.out).mono ?_
  rintro e w1 ⟨v, rfl, ho, hb⟩
  have B1 := Lib.hid (B0.out.trans (hb.mono B0.out.size))
  clear ho hb KT z0 z1 z2 s0 s1 s2 Z0 S0 B0
  go_wp2_with fail
  refine (KE.out _).mono ?_
  rintro e w3 ⟨rfl, hb⟩
  have B3 := Lib.hid (B1.out.trans (hb.mono B1.out.size))
  clear hb KE B1
  by_cases hx : x = 0
  · have hR : R = true := by rw [HS.out]; exact decide_eq_true hx
    clear HS
    subst hx hR
    go_wp2
    go_ret
    exact ⟨rfl, B3.out⟩
  · have hR : R = false := by rw [HS.out]; exact decide_eq_false hx
    have h1 : (x == 0) = false := by simpa using hx
    have h2 : decide (x = 0) = false := decide_eq_false hx
    clear HS hx
    subst hR
    go_wp2
    go_ret
    exact ⟨rfl, B3.out⟩
end Go.Proofs.YtmmokiaipfalmaaGreat

namespace Go.Proofs.YtmmokiaipfalmaaGreat
open Go.RowKit Go.Maps Go.Shelf

/-- The nodes for a pod, out of the first k. -/
def waysU (ns : List NodeD) (ps : List PodD) (os : List OwnD) (p : List Int) (pd : Int) : Nat → List Int
  | 0 => []
  | k + 1 => waysU ns ps os p pd k ++ (if mayB ns ps os p (2, pd, (k : Int)) then [(k : Int)] else [])
theorem waysU_len (ns : List NodeD) (ps : List PodD) (os : List OwnD) (p : List Int) (pd : Int) : ∀ k, (waysU ns ps os p pd k).length ≤ k
  | 0 => Nat.le_refl _
  | k + 1 => by
    have := waysU_len ns ps os p pd k
    rw [waysU, List.length_append]
    split <;> simp <;> omega
set_option maxRecDepth 100000 in
set_option maxHeartbeats 4000000 in
theorem ways_anyA (A B C P : Option Addr) (ca cb cc cp : Nat) (ns : List NodeD) (ps : List PodD) (os : List OwnD) (p : List Int) (pd : Int) (w : World) (h : SnapAt w A B C ca cb cc ns ps os) (hp : IntsAt w P cp p) :
    Calls Tryz.prog 21 #[snapV A B C ca cb cc ns ps os, .slice P p.length cp, .int .i64 pd] w fun e w' => ∃ v, e = .returned v ∧ w'.ownsRow w.heap.size 3 1 v (waysU ns ps os p pd ns.length).length (intsC (waysU ns ps os p pd ns.length)) ∧ Below w.heap.size w w' := by
  have B0 : Hid (Below w.heap.size w (w.alloc (.cells (snapC A B C ca cb cc ns ps os) 26))) := Lib.hid (below1 w _)
  have S0 : Hid (Blk (w.alloc (.cells (snapC A B C ca cb cc ns ps os) 26)) w.heap.size (snapC A B C ca cb cc ns ps os) 26) := Lib.hid (Blk.new w _ _)
  have hln := h.ln
  have KM := Lib.hid (fun (W' : World) (hb : Below w.heap.size w W') (k : Nat) => may_anyA A B C P ca cb cc cp ns ps os p 2 pd (k : Int) W' (h.below hb) (hp.below hb))
  have HW : Hid (∀ k : Nat, waysU ns ps os p pd (k + 1) = waysU ns ps os p pd k ++ (if mayB ns ps os p (2, pd, (k : Int)) then [(k : Int)] else [])) := Lib.hid (fun k => rfl)
  have HL := Lib.hid (fun k => waysU_len ns ps os p pd k)
  have HZ : Hid (waysU ns ps os p pd 0 = []) := Lib.hid rfl
  obtain ⟨i0, hi0, hz0, hz1, hz2⟩ := info_parts Qu.int_info
  generalize waysU ns ps os p pd = U at HW HL HZ ⊢
  generalize mayB ns ps os p = M at KM HW
  clear h hp
  go_enter Tryz.func21, Tryz.ntmps21
  go_upto_region 1 with fail
  try change Code.wp _ _ _ _ (w.alloc (.cells (snapC A B C ca cb cc ns ps os) 26))
  generalize (w.alloc (.cells (snapC A B C ca cb cc ns ps os) 26)) = W at B0 S0 ⊢
  have HC := Lib.hid (fun W' (hb : Below W.heap.size W W') => (show W'.cell? ⟨w.heap.size, 0, none⟩ = some (.slice A ns.length ca) ∧ W'.cell? ⟨w.heap.size, 1, none⟩ = some (.slice B ps.length cb) ∧ W'.cell? ⟨w.heap.size, 2, none⟩ = some (.slice C os.length cc) from ⟨Blk.cell (S0.out.below hb S0.out.lt) 0, Blk.cell (S0.out.below hb S0.out.lt) 1, Blk.cell (S0.out.below hb S0.out.lt) 2⟩))
  obtain ⟨z0, z1, z2⟩ := HC.out _ (Below.refl _ W)
  go_wp2_with fail
  clear z0 z1 z2
  go_loopw [7, 12] (fun v i wr => ∃ k : Nat, k ≤ ns.length ∧ i = .int .i64 k ∧ wr.ownsRow W.heap.size 3 1 v (U k).length (intsC (U k)) ∧ Below W.heap.size W wr) (fun _ i _ => ns.length - (intOf i).toNat)
  case atStart => exact ⟨0, by omega, rfl, by rw [HZ.out]; exact World.ownsRow_nil _ _ _ _, Below.refl _ _⟩
  case round =>
    obtain ⟨k, hk, rfl, ho, hb⟩ := hrel
    have HO := Lib.hid ho
    have HB := Lib.hid hb
    clear ho hb
    obtain ⟨z0, z1, z2⟩ := HC.out _ HB.out
    by_cases hlt : k < ns.length
    case neg =>
      obtain rfl : k = ns.length := by omega
      go_wp2
      go_ret
      exact ⟨_, rfl, own_base HO.out B0.out.size, B0.out.trans (HB.out.mono B0.out.size)⟩
    have k0 : (0 : Int) ≤ (k : Int) := by omega
    have k1 : (k : Int) < (ns.length : Int) := by omega
    have hUk := HL.out k
    have HWk := Lib.hid (HW.out k)
    have KMk := Lib.hid (KM.out _ (B0.out.trans (HB.out.mono B0.out.size)) k)
    generalize U k = L at HO HWk hUk
    generalize hU' : U (k + 1) = L' at HWk
    have HU' := Lib.hid hU'
    clear hU'
    go_wp2_with fail
    refine (KMk.out).mono ?_
    rintro e w1 ⟨rfl, hb1⟩
    have HO1 := Lib.hid (La.own_below HO.out hb1)
    have HB1 := Lib.hid (HB.out.trans (hb1.mono HB.out.size))
    clear hb1 KMk HO HB z0 z1 z2
    cases hm : M (2, pd, (k : Int)) with
    | false =>
      have HE : Hid (L' = L) := Lib.hid (by rw [HWk.out, hm]; simp)
      clear HWk hm
      go_wp2_with fail
      go_roundw
      case rel => exact ⟨k + 1, by omega, by go_num, by rw [HU'.out, HE.out]; exact HO1.out, HB1.out⟩
      case measure => simp [intOf]; omega
    | true =>
      have HE : Hid (L' = L ++ [(k : Int)]) := Lib.hid (by rw [HWk.out, hm]; simp)
      clear HWk hm
      go_wp2_with (at_builtin; refine wpList_append_own _ rfl _ _ 27 rfl W.heap.size 3 i0 (.int .i64 0) 1 8 Tryz.underlying27 hi0 hz0 hz1 hz2 rfl (by decide) _ _ _ rfl (show World.ownsRow _ _ _ _ _ _ _ from HO1.out.alloc _) ⟨w1.heap.size, 0, none⟩ 1 1 [.int .i64 (k : Int)] rfl rfl ?c1 ?c2 ?c3 ?c4 ?c5 ?_)
      case c1 =>
        intro j u hj
        match j, hj with
        | 0, hj => simp at hj; subst hj; simp [Addr.add]
      case c2 => first | rfl | (intro u hu; simp at hu; subst hu; rfl)
      case c3 => unfold maxLen; omega
      case c4 => omega
      case c5 => have := HB1.out.size; simp; omega
      intro v4 w4 hown4 hgrow4 _
      have P4 := Lib.hid hown4
      have D4 := Lib.hid ((HB1.out.alloc HB1.out.size (.cells #[.int .i64 (k : Int)] 3)).grown hgrow4 (by have := HB1.out.size; simp; omega) (fun j hj => own_gem HO1.out hj))
      clear hown4 hgrow4
      go_wp2_with fail
      go_roundw
      case rel =>
        refine ⟨k + 1, by omega, by go_num, ?_, D4.out⟩
        rw [HU'.out, HE.out, List.length_append]
        have := P4.out
        simpa [intsC] using this
      case measure => simp [intOf]; omega


set_option maxRecDepth 100000 in
theorem cloneI_any (P : Option Addr) (cp : Nat) (p : List Int) (w : World) (hfew : p.length ≤ 1000) (hpp : ∀ a, P = some a → ∃ b o, a = ⟨b, o, none⟩) (hp : IntsAt w P cp p) :
    Calls Tryz.prog 80 #[.slice P p.length cp] w fun e w' => ∃ v, e = .returned v ∧ w'.ownsRow w.heap.size 3 1 v p.length (intsC p) ∧ Below w.heap.size w w' := by
  cases P with
  | none =>
    obtain rfl := noneI hp.cells
    refine (Tryz.slices_Clone_int_nil _ _ w).mono ?_
    rintro e w' ⟨rfl, rfl⟩
    exact ⟨_, rfl, World.ownsRow_nil _ _ _ _, Below.refl _ _⟩
  | some a =>
    obtain ⟨b, o, rfl⟩ := hpp a rfl
    refine (Tryz.slices_Clone_int b o p.length cp p w (Nat.le_refl _) (by omega) (fun j hj => by
      obtain ⟨b', o', hA', _, hc⟩ := atI hp.cells (k := j) (x := p[j]) (List.getElem?_eq_getElem hj)
      cases hA'
      rw [hc]
      congr 2
      rw [List.getD_eq_getElem?_getD, List.getElem?_eq_getElem hj]
      rfl)).mono ?_
    rintro e w' ⟨v, rfl, ho, _, hb⟩
    rw [List.take_length] at ho
    exact ⟨v, rfl, ho, hb⟩

end Go.Proofs.YtmmokiaipfalmaaGreat

namespace Go.Proofs.YtmmokiaipfalmaaGreat
open Go.RowKit Go.Maps

theorem ways_fit {ns : List NodeD} {ps : List PodD} {os : List OwnD} {p : List Int} {pd x : Int} : ∀ k, x ∈ waysU ns ps os p pd k → (∃ m : Nat, m < k ∧ x = (m : Int)) ∧ (applyF ns ps os p 2 pd x).2 = 0
  | 0, h => by cases h
  | k + 1, h => by
    rw [waysU, List.mem_append] at h
    rcases h with h | h
    · obtain ⟨⟨m, h1, h2⟩, h3⟩ := ways_fit k h
      exact ⟨⟨m, by omega, h2⟩, h3⟩
    · split at h
      · rename_i hm
        rw [List.mem_singleton] at h
        refine ⟨⟨k, by omega, h⟩, ?_⟩
        have hm := of_decide_eq_true hm
        unfold stepF tryF at hm
        dsimp only at hm
        rw [h]
        by_cases ha : (applyF ns ps os p 2 pd (k : Int)).2 = 0
        · exact ha
        · rw [if_pos ha] at hm
          exact absurd hm ha
      · cases h
theorem ways_rise {ns : List NodeD} {ps : List PodD} {os : List OwnD} {p : List Int} {pd : Int} : ∀ k, (waysU ns ps os p pd k).Pairwise (· < ·)
  | 0 => List.Pairwise.nil
  | k + 1 => by
    rw [waysU, List.pairwise_append]
    refine ⟨ways_rise k, by split <;> simp, ?_⟩
    intro a ha c hc
    obtain ⟨⟨m, h1, h2⟩, _⟩ := ways_fit k ha
    split at hc
    · rw [List.mem_singleton] at hc
      omega
    · cases hc
/-- What is left on a node with the pod on it. -/
def leftA (ns : List NodeD) (ps : List PodD) (os : List OwnD) (p : List Int) (pd : Int) (n : Nat) : Int := leftN ns ps (applyF ns ps os p 2 pd (n : Int)).1 n
/-- What Rank may tell: the ways, each once, by what is left. -/
def RankOk (ns : List NodeD) (ps : List PodD) (os : List OwnD) (p : List Int) (pd : Int) (R : List Int) : Prop := R.Perm (waysU ns ps os p pd ns.length) ∧ R.Pairwise (fun a c => cmpL (leftA ns ps os p pd) a.toNat c.toNat < 0)
/-- Two that it may tell are one. -/
theorem rank_one {ns : List NodeD} {ps : List PodD} {os : List OwnD} {p : List Int} {pd : Int} {R R' : List Int} (h : RankOk ns ps os p pd R) (h' : RankOk ns ps os p pd R') : R = R' := by
  refine List.Perm.eq_of_pairwise ?_ h.2 h'.2 (h.1.trans h'.1.symm)
  intro a c _ _ h1 h2
  rw [cmpL_lt] at h1 h2
  omega
/-- The numbers of the row as natural ones. -/
def natsW (W : List Int) (k : Nat) : Nat := ((W[k]?).getD 0).toNat
theorem row_ways {ns : List NodeD} {ps : List PodD} {os : List OwnD} {p : List Int} {pd : Int} (hn : waysU ns ps os p pd ns.length ≠ [] → ns.length ≤ 8) {w : World} {g cap : Nat} {base : Nat} (ho : w.ownsRow base 3 1 (.slice (some ⟨g, 0, none⟩) (waysU ns ps os p pd ns.length).length cap) (waysU ns ps os p pd ns.length).length (intsC (waysU ns ps os p pd ns.length))) (hgl : g < w.heap.size) :
    RowB w g (waysU ns ps os p pd ns.length).length (natsW (waysU ns ps os p pd ns.length)) ∧ (∀ k, k < (waysU ns ps os p pd ns.length).length → natsW (waysU ns ps os p pd ns.length) k < 8) ∧ onceN (natsW (waysU ns ps os p pd ns.length)) (waysU ns ps os p pd ns.length).length := by
  generalize hW : waysU ns ps os p pd ns.length = W at ho hn ⊢
  have hf : ∀ x ∈ W, ∃ m : Nat, m < ns.length ∧ x = (m : Int) := fun x hx => (ways_fit ns.length (by rw [hW]; exact hx)).1
  have hr : W.Pairwise (· < ·) := by rw [← hW]; exact ways_rise _
  have hat : ∀ k, k < W.length → ∃ m : Nat, m < ns.length ∧ W[k]? = some (m : Int) ∧ natsW W k = m := fun k hk => by
    have hg : W[k]? = some W[k] := List.getElem?_eq_getElem hk
    obtain ⟨m, h1, h2⟩ := hf W[k] (List.getElem_mem hk)
    refine ⟨m, h1, by rw [hg, h2], ?_⟩
    unfold natsW
    rw [hg, h2]
    rfl
  refine ⟨⟨hgl, fun i hi => ?_⟩, fun k hk => ?_, fun a c hac hc => ?_⟩
  · obtain ⟨m, _, h2, h3⟩ := hat i hi
    have hj : (intsC W)[i]? = some (.int .i64 (m : Int)) := by
      unfold intsC
      rw [List.getElem?_map, h2]
      rfl
    obtain ⟨b, off, hA, hc⟩ := La.own_slat ho i _ hj
    cases hA
    rw [h3]
    refine ⟨by rw [Nat.zero_add] at hc; exact hc, ?_⟩
    rcases ho.2 with ⟨hv, hz⟩ | ⟨g', cap', cur, hv, _, hheap, _⟩
    · cases hv
    · cases hv
      unfold World.frozen?
      simp [hheap]
  · obtain ⟨m, h1, _, h3⟩ := hat k hk
    have := hn (fun e => by rw [e] at hk; exact absurd hk (by simp))
    rw [h3]
    omega
  · obtain ⟨m, _, h2, h3⟩ := hat a (by omega)
    obtain ⟨m', _, h2', h3'⟩ := hat c hc
    obtain ⟨i1, e1⟩ := List.getElem?_eq_some_iff.1 h2
    obtain ⟨i2, e2⟩ := List.getElem?_eq_some_iff.1 h2'
    have := List.pairwise_iff_getElem.1 hr a c i1 i2 hac
    rw [e1, e2] at this
    rw [h3, h3']
    omega
set_option maxRecDepth 100000 in
set_option maxHeartbeats 4000000 in
theorem insL_none (F : Nat → Int) (w : World) : Calls Tryz.prog 283 #[.slice none 0 0, .int .i64 0, .int .i64 0, .func (.func 75) #[row_lefts F] #[]] w fun e w' => e = .returned (.tuple #[]) ∧ w' = w := by
  go_enter Tryz.func283, Tryz.ntmps283
  go_wp2_with fail
  go_loopw [8] (fun i wr => i = .int .i64 1 ∧ wr = w) (fun _ _ => 0)
  case atStart => exact ⟨rfl, rfl⟩
  case round =>
  obtain ⟨rfl, rfl⟩ := hrel
  go_wp2_with fail
  go_end0
  exact ⟨rfl, rfl⟩
set_option maxRecDepth 100000 in
set_option maxHeartbeats 4000000 in
theorem pdqL_none (F : Nat → Int) (lim : Int) (w : World) : Calls Tryz.prog 212 #[.slice none 0 0, .int .i64 0, .int .i64 0, .int .i64 lim, .func (.func 75) #[row_lefts F] #[]] w fun e w' => e = .returned (.tuple #[]) ∧ w' = w := by
  have K := Lib.hid (insL_none F w)
  go_enter Tryz.func212, Tryz.ntmps212
  go_wp2_with fail
  go_loopw [1, 2] (fun x y wr => x = .int .i64 0 ∧ y = .int .i64 0 ∧ wr = w) (fun _ _ _ => 0)
  case atStart => exact ⟨rfl, rfl, rfl⟩
  case round =>
  obtain ⟨rfl, rfl, rfl⟩ := hrel
  go_wp2_with fail
  refine (K.out).mono ?_
  rintro e w1 ⟨rfl, rfl⟩
  go_wp2
  (try simp only [Exit.inBlock, Exit.then])
  refine bodyPost_ret (results_none rfl _ _ _) rfl ?_
  exact ⟨rfl, rfl⟩
set_option maxRecDepth 100000 in
set_option maxHeartbeats 4000000 in
theorem sortFuncL_none (F : Nat → Int) (w : World) : Calls Tryz.prog 151 #[.slice none 0 0, .func (.func 75) #[row_lefts F] #[]] w fun e w' => e = .returned (.tuple #[]) ∧ w' = w := by
  have K := Lib.hid (fun lim => pdqL_none F lim w)
  have KL := Lib.hid (fun W' => Tryz.bits_Len 0 W' (by omega) (by omega))
  go_enter Tryz.func151, Tryz.ntmps151
  go_wp2_with fail
  refine (KL.out _).mono ?_
  rintro e w1 ⟨rfl, rfl⟩
  go_wp2_with fail
  refine (K.out _).mono ?_
  rintro e w1 ⟨rfl, rfl⟩
  go_wp2
  go_end0
  exact ⟨rfl, rfl⟩
set_option maxRecDepth 100000 in
set_option maxHeartbeats 4000000 in
theorem sortedL_none (F : Nat → Int) (w : World) : Calls Tryz.prog 74 #[.slice none 0 0, .func (.func 75) #[row_lefts F] #[]] w fun e w' => e = .returned (.slice none 0 0) ∧ w' = w := by
  have K := Lib.hid (sortFuncL_none F w)
  go_enter Tryz.func74, Tryz.ntmps74
  go_wp2_with fail
  refine (K.out).mono ?_
  rintro e w1 ⟨rfl, rfl⟩
  go_wp2
  go_ret
  exact ⟨rfl, rfl⟩
/-- Eight numbers lie in block b. -/
structure LeftsB (w : World) (b : Nat) (F : Nat → Int) : Prop where
  lt : b < w.heap.size
  c : ∀ i, i < 8 → w.cell? ⟨b, i, none⟩ = some (.int .i64 (F i)) ∧ w.frozen? ⟨b, i, none⟩ = false
theorem LeftsB.below {w w' : World} {b : Nat} {F : Nat → Int} (h : LeftsB w b F) (hb : Below w.heap.size w w') : LeftsB w' b F :=
  ⟨Nat.lt_of_lt_of_le h.lt hb.size, fun i hi => ⟨(hb.cell (p := ⟨b, i, none⟩) h.lt).trans (h.c i hi).1, (hb.frozen (p := ⟨b, i, none⟩) h.lt).trans (h.c i hi).2⟩⟩
theorem LeftsB.set {w : World} {b k : Nat} {F : Nat → Int} (h : LeftsB w b F) (hk : k < 8) (v : Int) : LeftsB (w.setCell ⟨b, k, none⟩ (.int .i64 v)) b (fun i => if i = k then v else F i) := by
  refine ⟨by simpa using h.lt, fun i hi => ⟨?_, by rw [World.frozen?_setCell]; exact (h.c i hi).2⟩⟩
  by_cases hik : i = k
  · subst hik
    rw [if_pos rfl]
    exact World.cell?_setCell_same _ _ _ (h.c i hi).1
  · rw [if_neg hik, World.cell?_setCell_other _ _ _ _ (by intro e; cases e; exact hik rfl)]
    exact (h.c i hi).1
/-- What is laid down of the first ones. -/
def laidA (ns : List NodeD) (ps : List PodD) (os : List OwnD) (p : List Int) (pd : Int) (W : List Int) (m : Nat) : Int := if W.contains (m : Int) then leftA ns ps os p pd m else 0
set_option maxRecDepth 100000 in
set_option maxHeartbeats 16000000 in
theorem rank_any (A B C P : Option Addr) (ca cb cc cp : Nat) (ns : List NodeD) (ps : List PodD) (os : List OwnD) (p : List Int) (pd : Int) (w : World) (h : SnapAt w A B C ca cb cc ns ps os) (hp : IntsAt w P cp p) :
    Calls Tryz.prog 20 #[snapV A B C ca cb cc ns ps os, .slice P p.length cp, .int .i64 pd] w fun e w' => ∃ X cx R, e = .returned (.slice X (List.length R) cx) ∧ IntsAt w' X cx R ∧ RankOk ns ps os p pd R ∧ Below w.heap.size w w' := by
  have B0 : Hid (Below w.heap.size w (w.alloc (.cells (snapC A B C ca cb cc ns ps os) 26))) := Lib.hid (below1 w _)
  have S0 : Hid (Blk (w.alloc (.cells (snapC A B C ca cb cc ns ps os) 26)) w.heap.size (snapC A B C ca cb cc ns ps os) 26) := Lib.hid (Blk.new w _ _)
  have KW := Lib.hid (fun W' (hb : Below w.heap.size w W') => ways_anyA A B C P ca cb cc cp ns ps os p pd W' (h.below hb) (hp.below hb))
  have KA := Lib.hid (fun nd W' (hb : Below w.heap.size w W') => apply_any A B C P ca cb cc cp ns ps os p 2 pd nd W' (h.below hb) (hp.below hb))
  have KLf := Lib.hid (fun X cx q n x hE hn W' (hb : Below w.heap.size w W') (hq : IntsAt W' X cx q) => left_any A B C X ca cb cc cx ns ps os q n x hE hn W' (h.below hb) hq)
  clear h hp
  go_enter Tryz.func20, Tryz.ntmps20
  go_upto_region 1 with fail
  try change Code.wp _ _ _ _ (w.alloc (.cells (snapC A B C ca cb cc ns ps os) 26))
  generalize (w.alloc (.cells (snapC A B C ca cb cc ns ps os) 26)) = W0 at B0 S0 ⊢
  have HC : Hid (∀ W', Below W0.heap.size W0 W' → (W'.cell? ⟨w.heap.size, 0, none⟩ = some (.slice A ns.length ca) ∧ W'.cell? ⟨w.heap.size, 1, none⟩ = some (.slice B ps.length cb) ∧ W'.cell? ⟨w.heap.size, 2, none⟩ = some (.slice C os.length cc))) := Lib.hid (fun W' hb => by
    have h1 := S0.out.below hb S0.out.lt
    exact ⟨Blk.cell h1 0, Blk.cell h1 1, Blk.cell h1 2⟩)
  have HT := Lib.hid (fun W' (hb : Below W0.heap.size W0 W') => B0.out.trans (hb.mono B0.out.size))
  have KW1 := Lib.hid (KW.out _ B0.out)
  have HWS : Hid (w.heap.size ≤ W0.heap.size) := Lib.hid B0.out.size
  clear S0 B0 KW
  obtain ⟨z0, z1, z2⟩ := HC.out _ (Below.refl _ _)
  go_wp2_with fail
  refine (KW1.out).mono ?_
  rintro e W1 ⟨v, rfl, ho, hb⟩
  obtain ⟨X, cx, rfl, _⟩ := La.own_slice ho
  have HO := Lib.hid ho
  have HB1 := Lib.hid hb
  clear ho hb KW1 z0 z1 z2
  go_upto_region 3 with fail
  have HF : Hid (∀ x ∈ waysU ns ps os p pd ns.length, (∃ m : Nat, m < ns.length ∧ x = (m : Int)) ∧ (applyF ns ps os p 2 pd x).2 = 0) := Lib.hid (fun x hx => ways_fit ns.length hx)
  have HRW : Hid (∀ g, X = some ⟨g, 0, none⟩ → (waysU ns ps os p pd ns.length ≠ [] → ns.length ≤ 8) → RowB W1 g (waysU ns ps os p pd ns.length).length (natsW (waysU ns ps os p pd ns.length)) ∧ (∀ k, k < (waysU ns ps os p pd ns.length).length → natsW (waysU ns ps os p pd ns.length) k < 8) ∧ onceN (natsW (waysU ns ps os p pd ns.length)) (waysU ns ps os p pd ns.length).length) := Lib.hid (fun g hx h8 => by
    have ho := HO.out
    subst hx
    refine row_ways h8 ho ?_
    rcases ho.2 with ⟨hv, _⟩ | ⟨g', cap', cur, hv, _, hheap, _⟩
    · cases hv
    · cases hv
      exact (Array.getElem?_eq_some_iff.1 hheap).1)
  have HWL := Lib.hid (waysU_len ns ps os p pd ns.length)
  have HRO : Hid (∀ R, RankOk ns ps os p pd R ↔ R.Perm (waysU ns ps os p pd ns.length) ∧ R.Pairwise (fun a c => cmpL (leftA ns ps os p pd) a.toNat c.toNat < 0)) := Lib.hid (fun R => Iff.rfl)
  have IX := Lib.hid (IntsAt.own HO.out)
  generalize waysU ns ps os p pd ns.length = W at HO HF HRW HWL HRO IX ⊢
  have HLS : Hid (LeftsB (W1.alloc (.cells #[.int .i64 0, .int .i64 0, .int .i64 0, .int .i64 0, .int .i64 0, .int .i64 0, .int .i64 0, .int .i64 0] 109)) W1.heap.size (laidA ns ps os p pd (W.take 0))) := Lib.hid (by
    have e : laidA ns ps os p pd (W.take 0) = fun _ => 0 := by
      funext m
      unfold laidA
      simp
    rw [e]
    have hB := Blk.new W1 #[.int .i64 0, .int .i64 0, .int .i64 0, .int .i64 0, .int .i64 0, .int .i64 0, .int .i64 0, .int .i64 0] 109
    refine ⟨hB.lt, fun i hi => ⟨?_, Blk.free hB i⟩⟩
    rw [Blk.cell hB i]
    match i, hi with
    | 0, _ => rfl
    | 1, _ => rfl
    | 2, _ => rfl
    | 3, _ => rfl
    | 4, _ => rfl
    | 5, _ => rfl
    | 6, _ => rfl
    | 7, _ => rfl
    | i + 8, hi => omega)
  have B2 : Hid (Below W1.heap.size W1 (W1.alloc (.cells #[.int .i64 0, .int .i64 0, .int .i64 0, .int .i64 0, .int .i64 0, .int .i64 0, .int .i64 0, .int .i64 0] 109))) := Lib.hid (below1 W1 _)
  try change Code.wp _ _ _ _ (W1.alloc (.cells #[.int .i64 0, .int .i64 0, .int .i64 0, .int .i64 0, .int .i64 0, .int .i64 0, .int .i64 0, .int .i64 0] 109))
  generalize (W1.alloc (.cells #[.int .i64 0, .int .i64 0, .int .i64 0, .int .i64 0, .int .i64 0, .int .i64 0, .int .i64 0, .int .i64 0] 109)) = W2 at HLS B2 ⊢
  obtain ⟨Wb, hWb⟩ : ∃ b, W1.heap.size = b := ⟨_, rfl⟩
  have HWB : Hid (W1.heap.size ≤ Wb) := Lib.hid (by omega)
  rw [hWb] at HLS ⊢
  clear hWb
  go_wp2_with fail
  go_loopw [19] (fun i wr => ∃ k : Nat, k ≤ W.length ∧ i = .int .i64 (k : Int) ∧ LeftsB wr Wb (laidA ns ps os p pd (W.take k)) ∧ Below W1.heap.size W1 wr) (fun i _ => W.length - (intOf i).toNat)
  case atStart => exact ⟨0, by omega, rfl, HLS.out, B2.out⟩
  case round =>
    clear HLS B2
    obtain ⟨k, hk, rfl, hls, hb⟩ := hrel
    have HLS := Lib.hid hls
    have HB := Lib.hid hb
    have HB0 := Lib.hid (HB1.out.trans (hb.mono HB1.out.size))
    clear hls hb
    by_cases hlt : k < W.length
    case neg =>
      obtain rfl : k = W.length := by omega
      obtain ⟨F, hF⟩ : ∃ F, laidA ns ps os p pd (W.take W.length) = F := ⟨_, rfl⟩
      rw [hF] at HLS
      have HFW : Hid (∀ m : Nat, (m : Int) ∈ W → F m = leftA ns ps os p pd m) := Lib.hid (fun m hm => by
        rw [← hF, List.take_length]
        unfold laidA
        rw [if_pos (List.contains_iff_mem.2 hm)])
      have l0 := (HLS.out.c 0 (by omega)).1
      have l1 := (HLS.out.c 1 (by omega)).1
      have l2 := (HLS.out.c 2 (by omega)).1
      have l3 := (HLS.out.c 3 (by omega)).1
      have l4 := (HLS.out.c 4 (by omega)).1
      have l5 := (HLS.out.c 5 (by omega)).1
      have l6 := (HLS.out.c 6 (by omega)).1
      have l7 := (HLS.out.c 7 (by omega)).1
      clear hF HLS KA KLf HC
      rcases HO.out.2 with ⟨hv, hz⟩ | ⟨g, cap, cur, hv, hbase, _, _⟩
      · injection hv with h1 h2 h3
        subst h1 h3
        have hW : W = [] := List.length_eq_zero_iff.1 hz
        subst hW
        have KS := Lib.hid (sortedL_none F wr)
        clear HO HRW IX hz h2 HF HWL
        simp only [List.length_nil] at *
        go_wp2_with fail
        refine (KS.out).mono ?_
        rintro e W8 ⟨rfl, rfl⟩
        have D := Lib.hid (HT.out _ HB0.out)
        go_wp2
        go_ret
        refine ⟨none, 0, [], rfl, ⟨fun j y hj => (by simp [intsC] at hj), Nat.le_refl _, by omega⟩, ?_, D.out⟩
        rw [HRO.out]
        exact ⟨List.Perm.refl _, List.Pairwise.nil⟩
      · cases hv
        have hne8 : W ≠ [] → ns.length ≤ 8 := fun hne => by
          obtain ⟨x, hx⟩ := List.exists_mem_of_ne_nil _ hne
          exact (placeE_few (apply_ok (HF.out x hx).2).1).1
        have hn8 : W.length ≤ 8 := by
          by_cases hne : W = []
          · rw [hne]
            simp
          · exact Nat.le_trans HWL.out (hne8 hne)
        obtain ⟨r1, r2, r3⟩ := HRW.out g rfl hne8
        have KS := Lib.hid (sortedL_any F g W.length cx (natsW W) wr hn8 (r1.below HB.out) r2 r3)
        have HBS := Lib.hid (Nat.le_trans HWS.out hbase)
        have HXL := Lib.hid IX.out.le
        have HXM := Lib.hid IX.out.most
        have HCA : Hid (((List.range W.length).map (natsW W)).map (fun k : Nat => (k : Int)) = W) := Lib.hid (by
          apply List.ext_getElem?
          intro i
          rw [List.getElem?_map, List.getElem?_map]
          by_cases hi : i < W.length
          · have hg : W[i]? = some W[i] := List.getElem?_eq_getElem hi
            obtain ⟨⟨m, _, h2⟩, _⟩ := HF.out W[i] (List.getElem_mem hi)
            rw [List.getElem?_range hi, Option.map_some, Option.map_some, hg]
            unfold natsW
            rw [hg, Option.getD_some, h2]
            rfl
          · rw [List.getElem?_eq_none (by simpa using hi), List.getElem?_eq_none (by omega)]
            rfl)
        clear HO HRW IX r1 r2 r3 HF hne8 HWS HB HB1 HWB
        go_wp2_with fail
        refine (KS.out).mono ?_
        rintro e W8 ⟨rfl, hs⟩
        have HS := Lib.hid hs
        have D := Lib.hid ((HT.out _ HB0.out).trans (hs.2.mono HBS.out))
        clear hs KS l0 l1 l2 l3 l4 l5 l6 l7 HB0 HBS HT
        go_wp2
        go_ret
        obtain ⟨⟨L, hL1, hL2, hL3⟩, _⟩ := HS.out
        have hp := (hL3.map (fun k : Nat => (k : Int))).trans (List.Perm.of_eq HCA.out)
        have hR : ((List.range W.length).map L).map (fun k : Nat => (k : Int)) = (List.range W.length).map (fun k => (L k : Int)) := by
          rw [List.map_map]
          rfl
        rw [hR] at hp
        refine ⟨some ⟨g, 0, none⟩, cx, (List.range W.length).map (fun k => (L k : Int)), by rw [List.length_map, List.length_range]; rfl, ⟨fun j y hj => ?_, by rw [List.length_map, List.length_range]; exact HXL.out, HXM.out⟩, ?_, D.out⟩
        · unfold intsC at hj
          rw [List.getElem?_map, List.getElem?_map] at hj
          have hjl : j < W.length := by
            by_cases hjl : j < W.length
            · exact hjl
            · rw [List.getElem?_eq_none (by simpa using hjl)] at hj
              cases hj
          rw [List.getElem?_range hjl, Option.map_some, Option.map_some] at hj
          cases hj
          exact ⟨g, 0, rfl, by rw [Nat.zero_add]; exact (hL1.c j hjl).1⟩
        · rw [HRO.out]
          refine ⟨hp, ?_⟩
          rw [List.pairwise_map]
          refine (List.pairwise_lt_range).imp_of_mem ?_
          intro a c ha hc hac
          have hac2 := hL2 a c hac (List.mem_range.1 hc)
          have ma : (L a : Int) ∈ W := hp.mem_iff.1 (List.mem_map.2 ⟨a, ha, rfl⟩)
          have mc : (L c : Int) ∈ W := hp.mem_iff.1 (List.mem_map.2 ⟨c, hc, rfl⟩)
          unfold cmpL at hac2 ⊢
          rw [Int.toNat_natCast, Int.toNat_natCast, ← HFW.out _ ma, ← HFW.out _ mc]
          exact hac2
    obtain ⟨y, hy⟩ : ∃ y, W[k]? = some y := ⟨W[k], List.getElem?_eq_getElem hlt⟩
    obtain ⟨⟨m, hm, hym⟩, hap⟩ := HF.out y (List.mem_of_getElem? hy)
    subst hym
    obtain ⟨hE, hEq, _⟩ := apply_ok hap
    have h8 := (placeE_few hE).1
    obtain ⟨x, hx⟩ : ∃ x, ns[m]? = some x := ⟨ns[m], List.getElem?_eq_getElem hm⟩
    obtain ⟨b, o, hA, hbl, c0⟩ := atI (IX.out.below HB.out).cells hy
    subst hA
    have HTK : Hid (∀ i : Nat, laidA ns ps os p pd (W.take (k + 1)) i = if i = m then leftA ns ps os p pd m else laidA ns ps os p pd (W.take k) i) := Lib.hid (fun i => by
      unfold laidA
      rw [List.take_add_one, hy]
      by_cases hi : i = m
      · subst hi
        simp
      · rw [if_neg hi]
        have e : (W.take k ++ (some (m : Int)).toList).contains (i : Int) = (W.take k).contains (i : Int) := by
          rw [Bool.eq_iff_iff, List.contains_iff_mem, List.contains_iff_mem, List.mem_append]
          constructor
          · rintro (h | h)
            · exact h
            · rw [Option.toList_some, List.mem_singleton] at h
              omega
          · exact fun h => Or.inl h
        rw [e])
    have HLA : Hid (leftA ns ps os p pd m = leftS x.cap (addW ps (onU (applyF ns ps os p 2 pd (m : Int)).1 (m : Int) (applyF ns ps os p 2 pd (m : Int)).1.length)) 5) := Lib.hid (by
      unfold leftA leftN
      rw [hx])
    have KA1 : Hid (Calls Tryz.prog 23 #[snapV A B C ca cb cc ns ps os, .slice P p.length cp, stepV 2 pd (m : Int)] wr fun e w' => ∃ v, e = .returned (.tuple #[v, .int .i64 0]) ∧ w'.ownsRow wr.heap.size 3 1 v (applyF ns ps os p 2 pd (m : Int)).1.length (intsC (applyF ns ps os p 2 pd (m : Int)).1) ∧ Below wr.heap.size wr w') := Lib.hid ((KA.out (m : Int) _ (HT.out _ HB0.out)).mono (fun e w' ⟨v, h1, h2, h3⟩ => ⟨v, by rw [h1, hap], h2, h3⟩))
    have KL1 := Lib.hid (fun Xq cq W' (hb : Below w.heap.size w W') (hq : IntsAt W' Xq cq (applyF ns ps os p 2 pd (m : Int)).1) => KLf.out Xq cq _ m x hEq hx W' hb hq)
    rw [← HLA.out] at KL1
    have k0 : (0 : Int) ≤ (k : Int) := by omega
    have k1 : (k : Int) < (W.length : Int) := by omega
    have m0 : (0 : Int) ≤ (m : Int) := by omega
    have m1 : (m : Int) < 8 := by omega
    have hm8 : m < 8 := by omega
    have hwl : W.length ≤ 8 := Nat.le_trans HWL.out h8
    generalize (applyF ns ps os p 2 pd (m : Int)).1 = q at KA1 KL1 HLA
    obtain ⟨a, ha⟩ : ∃ a, leftA ns ps os p pd m = a := ⟨_, rfl⟩
    rw [ha] at KL1 HTK
    clear HLA ha hE hEq hx hap hy hbl
    obtain ⟨z0, z1, z2⟩ := HC.out _ HB0.out
    go_wp2_with fail
    refine (KA1.out).mono ?_
    rintro e W5 ⟨v5, rfl, hq, hb⟩
    obtain ⟨Xq, cq, rfl, _⟩ := La.own_slice hq
    have HIQ := Lib.hid (IntsAt.own hq)
    have HB5 := Lib.hid (HB0.out.trans (hb.mono HB0.out.size))
    have HB5' := Lib.hid (HB.out.trans (hb.mono HB.out.size))
    have HLS5 := Lib.hid (HLS.out.below hb)
    clear hq hb KA1 z0 z1 z2 c0
    obtain ⟨z0, z1, z2⟩ := HC.out _ HB5.out
    have KL2 := Lib.hid (KL1.out Xq cq _ (HT.out _ HB5.out) HIQ.out)
    go_wp2_with fail
    refine (KL2.out).mono ?_
    rintro e W6 ⟨rfl, hb⟩
    have HB6' := Lib.hid (HB5'.out.trans (hb.mono HB5'.out.size))
    have HLS6 := Lib.hid (HLS5.out.below hb)
    clear hb KL1 KL2 z0 z1 z2 HLS HLS5 HIQ
    obtain ⟨s0, f0⟩ := HLS6.out.c m hm8
    have HLS7 : Hid (LeftsB (W6.setCell ⟨Wb, m, none⟩ (.int .i64 a)) Wb (laidA ns ps os p pd (W.take (k + 1)))) := Lib.hid (by
      have e : laidA ns ps os p pd (W.take (k + 1)) = fun i => if i = m then a else laidA ns ps os p pd (W.take k) i := by
        funext i
        exact HTK.out i
      rw [e]
      exact HLS6.out.set hm8 a)
    have HB7 : Hid (Below W1.heap.size W1 (W6.setCell ⟨Wb, m, none⟩ (.int .i64 a))) := Lib.hid (HB6'.out.setCell (p := ⟨Wb, m, none⟩) HWB.out _)
    clear HLS6 HTK HB6' HB5 HB5' HB0 HB
    go_wp2_with fail
    go_roundw
    case rel => exact ⟨k + 1, by omega, by go_num, HLS7.out, HB7.out⟩
    case measure => simp [intOf] <;> omega
end Go.Proofs.YtmmokiaipfalmaaGreat

namespace Go.Proofs.YtmmokiaipfalmaaGreat
open Go.RowKit Go.Maps

set_option maxRecDepth 100000 in
set_option maxHeartbeats 4000000 in
theorem best_any (A B C P : Option Addr) (ca cb cc cp : Nat) (ns : List NodeD) (ps : List PodD) (os : List OwnD) (p : List Int) (pd : Int) (w : World) (h : SnapAt w A B C ca cb cc ns ps os) (hp : IntsAt w P cp p) :
    Calls Tryz.prog 22 #[snapV A B C ca cb cc ns ps os, .slice P p.length cp, .int .i64 pd] w fun e w' => ∃ R, e = .returned (.tuple #[.int .i64 (R.headD 0), .bool (!R.isEmpty)]) ∧ RankOk ns ps os p pd R ∧ Below w.heap.size w w' := by
  have B0 : Hid (Below w.heap.size w (w.alloc (.cells (snapC A B C ca cb cc ns ps os) 26))) := Lib.hid (below1 w _)
  have S0 : Hid (Blk (w.alloc (.cells (snapC A B C ca cb cc ns ps os) 26)) w.heap.size (snapC A B C ca cb cc ns ps os) 26) := Lib.hid (Blk.new w _ _)
  have KR := Lib.hid (rank_any A B C P ca cb cc cp ns ps os p pd _ (h.below B0.out) (hp.below B0.out))
  clear h hp
  go_enter Tryz.func22, Tryz.ntmps22
  go_upto_region 1 with fail
  try change Code.wp _ _ _ _ (w.alloc (.cells (snapC A B C ca cb cc ns ps os) 26))
  generalize (w.alloc (.cells (snapC A B C ca cb cc ns ps os) 26)) = W0 at B0 S0 KR ⊢
  have z0 : W0.cell? ⟨w.heap.size, 0, none⟩ = some (.slice A ns.length ca) := Blk.cell S0.out 0
  have z1 : W0.cell? ⟨w.heap.size, 1, none⟩ = some (.slice B ps.length cb) := Blk.cell S0.out 1
  have z2 : W0.cell? ⟨w.heap.size, 2, none⟩ = some (.slice C os.length cc) := Blk.cell S0.out 2
  go_wp2_with fail
  refine (KR.out).mono ?_
  rintro e W1 ⟨X, cx, R, rfl, hi, hr, hb⟩
  have HI := Lib.hid hi
  have HR := Lib.hid hr
  have D := Lib.hid (B0.out.trans (hb.mono B0.out.size))
  clear hi hr hb KR z0 z1 z2 S0 B0
  cases R with
  | nil =>
    go_wp2
    go_ret2
    exact ⟨[], rfl, HR.out, D.out⟩
  | cons y t =>
    obtain ⟨b, o, hA, hbl, c0⟩ := atI HI.out.cells (k := 0) (x := y) rfl
    subst hA
    have k1 : (0 : Int) < ((y :: t).length : Int) := by rw [List.length_cons]; omega
    have k2 : (((y :: t).length : Int) == 0) = false := by rw [beq_eq_false_iff_ne]; omega
    have k3 : decide (((y :: t).length : Int) = 0) = false := decide_eq_false (by omega)
    have HE : Hid (RankOk ns ps os p pd (y :: t) ∧ (y :: t).headD 0 = y ∧ (!(y :: t).isEmpty) = true) := Lib.hid ⟨HR.out, rfl, rfl⟩
    clear HR HI
    have c1 : W1.cell? ⟨b, o, none⟩ = some (.int .i64 y) := by rw [Nat.add_zero] at c0; exact c0
    generalize (y :: t).length = n at k1 k2 k3 ⊢
    clear c0
    go_wp2
    go_ret2
    exact ⟨y :: t, rfl, HE.out.1, D.out⟩
end Go.Proofs.YtmmokiaipfalmaaGreat

namespace Go.Proofs.YtmmokiaipfalmaaGreat
open Go.RowKit Go.Maps

/-- Ahead of another one: by a number, then by the place. -/
def lexJ (K : Nat → Int) (a c : Nat) : Prop := K a < K c ∨ (K a = K c ∧ a < c)
def insJ (K : Nat → Int) (x : Nat) : List Nat → List Nat
  | [] => [x]
  | y :: t => if K y ≤ K x then y :: insJ K x t else x :: y :: t
def sortJ (K : Nat → Int) (l : List Nat) : List Nat := l.foldl (fun acc x => insJ K x acc) []
theorem insJ_perm (K : Nat → Int) (x : Nat) : ∀ l, (insJ K x l).Perm (x :: l)
  | [] => List.Perm.refl _
  | y :: t => by
    rw [insJ]
    split
    · exact ((insJ_perm K x t).cons y).trans (List.Perm.swap x y t)
    · exact List.Perm.refl _
theorem insJ_sorted {K : Nat → Int} {x : Nat} : ∀ {l : List Nat}, l.Pairwise (lexJ K) → (∀ y ∈ l, y < x) → (insJ K x l).Pairwise (lexJ K)
  | [], _, _ => List.pairwise_singleton _ _
  | y :: t, h, hx => by
    rw [List.pairwise_cons] at h
    rw [insJ]
    split
    · rename_i hle
      rw [List.pairwise_cons]
      refine ⟨fun z hz => ?_, insJ_sorted h.2 (fun z hz => hx z (List.mem_cons_of_mem _ hz))⟩
      rcases List.mem_cons.1 ((insJ_perm K x t).mem_iff.1 hz) with rfl | hz
      · have := hx y (List.mem_cons_self)
        unfold lexJ
        omega
      · exact h.1 z hz
    · rename_i hle
      rw [List.pairwise_cons]
      refine ⟨fun z hz => ?_, List.pairwise_cons.2 h⟩
      rcases List.mem_cons.1 hz with rfl | hz
      · left; omega
      · have := h.1 z hz
        unfold lexJ at this ⊢
        omega
theorem sortJ_go {K : Nat → Int} : ∀ (l acc : List Nat), acc.Pairwise (lexJ K) → (∀ y ∈ acc, ∀ z ∈ l, y < z) → l.Pairwise (· < ·) → (l.foldl (fun acc x => insJ K x acc) acc).Pairwise (lexJ K) ∧ (l.foldl (fun acc x => insJ K x acc) acc).Perm (acc ++ l)
  | [], acc, h, _, _ => ⟨h, by simp⟩
  | x :: t, acc, h, hx, hl => by
    rw [List.pairwise_cons] at hl
    rw [List.foldl_cons]
    obtain ⟨h1, h2⟩ := sortJ_go t (insJ K x acc) (insJ_sorted h (fun y hy => hx y hy x List.mem_cons_self)) (fun y hy z hz => by
      rcases List.mem_cons.1 ((insJ_perm K x acc).mem_iff.1 hy) with rfl | hy
      · exact hl.1 z hz
      · exact hx y hy z (List.mem_cons_of_mem _ hz)) hl.2
    refine ⟨h1, h2.trans (((insJ_perm K x acc).append_right t).trans ?_)⟩
    rw [List.cons_append]
    exact List.perm_middle.symm
theorem sortJ_ok {K : Nat → Int} {l : List Nat} (h : l.Pairwise (· < ·)) : (sortJ K l).Pairwise (lexJ K) ∧ (sortJ K l).Perm l := by
  have := sortJ_go (K := K) l [] List.Pairwise.nil (fun y hy => by cases hy) h
  rwa [List.nil_append] at this
theorem lexJ_anti {K : Nat → Int} {a c : Nat} (h1 : lexJ K a c) (h2 : lexJ K c a) : False := by
  unfold lexJ at h1 h2
  omega
theorem sortJ_one {K : Nat → Int} {l R : List Nat} (h : l.Pairwise (· < ·)) (h1 : R.Pairwise (lexJ K)) (h2 : R.Perm l) : R = sortJ K l :=
  List.Perm.eq_of_pairwise (fun _ _ _ _ h3 h4 => (lexJ_anti h3 h4).elim) h1 (sortJ_ok h).1 (h2.trans (sortJ_ok h).2.symm)

/-- The nodes for a pod, as they are ranked. -/
def waysN (ns : List NodeD) (ps : List PodD) (os : List OwnD) (p : List Int) (pd : Int) : List Nat := (waysU ns ps os p pd ns.length).map Int.toNat
def rankU (ns : List NodeD) (ps : List PodD) (os : List OwnD) (p : List Int) (pd : Int) : List Int := (sortJ (leftA ns ps os p pd) (waysN ns ps os p pd)).map (fun k : Nat => (k : Int))
theorem waysN_map {ns : List NodeD} {ps : List PodD} {os : List OwnD} {p : List Int} {pd : Int} : (waysN ns ps os p pd).map (fun k : Nat => (k : Int)) = waysU ns ps os p pd ns.length := by
  unfold waysN
  rw [List.map_map]
  conv => rhs; rw [← List.map_id (waysU ns ps os p pd ns.length)]
  refine List.map_congr_left (fun x hx => ?_)
  obtain ⟨⟨m, _, rfl⟩, _⟩ := ways_fit ns.length hx
  simp
theorem waysN_rise {ns : List NodeD} {ps : List PodD} {os : List OwnD} {p : List Int} {pd : Int} : (waysN ns ps os p pd).Pairwise (· < ·) := by
  have h : ((waysN ns ps os p pd).map (fun k : Nat => (k : Int))).Pairwise (· < ·) := by rw [waysN_map]; exact ways_rise _
  rw [List.pairwise_map] at h
  exact h.imp (fun h => by omega)
theorem rank_ok {ns : List NodeD} {ps : List PodD} {os : List OwnD} {p : List Int} {pd : Int} : RankOk ns ps os p pd (rankU ns ps os p pd) := by
  obtain ⟨h1, h2⟩ := sortJ_ok (K := leftA ns ps os p pd) (waysN_rise (ns := ns) (ps := ps) (os := os) (p := p) (pd := pd))
  refine ⟨?_, ?_⟩
  · have := h2.map (fun k : Nat => (k : Int))
    rw [waysN_map] at this
    exact this
  · unfold rankU
    rw [List.pairwise_map]
    refine h1.imp (fun {a c} h => ?_)
    rw [cmpL_lt, Int.toNat_natCast, Int.toNat_natCast]
    exact h
theorem rank_is {ns : List NodeD} {ps : List PodD} {os : List OwnD} {p : List Int} {pd : Int} {R : List Int} (h : RankOk ns ps os p pd R) : R = rankU ns ps os p pd := rank_one h rank_ok
theorem rank_fit {ns : List NodeD} {ps : List PodD} {os : List OwnD} {p : List Int} {pd : Int} {x : Int} (h : x ∈ rankU ns ps os p pd) : (∃ m : Nat, m < ns.length ∧ x = (m : Int)) ∧ (applyF ns ps os p 2 pd x).2 = 0 := ways_fit ns.length (rank_ok.1.mem_iff.1 h)

/-- The greatest that a node has of a quantity. -/
def mostL (ns : List NodeD) (j : Nat) : Int := ns.foldl (fun m x => max m (x.cap j)) 0
theorem mostL_snoc (ns : List NodeD) (x : NodeD) (j : Nat) : mostL (ns ++ [x]) j = max (mostL ns j) (x.cap j) := by
  unfold mostL
  rw [List.foldl_append]
  rfl
theorem mostL_range {ns : List NodeD} {j : Nat} {B : Int} (hB : 0 ≤ B) (h : ∀ x ∈ ns, x.cap j ≤ B) : 0 ≤ mostL ns j ∧ mostL ns j ≤ B := by
  have go : ∀ (l : List NodeD) (m : Int), (∀ x ∈ l, x.cap j ≤ B) → 0 ≤ m → m ≤ B → 0 ≤ l.foldl (fun m x => max m (x.cap j)) m ∧ l.foldl (fun m x => max m (x.cap j)) m ≤ B := by
    intro l
    induction l with
    | nil => intro m _ h1 h2; exact ⟨h1, h2⟩
    | cons x t ih =>
      intro m hx h1 h2
      rw [List.foldl_cons]
      have := hx x List.mem_cons_self
      exact ih _ (fun y hy => hx y (List.mem_cons_of_mem _ hy)) (by omega) (by omega)
  exact go ns 0 h (Int.le_refl _) hB
/-- How great a pod is, of the first k quantities. -/
def sizeS (most req : Nat → Int) : Nat → Int
  | 0 => 0
  | k + 1 => if 0 < most k then max (sizeS most req k) ((1000 * req k).tdiv (most k)) else sizeS most req k
theorem sizeS_range {most req : Nat → Int} (hr : ∀ j, j < 5 → 0 ≤ req j ∧ req j ≤ 1099511627776) : ∀ k, k ≤ 5 → 0 ≤ sizeS most req k ∧ sizeS most req k ≤ 1099511627776000
  | 0, _ => by simp [sizeS]
  | k + 1, h => by
    have h1 := sizeS_range (most := most) hr k (by omega)
    have h2 := hr k (by omega)
    rw [sizeS]
    split
    · rename_i hm
      have h3 : (1000 * req k).tdiv (most k) ≤ 1099511627776000 := by
        rw [Int.tdiv_eq_ediv_of_nonneg (by omega)]
        have : (1000 * req k) / most k ≤ 1000 * req k := Int.ediv_le_self _ (by omega)
        omega
      omega
    · exact h1
def sizeU (ns : List NodeD) (ps : List PodD) (i : Nat) : Int := match ps[i]? with
  | some x => sizeS (mostL ns) x.req 5
  | none => 0
/-- Those of pods that there are, each once, rising. -/
def amongL (pods : List Int) (n : Nat) : List Nat := (List.range 24).filter (fun i => decide (i < n) && pods.contains (i : Int))
def orderU (ns : List NodeD) (ps : List PodD) (pods : List Int) : List Nat := sortJ (fun i => -(sizeU ns ps i)) (amongL pods ps.length)
theorem amongL_rise (pods : List Int) (n : Nat) : (amongL pods n).Pairwise (· < ·) := (List.pairwise_lt_range).sublist List.filter_sublist
theorem amongL_lt {pods : List Int} {n k : Nat} (h : k ∈ amongL pods n) : k < 24 ∧ k < n ∧ pods.contains (k : Int) = true := by
  unfold amongL at h
  rw [List.mem_filter, List.mem_range, Bool.and_eq_true, decide_eq_true_eq] at h
  exact h
theorem amongL_len (pods : List Int) (n : Nat) : (amongL pods n).length ≤ 24 := by
  have := List.length_filter_le (fun i : Nat => decide (i < n) && pods.contains (i : Int)) (List.range 24)
  rw [List.length_range] at this
  exact this
theorem orderU_perm (ns : List NodeD) (ps : List PodD) (pods : List Int) : (orderU ns ps pods).Perm (amongL pods ps.length) := (sortJ_ok (amongL_rise _ _)).2
theorem orderU_lt {ns : List NodeD} {ps : List PodD} {pods : List Int} {k : Nat} (h : k ∈ orderU ns ps pods) : k < 24 ∧ k < ps.length ∧ pods.contains (k : Int) = true := amongL_lt ((orderU_perm ns ps pods).mem_iff.1 h)
theorem order_is {ns : List NodeD} {ps : List PodD} {pods : List Int} {R : List Nat} (h1 : R.Pairwise (fun a c => cmpS (sizeU ns ps) a c < 0)) (h2 : R.Perm (amongL pods ps.length)) : R = orderU ns ps pods := by
  refine sortJ_one (amongL_rise _ _) (h1.imp (fun {a c} h => ?_)) h2
  rw [cmpS_lt] at h
  show -(sizeU ns ps a) < -(sizeU ns ps c) ∨ (-(sizeU ns ps a) = -(sizeU ns ps c) ∧ a < c)
  omega
end Go.Proofs.YtmmokiaipfalmaaGreat

namespace Go.Proofs.YtmmokiaipfalmaaGreat
open Go.RowKit

set_option maxRecDepth 100000 in
set_option maxHeartbeats 2000000 in
theorem in14_any (A : Option Addr) (c : Nat) (l : List Int) (n : Int) (w : World) (h : IntsAt w A c l) :
    Calls Tryz.prog 25 #[.slice A l.length c, .int .i64 n] w fun e w' => e = .returned (.bool (l.contains n)) ∧ w' = w := by
  have H := Lib.hid h
  have hlm : l.length ≤ 9223372036854775807 := by have := h.le; have := h.most; omega
  obtain ⟨R, hR⟩ : ∃ R, l.contains n = R := ⟨_, rfl⟩
  have HR := Lib.hid hR
  rw [hR]
  clear h hR
  go_enter Tryz.func25, Tryz.ntmps25
  go_wp2_with fail
  go_loopw [5] (fun i wr => ∃ k : Nat, k ≤ l.length ∧ i = .int .i64 k ∧ (∀ j x, j < k → l[j]? = some x → x ≠ n) ∧ wr = w) (fun i _ => l.length - (RowKit.intOf i).toNat)
  case atStart => exact ⟨0, by omega, rfl, fun j x h => by omega, rfl⟩
  case round =>
    obtain ⟨k, hk, rfl, hn, rfl⟩ := hrel
    have HN := Lib.hid hn
    clear hn
    by_cases hlt : k < l.length
    · obtain ⟨x, hx⟩ : ∃ x, l[k]? = some x := ⟨l[k], List.getElem?_eq_getElem hlt⟩
      obtain ⟨b, o, hA, hb, hc⟩ := atI H.out.cells hx
      subst hA
      have k0 : (0 : Int) ≤ (k : Int) := by omega
      have k1 : (k : Int) < (l.length : Int) := by omega
      by_cases hxn : x = n
      · subst hxn
        have hT : Hid (R = true) := Lib.hid (by rw [← HR.out]; exact List.contains_iff_mem.2 (List.mem_of_getElem? hx))
        clear hx
        go_wp2_with fail
        go_ret
        rw [hT.out]
        exact ⟨rfl, rfl⟩
      · have hxb : (x == n) = false := by simpa using hxn
        have HX := Lib.hid hx
        clear hx
        go_wp2_with fail
        go_roundw
        case rel =>
          refine ⟨k + 1, by omega, by go_num, fun j y hj hy => ?_, (by first | rfl | trivial)⟩
          rcases Nat.lt_or_eq_of_le (Nat.le_of_lt_succ hj) with g | rfl
          · exact HN.out j y g hy
          · have := HX.out.symm.trans hy
            cases this
            exact hxn
        case measure => simp [RowKit.intOf]; omega
    · obtain rfl : k = l.length := by omega
      have hF : Hid (R = false) := Lib.hid (by
        rw [← HR.out]
        cases hc : l.contains n
        · rfl
        · obtain ⟨i, hi, he⟩ := List.getElem_of_mem (List.contains_iff_mem.1 hc)
          exact absurd he (HN.out i _ hi (List.getElem?_eq_getElem hi)))
      go_wp2_with fail
      go_ret
      rw [hF.out]
      exact ⟨rfl, rfl⟩

end Go.Proofs.YtmmokiaipfalmaaGreat

namespace Go.Proofs.YtmmokiaipfalmaaGreat
open Go.RowKit

theorem left_nn {ns : List NodeD} {ps : List PodD} {os : List OwnD} {q : List Int} {n : Nat} (hE : placeE ns ps os q = 0) : 0 ≤ leftN ns ps q n := by
  unfold leftN
  cases hn : ns[n]? with
  | none => exact Int.le_refl _
  | some x =>
    have hck := placeE_chk hE
    have hcb := cap_bounds hck (List.mem_of_getElem? hn)
    have hal : (onU q (n : Int) q.length).length ≤ 1000 := by
      have := onU_len q (n : Int) q.length
      have := placeE_len hE
      have := (placeE_few hE).2.1
      omega
    exact (leftS_range (cap := x.cap) (used := addW ps (onU q (n : Int) q.length)) (fun j hj => (hcb j hj).1) (fun j hj => (addW_bounds (fun y hy => req_bounds hck hy j hj) _ hal).1) 5 (by omega)).1
theorem rank_left {ns : List NodeD} {ps : List PodD} {os : List OwnD} {p : List Int} {pd x : Int} (h : x ∈ rankU ns ps os p pd) : leftF ns ps os (applyF ns ps os p 2 pd x).1 x = leftA ns ps os p pd x.toNat ∧ 0 ≤ leftA ns ps os p pd x.toNat := by
  obtain ⟨⟨m, hm, rfl⟩, ha⟩ := rank_fit h
  obtain ⟨_, hE, _⟩ := apply_ok ha
  refine ⟨?_, ?_⟩
  · unfold leftF
    rw [if_pos ⟨hE, by omega, by omega⟩]
    rfl
  · unfold leftA
    rw [Int.toNat_natCast]
    exact left_nn hE
theorem rank_step {ns : List NodeD} {ps : List PodD} {os : List OwnD} {p : List Int} {pd x y : Int} {m : Nat} (hx : (rankU ns ps os p pd)[m]? = some x) (hy : (rankU ns ps os p pd)[m + 1]? = some y) : leftA ns ps os p pd x.toNat < leftA ns ps os p pd y.toNat ∨ (leftA ns ps os p pd x.toNat = leftA ns ps os p pd y.toNat ∧ x < y) := by
  obtain ⟨h1, e1⟩ := List.getElem?_eq_some_iff.1 hx
  obtain ⟨h2, e2⟩ := List.getElem?_eq_some_iff.1 hy
  have h := List.pairwise_iff_getElem.1 rank_ok.2 m (m + 1) h1 h2 (by omega)
  rw [e1, e2, cmpL_lt] at h
  obtain ⟨⟨a, _, ha⟩, _⟩ := rank_fit (List.mem_of_getElem? hx)
  obtain ⟨⟨c, _, hc⟩, _⟩ := rank_fit (List.mem_of_getElem? hy)
  omega
theorem rank_len {ns : List NodeD} {ps : List PodD} {os : List OwnD} {p : List Int} {pd : Int} : (waysU ns ps os p pd ns.length).length = (rankU ns ps os p pd).length := rank_ok.1.length_eq.symm
theorem rank_in {ns : List NodeD} {ps : List PodD} {os : List OwnD} {p : List Int} {pd x : Int} (h : x ∈ rankU ns ps os p pd) : (waysU ns ps os p pd ns.length).contains x = true := List.contains_iff_mem.2 (rank_ok.1.mem_iff.1 h)
theorem rankU_any (A B C P : Option Addr) (ca cb cc cp : Nat) (ns : List NodeD) (ps : List PodD) (os : List OwnD) (p : List Int) (pd : Int) (w : World) (h : SnapAt w A B C ca cb cc ns ps os) (hp : IntsAt w P cp p) :
    Calls Tryz.prog 20 #[snapV A B C ca cb cc ns ps os, .slice P p.length cp, .int .i64 pd] w fun e w' => ∃ X cx, e = .returned (.slice X (rankU ns ps os p pd).length cx) ∧ IntsAt w' X cx (rankU ns ps os p pd) ∧ Below w.heap.size w w' := by
  refine (rank_any A B C P ca cb cc cp ns ps os p pd w h hp).mono ?_
  rintro e w' ⟨X, cx, R, rfl, hi, hr, hb⟩
  have := rank_is hr
  subst this
  exact ⟨X, cx, rfl, hi, hb⟩
theorem bestU_any (A B C P : Option Addr) (ca cb cc cp : Nat) (ns : List NodeD) (ps : List PodD) (os : List OwnD) (p : List Int) (pd : Int) (w : World) (h : SnapAt w A B C ca cb cc ns ps os) (hp : IntsAt w P cp p) :
    Calls Tryz.prog 22 #[snapV A B C ca cb cc ns ps os, .slice P p.length cp, .int .i64 pd] w fun e w' => e = .returned (.tuple #[.int .i64 ((rankU ns ps os p pd).headD 0), .bool (!(rankU ns ps os p pd).isEmpty)]) ∧ Below w.heap.size w w' := by
  refine (best_any A B C P ca cb cc cp ns ps os p pd w h hp).mono ?_
  rintro e w' ⟨R, rfl, hr, hb⟩
  have := rank_is hr
  subst this
  exact ⟨rfl, hb⟩
theorem waysR_any (A B C P : Option Addr) (ca cb cc cp : Nat) (ns : List NodeD) (ps : List PodD) (os : List OwnD) (p : List Int) (pd : Int) (w : World) (h : SnapAt w A B C ca cb cc ns ps os) (hp : IntsAt w P cp p) :
    Calls Tryz.prog 21 #[snapV A B C ca cb cc ns ps os, .slice P p.length cp, .int .i64 pd] w fun e w' => ∃ X cx, e = .returned (.slice X (rankU ns ps os p pd).length cx) ∧ IntsAt w' X cx (waysU ns ps os p pd ns.length) ∧ Below w.heap.size w w' := by
  refine (ways_anyA A B C P ca cb cc cp ns ps os p pd w h hp).mono ?_
  rintro e w' ⟨v, rfl, ho, hb⟩
  obtain ⟨g, c, rfl, _⟩ := La.own_slice ho
  exact ⟨g, c, by rw [rank_len], IntsAt.own ho, hb⟩
theorem bindI_any (A B C P : Option Addr) (ca cb cc cp : Nat) (ns : List NodeD) (ps : List PodD) (os : List OwnD) (p : List Int) (pd x : Int) (hx : x ∈ rankU ns ps os p pd) (w : World) (h : SnapAt w A B C ca cb cc ns ps os) (hp : IntsAt w P cp p) :
    Calls Tryz.prog 23 #[snapV A B C ca cb cc ns ps os, .slice P p.length cp, stepV 2 pd x] w fun e w' => ∃ X cx, e = .returned (.tuple #[.slice X (applyF ns ps os p 2 pd x).1.length cx, .int .i64 0]) ∧ IntsAt w' X cx (applyF ns ps os p 2 pd x).1 ∧ Below w.heap.size w w' := by
  refine (apply_any A B C P ca cb cc cp ns ps os p 2 pd x w h hp).mono ?_
  rintro e w' ⟨v, rfl, ho, hb⟩
  obtain ⟨g, c, rfl, _⟩ := La.own_slice ho
  exact ⟨g, c, by rw [(rank_fit hx).2], IntsAt.own ho, hb⟩
/-- What was left ahead of the m-th node of the row. -/
def lastL (K : Nat → Int) (R : List Int) : Nat → Int
  | 0 => -1
  | m + 1 => K ((R[m]?).getD 0).toNat
theorem lastL_succ {K : Nat → Int} {R : List Int} {m : Nat} {x : Int} (h : R[m]? = some x) : lastL K R (m + 1) = K x.toNat := by
  rw [lastL, h]
  rfl
theorem in14_len (A : Option Addr) (c n : Nat) (l : List Int) (x : Int) (w : World) (hl : l.length = n) (hc : l.contains x = true) (h : IntsAt w A c l) :
    Calls Tryz.prog 25 #[.slice A n c, .int .i64 x] w fun e w' => e = .returned (.bool true) ∧ w' = w := by
  have q := in14_any A c l x w h
  rwa [hc, hl] at q
end Go.Proofs.YtmmokiaipfalmaaGreat

namespace Go.Proofs.YtmmokiaipfalmaaGreat
open Go.RowKit Go.Maps

theorem results_f1 {P : Program} {fn : Func} {p : Tmp} {ty : TypeId} (h : fn.results = #[.cell p ty]) (tmps : Array Value) (w : World) (g : Nat) (t : TypeId) (cs : Array Value) (fr : Nat × Nat) (d : TypeDesc)
    (hp : tmps.getD p undef = .pointer (some ⟨g, 0, none⟩)) (hg : w.heap[g]? = some (.cells cs t fr)) (hu : P.underlying ty = some d)
    (hd : (match d with | .struct _ | .array _ _ => true | _ => false) = true) (hi : (P.info? ty).map (·.size) = some cs.size) :
    (results fn tmps).run P w = .ok (.agg cs) w := by
  have hp' : tmps[p]?.getD undef = .pointer (some ⟨g, 0, none⟩) := by simpa using hp
  simp [results, h, hp', asAddr, run_loadVar_row w g t ty cs fr d hg hu hd hi]
theorem bodyPost_f1 {P : Program} {fn : Func} {p : Tmp} {ty : TypeId} {R : Ending → World → Prop} {a : Act} {w : World} (h : fn.results = #[.cell p ty]) (g : Nat) (t : TypeId) (cs : Array Value) (fr : Nat × Nat) (d : TypeDesc)
    (hd0 : a.defers = []) (hp : a.tmps.getD p undef = .pointer (some ⟨g, 0, none⟩)) (hg : w.heap[g]? = some (.cells cs t fr))
    (hu : P.underlying ty = some d) (hd : (match d with | .struct _ | .array _ _ => true | _ => false) = true) (hi : (P.info? ty).map (·.size) = some cs.size)
    (hR : R (.returned (.agg cs)) w) : bodyPost P fn R .ret a w :=
  bodyPost_ret (results_f1 h a.tmps w g t cs fr d hp hg hu hd hi) hd0 hR
theorem rowAt_f {w : World} {b : Nat} {f g : Nat → Int} (h : Qu.RowAt w b f) (e : ∀ t, t < 5 → f t = g t) : Qu.RowAt w b g := by
  unfold Qu.RowAt at h ⊢
  rw [e 0 (by omega), e 1 (by omega), e 2 (by omega), e 3 (by omega), e 4 (by omega)] at h
  exact h
abbrev agg5 (f : Nat → Int) : Value := .agg #[.int .i64 (f 0), .int .i64 (f 1), .int .i64 (f 2), .int .i64 (f 3), .int .i64 (f 4)]
set_option maxRecDepth 100000 in
set_option maxHeartbeats 8000000 in
theorem mostOf_any (A B C : Option Addr) (ca cb cc : Nat) (ns : List NodeD) (ps : List PodD) (os : List OwnD) (hck : checkS ns ps os = 0) (w : World) (h : SnapIn w A B C ca cb cc ns ps os) :
    Calls Tryz.prog 157 #[.slice A ns.length ca] w fun e w' => e = .returned (agg5 (mostL ns)) ∧ Below w.heap.size w w' := by
  have HCB := Lib.hid (fun x (hx : x ∈ ns) => cap_bounds hck hx)
  have H := Lib.hid h
  have hn8 : ns.length ≤ 8 := (checkS_few (by rw [hck]; decide)).1
  have Q0 : Hid (Qu.RowAt (w.alloc (.cells #[.int .i64 0, .int .i64 0, .int .i64 0, .int .i64 0, .int .i64 0] 47)) w.heap.size (mostL (ns.take 0))) := Lib.hid (Qu.RowAt.new w (fun _ => 0))
  have B0 : Hid (Below w.heap.size w (w.alloc (.cells #[.int .i64 0, .int .i64 0, .int .i64 0, .int .i64 0, .int .i64 0] 47))) := Lib.hid (below1 w _)
  clear h hck
  go_enter Tryz.func157, Tryz.ntmps157
  go_upto_region 1 with fail
  try change Code.wp _ _ _ _ (w.alloc (.cells #[.int .i64 0, .int .i64 0, .int .i64 0, .int .i64 0, .int .i64 0] 47))
  generalize (w.alloc (.cells #[.int .i64 0, .int .i64 0, .int .i64 0, .int .i64 0, .int .i64 0] 47)) = W0 at Q0 B0 ⊢
  obtain ⟨Mb, hMb⟩ : ∃ b, w.heap.size = b := ⟨_, rfl⟩
  have HMB : Hid (w.heap.size ≤ Mb) := Lib.hid (by omega)
  have HME : Hid (w.heap.size = Mb) := Lib.hid hMb
  rw [hMb] at Q0 ⊢
  rw [hMb] at B0
  clear hMb
  go_wp2_with fail
  go_loopw [9] (fun i wr => ∃ k : Nat, k ≤ ns.length ∧ i = .int .i64 (k : Int) ∧ Qu.RowAt wr Mb (mostL (ns.take k)) ∧ Below Mb w wr) (fun i _ => ns.length - (intOf i).toNat)
  case atStart => exact ⟨0, by omega, rfl, Q0.out, B0.out⟩
  case round =>
    clear Q0 B0
    obtain ⟨k, hk, rfl, hr, hb⟩ := hrel
    have HR := Lib.hid hr
    have HB := Lib.hid hb
    clear hr hb
    by_cases hlt : k < ns.length
    case neg =>
      obtain rfl : k = ns.length := by omega
      have HR2 : Hid (Qu.RowAt wr Mb (mostL ns)) := Lib.hid (by have h2 := HR.out; rw [List.take_length] at h2; exact h2)
      clear HR HCB H
      go_wp2_with (first | refine wpList_load_row rfl 47 (.tmp 2) rfl Mb rfl 47 _ (0, 0) _ HR2.out Tryz.underlying47 rfl Qu.vec_size ?_ | refine wpList_store_row rfl 47 (.tmp 2) (.tmp 28) rfl Mb _ rfl rfl 47 _ HR2.out Qu.vec_size (by kernel_rfl) (by kernel_rfl) ?_)
      refine bodyPost_f1 Tryz.results157 Mb _ _ _ _ ?d1 ?p1 (Blk.put HR2.out #[.int .i64 (mostL ns 0), .int .i64 (mostL ns 1), .int .i64 (mostL ns 2), .int .i64 (mostL ns 3), .int .i64 (mostL ns 4)]) Tryz.underlying47 rfl Qu.vec_size ?_
      case d1 => rfl
      case p1 => rfl
      rw [HME.out]
      exact ⟨rfl, below_setRow HB.out (Nat.le_refl _) _⟩
    obtain ⟨x, hx⟩ : ∃ x, ns[k]? = some x := ⟨ns[k], List.getElem?_eq_getElem hlt⟩
    have hw : Below w.heap.size w wr := by rw [HME.out]; exact HB.out
    obtain ⟨b, o, hA, hbl, d0, d1, d2, d3, d4, d5, d6, d7, d8, d9⟩ := atN (H.out.low hw).n.cells hx
    subst hA
    clear hw
    have k0 : (0 : Int) ≤ (k : Int) := by omega
    have k1 : (k : Int) < (ns.length : Int) := by omega
    have hcb := HCB.out x (List.mem_of_getElem? hx)
    have HTK : Hid (∀ j, mostL (ns.take (k + 1)) j = max (mostL (ns.take k) j) (x.cap j)) := Lib.hid (fun j => by
      rw [List.take_add_one, hx]
      exact mostL_snoc _ _ _)
    have HRG : Hid (∀ j, j < 5 → 0 ≤ mostL (ns.take k) j ∧ mostL (ns.take k) j ≤ 1099511627776) := Lib.hid (fun j hj => mostL_range (by omega) (fun y hy => ((HCB.out y (List.mem_of_mem_take hy)) j hj).2))
    have HRa := Lib.hid (fun o => Qu.RowAt.alloc HR.out o)
    have HBa := Lib.hid (fun o => HB.out.alloc (B := Mb) (by have := HB.out.size; have := HME.out; omega) o)
    go_wp2_with fail
    go_loopw [15] (fun i wq => ∃ j : Nat, j ≤ 5 ∧ i = .int .i64 (j : Int) ∧ Qu.RowAt wq Mb (fun t => if t < j then mostL (ns.take (k + 1)) t else mostL (ns.take k) t) ∧ Below Mb w wq) (fun i _ => 5 - (intOf i).toNat)
    case atStart => exact ⟨0, by omega, rfl, rowAt_f (HRa.out _) (fun t _ => by rw [if_neg (by omega)]), HBa.out _⟩
    case round =>
      clear HRa HBa HR HB d0 d1 d2 d3 d4 d5 d6 d7 d8 d9
      obtain ⟨j, hj, rfl, hr, hb⟩ := hrel
      have HR := Lib.hid hr
      have HB := Lib.hid hb
      clear hr hb
      by_cases h5 : j < 5
      case neg =>
        obtain rfl : j = 5 := by omega
        have HR2 : Hid (Qu.RowAt wr Mb (mostL (ns.take (k + 1)))) := Lib.hid (rowAt_f HR.out (fun t ht => by rw [if_pos ht]))
        clear HR HTK HRG
        go_wp2_with fail
        go_roundw
        case rel => exact ⟨k + 1, by omega, by go_num, HR2.out, HB.out⟩
        case measure => simp [intOf] <;> omega
      have cj := Qu.RowAt.cell HR.out h5
      rw [if_neg (by omega)] at cj
      have fj := Qu.RowAt.free HR.out j
      have ix := fun w => cap_ix x.cap j h5 w
      have j0 : (0 : Int) ≤ (j : Int) := by omega
      have j1 : (j : Int) < 5 := by omega
      have hm : max (mostL (ns.take k) j) (x.cap j) = mostL (ns.take (k + 1)) j := (HTK.out j).symm
      have HRs : Hid (Qu.RowAt (wr.setCell ⟨Mb, j, none⟩ (.int .i64 (mostL (ns.take (k + 1)) j))) Mb (fun t => if t < j + 1 then mostL (ns.take (k + 1)) t else mostL (ns.take k) t)) := Lib.hid (rowAt_f (Qu.RowAt.set HR.out h5 _) (fun t ht => by
        unfold Qu.upd
        by_cases hjt : t = j
        · rw [if_pos hjt, if_pos (by omega), hjt]
        · rw [if_neg hjt]
          dsimp only
          by_cases h6 : t < j
          · rw [if_pos h6, if_pos (by omega)]
          · rw [if_neg h6, if_neg (by omega)]))
      have HBs : Hid (Below Mb w (wr.setCell ⟨Mb, j, none⟩ (.int .i64 (mostL (ns.take (k + 1)) j)))) := Lib.hid (HB.out.setCell (p := ⟨Mb, j, none⟩) (Nat.le_refl _) _)
      generalize mostL (ns.take k) j = a at cj hm
      generalize mostL (ns.take (k + 1)) j = a2 at hm HRs HBs
      generalize x.cap j = c at ix hm
      subst hm
      clear HR HB HTK HRG
      go_wp2_with fail
      go_roundw
      case rel => exact ⟨j + 1, by omega, by go_num, HRs.out, HBs.out⟩
      case measure => simp [intOf] <;> omega
end Go.Proofs.YtmmokiaipfalmaaGreat
