/- All, Of and Pod, by the program's words. Contracts. Condition: the cluster and the numbers lie in memory. By how much the clauses of a placement are broken, as a map: the program's brokenBy, whichOf, weight. Contracts. Condition: the cluster and the numbers lie in memory. What one placement makes worse: the program's worseThan, its closure, Worse. Contracts. Condition: the cluster and the numbers lie in memory. Whether a placement is safe, by how much it is broken: the program's Safe, Sum. Contracts. Condition: the cluster and the numbers lie in memory. What is against a step, as a value of any type: the program's try, clauseOf, errorOf, Step, May. Contracts. Condition: the cluster and the numbers lie in memory. What a step makes, or why it may not be done; whether it may be: the program's Step, May, and the document's. Contracts. Condition: the cluster and the numbers lie in memory. Steps as arguments, opened. No conditions but the form's own. (KOpenN and LawKSteps have their own copies: never import both.) The nodes for a pod; steps, one behind the other: the program's Ways, Run. Contracts. Condition: the cluster, the numbers, the steps lie in memory. The chapter's cluster of the layers from clause on: its nodes have 15, its pods ask for 10; its owner asks for so many pods. No conditions. -/
import Derived.Test.YtiiheajieegdkaaGreatA07
import Derived.Deep.RegionHeld3

namespace Go.Proofs.YtiiheajieegdkaaGreat
open Go.RowKit

set_option maxRecDepth 100000 in
set_option maxHeartbeats 16000000 in
theorem look0_any (A B C P : Option Addr) (ca cb cc cp : Nat) (ns : List NodeD) (ps : List PodD) (os : List OwnD) (p : List Int) (g : FuncId) (f : ClT → Bool) (hg : ∀ (args : Array Value) (w : World), (callFunc g args).run Tryz.prog w = .ok (.enter g args) w) (w : World) (h : SnapAt w A B C ca cb cc ns ps os) (hp : IntsAt w P cp p)
    (hcl : ∀ (c : ClT) (w' : World), Below w.heap.size w w' → Calls Tryz.prog g #[clV c] w' fun e w'' => e = .returned (.bool (f c)) ∧ Below w'.heap.size w' w'') :
    Calls Tryz.prog 74 #[snapV A B C ca cb cc ns ps os, .slice P p.length cp, .func (Fn.func g) #[] #[]] w fun e w' => ∃ v, e = .returned (.tuple #[v, .int .i64 (placeE ns ps os p)]) ∧ w'.ownsRow w.heap.size 47 4 v (lookF ns ps os p f).length (cells4 (lookF ns ps os p f)) ∧ Below w.heap.size w w' := by
  have B0 : Hid (Below w.heap.size w (w.alloc (.cells (snapC A B C ca cb cc ns ps os) 26))) := Lib.hid (below1 w _)
  have S0 : Hid (Blk (w.alloc (.cells (snapC A B C ca cb cc ns ps os) 26)) w.heap.size (snapC A B C ca cb cc ns ps os) 26) := Lib.hid (Blk.new w _ _)
  have KC := Lib.hid (pcheck_any A B C P ca cb cc cp ns ps os p _ (h.below B0.out) (hp.below B0.out))
  obtain ⟨i0, hi0, hz0, hz1, hz2⟩ := info_parts cl_info
  by_cases hE : placeE ns ps os p = 0
  case neg =>
    have HE : Hid (lookF ns ps os p f = []) := Lib.hid (by unfold lookF all8; rw [if_neg hE]; rfl)
    generalize placeE ns ps os p = er at KC hE ⊢
    have hne : (er != 0) = true := by simpa using hE
    have hnd : decide (er = 0) = false := decide_eq_false hE
    have hnb : (er == 0) = false := by simpa using hE
    clear h hp hcl
    go_enter Tryz.func74, Tryz.ntmps74
    go_wp2_with fail
    refine (KC.out).mono ?_
    rintro e w1 ⟨rfl, hb⟩
    have B1 := Lib.hid (B0.out.trans (hb.mono B0.out.size))
    clear hb KC B0 S0
    go_wp2
    go_ret2
    rw [HE.out]
    exact ⟨_, rfl, World.ownsRow_nil _ _ _ _, B1.out⟩
  have hln := h.ln
  have hlp := h.lp
  have hlo := h.lo
  have HPL := Lib.hid (placeE_len hE)
  have hpl2 : p.length ≤ 1000 := by have := HPL.out; omega
  have HLF : Hid (lookF ns ps os p f = upK ns ps os p f 8) := Lib.hid (by rw [lookF_is hE, up_is])
  have HBY := Lib.hid (fun (k : Nat) (h1 : 1 ≤ k) (h8 : k ≤ 8) (s : Sub) (hs : SubOk ns os p s) (W' : World) (hb : Below w.heap.size w W') => by_any A B C P ca cb cc cp ns ps os p k h1 h8 s hs hE (spread_few hln hlp) W' (h.below hb) (hp.below hb))
  have HSU := Lib.hid (fun (W' : World) (hb : Below w.heap.size w W') => subjects_any A B C P ca cb cc cp ns ps os p hln hpl2 hlo W' (hp.below hb))
  have HSL := subsU_len ns os p
  have HSO := Lib.hid (subs_ok ns os p)
  have HUP0 : Hid (upK ns ps os p f 0 = []) := Lib.hid rfl
  have HUP : Hid (∀ k, upK ns ps os p f (k + 1) = upK ns ps os p f k ++ someK ns ps os p f (k + 1) (subsU ns os p).length) := Lib.hid (fun k => rfl)
  have HUPL : Hid (∀ k, (upK ns ps os p f k).length ≤ k * (subsU ns os p).length) := Lib.hid (upK_len ns ps os p f)
  have HSM0 : Hid (∀ k, someK ns ps os p f k 0 = []) := Lib.hid (fun k => rfl)
  have HSM : Hid (∀ (k t : Nat) (s : Sub), (subsU ns os p)[t]? = some s → someK ns ps os p f k (t + 1) = someK ns ps os p f k t ++ oneK ns ps os p f k s) := Lib.hid (fun k t s hs => by rw [someK, hs])
  have HSML : Hid (∀ k t, (someK ns ps os p f k t).length ≤ t) := Lib.hid (someK_len ns ps os p f)
  have HON : Hid (∀ (k : Nat) (s : Sub), oneK ns ps os p f k s = if f ((k : Int), (s.a : Int), (s.b : Int), 0) then (match byU ns ps os p k s with | some b => [((k : Int), (s.a : Int), (s.b : Int), b)] | none => []) else []) := Lib.hid (fun k s => rfl)
  have HCL := Lib.hid hcl
  rw [hE] at KC ⊢
  generalize lookF ns ps os p f = LF at HLF ⊢
  generalize upK ns ps os p f = UP at HLF HUP0 HUP HUPL
  generalize someK ns ps os p f = SM at HUP HSM0 HSM HSML
  generalize oneK ns ps os p f = ON at HSM HON
  generalize subsU ns os p = SU at HSU HSL HSO HUP HUPL HSM
  have hsl : SU.length ≤ 7000 := by omega
  clear h hp hE hcl HSL
  go_enter Tryz.func74, Tryz.ntmps74
  obtain ⟨W, hW⟩ : ∃ W, (w.alloc (.cells (snapC A B C ca cb cc ns ps os) 26)) = W := ⟨_, rfl⟩
  rw [hW] at B0 S0 KC
  have z0 : W.cell? ⟨w.heap.size, 0, none⟩ = some (.slice A ns.length ca) := Blk.cell S0.out 0
  have z1 : W.cell? ⟨w.heap.size, 1, none⟩ = some (.slice B ps.length cb) := Blk.cell S0.out 1
  have z2 : W.cell? ⟨w.heap.size, 2, none⟩ = some (.slice C os.length cc) := Blk.cell S0.out 2
  go_wp2_with fail
  try rw [show (w.alloc (.cells #[.slice A ns.length ca, .slice B ps.length cb, .slice C os.length cc] 26)) = W from hW]
  clear hW
  refine (KC.out).mono ?_
  rintro e w1 ⟨rfl, hb1⟩
  have S1 := Lib.hid (S0.out.below hb1 S0.out.lt)
  have B1 := Lib.hid (B0.out.trans (hb1.mono B0.out.size))
  clear hb1 B0 S0 KC z0 z1 z2
  have z0 : w1.cell? ⟨w.heap.size, 0, none⟩ = some (.slice A ns.length ca) := Blk.cell S1.out 0
  have z1 : w1.cell? ⟨w.heap.size, 1, none⟩ = some (.slice B ps.length cb) := Blk.cell S1.out 1
  have z2 : w1.cell? ⟨w.heap.size, 2, none⟩ = some (.slice C os.length cc) := Blk.cell S1.out 2
  go_upto_region 6 with fail
  have V1 : Hid (Blk (w1.alloc (.cells (viewC A B C P ca cb cc cp ns ps os p) 170)) w1.heap.size (viewC A B C P ca cb cc cp ns ps os p) 170) := Lib.hid (Blk.new w1 _ _)
  have B2 : Hid (Below w.heap.size w (w1.alloc (.cells (viewC A B C P ca cb cc cp ns ps os p) 170))) := Lib.hid (B1.out.alloc B1.out.size _)
  clear z0 z1 z2 S1
  try change Code.wp _ _ _ _ (w1.alloc (.cells (viewC A B C P ca cb cc cp ns ps os p) 170))
  generalize (w1.alloc (.cells (viewC A B C P ca cb cc cp ns ps os p) 170)) = V at V1 B2 ⊢
  generalize w1.heap.size = Vb at V1 ⊢
  clear B1
  have v0 : V.cell? ⟨Vb, 0, none⟩ = some (.slice A ns.length ca) := Blk.cell V1.out 0
  have v1 : V.cell? ⟨Vb, 1, none⟩ = some (.slice B ps.length cb) := Blk.cell V1.out 1
  have v2 : V.cell? ⟨Vb, 2, none⟩ = some (.slice C os.length cc) := Blk.cell V1.out 2
  have v3 : V.cell? ⟨Vb, 3, none⟩ = some (.slice P p.length cp) := Blk.cell V1.out 3
  go_wp2_with fail
  refine (HSU.out _ B2.out).mono ?_
  rintro e w3 ⟨vs, rfl, hos, hb3⟩
  obtain ⟨G, cg, rfl, _⟩ := La.own_slice hos
  have O3 := Lib.hid (La.own_slat hos)
  have V3 := Lib.hid (V1.out.below hb3 V1.out.lt)
  have B3 := Lib.hid (B2.out.trans (hb3.mono B2.out.size))
  clear hos hb3 v0 v1 v2 v3 V1 B2 HSU
  go_wp2_with fail
  refine (rules_any w3).mono ?_
  rintro e W ⟨rfl, hM, hbW⟩
  have HM := Lib.hid hM
  have BW := Lib.hid (B3.out.trans (hbW.mono B3.out.size))
  have VW := Lib.hid (V3.out.below hbW V3.out.lt)
  have OW := Lib.hid (La.SlAt.below O3.out hbW)
  generalize w3.heap.size = M at HM ⊢
  clear hM hbW V3 B3 O3
  have HV := Lib.hid (fun W' (hb : Below W.heap.size W W') => (show W'.cell? ⟨Vb, 0, none⟩ = some (.slice A ns.length ca) ∧ W'.cell? ⟨Vb, 1, none⟩ = some (.slice B ps.length cb) ∧ W'.cell? ⟨Vb, 2, none⟩ = some (.slice C os.length cc) ∧ W'.cell? ⟨Vb, 3, none⟩ = some (.slice P p.length cp) from ⟨Blk.cell (VW.out.below hb VW.out.lt) 0, Blk.cell (VW.out.below hb VW.out.lt) 1, Blk.cell (VW.out.below hb VW.out.lt) 2, Blk.cell (VW.out.below hb VW.out.lt) 3⟩))
  have HT := Lib.hid (fun W' (hb : Below W.heap.size W W') => BW.out.trans (hb.mono BW.out.size))
  have HMl : Hid (M < W.heap.size) := Lib.hid (Array.getElem?_eq_some_iff.1 HM.out).1
  have HRu := Lib.hid (fun W' (hb : Below W.heap.size W W') (k : Nat) (h1 : 1 ≤ k) (h8 : k ≤ 8) => rule_at W' M ((hb.block M HMl.out).trans HM.out) k h1 h8)
  have HSt := Lib.hid (fun W' (hb : Below W.heap.size W W') => La.SlAt.below OW.out hb)
  have HB0 := Lib.hid BW.out.size
  clear VW BW HM OW
  go_wp2_with fail
  go_loopw [10, 13] (fun v kd wr => ∃ k : Nat, 1 ≤ k ∧ k ≤ 9 ∧ kd = .int .i64 (k : Int) ∧ wr.ownsRow W.heap.size 47 4 v (UP (k - 1)).length (cells4 (UP (k - 1))) ∧ Below W.heap.size W wr) (fun _ kd _ => 9 - (intOf kd).toNat)
  case atStart => exact ⟨1, by omega, by omega, rfl, by rw [show UP (1 - 1) = [] from HUP0.out]; exact World.ownsRow_nil _ _ _ _, Below.refl _ _⟩
  case round =>
    obtain ⟨k, hk1, hk9, rfl, ho, hb⟩ := hrel
    have HO := Lib.hid ho
    have HB := Lib.hid hb
    clear ho hb
    by_cases hlt : k < 9
    case neg =>
      have ek : k = 9 := by omega
      have HLF2 : Hid (LF = UP (k - 1)) := Lib.hid (by rw [HLF.out, ek])
      have e9 : ¬ ((k : Int) ≤ 8) := by omega
      clear ek
      go_wp2
      go_ret2
      rw [HLF2.out]
      exact ⟨_, rfl, own_base HO.out HB0.out, HT.out _ HB.out⟩
    have hk8 : k ≤ 8 := by omega
    have e8 : (k : Int) ≤ 8 := by omega
    have HU : Hid (UP (k + 1 - 1) = UP (k - 1) ++ SM k SU.length) := Lib.hid (by
      obtain ⟨j, rfl⟩ : ∃ j, k = j + 1 := ⟨k - 1, by omega⟩
      exact HUP.out j)
    have hul : (UP (k - 1)).length ≤ 8 * 7000 := Nat.le_trans (HUPL.out (k - 1)) (Nat.mul_le_mul (by omega) hsl)
    have hM0 : Hid (SM k 0 = []) := Lib.hid (HSM0.out k)
    have hMs : Hid (∀ (t : Nat) (s : Sub), SU[t]? = some s → SM k (t + 1) = SM k t ++ ON k s) := Lib.hid (fun t s h => HSM.out k t s h)
    have hMl : Hid (∀ t, (SM k t).length ≤ t) := Lib.hid (HSML.out k)
    generalize SM k = SK at HU hM0 hMs hMl
    generalize UP (k - 1) = U at HO HU hul
    clear hlt hk9
    go_wp2_with fail
    go_loopw [10, 37] (fun v j wr => ∃ t : Nat, t ≤ SU.length ∧ j = .int .i64 (t : Int) ∧ wr.ownsRow W.heap.size 47 4 v (U ++ SK t).length (cells4 (U ++ SK t)) ∧ Below W.heap.size W wr) (fun _ j _ => SU.length - (intOf j).toNat)
    case atStart => exact ⟨0, by omega, rfl, by rw [hM0.out, List.append_nil]; exact HO.out, HB.out⟩
    case round =>
      clear HO HB
      obtain ⟨t, ht, rfl, ho, hb⟩ := hrel
      have HO := Lib.hid ho
      have HB := Lib.hid hb
      clear ho hb
      by_cases hlt : t < SU.length
      case neg =>
        obtain rfl : t = SU.length := by omega
        go_wp2_with fail
        go_roundw
        case rel => exact ⟨k + 1, by omega, by omega, by go_num, by rw [HU.out]; exact HO.out, HB.out⟩
        case measure => simp [intOf]; omega
      obtain ⟨s, hs⟩ : ∃ s, SU[t]? = some s := ⟨SU[t], List.getElem?_eq_getElem hlt⟩
      have hso := HSO.out s (List.mem_of_getElem? hs)
      have Hst : Hid (U ++ SK (t + 1) = (U ++ SK t) ++ ON k s) := Lib.hid (by rw [hMs.out t s hs, List.append_assoc])
      have hnl : (U ++ SK t).length ≤ 63000 := by rw [List.length_append]; have := hMl.out t; omega
      obtain ⟨gs, os', hG, hsc⟩ := (HSt.out _ HB.out) t (subV s) (by rw [List.getElem?_map, hs]; rfl)
      subst hG
      have KB : Hid (∀ (W' : World), Below W.heap.size W W' → Calls Tryz.prog 143 #[ruleV k, viewV A B C P ca cb cc cp ns ps os p, subV s] W' fun e w' => e = .returned (.tuple #[.int .i64 ((byU ns ps os p k s).getD 0), .bool (byU ns ps os p k s).isSome]) ∧ Below W'.heap.size W' w') := Lib.hid (fun (W' : World) (hb : Below W.heap.size W W') => HBY.out k hk1 hk8 s hso W' (HT.out W' hb))
      have Hon := Lib.hid (HON.out k s)
      have KF := Lib.hid (fun (W' : World) (hb : Below W.heap.size W W') => HCL.out ((k : Int), (s.a : Int), (s.b : Int), 0) W' (HT.out W' hb))
      have k0 : (0 : Int) ≤ (t : Int) := by omega
      have k1 : (t : Int) < (SU.length : Int) := by omega
      generalize U ++ SK t = T at HO Hst hnl
      generalize ON k s = O1 at Hst Hon
      go_upto_region 14 with fail
      go_cut [43] (fun v wc => v = v ∧ NumSt wr k s wc)
      case first =>
        have T0 : Hid (Blk (wr.alloc (.cells #[.int .i64 (k : Int), .int .i64 0, .int .i64 0, .int .i64 0] 47)) wr.heap.size #[.int .i64 (k : Int), .int .i64 0, .int .i64 0, .int .i64 0] 47) := Lib.hid (Blk.new wr _ _)
        have B5 : Hid (Below wr.heap.size wr (wr.alloc (.cells #[.int .i64 (k : Int), .int .i64 0, .int .i64 0, .int .i64 0] 47))) := Lib.hid (below1 wr _)
        generalize (wr.alloc (.cells #[.int .i64 (k : Int), .int .i64 0, .int .i64 0, .int .i64 0] 47)) = V5 at T0 B5 ⊢
        cases s with
        | node n qq =>
          simp only [subV]
          go_wp2_with fail
          refine (numbers_ofNode n qq _).mono ?_
          rintro e w5 ⟨rfl, hb5⟩
          have T5 := Lib.hid (T0.out.below hb5 T0.out.lt)
          have D5 := Lib.hid (B5.out.trans (hb5.mono B5.out.size))
          clear hb5 T0 B5
          have c1 : w5.cell? ⟨wr.heap.size, 1, none⟩ = some (.int .i64 0) := Blk.cell T5.out 1
          have c2 : w5.cell? ⟨wr.heap.size, 2, none⟩ = some (.int .i64 0) := Blk.cell T5.out 2
          have f1 := Blk.free T5.out 1
          have f2 := Blk.free T5.out 2
          go_wp2_with fail
          go_meet
          exact ⟨trivial, ((T5.out.set 1 _).set 2 _), (D5.out.setCell (p := ⟨wr.heap.size, 1, none⟩) (Nat.le_refl _) _).setCell (p := ⟨wr.heap.size, 2, none⟩) (Nat.le_refl _) _⟩
        | pod ii =>
          simp only [subV]
          go_wp2_with fail
          refine (numbers_ofPod ii _).mono ?_
          rintro e w5 ⟨rfl, hb5⟩
          have T5 := Lib.hid (T0.out.below hb5 T0.out.lt)
          have D5 := Lib.hid (B5.out.trans (hb5.mono B5.out.size))
          clear hb5 T0 B5
          have c1 : w5.cell? ⟨wr.heap.size, 1, none⟩ = some (.int .i64 0) := Blk.cell T5.out 1
          have c2 : w5.cell? ⟨wr.heap.size, 2, none⟩ = some (.int .i64 0) := Blk.cell T5.out 2
          have f1 := Blk.free T5.out 1
          have f2 := Blk.free T5.out 2
          go_wp2_with fail
          go_meet
          exact ⟨trivial, ((T5.out.set 1 _).set 2 _), (D5.out.setCell (p := ⟨wr.heap.size, 1, none⟩) (Nat.le_refl _) _).setCell (p := ⟨wr.heap.size, 2, none⟩) (Nat.le_refl _) _⟩
        | owner oo =>
          simp only [subV]
          go_wp2_with fail
          refine (numbers_ofOwner oo _).mono ?_
          rintro e w5 ⟨rfl, hb5⟩
          have T5 := Lib.hid (T0.out.below hb5 T0.out.lt)
          have D5 := Lib.hid (B5.out.trans (hb5.mono B5.out.size))
          clear hb5 T0 B5
          have c1 : w5.cell? ⟨wr.heap.size, 1, none⟩ = some (.int .i64 0) := Blk.cell T5.out 1
          have c2 : w5.cell? ⟨wr.heap.size, 2, none⟩ = some (.int .i64 0) := Blk.cell T5.out 2
          have f1 := Blk.free T5.out 1
          have f2 := Blk.free T5.out 2
          go_wp2_with fail
          go_meet
          exact ⟨trivial, ((T5.out.set 1 _).set 2 _), (D5.out.setCell (p := ⟨wr.heap.size, 1, none⟩) (Nat.le_refl _) _).setCell (p := ⟨wr.heap.size, 2, none⟩) (Nat.le_refl _) _⟩
      case rest =>
        obtain ⟨_, hT, hbc⟩ := hcut
        have TB := Lib.hid hT
        have HBr := Lib.hid hbc
        have HBc := Lib.hid (HB.out.trans (hbc.mono HB.out.size))
        generalize f ((k : Int), (s.a : Int), (s.b : Int), 0) = asked at KF Hon
        generalize byU ns ps os p k s = bv at KB Hon
        generalize subV s = sv at KB hsc ⊢
        generalize (s.a : Int) = sa at KF Hon TB
        generalize (s.b : Int) = sb at KF Hon TB
        have c0 : wc.cell? ⟨wr.heap.size, 0, none⟩ = some (.int .i64 (k : Int)) := Blk.cell TB.out 0
        have c1 : wc.cell? ⟨wr.heap.size, 1, none⟩ = some (.int .i64 sa) := Blk.cell TB.out 1
        have c2 : wc.cell? ⟨wr.heap.size, 2, none⟩ = some (.int .i64 sb) := Blk.cell TB.out 2
        have c3 : wc.cell? ⟨wr.heap.size, 3, none⟩ = some (.int .i64 0) := Blk.cell TB.out 3
        clear hT hbc hs hsc
        go_wp2_with fail
        refine (KF.out _ HBc.out).mono ?_
        rintro e w6 ⟨rfl, hb6⟩
        have T6 := Lib.hid (TB.out.below hb6 TB.out.lt)
        have R6 := Lib.hid (HBr.out.trans (hb6.mono HBr.out.size))
        have HB6 := Lib.hid (HBc.out.trans (hb6.mono HBc.out.size))
        clear hb6 KF TB HBr HBc c0 c1 c2 c3
        cases asked with
        | false =>
          have HE : Hid (U ++ SK (t + 1) = T) := Lib.hid (by rw [Hst.out, Hon.out]; simp)
          have HO6 := Lib.hid (La.own_below HO.out R6.out)
          clear Hst Hon KB
          go_wp2_with fail
          go_roundw
          case rel => exact ⟨t + 1, by omega, by go_num, by rw [HE.out]; exact HO6.out, HB6.out⟩
          case measure => simp [intOf]; omega
        | true =>
          have hru := HRu.out _ HB6.out k hk1 hk8
          obtain ⟨v0, v1, v2, v3⟩ := HV.out _ HB6.out
          go_wp2_with fail
          refine (KB.out _ HB6.out).mono ?_
          rintro e w7 ⟨rfl, hb7⟩
          have T7 := Lib.hid (T6.out.below hb7 T6.out.lt)
          have R7 := Lib.hid (R6.out.trans (hb7.mono R6.out.size))
          have HB7 := Lib.hid (HB6.out.trans (hb7.mono HB6.out.size))
          clear hb7 KB T6 R6 HB6 v0 v1 v2 v3 hru
          cases bv with
          | none =>
            have HE : Hid (U ++ SK (t + 1) = T) := Lib.hid (by rw [Hst.out, Hon.out]; simp)
            have HO7 := Lib.hid (La.own_below HO.out R7.out)
            clear Hst Hon
            go_wp2_with fail
            go_roundw
            case rel => exact ⟨t + 1, by omega, by go_num, by rw [HE.out]; exact HO7.out, HB7.out⟩
            case measure => simp [intOf]; omega
          | some by_ =>
            have HE : Hid (U ++ SK (t + 1) = T ++ [((k : Int), sa, sb, by_)]) := Lib.hid (by rw [Hst.out, Hon.out]; simp)
            clear Hst Hon
            have c3 : w7.cell? ⟨wr.heap.size, 3, none⟩ = some (.int .i64 0) := Blk.cell T7.out 3
            have f3 := Blk.free T7.out 3
            go_upto_region 19 with fail
            have T8 : Hid (Blk (w7.setCell ⟨wr.heap.size, 3, none⟩ (.int .i64 by_)) wr.heap.size #[.int .i64 (k : Int), .int .i64 sa, .int .i64 sb, .int .i64 by_] 47) := Lib.hid (T7.out.set 3 _)
            have R8 : Hid (Below wr.heap.size wr (w7.setCell ⟨wr.heap.size, 3, none⟩ (.int .i64 by_))) := Lib.hid (R7.out.setCell (p := ⟨wr.heap.size, 3, none⟩) (Nat.le_refl _) _)
            generalize (w7.setCell ⟨wr.heap.size, 3, none⟩ (.int .i64 by_)) = W8 at T8 R8 ⊢
            have HO8 := Lib.hid (La.own_below HO.out R8.out)
            have HB8 := Lib.hid (HB.out.trans (R8.out.mono HB.out.size))
            have c0 : W8.cell? ⟨wr.heap.size, 0, none⟩ = some (.int .i64 (k : Int)) := Blk.cell T8.out 0
            have c1 : W8.cell? ⟨wr.heap.size, 1, none⟩ = some (.int .i64 sa) := Blk.cell T8.out 1
            have c2 : W8.cell? ⟨wr.heap.size, 2, none⟩ = some (.int .i64 sb) := Blk.cell T8.out 2
            have c3 : W8.cell? ⟨wr.heap.size, 3, none⟩ = some (.int .i64 by_) := Blk.cell T8.out 3
            clear T7 R7 HB7 T8 R8 HO HB f3
            go_wp2_with (at_builtin; refine wpList_append_own _ rfl _ _ 48 rfl W.heap.size 47 i0 (.agg #[.int .i64 0, .int .i64 0, .int .i64 0, .int .i64 0]) 4 32 Tryz.underlying48 hi0 hz0 hz1 hz2 rfl (by decide) _ _ _ rfl (show World.ownsRow _ _ _ _ _ _ _ from HO8.out.alloc _) ⟨W8.heap.size, 0, none⟩ 1 1 [.int .i64 (k : Int), .int .i64 sa, .int .i64 sb, .int .i64 by_] rfl rfl ?c1z ?c2z ?c3z ?c4z ?c5z ?_)
            case c1z =>
              intro j u hj
              match j, hj with
              | 0, hj => simp at hj; subst hj; simp [Addr.add]
              | 1, hj => simp at hj; subst hj; simp [Addr.add]
              | 2, hj => simp at hj; subst hj; simp [Addr.add]
              | 3, hj => simp at hj; subst hj; simp [Addr.add]
            case c2z => first | rfl | (intro u hu; simp at hu; rcases hu with rfl | rfl | rfl | rfl <;> rfl)
            case c3z => unfold maxLen; omega
            case c4z => omega
            case c5z => have := HB8.out.size; simp; omega
            intro v4 w4 hown4 hgrow4 _
            have P4 := Lib.hid hown4
            have D4 := Lib.hid ((HB8.out.alloc HB8.out.size (.cells #[.int .i64 (k : Int), .int .i64 sa, .int .i64 sb, .int .i64 by_] 47)).grown hgrow4 (by have := HB8.out.size; simp; omega) (fun j hj => own_gem HO8.out hj))
            clear hown4 hgrow4
            go_wp2_with fail
            go_roundw
            case rel =>
              refine ⟨t + 1, by omega, by go_num, ?_, D4.out⟩
              rw [HE.out, List.length_append, cells4_snoc]
              exact P4.out
            case measure => simp [intOf]; omega

set_option maxHeartbeats 1000000 in
theorem all1_any (c : ClT) (w : World) : Calls Tryz.prog 75 #[clV c] w fun e w' => e = .returned (.bool true) ∧ Below w.heap.size w w' := by
  have B0 : Hid (Below w.heap.size w (w.alloc (.cells #[.int .i64 c.1, .int .i64 c.2.1, .int .i64 c.2.2.1, .int .i64 c.2.2.2] 47))) := Lib.hid (below1 w _)
  go_enter Tryz.func75, Tryz.ntmps75
  go_wp2
  go_ret
  exact ⟨rfl, B0.out⟩
set_option maxRecDepth 100000 in
set_option maxHeartbeats 2000000 in
theorem allP_any (A B C P : Option Addr) (ca cb cc cp : Nat) (ns : List NodeD) (ps : List PodD) (os : List OwnD) (p : List Int) (w : World) (h : SnapAt w A B C ca cb cc ns ps os) (hp : IntsAt w P cp p) :
    Calls Tryz.prog 16 #[snapV A B C ca cb cc ns ps os, .slice P p.length cp] w fun e w' => ∃ v, e = .returned (.tuple #[v, .int .i64 (placeE ns ps os p)]) ∧ w'.ownsRow w.heap.size 47 4 v (all8 ns ps os p).length (cells4 (all8 ns ps os p)) ∧ Below w.heap.size w w' := by
  have B0 : Hid (Below w.heap.size w (w.alloc (.cells (snapC A B C ca cb cc ns ps os) 26))) := Lib.hid (below1 w _)
  have K := Lib.hid (look0_any A B C P ca cb cc cp ns ps os p 75 (fun _ => true) (fun _ _ => by kernel_rfl) _ (h.below B0.out) (hp.below B0.out) (fun c W' _ => all1_any c W'))
  have e : lookF ns ps os p (fun _ => true) = all8 ns ps os p := by
    unfold lookF
    exact List.filter_eq_self.2 (fun _ _ => rfl)
  rw [e] at K
  generalize all8 ns ps os p = L at K ⊢
  clear h hp e
  go_enter Tryz.func16, Tryz.ntmps16
  go_wp2_with fail
  refine (K.out).mono ?_
  rintro e w1 ⟨v, rfl, ho, hb⟩
  have O1 := Lib.hid (own_base ho B0.out.size)
  have B1 := Lib.hid (B0.out.trans (hb.mono B0.out.size))
  clear ho hb K
  go_wp2
  go_ret2
  exact ⟨v, rfl, O1.out, B1.out⟩

end Go.Proofs.YtiiheajieegdkaaGreat

namespace Go.Proofs.YtiiheajieegdkaaGreat
open Go.RowKit Go.Maps Go.Shelf

theorem zero_intS (w : World) : (zeroValue 3).run Tryz.prog w = .ok (.int .i64 0) w := by kernel_rfl
/-- A store into the map. -/
theorem map_run {w : World} {b n : Nat} {D : DataW Unit} (hown : w.ownsMap Tryz.prog 185 intE b n D) (hn : n < maxLen) {key : Value} {kl : Lit} (hkey : keyOf Tryz.prog 185 key = some kl) (y : Int) :
    ∃ w', (Instr.mapUpdate 125 (.map (some b)) key (.int .i64 y)).run Tryz.prog w = .ok () w' ∧ w'.ownsMap Tryz.prog 185 intE b (n + 1) (D.put kl (.lit (.int .i64 y))) ∧ w.grownBy w' (some b) :=
  hown.update which_law Tryz.underlying125 hn hkey (val := .int .i64 y) (d := .lit (.int .i64 y)) (ps := []) rfl
/-- A look-up. -/
theorem look_run {w : World} {b n : Nat} {D : DataW Unit} (hown : w.ownsMap Tryz.prog 185 intE b n D) {key : Value} {kl : Lit} (hkey : keyOf Tryz.prog 185 key = some kl) {y : Int} (hat : D.atKey kl (.lit (.int .i64 0)) = .lit (.int .i64 y)) :
    (Instr.lookup 125 (.map (some b)) key false).run Tryz.prog w = .ok (.int .i64 y) w := by
  obtain ⟨v, ps, hrun, hv⟩ := hown.lookup which_law Tryz.underlying125 (zero_intS w) (zd := .lit (.int .i64 0)) (zp := []) rfl hkey
  obtain ⟨c, rfl, hc⟩ := intE_inv hv
  rw [hat] at hc
  simp only [Prod.mk.injEq, DataW.lit.injEq, Lit.int.injEq, true_and] at hc
  obtain ⟨rfl, _⟩ := hc
  exact hrun
theorem blk_grown {w w' : World} {b g : Nat} {cs : Array Value} {t : TypeId} (h : Blk w g cs t) (hg : w.grownBy w' (some b)) (hne : g ≠ b) : Blk w' g cs t := (hg.block g h.lt (fun e => hne (Option.some.inj e))).trans h
theorem own_mapB {w w' : World} {b n : Nat} {D : DataW Unit} (h : w.ownsMap Tryz.prog 185 intE b n D) (hb : Below w.heap.size w w') : w'.ownsMap Tryz.prog 185 intE b n D := h.kept (grown_of_below hb none) (by simp)

set_option maxRecDepth 100000 in
set_option maxHeartbeats 1000000 in
theorem whichOf_any (c : ClT) (w : World) : Calls Tryz.prog 144 #[clV c] w fun e w' => e = .returned (keyW c.1 c.2.1 c.2.2.1) ∧ Below w.heap.size w w' := by
  have B0 : Hid (Below w.heap.size w ((w.alloc (.cells #[.int .i64 c.1, .int .i64 c.2.1, .int .i64 c.2.2.1, .int .i64 c.2.2.2] 47)).alloc (.cells #[.int .i64 c.1, .int .i64 c.2.1, .int .i64 c.2.2.1] 185))) := Lib.hid (Qu.below2 w _ _)
  have Q0 : Hid (Blk ((w.alloc (.cells #[.int .i64 c.1, .int .i64 c.2.1, .int .i64 c.2.2.1, .int .i64 c.2.2.2] 47)).alloc (.cells #[.int .i64 c.1, .int .i64 c.2.1, .int .i64 c.2.2.1] 185)) (w.heap.size + 1) #[.int .i64 c.1, .int .i64 c.2.1, .int .i64 c.2.2.1] 185) := Lib.hid (blk2 w _ _ _)
  go_enter Tryz.func144, Tryz.ntmps144
  go_wp2_with fail
  refine bodyPost_row1 Tryz.results144 (w.heap.size + 1) _ _ _ _ (by rfl) (by rfl) Q0.out Tryz.underlying185 rfl (by kernel_rfl) ?_
  exact ⟨rfl, B0.out⟩

/-- The map that brokenBy hands on. -/
def MapAt (B0 : Nat) (w : World) (E : Int) (l : List ClT) (m : Option Nat) : Prop := (E ≠ 0 → m = none) ∧ (E = 0 → ∃ b, m = some b ∧ B0 ≤ b ∧ w.ownsMap Tryz.prog 185 intE b l.length (mapW (l.filter brokC)))

set_option maxRecDepth 100000 in
set_option maxHeartbeats 8000000 in
theorem brokenBy_any (A B C P : Option Addr) (ca cb cc cp : Nat) (ns : List NodeD) (ps : List PodD) (os : List OwnD) (p : List Int) (hk : ∀ c ∈ all8 ns ps os p, OkC c) (hl : (all8 ns ps os p).length ≤ 12000) (w : World) (h : SnapAt w A B C ca cb cc ns ps os) (hp : IntsAt w P cp p) :
    Calls Tryz.prog 80 #[snapV A B C ca cb cc ns ps os, .slice P p.length cp] w fun e w' => ∃ m, e = .returned (.tuple #[.map m, .int .i64 (placeE ns ps os p)]) ∧ MapAt w.heap.size w' (placeE ns ps os p) (all8 ns ps os p) m ∧ Below w.heap.size w w' := by
  have B0 : Hid (Below w.heap.size w (w.alloc (.cells (snapC A B C ca cb cc ns ps os) 26))) := Lib.hid (below1 w _)
  have HA := Lib.hid (allP_any A B C P ca cb cc cp ns ps os p _ (h.below B0.out) (hp.below B0.out))
  have hmm := @run_makeMap Tryz.prog
  generalize all8 ns ps os p = l at HA hl hk ⊢
  generalize placeE ns ps os p = E at HA ⊢
  clear h hp
  go_enter Tryz.func80, Tryz.ntmps80
  go_wp2_with fail
  refine (HA.out).mono ?_
  rintro e w1 ⟨v, rfl, ho, hb⟩
  obtain ⟨G, cg, rfl, _⟩ := La.own_slice ho
  have O1 := Lib.hid (La.own_slat ho)
  have B1 := Lib.hid (B0.out.trans (hb.mono B0.out.size))
  clear ho hb HA B0
  by_cases hE : E = 0
  case neg =>
    have hne : (E != 0) = true := by simpa using hE
    have HE := Lib.hid hE
    clear hE
    go_wp2
    go_ret2
    exact ⟨none, rfl, ⟨fun _ => rfl, fun h => absurd h HE.out⟩, B1.out⟩
  subst hE
  go_wp2_with fail
  go_loopw [23] (fun i wr => ∃ k : Nat, k ≤ l.length ∧ i = .int .i64 k ∧ wr.ownsMap Tryz.prog 185 intE w1.heap.size k (mapW ((l.take k).filter brokC)) ∧ Below w1.heap.size w1 wr) (fun i _ => l.length - (intOf i).toNat)
  case atStart => exact ⟨0, by omega, rfl, World.ownsMap_made _ _ _ _, (Below.refl _ _).alloc (Nat.le_refl _) _⟩
  case round =>
    obtain ⟨k, hk9, rfl, ho, hb⟩ := hrel
    have HO := Lib.hid ho
    have HB := Lib.hid hb
    clear ho hb
    by_cases hlt : k < l.length
    case neg =>
      obtain rfl : k = l.length := by omega
      rw [List.take_length] at HO
      go_wp2
      go_ret2
      exact ⟨some w1.heap.size, rfl, ⟨fun h => absurd rfl h, fun _ => ⟨_, rfl, B1.out.size, HO.out⟩⟩, B1.out.trans (HB.out.mono B1.out.size)⟩
    obtain ⟨y, hy⟩ : ∃ y, l[k]? = some y := ⟨l[k], List.getElem?_eq_getElem hlt⟩
    have Hok := Lib.hid (hk y (List.mem_of_getElem? hy))
    obtain ⟨g, o, hG, hbl, c0, c1, c2, c3⟩ := atC (La.SlAt.below O1.out HB.out) hy
    subst hG
    have k0 : (0 : Int) ≤ (k : Int) := by omega
    have k1 : (k : Int) < (l.length : Int) := by omega
    have HF := Lib.hid (filt_snoc brokC hy)
    have Hy : Hid (brokC y = decide (0 < y.2.2.2)) := Lib.hid rfl
    clear hy
    generalize (l.take k).filter brokC = M at HO HF
    go_upto_region 8 with fail
    have T8 : Hid (Blk (wr.alloc (.cells #[.int .i64 y.1, .int .i64 y.2.1, .int .i64 y.2.2.1, .int .i64 y.2.2.2] 47)) wr.heap.size #[.int .i64 y.1, .int .i64 y.2.1, .int .i64 y.2.2.1, .int .i64 y.2.2.2] 47) := Lib.hid (Blk.new wr _ _)
    have R8 : Hid (Below wr.heap.size wr (wr.alloc (.cells #[.int .i64 y.1, .int .i64 y.2.1, .int .i64 y.2.2.1, .int .i64 y.2.2.2] 47))) := Lib.hid (below1 wr _)
    try change Code.wp _ _ _ _ (wr.alloc (.cells #[.int .i64 y.1, .int .i64 y.2.1, .int .i64 y.2.2.1, .int .i64 y.2.2.2] 47))
    generalize (wr.alloc (.cells #[.int .i64 y.1, .int .i64 y.2.1, .int .i64 y.2.2.1, .int .i64 y.2.2.2] 47)) = W8 at T8 R8 ⊢
    have HO8 := Lib.hid (own_mapB HO.out R8.out)
    have HB8 := Lib.hid (HB.out.trans (R8.out.mono HB.out.size))
    clear c0 c1 c2 c3
    have HC := Lib.hid (fun W' (hb : Below W8.heap.size W8 W') => (show W'.cell? ⟨wr.heap.size, 0, none⟩ = some (.int .i64 y.1) ∧ W'.cell? ⟨wr.heap.size, 1, none⟩ = some (.int .i64 y.2.1) ∧ W'.cell? ⟨wr.heap.size, 2, none⟩ = some (.int .i64 y.2.2.1) ∧ W'.cell? ⟨wr.heap.size, 3, none⟩ = some (.int .i64 y.2.2.2) from ⟨Blk.cell (T8.out.below hb T8.out.lt) 0, Blk.cell (T8.out.below hb T8.out.lt) 1, Blk.cell (T8.out.below hb T8.out.lt) 2, Blk.cell (T8.out.below hb T8.out.lt) 3⟩))
    have HOm := Lib.hid (fun W' (hb : Below W8.heap.size W8 W') => own_mapB HO8.out hb)
    have HBm := Lib.hid (fun W' (hb : Below W8.heap.size W8 W') => HB8.out.trans (hb.mono HB8.out.size))
    have HTm := Lib.hid (fun W' (hb : Below W8.heap.size W8 W') => T8.out.below hb T8.out.lt)
    have hne : Hid (wr.heap.size ≠ w1.heap.size) := Lib.hid (Nat.ne_of_gt HO.out.lt)
    obtain ⟨c0, c1, c2, c3⟩ := HC.out _ (Below.refl _ W8)
    clear R8 HO HB T8
    by_cases h1 : 0 < y.2.2.2
    case neg =>
      have HE : Hid ((l.take (k + 1)).filter brokC = M) := Lib.hid (by rw [HF.out, Hy.out, decide_eq_false h1]; simp)
      clear HF Hy
      go_wp2_with fail
      go_roundw
      case rel => exact ⟨k + 1, by omega, by go_num, by rw [HE.out]; exact HO8.out.mono (by omega), HB8.out⟩
      case measure => simp [intOf]; omega
    have HE : Hid (mapW ((l.take (k + 1)).filter brokC) = (mapW M).put (litW y.1 y.2.1 y.2.2.1) (.lit (.int .i64 y.2.2.2))) := Lib.hid (by rw [HF.out, Hy.out, decide_eq_true h1, if_pos rfl, mapW_snoc]; rfl)
    clear HF Hy
    have KW := Lib.hid (fun W' => whichOf_any y W')
    have hkn : k < maxLen := by unfold maxLen; omega
    have HKO := Lib.hid (keyOf_w Hok.out)
    go_upto_region 9 with fail
    have HD : Hid (Below W8.heap.size W8 W8.drew) := Lib.hid ((Below.refl _ W8).drew)
    clear c0 c1 c2 c3
    obtain ⟨c0, c1, c2, c3⟩ := HC.out _ HD.out
    go_region_held3 (fun w' => w'.cell? ⟨wr.heap.size, 0, none⟩ = some (.int .i64 y.1) ∧ w'.cell? ⟨wr.heap.size, 1, none⟩ = some (.int .i64 y.2.1) ∧ w'.cell? ⟨wr.heap.size, 2, none⟩ = some (.int .i64 y.2.2.1) ∧ w'.cell? ⟨wr.heap.size, 3, none⟩ = some (.int .i64 y.2.2.2))
      (first | exact ⟨c0, c1, c2, c3⟩ | exact ⟨y0, y1, y2, y3⟩ | exact ⟨x0, x1, x2, x3⟩)
      (first
        | (go_at_call 144
           refine (KW.out _).mono ?_
           rintro e wA ⟨rfl, hbA⟩
           have HDA := Lib.hid (HD.out.trans (hbA.mono HD.out.size))
           obtain ⟨y0, y1, y2, y3⟩ := HC.out _ HDA.out
           obtain ⟨wB, hrunB, hownB, hgB⟩ := map_run (HOm.out _ HDA.out) hkn HKO.out y.2.2.2
           have TB := Lib.hid (blk_grown (HTm.out _ HDA.out) hgB hne.out)
           have x0 : wB.cell? ⟨wr.heap.size, 0, none⟩ = some (.int .i64 y.1) := Blk.cell TB.out 0
           have x1 : wB.cell? ⟨wr.heap.size, 1, none⟩ = some (.int .i64 y.2.1) := Blk.cell TB.out 1
           have x2 : wB.cell? ⟨wr.heap.size, 2, none⟩ = some (.int .i64 y.2.2.1) := Blk.cell TB.out 2
           have x3 : wB.cell? ⟨wr.heap.size, 3, none⟩ = some (.int .i64 y.2.2.2) := Blk.cell TB.out 3
           clear hbA))
    all_goals
      have D9 := Lib.hid ((HBm.out _ HDA.out).grown hgB (HBm.out _ HDA.out).size (fun j hj => by cases hj; exact Nat.le_refl _))
      have P9 := Lib.hid hownB
      clear hownB hgB
      (try go_wp2_with fail)
      go_roundw
      case rel => exact ⟨k + 1, by omega, by go_num, by rw [HE.out]; exact P9.out, D9.out⟩
      case measure => simp [intOf]; omega
end Go.Proofs.YtiiheajieegdkaaGreat

namespace Go.Proofs.YtiiheajieegdkaaGreat
open Go.RowKit Go.Maps Go.Shelf

set_option maxRecDepth 100000 in
set_option maxHeartbeats 4000000 in
theorem worse1_any (c : ClT) (hk : OkC c) (g mb n : Nat) (L : List ClT) (hL : ∀ d ∈ L, OkC d) (hr : L.Pairwise Rise3) (hg0 : ∀ d ∈ L, 0 ≤ d.2.2.2) (w : World) (hg : Blk w g #[.map (some mb)] 125) (hm : w.ownsMap Tryz.prog 185 intE mb n (mapW (L.filter brokC))) :
    Calls Tryz.prog 245 #[clV c, .pointer (some ⟨g, 0, none⟩)] w fun e w' => e = .returned (.bool (worC L c)) ∧ Below w.heap.size w w' := by
  have B0 : Hid (Below w.heap.size w (w.alloc (.cells #[.int .i64 c.1, .int .i64 c.2.1, .int .i64 c.2.2.1, .int .i64 c.2.2.2] 47))) := Lib.hid (below1 w _)
  have Q0 : Hid (Blk (w.alloc (.cells #[.int .i64 c.1, .int .i64 c.2.1, .int .i64 c.2.2.1, .int .i64 c.2.2.2] 47)) w.heap.size #[.int .i64 c.1, .int .i64 c.2.1, .int .i64 c.2.2.1, .int .i64 c.2.2.2] 47) := Lib.hid (Blk.new w _ _)
  have G0 : Hid (Blk (w.alloc (.cells #[.int .i64 c.1, .int .i64 c.2.1, .int .i64 c.2.2.1, .int .i64 c.2.2.2] 47)) g #[.map (some mb)] 125) := Lib.hid (Blk.alloc hg _)
  have M0 := Lib.hid (own_mapB hm B0.out)
  have HKO := Lib.hid (keyOf_w hk)
  have HAT := Lib.hid (mapW_at hk (l := L.filter brokC) (fun d hd => hL d (List.mem_filter.1 hd).1) (rise_filter hr _))
  have HE := Lib.hid (worC_broken hr hg0 c)
  have KW := Lib.hid (fun W' => whichOf_any c W')
  generalize (findC (L.filter brokC) c.1 c.2.1 c.2.2.1).getD 0 = z at HAT HE
  generalize worC L c = res at HE ⊢
  generalize mapW (L.filter brokC) = D at M0 HAT
  clear hg hm hL hr hg0 hk
  have hz : (z < c.2.2.2 ∧ decide (z < c.2.2.2) = true) ∨ (¬ z < c.2.2.2 ∧ decide (z < c.2.2.2) = false) := by
    by_cases h : z < c.2.2.2
    · exact .inl ⟨h, decide_eq_true h⟩
    · exact .inr ⟨h, decide_eq_false h⟩
  go_enter Tryz.func245, Tryz.ntmps245
  go_upto_region 1 with fail
  try change Code.wp _ _ _ _ (w.alloc (.cells #[.int .i64 c.1, .int .i64 c.2.1, .int .i64 c.2.2.1, .int .i64 c.2.2.2] 47))
  generalize (w.alloc (.cells #[.int .i64 c.1, .int .i64 c.2.1, .int .i64 c.2.2.1, .int .i64 c.2.2.2] 47)) = W at B0 Q0 G0 M0 ⊢
  have HC := Lib.hid (fun W' (hb : Below W.heap.size W W') => (show W'.cell? ⟨w.heap.size, 0, none⟩ = some (.int .i64 c.1) ∧ W'.cell? ⟨w.heap.size, 1, none⟩ = some (.int .i64 c.2.1) ∧ W'.cell? ⟨w.heap.size, 2, none⟩ = some (.int .i64 c.2.2.1) ∧ W'.cell? ⟨w.heap.size, 3, none⟩ = some (.int .i64 c.2.2.2) ∧ W'.cell? ⟨g, 0, none⟩ = some (.map (some mb)) from ⟨Blk.cell (Q0.out.below hb Q0.out.lt) 0, Blk.cell (Q0.out.below hb Q0.out.lt) 1, Blk.cell (Q0.out.below hb Q0.out.lt) 2, Blk.cell (Q0.out.below hb Q0.out.lt) 3, Blk.cell (G0.out.below hb G0.out.lt) 0⟩))
  have HOm := Lib.hid (fun W' (hb : Below W.heap.size W W') => own_mapB M0.out hb)
  have HD : Hid (Below W.heap.size W W.drew) := Lib.hid ((Below.refl _ W).drew)
  obtain ⟨c0, c1, c2, c3, c4⟩ := HC.out _ HD.out
  rcases hz with ⟨h1, h2⟩ | ⟨h1, h2⟩
  · rw [h2] at HE
    have HR := Lib.hid HE.out.symm
    clear HE h2
    go_region_held3 (fun w' => w'.cell? ⟨w.heap.size, 0, none⟩ = some (.int .i64 c.1) ∧ w'.cell? ⟨w.heap.size, 1, none⟩ = some (.int .i64 c.2.1) ∧ w'.cell? ⟨w.heap.size, 2, none⟩ = some (.int .i64 c.2.2.1) ∧ w'.cell? ⟨w.heap.size, 3, none⟩ = some (.int .i64 c.2.2.2) ∧ w'.cell? ⟨g, 0, none⟩ = some (.map (some mb)))
      (first | exact ⟨c0, c1, c2, c3, c4⟩ | exact ⟨y0, y1, y2, y3, y4⟩)
      (first
        | (go_at_call 144
           refine (KW.out _).mono ?_
           rintro e wA ⟨rfl, hbA⟩
           have HDA := Lib.hid (HD.out.trans (hbA.mono HD.out.size))
           obtain ⟨y0, y1, y2, y3, y4⟩ := HC.out _ HDA.out
           have hlk := look_run (HOm.out _ HDA.out) HKO.out HAT.out
           clear hbA))
    all_goals
      (try go_wp2_with fail)
      go_ret
      exact ⟨La.retB HR.out.symm, B0.out.trans (HDA.out.mono B0.out.size)⟩
  · have HE0 := HE
    rw [h2] at HE
    have HR := Lib.hid HE.out.symm
    have h3 : c.2.2.2 ≤ z := by omega
    clear HE h2 h1
    go_region_held3 (fun w' => w'.cell? ⟨w.heap.size, 0, none⟩ = some (.int .i64 c.1) ∧ w'.cell? ⟨w.heap.size, 1, none⟩ = some (.int .i64 c.2.1) ∧ w'.cell? ⟨w.heap.size, 2, none⟩ = some (.int .i64 c.2.2.1) ∧ w'.cell? ⟨w.heap.size, 3, none⟩ = some (.int .i64 c.2.2.2) ∧ w'.cell? ⟨g, 0, none⟩ = some (.map (some mb)))
      (first | exact ⟨c0, c1, c2, c3, c4⟩ | exact ⟨y0, y1, y2, y3, y4⟩)
      (first
        | (go_at_call 144
           refine (KW.out _).mono ?_
           rintro e wA ⟨rfl, hbA⟩
           have HDA := Lib.hid (HD.out.trans (hbA.mono HD.out.size))
           obtain ⟨y0, y1, y2, y3, y4⟩ := HC.out _ HDA.out
           have hlk := look_run (HOm.out _ HDA.out) HKO.out HAT.out
           clear hbA))
    all_goals
      (try go_wp2_with fail)
      go_ret
      exact ⟨La.retB HE0.out, B0.out.trans (HDA.out.mono B0.out.size)⟩

/-- What worseThan hands on. -/
def FunAt (B0 : Nat) (w : World) (E : Int) (L : List ClT) (F : Value) : Prop := (E ≠ 0 → F = .nilFunc) ∧ (E = 0 → ∃ g mb, F = .func (Fn.func 245) #[] #[.pointer (some ⟨g, 0, none⟩)] ∧ B0 ≤ g ∧ Blk w g #[.map (some mb)] 125 ∧ w.ownsMap Tryz.prog 185 intE mb L.length (mapW (L.filter brokC)))

set_option maxRecDepth 100000 in
set_option maxHeartbeats 2000000 in
theorem worseThan_any (A B C P : Option Addr) (ca cb cc cp : Nat) (ns : List NodeD) (ps : List PodD) (os : List OwnD) (p : List Int) (hk : ∀ c ∈ all8 ns ps os p, OkC c) (hl : (all8 ns ps os p).length ≤ 12000) (w : World) (h : SnapAt w A B C ca cb cc ns ps os) (hp : IntsAt w P cp p) :
    Calls Tryz.prog 201 #[snapV A B C ca cb cc ns ps os, .slice P p.length cp] w fun e w' => ∃ F, e = .returned (.tuple #[F, .int .i64 (placeE ns ps os p)]) ∧ FunAt w.heap.size w' (placeE ns ps os p) (all8 ns ps os p) F ∧ Below w.heap.size w w' := by
  have B0 : Hid (Below w.heap.size w (w.alloc (.cells (snapC A B C ca cb cc ns ps os) 26))) := Lib.hid (below1 w _)
  have HA := Lib.hid (brokenBy_any A B C P ca cb cc cp ns ps os p hk hl _ (h.below B0.out) (hp.below B0.out))
  generalize all8 ns ps os p = l at HA ⊢
  generalize placeE ns ps os p = E at HA ⊢
  clear h hp hk hl
  go_enter Tryz.func201, Tryz.ntmps201
  go_wp2_with fail
  refine (HA.out).mono ?_
  rintro e w1 ⟨m, rfl, hm, hb⟩
  have HM := Lib.hid hm
  have B1 := Lib.hid (B0.out.trans (hb.mono B0.out.size))
  clear hm hb HA B0
  by_cases hE : E = 0
  case neg =>
    have hne : (E != 0) = true := by simpa using hE
    have HE := Lib.hid hE
    have B2 := Lib.hid (B1.out.alloc B1.out.size (.cells #[.map m] 125))
    clear hE
    go_wp2
    go_ret2
    exact ⟨_, rfl, ⟨fun _ => rfl, fun h => absurd h HE.out⟩, B2.out⟩
  subst hE
  obtain ⟨mb, rfl, hmb, hmo⟩ := HM.out.2 rfl
  have B2 := Lib.hid (B1.out.alloc B1.out.size (.cells #[.map (some mb)] 125))
  have Q2 := Lib.hid (Blk.new w1 #[.map (some mb)] 125)
  have M2 := Lib.hid (hmo.alloc (.cells #[.map (some mb)] 125))
  have hsz := Lib.hid B1.out.size
  clear hmb hmo HM
  go_wp2
  go_ret2
  exact ⟨_, rfl, ⟨fun h => absurd rfl h, fun _ => ⟨_, mb, rfl, hsz.out, Q2.out, M2.out⟩⟩, B2.out⟩

set_option maxRecDepth 100000 in
set_option maxHeartbeats 8000000 in
theorem worse_any (A B C P Q : Option Addr) (ca cb cc cp cq : Nat) (ns : List NodeD) (ps : List PodD) (os : List OwnD) (p q : List Int) (hk : ∀ c ∈ all8 ns ps os p, OkC c) (hkq : ∀ c ∈ all8 ns ps os q, OkC c) (hl : (all8 ns ps os p).length ≤ 12000) (hlq : (all8 ns ps os q).length ≤ 12000) (w : World) (h : SnapAt w A B C ca cb cc ns ps os) (hp : IntsAt w P cp p) (hq : IntsAt w Q cq q) :
    Calls Tryz.prog 145 #[snapV A B C ca cb cc ns ps os, .slice P p.length cp, .slice Q q.length cq] w fun e w' => ∃ v, e = .returned (.tuple #[v, .int .i64 (worseE ns ps os p q)]) ∧ w'.ownsRow w.heap.size 47 4 v (worseF ns ps os p q).length (cells4 (worseF ns ps os p q)) ∧ Below w.heap.size w w' := by
  have B0 : Hid (Below w.heap.size w (w.alloc (.cells (snapC A B C ca cb cc ns ps os) 26))) := Lib.hid (below1 w _)
  have S0 : Hid (Blk (w.alloc (.cells (snapC A B C ca cb cc ns ps os) 26)) w.heap.size (snapC A B C ca cb cc ns ps os) 26) := Lib.hid (Blk.new w _ _)
  have HA := Lib.hid (worseThan_any A B C P ca cb cc cp ns ps os p hk hl _ (h.below B0.out) (hp.below B0.out))
  have HB := Lib.hid (fun W' (hb : Below w.heap.size w W') => allP_any A B C Q ca cb cc cq ns ps os q W' (h.below hb) (hq.below hb))
  have HR := Lib.hid (all8_rise ns ps os p)
  have HG := Lib.hid (fun c hc => (all8_good ns ps os p c hc).1)
  have HK := Lib.hid hk
  have HKq := Lib.hid hkq
  obtain ⟨i0, hi0, hz0, hz1, hz2⟩ := info_parts cl_info
  have HF : Hid (worseF ns ps os p q = if placeE ns ps os p = 0 then (all8 ns ps os q).filter (worC (all8 ns ps os p)) else []) := Lib.hid rfl
  have HF0 : Hid (placeE ns ps os q ≠ 0 → all8 ns ps os q = []) := Lib.hid (fun h => by unfold all8; rw [if_neg h])
  have HE : Hid (worseE ns ps os p q = if placeE ns ps os p = 0 then placeE ns ps os q else placeE ns ps os p) := Lib.hid rfl
  generalize worseF ns ps os p q = R at HF ⊢
  generalize worseE ns ps os p q = e9 at HE ⊢
  generalize all8 ns ps os p = L at HA HR HG HK HF
  generalize all8 ns ps os q = l at HB HKq HF HF0 hlq
  generalize placeE ns ps os p = Ep at HA HF HE
  generalize placeE ns ps os q = Eq at HB HE HF0
  clear h hp hq hk hkq hl
  go_enter Tryz.func145, Tryz.ntmps145
  go_wp2_with fail
  refine (HA.out).mono ?_
  rintro e w1 ⟨F, rfl, hF, hb⟩
  have HFn := Lib.hid hF
  have B1 := Lib.hid (B0.out.trans (hb.mono B0.out.size))
  have S1 := Lib.hid (S0.out.below hb S0.out.lt)
  clear hF hb HA B0 S0
  by_cases hE : Ep = 0
  case neg =>
    have hne : (Ep != 0) = true := by simpa using hE
    have hR : R = [] := by rw [HF.out, if_neg hE]
    have h9 : e9 = Ep := by rw [HE.out, if_neg hE]
    clear hE HF HE
    go_wp2
    go_ret2
    subst hR h9
    exact ⟨_, rfl, World.ownsRow_nil _ _ _ _, B1.out⟩
  subst hE
  obtain ⟨g, mb, rfl, hg, hgb, hmo⟩ := HFn.out.2 rfl
  have G1 := Lib.hid hgb
  have M1 := Lib.hid hmo
  have h9 : Hid (e9 = Eq) := Lib.hid (by rw [HE.out, if_pos rfl])
  have hR : Hid (R = l.filter (worC L)) := Lib.hid (by rw [HF.out, if_pos rfl])
  clear hg hgb hmo HFn HF HE
  have KB := Lib.hid (HB.out _ B1.out)
  have z0 : w1.cell? ⟨w.heap.size, 0, none⟩ = some (.slice A ns.length ca) := Blk.cell S1.out 0
  have z1 : w1.cell? ⟨w.heap.size, 1, none⟩ = some (.slice B ps.length cb) := Blk.cell S1.out 1
  have z2 : w1.cell? ⟨w.heap.size, 2, none⟩ = some (.slice C os.length cc) := Blk.cell S1.out 2
  go_wp2_with fail
  refine (KB.out).mono ?_
  rintro e w2 ⟨v, rfl, ho, hb⟩
  obtain ⟨Gl, cg, rfl, _⟩ := La.own_slice ho
  have O2 := Lib.hid (La.own_slat ho)
  have B2 := Lib.hid (B1.out.trans (hb.mono B1.out.size))
  have G2 := Lib.hid (G1.out.below hb G1.out.lt)
  have M2 := Lib.hid (own_mapB M1.out hb)
  clear ho hb KB HB B1 S1 G1 M1 z0 z1 z2
  by_cases hE : Eq = 0
  case neg =>
    have hne : (Eq != 0) = true := by simpa using hE
    have hR2 : R = [] := by rw [hR.out, HF0.out hE]; rfl
    have h92 := h9.out
    clear hE hR h9 HF0
    go_wp2
    go_ret2
    subst hR2 h92
    exact ⟨_, rfl, World.ownsRow_nil _ _ _ _, B2.out⟩
  subst hE
  clear HF0
  have henter : ∀ (args : Array Value) (w : World), (callFunc 245 args).run Tryz.prog w = .ok (.enter 245 args) w := fun _ _ => by kernel_rfl
  have KW := Lib.hid (fun (W' : World) (hb : Below w2.heap.size w2 W') (y : ClT) (hy : y ∈ l) => worse1_any y (HKq.out y hy) g mb L.length L HK.out HR.out HG.out W' (G2.out.below hb G2.out.lt) (own_mapB M2.out hb))
  clear HK HR HG G2 M2
  go_wp2_with fail
  go_loopw [11, 34] (fun v i wr => ∃ k : Nat, k ≤ l.length ∧ i = .int .i64 k ∧ wr.ownsRow w2.heap.size 47 4 v ((l.take k).filter (worC L)).length (cells4 ((l.take k).filter (worC L))) ∧ Below w2.heap.size w2 wr) (fun _ i _ => l.length - (intOf i).toNat)
  case atStart => exact ⟨0, by omega, rfl, World.ownsRow_nil _ _ _ _, Below.refl _ _⟩
  case round =>
    obtain ⟨k, hk, rfl, ho, hb⟩ := hrel
    have HO := Lib.hid ho
    have HB := Lib.hid hb
    clear ho hb
    by_cases hlt : k < l.length
    case neg =>
      obtain rfl : k = l.length := by omega
      rw [List.take_length, ← hR.out] at HO
      have h92 := h9.out
      clear h9
      go_wp2
      go_ret2
      subst h92
      exact ⟨_, rfl, own_base HO.out B2.out.size, B2.out.trans (HB.out.mono B2.out.size)⟩
    obtain ⟨y, hy⟩ : ∃ y, l[k]? = some y := ⟨l[k], List.getElem?_eq_getElem hlt⟩
    have hyl := List.mem_of_getElem? hy
    obtain ⟨gy, oy, hGy, hbl, c0, c1, c2, c3⟩ := atC (La.SlAt.below O2.out HB.out) hy
    subst hGy
    have k0 : (0 : Int) ≤ (k : Int) := by omega
    have k1 : (k : Int) < (l.length : Int) := by omega
    have HF := Lib.hid (filt_snoc (worC L) hy)
    have hfl : ((l.take k).filter (worC L)).length ≤ k := Nat.le_trans (List.length_filter_le _ _) (by rw [List.length_take]; omega)
    clear hy
    generalize (l.take k).filter (worC L) = M at HO HF hfl
    go_upto_region 11 with fail
    have T8 : Hid (Blk (wr.alloc (.cells #[.int .i64 y.1, .int .i64 y.2.1, .int .i64 y.2.2.1, .int .i64 y.2.2.2] 47)) wr.heap.size #[.int .i64 y.1, .int .i64 y.2.1, .int .i64 y.2.2.1, .int .i64 y.2.2.2] 47) := Lib.hid (Blk.new wr _ _)
    have R8 : Hid (Below wr.heap.size wr (wr.alloc (.cells #[.int .i64 y.1, .int .i64 y.2.1, .int .i64 y.2.2.1, .int .i64 y.2.2.2] 47))) := Lib.hid (below1 wr _)
    try change Code.wp _ _ _ _ (wr.alloc (.cells #[.int .i64 y.1, .int .i64 y.2.1, .int .i64 y.2.2.1, .int .i64 y.2.2.2] 47))
    generalize (wr.alloc (.cells #[.int .i64 y.1, .int .i64 y.2.1, .int .i64 y.2.2.1, .int .i64 y.2.2.2] 47)) = W8 at T8 R8 ⊢
    have HO8 := Lib.hid (La.own_below HO.out R8.out)
    have HB8 := Lib.hid (HB.out.trans (R8.out.mono HB.out.size))
    clear c0 c1 c2 c3
    have c0 : W8.cell? ⟨wr.heap.size, 0, none⟩ = some (.int .i64 y.1) := Blk.cell T8.out 0
    have c1 : W8.cell? ⟨wr.heap.size, 1, none⟩ = some (.int .i64 y.2.1) := Blk.cell T8.out 1
    have c2 : W8.cell? ⟨wr.heap.size, 2, none⟩ = some (.int .i64 y.2.2.1) := Blk.cell T8.out 2
    have c3 : W8.cell? ⟨wr.heap.size, 3, none⟩ = some (.int .i64 y.2.2.2) := Blk.cell T8.out 3
    have KY := Lib.hid (KW.out W8 HB8.out y hyl)
    clear R8 HO HB hyl
    go_wp2_with fail
    refine (KY.out).mono ?_
    rintro e w3 ⟨rfl, hb3⟩
    have HO9 := Lib.hid (La.own_below HO8.out hb3)
    have HB9 := Lib.hid (HB8.out.trans (hb3.mono HB8.out.size))
    have T9 := Lib.hid (T8.out.below hb3 T8.out.lt)
    clear KY c0 c1 c2 c3 hb3 HO8 HB8 T8
    have c0 : w3.cell? ⟨wr.heap.size, 0, none⟩ = some (.int .i64 y.1) := Blk.cell T9.out 0
    have c1 : w3.cell? ⟨wr.heap.size, 1, none⟩ = some (.int .i64 y.2.1) := Blk.cell T9.out 1
    have c2 : w3.cell? ⟨wr.heap.size, 2, none⟩ = some (.int .i64 y.2.2.1) := Blk.cell T9.out 2
    have c3 : w3.cell? ⟨wr.heap.size, 3, none⟩ = some (.int .i64 y.2.2.2) := Blk.cell T9.out 3
    cases hwy : worC L y with
    | false =>
      have HE : Hid ((l.take (k + 1)).filter (worC L) = M) := Lib.hid (by rw [HF.out, hwy]; simp)
      clear HF hwy
      go_wp2_with fail
      go_roundw
      case rel => exact ⟨k + 1, by omega, by go_num, by rw [HE.out]; exact HO9.out, HB9.out⟩
      case measure => simp [intOf]; omega
    | true =>
      have HE : Hid ((l.take (k + 1)).filter (worC L) = M ++ [y]) := Lib.hid (by rw [HF.out, hwy]; simp)
      clear HF hwy
      go_wp2_with (at_builtin; refine wpList_append_own _ rfl _ _ 48 rfl w2.heap.size 47 i0 (.agg #[.int .i64 0, .int .i64 0, .int .i64 0, .int .i64 0]) 4 32 Tryz.underlying48 hi0 hz0 hz1 hz2 rfl (by decide) _ _ _ rfl (show World.ownsRow _ _ _ _ _ _ _ from HO9.out.alloc _) ⟨w3.heap.size, 0, none⟩ 1 1 [.int .i64 y.1, .int .i64 y.2.1, .int .i64 y.2.2.1, .int .i64 y.2.2.2] rfl rfl ?c1z ?c2z ?c3z ?c4z ?c5z ?_)
      case c1z =>
        intro j u hj
        match j, hj with
        | 0, hj => simp at hj; subst hj; simp [Addr.add]
        | 1, hj => simp at hj; subst hj; simp [Addr.add]
        | 2, hj => simp at hj; subst hj; simp [Addr.add]
        | 3, hj => simp at hj; subst hj; simp [Addr.add]
      case c2z => first | rfl | (intro u hu; simp at hu; rcases hu with rfl | rfl | rfl | rfl <;> rfl)
      case c3z => unfold maxLen; omega
      case c4z => omega
      case c5z => have := HB9.out.size; simp; omega
      intro v4 w4 hown4 hgrow4 _
      have P4 := Lib.hid hown4
      have D4 := Lib.hid ((HB9.out.alloc HB9.out.size (.cells #[.int .i64 y.1, .int .i64 y.2.1, .int .i64 y.2.2.1, .int .i64 y.2.2.2] 47)).grown hgrow4 (by have := HB9.out.size; simp; omega) (fun j hj => own_gem HO9.out hj))
      clear hown4 hgrow4
      go_wp2_with fail
      go_roundw
      case rel =>
        refine ⟨k + 1, by omega, by go_num, ?_, D4.out⟩
        rw [HE.out, List.length_append, cells4_snoc]
        exact P4.out
      case measure => simp [intOf]; omega
end Go.Proofs.YtiiheajieegdkaaGreat

namespace Go.Proofs.YtiiheajieegdkaaGreat
open Go.RowKit Go.Maps Go.Shelf

theorem broken_keys {l : List ClT} (h : ∀ c ∈ l, OkC c) : ∀ c ∈ l.filter brokC, OkC c := fun c hc => h c (List.mem_filter.1 hc).1
/-- What Safe tells. -/
def safeB (ns : List NodeD) (ps : List PodD) (os : List OwnD) (p : List Int) : Bool := decide (placeE ns ps os p = 0) && ((all8 ns ps os p).filter brokC).isEmpty
set_option maxRecDepth 100000 in
set_option maxHeartbeats 4000000 in
theorem safe_any (A B C P : Option Addr) (ca cb cc cp : Nat) (ns : List NodeD) (ps : List PodD) (os : List OwnD) (p : List Int) (hk : ∀ c ∈ all8 ns ps os p, OkC c) (hl : (all8 ns ps os p).length ≤ 12000) (w : World) (h : SnapAt w A B C ca cb cc ns ps os) (hp : IntsAt w P cp p) :
    Calls Tryz.prog 24 #[snapV A B C ca cb cc ns ps os, .slice P p.length cp] w fun e w' => e = .returned (.tuple #[.bool (safeB ns ps os p), .int .i64 (placeE ns ps os p)]) ∧ Below w.heap.size w w' := by
  have B0 : Hid (Below w.heap.size w (w.alloc (.cells (snapC A B C ca cb cc ns ps os) 26))) := Lib.hid (below1 w _)
  have HA := Lib.hid (brokenBy_any A B C P ca cb cc cp ns ps os p hk hl _ (h.below B0.out) (hp.below B0.out))
  have HK := Lib.hid hk
  have HS : Hid (safeB ns ps os p = (decide (placeE ns ps os p = 0) && ((all8 ns ps os p).filter brokC).isEmpty)) := Lib.hid rfl
  generalize safeB ns ps os p = R at HS ⊢
  generalize all8 ns ps os p = l at HA HK HS
  generalize placeE ns ps os p = E at HA HS ⊢
  clear h hp hk hl
  go_enter Tryz.func24, Tryz.ntmps24
  go_wp2_with fail
  refine (HA.out).mono ?_
  rintro e w1 ⟨m, rfl, hm, hb⟩
  have HM := Lib.hid hm
  have B1 := Lib.hid (B0.out.trans (hb.mono B0.out.size))
  clear hm hb HA B0
  by_cases hE : E = 0
  case neg =>
    have hne : (E == 0) = false := by simpa using hE
    have hnd : decide (E = 0) = false := decide_eq_false hE
    have hR : R = false := by rw [HS.out, hnd]; rfl
    clear hE HS
    go_wp2
    go_ret2
    subst hR
    exact ⟨rfl, B1.out⟩
  subst hE
  obtain ⟨mb, rfl, _, hmo⟩ := HM.out.2 rfl
  have hln := fun ty => hmo.len Tryz.underlying125 ty
  have hsz := mapW_size (broken_keys HK.out)
  have HSZ : Hid (R = decide (size (mapW (l.filter brokC)) = 0)) := Lib.hid (by
    rw [HS.out]
    by_cases h0 : l.filter brokC = []
    · rw [decide_eq_true (hsz.2 h0), h0]
      rfl
    · rw [decide_eq_false (fun h => h0 (hsz.1 h))]
      cases hf : l.filter brokC with
      | nil => exact absurd hf h0
      | cons a t => rfl)
  clear hsz HS HM hmo
  generalize size (mapW (l.filter brokC)) = z at HSZ hln
  by_cases hz : z = 0
  · have hz1 : (((z : Nat) : Int) == 0) = true := by simpa using hz
    have hz2 : decide (((z : Nat) : Int) = 0) = true := decide_eq_true (by omega)
    have hR : R = true := by rw [HSZ.out]; exact decide_eq_true hz
    clear HSZ hz
    go_wp2
    go_ret2
    subst hR
    exact ⟨rfl, B1.out⟩
  · have hz1 : (((z : Nat) : Int) == 0) = false := by simpa using hz
    have hz2 : decide (((z : Nat) : Int) = 0) = false := decide_eq_false (by omega)
    have hR : R = false := by rw [HSZ.out]; exact decide_eq_false hz
    clear HSZ hz
    go_wp2
    go_ret2
    subst hR
    exact ⟨rfl, B1.out⟩

theorem safe_at (A B C P : Option Addr) (ca cb cc cp : Nat) (ns : List NodeD) (ps : List PodD) (os : List OwnD) (p : List Int) (w : World) (h : SnapAt w A B C ca cb cc ns ps os) (hp : IntsAt w P cp p) :
    Calls Tryz.prog 24 #[snapV A B C ca cb cc ns ps os, .slice P p.length cp] w fun e w' => e = .returned (.tuple #[.bool (safeB ns ps os p), .int .i64 (placeE ns ps os p)]) ∧ Below w.heap.size w w' :=
  safe_any A B C P ca cb cc cp ns ps os p (all8_fine h p).1 (all8_fine h p).2 w h hp
theorem worse_at (A B C P Q : Option Addr) (ca cb cc cp cq : Nat) (ns : List NodeD) (ps : List PodD) (os : List OwnD) (p q : List Int) (w : World) (h : SnapAt w A B C ca cb cc ns ps os) (hp : IntsAt w P cp p) (hq : IntsAt w Q cq q) :
    Calls Tryz.prog 145 #[snapV A B C ca cb cc ns ps os, .slice P p.length cp, .slice Q q.length cq] w fun e w' => ∃ v, e = .returned (.tuple #[v, .int .i64 (worseE ns ps os p q)]) ∧ w'.ownsRow w.heap.size 47 4 v (worseF ns ps os p q).length (cells4 (worseF ns ps os p q)) ∧ Below w.heap.size w w' :=
  worse_any A B C P Q ca cb cc cp cq ns ps os p q (all8_fine h p).1 (all8_fine h q).1 (all8_fine h p).2 (all8_fine h q).2 w h hp hq
end Go.Proofs.YtiiheajieegdkaaGreat

namespace Go.Proofs.YtiiheajieegdkaaGreat
open Go.RowKit Go.Maps Go.Shelf

/-- What is against a step. -/
inductive Ag
  | no
  | err (e : Int)
  | cl (c : ClT)
def Ag.v : Ag → Value
  | .no => .nilIface
  | .err e => .iface 49 (.int .i64 e)
  | .cl c => .iface 47 (clV c)
def Ag.c : Ag → ClT
  | .cl c => c
  | _ => (0, 0, 0, 0)
def Ag.e : Ag → Int
  | .no => 0
  | .err e => e
  | .cl _ => 100
def cordB (ns : List NodeD) (k : Nat) : Bool := match ns[k]? with
  | none => false
  | some x => x.cordon
/-- What a step makes, and what is against it. -/
def tryF (ns : List NodeD) (ps : List PodD) (os : List OwnD) (p : List Int) (kd pd nd : Int) : List Int × Ag :=
  if (applyF ns ps os p kd pd nd).2 ≠ 0 then ([], .err (applyF ns ps os p kd pd nd).2)
  else if kd = 2 ∧ cordB ns nd.toNat = true then ([], .err 100)
  else match worseU ns ps os p (applyF ns ps os p kd pd nd).1 with
    | c :: _ => ([], .cl c)
    | [] => ((applyF ns ps os p kd pd nd).1, .no)
/-- Where a step may be done, the cluster and the placement may be, and so the one that it makes. -/
theorem apply_ok {ns : List NodeD} {ps : List PodD} {os : List OwnD} {p : List Int} {kd pd nd : Int} (h : (applyF ns ps os p kd pd nd).2 = 0) : placeE ns ps os p = 0 ∧ placeE ns ps os (applyF ns ps os p kd pd nd).1 = 0 ∧ (kd = 2 → 0 ≤ nd ∧ nd < (ns.length : Int)) := by
  unfold applyF at h ⊢
  by_cases hE : placeE ns ps os p = 0
  · rw [if_pos hE] at h ⊢
    refine ⟨hE, ?_⟩
    by_cases h1 : kd = 1
    · rw [if_pos h1] at h ⊢
      unfold evictF at h ⊢
      split at h
      · rename_i hp
        rw [if_pos hp]
        split at h
        · rename_i hn
          rw [if_pos hn]
          split at h
          · cases h
          · rename_i hw
            rw [if_neg hw]
            exact ⟨placeE_set hE _ (ok_none ns), fun h2 => by omega⟩
        · cases h
      · cases h
    · rw [if_neg h1] at h ⊢
      by_cases h2 : kd = 2
      · rw [if_pos h2] at h ⊢
        unfold bindF at h ⊢
        split at h
        · rename_i hp
          rw [if_pos hp]
          split at h
          · rename_i hn
            rw [if_pos hn]
            split at h
            · rename_i hw
              rw [if_pos hw]
              split at h
              · cases h
              · rename_i hl
                rw [if_neg hl]
                refine ⟨placeE_set hE _ ?_, fun _ => hn⟩
                unfold okB tpB
                unfold lostB at hl
                have hlt : nd.toNat < ns.length := by omega
                rw [List.getElem?_eq_getElem hlt] at hl ⊢
                have hl : ns[nd.toNat].lost = false := by simpa using hl
                simp [hl, hn.1]
            · cases h
          · cases h
        · cases h
      · rw [if_neg h2] at h
        cases h
  · rw [if_neg hE] at h
    exact absurd h hE

set_option maxRecDepth 100000 in
set_option maxHeartbeats 1000000 in
theorem clauseOf_any (a : Ag) (w : World) : Calls Tryz.prog 82 #[a.v] w fun e w' => e = .returned (clV a.c) ∧ Below w.heap.size w w' := by
  cases a with
  | no =>
    have hta : ∀ w : World, (Instr.typeAssert .nilIface 20 47 true).run Tryz.prog w = .ok (.tuple #[.agg #[.int .i64 0, .int .i64 0, .int .i64 0, .int .i64 0], .bool false]) w := fun w => by kernel_rfl
    have B0 : Hid (Below w.heap.size w ((w.alloc (.cells #[.int .i64 0, .int .i64 0, .int .i64 0, .int .i64 0] 47)).alloc (.cells #[.int .i64 0, .int .i64 0, .int .i64 0, .int .i64 0] 47))) := Lib.hid (Qu.below2 w _ _)
    have Q0 : Hid (Blk ((w.alloc (.cells #[.int .i64 0, .int .i64 0, .int .i64 0, .int .i64 0] 47)).alloc (.cells #[.int .i64 0, .int .i64 0, .int .i64 0, .int .i64 0] 47)) w.heap.size #[.int .i64 0, .int .i64 0, .int .i64 0, .int .i64 0] 47) := Lib.hid (Blk.alloc (Blk.new w _ _) _)
    have R0 : Hid (Blk ((w.alloc (.cells #[.int .i64 0, .int .i64 0, .int .i64 0, .int .i64 0] 47)).alloc (.cells #[.int .i64 0, .int .i64 0, .int .i64 0, .int .i64 0] 47)) (w.heap.size + 1) #[.int .i64 0, .int .i64 0, .int .i64 0, .int .i64 0] 47) := Lib.hid (blk2 w _ _ _)
    show Calls Tryz.prog 82 #[.nilIface] w _
    go_enter Tryz.func82, Tryz.ntmps82
    go_upto_region 4 with fail
    try change Code.wp _ _ _ _ ((w.alloc (.cells #[.int .i64 0, .int .i64 0, .int .i64 0, .int .i64 0] 47)).alloc (.cells #[.int .i64 0, .int .i64 0, .int .i64 0, .int .i64 0] 47))
    generalize ((w.alloc (.cells #[.int .i64 0, .int .i64 0, .int .i64 0, .int .i64 0] 47)).alloc (.cells #[.int .i64 0, .int .i64 0, .int .i64 0, .int .i64 0] 47)) = W at B0 Q0 R0 ⊢
    have z0 : W.cell? ⟨w.heap.size, 0, none⟩ = some (.int .i64 0) := Blk.cell Q0.out 0
    have z1 : W.cell? ⟨w.heap.size, 1, none⟩ = some (.int .i64 0) := Blk.cell Q0.out 1
    have z2 : W.cell? ⟨w.heap.size, 2, none⟩ = some (.int .i64 0) := Blk.cell Q0.out 2
    have z3 : W.cell? ⟨w.heap.size, 3, none⟩ = some (.int .i64 0) := Blk.cell Q0.out 3
    have g0 := Blk.free Q0.out 0
    have g1 := Blk.free Q0.out 1
    have g2 := Blk.free Q0.out 2
    have g3 := Blk.free Q0.out 3
    have y0 : W.cell? ⟨w.heap.size + 1, 0, none⟩ = some (.int .i64 0) := Blk.cell R0.out 0
    have y1 : W.cell? ⟨w.heap.size + 1, 1, none⟩ = some (.int .i64 0) := Blk.cell R0.out 1
    have y2 : W.cell? ⟨w.heap.size + 1, 2, none⟩ = some (.int .i64 0) := Blk.cell R0.out 2
    have y3 : W.cell? ⟨w.heap.size + 1, 3, none⟩ = some (.int .i64 0) := Blk.cell R0.out 3
    have Q4 := Lib.hid ((((Q0.out.set 0 (.int .i64 0)).set 1 (.int .i64 0)).set 2 (.int .i64 0)).set 3 (.int .i64 0))
    have B4 := Lib.hid ((((B0.out.setCell (p := ⟨w.heap.size, 0, none⟩) (Nat.le_refl _) (.int .i64 0)).setCell (p := ⟨w.heap.size, 1, none⟩) (Nat.le_refl _) (.int .i64 0)).setCell (p := ⟨w.heap.size, 2, none⟩) (Nat.le_refl _) (.int .i64 0)).setCell (p := ⟨w.heap.size, 3, none⟩) (Nat.le_refl _) (.int .i64 0))
    go_wp2
    refine bodyPost_row1 Tryz.results82 w.heap.size _ _ _ _ (by rfl) (by rfl) Q4.out Tryz.underlying47 rfl (by kernel_rfl) ?_
    exact ⟨rfl, B4.out⟩
  | err e =>
    have hta : ∀ w : World, (Instr.typeAssert (.iface 49 (.int .i64 e)) 20 47 true).run Tryz.prog w = .ok (.tuple #[.agg #[.int .i64 0, .int .i64 0, .int .i64 0, .int .i64 0], .bool false]) w := fun w => by kernel_rfl
    have B0 : Hid (Below w.heap.size w ((w.alloc (.cells #[.int .i64 0, .int .i64 0, .int .i64 0, .int .i64 0] 47)).alloc (.cells #[.int .i64 0, .int .i64 0, .int .i64 0, .int .i64 0] 47))) := Lib.hid (Qu.below2 w _ _)
    have Q0 : Hid (Blk ((w.alloc (.cells #[.int .i64 0, .int .i64 0, .int .i64 0, .int .i64 0] 47)).alloc (.cells #[.int .i64 0, .int .i64 0, .int .i64 0, .int .i64 0] 47)) w.heap.size #[.int .i64 0, .int .i64 0, .int .i64 0, .int .i64 0] 47) := Lib.hid (Blk.alloc (Blk.new w _ _) _)
    have R0 : Hid (Blk ((w.alloc (.cells #[.int .i64 0, .int .i64 0, .int .i64 0, .int .i64 0] 47)).alloc (.cells #[.int .i64 0, .int .i64 0, .int .i64 0, .int .i64 0] 47)) (w.heap.size + 1) #[.int .i64 0, .int .i64 0, .int .i64 0, .int .i64 0] 47) := Lib.hid (blk2 w _ _ _)
    show Calls Tryz.prog 82 #[(.iface 49 (.int .i64 e))] w _
    go_enter Tryz.func82, Tryz.ntmps82
    go_upto_region 4 with fail
    try change Code.wp _ _ _ _ ((w.alloc (.cells #[.int .i64 0, .int .i64 0, .int .i64 0, .int .i64 0] 47)).alloc (.cells #[.int .i64 0, .int .i64 0, .int .i64 0, .int .i64 0] 47))
    generalize ((w.alloc (.cells #[.int .i64 0, .int .i64 0, .int .i64 0, .int .i64 0] 47)).alloc (.cells #[.int .i64 0, .int .i64 0, .int .i64 0, .int .i64 0] 47)) = W at B0 Q0 R0 ⊢
    have z0 : W.cell? ⟨w.heap.size, 0, none⟩ = some (.int .i64 0) := Blk.cell Q0.out 0
    have z1 : W.cell? ⟨w.heap.size, 1, none⟩ = some (.int .i64 0) := Blk.cell Q0.out 1
    have z2 : W.cell? ⟨w.heap.size, 2, none⟩ = some (.int .i64 0) := Blk.cell Q0.out 2
    have z3 : W.cell? ⟨w.heap.size, 3, none⟩ = some (.int .i64 0) := Blk.cell Q0.out 3
    have g0 := Blk.free Q0.out 0
    have g1 := Blk.free Q0.out 1
    have g2 := Blk.free Q0.out 2
    have g3 := Blk.free Q0.out 3
    have y0 : W.cell? ⟨w.heap.size + 1, 0, none⟩ = some (.int .i64 0) := Blk.cell R0.out 0
    have y1 : W.cell? ⟨w.heap.size + 1, 1, none⟩ = some (.int .i64 0) := Blk.cell R0.out 1
    have y2 : W.cell? ⟨w.heap.size + 1, 2, none⟩ = some (.int .i64 0) := Blk.cell R0.out 2
    have y3 : W.cell? ⟨w.heap.size + 1, 3, none⟩ = some (.int .i64 0) := Blk.cell R0.out 3
    have Q4 := Lib.hid ((((Q0.out.set 0 (.int .i64 0)).set 1 (.int .i64 0)).set 2 (.int .i64 0)).set 3 (.int .i64 0))
    have B4 := Lib.hid ((((B0.out.setCell (p := ⟨w.heap.size, 0, none⟩) (Nat.le_refl _) (.int .i64 0)).setCell (p := ⟨w.heap.size, 1, none⟩) (Nat.le_refl _) (.int .i64 0)).setCell (p := ⟨w.heap.size, 2, none⟩) (Nat.le_refl _) (.int .i64 0)).setCell (p := ⟨w.heap.size, 3, none⟩) (Nat.le_refl _) (.int .i64 0))
    go_wp2
    refine bodyPost_row1 Tryz.results82 w.heap.size _ _ _ _ (by rfl) (by rfl) Q4.out Tryz.underlying47 rfl (by kernel_rfl) ?_
    exact ⟨rfl, B4.out⟩
  | cl c =>
    have hta : ∀ w : World, (Instr.typeAssert (.iface 47 (clV c)) 20 47 true).run Tryz.prog w = .ok (.tuple #[clV c, .bool true]) w := fun w => by kernel_rfl
    have B0 : Hid (Below w.heap.size w ((w.alloc (.cells #[.int .i64 0, .int .i64 0, .int .i64 0, .int .i64 0] 47)).alloc (.cells #[.int .i64 c.1, .int .i64 c.2.1, .int .i64 c.2.2.1, .int .i64 c.2.2.2] 47))) := Lib.hid (Qu.below2 w _ _)
    have Q0 : Hid (Blk ((w.alloc (.cells #[.int .i64 0, .int .i64 0, .int .i64 0, .int .i64 0] 47)).alloc (.cells #[.int .i64 c.1, .int .i64 c.2.1, .int .i64 c.2.2.1, .int .i64 c.2.2.2] 47)) w.heap.size #[.int .i64 0, .int .i64 0, .int .i64 0, .int .i64 0] 47) := Lib.hid (Blk.alloc (Blk.new w _ _) _)
    have R0 : Hid (Blk ((w.alloc (.cells #[.int .i64 0, .int .i64 0, .int .i64 0, .int .i64 0] 47)).alloc (.cells #[.int .i64 c.1, .int .i64 c.2.1, .int .i64 c.2.2.1, .int .i64 c.2.2.2] 47)) (w.heap.size + 1) #[.int .i64 c.1, .int .i64 c.2.1, .int .i64 c.2.2.1, .int .i64 c.2.2.2] 47) := Lib.hid (blk2 w _ _ _)
    show Calls Tryz.prog 82 #[(.iface 47 (clV c))] w _
    go_enter Tryz.func82, Tryz.ntmps82
    go_upto_region 3 with fail
    try change Code.wp _ _ _ _ ((w.alloc (.cells #[.int .i64 0, .int .i64 0, .int .i64 0, .int .i64 0] 47)).alloc (.cells #[.int .i64 c.1, .int .i64 c.2.1, .int .i64 c.2.2.1, .int .i64 c.2.2.2] 47))
    generalize ((w.alloc (.cells #[.int .i64 0, .int .i64 0, .int .i64 0, .int .i64 0] 47)).alloc (.cells #[.int .i64 c.1, .int .i64 c.2.1, .int .i64 c.2.2.1, .int .i64 c.2.2.2] 47)) = W at B0 Q0 R0 ⊢
    have z0 : W.cell? ⟨w.heap.size, 0, none⟩ = some (.int .i64 0) := Blk.cell Q0.out 0
    have z1 : W.cell? ⟨w.heap.size, 1, none⟩ = some (.int .i64 0) := Blk.cell Q0.out 1
    have z2 : W.cell? ⟨w.heap.size, 2, none⟩ = some (.int .i64 0) := Blk.cell Q0.out 2
    have z3 : W.cell? ⟨w.heap.size, 3, none⟩ = some (.int .i64 0) := Blk.cell Q0.out 3
    have g0 := Blk.free Q0.out 0
    have g1 := Blk.free Q0.out 1
    have g2 := Blk.free Q0.out 2
    have g3 := Blk.free Q0.out 3
    have y0 : W.cell? ⟨w.heap.size + 1, 0, none⟩ = some (.int .i64 c.1) := Blk.cell R0.out 0
    have y1 : W.cell? ⟨w.heap.size + 1, 1, none⟩ = some (.int .i64 c.2.1) := Blk.cell R0.out 1
    have y2 : W.cell? ⟨w.heap.size + 1, 2, none⟩ = some (.int .i64 c.2.2.1) := Blk.cell R0.out 2
    have y3 : W.cell? ⟨w.heap.size + 1, 3, none⟩ = some (.int .i64 c.2.2.2) := Blk.cell R0.out 3
    have Q4 := Lib.hid ((((Q0.out.set 0 (.int .i64 c.1)).set 1 (.int .i64 c.2.1)).set 2 (.int .i64 c.2.2.1)).set 3 (.int .i64 c.2.2.2))
    have B4 := Lib.hid ((((B0.out.setCell (p := ⟨w.heap.size, 0, none⟩) (Nat.le_refl _) (.int .i64 c.1)).setCell (p := ⟨w.heap.size, 1, none⟩) (Nat.le_refl _) (.int .i64 c.2.1)).setCell (p := ⟨w.heap.size, 2, none⟩) (Nat.le_refl _) (.int .i64 c.2.2.1)).setCell (p := ⟨w.heap.size, 3, none⟩) (Nat.le_refl _) (.int .i64 c.2.2.2))
    go_wp2
    refine bodyPost_row1 Tryz.results82 w.heap.size _ _ _ _ (by rfl) (by rfl) Q4.out Tryz.underlying47 rfl (by kernel_rfl) ?_
    exact ⟨rfl, B4.out⟩

set_option maxRecDepth 100000 in
set_option maxHeartbeats 1000000 in
theorem errorOf_any (a : Ag) (w : World) : Calls Tryz.prog 83 #[a.v] w fun e w' => e = .returned (.int .i64 a.e) ∧ Below w.heap.size w w' := by
  cases a with
  | no =>
    show Calls Tryz.prog 83 #[.nilIface] w _
    have heq : ∀ w : World, (Op.equal 20 .nilIface .nilIface).run Tryz.prog w = .ok true w := fun w => by kernel_rfl
    go_enter Tryz.func83, Tryz.ntmps83
    go_wp2
    go_ret
    exact ⟨rfl, Below.refl _ _⟩
  | err e =>
    have hta : ∀ w : World, (Instr.typeAssert (.iface 49 (.int .i64 e)) 20 47 true).run Tryz.prog w = .ok (.tuple #[.agg #[.int .i64 0, .int .i64 0, .int .i64 0, .int .i64 0], .bool false]) w := fun w => by kernel_rfl
    have htb : ∀ w : World, (Instr.typeAssert (.iface 49 (.int .i64 e)) 20 49 false).run Tryz.prog w = .ok (.int .i64 e) w := fun w => by kernel_rfl
    have heq : ∀ w : World, (Op.equal 20 (.iface 49 (.int .i64 e)) .nilIface).run Tryz.prog w = .ok false w := fun w => by kernel_rfl
    show Calls Tryz.prog 83 #[.iface 49 (.int .i64 e)] w _
    go_enter Tryz.func83, Tryz.ntmps83
    go_wp2
    go_ret
    exact ⟨rfl, Below.refl _ _⟩
  | cl c =>
    have hta : ∀ w : World, (Instr.typeAssert (.iface 47 (clV c)) 20 47 true).run Tryz.prog w = .ok (.tuple #[clV c, .bool true]) w := fun w => by kernel_rfl
    have heq : ∀ w : World, (Op.equal 20 (.iface 47 (clV c)) .nilIface).run Tryz.prog w = .ok false w := fun w => by kernel_rfl
    show Calls Tryz.prog 83 #[.iface 47 (clV c)] w _
    go_enter Tryz.func83, Tryz.ntmps83
    go_wp2
    go_ret
    exact ⟨rfl, Below.refl _ _⟩

set_option maxRecDepth 100000 in
set_option maxHeartbeats 4000000 in
theorem try_any (A B C P : Option Addr) (ca cb cc cp : Nat) (ns : List NodeD) (ps : List PodD) (os : List OwnD) (p : List Int) (kd pd nd : Int) (w : World) (h : SnapAt w A B C ca cb cc ns ps os) (hp : IntsAt w P cp p) :
    Calls Tryz.prog 81 #[snapV A B C ca cb cc ns ps os, .slice P p.length cp, stepV kd pd nd] w fun e w' => ∃ v, e = .returned (.tuple #[v, (tryF ns ps os p kd pd nd).2.v]) ∧ w'.ownsRow w.heap.size 3 1 v (tryF ns ps os p kd pd nd).1.length (intsC (tryF ns ps os p kd pd nd).1) ∧ Below w.heap.size w w' := by
  have B0 : Hid (Below w.heap.size w ((w.alloc (.cells (snapC A B C ca cb cc ns ps os) 26)).alloc (.cells #[.int .i64 kd, .int .i64 pd, .int .i64 nd] 63))) := Lib.hid (Qu.below2 w _ _)
  have Z0 : Hid (Blk ((w.alloc (.cells (snapC A B C ca cb cc ns ps os) 26)).alloc (.cells #[.int .i64 kd, .int .i64 pd, .int .i64 nd] 63)) w.heap.size (snapC A B C ca cb cc ns ps os) 26) := Lib.hid (Blk.alloc (Blk.new w _ _) _)
  have S0 : Hid (Blk ((w.alloc (.cells (snapC A B C ca cb cc ns ps os) 26)).alloc (.cells #[.int .i64 kd, .int .i64 pd, .int .i64 nd] 63)) (w.heap.size + 1) #[.int .i64 kd, .int .i64 pd, .int .i64 nd] 63) := Lib.hid (blk2 w _ _ _)
  have H := Lib.hid h
  have HP := Lib.hid hp
  have KA := Lib.hid (apply_any A B C P ca cb cc cp ns ps os p kd pd nd _ (h.below B0.out) (hp.below B0.out))
  have KW := Lib.hid (fun (W' : World) (hb : Below w.heap.size w W') (q : List Int) (Q : Option Addr) (cq : Nat) (hq : IntsAt W' Q cq q) => worse_at A B C P Q ca cb cc cp cq ns ps os p q W' (h.below hb) (hp.below hb) hq)
  have HOK := Lib.hid (fun h => @apply_ok ns ps os p kd pd nd h)
  have HT : Hid (tryF ns ps os p kd pd nd = if (applyF ns ps os p kd pd nd).2 ≠ 0 then ([], .err (applyF ns ps os p kd pd nd).2)
    else if kd = 2 ∧ cordB ns nd.toNat = true then ([], .err 100)
    else match worseU ns ps os p (applyF ns ps os p kd pd nd).1 with
      | c :: _ => ([], .cl c)
      | [] => ((applyF ns ps os p kd pd nd).1, .no)) := Lib.hid rfl
  generalize tryF ns ps os p kd pd nd = R at HT ⊢
  generalize applyF ns ps os p kd pd nd = F at KA HOK HT
  obtain ⟨q, eq⟩ := F
  dsimp only at KA HOK HT
  clear h hp
  go_enter Tryz.func81, Tryz.ntmps81
  go_upto_region 1 with fail
  try change Code.wp _ _ _ _ ((w.alloc (.cells (snapC A B C ca cb cc ns ps os) 26)).alloc (.cells #[.int .i64 kd, .int .i64 pd, .int .i64 nd] 63))
  generalize ((w.alloc (.cells (snapC A B C ca cb cc ns ps os) 26)).alloc (.cells #[.int .i64 kd, .int .i64 pd, .int .i64 nd] 63)) = W at B0 Z0 S0 KA ⊢
  have HC := Lib.hid (fun W' (hb : Below W.heap.size W W') => (show W'.cell? ⟨w.heap.size, 0, none⟩ = some (.slice A ns.length ca) ∧ W'.cell? ⟨w.heap.size, 1, none⟩ = some (.slice B ps.length cb) ∧ W'.cell? ⟨w.heap.size, 2, none⟩ = some (.slice C os.length cc) ∧ W'.cell? ⟨w.heap.size + 1, 0, none⟩ = some (.int .i64 kd) ∧ W'.cell? ⟨w.heap.size + 1, 1, none⟩ = some (.int .i64 pd) ∧ W'.cell? ⟨w.heap.size + 1, 2, none⟩ = some (.int .i64 nd) from ⟨Blk.cell (Z0.out.below hb Z0.out.lt) 0, Blk.cell (Z0.out.below hb Z0.out.lt) 1, Blk.cell (Z0.out.below hb Z0.out.lt) 2, Blk.cell (S0.out.below hb S0.out.lt) 0, Blk.cell (S0.out.below hb S0.out.lt) 1, Blk.cell (S0.out.below hb S0.out.lt) 2⟩))
  obtain ⟨z0, z1, z2, s0, s1, s2⟩ := HC.out _ (Below.refl _ W)
  go_wp2_with fail
  refine (KA.out).mono ?_
  rintro e w1 ⟨v, rfl, ho, hb⟩
  obtain ⟨Q, cq, rfl, _⟩ := La.own_slice ho
  have HB := Lib.hid (show Below W.heap.size W w1 from hb)
  have B1 := Lib.hid (B0.out.trans (hb.mono B0.out.size))
  have IQ := Lib.hid (IntsAt.own ho)
  have OQ := Lib.hid (own_base ho B0.out.size)
  clear ho hb KA z0 z1 z2 s0 s1 s2
  obtain ⟨z0, z1, z2, s0, s1, s2⟩ := HC.out _ HB.out
  by_cases hE : eq = 0
  case neg =>
    have hne : (eq != 0) = true := by simpa using hE
    have hR := HT.out
    rw [if_pos hE] at hR
    have HR := Lib.hid hR
    clear hE HT HOK hR
    go_wp2
    go_ret2
    rw [HR.out]
    exact ⟨_, rfl, World.ownsRow_nil _ _ _ _, B1.out⟩
  subst hE
  obtain ⟨hEp, hEq, hrange⟩ := HOK.out rfl
  have HR0 := HT.out
  rw [if_neg (by simp)] at HR0
  have HR := Lib.hid HR0
  clear HT HOK HR0
  have fin : ∀ (_ : ¬ (kd = 2 ∧ cordB ns nd.toNat = true)) , Hid (R = match worseU ns ps os p q with
      | c :: _ => ([], .cl c)
      | [] => (q, .no)) := fun h => Lib.hid (by rw [HR.out, if_neg h])
  have hlen : Hid (IntsAt w1 Q cq q) := IQ
  have KW1 := Lib.hid (KW.out _ B1.out q Q cq IQ.out)
  have hwF : worseF ns ps os p q = worseU ns ps os p q := by
    unfold worseF
    rw [if_pos hEp]
  rw [hwF] at KW1
  generalize worseE ns ps os p q = e9 at KW1
  generalize worseU ns ps os p q = L at KW1 fin
  clear hwF KW hEp hEq hlen
  by_cases h2 : kd = 2
  case neg =>
    have h2b : (kd == 2) = false := by simpa using h2
    have h2d : decide (kd = 2) = false := decide_eq_false h2
    have HF := fin (fun h => h2 h.1)
    go_wp2_with fail
    refine (KW1.out).mono ?_
    rintro e w2 ⟨vl, rfl, hol, hb2⟩
    obtain ⟨Gl, cl, rfl, _⟩ := La.own_slice hol
    have TL := Lib.hid (La.own_slat hol)
    have OQ2 := Lib.hid (La.own_below OQ.out hb2)
    have B2 := Lib.hid (B1.out.trans (hb2.mono B1.out.size))
    clear hol hb2 KW1 z0 z1 z2 s0 s1 s2 fin
    cases L with
    | nil =>
      have hR := HF.out
      clear HF HR
      go_wp2
      go_ret2
      rw [hR]
      exact ⟨_, rfl, OQ2.out, B2.out⟩
    | cons c t =>
      have hR := HF.out
      obtain ⟨gy, oy, hGy, hbl, c0, c1, c2, c3⟩ := atC TL.out (k := 0) (x := c) rfl
      subst hGy
      simp only [Nat.zero_mul, Nat.add_zero] at c0 c1 c2 c3
      have hl1 : (0 : Int) < (((c :: t).length : Nat) : Int) := by rw [List.length_cons]; omega
      have hl2 : decide ((0 : Int) < (((c :: t).length : Nat) : Int)) = true := decide_eq_true hl1
      have HL1 := Lib.hid hl1
      generalize (c :: t).length = n9 at hl1 hl2 ⊢
      have hl3 : 0 < n9 := by omega
      have hl4 : decide (0 < n9) = true := decide_eq_true hl3
      clear HF HR
      go_upto_region 8 with fail
      go_region
      all_goals
        (try go_wp2)
        go_ret2
        rw [hR]
        exact ⟨_, rfl, World.ownsRow_nil _ _ _ _, by first | exact B2.out | exact B2.out.drew | exact below_drewN B2.out _⟩
  subst h2
  obtain ⟨hn0, hn1⟩ := hrange rfl
  obtain ⟨nn, rfl⟩ := Int.eq_ofNat_of_zero_le hn0
  have hnl : nn < ns.length := by omega
  obtain ⟨x, hx⟩ : ∃ x, ns[nn]? = some x := ⟨ns[nn], List.getElem?_eq_getElem hnl⟩
  obtain ⟨bn, on, hAn, hbn, _, _, _, _, _, _, _, _, d8, _⟩ := atN (H.out.below B1.out).n.cells hx
  subst hAn
  have hcB : cordB ns (nn : Int).toNat = x.cordon := by
    unfold cordB
    rw [Int.toNat_natCast, hx]
  have HCB := Lib.hid hcB
  clear hcB hx hrange
  cases hcd : x.cordon with
  | true =>
    have hR := HR.out
    rw [if_pos ⟨rfl, by rw [HCB.out, hcd]⟩] at hR
    rw [hcd] at d8
    have HR2 := Lib.hid hR
    clear hR HR fin KW1 hcd HCB
    go_wp2
    go_ret2
    rw [HR2.out]
    exact ⟨_, rfl, World.ownsRow_nil _ _ _ _, B1.out⟩
  | false =>
    rw [hcd] at d8
    have hcn : ¬ ((2 : Int) = 2 ∧ cordB ns (nn : Int).toNat = true) := fun h => by
      have := h.2
      rw [HCB.out, hcd] at this
      cases this
    have HCN := Lib.hid hcn
    clear hcd HCB hcn
    have HF := fin (HCN.out)
    go_wp2_with fail
    refine (KW1.out).mono ?_
    rintro e w2 ⟨vl, rfl, hol, hb2⟩
    obtain ⟨Gl, cl, rfl, _⟩ := La.own_slice hol
    have TL := Lib.hid (La.own_slat hol)
    have OQ2 := Lib.hid (La.own_below OQ.out hb2)
    have B2 := Lib.hid (B1.out.trans (hb2.mono B1.out.size))
    clear hol hb2 KW1 z0 z1 z2 s0 s1 s2 fin
    cases L with
    | nil =>
      have hR := HF.out
      clear HF HR
      go_wp2
      go_ret2
      rw [hR]
      exact ⟨_, rfl, OQ2.out, B2.out⟩
    | cons c t =>
      have hR := HF.out
      obtain ⟨gy, oy, hGy, hbl, c0, c1, c2, c3⟩ := atC TL.out (k := 0) (x := c) rfl
      subst hGy
      simp only [Nat.zero_mul, Nat.add_zero] at c0 c1 c2 c3
      have hl1 : (0 : Int) < (((c :: t).length : Nat) : Int) := by rw [List.length_cons]; omega
      have hl2 : decide ((0 : Int) < (((c :: t).length : Nat) : Int)) = true := decide_eq_true hl1
      have HL1 := Lib.hid hl1
      generalize (c :: t).length = n9 at hl1 hl2 ⊢
      have hl3 : 0 < n9 := by omega
      have hl4 : decide (0 < n9) = true := decide_eq_true hl3
      clear HF HR
      go_upto_region 8 with fail
      go_region
      all_goals
        (try go_wp2)
        go_ret2
        rw [hR]
        exact ⟨_, rfl, World.ownsRow_nil _ _ _ _, by first | exact B2.out | exact B2.out.drew | exact below_drewN B2.out _⟩
end Go.Proofs.YtiiheajieegdkaaGreat

namespace Go.Proofs.YtiiheajieegdkaaGreat
open Go.RowKit Go.Maps Go.Shelf

theorem results_mid {P : Program} {fn : Func} {p s u : Tmp} {ty : TypeId} (h : fn.results = #[.tmp s, .cell p ty, .tmp u]) (tmps : Array Value) (w : World) (g : Nat) (t : TypeId) (cs : Array Value) (fr : Nat × Nat) (d : TypeDesc) (v v2 : Value)
    (hp : tmps.getD p undef = .pointer (some ⟨g, 0, none⟩)) (hs : tmps.getD s undef = v) (hu2 : tmps.getD u undef = v2) (hg : w.heap[g]? = some (.cells cs t fr))
    (hu : P.underlying ty = some d) (hd : (match d with | .struct _ | .array _ _ => true | _ => false) = true) (hi : (P.info? ty).map (·.size) = some cs.size) :
    (results fn tmps).run P w = .ok (.tuple #[v, .agg cs, v2]) w := by
  have hp' : tmps[p]?.getD undef = .pointer (some ⟨g, 0, none⟩) := by simpa using hp
  have hs' : tmps[s]?.getD undef = v := by simpa using hs
  have hu' : tmps[u]?.getD undef = v2 := by simpa using hu2
  simp [results, h, hp', hs', hu', asAddr, run_loadVar_row w g t ty cs fr d hg hu hd hi]
theorem bodyPost_mid {P : Program} {fn : Func} {p s u : Tmp} {ty : TypeId} {R : Ending → World → Prop} {a : Act} {w : World} (h : fn.results = #[.tmp s, .cell p ty, .tmp u]) (g : Nat) (t : TypeId) (cs : Array Value) (fr : Nat × Nat) (d : TypeDesc) (v v2 : Value)
    (hd0 : a.defers = []) (hp : a.tmps.getD p undef = .pointer (some ⟨g, 0, none⟩)) (hs : a.tmps.getD s undef = v) (hu2 : a.tmps.getD u undef = v2) (hg : w.heap[g]? = some (.cells cs t fr))
    (hu : P.underlying ty = some d) (hd : (match d with | .struct _ | .array _ _ => true | _ => false) = true) (hi : (P.info? ty).map (·.size) = some cs.size)
    (hR : R (.returned (.tuple #[v, .agg cs, v2])) w) : bodyPost P fn R .ret a w :=
  bodyPost_ret (results_mid h a.tmps w g t cs fr d v v2 hp hs hu2 hg hu hd hi) hd0 hR
/-- What it is to answer a row, a clause, a number. -/
abbrev StepNo (w : World) (q : List Int) (c : ClT) (x : Int) (e : Ending) (w' : World) : Prop := ∃ v, e = .returned (.tuple #[v, clV c, .int .i64 x]) ∧ w'.ownsRow w.heap.size 3 1 v q.length (intsC q) ∧ Below w.heap.size w w'
/-- Four cells of a clause are written. -/
abbrev set4 (W : World) (b : Nat) (c : ClT) : World := (((W.setCell ⟨b, 0, none⟩ (.int .i64 c.1)).setCell ⟨b, 1, none⟩ (.int .i64 c.2.1)).setCell ⟨b, 2, none⟩ (.int .i64 c.2.2.1)).setCell ⟨b, 3, none⟩ (.int .i64 c.2.2.2)
abbrev clC (c : ClT) : Array Value := #[.int .i64 c.1, .int .i64 c.2.1, .int .i64 c.2.2.1, .int .i64 c.2.2.2]
theorem blk4 {W : World} {b : Nat} {t : TypeId} {c0 : ClT} (h : Blk W b (clC c0) t) (c : ClT) : Blk (set4 W b c) b (clC c) t := (((h.set 0 _).set 1 _).set 2 _).set 3 _
theorem below4 {w W : World} {B b : Nat} (h : Below B w W) (hb : B ≤ b) (c : ClT) : Below B w (set4 W b c) := (((h.setCell (p := ⟨b, 0, none⟩) hb _).setCell (p := ⟨b, 1, none⟩) hb _).setCell (p := ⟨b, 2, none⟩) hb _).setCell (p := ⟨b, 3, none⟩) hb _
theorem own4 {w : World} {base n : Nat} {v : Value} {xs : List Value} (h : w.ownsRow base 3 1 v n xs) {b : Nat} {c0 : ClT} (hb : Blk w b (clC c0) 47) (c : ClT) : (set4 w b c).ownsRow base 3 1 v n xs := by
  have h1 := ch_set h hb (by decide) 0 (.int .i64 c.1)
  have b1 := hb.set 0 (.int .i64 c.1)
  have h2 := ch_set h1 b1 (by decide) 1 (.int .i64 c.2.1)
  have b2 := b1.set 1 (.int .i64 c.2.1)
  have h3 := ch_set h2 b2 (by decide) 2 (.int .i64 c.2.2.1)
  have b3 := b2.set 2 (.int .i64 c.2.2.1)
  exact ch_set h3 b3 (by decide) 3 (.int .i64 c.2.2.2)
theorem cells_of4 {W : World} {b : Nat} {c : ClT} (h : Blk W b (clC c) 47) : (W.cell? ⟨b, 0, none⟩ = some (.int .i64 c.1) ∧ W.cell? ⟨b, 1, none⟩ = some (.int .i64 c.2.1) ∧ W.cell? ⟨b, 2, none⟩ = some (.int .i64 c.2.2.1) ∧ W.cell? ⟨b, 3, none⟩ = some (.int .i64 c.2.2.2)) ∧ W.frozen? ⟨b, 0, none⟩ = false ∧ W.frozen? ⟨b, 1, none⟩ = false ∧ W.frozen? ⟨b, 2, none⟩ = false ∧ W.frozen? ⟨b, 3, none⟩ = false :=
  ⟨⟨Blk.cell h 0, Blk.cell h 1, Blk.cell h 2, Blk.cell h 3⟩, Blk.free h 0, Blk.free h 1, Blk.free h 2, Blk.free h 3⟩
def z4 : ClT := (0, 0, 0, 0)

/-- What a step answers: the row, the clause, the number. -/
def stepF (ns : List NodeD) (ps : List PodD) (os : List OwnD) (p : List Int) (x : Int × Int × Int) : List Int × ClT × Int := ((tryF ns ps os p x.1 x.2.1 x.2.2).1, (tryF ns ps os p x.1 x.2.1 x.2.2).2.c, (tryF ns ps os p x.1 x.2.1 x.2.2).2.e)
def mayB (ns : List NodeD) (ps : List PodD) (os : List OwnD) (p : List Int) (x : Int × Int × Int) : Bool := decide ((stepF ns ps os p x).2.2 = 0)

set_option maxRecDepth 100000 in
set_option maxHeartbeats 4000000 in
theorem step_any (A B C P : Option Addr) (ca cb cc cp : Nat) (ns : List NodeD) (ps : List PodD) (os : List OwnD) (p : List Int) (kd pd nd : Int) (w : World) (h : SnapAt w A B C ca cb cc ns ps os) (hp : IntsAt w P cp p) :
    Calls Tryz.prog 26 #[snapV A B C ca cb cc ns ps os, .slice P p.length cp, stepV kd pd nd] w fun e w' => StepNo w (stepF ns ps os p (kd, pd, nd)).1 (stepF ns ps os p (kd, pd, nd)).2.1 (stepF ns ps os p (kd, pd, nd)).2.2 e w' := by
  have B0 : Hid (Below w.heap.size w (((w.alloc (.cells (snapC A B C ca cb cc ns ps os) 26)).alloc (.cells #[.int .i64 kd, .int .i64 pd, .int .i64 nd] 63)).alloc (.cells (clC z4) 47))) := Lib.hid ((Qu.below2 w _ _).alloc (by simp; omega) _)
  have Z0 : Hid (Blk (((w.alloc (.cells (snapC A B C ca cb cc ns ps os) 26)).alloc (.cells #[.int .i64 kd, .int .i64 pd, .int .i64 nd] 63)).alloc (.cells (clC z4) 47)) w.heap.size (snapC A B C ca cb cc ns ps os) 26) := Lib.hid (Blk.alloc (Blk.alloc (Blk.new w _ _) _) _)
  have S0 : Hid (Blk (((w.alloc (.cells (snapC A B C ca cb cc ns ps os) 26)).alloc (.cells #[.int .i64 kd, .int .i64 pd, .int .i64 nd] 63)).alloc (.cells (clC z4) 47)) (w.heap.size + 1) #[.int .i64 kd, .int .i64 pd, .int .i64 nd] 63) := Lib.hid (Blk.alloc (blk2 w _ _ _) _)
  have C0 : Hid (Blk (((w.alloc (.cells (snapC A B C ca cb cc ns ps os) 26)).alloc (.cells #[.int .i64 kd, .int .i64 pd, .int .i64 nd] 63)).alloc (.cells (clC z4) 47)) (w.heap.size + 1 + 1) (clC z4) 47) := Lib.hid (by
    have := Blk.new ((w.alloc (.cells (snapC A B C ca cb cc ns ps os) 26)).alloc (.cells #[.int .i64 kd, .int .i64 pd, .int .i64 nd] 63)) (clC z4) 47
    rw [World.size_alloc, World.size_alloc] at this
    exact this)
  have KT := Lib.hid (try_any A B C P ca cb cc cp ns ps os p kd pd nd _ (h.below B0.out) (hp.below B0.out))
  have HS : Hid (stepF ns ps os p (kd, pd, nd) = ((tryF ns ps os p kd pd nd).1, (tryF ns ps os p kd pd nd).2.c, (tryF ns ps os p kd pd nd).2.e)) := Lib.hid rfl
  generalize stepF ns ps os p (kd, pd, nd) = R at HS ⊢
  generalize tryF ns ps os p kd pd nd = T at KT HS
  obtain ⟨q, ag⟩ := T
  dsimp only at KT HS
  have hR := HS.out
  clear h hp HS
  subst hR
  show Calls Tryz.prog 26 #[snapV A B C ca cb cc ns ps os, .slice P p.length cp, stepV kd pd nd] w fun e w' => StepNo w q ag.c ag.e e w'
  have KC := Lib.hid (fun W' => clauseOf_any ag W')
  have KE := Lib.hid (fun W' => errorOf_any ag W')
  generalize ag.c = c at KC ⊢
  generalize ag.e = x at KE ⊢
  generalize ag.v = av at KC KE KT ⊢
  go_enter Tryz.func26, Tryz.ntmps26
  go_upto_region 1 with fail
  try change Code.wp _ _ _ _ (((w.alloc (.cells (snapC A B C ca cb cc ns ps os) 26)).alloc (.cells #[.int .i64 kd, .int .i64 pd, .int .i64 nd] 63)).alloc (.cells (clC z4) 47))
  generalize (((w.alloc (.cells (snapC A B C ca cb cc ns ps os) 26)).alloc (.cells #[.int .i64 kd, .int .i64 pd, .int .i64 nd] 63)).alloc (.cells (clC z4) 47)) = W at B0 Z0 S0 C0 KT ⊢
  have z0 : W.cell? ⟨w.heap.size, 0, none⟩ = some (.slice A ns.length ca) := Blk.cell Z0.out 0
  have z1 : W.cell? ⟨w.heap.size, 1, none⟩ = some (.slice B ps.length cb) := Blk.cell Z0.out 1
  have z2 : W.cell? ⟨w.heap.size, 2, none⟩ = some (.slice C os.length cc) := Blk.cell Z0.out 2
  have s0 : W.cell? ⟨w.heap.size + 1, 0, none⟩ = some (.int .i64 kd) := Blk.cell S0.out 0
  have s1 : W.cell? ⟨w.heap.size + 1, 1, none⟩ = some (.int .i64 pd) := Blk.cell S0.out 1
  have s2 : W.cell? ⟨w.heap.size + 1, 2, none⟩ = some (.int .i64 nd) := Blk.cell S0.out 2
  go_wp2_with fail
  refine (KT.out).mono ?_
  rintro e w1 ⟨v, rfl, ho, hb⟩
  have O1 := Lib.hid ho
  have C1 := Lib.hid (C0.out.below hb C0.out.lt)
  have B1 := Lib.hid (B0.out.trans (hb.mono B0.out.size))
  have hb0 := Lib.hid B0.out.size
  clear ho hb KT z0 z1 z2 s0 s1 s2 Z0 S0 C0 B0
  go_wp2_with fail
  refine (KC.out _).mono ?_
  rintro e w2 ⟨rfl, hb⟩
  have O2 := Lib.hid (La.own_below O1.out hb)
  have C2 := Lib.hid (C1.out.below hb C1.out.lt)
  have B2 := Lib.hid (B1.out.trans (hb.mono B1.out.size))
  clear hb KC O1 C1 B1
  go_wp2_with fail
  refine (KE.out _).mono ?_
  rintro e w3 ⟨rfl, hb⟩
  have O3 := Lib.hid (La.own_below O2.out hb)
  have C3 := Lib.hid (C2.out.below hb C2.out.lt)
  have B3 := Lib.hid (B2.out.trans (hb.mono B2.out.size))
  clear hb KE O2 C2 B2
  obtain ⟨⟨y0, y1, y2, y3⟩, g0, g1, g2, g3⟩ := cells_of4 C3.out
  have O4 := Lib.hid (own_base (own4 O3.out C3.out c) hb0.out)
  have C4 := Lib.hid (blk4 C3.out c)
  have B4 := Lib.hid (below4 B3.out (show w.heap.size ≤ w.heap.size + 1 + 1 by omega) c)
  go_wp2
  refine bodyPost_mid Tryz.results26 (w.heap.size + 1 + 1) _ _ _ _ v (.int .i64 x) (by rfl) (by rfl) (by rfl) (by rfl) C4.out Tryz.underlying47 rfl (by kernel_rfl) ?_
  exact ⟨_, rfl, O4.out, B4.out⟩

set_option maxRecDepth 100000 in
set_option maxHeartbeats 2000000 in
theorem may_anyA (A B C P : Option Addr) (ca cb cc cp : Nat) (ns : List NodeD) (ps : List PodD) (os : List OwnD) (p : List Int) (kd pd nd : Int) (w : World) (h : SnapAt w A B C ca cb cc ns ps os) (hp : IntsAt w P cp p) :
    Calls Tryz.prog 34 #[snapV A B C ca cb cc ns ps os, .slice P p.length cp, stepV kd pd nd] w fun e w' => e = .returned (.bool (mayB ns ps os p (kd, pd, nd))) ∧ Below w.heap.size w w' := by
  have B0 : Hid (Below w.heap.size w ((w.alloc (.cells (snapC A B C ca cb cc ns ps os) 26)).alloc (.cells #[.int .i64 kd, .int .i64 pd, .int .i64 nd] 63))) := Lib.hid (Qu.below2 w _ _)
  have Z0 : Hid (Blk ((w.alloc (.cells (snapC A B C ca cb cc ns ps os) 26)).alloc (.cells #[.int .i64 kd, .int .i64 pd, .int .i64 nd] 63)) w.heap.size (snapC A B C ca cb cc ns ps os) 26) := Lib.hid (Blk.alloc (Blk.new w _ _) _)
  have S0 : Hid (Blk ((w.alloc (.cells (snapC A B C ca cb cc ns ps os) 26)).alloc (.cells #[.int .i64 kd, .int .i64 pd, .int .i64 nd] 63)) (w.heap.size + 1) #[.int .i64 kd, .int .i64 pd, .int .i64 nd] 63) := Lib.hid (blk2 w _ _ _)
  have KT := Lib.hid (try_any A B C P ca cb cc cp ns ps os p kd pd nd _ (h.below B0.out) (hp.below B0.out))
  have HS : Hid (mayB ns ps os p (kd, pd, nd) = decide ((tryF ns ps os p kd pd nd).2.e = 0)) := Lib.hid rfl
  generalize mayB ns ps os p (kd, pd, nd) = R at HS ⊢
  generalize tryF ns ps os p kd pd nd = T at KT HS
  obtain ⟨q, ag⟩ := T
  dsimp only at KT HS
  clear h hp
  have KE := Lib.hid (fun W' => errorOf_any ag W')
  generalize ag.e = x at KE HS ⊢
  generalize ag.v = av at KE KT ⊢
  go_enter Tryz.func34, Tryz.ntmps34
  go_upto_region 1 with fail
  try change Code.wp _ _ _ _ ((w.alloc (.cells (snapC A B C ca cb cc ns ps os) 26)).alloc (.cells #[.int .i64 kd, .int .i64 pd, .int .i64 nd] 63))
  generalize ((w.alloc (.cells (snapC A B C ca cb cc ns ps os) 26)).alloc (.cells #[.int .i64 kd, .int .i64 pd, .int .i64 nd] 63)) = W at B0 Z0 S0 KT ⊢
  have z0 : W.cell? ⟨w.heap.size, 0, none⟩ = some (.slice A ns.length ca) := Blk.cell Z0.out 0
  have z1 : W.cell? ⟨w.heap.size, 1, none⟩ = some (.slice B ps.length cb) := Blk.cell Z0.out 1
  have z2 : W.cell? ⟨w.heap.size, 2, none⟩ = some (.slice C os.length cc) := Blk.cell Z0.out 2
  have s0 : W.cell? ⟨w.heap.size + 1, 0, none⟩ = some (.int .i64 kd) := Blk.cell S0.out 0
  have s1 : W.cell? ⟨w.heap.size + 1, 1, none⟩ = some (.int .i64 pd) := Blk.cell S0.out 1
  have s2 : W.cell? ⟨w.heap.size + 1, 2, none⟩ = some (.int .i64 nd) := Blk.cell S0.out 2
  go_wp2_with fail
  refine (KT.out).mono ?_
  rintro e w1 ⟨v, rfl, ho, hb⟩
  have B1 := Lib.hid (B0.out.trans (hb.mono B0.out.size))
  clear ho hb KT z0 z1 z2 s0 s1 s2 Z0 S0 B0
  go_wp2_with fail
  refine (KE.out _).mono ?_
  rintro e w3 ⟨rfl, hb⟩
  have B3 := Lib.hid (B1.out.trans (hb.mono B1.out.size))
  clear hb KE B1
  by_cases hx : x = 0
  · have hR : R = true := by rw [HS.out]; exact decide_eq_true hx
    clear HS
    subst hx hR
    go_wp2
    go_ret
    exact ⟨rfl, B3.out⟩
  · have hR : R = false := by rw [HS.out]; exact decide_eq_false hx
    have h1 : (x == 0) = false := by simpa using hx
    have h2 : decide (x = 0) = false := decide_eq_false hx
    clear HS hx
    subst hR
    go_wp2
    go_ret
    exact ⟨rfl, B3.out⟩
end Go.Proofs.YtiiheajieegdkaaGreat

namespace Go.Proofs.YtiiheajieegdkaaGreat
open Go.ChangeShapes Go.WideShapes Go.ChangeAt Go.RowKit Go.Deep

abbrev S3T := Int × Int × Int
def cells3 (l : List S3T) : List Value := l.flatMap fun x => [.int .i64 x.1, .int .i64 x.2.1, .int .i64 x.2.2]
theorem cells3_at : ∀ (l : List S3T) (k : Nat) (x : S3T), l[k]? = some x → (cells3 l)[k * 3]? = some (.int .i64 x.1) ∧ (cells3 l)[k * 3 + 1]? = some (.int .i64 x.2.1) ∧ (cells3 l)[k * 3 + 2]? = some (.int .i64 x.2.2)
  | [], k, x, h => by simp at h
  | y :: t, 0, x, h => by
    simp only [List.getElem?_cons_zero, Option.some.injEq] at h
    subst h
    exact ⟨rfl, rfl, rfl⟩
  | y :: t, k + 1, x, h => by
    obtain ⟨h0, h1, h2⟩ := cells3_at t k x (by simpa using h)
    have e : cells3 (y :: t) = [.int .i64 y.1, .int .i64 y.2.1, .int .i64 y.2.2] ++ cells3 t := rfl
    rw [e]
    refine ⟨?_, ?_, ?_⟩
    · rw [List.getElem?_append_right (by simp; omega), ← h0]; congr 1; simp; omega
    · rw [List.getElem?_append_right (by simp; omega), ← h1]; congr 1; simp; omega
    · rw [List.getElem?_append_right (by simp; omega), ← h2]; congr 1; simp; omega
theorem atSt {w : World} {A : Option Addr} {l : List S3T} (h : La.SlAt w A (cells3 l)) {k : Nat} {x : S3T} (hk : l[k]? = some x) :
    ∃ b o, A = some ⟨b, o, none⟩ ∧ b < w.heap.size ∧ w.cell? ⟨b, o + k * 3, none⟩ = some (.int .i64 x.1) ∧ w.cell? ⟨b, o + k * 3 + 1, none⟩ = some (.int .i64 x.2.1) ∧ w.cell? ⟨b, o + k * 3 + 2, none⟩ = some (.int .i64 x.2.2) := by
  obtain ⟨h0, h1, h2⟩ := cells3_at l k x hk
  obtain ⟨b, o, hA, hc⟩ := h _ _ h0
  obtain ⟨b', o', hA', hc'⟩ := h _ _ h1
  rw [hA] at hA'
  cases hA'
  obtain ⟨b', o', hA', hc''⟩ := h _ _ h2
  rw [hA] at hA'
  cases hA'
  exact ⟨b, o, hA, World.block_lt_of_cell? w _ hc, hc, by rw [Nat.add_assoc]; exact hc', by rw [Nat.add_assoc]; exact hc''⟩

theorem kcStep : Tryz.prog.cellsOf 63 = 3 := by kernel_rfl
section
variable {H : Type} {enc : TypeId × Value → H} {W : World} {held : Bool}
set_option maxRecDepth 100000 in
theorem step_row (n : Nat) (cs : List Value) (x : DataW H × List MemPlace) (h : DataW.trod enc Tryz.prog W 0 (fun _ => true) held n 63 cs = some x) : ∃ y : S3T, cs = [.int .i64 y.1, .int .i64 y.2.1, .int .i64 y.2.2] := by
  obtain ⟨xs, m, _, _, hl, hxl, hf⟩ := DataW.trod_struct Tryz.underlying63 h
  rw [kcStep] at hl
  match cs, hl, xs, hxl with
  | [c0, c1, c2], _, [y0, y1, y2], _ =>
    have h0 : DataW.trod enc Tryz.prog W 0 (fun _ => true) held m 3 ((([c0, c1, c2] : List Value).drop 0).take (Tryz.prog.cellsOf 3)) = some y0 := hf 0 _ rfl
    have h1 : DataW.trod enc Tryz.prog W 0 (fun _ => true) held m 3 ((([c0, c1, c2] : List Value).drop 1).take (Tryz.prog.cellsOf 3)) = some y1 := hf 1 _ rfl
    have h2 : DataW.trod enc Tryz.prog W 0 (fun _ => true) held m 3 ((([c0, c1, c2] : List Value).drop 2).take (Tryz.prog.cellsOf 3)) = some y2 := hf 2 _ rfl
    rw [kcInt] at h0 h1 h2
    obtain ⟨i0, e0⟩ := int_one (enc := enc) (W := W) (held := held) (n := m) (c := c0) (x := y0) h0
    obtain ⟨i1, e1⟩ := int_one (enc := enc) (W := W) (held := held) (n := m) (c := c1) (x := y1) h1
    obtain ⟨i2, e2⟩ := int_one (enc := enc) (W := W) (held := held) (n := m) (c := c2) (x := y2) h2
    exact ⟨(i0, i1, i2), by rw [e0, e1, e2]⟩
end
set_option maxRecDepth 100000 in
theorem open_steps {H : Type} {enc : TypeId × Value → H} {W : World} {r : Reach} {b0 : Nat} {held : Bool} {v : Value} {d : DataW H} {p : List MemPlace}
    (hv : Value.okWide Tryz.prog W r b0 56 v) (h : DataW.Trod enc Tryz.prog W 0 (fun _ => true) held 56 v d p) :
    ∃ A c l, v = .slice A (List.length l) c ∧ La.SlAt W A (cells3 l) ∧ l.length ≤ 9223372036854775807 := by
  obtain ⟨a0, len, cap, rfl⟩ := okWide_slice Tryz.underlying56 hv
  obtain ⟨fuel, hf⟩ := h
  have hf' : DataW.trod enc Tryz.prog W 0 (fun _ => true) held fuel 56 [.slice a0 len cap] = some _ := hf
  obtain ⟨A, c, l, e, hs, h1, h2, _⟩ := slice_cells (T := S3T) (fun y => [.int .i64 y.1, .int .i64 y.2.1, .int .i64 y.2.2]) 3 (fun _ => True) Tryz.underlying56 kcStep (by omega) (fun _ => rfl) (fun n cs x h => by
    obtain ⟨y, e⟩ := step_row n cs x h
    exact ⟨y, e, trivial⟩) hf'
  simp only [List.cons.injEq, and_true] at e
  exact ⟨A, c, l, e, hs, Nat.le_trans h1 (kmax h2)⟩
end Go.Proofs.YtiiheajieegdkaaGreat

namespace Go.Proofs.YtiiheajieegdkaaGreat
open Go.RowKit Go.Maps Go.Shelf

/-- The nodes for a pod, out of the first k. -/
def waysU (ns : List NodeD) (ps : List PodD) (os : List OwnD) (p : List Int) (pd : Int) : Nat → List Int
  | 0 => []
  | k + 1 => waysU ns ps os p pd k ++ (if mayB ns ps os p (2, pd, (k : Int)) then [(k : Int)] else [])
theorem waysU_len (ns : List NodeD) (ps : List PodD) (os : List OwnD) (p : List Int) (pd : Int) : ∀ k, (waysU ns ps os p pd k).length ≤ k
  | 0 => Nat.le_refl _
  | k + 1 => by
    have := waysU_len ns ps os p pd k
    rw [waysU, List.length_append]
    split <;> simp <;> omega
/-- Steps, one behind the other, from the k-th on. -/
def runF (ns : List NodeD) (ps : List PodD) (os : List OwnD) : List Int → List S3T → Nat → List Int × Nat × Int
  | p, [], k => (p, k, 0)
  | p, x :: t, k => if (stepF ns ps os p x).2.2 = 0 then runF ns ps os (stepF ns ps os p x).1 t (k + 1) else ([], k, (stepF ns ps os p x).2.2)
/-- What Run tells. -/
def runR (ns : List NodeD) (ps : List PodD) (os : List OwnD) (p : List Int) (l : List S3T) : List Int × Nat × Int := if placeE ns ps os p = 0 then runF ns ps os p l 0 else ([], 0, placeE ns ps os p)
theorem run_at {ns : List NodeD} {ps : List PodD} {os : List OwnD} {q : List Int} {l : List S3T} {k : Nat} {x : S3T} (hx : l[k]? = some x) : runF ns ps os q (l.drop k) k = if (stepF ns ps os q x).2.2 = 0 then runF ns ps os (stepF ns ps os q x).1 (l.drop (k + 1)) (k + 1) else ([], k, (stepF ns ps os q x).2.2) := by
  obtain ⟨h1, rfl⟩ := List.getElem?_eq_some_iff.1 hx
  rw [List.drop_eq_getElem_cons h1, runF]
theorem run_end {ns : List NodeD} {ps : List PodD} {os : List OwnD} {q : List Int} {l : List S3T} : runF ns ps os q (l.drop l.length) l.length = (q, l.length, 0) := by
  rw [List.drop_length, runF]
theorem step_fewS {ns : List NodeD} {ps : List PodD} {os : List OwnD} {p : List Int} {x : S3T} (hl : ps.length ≤ 1000) : (stepF ns ps os p x).1.length ≤ 1000 := by
  unfold stepF tryF
  dsimp only
  split
  · simp
  · split
    · simp
    · split
      · simp
      · rename_i h _ _ _
        have := placeE_len (apply_ok (by simpa using h)).2.1
        dsimp only
        omega
/-- What it is to answer a row, a count, a number. -/
abbrev RunNo (w : World) (R : List Int × Nat × Int) (e : Ending) (w' : World) : Prop := ∃ v, e = .returned (.tuple #[v, .int .i64 (R.2.1 : Int), .int .i64 R.2.2]) ∧ w'.ownsRow w.heap.size 3 1 v R.1.length (intsC R.1) ∧ Below w.heap.size w w'

set_option maxRecDepth 100000 in
set_option maxHeartbeats 4000000 in
theorem ways_anyA (A B C P : Option Addr) (ca cb cc cp : Nat) (ns : List NodeD) (ps : List PodD) (os : List OwnD) (p : List Int) (pd : Int) (w : World) (h : SnapAt w A B C ca cb cc ns ps os) (hp : IntsAt w P cp p) :
    Calls Tryz.prog 35 #[snapV A B C ca cb cc ns ps os, .slice P p.length cp, .int .i64 pd] w fun e w' => ∃ v, e = .returned v ∧ w'.ownsRow w.heap.size 3 1 v (waysU ns ps os p pd ns.length).length (intsC (waysU ns ps os p pd ns.length)) ∧ Below w.heap.size w w' := by
  have B0 : Hid (Below w.heap.size w (w.alloc (.cells (snapC A B C ca cb cc ns ps os) 26))) := Lib.hid (below1 w _)
  have S0 : Hid (Blk (w.alloc (.cells (snapC A B C ca cb cc ns ps os) 26)) w.heap.size (snapC A B C ca cb cc ns ps os) 26) := Lib.hid (Blk.new w _ _)
  have hln := h.ln
  have KM := Lib.hid (fun (W' : World) (hb : Below w.heap.size w W') (k : Nat) => may_anyA A B C P ca cb cc cp ns ps os p 2 pd (k : Int) W' (h.below hb) (hp.below hb))
  have HW : Hid (∀ k : Nat, waysU ns ps os p pd (k + 1) = waysU ns ps os p pd k ++ (if mayB ns ps os p (2, pd, (k : Int)) then [(k : Int)] else [])) := Lib.hid (fun k => rfl)
  have HL := Lib.hid (fun k => waysU_len ns ps os p pd k)
  have HZ : Hid (waysU ns ps os p pd 0 = []) := Lib.hid rfl
  obtain ⟨i0, hi0, hz0, hz1, hz2⟩ := info_parts Qu.int_info
  generalize waysU ns ps os p pd = U at HW HL HZ ⊢
  generalize mayB ns ps os p = M at KM HW
  clear h hp
  go_enter Tryz.func35, Tryz.ntmps35
  go_upto_region 1 with fail
  try change Code.wp _ _ _ _ (w.alloc (.cells (snapC A B C ca cb cc ns ps os) 26))
  generalize (w.alloc (.cells (snapC A B C ca cb cc ns ps os) 26)) = W at B0 S0 ⊢
  have HC := Lib.hid (fun W' (hb : Below W.heap.size W W') => (show W'.cell? ⟨w.heap.size, 0, none⟩ = some (.slice A ns.length ca) ∧ W'.cell? ⟨w.heap.size, 1, none⟩ = some (.slice B ps.length cb) ∧ W'.cell? ⟨w.heap.size, 2, none⟩ = some (.slice C os.length cc) from ⟨Blk.cell (S0.out.below hb S0.out.lt) 0, Blk.cell (S0.out.below hb S0.out.lt) 1, Blk.cell (S0.out.below hb S0.out.lt) 2⟩))
  obtain ⟨z0, z1, z2⟩ := HC.out _ (Below.refl _ W)
  go_wp2_with fail
  clear z0 z1 z2
  go_loopw [7, 12] (fun v i wr => ∃ k : Nat, k ≤ ns.length ∧ i = .int .i64 k ∧ wr.ownsRow W.heap.size 3 1 v (U k).length (intsC (U k)) ∧ Below W.heap.size W wr) (fun _ i _ => ns.length - (intOf i).toNat)
  case atStart => exact ⟨0, by omega, rfl, by rw [HZ.out]; exact World.ownsRow_nil _ _ _ _, Below.refl _ _⟩
  case round =>
    obtain ⟨k, hk, rfl, ho, hb⟩ := hrel
    have HO := Lib.hid ho
    have HB := Lib.hid hb
    clear ho hb
    obtain ⟨z0, z1, z2⟩ := HC.out _ HB.out
    by_cases hlt : k < ns.length
    case neg =>
      obtain rfl : k = ns.length := by omega
      go_wp2
      go_ret
      exact ⟨_, rfl, own_base HO.out B0.out.size, B0.out.trans (HB.out.mono B0.out.size)⟩
    have k0 : (0 : Int) ≤ (k : Int) := by omega
    have k1 : (k : Int) < (ns.length : Int) := by omega
    have hUk := HL.out k
    have HWk := Lib.hid (HW.out k)
    have KMk := Lib.hid (KM.out _ (B0.out.trans (HB.out.mono B0.out.size)) k)
    generalize U k = L at HO HWk hUk
    generalize hU' : U (k + 1) = L' at HWk
    have HU' := Lib.hid hU'
    clear hU'
    go_wp2_with fail
    refine (KMk.out).mono ?_
    rintro e w1 ⟨rfl, hb1⟩
    have HO1 := Lib.hid (La.own_below HO.out hb1)
    have HB1 := Lib.hid (HB.out.trans (hb1.mono HB.out.size))
    clear hb1 KMk HO HB z0 z1 z2
    cases hm : M (2, pd, (k : Int)) with
    | false =>
      have HE : Hid (L' = L) := Lib.hid (by rw [HWk.out, hm]; simp)
      clear HWk hm
      go_wp2_with fail
      go_roundw
      case rel => exact ⟨k + 1, by omega, by go_num, by rw [HU'.out, HE.out]; exact HO1.out, HB1.out⟩
      case measure => simp [intOf]; omega
    | true =>
      have HE : Hid (L' = L ++ [(k : Int)]) := Lib.hid (by rw [HWk.out, hm]; simp)
      clear HWk hm
      go_wp2_with (at_builtin; refine wpList_append_own _ rfl _ _ 44 rfl W.heap.size 3 i0 (.int .i64 0) 1 8 Tryz.underlying44 hi0 hz0 hz1 hz2 rfl (by decide) _ _ _ rfl (show World.ownsRow _ _ _ _ _ _ _ from HO1.out.alloc _) ⟨w1.heap.size, 0, none⟩ 1 1 [.int .i64 (k : Int)] rfl rfl ?c1 ?c2 ?c3 ?c4 ?c5 ?_)
      case c1 =>
        intro j u hj
        match j, hj with
        | 0, hj => simp at hj; subst hj; simp [Addr.add]
      case c2 => first | rfl | (intro u hu; simp at hu; subst hu; rfl)
      case c3 => unfold maxLen; omega
      case c4 => omega
      case c5 => have := HB1.out.size; simp; omega
      intro v4 w4 hown4 hgrow4 _
      have P4 := Lib.hid hown4
      have D4 := Lib.hid ((HB1.out.alloc HB1.out.size (.cells #[.int .i64 (k : Int)] 3)).grown hgrow4 (by have := HB1.out.size; simp; omega) (fun j hj => own_gem HO1.out hj))
      clear hown4 hgrow4
      go_wp2_with fail
      go_roundw
      case rel =>
        refine ⟨k + 1, by omega, by go_num, ?_, D4.out⟩
        rw [HU'.out, HE.out, List.length_append]
        have := P4.out
        simpa [intsC] using this
      case measure => simp [intOf]; omega


set_option maxRecDepth 100000 in
theorem cloneI_any (P : Option Addr) (cp : Nat) (p : List Int) (w : World) (hfew : p.length ≤ 1000) (hpp : ∀ a, P = some a → ∃ b o, a = ⟨b, o, none⟩) (hp : IntsAt w P cp p) :
    Calls Tryz.prog 84 #[.slice P p.length cp] w fun e w' => ∃ v, e = .returned v ∧ w'.ownsRow w.heap.size 3 1 v p.length (intsC p) ∧ Below w.heap.size w w' := by
  cases P with
  | none =>
    obtain rfl := noneI hp.cells
    refine (Tryz.slices_Clone_int_nil _ _ w).mono ?_
    rintro e w' ⟨rfl, rfl⟩
    exact ⟨_, rfl, World.ownsRow_nil _ _ _ _, Below.refl _ _⟩
  | some a =>
    obtain ⟨b, o, rfl⟩ := hpp a rfl
    refine (Tryz.slices_Clone_int b o p.length cp p w (Nat.le_refl _) (by omega) (fun j hj => by
      obtain ⟨b', o', hA', _, hc⟩ := atI hp.cells (k := j) (x := p[j]) (List.getElem?_eq_getElem hj)
      cases hA'
      rw [hc]
      congr 2
      rw [List.getD_eq_getElem?_getD, List.getElem?_eq_getElem hj]
      rfl)).mono ?_
    rintro e w' ⟨v, rfl, ho, _, hb⟩
    rw [List.take_length] at ho
    exact ⟨v, rfl, ho, hb⟩

set_option maxRecDepth 100000 in
set_option maxHeartbeats 8000000 in
theorem run_anyA (A B C P L : Option Addr) (ca cb cc cp cl : Nat) (ns : List NodeD) (ps : List PodD) (os : List OwnD) (p : List Int) (l : List S3T) (hll : l.length ≤ 1000) (w : World) (h : SnapAt w A B C ca cb cc ns ps os) (hpp : ∀ a, P = some a → ∃ b o, a = ⟨b, o, none⟩) (hp : IntsAt w P cp p) (hL : La.SlAt w L (cells3 l)) :
    Calls Tryz.prog 32 #[snapV A B C ca cb cc ns ps os, .slice P p.length cp, .slice L l.length cl] w fun e w' => RunNo w (runR ns ps os p l) e w' := by
  have B0 : Hid (Below w.heap.size w (w.alloc (.cells (snapC A B C ca cb cc ns ps os) 26))) := Lib.hid (below1 w _)
  have S0 : Hid (Blk (w.alloc (.cells (snapC A B C ca cb cc ns ps os) 26)) w.heap.size (snapC A B C ca cb cc ns ps os) 26) := Lib.hid (Blk.new w _ _)
  have hlp := h.lp
  have KC := Lib.hid (pcheck_any A B C P ca cb cc cp ns ps os p _ (h.below B0.out) (hp.below B0.out))
  have KS := Lib.hid (fun (W' : World) (hb : Below w.heap.size w W') (Q : Option Addr) (cq : Nat) (q : List Int) (hq : IntsAt W' Q cq q) (x : S3T) => step_any A B C Q ca cb cc cq ns ps os q x.1 x.2.1 x.2.2 W' (h.below hb) hq)
  have HLs := Lib.hid (fun (W' : World) (hb : Below w.heap.size w W') => La.SlAt.below hL hb)
  have HPs := Lib.hid (fun (W' : World) (hb : Below w.heap.size w W') => hp.below hb)
  have HR : Hid (runR ns ps os p l = if placeE ns ps os p = 0 then runF ns ps os p l 0 else ([], 0, placeE ns ps os p)) := Lib.hid rfl
  have HAT : Hid (∀ (q : List Int) (k : Nat) (x : S3T), l[k]? = some x → runF ns ps os q (l.drop k) k = if (stepF ns ps os q x).2.2 = 0 then runF ns ps os (stepF ns ps os q x).1 (l.drop (k + 1)) (k + 1) else ([], k, (stepF ns ps os q x).2.2)) := Lib.hid (fun q k x hx => run_at hx)
  have HEN : Hid (∀ q : List Int, runF ns ps os q (l.drop l.length) l.length = (q, l.length, 0)) := Lib.hid (fun q => run_end)
  have HPL : Hid (placeE ns ps os p = 0 → p.length ≤ 1000) := Lib.hid (fun h => by have := placeE_len h; omega)
  have HSF : Hid (∀ (q : List Int) (x : S3T), (stepF ns ps os q x).1.length ≤ 1000) := Lib.hid (fun q x => step_fewS hlp)
  obtain ⟨i0, hi0, hz0, hz1, hz2⟩ := info_parts Qu.int_info
  generalize runR ns ps os p l = R at HR ⊢
  generalize placeE ns ps os p = E at KC HR HPL
  have HST : Hid (∀ (W' : World) (hb : Below w.heap.size w W') (Q : Option Addr) (cq : Nat) (q : List Int) (hq : IntsAt W' Q cq q) (x : S3T), Calls Tryz.prog 26 #[snapV A B C ca cb cc ns ps os, .slice Q q.length cq, stepV x.1 x.2.1 x.2.2] W' fun e w' => StepNo W' (stepF ns ps os q x).1 (stepF ns ps os q x).2.1 (stepF ns ps os q x).2.2 e w') := Lib.hid (fun W' hb Q cq q hq x => KS.out W' hb Q cq q hq x)
  clear KS
  generalize stepF ns ps os = SF at HST HAT HSF
  generalize runF ns ps os = RF at HR HAT HEN
  clear h hp hL
  go_enter Tryz.func32, Tryz.ntmps32
  go_upto_region 1 with fail
  try change Code.wp _ _ _ _ (w.alloc (.cells (snapC A B C ca cb cc ns ps os) 26))
  generalize (w.alloc (.cells (snapC A B C ca cb cc ns ps os) 26)) = W at B0 S0 KC ⊢
  have HC := Lib.hid (fun W' (hb : Below W.heap.size W W') => (show W'.cell? ⟨w.heap.size, 0, none⟩ = some (.slice A ns.length ca) ∧ W'.cell? ⟨w.heap.size, 1, none⟩ = some (.slice B ps.length cb) ∧ W'.cell? ⟨w.heap.size, 2, none⟩ = some (.slice C os.length cc) from ⟨Blk.cell (S0.out.below hb S0.out.lt) 0, Blk.cell (S0.out.below hb S0.out.lt) 1, Blk.cell (S0.out.below hb S0.out.lt) 2⟩))
  obtain ⟨z0, z1, z2⟩ := HC.out _ (Below.refl _ W)
  go_wp2_with fail
  refine (KC.out).mono ?_
  rintro e w1 ⟨rfl, hb⟩
  have HB := Lib.hid (show Below W.heap.size W w1 from hb)
  clear hb KC z0 z1 z2
  by_cases hE : E = 0
  case neg =>
    have hne : (E != 0) = true := by simpa using hE
    have hR := HR.out
    rw [if_neg hE] at hR
    clear hE HR
    have D := Lib.hid (B0.out.trans (HB.out.mono B0.out.size))
    go_wp2
    go_ret3
    subst hR
    exact ⟨_, rfl, World.ownsRow_nil _ _ _ _, D.out⟩
  have hpl := HPL.out hE
  have HRu := HR.out
  rw [if_pos hE] at HRu
  subst hE
  have HRn := Lib.hid HRu
  clear HRu HR HPL
  have KCl := Lib.hid (cloneI_any P cp p w1 hpl hpp (HPs.out _ (B0.out.trans (HB.out.mono B0.out.size))))
  go_wp2_with fail
  refine (KCl.out).mono ?_
  rintro e V ⟨v, rfl, ho, hb⟩
  have HBV := Lib.hid (HB.out.trans (hb.mono HB.out.size))
  obtain ⟨Qv, cqv, rfl, _⟩ := La.own_slice ho
  have OV := Lib.hid (own_base ho (B0.out.trans (HB.out.mono B0.out.size)).size)
  clear ho hb KCl HB
  have HV := Lib.hid (fun (W' : World) (hb : Below V.heap.size V W') => HBV.out.trans (hb.mono HBV.out.size))
  go_wp2_with fail
  go_loopw [6, 22] (fun v i wr => ∃ (k : Nat) (q : List Int) (Q : Option Addr) (cq : Nat), k ≤ l.length ∧ i = .int .i64 k ∧ v = .slice Q q.length cq ∧ wr.ownsRow w.heap.size 3 1 (.slice Q q.length cq) q.length (intsC q) ∧ RF p l 0 = RF q (l.drop k) k ∧ Below W.heap.size W wr) (fun _ i _ => l.length - (intOf i).toNat)
  case atStart => exact ⟨0, p, _, _, by omega, rfl, rfl, OV.out, by rw [List.drop_zero], HBV.out⟩
  case round =>
    obtain ⟨k, q, Q, cq, hk, rfl, rfl, ho, hr, hb⟩ := hrel
    have HO := Lib.hid ho
    have HRr := Lib.hid hr
    have HB := Lib.hid hb
    clear ho hr hb
    obtain ⟨z0, z1, z2⟩ := HC.out _ HB.out
    by_cases hlt : k < l.length
    case neg =>
      obtain rfl : k = l.length := by omega
      have hR : R = (q, l.length, 0) := by rw [HRn.out, HRr.out, HEN.out]
      have D := Lib.hid (B0.out.trans (HB.out.mono B0.out.size))
      clear HRn HRr
      go_wp2
      go_ret3
      subst hR
      exact ⟨_, rfl, HO.out, D.out⟩
    obtain ⟨x, hx⟩ : ∃ x, l[k]? = some x := ⟨l[k], List.getElem?_eq_getElem hlt⟩
    have HBw := Lib.hid (B0.out.trans (HB.out.mono B0.out.size))
    obtain ⟨g, o, hG, hbl, c0, c1, c2⟩ := atSt (HLs.out _ HBw.out) hx
    subst hG
    have k0 : (0 : Int) ≤ (k : Int) := by omega
    have k1 : (k : Int) < (l.length : Int) := by omega
    have HA := Lib.hid (HAT.out q k x hx)
    have HXs := Lib.hid (fun (W' : World) (hb : Below w.heap.size w W') => (by
      obtain ⟨g', o', hG', _, d0, d1, d2⟩ := atSt (HLs.out _ hb) hx
      cases hG'
      exact ⟨d0, d1, d2⟩ : W'.cell? ⟨g, o + k * 3, none⟩ = some (.int .i64 x.1) ∧ W'.cell? ⟨g, o + k * 3 + 1, none⟩ = some (.int .i64 x.2.1) ∧ W'.cell? ⟨g, o + k * 3 + 2, none⟩ = some (.int .i64 x.2.2)))
    have hsf := HSF.out q x
    clear hx
    go_upto_region 8 with fail
    have T8 : Hid (Blk (wr.alloc (.cells #[.int .i64 x.1, .int .i64 x.2.1, .int .i64 x.2.2] 63)) wr.heap.size #[.int .i64 x.1, .int .i64 x.2.1, .int .i64 x.2.2] 63) := Lib.hid (Blk.new wr _ _)
    have R8 : Hid (Below wr.heap.size wr (wr.alloc (.cells #[.int .i64 x.1, .int .i64 x.2.1, .int .i64 x.2.2] 63))) := Lib.hid (below1 wr _)
    try change Code.wp _ _ _ _ (wr.alloc (.cells #[.int .i64 x.1, .int .i64 x.2.1, .int .i64 x.2.2] 63))
    generalize (wr.alloc (.cells #[.int .i64 x.1, .int .i64 x.2.1, .int .i64 x.2.2] 63)) = W8 at T8 R8 ⊢
    have HB8 := Lib.hid (HB.out.trans (R8.out.mono HB.out.size))
    have HO8 := Lib.hid (La.own_below HO.out R8.out)
    clear c0 c1 c2 z0 z1 z2
    have c0 : W8.cell? ⟨wr.heap.size, 0, none⟩ = some (.int .i64 x.1) := Blk.cell T8.out 0
    have c1 : W8.cell? ⟨wr.heap.size, 1, none⟩ = some (.int .i64 x.2.1) := Blk.cell T8.out 1
    have c2 : W8.cell? ⟨wr.heap.size, 2, none⟩ = some (.int .i64 x.2.2) := Blk.cell T8.out 2
    obtain ⟨z0, z1, z2⟩ := HC.out _ HB8.out
    have KS1 := Lib.hid (HST.out W8 (B0.out.trans (HB8.out.mono B0.out.size)) Q cq q (IntsAt.own HO8.out) x)
    generalize SF q x = T at KS1 HA hsf
    obtain ⟨q', c', e'⟩ := T
    dsimp only at KS1 HA hsf
    go_wp2_with fail
    refine (KS1.out).mono ?_
    rintro e w5 ⟨v5, rfl, ho5, hb5⟩
    obtain ⟨Q5, cq5, rfl, _⟩ := La.own_slice ho5
    have HB5 := Lib.hid (HB8.out.trans (hb5.mono HB8.out.size))
    have HO5 := Lib.hid (own_base ho5 (B0.out.trans (HB8.out.mono B0.out.size)).size)
    clear ho5 hb5 KS1 c0 c1 c2 z0 z1 z2
    by_cases hx0 : e' = 0
    case neg =>
      have hne : (e' != 0) = true := by simpa using hx0
      have hR : R = ([], k, e') := by rw [HRn.out, HRr.out, HA.out, if_neg hx0]
      have D := Lib.hid (B0.out.trans (HB5.out.mono B0.out.size))
      clear HRn HRr HA hx0
      go_wp2
      go_ret3
      subst hR
      exact ⟨_, rfl, World.ownsRow_nil _ _ _ _, D.out⟩
    have HA2 := HA.out
    rw [if_pos hx0] at HA2
    have HA3 := Lib.hid HA2
    subst hx0
    clear HA HA2
    go_wp2_with fail
    go_roundw
    case rel => exact ⟨k + 1, q', _, _, by omega, by go_num, rfl, HO5.out, by rw [HRr.out, HA3.out], HB5.out⟩
    case measure => simp [intOf]; omega

end Go.Proofs.YtiiheajieegdkaaGreat

namespace Go.Proofs.YtiiheajieegdkaaGreat
open Go.RowKit

def cap15 : Nat → Int := fun k => if k = 0 then 15 else 0
/-- The chapter's cluster: a name and a mark of its second node are letters. -/
def chN8 (N : Nat) (nm : List UInt8) (lost : Bool) : List NodeD := [
  { name := [97], cap := cap15, labels := [(bZone, [120])], taints := [], cordon := false, lost := false, al := some ⟨N + 2, 0, none⟩, cl := 1, at_ := none, ct := 0 },
  { name := nm, cap := cap15, labels := [(bZone, [121])], taints := [], cordon := false, lost := lost, al := some ⟨N + 3, 0, none⟩, cl := 1, at_ := none, ct := 0 },
  { name := [99], cap := cap15, labels := [], taints := [], cordon := false, lost := false, al := none, cl := 0, at_ := none, ct := 0 }]
def chO8 (mn : Int) : List OwnD := [{ name := [111], min := mn, topo := bZone, skew := 1, single := false }]
/-- The chapter's cluster lies in memory, from block N on; its pods in a row of their own. -/
structure ChapAt8 (mn : Int) (w : World) (N : Nat) (v : Value) (k : Nat) (nm : List UInt8) (lost : Bool) : Prop where
  l1 : Blk w (N + 2) #[strV bZone, strV [120]] 29
  l2 : Blk w (N + 3) #[strV bZone, strV [121]] 29
  n : Blk w (N + 4) (cellsN (chN8 N nm lost)).toArray 34
  o : Blk w (N + 5) (cellsO (chO8 mn)).toArray 36
  p : w.ownsRow N 43 15 v k (cellsP (chP.take k))
theorem ChapAt8.kept {mn : Int} {w w' : World} {N k : Nat} {v : Value} {nm : List UInt8} {lost : Bool} (h : ChapAt8 mn w N v k nm lost) (hb : Below w.heap.size w w') : ChapAt8 mn w' N v k nm lost :=
  ⟨h.l1.below hb h.l1.lt, h.l2.below hb h.l2.lt, h.n.below hb h.n.lt, h.o.below hb h.o.lt, by
    refine h.p.kept (grown_of_below hb none) ?_
    rcases h.p.2 with ⟨rfl, _⟩ | ⟨g, cap, cur, rfl, _⟩
    · exact .inl rfl
    · exact .inr (by simp [Value.ownBlock])⟩

theorem ChapAt8.set {mn : Int} {w : World} {N k : Nat} {v : Value} {nm : List UInt8} {lost : Bool} (h : ChapAt8 mn w N v k nm lost) {b : Nat} {cs : Array Value} {t : TypeId} (hb : Blk w b cs t) (h1 : b ≠ N + 2 ∧ b ≠ N + 3 ∧ b ≠ N + 4 ∧ b ≠ N + 5) (ht : t ≠ 43) (i : Nat) (u : Value) : ChapAt8 mn (w.setCell ⟨b, i, none⟩ u) N v k nm lost :=
  ⟨h.l1.oth (Ne.symm h1.1) i u, h.l2.oth (Ne.symm h1.2.1) i u, h.n.oth (Ne.symm h1.2.2.1) i u, h.o.oth (Ne.symm h1.2.2.2) i u, ch_set h.p hb ht i u⟩
theorem ChapAt8.step {mn : Int} {w W w' : World} {N k k' : Nat} {v v' : Value} {nm : List UInt8} {lost : Bool} (h : ChapAt8 mn w N v k nm lost) (hW : Below w.heap.size w W) {n : Nat} {xs : List Value} (ho : W.ownsRow N 43 15 v n xs) (hg : W.grownBy w' v.ownBlock) (hn : w'.ownsRow N 43 15 v' k' (cellsP (chP.take k'))) : ChapAt8 mn w' N v' k' nm lost :=
  ⟨ch_other ho hg (h.l1.below hW h.l1.lt) (by decide), ch_other ho hg (h.l2.below hW h.l2.lt) (by decide), ch_other ho hg (h.n.below hW h.n.lt) (by decide), ch_other ho hg (h.o.below hW h.o.lt) (by decide), hn⟩

/-- The chapter's cluster as a cluster. -/
theorem ChapAt8.snap {mn : Int} {w : World} {N : Nat} {B : Option Addr} {cb : Nat} {nm : List UInt8} {lost : Bool} (h : ChapAt8 mn w N (.slice B 3 cb) 3 nm lost) (hnm : nm.length ≤ 1000) : SnapAt w (some ⟨N + 4, 0, none⟩) B (some ⟨N + 5, 0, none⟩) 3 cb 1 (chN8 N nm lost) chP (chO8 mn) := by
  have lab : ∀ (b : Nat) (v : UInt8), Blk w b #[strV bZone, strV [v]] 29 → ListL w (some ⟨b, 0, none⟩) 1 [(bZone, [v])] := fun b v hb => by
    refine ⟨by simp, by omega, fun j y hj => ⟨b, 0, rfl, ?_⟩, fun x hx => ?_⟩
    · rw [Nat.zero_add, Blk.cell hb j, ← hj, ← List.getElem?_toArray]
      rfl
    · simp only [List.mem_singleton] at hx
      subst hx
      exact ⟨by simp, by simp⟩
  have nolab : ListL w none 0 [] := ⟨by simp, by omega, fun j y hj => by simp [La.cellsL] at hj, fun x hx => by cases hx⟩
  have noter : ListT w none 0 [] := ⟨by simp, by omega, fun j y hj => by simp [La.cellsT] at hj, fun x hx => by cases hx⟩
  have hcap : 3 ≤ cb ∧ cb ≤ maxLen := by
    rcases h.p.2 with ⟨e, _⟩ | ⟨g, cap, cur, e, _, _, h1, h2, _⟩
    · cases e
    · cases e
      exact ⟨h1, h2⟩
  have hpod : ∀ c, (chPod c).fit w := fun c => ⟨nolab, noter, nolab, noter, noter, by simp [chPod]⟩
  constructor
  · constructor
    · intro j y hj
      refine ⟨N + 4, 0, rfl, ?_⟩
      rw [Nat.zero_add, Blk.cell h.n j, ← hj, ← List.getElem?_toArray]
    · intro x hx
      simp only [chN8, List.mem_cons, List.not_mem_nil, or_false] at hx
      rcases hx with rfl | rfl | rfl
      · exact ⟨lab _ _ h.l1, nolab, by simp⟩
      · exact ⟨lab _ _ h.l2, nolab, by show nm.length ≤ _; omega⟩
      · exact ⟨nolab, nolab, by simp⟩
  · constructor
    · exact La.own_slat h.p
    · intro x hx
      simp only [chP, List.mem_cons, List.not_mem_nil, or_false] at hx
      rcases hx with rfl | rfl | rfl <;> exact hpod _
  · intro j y hj
    refine ⟨N + 5, 0, rfl, ?_⟩
    rw [Nat.zero_add, Blk.cell h.o j, ← hj, ← List.getElem?_toArray]
  · intro x hx
    simp only [chO8, List.mem_singleton] at hx
    subst hx
    exact ⟨by simp, by simp⟩
  · simp [chN8]
  · simp [chP]
  · simp [chO8]
  · exact ⟨by simp [chN8], by omega⟩
  · refine ⟨by simp [chP]; omega, ?_⟩
    have := hcap.2
    unfold maxLen at this
    omega
  · exact ⟨by simp [chO8], by omega⟩
end Go.Proofs.YtiiheajieegdkaaGreat
