/- The clauses that are asked for, by the program's words: look. Contracts. Condition: the cluster and the numbers lie in memory; what it is handed answers of each clause. All, Of and Pod, by the program's words. Contracts. Condition: the cluster and the numbers lie in memory. The clauses of a placement that do not hold, by the program's words: Broken. A contract. Condition: the cluster and the numbers lie in memory. The chapter's cluster of the layers from clause on: its nodes have 15, its pods ask for 10; its owner asks for so many pods. No conditions. What the plain functions tell of the chapter's cluster: its clauses. No conditions. The chapter's examples of layer 8 hold. No conditions. A cluster of which the first 12 nodes, 30 pods, 12 owners are looked at. Condition: it lies in memory. Small words of the laws of clause: a cluster behind a step, how many clauses there are at most. No conditions but these. (LawKAll has its own copies: never import both.) Small words of the laws of safe and admit: two rows of the same numbers are the same. Condition: they lie in memory. -/
import Derived.Test.YtpdaohkpgconkaaGreatC09
import Derived.Deep.RegionHeld3

namespace Go.Proofs.YtpdaohkpgconkaaGreat
open Go.RowKit

/-- A clause whose By is not known yet. -/
def zb (c : ClT) : ClT := (c.1, c.2.1, c.2.2.1, 0)
/-- The clauses of a placement that are asked for. -/
def lookF (ns : List NodeD) (ps : List PodD) (os : List OwnD) (p : List Int) (f : ClT → Bool) : List ClT := (all8 ns ps os p).filter (fun c => f (zb c))
theorem lookF_is {ns : List NodeD} {ps : List PodD} {os : List OwnD} {p : List Int} (hE : placeE ns ps os p = 0) (f : ClT → Bool) : lookF ns ps os p f = (lookK ns ps os p 8).filter (fun c => f (zb c)) := by
  unfold lookF all8
  rw [if_pos hE, look_is]
/-- What one subject adds. -/
def oneK (ns : List NodeD) (ps : List PodD) (os : List OwnD) (p : List Int) (f : ClT → Bool) (k : Nat) (s : Sub) : List ClT := if f ((k : Int), (s.a : Int), (s.b : Int), 0) then (match byU ns ps os p k s with | some b => [((k : Int), (s.a : Int), (s.b : Int), b)] | none => []) else []
def someK (ns : List NodeD) (ps : List PodD) (os : List OwnD) (p : List Int) (f : ClT → Bool) (k : Nat) : Nat → List ClT
  | 0 => []
  | t + 1 => someK ns ps os p f k t ++ (match (subsU ns os p)[t]? with | some s => oneK ns ps os p f k s | none => [])
theorem one_is (ns : List NodeD) (ps : List PodD) (os : List OwnD) (p : List Int) (f : ClT → Bool) (k : Nat) (s : Sub) : ([s].filterMap (clauseK ns ps os p k)).filter (fun c => f (zb c)) = oneK ns ps os p f k s := by
  unfold oneK
  cases hb : byU ns ps os p k s with
  | none =>
    simp [clauseK, hb]
  | some b =>
    cases hf : f ((k : Int), (s.a : Int), (s.b : Int), 0) <;> simp [clauseK, hb, zb, hf]
theorem some_is (ns : List NodeD) (ps : List PodD) (os : List OwnD) (p : List Int) (f : ClT → Bool) (k : Nat) : ∀ t, t ≤ (subsU ns os p).length → someK ns ps os p f k t = (((subsU ns os p).take t).filterMap (clauseK ns ps os p k)).filter (fun c => f (zb c))
  | 0, _ => by simp [someK]
  | t + 1, h => by
    obtain ⟨s, hs⟩ : ∃ s, (subsU ns os p)[t]? = some s := ⟨(subsU ns os p)[t], List.getElem?_eq_getElem h⟩
    rw [someK, some_is ns ps os p f k t (by omega), hs, List.take_add_one, hs, List.filterMap_append, List.filter_append]
    congr 1
    exact (one_is ns ps os p f k s).symm
/-- The kinds up to k. -/
def upK (ns : List NodeD) (ps : List PodD) (os : List OwnD) (p : List Int) (f : ClT → Bool) : Nat → List ClT
  | 0 => []
  | k + 1 => upK ns ps os p f k ++ someK ns ps os p f (k + 1) (subsU ns os p).length
theorem up_is (ns : List NodeD) (ps : List PodD) (os : List OwnD) (p : List Int) (f : ClT → Bool) : ∀ k, upK ns ps os p f k = (lookK ns ps os p k).filter (fun c => f (zb c))
  | 0 => rfl
  | k + 1 => by
    rw [upK, lookK, List.filter_append, up_is ns ps os p f k, some_is ns ps os p f (k + 1) _ (Nat.le_refl _), List.take_length]
theorem oneK_len (ns : List NodeD) (ps : List PodD) (os : List OwnD) (p : List Int) (f : ClT → Bool) (k : Nat) (s : Sub) : (oneK ns ps os p f k s).length ≤ 1 := by
  unfold oneK
  split
  · split <;> simp
  · simp
theorem someK_len (ns : List NodeD) (ps : List PodD) (os : List OwnD) (p : List Int) (f : ClT → Bool) (k : Nat) : ∀ t, (someK ns ps os p f k t).length ≤ t
  | 0 => Nat.le_refl _
  | t + 1 => by
    have := someK_len ns ps os p f k t
    rw [someK, List.length_append]
    split
    · rename_i s hs
      have := oneK_len ns ps os p f k s
      omega
    · simp
      omega
theorem upK_len (ns : List NodeD) (ps : List PodD) (os : List OwnD) (p : List Int) (f : ClT → Bool) : ∀ k, (upK ns ps os p f k).length ≤ k * (subsU ns os p).length
  | 0 => by simp [upK]
  | k + 1 => by
    have := upK_len ns ps os p f k
    have := someK_len ns ps os p f (k + 1) (subsU ns os p).length
    rw [upK, List.length_append, Nat.succ_mul]
    omega
/-- A block holds a clause of a kind about a subject, its By not known yet. -/
def NumSt (wr : World) (k : Nat) (s : Sub) (wc : World) : Prop := Blk wc wr.heap.size #[.int .i64 (k : Int), .int .i64 (s.a : Int), .int .i64 (s.b : Int), .int .i64 0] 47 ∧ Below wr.heap.size wr wc
theorem rule_at (W : World) (M : Nat) (h : W.heap[M]? = some (.map (entsR 8).toArray 8)) (k : Nat) (h1 : 1 ≤ k) (h8 : k ≤ 8) :
    (Instr.lookup 108 (.map (some M)) (.int .i64 (k : Int)) false).run Tryz.prog W = .ok (ruleV k) W := by
  obtain ⟨j, rfl⟩ : ∃ j, k = j + 1 := ⟨k - 1, by omega⟩
  have := run_ruleAt W M h j (by omega)
  rw [show (((j + 1 : Nat)) : Int) = (j : Int) + 1 by push_cast; rfl]
  exact this


set_option maxRecDepth 100000 in
set_option maxHeartbeats 16000000 in
theorem look1_any (A B C P : Option Addr) (ca cb cc cp : Nat) (ns : List NodeD) (ps : List PodD) (os : List OwnD) (p : List Int) (g : FuncId) (q : Value) (f : ClT → Bool) (hg : ∀ (args : Array Value) (w : World), (callFunc g args).run Tryz.prog w = .ok (.enter g args) w) (w : World) (h : SnapAt w A B C ca cb cc ns ps os) (hp : IntsAt w P cp p)
    (hcl : ∀ (c : ClT) (w' : World), Below w.heap.size w w' → Calls Tryz.prog g #[clV c, q] w' fun e w'' => e = .returned (.bool (f c)) ∧ Below w'.heap.size w' w'') :
    Calls Tryz.prog 51 #[snapV A B C ca cb cc ns ps os, .slice P p.length cp, .func (Fn.func g) #[] #[q]] w fun e w' => ∃ v, e = .returned (.tuple #[v, .int .i64 (placeE ns ps os p)]) ∧ w'.ownsRow w.heap.size 47 4 v (lookF ns ps os p f).length (cells4 (lookF ns ps os p f)) ∧ Below w.heap.size w w' := by
  have B0 : Hid (Below w.heap.size w (w.alloc (.cells (snapC A B C ca cb cc ns ps os) 26))) := Lib.hid (below1 w _)
  have S0 : Hid (Blk (w.alloc (.cells (snapC A B C ca cb cc ns ps os) 26)) w.heap.size (snapC A B C ca cb cc ns ps os) 26) := Lib.hid (Blk.new w _ _)
  have KC := Lib.hid (pcheck_any A B C P ca cb cc cp ns ps os p _ (h.below B0.out) (hp.below B0.out))
  obtain ⟨i0, hi0, hz0, hz1, hz2⟩ := info_parts cl_info
  by_cases hE : placeE ns ps os p = 0
  case neg =>
    have HE : Hid (lookF ns ps os p f = []) := Lib.hid (by unfold lookF all8; rw [if_neg hE]; rfl)
    generalize placeE ns ps os p = er at KC hE ⊢
    have hne : (er != 0) = true := by simpa using hE
    have hnd : decide (er = 0) = false := decide_eq_false hE
    have hnb : (er == 0) = false := by simpa using hE
    clear h hp hcl
    go_enter Tryz.func51, Tryz.ntmps51
    go_wp2_with fail
    refine (KC.out).mono ?_
    rintro e w1 ⟨rfl, hb⟩
    have B1 := Lib.hid (B0.out.trans (hb.mono B0.out.size))
    clear hb KC B0 S0
    go_wp2
    go_ret2
    rw [HE.out]
    exact ⟨_, rfl, World.ownsRow_nil _ _ _ _, B1.out⟩
  have hln := h.ln
  have hlp := h.lp
  have hlo := h.lo
  have HPL := Lib.hid (placeE_len hE)
  have hpl2 : p.length ≤ 1000 := by have := HPL.out; omega
  have HLF : Hid (lookF ns ps os p f = upK ns ps os p f 8) := Lib.hid (by rw [lookF_is hE, up_is])
  have HBY := Lib.hid (fun (k : Nat) (h1 : 1 ≤ k) (h8 : k ≤ 8) (s : Sub) (hs : SubOk ns os p s) (W' : World) (hb : Below w.heap.size w W') => by_any A B C P ca cb cc cp ns ps os p k h1 h8 s hs hE (spread_few hln hlp) W' (h.below hb) (hp.below hb))
  have HSU := Lib.hid (fun (W' : World) (hb : Below w.heap.size w W') => subjects_any A B C P ca cb cc cp ns ps os p hln hpl2 hlo W' (hp.below hb))
  have HSL := subsU_len ns os p
  have HSO := Lib.hid (subs_ok ns os p)
  have HUP0 : Hid (upK ns ps os p f 0 = []) := Lib.hid rfl
  have HUP : Hid (∀ k, upK ns ps os p f (k + 1) = upK ns ps os p f k ++ someK ns ps os p f (k + 1) (subsU ns os p).length) := Lib.hid (fun k => rfl)
  have HUPL : Hid (∀ k, (upK ns ps os p f k).length ≤ k * (subsU ns os p).length) := Lib.hid (upK_len ns ps os p f)
  have HSM0 : Hid (∀ k, someK ns ps os p f k 0 = []) := Lib.hid (fun k => rfl)
  have HSM : Hid (∀ (k t : Nat) (s : Sub), (subsU ns os p)[t]? = some s → someK ns ps os p f k (t + 1) = someK ns ps os p f k t ++ oneK ns ps os p f k s) := Lib.hid (fun k t s hs => by rw [someK, hs])
  have HSML : Hid (∀ k t, (someK ns ps os p f k t).length ≤ t) := Lib.hid (someK_len ns ps os p f)
  have HON : Hid (∀ (k : Nat) (s : Sub), oneK ns ps os p f k s = if f ((k : Int), (s.a : Int), (s.b : Int), 0) then (match byU ns ps os p k s with | some b => [((k : Int), (s.a : Int), (s.b : Int), b)] | none => []) else []) := Lib.hid (fun k s => rfl)
  have HCL := Lib.hid hcl
  rw [hE] at KC ⊢
  generalize lookF ns ps os p f = LF at HLF ⊢
  generalize upK ns ps os p f = UP at HLF HUP0 HUP HUPL
  generalize someK ns ps os p f = SM at HUP HSM0 HSM HSML
  generalize oneK ns ps os p f = ON at HSM HON
  generalize subsU ns os p = SU at HSU HSL HSO HUP HUPL HSM
  have hsl : SU.length ≤ 7000 := by omega
  clear h hp hE hcl HSL
  go_enter Tryz.func51, Tryz.ntmps51
  obtain ⟨W, hW⟩ : ∃ W, (w.alloc (.cells (snapC A B C ca cb cc ns ps os) 26)) = W := ⟨_, rfl⟩
  rw [hW] at B0 S0 KC
  have z0 : W.cell? ⟨w.heap.size, 0, none⟩ = some (.slice A ns.length ca) := Blk.cell S0.out 0
  have z1 : W.cell? ⟨w.heap.size, 1, none⟩ = some (.slice B ps.length cb) := Blk.cell S0.out 1
  have z2 : W.cell? ⟨w.heap.size, 2, none⟩ = some (.slice C os.length cc) := Blk.cell S0.out 2
  go_wp2_with fail
  try rw [show (w.alloc (.cells #[.slice A ns.length ca, .slice B ps.length cb, .slice C os.length cc] 26)) = W from hW]
  clear hW
  refine (KC.out).mono ?_
  rintro e w1 ⟨rfl, hb1⟩
  have S1 := Lib.hid (S0.out.below hb1 S0.out.lt)
  have B1 := Lib.hid (B0.out.trans (hb1.mono B0.out.size))
  clear hb1 B0 S0 KC z0 z1 z2
  have z0 : w1.cell? ⟨w.heap.size, 0, none⟩ = some (.slice A ns.length ca) := Blk.cell S1.out 0
  have z1 : w1.cell? ⟨w.heap.size, 1, none⟩ = some (.slice B ps.length cb) := Blk.cell S1.out 1
  have z2 : w1.cell? ⟨w.heap.size, 2, none⟩ = some (.slice C os.length cc) := Blk.cell S1.out 2
  go_upto_region 6 with fail
  have V1 : Hid (Blk (w1.alloc (.cells (viewC A B C P ca cb cc cp ns ps os p) 105)) w1.heap.size (viewC A B C P ca cb cc cp ns ps os p) 105) := Lib.hid (Blk.new w1 _ _)
  have B2 : Hid (Below w.heap.size w (w1.alloc (.cells (viewC A B C P ca cb cc cp ns ps os p) 105))) := Lib.hid (B1.out.alloc B1.out.size _)
  clear z0 z1 z2 S1
  try change Code.wp _ _ _ _ (w1.alloc (.cells (viewC A B C P ca cb cc cp ns ps os p) 105))
  generalize (w1.alloc (.cells (viewC A B C P ca cb cc cp ns ps os p) 105)) = V at V1 B2 ⊢
  generalize w1.heap.size = Vb at V1 ⊢
  clear B1
  have v0 : V.cell? ⟨Vb, 0, none⟩ = some (.slice A ns.length ca) := Blk.cell V1.out 0
  have v1 : V.cell? ⟨Vb, 1, none⟩ = some (.slice B ps.length cb) := Blk.cell V1.out 1
  have v2 : V.cell? ⟨Vb, 2, none⟩ = some (.slice C os.length cc) := Blk.cell V1.out 2
  have v3 : V.cell? ⟨Vb, 3, none⟩ = some (.slice P p.length cp) := Blk.cell V1.out 3
  go_wp2_with fail
  refine (HSU.out _ B2.out).mono ?_
  rintro e w3 ⟨vs, rfl, hos, hb3⟩
  obtain ⟨G, cg, rfl, _⟩ := La.own_slice hos
  have O3 := Lib.hid (La.own_slat hos)
  have V3 := Lib.hid (V1.out.below hb3 V1.out.lt)
  have B3 := Lib.hid (B2.out.trans (hb3.mono B2.out.size))
  clear hos hb3 v0 v1 v2 v3 V1 B2 HSU
  go_wp2_with fail
  refine (rules_any w3).mono ?_
  rintro e W ⟨rfl, hM, hbW⟩
  have HM := Lib.hid hM
  have BW := Lib.hid (B3.out.trans (hbW.mono B3.out.size))
  have VW := Lib.hid (V3.out.below hbW V3.out.lt)
  have OW := Lib.hid (La.SlAt.below O3.out hbW)
  generalize w3.heap.size = M at HM ⊢
  clear hM hbW V3 B3 O3
  have HV := Lib.hid (fun W' (hb : Below W.heap.size W W') => (show W'.cell? ⟨Vb, 0, none⟩ = some (.slice A ns.length ca) ∧ W'.cell? ⟨Vb, 1, none⟩ = some (.slice B ps.length cb) ∧ W'.cell? ⟨Vb, 2, none⟩ = some (.slice C os.length cc) ∧ W'.cell? ⟨Vb, 3, none⟩ = some (.slice P p.length cp) from ⟨Blk.cell (VW.out.below hb VW.out.lt) 0, Blk.cell (VW.out.below hb VW.out.lt) 1, Blk.cell (VW.out.below hb VW.out.lt) 2, Blk.cell (VW.out.below hb VW.out.lt) 3⟩))
  have HT := Lib.hid (fun W' (hb : Below W.heap.size W W') => BW.out.trans (hb.mono BW.out.size))
  have HMl : Hid (M < W.heap.size) := Lib.hid (Array.getElem?_eq_some_iff.1 HM.out).1
  have HRu := Lib.hid (fun W' (hb : Below W.heap.size W W') (k : Nat) (h1 : 1 ≤ k) (h8 : k ≤ 8) => rule_at W' M ((hb.block M HMl.out).trans HM.out) k h1 h8)
  have HSt := Lib.hid (fun W' (hb : Below W.heap.size W W') => La.SlAt.below OW.out hb)
  have HB0 := Lib.hid BW.out.size
  clear VW BW HM OW
  go_wp2_with fail
  go_loopw [10, 13] (fun v kd wr => ∃ k : Nat, 1 ≤ k ∧ k ≤ 9 ∧ kd = .int .i64 (k : Int) ∧ wr.ownsRow W.heap.size 47 4 v (UP (k - 1)).length (cells4 (UP (k - 1))) ∧ Below W.heap.size W wr) (fun _ kd _ => 9 - (intOf kd).toNat)
  case atStart => exact ⟨1, by omega, by omega, rfl, by rw [show UP (1 - 1) = [] from HUP0.out]; exact World.ownsRow_nil _ _ _ _, Below.refl _ _⟩
  case round =>
    obtain ⟨k, hk1, hk9, rfl, ho, hb⟩ := hrel
    have HO := Lib.hid ho
    have HB := Lib.hid hb
    clear ho hb
    by_cases hlt : k < 9
    case neg =>
      have ek : k = 9 := by omega
      have HLF2 : Hid (LF = UP (k - 1)) := Lib.hid (by rw [HLF.out, ek])
      have e9 : ¬ ((k : Int) ≤ 8) := by omega
      clear ek
      go_wp2
      go_ret2
      rw [HLF2.out]
      exact ⟨_, rfl, own_base HO.out HB0.out, HT.out _ HB.out⟩
    have hk8 : k ≤ 8 := by omega
    have e8 : (k : Int) ≤ 8 := by omega
    have HU : Hid (UP (k + 1 - 1) = UP (k - 1) ++ SM k SU.length) := Lib.hid (by
      obtain ⟨j, rfl⟩ : ∃ j, k = j + 1 := ⟨k - 1, by omega⟩
      exact HUP.out j)
    have hul : (UP (k - 1)).length ≤ 8 * 7000 := Nat.le_trans (HUPL.out (k - 1)) (Nat.mul_le_mul (by omega) hsl)
    have hM0 : Hid (SM k 0 = []) := Lib.hid (HSM0.out k)
    have hMs : Hid (∀ (t : Nat) (s : Sub), SU[t]? = some s → SM k (t + 1) = SM k t ++ ON k s) := Lib.hid (fun t s h => HSM.out k t s h)
    have hMl : Hid (∀ t, (SM k t).length ≤ t) := Lib.hid (HSML.out k)
    generalize SM k = SK at HU hM0 hMs hMl
    generalize UP (k - 1) = U at HO HU hul
    clear hlt hk9
    go_wp2_with fail
    go_loopw [10, 37] (fun v j wr => ∃ t : Nat, t ≤ SU.length ∧ j = .int .i64 (t : Int) ∧ wr.ownsRow W.heap.size 47 4 v (U ++ SK t).length (cells4 (U ++ SK t)) ∧ Below W.heap.size W wr) (fun _ j _ => SU.length - (intOf j).toNat)
    case atStart => exact ⟨0, by omega, rfl, by rw [hM0.out, List.append_nil]; exact HO.out, HB.out⟩
    case round =>
      clear HO HB
      obtain ⟨t, ht, rfl, ho, hb⟩ := hrel
      have HO := Lib.hid ho
      have HB := Lib.hid hb
      clear ho hb
      by_cases hlt : t < SU.length
      case neg =>
        obtain rfl : t = SU.length := by omega
        go_wp2_with fail
        go_roundw
        case rel => exact ⟨k + 1, by omega, by omega, by go_num, by rw [HU.out]; exact HO.out, HB.out⟩
        case measure => simp [intOf]; omega
      obtain ⟨s, hs⟩ : ∃ s, SU[t]? = some s := ⟨SU[t], List.getElem?_eq_getElem hlt⟩
      have hso := HSO.out s (List.mem_of_getElem? hs)
      have Hst : Hid (U ++ SK (t + 1) = (U ++ SK t) ++ ON k s) := Lib.hid (by rw [hMs.out t s hs, List.append_assoc])
      have hnl : (U ++ SK t).length ≤ 63000 := by rw [List.length_append]; have := hMl.out t; omega
      obtain ⟨gs, os', hG, hsc⟩ := (HSt.out _ HB.out) t (subV s) (by rw [List.getElem?_map, hs]; rfl)
      subst hG
      have KB : Hid (∀ (W' : World), Below W.heap.size W W' → Calls Tryz.prog 71 #[ruleV k, viewV A B C P ca cb cc cp ns ps os p, subV s] W' fun e w' => e = .returned (.tuple #[.int .i64 ((byU ns ps os p k s).getD 0), .bool (byU ns ps os p k s).isSome]) ∧ Below W'.heap.size W' w') := Lib.hid (fun (W' : World) (hb : Below W.heap.size W W') => HBY.out k hk1 hk8 s hso W' (HT.out W' hb))
      have Hon := Lib.hid (HON.out k s)
      have KF := Lib.hid (fun (W' : World) (hb : Below W.heap.size W W') => HCL.out ((k : Int), (s.a : Int), (s.b : Int), 0) W' (HT.out W' hb))
      have k0 : (0 : Int) ≤ (t : Int) := by omega
      have k1 : (t : Int) < (SU.length : Int) := by omega
      generalize U ++ SK t = T at HO Hst hnl
      generalize ON k s = O1 at Hst Hon
      go_upto_region 14 with fail
      go_cut [43] (fun v wc => v = v ∧ NumSt wr k s wc)
      case first =>
        have T0 : Hid (Blk (wr.alloc (.cells #[.int .i64 (k : Int), .int .i64 0, .int .i64 0, .int .i64 0] 47)) wr.heap.size #[.int .i64 (k : Int), .int .i64 0, .int .i64 0, .int .i64 0] 47) := Lib.hid (Blk.new wr _ _)
        have B5 : Hid (Below wr.heap.size wr (wr.alloc (.cells #[.int .i64 (k : Int), .int .i64 0, .int .i64 0, .int .i64 0] 47))) := Lib.hid (below1 wr _)
        generalize (wr.alloc (.cells #[.int .i64 (k : Int), .int .i64 0, .int .i64 0, .int .i64 0] 47)) = V5 at T0 B5 ⊢
        cases s with
        | node n qq =>
          simp only [subV]
          go_wp2_with fail
          refine (numbers_ofNode n qq _).mono ?_
          rintro e w5 ⟨rfl, hb5⟩
          have T5 := Lib.hid (T0.out.below hb5 T0.out.lt)
          have D5 := Lib.hid (B5.out.trans (hb5.mono B5.out.size))
          clear hb5 T0 B5
          have c1 : w5.cell? ⟨wr.heap.size, 1, none⟩ = some (.int .i64 0) := Blk.cell T5.out 1
          have c2 : w5.cell? ⟨wr.heap.size, 2, none⟩ = some (.int .i64 0) := Blk.cell T5.out 2
          have f1 := Blk.free T5.out 1
          have f2 := Blk.free T5.out 2
          go_wp2_with fail
          go_meet
          exact ⟨trivial, ((T5.out.set 1 _).set 2 _), (D5.out.setCell (p := ⟨wr.heap.size, 1, none⟩) (Nat.le_refl _) _).setCell (p := ⟨wr.heap.size, 2, none⟩) (Nat.le_refl _) _⟩
        | pod ii =>
          simp only [subV]
          go_wp2_with fail
          refine (numbers_ofPod ii _).mono ?_
          rintro e w5 ⟨rfl, hb5⟩
          have T5 := Lib.hid (T0.out.below hb5 T0.out.lt)
          have D5 := Lib.hid (B5.out.trans (hb5.mono B5.out.size))
          clear hb5 T0 B5
          have c1 : w5.cell? ⟨wr.heap.size, 1, none⟩ = some (.int .i64 0) := Blk.cell T5.out 1
          have c2 : w5.cell? ⟨wr.heap.size, 2, none⟩ = some (.int .i64 0) := Blk.cell T5.out 2
          have f1 := Blk.free T5.out 1
          have f2 := Blk.free T5.out 2
          go_wp2_with fail
          go_meet
          exact ⟨trivial, ((T5.out.set 1 _).set 2 _), (D5.out.setCell (p := ⟨wr.heap.size, 1, none⟩) (Nat.le_refl _) _).setCell (p := ⟨wr.heap.size, 2, none⟩) (Nat.le_refl _) _⟩
        | owner oo =>
          simp only [subV]
          go_wp2_with fail
          refine (numbers_ofOwner oo _).mono ?_
          rintro e w5 ⟨rfl, hb5⟩
          have T5 := Lib.hid (T0.out.below hb5 T0.out.lt)
          have D5 := Lib.hid (B5.out.trans (hb5.mono B5.out.size))
          clear hb5 T0 B5
          have c1 : w5.cell? ⟨wr.heap.size, 1, none⟩ = some (.int .i64 0) := Blk.cell T5.out 1
          have c2 : w5.cell? ⟨wr.heap.size, 2, none⟩ = some (.int .i64 0) := Blk.cell T5.out 2
          have f1 := Blk.free T5.out 1
          have f2 := Blk.free T5.out 2
          go_wp2_with fail
          go_meet
          exact ⟨trivial, ((T5.out.set 1 _).set 2 _), (D5.out.setCell (p := ⟨wr.heap.size, 1, none⟩) (Nat.le_refl _) _).setCell (p := ⟨wr.heap.size, 2, none⟩) (Nat.le_refl _) _⟩
      case rest =>
        obtain ⟨_, hT, hbc⟩ := hcut
        have TB := Lib.hid hT
        have HBr := Lib.hid hbc
        have HBc := Lib.hid (HB.out.trans (hbc.mono HB.out.size))
        generalize f ((k : Int), (s.a : Int), (s.b : Int), 0) = asked at KF Hon
        generalize byU ns ps os p k s = bv at KB Hon
        generalize subV s = sv at KB hsc ⊢
        generalize (s.a : Int) = sa at KF Hon TB
        generalize (s.b : Int) = sb at KF Hon TB
        have c0 : wc.cell? ⟨wr.heap.size, 0, none⟩ = some (.int .i64 (k : Int)) := Blk.cell TB.out 0
        have c1 : wc.cell? ⟨wr.heap.size, 1, none⟩ = some (.int .i64 sa) := Blk.cell TB.out 1
        have c2 : wc.cell? ⟨wr.heap.size, 2, none⟩ = some (.int .i64 sb) := Blk.cell TB.out 2
        have c3 : wc.cell? ⟨wr.heap.size, 3, none⟩ = some (.int .i64 0) := Blk.cell TB.out 3
        clear hT hbc hs hsc
        go_wp2_with fail
        refine (KF.out _ HBc.out).mono ?_
        rintro e w6 ⟨rfl, hb6⟩
        have T6 := Lib.hid (TB.out.below hb6 TB.out.lt)
        have R6 := Lib.hid (HBr.out.trans (hb6.mono HBr.out.size))
        have HB6 := Lib.hid (HBc.out.trans (hb6.mono HBc.out.size))
        clear hb6 KF TB HBr HBc c0 c1 c2 c3
        cases asked with
        | false =>
          have HE : Hid (U ++ SK (t + 1) = T) := Lib.hid (by rw [Hst.out, Hon.out]; simp)
          have HO6 := Lib.hid (La.own_below HO.out R6.out)
          clear Hst Hon KB
          go_wp2_with fail
          go_roundw
          case rel => exact ⟨t + 1, by omega, by go_num, by rw [HE.out]; exact HO6.out, HB6.out⟩
          case measure => simp [intOf]; omega
        | true =>
          have hru := HRu.out _ HB6.out k hk1 hk8
          obtain ⟨v0, v1, v2, v3⟩ := HV.out _ HB6.out
          go_wp2_with fail
          refine (KB.out _ HB6.out).mono ?_
          rintro e w7 ⟨rfl, hb7⟩
          have T7 := Lib.hid (T6.out.below hb7 T6.out.lt)
          have R7 := Lib.hid (R6.out.trans (hb7.mono R6.out.size))
          have HB7 := Lib.hid (HB6.out.trans (hb7.mono HB6.out.size))
          clear hb7 KB T6 R6 HB6 v0 v1 v2 v3 hru
          cases bv with
          | none =>
            have HE : Hid (U ++ SK (t + 1) = T) := Lib.hid (by rw [Hst.out, Hon.out]; simp)
            have HO7 := Lib.hid (La.own_below HO.out R7.out)
            clear Hst Hon
            go_wp2_with fail
            go_roundw
            case rel => exact ⟨t + 1, by omega, by go_num, by rw [HE.out]; exact HO7.out, HB7.out⟩
            case measure => simp [intOf]; omega
          | some by_ =>
            have HE : Hid (U ++ SK (t + 1) = T ++ [((k : Int), sa, sb, by_)]) := Lib.hid (by rw [Hst.out, Hon.out]; simp)
            clear Hst Hon
            have c3 : w7.cell? ⟨wr.heap.size, 3, none⟩ = some (.int .i64 0) := Blk.cell T7.out 3
            have f3 := Blk.free T7.out 3
            go_upto_region 19 with fail
            have T8 : Hid (Blk (w7.setCell ⟨wr.heap.size, 3, none⟩ (.int .i64 by_)) wr.heap.size #[.int .i64 (k : Int), .int .i64 sa, .int .i64 sb, .int .i64 by_] 47) := Lib.hid (T7.out.set 3 _)
            have R8 : Hid (Below wr.heap.size wr (w7.setCell ⟨wr.heap.size, 3, none⟩ (.int .i64 by_))) := Lib.hid (R7.out.setCell (p := ⟨wr.heap.size, 3, none⟩) (Nat.le_refl _) _)
            generalize (w7.setCell ⟨wr.heap.size, 3, none⟩ (.int .i64 by_)) = W8 at T8 R8 ⊢
            have HO8 := Lib.hid (La.own_below HO.out R8.out)
            have HB8 := Lib.hid (HB.out.trans (R8.out.mono HB.out.size))
            have c0 : W8.cell? ⟨wr.heap.size, 0, none⟩ = some (.int .i64 (k : Int)) := Blk.cell T8.out 0
            have c1 : W8.cell? ⟨wr.heap.size, 1, none⟩ = some (.int .i64 sa) := Blk.cell T8.out 1
            have c2 : W8.cell? ⟨wr.heap.size, 2, none⟩ = some (.int .i64 sb) := Blk.cell T8.out 2
            have c3 : W8.cell? ⟨wr.heap.size, 3, none⟩ = some (.int .i64 by_) := Blk.cell T8.out 3
            clear T7 R7 HB7 T8 R8 HO HB f3
            go_wp2_with (at_builtin; refine wpList_append_own _ rfl _ _ 48 rfl W.heap.size 47 i0 (.agg #[.int .i64 0, .int .i64 0, .int .i64 0, .int .i64 0]) 4 32 Tryz.underlying48 hi0 hz0 hz1 hz2 rfl (by decide) _ _ _ rfl (show World.ownsRow _ _ _ _ _ _ _ from HO8.out.alloc _) ⟨W8.heap.size, 0, none⟩ 1 1 [.int .i64 (k : Int), .int .i64 sa, .int .i64 sb, .int .i64 by_] rfl rfl ?c1z ?c2z ?c3z ?c4z ?c5z ?_)
            case c1z =>
              intro j u hj
              match j, hj with
              | 0, hj => simp at hj; subst hj; simp [Addr.add]
              | 1, hj => simp at hj; subst hj; simp [Addr.add]
              | 2, hj => simp at hj; subst hj; simp [Addr.add]
              | 3, hj => simp at hj; subst hj; simp [Addr.add]
            case c2z => first | rfl | (intro u hu; simp at hu; rcases hu with rfl | rfl | rfl | rfl <;> rfl)
            case c3z => unfold maxLen; omega
            case c4z => omega
            case c5z => have := HB8.out.size; simp; omega
            intro v4 w4 hown4 hgrow4 _
            have P4 := Lib.hid hown4
            have D4 := Lib.hid ((HB8.out.alloc HB8.out.size (.cells #[.int .i64 (k : Int), .int .i64 sa, .int .i64 sb, .int .i64 by_] 47)).grown hgrow4 (by have := HB8.out.size; simp; omega) (fun j hj => own_gem HO8.out hj))
            clear hown4 hgrow4
            go_wp2_with fail
            go_roundw
            case rel =>
              refine ⟨t + 1, by omega, by go_num, ?_, D4.out⟩
              rw [HE.out, List.length_append, cells4_snoc]
              exact P4.out
            case measure => simp [intOf]; omega
end Go.Proofs.YtpdaohkpgconkaaGreat

namespace Go.Proofs.YtpdaohkpgconkaaGreat
open Go.RowKit

set_option maxRecDepth 100000 in
set_option maxHeartbeats 16000000 in
theorem look0_any (A B C P : Option Addr) (ca cb cc cp : Nat) (ns : List NodeD) (ps : List PodD) (os : List OwnD) (p : List Int) (g : FuncId) (f : ClT → Bool) (hg : ∀ (args : Array Value) (w : World), (callFunc g args).run Tryz.prog w = .ok (.enter g args) w) (w : World) (h : SnapAt w A B C ca cb cc ns ps os) (hp : IntsAt w P cp p)
    (hcl : ∀ (c : ClT) (w' : World), Below w.heap.size w w' → Calls Tryz.prog g #[clV c] w' fun e w'' => e = .returned (.bool (f c)) ∧ Below w'.heap.size w' w'') :
    Calls Tryz.prog 51 #[snapV A B C ca cb cc ns ps os, .slice P p.length cp, .func (Fn.func g) #[] #[]] w fun e w' => ∃ v, e = .returned (.tuple #[v, .int .i64 (placeE ns ps os p)]) ∧ w'.ownsRow w.heap.size 47 4 v (lookF ns ps os p f).length (cells4 (lookF ns ps os p f)) ∧ Below w.heap.size w w' := by
  have B0 : Hid (Below w.heap.size w (w.alloc (.cells (snapC A B C ca cb cc ns ps os) 26))) := Lib.hid (below1 w _)
  have S0 : Hid (Blk (w.alloc (.cells (snapC A B C ca cb cc ns ps os) 26)) w.heap.size (snapC A B C ca cb cc ns ps os) 26) := Lib.hid (Blk.new w _ _)
  have KC := Lib.hid (pcheck_any A B C P ca cb cc cp ns ps os p _ (h.below B0.out) (hp.below B0.out))
  obtain ⟨i0, hi0, hz0, hz1, hz2⟩ := info_parts cl_info
  by_cases hE : placeE ns ps os p = 0
  case neg =>
    have HE : Hid (lookF ns ps os p f = []) := Lib.hid (by unfold lookF all8; rw [if_neg hE]; rfl)
    generalize placeE ns ps os p = er at KC hE ⊢
    have hne : (er != 0) = true := by simpa using hE
    have hnd : decide (er = 0) = false := decide_eq_false hE
    have hnb : (er == 0) = false := by simpa using hE
    clear h hp hcl
    go_enter Tryz.func51, Tryz.ntmps51
    go_wp2_with fail
    refine (KC.out).mono ?_
    rintro e w1 ⟨rfl, hb⟩
    have B1 := Lib.hid (B0.out.trans (hb.mono B0.out.size))
    clear hb KC B0 S0
    go_wp2
    go_ret2
    rw [HE.out]
    exact ⟨_, rfl, World.ownsRow_nil _ _ _ _, B1.out⟩
  have hln := h.ln
  have hlp := h.lp
  have hlo := h.lo
  have HPL := Lib.hid (placeE_len hE)
  have hpl2 : p.length ≤ 1000 := by have := HPL.out; omega
  have HLF : Hid (lookF ns ps os p f = upK ns ps os p f 8) := Lib.hid (by rw [lookF_is hE, up_is])
  have HBY := Lib.hid (fun (k : Nat) (h1 : 1 ≤ k) (h8 : k ≤ 8) (s : Sub) (hs : SubOk ns os p s) (W' : World) (hb : Below w.heap.size w W') => by_any A B C P ca cb cc cp ns ps os p k h1 h8 s hs hE (spread_few hln hlp) W' (h.below hb) (hp.below hb))
  have HSU := Lib.hid (fun (W' : World) (hb : Below w.heap.size w W') => subjects_any A B C P ca cb cc cp ns ps os p hln hpl2 hlo W' (hp.below hb))
  have HSL := subsU_len ns os p
  have HSO := Lib.hid (subs_ok ns os p)
  have HUP0 : Hid (upK ns ps os p f 0 = []) := Lib.hid rfl
  have HUP : Hid (∀ k, upK ns ps os p f (k + 1) = upK ns ps os p f k ++ someK ns ps os p f (k + 1) (subsU ns os p).length) := Lib.hid (fun k => rfl)
  have HUPL : Hid (∀ k, (upK ns ps os p f k).length ≤ k * (subsU ns os p).length) := Lib.hid (upK_len ns ps os p f)
  have HSM0 : Hid (∀ k, someK ns ps os p f k 0 = []) := Lib.hid (fun k => rfl)
  have HSM : Hid (∀ (k t : Nat) (s : Sub), (subsU ns os p)[t]? = some s → someK ns ps os p f k (t + 1) = someK ns ps os p f k t ++ oneK ns ps os p f k s) := Lib.hid (fun k t s hs => by rw [someK, hs])
  have HSML : Hid (∀ k t, (someK ns ps os p f k t).length ≤ t) := Lib.hid (someK_len ns ps os p f)
  have HON : Hid (∀ (k : Nat) (s : Sub), oneK ns ps os p f k s = if f ((k : Int), (s.a : Int), (s.b : Int), 0) then (match byU ns ps os p k s with | some b => [((k : Int), (s.a : Int), (s.b : Int), b)] | none => []) else []) := Lib.hid (fun k s => rfl)
  have HCL := Lib.hid hcl
  rw [hE] at KC ⊢
  generalize lookF ns ps os p f = LF at HLF ⊢
  generalize upK ns ps os p f = UP at HLF HUP0 HUP HUPL
  generalize someK ns ps os p f = SM at HUP HSM0 HSM HSML
  generalize oneK ns ps os p f = ON at HSM HON
  generalize subsU ns os p = SU at HSU HSL HSO HUP HUPL HSM
  have hsl : SU.length ≤ 7000 := by omega
  clear h hp hE hcl HSL
  go_enter Tryz.func51, Tryz.ntmps51
  obtain ⟨W, hW⟩ : ∃ W, (w.alloc (.cells (snapC A B C ca cb cc ns ps os) 26)) = W := ⟨_, rfl⟩
  rw [hW] at B0 S0 KC
  have z0 : W.cell? ⟨w.heap.size, 0, none⟩ = some (.slice A ns.length ca) := Blk.cell S0.out 0
  have z1 : W.cell? ⟨w.heap.size, 1, none⟩ = some (.slice B ps.length cb) := Blk.cell S0.out 1
  have z2 : W.cell? ⟨w.heap.size, 2, none⟩ = some (.slice C os.length cc) := Blk.cell S0.out 2
  go_wp2_with fail
  try rw [show (w.alloc (.cells #[.slice A ns.length ca, .slice B ps.length cb, .slice C os.length cc] 26)) = W from hW]
  clear hW
  refine (KC.out).mono ?_
  rintro e w1 ⟨rfl, hb1⟩
  have S1 := Lib.hid (S0.out.below hb1 S0.out.lt)
  have B1 := Lib.hid (B0.out.trans (hb1.mono B0.out.size))
  clear hb1 B0 S0 KC z0 z1 z2
  have z0 : w1.cell? ⟨w.heap.size, 0, none⟩ = some (.slice A ns.length ca) := Blk.cell S1.out 0
  have z1 : w1.cell? ⟨w.heap.size, 1, none⟩ = some (.slice B ps.length cb) := Blk.cell S1.out 1
  have z2 : w1.cell? ⟨w.heap.size, 2, none⟩ = some (.slice C os.length cc) := Blk.cell S1.out 2
  go_upto_region 6 with fail
  have V1 : Hid (Blk (w1.alloc (.cells (viewC A B C P ca cb cc cp ns ps os p) 105)) w1.heap.size (viewC A B C P ca cb cc cp ns ps os p) 105) := Lib.hid (Blk.new w1 _ _)
  have B2 : Hid (Below w.heap.size w (w1.alloc (.cells (viewC A B C P ca cb cc cp ns ps os p) 105))) := Lib.hid (B1.out.alloc B1.out.size _)
  clear z0 z1 z2 S1
  try change Code.wp _ _ _ _ (w1.alloc (.cells (viewC A B C P ca cb cc cp ns ps os p) 105))
  generalize (w1.alloc (.cells (viewC A B C P ca cb cc cp ns ps os p) 105)) = V at V1 B2 ⊢
  generalize w1.heap.size = Vb at V1 ⊢
  clear B1
  have v0 : V.cell? ⟨Vb, 0, none⟩ = some (.slice A ns.length ca) := Blk.cell V1.out 0
  have v1 : V.cell? ⟨Vb, 1, none⟩ = some (.slice B ps.length cb) := Blk.cell V1.out 1
  have v2 : V.cell? ⟨Vb, 2, none⟩ = some (.slice C os.length cc) := Blk.cell V1.out 2
  have v3 : V.cell? ⟨Vb, 3, none⟩ = some (.slice P p.length cp) := Blk.cell V1.out 3
  go_wp2_with fail
  refine (HSU.out _ B2.out).mono ?_
  rintro e w3 ⟨vs, rfl, hos, hb3⟩
  obtain ⟨G, cg, rfl, _⟩ := La.own_slice hos
  have O3 := Lib.hid (La.own_slat hos)
  have V3 := Lib.hid (V1.out.below hb3 V1.out.lt)
  have B3 := Lib.hid (B2.out.trans (hb3.mono B2.out.size))
  clear hos hb3 v0 v1 v2 v3 V1 B2 HSU
  go_wp2_with fail
  refine (rules_any w3).mono ?_
  rintro e W ⟨rfl, hM, hbW⟩
  have HM := Lib.hid hM
  have BW := Lib.hid (B3.out.trans (hbW.mono B3.out.size))
  have VW := Lib.hid (V3.out.below hbW V3.out.lt)
  have OW := Lib.hid (La.SlAt.below O3.out hbW)
  generalize w3.heap.size = M at HM ⊢
  clear hM hbW V3 B3 O3
  have HV := Lib.hid (fun W' (hb : Below W.heap.size W W') => (show W'.cell? ⟨Vb, 0, none⟩ = some (.slice A ns.length ca) ∧ W'.cell? ⟨Vb, 1, none⟩ = some (.slice B ps.length cb) ∧ W'.cell? ⟨Vb, 2, none⟩ = some (.slice C os.length cc) ∧ W'.cell? ⟨Vb, 3, none⟩ = some (.slice P p.length cp) from ⟨Blk.cell (VW.out.below hb VW.out.lt) 0, Blk.cell (VW.out.below hb VW.out.lt) 1, Blk.cell (VW.out.below hb VW.out.lt) 2, Blk.cell (VW.out.below hb VW.out.lt) 3⟩))
  have HT := Lib.hid (fun W' (hb : Below W.heap.size W W') => BW.out.trans (hb.mono BW.out.size))
  have HMl : Hid (M < W.heap.size) := Lib.hid (Array.getElem?_eq_some_iff.1 HM.out).1
  have HRu := Lib.hid (fun W' (hb : Below W.heap.size W W') (k : Nat) (h1 : 1 ≤ k) (h8 : k ≤ 8) => rule_at W' M ((hb.block M HMl.out).trans HM.out) k h1 h8)
  have HSt := Lib.hid (fun W' (hb : Below W.heap.size W W') => La.SlAt.below OW.out hb)
  have HB0 := Lib.hid BW.out.size
  clear VW BW HM OW
  go_wp2_with fail
  go_loopw [10, 13] (fun v kd wr => ∃ k : Nat, 1 ≤ k ∧ k ≤ 9 ∧ kd = .int .i64 (k : Int) ∧ wr.ownsRow W.heap.size 47 4 v (UP (k - 1)).length (cells4 (UP (k - 1))) ∧ Below W.heap.size W wr) (fun _ kd _ => 9 - (intOf kd).toNat)
  case atStart => exact ⟨1, by omega, by omega, rfl, by rw [show UP (1 - 1) = [] from HUP0.out]; exact World.ownsRow_nil _ _ _ _, Below.refl _ _⟩
  case round =>
    obtain ⟨k, hk1, hk9, rfl, ho, hb⟩ := hrel
    have HO := Lib.hid ho
    have HB := Lib.hid hb
    clear ho hb
    by_cases hlt : k < 9
    case neg =>
      have ek : k = 9 := by omega
      have HLF2 : Hid (LF = UP (k - 1)) := Lib.hid (by rw [HLF.out, ek])
      have e9 : ¬ ((k : Int) ≤ 8) := by omega
      clear ek
      go_wp2
      go_ret2
      rw [HLF2.out]
      exact ⟨_, rfl, own_base HO.out HB0.out, HT.out _ HB.out⟩
    have hk8 : k ≤ 8 := by omega
    have e8 : (k : Int) ≤ 8 := by omega
    have HU : Hid (UP (k + 1 - 1) = UP (k - 1) ++ SM k SU.length) := Lib.hid (by
      obtain ⟨j, rfl⟩ : ∃ j, k = j + 1 := ⟨k - 1, by omega⟩
      exact HUP.out j)
    have hul : (UP (k - 1)).length ≤ 8 * 7000 := Nat.le_trans (HUPL.out (k - 1)) (Nat.mul_le_mul (by omega) hsl)
    have hM0 : Hid (SM k 0 = []) := Lib.hid (HSM0.out k)
    have hMs : Hid (∀ (t : Nat) (s : Sub), SU[t]? = some s → SM k (t + 1) = SM k t ++ ON k s) := Lib.hid (fun t s h => HSM.out k t s h)
    have hMl : Hid (∀ t, (SM k t).length ≤ t) := Lib.hid (HSML.out k)
    generalize SM k = SK at HU hM0 hMs hMl
    generalize UP (k - 1) = U at HO HU hul
    clear hlt hk9
    go_wp2_with fail
    go_loopw [10, 37] (fun v j wr => ∃ t : Nat, t ≤ SU.length ∧ j = .int .i64 (t : Int) ∧ wr.ownsRow W.heap.size 47 4 v (U ++ SK t).length (cells4 (U ++ SK t)) ∧ Below W.heap.size W wr) (fun _ j _ => SU.length - (intOf j).toNat)
    case atStart => exact ⟨0, by omega, rfl, by rw [hM0.out, List.append_nil]; exact HO.out, HB.out⟩
    case round =>
      clear HO HB
      obtain ⟨t, ht, rfl, ho, hb⟩ := hrel
      have HO := Lib.hid ho
      have HB := Lib.hid hb
      clear ho hb
      by_cases hlt : t < SU.length
      case neg =>
        obtain rfl : t = SU.length := by omega
        go_wp2_with fail
        go_roundw
        case rel => exact ⟨k + 1, by omega, by omega, by go_num, by rw [HU.out]; exact HO.out, HB.out⟩
        case measure => simp [intOf]; omega
      obtain ⟨s, hs⟩ : ∃ s, SU[t]? = some s := ⟨SU[t], List.getElem?_eq_getElem hlt⟩
      have hso := HSO.out s (List.mem_of_getElem? hs)
      have Hst : Hid (U ++ SK (t + 1) = (U ++ SK t) ++ ON k s) := Lib.hid (by rw [hMs.out t s hs, List.append_assoc])
      have hnl : (U ++ SK t).length ≤ 63000 := by rw [List.length_append]; have := hMl.out t; omega
      obtain ⟨gs, os', hG, hsc⟩ := (HSt.out _ HB.out) t (subV s) (by rw [List.getElem?_map, hs]; rfl)
      subst hG
      have KB : Hid (∀ (W' : World), Below W.heap.size W W' → Calls Tryz.prog 71 #[ruleV k, viewV A B C P ca cb cc cp ns ps os p, subV s] W' fun e w' => e = .returned (.tuple #[.int .i64 ((byU ns ps os p k s).getD 0), .bool (byU ns ps os p k s).isSome]) ∧ Below W'.heap.size W' w') := Lib.hid (fun (W' : World) (hb : Below W.heap.size W W') => HBY.out k hk1 hk8 s hso W' (HT.out W' hb))
      have Hon := Lib.hid (HON.out k s)
      have KF := Lib.hid (fun (W' : World) (hb : Below W.heap.size W W') => HCL.out ((k : Int), (s.a : Int), (s.b : Int), 0) W' (HT.out W' hb))
      have k0 : (0 : Int) ≤ (t : Int) := by omega
      have k1 : (t : Int) < (SU.length : Int) := by omega
      generalize U ++ SK t = T at HO Hst hnl
      generalize ON k s = O1 at Hst Hon
      go_upto_region 14 with fail
      go_cut [43] (fun v wc => v = v ∧ NumSt wr k s wc)
      case first =>
        have T0 : Hid (Blk (wr.alloc (.cells #[.int .i64 (k : Int), .int .i64 0, .int .i64 0, .int .i64 0] 47)) wr.heap.size #[.int .i64 (k : Int), .int .i64 0, .int .i64 0, .int .i64 0] 47) := Lib.hid (Blk.new wr _ _)
        have B5 : Hid (Below wr.heap.size wr (wr.alloc (.cells #[.int .i64 (k : Int), .int .i64 0, .int .i64 0, .int .i64 0] 47))) := Lib.hid (below1 wr _)
        generalize (wr.alloc (.cells #[.int .i64 (k : Int), .int .i64 0, .int .i64 0, .int .i64 0] 47)) = V5 at T0 B5 ⊢
        cases s with
        | node n qq =>
          simp only [subV]
          go_wp2_with fail
          refine (numbers_ofNode n qq _).mono ?_
          rintro e w5 ⟨rfl, hb5⟩
          have T5 := Lib.hid (T0.out.below hb5 T0.out.lt)
          have D5 := Lib.hid (B5.out.trans (hb5.mono B5.out.size))
          clear hb5 T0 B5
          have c1 : w5.cell? ⟨wr.heap.size, 1, none⟩ = some (.int .i64 0) := Blk.cell T5.out 1
          have c2 : w5.cell? ⟨wr.heap.size, 2, none⟩ = some (.int .i64 0) := Blk.cell T5.out 2
          have f1 := Blk.free T5.out 1
          have f2 := Blk.free T5.out 2
          go_wp2_with fail
          go_meet
          exact ⟨trivial, ((T5.out.set 1 _).set 2 _), (D5.out.setCell (p := ⟨wr.heap.size, 1, none⟩) (Nat.le_refl _) _).setCell (p := ⟨wr.heap.size, 2, none⟩) (Nat.le_refl _) _⟩
        | pod ii =>
          simp only [subV]
          go_wp2_with fail
          refine (numbers_ofPod ii _).mono ?_
          rintro e w5 ⟨rfl, hb5⟩
          have T5 := Lib.hid (T0.out.below hb5 T0.out.lt)
          have D5 := Lib.hid (B5.out.trans (hb5.mono B5.out.size))
          clear hb5 T0 B5
          have c1 : w5.cell? ⟨wr.heap.size, 1, none⟩ = some (.int .i64 0) := Blk.cell T5.out 1
          have c2 : w5.cell? ⟨wr.heap.size, 2, none⟩ = some (.int .i64 0) := Blk.cell T5.out 2
          have f1 := Blk.free T5.out 1
          have f2 := Blk.free T5.out 2
          go_wp2_with fail
          go_meet
          exact ⟨trivial, ((T5.out.set 1 _).set 2 _), (D5.out.setCell (p := ⟨wr.heap.size, 1, none⟩) (Nat.le_refl _) _).setCell (p := ⟨wr.heap.size, 2, none⟩) (Nat.le_refl _) _⟩
        | owner oo =>
          simp only [subV]
          go_wp2_with fail
          refine (numbers_ofOwner oo _).mono ?_
          rintro e w5 ⟨rfl, hb5⟩
          have T5 := Lib.hid (T0.out.below hb5 T0.out.lt)
          have D5 := Lib.hid (B5.out.trans (hb5.mono B5.out.size))
          clear hb5 T0 B5
          have c1 : w5.cell? ⟨wr.heap.size, 1, none⟩ = some (.int .i64 0) := Blk.cell T5.out 1
          have c2 : w5.cell? ⟨wr.heap.size, 2, none⟩ = some (.int .i64 0) := Blk.cell T5.out 2
          have f1 := Blk.free T5.out 1
          have f2 := Blk.free T5.out 2
          go_wp2_with fail
          go_meet
          exact ⟨trivial, ((T5.out.set 1 _).set 2 _), (D5.out.setCell (p := ⟨wr.heap.size, 1, none⟩) (Nat.le_refl _) _).setCell (p := ⟨wr.heap.size, 2, none⟩) (Nat.le_refl _) _⟩
      case rest =>
        obtain ⟨_, hT, hbc⟩ := hcut
        have TB := Lib.hid hT
        have HBr := Lib.hid hbc
        have HBc := Lib.hid (HB.out.trans (hbc.mono HB.out.size))
        generalize f ((k : Int), (s.a : Int), (s.b : Int), 0) = asked at KF Hon
        generalize byU ns ps os p k s = bv at KB Hon
        generalize subV s = sv at KB hsc ⊢
        generalize (s.a : Int) = sa at KF Hon TB
        generalize (s.b : Int) = sb at KF Hon TB
        have c0 : wc.cell? ⟨wr.heap.size, 0, none⟩ = some (.int .i64 (k : Int)) := Blk.cell TB.out 0
        have c1 : wc.cell? ⟨wr.heap.size, 1, none⟩ = some (.int .i64 sa) := Blk.cell TB.out 1
        have c2 : wc.cell? ⟨wr.heap.size, 2, none⟩ = some (.int .i64 sb) := Blk.cell TB.out 2
        have c3 : wc.cell? ⟨wr.heap.size, 3, none⟩ = some (.int .i64 0) := Blk.cell TB.out 3
        clear hT hbc hs hsc
        go_wp2_with fail
        refine (KF.out _ HBc.out).mono ?_
        rintro e w6 ⟨rfl, hb6⟩
        have T6 := Lib.hid (TB.out.below hb6 TB.out.lt)
        have R6 := Lib.hid (HBr.out.trans (hb6.mono HBr.out.size))
        have HB6 := Lib.hid (HBc.out.trans (hb6.mono HBc.out.size))
        clear hb6 KF TB HBr HBc c0 c1 c2 c3
        cases asked with
        | false =>
          have HE : Hid (U ++ SK (t + 1) = T) := Lib.hid (by rw [Hst.out, Hon.out]; simp)
          have HO6 := Lib.hid (La.own_below HO.out R6.out)
          clear Hst Hon KB
          go_wp2_with fail
          go_roundw
          case rel => exact ⟨t + 1, by omega, by go_num, by rw [HE.out]; exact HO6.out, HB6.out⟩
          case measure => simp [intOf]; omega
        | true =>
          have hru := HRu.out _ HB6.out k hk1 hk8
          obtain ⟨v0, v1, v2, v3⟩ := HV.out _ HB6.out
          go_wp2_with fail
          refine (KB.out _ HB6.out).mono ?_
          rintro e w7 ⟨rfl, hb7⟩
          have T7 := Lib.hid (T6.out.below hb7 T6.out.lt)
          have R7 := Lib.hid (R6.out.trans (hb7.mono R6.out.size))
          have HB7 := Lib.hid (HB6.out.trans (hb7.mono HB6.out.size))
          clear hb7 KB T6 R6 HB6 v0 v1 v2 v3 hru
          cases bv with
          | none =>
            have HE : Hid (U ++ SK (t + 1) = T) := Lib.hid (by rw [Hst.out, Hon.out]; simp)
            have HO7 := Lib.hid (La.own_below HO.out R7.out)
            clear Hst Hon
            go_wp2_with fail
            go_roundw
            case rel => exact ⟨t + 1, by omega, by go_num, by rw [HE.out]; exact HO7.out, HB7.out⟩
            case measure => simp [intOf]; omega
          | some by_ =>
            have HE : Hid (U ++ SK (t + 1) = T ++ [((k : Int), sa, sb, by_)]) := Lib.hid (by rw [Hst.out, Hon.out]; simp)
            clear Hst Hon
            have c3 : w7.cell? ⟨wr.heap.size, 3, none⟩ = some (.int .i64 0) := Blk.cell T7.out 3
            have f3 := Blk.free T7.out 3
            go_upto_region 19 with fail
            have T8 : Hid (Blk (w7.setCell ⟨wr.heap.size, 3, none⟩ (.int .i64 by_)) wr.heap.size #[.int .i64 (k : Int), .int .i64 sa, .int .i64 sb, .int .i64 by_] 47) := Lib.hid (T7.out.set 3 _)
            have R8 : Hid (Below wr.heap.size wr (w7.setCell ⟨wr.heap.size, 3, none⟩ (.int .i64 by_))) := Lib.hid (R7.out.setCell (p := ⟨wr.heap.size, 3, none⟩) (Nat.le_refl _) _)
            generalize (w7.setCell ⟨wr.heap.size, 3, none⟩ (.int .i64 by_)) = W8 at T8 R8 ⊢
            have HO8 := Lib.hid (La.own_below HO.out R8.out)
            have HB8 := Lib.hid (HB.out.trans (R8.out.mono HB.out.size))
            have c0 : W8.cell? ⟨wr.heap.size, 0, none⟩ = some (.int .i64 (k : Int)) := Blk.cell T8.out 0
            have c1 : W8.cell? ⟨wr.heap.size, 1, none⟩ = some (.int .i64 sa) := Blk.cell T8.out 1
            have c2 : W8.cell? ⟨wr.heap.size, 2, none⟩ = some (.int .i64 sb) := Blk.cell T8.out 2
            have c3 : W8.cell? ⟨wr.heap.size, 3, none⟩ = some (.int .i64 by_) := Blk.cell T8.out 3
            clear T7 R7 HB7 T8 R8 HO HB f3
            go_wp2_with (at_builtin; refine wpList_append_own _ rfl _ _ 48 rfl W.heap.size 47 i0 (.agg #[.int .i64 0, .int .i64 0, .int .i64 0, .int .i64 0]) 4 32 Tryz.underlying48 hi0 hz0 hz1 hz2 rfl (by decide) _ _ _ rfl (show World.ownsRow _ _ _ _ _ _ _ from HO8.out.alloc _) ⟨W8.heap.size, 0, none⟩ 1 1 [.int .i64 (k : Int), .int .i64 sa, .int .i64 sb, .int .i64 by_] rfl rfl ?c1z ?c2z ?c3z ?c4z ?c5z ?_)
            case c1z =>
              intro j u hj
              match j, hj with
              | 0, hj => simp at hj; subst hj; simp [Addr.add]
              | 1, hj => simp at hj; subst hj; simp [Addr.add]
              | 2, hj => simp at hj; subst hj; simp [Addr.add]
              | 3, hj => simp at hj; subst hj; simp [Addr.add]
            case c2z => first | rfl | (intro u hu; simp at hu; rcases hu with rfl | rfl | rfl | rfl <;> rfl)
            case c3z => unfold maxLen; omega
            case c4z => omega
            case c5z => have := HB8.out.size; simp; omega
            intro v4 w4 hown4 hgrow4 _
            have P4 := Lib.hid hown4
            have D4 := Lib.hid ((HB8.out.alloc HB8.out.size (.cells #[.int .i64 (k : Int), .int .i64 sa, .int .i64 sb, .int .i64 by_] 47)).grown hgrow4 (by have := HB8.out.size; simp; omega) (fun j hj => own_gem HO8.out hj))
            clear hown4 hgrow4
            go_wp2_with fail
            go_roundw
            case rel =>
              refine ⟨t + 1, by omega, by go_num, ?_, D4.out⟩
              rw [HE.out, List.length_append, cells4_snoc]
              exact P4.out
            case measure => simp [intOf]; omega

theorem eq_int2K (n : Nat) (a b : Int) (w : World) : (Op.equalIn (n + 1) 3 (.int .i64 a) (.int .i64 b)).run Tryz.prog w = .ok (a == b) w := by
  rw [run_equalIn_int w n 3 .i64 .i64 a b Tryz.underlying3]
theorem eq_cl_any (n : Nat) (a b c d a' b' c' d' : Int) (w : World) : (Op.equalIn (n + 2) 47 (.agg #[.int .i64 a, .int .i64 b, .int .i64 c, .int .i64 d]) (.agg #[.int .i64 a', .int .i64 b', .int .i64 c', .int .i64 d'])).run Tryz.prog w = .ok (a == a' && b == b' && c == c' && d == d') w := by
  rw [Op.equalIn]
  simp only [Sem.run_bind, run_underlying Tryz.underlying47, Result.andThen_ok]
  cases ha : (a == a') <;> cases hb : (b == b') <;> cases hc : (c == c') <;> cases hd : (d == d') <;>
    simp [Sem.run_bind, part_cl0, part_cl1, part_cl2, part_cl3, eq_int2K, ha, hb, hc, hd]

set_option maxHeartbeats 1000000 in
theorem all1_any (c : ClT) (w : World) : Calls Tryz.prog 52 #[clV c] w fun e w' => e = .returned (.bool true) ∧ Below w.heap.size w w' := by
  have B0 : Hid (Below w.heap.size w (w.alloc (.cells #[.int .i64 c.1, .int .i64 c.2.1, .int .i64 c.2.2.1, .int .i64 c.2.2.2] 47))) := Lib.hid (below1 w _)
  go_enter Tryz.func52, Tryz.ntmps52
  go_wp2
  go_ret
  exact ⟨rfl, B0.out⟩
def isQ (c c0 : ClT) : Bool := c.1 == c0.1 && c.2.1 == c0.2.1 && c.2.2.1 == c0.2.2.1 && c.2.2.2 == c0.2.2.2
set_option maxHeartbeats 1000000 in
theorem of1_any (c c0 : ClT) (q : Nat) (w : World) (hq : Blk w q #[.int .i64 c0.1, .int .i64 c0.2.1, .int .i64 c0.2.2.1, .int .i64 c0.2.2.2] 47) : Calls Tryz.prog 53 #[clV c, .pointer (some ⟨q, 0, none⟩)] w fun e w' => e = .returned (.bool (isQ c c0)) ∧ Below w.heap.size w w' := by
  have B0 : Hid (Below w.heap.size w (w.alloc (.cells #[.int .i64 c.1, .int .i64 c.2.1, .int .i64 c.2.2.1, .int .i64 c.2.2.2] 47))) := Lib.hid (below1 w _)
  have S0 : Hid (Blk (w.alloc (.cells #[.int .i64 c.1, .int .i64 c.2.1, .int .i64 c.2.2.1, .int .i64 c.2.2.2] 47)) w.heap.size #[.int .i64 c.1, .int .i64 c.2.1, .int .i64 c.2.2.1, .int .i64 c.2.2.2] 47) := Lib.hid (Blk.new w _ _)
  have Q0 := Lib.hid (Blk.alloc hq (.cells #[.int .i64 c.1, .int .i64 c.2.1, .int .i64 c.2.2.1, .int .i64 c.2.2.2] 47))
  have E : Hid (isQ c c0 = (c.1 == c0.1 && c.2.1 == c0.2.1 && c.2.2.1 == c0.2.2.1 && c.2.2.2 == c0.2.2.2)) := Lib.hid rfl
  have hmg := cl_guard
  have hmq := fun w => (eq_cl_any 9998 c.1 c.2.1 c.2.2.1 c.2.2.2 c0.1 c0.2.1 c0.2.2.1 c0.2.2.2 w)
  rw [← E.out] at hmq
  generalize isQ c c0 = R at hmq ⊢
  clear hq E
  go_enter Tryz.func53, Tryz.ntmps53
  go_upto_region 1 with fail
  try change Code.wp _ _ _ _ (w.alloc (.cells #[.int .i64 c.1, .int .i64 c.2.1, .int .i64 c.2.2.1, .int .i64 c.2.2.2] 47))
  generalize (w.alloc (.cells #[.int .i64 c.1, .int .i64 c.2.1, .int .i64 c.2.2.1, .int .i64 c.2.2.2] 47)) = W at B0 S0 Q0 ⊢
  have c00 := Blk.cell S0.out 0
  have c01 := Blk.cell S0.out 1
  have c02 := Blk.cell S0.out 2
  have c03 := Blk.cell S0.out 3
  have q00 := Blk.cell Q0.out 0
  have q01 := Blk.cell Q0.out 1
  have q02 := Blk.cell Q0.out 2
  have q03 := Blk.cell Q0.out 3
  simp only [List.getElem?_toArray, List.getElem?_cons_zero, List.getElem?_cons_succ] at c00 c01 c02 c03 q00 q01 q02 q03
  go_wp2
  go_ret
  exact ⟨rfl, B0.out⟩
set_option maxHeartbeats 1000000 in
theorem pod1_any (c : ClT) (pod : Int) (q : Nat) (w : World) (hq : w.cell? ⟨q, 0, none⟩ = some (.int .i64 pod)) : Calls Tryz.prog 54 #[clV c, .pointer (some ⟨q, 0, none⟩)] w fun e w' => e = .returned (.bool (podC pod c)) ∧ Below w.heap.size w w' := by
  have hql : q < w.heap.size := World.block_lt_of_cell? w _ hq
  have B0 : Hid (Below w.heap.size w (w.alloc (.cells #[.int .i64 c.1, .int .i64 c.2.1, .int .i64 c.2.2.1, .int .i64 c.2.2.2] 47))) := Lib.hid (below1 w _)
  have S0 : Hid (Blk (w.alloc (.cells #[.int .i64 c.1, .int .i64 c.2.1, .int .i64 c.2.2.1, .int .i64 c.2.2.2] 47)) w.heap.size #[.int .i64 c.1, .int .i64 c.2.1, .int .i64 c.2.2.1, .int .i64 c.2.2.2] 47) := Lib.hid (Blk.new w _ _)
  have q0 : (w.alloc (.cells #[.int .i64 c.1, .int .i64 c.2.1, .int .i64 c.2.2.1, .int .i64 c.2.2.2] 47)).cell? ⟨q, 0, none⟩ = some (.int .i64 pod) := (B0.out.cell (p := ⟨q, 0, none⟩) hql).trans hq
  have E : Hid (podC pod c = decide (2 ≤ c.1 ∧ c.1 ≤ 6 ∧ c.2.1 = pod)) := Lib.hid rfl
  generalize podC pod c = R at E ⊢
  clear hq
  go_enter Tryz.func54, Tryz.ntmps54
  go_upto_region 1 with fail
  try change Code.wp _ _ _ _ (w.alloc (.cells #[.int .i64 c.1, .int .i64 c.2.1, .int .i64 c.2.2.1, .int .i64 c.2.2.2] 47))
  generalize (w.alloc (.cells #[.int .i64 c.1, .int .i64 c.2.1, .int .i64 c.2.2.1, .int .i64 c.2.2.2] 47)) = W at B0 S0 q0 ⊢
  have c00 : W.cell? ⟨w.heap.size, 0, none⟩ = some (.int .i64 c.1) := Blk.cell S0.out 0
  have c01 : W.cell? ⟨w.heap.size, 1, none⟩ = some (.int .i64 c.2.1) := Blk.cell S0.out 1
  by_cases h1 : 2 ≤ c.1
  case neg =>
    have HE : Hid (R = false) := Lib.hid (by rw [E.out]; exact decide_eq_false (fun h => h1 h.1))
    clear E
    go_wp2
    go_ret
    exact ⟨La.retB HE.out.symm, B0.out⟩
  by_cases h2 : c.1 ≤ 6
  case neg =>
    have HE : Hid (R = false) := Lib.hid (by rw [E.out]; exact decide_eq_false (fun h => h2 h.2.1))
    clear E
    go_wp2
    go_ret
    exact ⟨La.retB HE.out.symm, B0.out⟩
  by_cases h3 : c.2.1 = pod
  case neg =>
    have HE : Hid (R = false) := Lib.hid (by rw [E.out]; exact decide_eq_false (fun h => h3 h.2.2))
    have h3b : (c.2.1 == pod) = false := by simpa using h3
    clear E
    go_wp2
    go_ret
    exact ⟨La.retB HE.out.symm, B0.out⟩
  have HE : Hid (R = true) := Lib.hid (by rw [E.out]; exact decide_eq_true ⟨h1, h2, h3⟩)
  have h3b : (c.2.1 == pod) = true := by simpa using h3
  clear E h3
  go_wp2
  go_ret
  exact ⟨La.retB HE.out.symm, B0.out⟩

set_option maxRecDepth 100000 in
set_option maxHeartbeats 2000000 in
theorem allP_any (A B C P : Option Addr) (ca cb cc cp : Nat) (ns : List NodeD) (ps : List PodD) (os : List OwnD) (p : List Int) (w : World) (h : SnapAt w A B C ca cb cc ns ps os) (hp : IntsAt w P cp p) :
    Calls Tryz.prog 15 #[snapV A B C ca cb cc ns ps os, .slice P p.length cp] w fun e w' => ∃ v, e = .returned (.tuple #[v, .int .i64 (placeE ns ps os p)]) ∧ w'.ownsRow w.heap.size 47 4 v (all8 ns ps os p).length (cells4 (all8 ns ps os p)) ∧ Below w.heap.size w w' := by
  have B0 : Hid (Below w.heap.size w (w.alloc (.cells (snapC A B C ca cb cc ns ps os) 26))) := Lib.hid (below1 w _)
  have K := Lib.hid (look0_any A B C P ca cb cc cp ns ps os p 52 (fun _ => true) (fun _ _ => by kernel_rfl) _ (h.below B0.out) (hp.below B0.out) (fun c W' _ => all1_any c W'))
  have e : lookF ns ps os p (fun _ => true) = all8 ns ps os p := by
    unfold lookF
    exact List.filter_eq_self.2 (fun _ _ => rfl)
  rw [e] at K
  generalize all8 ns ps os p = L at K ⊢
  clear h hp e
  go_enter Tryz.func15, Tryz.ntmps15
  go_wp2_with fail
  refine (K.out).mono ?_
  rintro e w1 ⟨v, rfl, ho, hb⟩
  have O1 := Lib.hid (own_base ho B0.out.size)
  have B1 := Lib.hid (B0.out.trans (hb.mono B0.out.size))
  clear ho hb K
  go_wp2
  go_ret2
  exact ⟨v, rfl, O1.out, B1.out⟩

set_option maxRecDepth 100000 in
set_option maxHeartbeats 2000000 in
theorem podP_any (A B C P : Option Addr) (ca cb cc cp : Nat) (ns : List NodeD) (ps : List PodD) (os : List OwnD) (p : List Int) (pod : Int) (w : World) (h : SnapAt w A B C ca cb cc ns ps os) (hp : IntsAt w P cp p) :
    Calls Tryz.prog 18 #[snapV A B C ca cb cc ns ps os, .slice P p.length cp, .int .i64 pod] w fun e w' => ∃ v, e = .returned v ∧ w'.ownsRow w.heap.size 47 4 v ((all8 ns ps os p).filter (podC pod)).length (cells4 ((all8 ns ps os p).filter (podC pod))) ∧ Below w.heap.size w w' := by
  have B0 : Hid (Below w.heap.size w ((w.alloc (.cells (snapC A B C ca cb cc ns ps os) 26)).alloc (.cells #[.int .i64 pod] 3))) := Lib.hid (Qu.below2 w _ _)
  have Q0 : Hid (Blk ((w.alloc (.cells (snapC A B C ca cb cc ns ps os) 26)).alloc (.cells #[.int .i64 pod] 3)) (w.heap.size + 1) #[.int .i64 pod] 3) := Lib.hid (blk2 w _ _ _)
  have S0 : Hid (Blk ((w.alloc (.cells (snapC A B C ca cb cc ns ps os) 26)).alloc (.cells #[.int .i64 pod] 3)) w.heap.size (snapC A B C ca cb cc ns ps os) 26) := Lib.hid (Blk.alloc (Blk.new w _ _) _)
  have K := Lib.hid (look1_any A B C P ca cb cc cp ns ps os p 54 (.pointer (some ⟨w.heap.size + 1, 0, none⟩)) (podC pod) (fun _ _ => by kernel_rfl) _ (h.below B0.out) (hp.below B0.out) (fun c W' hb => pod1_any c pod (w.heap.size + 1) W' (Blk.cell (Q0.out.below hb Q0.out.lt) 0)))
  have e : lookF ns ps os p (podC pod) = (all8 ns ps os p).filter (podC pod) := rfl
  rw [e] at K
  generalize (all8 ns ps os p).filter (podC pod) = L at K ⊢
  clear h hp e
  go_enter Tryz.func18, Tryz.ntmps18
  go_upto_region 1 with fail
  try change Code.wp _ _ _ _ ((w.alloc (.cells (snapC A B C ca cb cc ns ps os) 26)).alloc (.cells #[.int .i64 pod] 3))
  generalize ((w.alloc (.cells (snapC A B C ca cb cc ns ps os) 26)).alloc (.cells #[.int .i64 pod] 3)) = W at B0 Q0 S0 K ⊢
  have z0 : W.cell? ⟨w.heap.size, 0, none⟩ = some (.slice A ns.length ca) := Blk.cell S0.out 0
  have z1 : W.cell? ⟨w.heap.size, 1, none⟩ = some (.slice B ps.length cb) := Blk.cell S0.out 1
  have z2 : W.cell? ⟨w.heap.size, 2, none⟩ = some (.slice C os.length cc) := Blk.cell S0.out 2
  go_wp2_with fail
  refine (K.out).mono ?_
  rintro e w1 ⟨v, rfl, ho, hb⟩
  have O1 := Lib.hid (own_base ho B0.out.size)
  have B1 := Lib.hid (B0.out.trans (hb.mono B0.out.size))
  clear ho hb K
  go_wp2
  go_ret
  exact ⟨v, rfl, O1.out, B1.out⟩

theorem of_find (l : List ClT) (kd a b : Int) : findC l kd a b = ((l.filter (fun c => isQ (zb c) (kd, a, b, 0)))[0]?).map (·.2.2.2) := by
  have e : (fun c => isQ (zb c) (kd, a, b, 0)) = isC kd a b := by
    funext c
    unfold isQ isC zb
    rw [Bool.eq_iff_iff]
    simp [and_assoc]
  rw [e]
  unfold findC
  rw [← List.head?_eq_getElem?, List.head?_filter]

set_option maxRecDepth 100000 in
set_option maxHeartbeats 2000000 in
theorem ofP_any (A B C P : Option Addr) (ca cb cc cp : Nat) (ns : List NodeD) (ps : List PodD) (os : List OwnD) (p : List Int) (kd a b : Int) (w : World) (h : SnapAt w A B C ca cb cc ns ps os) (hp : IntsAt w P cp p) :
    Calls Tryz.prog 16 #[snapV A B C ca cb cc ns ps os, .slice P p.length cp, .int .i64 kd, .int .i64 a, .int .i64 b] w fun e w' => e = .returned (.tuple #[.int .i64 ((findC (all8 ns ps os p) kd a b).getD 0), .bool (findC (all8 ns ps os p) kd a b).isSome]) ∧ Below w.heap.size w w' := by
  have hlen := all8_len ns ps os p
  have hln := h.ln
  have hlo := h.lo
  have B0 : Hid (Below w.heap.size w ((w.alloc (.cells (snapC A B C ca cb cc ns ps os) 26)).alloc (.cells #[.int .i64 kd, .int .i64 a, .int .i64 b, .int .i64 0] 47))) := Lib.hid (Qu.below2 w _ _)
  have Q0 : Hid (Blk ((w.alloc (.cells (snapC A B C ca cb cc ns ps os) 26)).alloc (.cells #[.int .i64 kd, .int .i64 a, .int .i64 b, .int .i64 0] 47)) (w.heap.size + 1) #[.int .i64 kd, .int .i64 a, .int .i64 b, .int .i64 0] 47) := Lib.hid (blk2 w _ _ _)
  have S0 : Hid (Blk ((w.alloc (.cells (snapC A B C ca cb cc ns ps os) 26)).alloc (.cells #[.int .i64 kd, .int .i64 a, .int .i64 b, .int .i64 0] 47)) w.heap.size (snapC A B C ca cb cc ns ps os) 26) := Lib.hid (Blk.alloc (Blk.new w _ _) _)
  have K := Lib.hid (look1_any A B C P ca cb cc cp ns ps os p 53 (.pointer (some ⟨w.heap.size + 1, 0, none⟩)) (fun c => isQ c (kd, a, b, 0)) (fun _ _ => by kernel_rfl) _ (h.below B0.out) (hp.below B0.out) (fun c W' hb => of1_any c (kd, a, b, 0) (w.heap.size + 1) W' (Q0.out.below hb Q0.out.lt)))
  have HF := Lib.hid (of_find (all8 ns ps os p) kd a b)
  have e : lookF ns ps os p (fun c => isQ c (kd, a, b, 0)) = (all8 ns ps os p).filter (fun c => isQ (zb c) (kd, a, b, 0)) := rfl
  rw [e] at K
  generalize (all8 ns ps os p).filter (fun c => isQ (zb c) (kd, a, b, 0)) = L at K HF
  generalize findC (all8 ns ps os p) kd a b = R at HF ⊢
  clear h hp e hlen
  go_enter Tryz.func16, Tryz.ntmps16
  go_upto_region 2 with fail
  try change Code.wp _ _ _ _ ((w.alloc (.cells (snapC A B C ca cb cc ns ps os) 26)).alloc (.cells #[.int .i64 kd, .int .i64 a, .int .i64 b, .int .i64 0] 47))
  generalize ((w.alloc (.cells (snapC A B C ca cb cc ns ps os) 26)).alloc (.cells #[.int .i64 kd, .int .i64 a, .int .i64 b, .int .i64 0] 47)) = W at B0 Q0 S0 K ⊢
  have z0 : W.cell? ⟨w.heap.size, 0, none⟩ = some (.slice A ns.length ca) := Blk.cell S0.out 0
  have z1 : W.cell? ⟨w.heap.size, 1, none⟩ = some (.slice B ps.length cb) := Blk.cell S0.out 1
  have z2 : W.cell? ⟨w.heap.size, 2, none⟩ = some (.slice C os.length cc) := Blk.cell S0.out 2
  go_wp2_with fail
  refine (K.out).mono ?_
  rintro e w1 ⟨v, rfl, ho, hb⟩
  obtain ⟨G, cg, rfl, _⟩ := La.own_slice ho
  have O1 := Lib.hid (La.own_slat ho)
  have B1 := Lib.hid (B0.out.trans (hb.mono B0.out.size))
  clear ho hb K z0 z1 z2
  cases L with
  | nil =>
    have HE : Hid (R = none) := HF
    clear HF
    simp only [List.length_nil]
    go_wp2
    go_ret2
    rw [HE.out]
    exact ⟨rfl, B1.out⟩
  | cons y t =>
    have HE : Hid (R = some y.2.2.2) := HF
    obtain ⟨g, o, hG, hbl, c0, c1, c2, c3⟩ := atC O1.out (k := 0) (x := y) rfl
    subst hG
    simp only [Nat.zero_mul, Nat.add_zero] at c0 c1 c2 c3
    have hl0 : (0 : Int) < ((t.length + 1 : Nat) : Int) := by omega
    have hlb : (((t.length + 1 : Nat) : Int) == 0) = false := by rw [beq_eq_false_iff_ne]; omega
    have hli : ¬ ((t.length + 1 : Nat) : Int) = 0 := by omega
    clear HF O1
    simp only [List.length_cons]
    generalize t.length + 1 = m at *
    go_wp2
    go_ret2
    rw [HE.out]
    exact ⟨rfl, B1.out⟩
end Go.Proofs.YtpdaohkpgconkaaGreat

namespace Go.Proofs.YtpdaohkpgconkaaGreat
open Go.RowKit

set_option maxRecDepth 100000 in
set_option maxHeartbeats 4000000 in
theorem brokenP_any (A B C P : Option Addr) (ca cb cc cp : Nat) (ns : List NodeD) (ps : List PodD) (os : List OwnD) (p : List Int) (hl : (all8 ns ps os p).length ≤ 12000) (w : World) (h : SnapAt w A B C ca cb cc ns ps os) (hp : IntsAt w P cp p) :
    Calls Tryz.prog 32 #[snapV A B C ca cb cc ns ps os, .slice P p.length cp] w fun e w' => ∃ v, e = .returned v ∧ w'.ownsRow w.heap.size 47 4 v ((all8 ns ps os p).filter brokC).length (cells4 ((all8 ns ps os p).filter brokC)) ∧ Below w.heap.size w w' := by
  have B0 : Hid (Below w.heap.size w (w.alloc (.cells (snapC A B C ca cb cc ns ps os) 26))) := Lib.hid (below1 w _)
  have HA := Lib.hid (allP_any A B C P ca cb cc cp ns ps os p _ (h.below B0.out) (hp.below B0.out))
  obtain ⟨i0, hi0, hz0, hz1, hz2⟩ := info_parts cl_info
  generalize all8 ns ps os p = l at HA hl ⊢
  clear h hp
  go_enter Tryz.func32, Tryz.ntmps32
  go_wp2_with fail
  refine (HA.out).mono ?_
  rintro e w1 ⟨v, rfl, ho, hb⟩
  obtain ⟨G, cg, rfl, _⟩ := La.own_slice ho
  have O1 := Lib.hid (La.own_slat ho)
  have B1 := Lib.hid (B0.out.trans (hb.mono B0.out.size))
  clear ho hb HA B0
  go_wp2_with fail
  go_loopw [5, 18] (fun v i wr => ∃ k : Nat, k ≤ l.length ∧ i = .int .i64 k ∧ wr.ownsRow w1.heap.size 47 4 v ((l.take k).filter brokC).length (cells4 ((l.take k).filter brokC)) ∧ Below w1.heap.size w1 wr) (fun _ i _ => l.length - (intOf i).toNat)
  case atStart => exact ⟨0, by omega, rfl, World.ownsRow_nil _ _ _ _, Below.refl _ _⟩
  case round =>
    obtain ⟨k, hk, rfl, ho, hb⟩ := hrel
    have HO := Lib.hid ho
    have HB := Lib.hid hb
    clear ho hb
    by_cases hlt : k < l.length
    case neg =>
      obtain rfl : k = l.length := by omega
      rw [List.take_length] at HO
      go_wp2
      go_ret
      exact ⟨_, rfl, own_base HO.out B1.out.size, B1.out.trans (HB.out.mono B1.out.size)⟩
    obtain ⟨y, hy⟩ : ∃ y, l[k]? = some y := ⟨l[k], List.getElem?_eq_getElem hlt⟩
    obtain ⟨g, o, hG, hbl, c0, c1, c2, c3⟩ := atC (La.SlAt.below O1.out HB.out) hy
    subst hG
    have k0 : (0 : Int) ≤ (k : Int) := by omega
    have k1 : (k : Int) < (l.length : Int) := by omega
    have HF := Lib.hid (filt_snoc brokC hy)
    have hfl : ((l.take k).filter brokC).length ≤ k := Nat.le_trans (List.length_filter_le _ _) (by rw [List.length_take]; omega)
    have Hy : Hid (brokC y = decide (0 < y.2.2.2)) := Lib.hid rfl
    clear hy
    generalize (l.take k).filter brokC = M at HO HF hfl
    go_upto_region 6 with fail
    have T8 : Hid (Blk (wr.alloc (.cells #[.int .i64 y.1, .int .i64 y.2.1, .int .i64 y.2.2.1, .int .i64 y.2.2.2] 47)) wr.heap.size #[.int .i64 y.1, .int .i64 y.2.1, .int .i64 y.2.2.1, .int .i64 y.2.2.2] 47) := Lib.hid (Blk.new wr _ _)
    have R8 : Hid (Below wr.heap.size wr (wr.alloc (.cells #[.int .i64 y.1, .int .i64 y.2.1, .int .i64 y.2.2.1, .int .i64 y.2.2.2] 47))) := Lib.hid (below1 wr _)
    try change Code.wp _ _ _ _ (wr.alloc (.cells #[.int .i64 y.1, .int .i64 y.2.1, .int .i64 y.2.2.1, .int .i64 y.2.2.2] 47))
    generalize (wr.alloc (.cells #[.int .i64 y.1, .int .i64 y.2.1, .int .i64 y.2.2.1, .int .i64 y.2.2.2] 47)) = W8 at T8 R8 ⊢
    have HO8 := Lib.hid (La.own_below HO.out R8.out)
    have HB8 := Lib.hid (HB.out.trans (R8.out.mono HB.out.size))
    clear c0 c1 c2 c3
    have c0 : W8.cell? ⟨wr.heap.size, 0, none⟩ = some (.int .i64 y.1) := Blk.cell T8.out 0
    have c1 : W8.cell? ⟨wr.heap.size, 1, none⟩ = some (.int .i64 y.2.1) := Blk.cell T8.out 1
    have c2 : W8.cell? ⟨wr.heap.size, 2, none⟩ = some (.int .i64 y.2.2.1) := Blk.cell T8.out 2
    have c3 : W8.cell? ⟨wr.heap.size, 3, none⟩ = some (.int .i64 y.2.2.2) := Blk.cell T8.out 3
    clear T8 R8 HO HB
    by_cases h1 : 0 < y.2.2.2
    case neg =>
      have HE : Hid ((l.take (k + 1)).filter brokC = M) := Lib.hid (by rw [HF.out, Hy.out, decide_eq_false h1]; simp)
      clear HF Hy
      go_wp2_with fail
      go_roundw
      case rel => exact ⟨k + 1, by omega, by go_num, by rw [HE.out]; exact HO8.out, HB8.out⟩
      case measure => simp [intOf]; omega
    have HE : Hid ((l.take (k + 1)).filter brokC = M ++ [y]) := Lib.hid (by rw [HF.out, Hy.out, decide_eq_true h1]; simp)
    clear HF Hy
    go_wp2_with (at_builtin; refine wpList_append_own _ rfl _ _ 48 rfl w1.heap.size 47 i0 (.agg #[.int .i64 0, .int .i64 0, .int .i64 0, .int .i64 0]) 4 32 Tryz.underlying48 hi0 hz0 hz1 hz2 rfl (by decide) _ _ _ rfl (show World.ownsRow _ _ _ _ _ _ _ from HO8.out.alloc _) ⟨W8.heap.size, 0, none⟩ 1 1 [.int .i64 y.1, .int .i64 y.2.1, .int .i64 y.2.2.1, .int .i64 y.2.2.2] rfl rfl ?c1z ?c2z ?c3z ?c4z ?c5z ?_)
    case c1z =>
      intro j u hj
      match j, hj with
      | 0, hj => simp at hj; subst hj; simp [Addr.add]
      | 1, hj => simp at hj; subst hj; simp [Addr.add]
      | 2, hj => simp at hj; subst hj; simp [Addr.add]
      | 3, hj => simp at hj; subst hj; simp [Addr.add]
    case c2z => first | rfl | (intro u hu; simp at hu; rcases hu with rfl | rfl | rfl | rfl <;> rfl)
    case c3z => unfold maxLen; omega
    case c4z => omega
    case c5z => have := HB8.out.size; simp; omega
    intro v4 w4 hown4 hgrow4 _
    have P4 := Lib.hid hown4
    have D4 := Lib.hid ((HB8.out.alloc HB8.out.size (.cells #[.int .i64 y.1, .int .i64 y.2.1, .int .i64 y.2.2.1, .int .i64 y.2.2.2] 47)).grown hgrow4 (by have := HB8.out.size; simp; omega) (fun j hj => own_gem HO8.out hj))
    clear hown4 hgrow4
    go_wp2_with fail
    go_roundw
    case rel =>
      refine ⟨k + 1, by omega, by go_num, ?_, D4.out⟩
      rw [HE.out, List.length_append, cells4_snoc]
      exact P4.out
    case measure => simp [intOf]; omega
end Go.Proofs.YtpdaohkpgconkaaGreat

namespace Go.Proofs.YtpdaohkpgconkaaGreat
open Go.RowKit

def cap15 : Nat → Int := fun k => if k = 0 then 15 else 0
/-- The chapter's cluster: a name and a mark of its second node are letters. -/
def chN8 (N : Nat) (nm : List UInt8) (lost : Bool) : List NodeD := [
  { name := [97], cap := cap15, labels := [(bZone, [120])], taints := [], cordon := false, lost := false, al := some ⟨N + 2, 0, none⟩, cl := 1, at_ := none, ct := 0 },
  { name := nm, cap := cap15, labels := [(bZone, [121])], taints := [], cordon := false, lost := lost, al := some ⟨N + 3, 0, none⟩, cl := 1, at_ := none, ct := 0 },
  { name := [99], cap := cap15, labels := [], taints := [], cordon := false, lost := false, al := none, cl := 0, at_ := none, ct := 0 }]
def chO8 (mn : Int) : List OwnD := [{ name := [111], min := mn, topo := bZone, skew := 1, single := false }]
/-- The chapter's cluster lies in memory, from block N on; its pods in a row of their own. -/
structure ChapAt8 (mn : Int) (w : World) (N : Nat) (v : Value) (k : Nat) (nm : List UInt8) (lost : Bool) : Prop where
  l1 : Blk w (N + 2) #[strV bZone, strV [120]] 29
  l2 : Blk w (N + 3) #[strV bZone, strV [121]] 29
  n : Blk w (N + 4) (cellsN (chN8 N nm lost)).toArray 34
  o : Blk w (N + 5) (cellsO (chO8 mn)).toArray 36
  p : w.ownsRow N 43 15 v k (cellsP (chP.take k))
theorem ChapAt8.kept {mn : Int} {w w' : World} {N k : Nat} {v : Value} {nm : List UInt8} {lost : Bool} (h : ChapAt8 mn w N v k nm lost) (hb : Below w.heap.size w w') : ChapAt8 mn w' N v k nm lost :=
  ⟨h.l1.below hb h.l1.lt, h.l2.below hb h.l2.lt, h.n.below hb h.n.lt, h.o.below hb h.o.lt, by
    refine h.p.kept (grown_of_below hb none) ?_
    rcases h.p.2 with ⟨rfl, _⟩ | ⟨g, cap, cur, rfl, _⟩
    · exact .inl rfl
    · exact .inr (by simp [Value.ownBlock])⟩

theorem ChapAt8.set {mn : Int} {w : World} {N k : Nat} {v : Value} {nm : List UInt8} {lost : Bool} (h : ChapAt8 mn w N v k nm lost) {b : Nat} {cs : Array Value} {t : TypeId} (hb : Blk w b cs t) (h1 : b ≠ N + 2 ∧ b ≠ N + 3 ∧ b ≠ N + 4 ∧ b ≠ N + 5) (ht : t ≠ 43) (i : Nat) (u : Value) : ChapAt8 mn (w.setCell ⟨b, i, none⟩ u) N v k nm lost :=
  ⟨h.l1.oth (Ne.symm h1.1) i u, h.l2.oth (Ne.symm h1.2.1) i u, h.n.oth (Ne.symm h1.2.2.1) i u, h.o.oth (Ne.symm h1.2.2.2) i u, ch_set h.p hb ht i u⟩
theorem ChapAt8.step {mn : Int} {w W w' : World} {N k k' : Nat} {v v' : Value} {nm : List UInt8} {lost : Bool} (h : ChapAt8 mn w N v k nm lost) (hW : Below w.heap.size w W) {n : Nat} {xs : List Value} (ho : W.ownsRow N 43 15 v n xs) (hg : W.grownBy w' v.ownBlock) (hn : w'.ownsRow N 43 15 v' k' (cellsP (chP.take k'))) : ChapAt8 mn w' N v' k' nm lost :=
  ⟨ch_other ho hg (h.l1.below hW h.l1.lt) (by decide), ch_other ho hg (h.l2.below hW h.l2.lt) (by decide), ch_other ho hg (h.n.below hW h.n.lt) (by decide), ch_other ho hg (h.o.below hW h.o.lt) (by decide), hn⟩

set_option maxRecDepth 100000 in
set_option maxHeartbeats 4000000 in
theorem chapter8_any (w : World) :
    Calls Tryz.prog 13 #[] w fun e w' => ∃ B cb, e = .returned (.agg #[.slice (some ⟨w.heap.size + 4, 0, none⟩) 3 3, .slice B 3 cb, .slice (some ⟨w.heap.size + 5, 0, none⟩) 1 1]) ∧ ChapAt8 3 w' w.heap.size (.slice B 3 cb) 3 [98] false ∧ Below w.heap.size w w' := by
  obtain ⟨i0, hi0, hz0, hz1, hz2⟩ := info_parts pod_info
  go_enter Tryz.func13, Tryz.ntmps13
  have N1 := Lib.hid (Blk.new (w.alloc (Obj.cells #[Value.slice none 0 0, Value.slice none 0 0, Value.slice none 0 0] 26)) zer5 32)
  go_wp2_with (refine wpList_store_row rfl 32 (.tmp 1) (.tmp 4) rfl (w.heap.size + 1) zer5 rfl rfl 32 _ N1.out Qu.vec_size (by kernel_rfl) (by kernel_rfl) ?_)
  clear N1
  have B0 : Hid (Below w.heap.size w (((((((w.alloc (Obj.cells #[Value.slice none 0 0, Value.slice none 0 0, Value.slice none 0 0] 26)).alloc (Obj.cells #[Value.int .i64 15, Value.int .i64 0, Value.int .i64 0, Value.int .i64 0, Value.int .i64 0] 32)).alloc (Obj.cells #[strV bZone, strV [120]] 29)).alloc (Obj.cells #[strV bZone, strV [121]] 29)).alloc (Obj.cells (cellsN (chN8 w.heap.size [98] false)).toArray 34)).alloc (Obj.cells (cellsO (chO8 3)).toArray 36)).alloc (Obj.cells #[Value.slice (some { block := w.heap.size + 4, off := 0 }) 3 3, Value.slice none 0 0, Value.slice (some { block := w.heap.size + 5, off := 0 }) 1 1] 26))) := Lib.hid (((((((Qu.below2 w _ _).alloc (by simp; omega) _).alloc (by simp; omega) _).alloc (by simp; omega) _).alloc (by simp; omega) _).alloc (by simp; omega) _))
  have C0 : Hid (ChapAt8 3 (((((((w.alloc (Obj.cells #[Value.slice none 0 0, Value.slice none 0 0, Value.slice none 0 0] 26)).alloc (Obj.cells #[Value.int .i64 15, Value.int .i64 0, Value.int .i64 0, Value.int .i64 0, Value.int .i64 0] 32)).alloc (Obj.cells #[strV bZone, strV [120]] 29)).alloc (Obj.cells #[strV bZone, strV [121]] 29)).alloc (Obj.cells (cellsN (chN8 w.heap.size [98] false)).toArray 34)).alloc (Obj.cells (cellsO (chO8 3)).toArray 36)).alloc (Obj.cells #[Value.slice (some { block := w.heap.size + 4, off := 0 }) 3 3, Value.slice none 0 0, Value.slice (some { block := w.heap.size + 5, off := 0 }) 1 1] 26)) w.heap.size (.slice none 0 0) 0 [98] false) := Lib.hid (by
    have hs1 : ∀ (w : World) (o : Obj), (w.alloc o).heap.size = w.heap.size + 1 := World.size_alloc
    constructor
    · exact Blk.alloc (Blk.alloc (Blk.alloc (Blk.alloc (by have := Blk.new ((w.alloc (Obj.cells #[Value.slice none 0 0, Value.slice none 0 0, Value.slice none 0 0] 26)).alloc (Obj.cells #[Value.int .i64 15, Value.int .i64 0, Value.int .i64 0, Value.int .i64 0, Value.int .i64 0] 32)) #[strV bZone, strV [120]] 29; rw [hs1, hs1] at this; exact this) _) _) _) _
    · exact Blk.alloc (Blk.alloc (Blk.alloc (by have := Blk.new (((w.alloc (Obj.cells #[Value.slice none 0 0, Value.slice none 0 0, Value.slice none 0 0] 26)).alloc (Obj.cells #[Value.int .i64 15, Value.int .i64 0, Value.int .i64 0, Value.int .i64 0, Value.int .i64 0] 32)).alloc (Obj.cells #[strV bZone, strV [120]] 29)) #[strV bZone, strV [121]] 29; rw [hs1, hs1, hs1] at this; exact this) _) _) _
    · exact Blk.alloc (Blk.alloc (by have := Blk.new ((((w.alloc (Obj.cells #[Value.slice none 0 0, Value.slice none 0 0, Value.slice none 0 0] 26)).alloc (Obj.cells #[Value.int .i64 15, Value.int .i64 0, Value.int .i64 0, Value.int .i64 0, Value.int .i64 0] 32)).alloc (Obj.cells #[strV bZone, strV [120]] 29)).alloc (Obj.cells #[strV bZone, strV [121]] 29)) (cellsN (chN8 w.heap.size [98] false)).toArray 34; rw [hs1, hs1, hs1, hs1] at this; exact this) _) _
    · exact Blk.alloc (by have := Blk.new (((((w.alloc (Obj.cells #[Value.slice none 0 0, Value.slice none 0 0, Value.slice none 0 0] 26)).alloc (Obj.cells #[Value.int .i64 15, Value.int .i64 0, Value.int .i64 0, Value.int .i64 0, Value.int .i64 0] 32)).alloc (Obj.cells #[strV bZone, strV [120]] 29)).alloc (Obj.cells #[strV bZone, strV [121]] 29)).alloc (Obj.cells (cellsN (chN8 w.heap.size [98] false)).toArray 34)) (cellsO (chO8 3)).toArray 36; rw [hs1, hs1, hs1, hs1, hs1] at this; exact this) _
    · exact World.ownsRow_nil _ _ _ _)
  have S0 : Hid (Blk (((((((w.alloc (Obj.cells #[Value.slice none 0 0, Value.slice none 0 0, Value.slice none 0 0] 26)).alloc (Obj.cells #[Value.int .i64 15, Value.int .i64 0, Value.int .i64 0, Value.int .i64 0, Value.int .i64 0] 32)).alloc (Obj.cells #[strV bZone, strV [120]] 29)).alloc (Obj.cells #[strV bZone, strV [121]] 29)).alloc (Obj.cells (cellsN (chN8 w.heap.size [98] false)).toArray 34)).alloc (Obj.cells (cellsO (chO8 3)).toArray 36)).alloc (Obj.cells #[Value.slice (some { block := w.heap.size + 4, off := 0 }) 3 3, Value.slice none 0 0, Value.slice (some { block := w.heap.size + 5, off := 0 }) 1 1] 26)) (w.heap.size + 6) #[Value.slice (some { block := w.heap.size + 4, off := 0 }) 3 3, Value.slice none 0 0, Value.slice (some { block := w.heap.size + 5, off := 0 }) 1 1] 26) := Lib.hid (by
    have hs1 : ∀ (w : World) (o : Obj), (w.alloc o).heap.size = w.heap.size + 1 := World.size_alloc
    have := Blk.new ((((((w.alloc (Obj.cells #[Value.slice none 0 0, Value.slice none 0 0, Value.slice none 0 0] 26)).alloc (Obj.cells #[Value.int .i64 15, Value.int .i64 0, Value.int .i64 0, Value.int .i64 0, Value.int .i64 0] 32)).alloc (Obj.cells #[strV bZone, strV [120]] 29)).alloc (Obj.cells #[strV bZone, strV [121]] 29)).alloc (Obj.cells (cellsN (chN8 w.heap.size [98] false)).toArray 34)).alloc (Obj.cells (cellsO (chO8 3)).toArray 36)) #[Value.slice (some { block := w.heap.size + 4, off := 0 }) 3 3, Value.slice none 0 0, Value.slice (some { block := w.heap.size + 5, off := 0 }) 1 1] 26
    rw [hs1, hs1, hs1, hs1, hs1, hs1] at this
    exact this)
  have Z0 : Hid (Blk (((((((w.alloc (Obj.cells #[Value.slice none 0 0, Value.slice none 0 0, Value.slice none 0 0] 26)).alloc (Obj.cells #[Value.int .i64 15, Value.int .i64 0, Value.int .i64 0, Value.int .i64 0, Value.int .i64 0] 32)).alloc (Obj.cells #[strV bZone, strV [120]] 29)).alloc (Obj.cells #[strV bZone, strV [121]] 29)).alloc (Obj.cells (cellsN (chN8 w.heap.size [98] false)).toArray 34)).alloc (Obj.cells (cellsO (chO8 3)).toArray 36)).alloc (Obj.cells #[Value.slice (some { block := w.heap.size + 4, off := 0 }) 3 3, Value.slice none 0 0, Value.slice (some { block := w.heap.size + 5, off := 0 }) 1 1] 26)) w.heap.size #[Value.slice none 0 0, Value.slice none 0 0, Value.slice none 0 0] 26) := Lib.hid (Blk.alloc (Blk.alloc (Blk.alloc (Blk.alloc (Blk.alloc (Blk.alloc (Blk.new w _ _) _) _) _) _) _) _)
  change Code.wp _ _ _ _ (((((((w.alloc (Obj.cells #[Value.slice none 0 0, Value.slice none 0 0, Value.slice none 0 0] 26)).alloc (Obj.cells #[Value.int .i64 15, Value.int .i64 0, Value.int .i64 0, Value.int .i64 0, Value.int .i64 0] 32)).alloc (Obj.cells #[strV bZone, strV [120]] 29)).alloc (Obj.cells #[strV bZone, strV [121]] 29)).alloc (Obj.cells (cellsN (chN8 w.heap.size [98] false)).toArray 34)).alloc (Obj.cells (cellsO (chO8 3)).toArray 36)).alloc (Obj.cells #[Value.slice (some { block := w.heap.size + 4, off := 0 }) 3 3, Value.slice none 0 0, Value.slice (some { block := w.heap.size + 5, off := 0 }) 1 1] 26))
  generalize (((((((w.alloc (Obj.cells #[Value.slice none 0 0, Value.slice none 0 0, Value.slice none 0 0] 26)).alloc (Obj.cells #[Value.int .i64 15, Value.int .i64 0, Value.int .i64 0, Value.int .i64 0, Value.int .i64 0] 32)).alloc (Obj.cells #[strV bZone, strV [120]] 29)).alloc (Obj.cells #[strV bZone, strV [121]] 29)).alloc (Obj.cells (cellsN (chN8 w.heap.size [98] false)).toArray 34)).alloc (Obj.cells (cellsO (chO8 3)).toArray 36)).alloc (Obj.cells #[Value.slice (some { block := w.heap.size + 4, off := 0 }) 3 3, Value.slice none 0 0, Value.slice (some { block := w.heap.size + 5, off := 0 }) 1 1] 26)) = W0 at B0 C0 S0 Z0 ⊢
  rw [show w.heap.size + 1 + 1 + 1 + 1 + 1 + 1 = w.heap.size + 6 from rfl]
  obtain ⟨Sb, hSb⟩ : ∃ Sb, w.heap.size + 6 = Sb := ⟨_, rfl⟩
  rw [hSb] at S0 ⊢
  have HSb := Lib.hid hSb
  clear hSb
  go_loopw [3] (fun i wr => ∃ (k : Nat) (B : Option Addr) (cb : Nat), k ≤ 3 ∧ i = .int .i64 k ∧ ChapAt8 3 wr w.heap.size (.slice B k cb) k [98] false ∧ Blk wr Sb #[Value.slice (some { block := w.heap.size + 4, off := 0 }) 3 3, .slice B k cb, Value.slice (some { block := w.heap.size + 5, off := 0 }) 1 1] 26 ∧ Blk wr w.heap.size #[Value.slice none 0 0, Value.slice none 0 0, Value.slice none 0 0] 26 ∧ Below w.heap.size w wr) (fun i _ => 3 - (intOf i).toNat)
  case atStart => exact ⟨0, none, 0, by omega, rfl, C0.out, S0.out, Z0.out, B0.out⟩
  case round =>
    clear B0 C0 S0 Z0
    obtain ⟨k, B, cb, hk, rfl, hc, hs, hz, hb⟩ := hrel
    have HC := Lib.hid hc
    have HS := Lib.hid hs
    have HZ := Lib.hid hz
    have HB := Lib.hid hb
    have s0 : wr.cell? ⟨Sb, 0, none⟩ = some (Value.slice (some { block := w.heap.size + 4, off := 0 }) 3 3) := Blk.cell hs 0
    have s1 : wr.cell? ⟨Sb, 1, none⟩ = some (.slice B k cb) := Blk.cell hs 1
    have s2 : wr.cell? ⟨Sb, 2, none⟩ = some (Value.slice (some { block := w.heap.size + 5, off := 0 }) 1 1) := Blk.cell hs 2
    have f1 := Blk.free hs 1
    clear hc hs hz hb
    have hk4 : k = 0 ∨ k = 1 ∨ k = 2 ∨ k = 3 := by omega
    rcases hk4 with rfl | rfl | rfl | rfl
    · have hnb : Hid (w.heap.size ≤ wr.heap.size) := Lib.hid HB.out.size
      have s1a : ∀ o, (wr.alloc o).cell? ⟨Sb, 1, none⟩ = some (.slice B 0 cb) := fun o => Blk.cell (Blk.alloc HS.out o) 1
      have hdec : 26 ≠ 43 := by decide
      have h1c : Hid (∀ u ∈ cellsP [chPod 112], u.oneCell' = true) := Lib.hid (by
        intro u hu
        simp [cellsP, chPod] at hu
        rcases hu with rfl | rfl | rfl | rfl | rfl | rfl | rfl | rfl | rfl | rfl | rfl | rfl | rfl <;> rfl)
      have hbW : Hid (Below wr.heap.size wr ((wr.alloc (.cells (cellsP [chPod 112]).toArray 43)).drew)) := Lib.hid (((Below.refl _ _).alloc (Nat.le_refl _) _).drew)
      have hcl : Hid (∀ j u, (cellsP [chPod 112])[j]? = some u → World.cell? ((wr.alloc (.cells (cellsP [chPod 112]).toArray 43)).drew) ((⟨wr.heap.size, 0, none⟩ : Addr).add j) = some u) := Lib.hid (by
        intro j u hj
        rw [WideShapes.add_plain, Nat.zero_add, ← hj, ← List.getElem?_toArray]
        exact Blk.cell (Blk.new wr _ _) j)
      have hon : Hid (World.ownsRow ((wr.alloc (.cells (cellsP [chPod 112]).toArray 43)).drew) w.heap.size 43 15 (.slice B 0 cb) 0 (cellsP (chP.take 0))) := Lib.hid (show World.ownsRow _ _ _ _ _ _ _ from HC.out.p.alloc _)
      have hS9 : Hid (Blk ((wr.alloc (.cells (cellsP [chPod 112]).toArray 43)).drew) Sb #[Value.slice (some { block := w.heap.size + 4, off := 0 }) 3 3, .slice B 0 cb, Value.slice (some { block := w.heap.size + 5, off := 0 }) 1 1] 26) := Lib.hid (Blk.alloc HS.out _)
      have hb9 : Hid (w.heap.size ≤ ((wr.alloc (.cells (cellsP [chPod 112]).toArray 43)).drew).heap.size) := Lib.hid (by have := hnb.out; show w.heap.size ≤ (wr.alloc _).heap.size; simp; omega)
      have hmx9 : Hid (0 + 1 ≤ maxLen) := Lib.hid (by unfold maxLen; omega)
      have hw1 : IntKind.i64.wrap 1 = 1 := by decide
      have hw2 : IntKind.i64.wrap 2 = 2 := by decide
      have hw3 : IntKind.i64.wrap 3 = 3 := by decide
      have he0 : (⟨#[112, 113, 114]⟩ : ByteArray).extract 0 1 = ⟨#[112]⟩ := by decide
      have he1 : (⟨#[112, 113, 114]⟩ : ByteArray).extract 1 2 = ⟨#[113]⟩ := by decide
      have he2 : (⟨#[112, 113, 114]⟩ : ByteArray).extract 2 3 = ⟨#[114]⟩ := by decide
      clear hk
      go_wp2_with fail
      go_region_law (refine step_append_own rfl (.tmp 24) (.tmp 31) 23 rfl w.heap.size 43 i0 (.agg #[.string ⟨#[]⟩, .string ⟨#[]⟩, .int .i64 0, .int .i64 0, .int .i64 0, .int .i64 0, .int .i64 0, .slice none 0 0, .slice none 0 0, .slice none 0 0, .string ⟨#[]⟩, .slice none 0 0, .string ⟨#[]⟩, .slice none 0 0, .string ⟨#[]⟩]) 15 240 Tryz.underlying23 hi0 hz0 hz1 hz2 rfl (by decide) (.slice B 0 cb) 0 (cellsP (chP.take 0)) rfl hon.out ⟨wr.heap.size, 0, none⟩ 1 1 (cellsP [chPod 112]) rfl rfl hcl.out h1c.out hmx9.out (by decide) hb9.out (fun v' w' hown' hgrow' => ?_); obtain ⟨B', cb', rfl, hm'⟩ := La.own_slice hown'; have S3 := Lib.hid (ch_other hon.out hgrow' hS9.out hdec); have q1 := Blk.cell S3.out 1; have q2 := Blk.free S3.out 1)
      all_goals
        have HSQ := HSb.out
        have hc3 : Hid (ChapAt8 3 w' w.heap.size (.slice B' 1 cb') 1 [98] false) := Lib.hid (HC.out.step hbW.out hon.out hgrow' (show World.ownsRow _ _ _ _ _ _ _ from hown'))
        have hc4 : Hid (ChapAt8 3 (w'.setCell ⟨Sb, 1, none⟩ (.slice B' 1 cb')) w.heap.size (.slice B' 1 cb') 1 [98] false) := Lib.hid (hc3.out.set S3.out (by omega) hdec 1 _)
        have hs4 : Hid (Blk (w'.setCell ⟨Sb, 1, none⟩ (.slice B' 1 cb')) Sb #[Value.slice (some { block := w.heap.size + 4, off := 0 }) 3 3, .slice B' 1 cb', Value.slice (some { block := w.heap.size + 5, off := 0 }) 1 1] 26) := Lib.hid (S3.out.set 1 _)
        have hz4 : Hid (Blk (w'.setCell ⟨Sb, 1, none⟩ (.slice B' 1 cb')) w.heap.size #[Value.slice none 0 0, Value.slice none 0 0, Value.slice none 0 0] 26) := Lib.hid (Blk.oth (ch_other hon.out hgrow' (HZ.out.below hbW.out HZ.out.lt) hdec) (by omega) 1 _)
        have hb4 : Hid (Below w.heap.size w (w'.setCell ⟨Sb, 1, none⟩ (.slice B' 1 cb'))) := Lib.hid ((((HB.out.trans (hbW.out.mono hnb.out)).grown hgrow' hb9.out (fun j hj => (hon.out.lt j hj).1))).setCell (p := ⟨Sb, 1, none⟩) (by show w.heap.size ≤ Sb; omega) _)
        clear hown' hgrow' S3 q1 q2 HSQ hcl h1c hon hS9 hb9 hmx9 s0 s1 s2 f1 s1a HC HS HZ HB hbW hc3
        go_wp2
        go_roundw
        case rel => exact ⟨1, B', cb', by omega, by go_num, hc4.out, hs4.out, hz4.out, hb4.out⟩
        case measure => simp [intOf]
    · have hnb : Hid (w.heap.size ≤ wr.heap.size) := Lib.hid HB.out.size
      have s1a : ∀ o, (wr.alloc o).cell? ⟨Sb, 1, none⟩ = some (.slice B 1 cb) := fun o => Blk.cell (Blk.alloc HS.out o) 1
      have hdec : 26 ≠ 43 := by decide
      have h1c : Hid (∀ u ∈ cellsP [chPod 113], u.oneCell' = true) := Lib.hid (by
        intro u hu
        simp [cellsP, chPod] at hu
        rcases hu with rfl | rfl | rfl | rfl | rfl | rfl | rfl | rfl | rfl | rfl | rfl | rfl | rfl <;> rfl)
      have hbW : Hid (Below wr.heap.size wr ((wr.alloc (.cells (cellsP [chPod 113]).toArray 43)).drew)) := Lib.hid (((Below.refl _ _).alloc (Nat.le_refl _) _).drew)
      have hcl : Hid (∀ j u, (cellsP [chPod 113])[j]? = some u → World.cell? ((wr.alloc (.cells (cellsP [chPod 113]).toArray 43)).drew) ((⟨wr.heap.size, 0, none⟩ : Addr).add j) = some u) := Lib.hid (by
        intro j u hj
        rw [WideShapes.add_plain, Nat.zero_add, ← hj, ← List.getElem?_toArray]
        exact Blk.cell (Blk.new wr _ _) j)
      have hon : Hid (World.ownsRow ((wr.alloc (.cells (cellsP [chPod 113]).toArray 43)).drew) w.heap.size 43 15 (.slice B 1 cb) 1 (cellsP (chP.take 1))) := Lib.hid (show World.ownsRow _ _ _ _ _ _ _ from HC.out.p.alloc _)
      have hS9 : Hid (Blk ((wr.alloc (.cells (cellsP [chPod 113]).toArray 43)).drew) Sb #[Value.slice (some { block := w.heap.size + 4, off := 0 }) 3 3, .slice B 1 cb, Value.slice (some { block := w.heap.size + 5, off := 0 }) 1 1] 26) := Lib.hid (Blk.alloc HS.out _)
      have hb9 : Hid (w.heap.size ≤ ((wr.alloc (.cells (cellsP [chPod 113]).toArray 43)).drew).heap.size) := Lib.hid (by have := hnb.out; show w.heap.size ≤ (wr.alloc _).heap.size; simp; omega)
      have hmx9 : Hid (1 + 1 ≤ maxLen) := Lib.hid (by unfold maxLen; omega)
      have hw1 : IntKind.i64.wrap 1 = 1 := by decide
      have hw2 : IntKind.i64.wrap 2 = 2 := by decide
      have hw3 : IntKind.i64.wrap 3 = 3 := by decide
      have he0 : (⟨#[112, 113, 114]⟩ : ByteArray).extract 0 1 = ⟨#[112]⟩ := by decide
      have he1 : (⟨#[112, 113, 114]⟩ : ByteArray).extract 1 2 = ⟨#[113]⟩ := by decide
      have he2 : (⟨#[112, 113, 114]⟩ : ByteArray).extract 2 3 = ⟨#[114]⟩ := by decide
      clear hk
      go_wp2_with fail
      go_region_law (refine step_append_own rfl (.tmp 24) (.tmp 31) 23 rfl w.heap.size 43 i0 (.agg #[.string ⟨#[]⟩, .string ⟨#[]⟩, .int .i64 0, .int .i64 0, .int .i64 0, .int .i64 0, .int .i64 0, .slice none 0 0, .slice none 0 0, .slice none 0 0, .string ⟨#[]⟩, .slice none 0 0, .string ⟨#[]⟩, .slice none 0 0, .string ⟨#[]⟩]) 15 240 Tryz.underlying23 hi0 hz0 hz1 hz2 rfl (by decide) (.slice B 1 cb) 1 (cellsP (chP.take 1)) rfl hon.out ⟨wr.heap.size, 0, none⟩ 1 1 (cellsP [chPod 113]) rfl rfl hcl.out h1c.out hmx9.out (by decide) hb9.out (fun v' w' hown' hgrow' => ?_); obtain ⟨B', cb', rfl, hm'⟩ := La.own_slice hown'; have S3 := Lib.hid (ch_other hon.out hgrow' hS9.out hdec); have q1 := Blk.cell S3.out 1; have q2 := Blk.free S3.out 1)
      all_goals
        have HSQ := HSb.out
        have hc3 : Hid (ChapAt8 3 w' w.heap.size (.slice B' 2 cb') 2 [98] false) := Lib.hid (HC.out.step hbW.out hon.out hgrow' (show World.ownsRow _ _ _ _ _ _ _ from hown'))
        have hc4 : Hid (ChapAt8 3 (w'.setCell ⟨Sb, 1, none⟩ (.slice B' 2 cb')) w.heap.size (.slice B' 2 cb') 2 [98] false) := Lib.hid (hc3.out.set S3.out (by omega) hdec 1 _)
        have hs4 : Hid (Blk (w'.setCell ⟨Sb, 1, none⟩ (.slice B' 2 cb')) Sb #[Value.slice (some { block := w.heap.size + 4, off := 0 }) 3 3, .slice B' 2 cb', Value.slice (some { block := w.heap.size + 5, off := 0 }) 1 1] 26) := Lib.hid (S3.out.set 1 _)
        have hz4 : Hid (Blk (w'.setCell ⟨Sb, 1, none⟩ (.slice B' 2 cb')) w.heap.size #[Value.slice none 0 0, Value.slice none 0 0, Value.slice none 0 0] 26) := Lib.hid (Blk.oth (ch_other hon.out hgrow' (HZ.out.below hbW.out HZ.out.lt) hdec) (by omega) 1 _)
        have hb4 : Hid (Below w.heap.size w (w'.setCell ⟨Sb, 1, none⟩ (.slice B' 2 cb'))) := Lib.hid ((((HB.out.trans (hbW.out.mono hnb.out)).grown hgrow' hb9.out (fun j hj => (hon.out.lt j hj).1))).setCell (p := ⟨Sb, 1, none⟩) (by show w.heap.size ≤ Sb; omega) _)
        clear hown' hgrow' S3 q1 q2 HSQ hcl h1c hon hS9 hb9 hmx9 s0 s1 s2 f1 s1a HC HS HZ HB hbW hc3
        go_wp2
        go_roundw
        case rel => exact ⟨2, B', cb', by omega, by go_num, hc4.out, hs4.out, hz4.out, hb4.out⟩
        case measure => simp [intOf]
    · have hnb : Hid (w.heap.size ≤ wr.heap.size) := Lib.hid HB.out.size
      have s1a : ∀ o, (wr.alloc o).cell? ⟨Sb, 1, none⟩ = some (.slice B 2 cb) := fun o => Blk.cell (Blk.alloc HS.out o) 1
      have hdec : 26 ≠ 43 := by decide
      have h1c : Hid (∀ u ∈ cellsP [chPod 114], u.oneCell' = true) := Lib.hid (by
        intro u hu
        simp [cellsP, chPod] at hu
        rcases hu with rfl | rfl | rfl | rfl | rfl | rfl | rfl | rfl | rfl | rfl | rfl | rfl | rfl <;> rfl)
      have hbW : Hid (Below wr.heap.size wr ((wr.alloc (.cells (cellsP [chPod 114]).toArray 43)).drew)) := Lib.hid (((Below.refl _ _).alloc (Nat.le_refl _) _).drew)
      have hcl : Hid (∀ j u, (cellsP [chPod 114])[j]? = some u → World.cell? ((wr.alloc (.cells (cellsP [chPod 114]).toArray 43)).drew) ((⟨wr.heap.size, 0, none⟩ : Addr).add j) = some u) := Lib.hid (by
        intro j u hj
        rw [WideShapes.add_plain, Nat.zero_add, ← hj, ← List.getElem?_toArray]
        exact Blk.cell (Blk.new wr _ _) j)
      have hon : Hid (World.ownsRow ((wr.alloc (.cells (cellsP [chPod 114]).toArray 43)).drew) w.heap.size 43 15 (.slice B 2 cb) 2 (cellsP (chP.take 2))) := Lib.hid (show World.ownsRow _ _ _ _ _ _ _ from HC.out.p.alloc _)
      have hS9 : Hid (Blk ((wr.alloc (.cells (cellsP [chPod 114]).toArray 43)).drew) Sb #[Value.slice (some { block := w.heap.size + 4, off := 0 }) 3 3, .slice B 2 cb, Value.slice (some { block := w.heap.size + 5, off := 0 }) 1 1] 26) := Lib.hid (Blk.alloc HS.out _)
      have hb9 : Hid (w.heap.size ≤ ((wr.alloc (.cells (cellsP [chPod 114]).toArray 43)).drew).heap.size) := Lib.hid (by have := hnb.out; show w.heap.size ≤ (wr.alloc _).heap.size; simp; omega)
      have hmx9 : Hid (2 + 1 ≤ maxLen) := Lib.hid (by unfold maxLen; omega)
      have hw1 : IntKind.i64.wrap 1 = 1 := by decide
      have hw2 : IntKind.i64.wrap 2 = 2 := by decide
      have hw3 : IntKind.i64.wrap 3 = 3 := by decide
      have he0 : (⟨#[112, 113, 114]⟩ : ByteArray).extract 0 1 = ⟨#[112]⟩ := by decide
      have he1 : (⟨#[112, 113, 114]⟩ : ByteArray).extract 1 2 = ⟨#[113]⟩ := by decide
      have he2 : (⟨#[112, 113, 114]⟩ : ByteArray).extract 2 3 = ⟨#[114]⟩ := by decide
      clear hk
      go_wp2_with fail
      go_region_law (refine step_append_own rfl (.tmp 24) (.tmp 31) 23 rfl w.heap.size 43 i0 (.agg #[.string ⟨#[]⟩, .string ⟨#[]⟩, .int .i64 0, .int .i64 0, .int .i64 0, .int .i64 0, .int .i64 0, .slice none 0 0, .slice none 0 0, .slice none 0 0, .string ⟨#[]⟩, .slice none 0 0, .string ⟨#[]⟩, .slice none 0 0, .string ⟨#[]⟩]) 15 240 Tryz.underlying23 hi0 hz0 hz1 hz2 rfl (by decide) (.slice B 2 cb) 2 (cellsP (chP.take 2)) rfl hon.out ⟨wr.heap.size, 0, none⟩ 1 1 (cellsP [chPod 114]) rfl rfl hcl.out h1c.out hmx9.out (by decide) hb9.out (fun v' w' hown' hgrow' => ?_); obtain ⟨B', cb', rfl, hm'⟩ := La.own_slice hown'; have S3 := Lib.hid (ch_other hon.out hgrow' hS9.out hdec); have q1 := Blk.cell S3.out 1; have q2 := Blk.free S3.out 1)
      all_goals
        have HSQ := HSb.out
        have hc3 : Hid (ChapAt8 3 w' w.heap.size (.slice B' 3 cb') 3 [98] false) := Lib.hid (HC.out.step hbW.out hon.out hgrow' (show World.ownsRow _ _ _ _ _ _ _ from hown'))
        have hc4 : Hid (ChapAt8 3 (w'.setCell ⟨Sb, 1, none⟩ (.slice B' 3 cb')) w.heap.size (.slice B' 3 cb') 3 [98] false) := Lib.hid (hc3.out.set S3.out (by omega) hdec 1 _)
        have hs4 : Hid (Blk (w'.setCell ⟨Sb, 1, none⟩ (.slice B' 3 cb')) Sb #[Value.slice (some { block := w.heap.size + 4, off := 0 }) 3 3, .slice B' 3 cb', Value.slice (some { block := w.heap.size + 5, off := 0 }) 1 1] 26) := Lib.hid (S3.out.set 1 _)
        have hz4 : Hid (Blk (w'.setCell ⟨Sb, 1, none⟩ (.slice B' 3 cb')) w.heap.size #[Value.slice none 0 0, Value.slice none 0 0, Value.slice none 0 0] 26) := Lib.hid (Blk.oth (ch_other hon.out hgrow' (HZ.out.below hbW.out HZ.out.lt) hdec) (by omega) 1 _)
        have hb4 : Hid (Below w.heap.size w (w'.setCell ⟨Sb, 1, none⟩ (.slice B' 3 cb'))) := Lib.hid ((((HB.out.trans (hbW.out.mono hnb.out)).grown hgrow' hb9.out (fun j hj => (hon.out.lt j hj).1))).setCell (p := ⟨Sb, 1, none⟩) (by show w.heap.size ≤ Sb; omega) _)
        clear hown' hgrow' S3 q1 q2 HSQ hcl h1c hon hS9 hb9 hmx9 s0 s1 s2 f1 s1a HC HS HZ HB hbW hc3
        go_wp2
        go_roundw
        case rel => exact ⟨3, B', cb', by omega, by go_num, hc4.out, hs4.out, hz4.out, hb4.out⟩
        case measure => simp [intOf]
    · have z0 : wr.cell? ⟨w.heap.size, 0, none⟩ = some (Value.slice none 0 0) := Blk.cell HZ.out 0
      have z1 : wr.cell? ⟨w.heap.size, 1, none⟩ = some (Value.slice none 0 0) := Blk.cell HZ.out 1
      have z2 : wr.cell? ⟨w.heap.size, 2, none⟩ = some (Value.slice none 0 0) := Blk.cell HZ.out 2
      have g0 := Blk.free HZ.out 0
      have g1 := Blk.free HZ.out 1
      have g2 := Blk.free HZ.out 2
      clear hk
      have HSQ := HSb.out
      have hd1 : 26 ≠ 43 := by decide
      have HZ1 := Lib.hid (HZ.out.set 0 (Value.slice (some { block := w.heap.size + 4, off := 0 }) 3 3))
      have HC1 := Lib.hid (HC.out.set HZ.out (by omega) hd1 0 (Value.slice (some { block := w.heap.size + 4, off := 0 }) 3 3))
      have HZ2 := Lib.hid (HZ1.out.set 1 (.slice B 3 cb))
      have HC2 := Lib.hid (HC1.out.set HZ1.out (by omega) hd1 1 (.slice B 3 cb))
      have HZ3 := Lib.hid (HZ2.out.set 2 (Value.slice (some { block := w.heap.size + 5, off := 0 }) 1 1))
      have HC3 := Lib.hid (HC2.out.set HZ2.out (by omega) hd1 2 (Value.slice (some { block := w.heap.size + 5, off := 0 }) 1 1))
      have HB3 := Lib.hid (((HB.out.setCell (p := ⟨w.heap.size, 0, none⟩) (Nat.le_refl _) (Value.slice (some { block := w.heap.size + 4, off := 0 }) 3 3)).setCell (p := ⟨w.heap.size, 1, none⟩) (Nat.le_refl _) (.slice B 3 cb)).setCell (p := ⟨w.heap.size, 2, none⟩) (Nat.le_refl _) (Value.slice (some { block := w.heap.size + 5, off := 0 }) 1 1))
      clear HSQ hd1
      go_wp2
      refine bodyPost_row1 Tryz.results13 w.heap.size _ _ _ _ (by rfl) (by rfl) HZ3.out Tryz.underlying26 rfl (by kernel_rfl) ?_
      exact ⟨B, cb, rfl, HC3.out, HB3.out⟩

/-- The chapter's cluster as a cluster. -/
theorem ChapAt8.snap {mn : Int} {w : World} {N : Nat} {B : Option Addr} {cb : Nat} {nm : List UInt8} {lost : Bool} (h : ChapAt8 mn w N (.slice B 3 cb) 3 nm lost) (hnm : nm.length ≤ 1000) : SnapAt w (some ⟨N + 4, 0, none⟩) B (some ⟨N + 5, 0, none⟩) 3 cb 1 (chN8 N nm lost) chP (chO8 mn) := by
  have lab : ∀ (b : Nat) (v : UInt8), Blk w b #[strV bZone, strV [v]] 29 → ListL w (some ⟨b, 0, none⟩) 1 [(bZone, [v])] := fun b v hb => by
    refine ⟨by simp, by omega, fun j y hj => ⟨b, 0, rfl, ?_⟩, fun x hx => ?_⟩
    · rw [Nat.zero_add, Blk.cell hb j, ← hj, ← List.getElem?_toArray]
      rfl
    · simp only [List.mem_singleton] at hx
      subst hx
      exact ⟨by simp, by simp⟩
  have nolab : ListL w none 0 [] := ⟨by simp, by omega, fun j y hj => by simp [La.cellsL] at hj, fun x hx => by cases hx⟩
  have noter : ListT w none 0 [] := ⟨by simp, by omega, fun j y hj => by simp [La.cellsT] at hj, fun x hx => by cases hx⟩
  have hcap : 3 ≤ cb ∧ cb ≤ maxLen := by
    rcases h.p.2 with ⟨e, _⟩ | ⟨g, cap, cur, e, _, _, h1, h2, _⟩
    · cases e
    · cases e
      exact ⟨h1, h2⟩
  have hpod : ∀ c, (chPod c).fit w := fun c => ⟨nolab, noter, nolab, noter, noter, by simp [chPod]⟩
  constructor
  · constructor
    · intro j y hj
      refine ⟨N + 4, 0, rfl, ?_⟩
      rw [Nat.zero_add, Blk.cell h.n j, ← hj, ← List.getElem?_toArray]
    · intro x hx
      simp only [chN8, List.mem_cons, List.not_mem_nil, or_false] at hx
      rcases hx with rfl | rfl | rfl
      · exact ⟨lab _ _ h.l1, nolab, by simp⟩
      · exact ⟨lab _ _ h.l2, nolab, by show nm.length ≤ _; omega⟩
      · exact ⟨nolab, nolab, by simp⟩
  · constructor
    · exact La.own_slat h.p
    · intro x hx
      simp only [chP, List.mem_cons, List.not_mem_nil, or_false] at hx
      rcases hx with rfl | rfl | rfl <;> exact hpod _
  · intro j y hj
    refine ⟨N + 5, 0, rfl, ?_⟩
    rw [Nat.zero_add, Blk.cell h.o j, ← hj, ← List.getElem?_toArray]
  · intro x hx
    simp only [chO8, List.mem_singleton] at hx
    subst hx
    exact ⟨by simp, by simp⟩
  · simp [chN8]
  · simp [chP]
  · simp [chO8]
  · exact ⟨by simp [chN8], by omega⟩
  · refine ⟨by simp [chP]; omega, ?_⟩
    have := hcap.2
    unfold maxLen at this
    omega
  · exact ⟨by simp [chO8], by omega⟩
end Go.Proofs.YtpdaohkpgconkaaGreat

namespace Go.Proofs.YtpdaohkpgconkaaGreat
open Go.RowKit Go.Maps Go.Sort

theorem c8_place1 (N : Nat) : placeE (chN8 N [98] false) chP (chO8 3) [0, 0, -1] = 0 := by kernel_rfl
theorem c8_place2 (N : Nat) : placeE (chN8 N [98] false) chP (chO8 3) [0, 1, 2] = 0 := by kernel_rfl
theorem c8_spread1 (N : Nat) : spreadF (chN8 N [98] false) chP (chO8 3) [0, 0, -1] 0 = [2, 0] := by
  have h1 : ownerB (chN8 N [98] false) chP (chO8 3) [0, 0, -1] 0 = true := by kernel_rfl
  have h2 : strKeys (spreadD (chN8 N [98] false) bZone [0, 0, -1] (offL [0, 0, -1] (membersF chP [111]))) = [[120], [121]] := by kernel_rfl
  unfold spreadF
  rw [if_pos h1]
  show rowD (spreadD (chN8 N [98] false) bZone [0, 0, -1] (offL [0, 0, -1] (membersF chP [111]))) = [2, 0]
  unfold rowD sortK
  rw [h2, sort2]
  kernel_rfl
theorem c8_spread2 (N : Nat) : spreadF (chN8 N [98] false) chP (chO8 3) [0, 1, 2] 0 = [1, 1] := by
  have h1 : ownerB (chN8 N [98] false) chP (chO8 3) [0, 1, 2] 0 = true := by kernel_rfl
  have h2 : strKeys (spreadD (chN8 N [98] false) bZone [0, 1, 2] (offL [0, 1, 2] (membersF chP [111]))) = [[120], [121]] := by kernel_rfl
  unfold spreadF
  rw [if_pos h1]
  show rowD (spreadD (chN8 N [98] false) bZone [0, 1, 2] (offL [0, 1, 2] (membersF chP [111]))) = [1, 1]
  unfold rowD sortK
  rw [h2, sort2]
  kernel_rfl
def capsL (x : Int) : List ClT := [(1, 0, 0, x), (1, 0, 1, 0), (1, 0, 2, 0), (1, 0, 3, 0), (1, 0, 4, 0), (1, 1, 0, 0), (1, 1, 1, 0), (1, 1, 2, 0), (1, 1, 3, 0), (1, 1, 4, 0), (1, 2, 0, 0), (1, 2, 1, 0), (1, 2, 2, 0), (1, 2, 3, 0), (1, 2, 4, 0)]
theorem c8_all1 (N : Nat) : all8 (chN8 N [98] false) chP (chO8 3) [0, 0, -1] = capsL 5 ++ [(2, 0, 0, 0), (2, 1, 0, 0), (3, 0, 0, 0), (3, 1, 0, 0), (7, 0, 0, 1), (8, 0, 0, 1)] := by
  have h1 : capsU (chN8 N [98] false) chP [0, 0, -1] 3 = capsL 5 := by kernel_rfl
  have h2 : kindsU (chN8 N [98] false) chP (chO8 3) [0, 0, -1] 5 = [(2, 0, 0, 0), (2, 1, 0, 0), (3, 0, 0, 0), (3, 1, 0, 0)] := by kernel_rfl
  have h3 : spreadsU (chN8 N [98] false) chP (chO8 3) [0, 0, -1] 1 = [(7, 0, 0, skewO (spreadF (chN8 N [98] false) chP (chO8 3) [0, 0, -1] 0) 1)] := rfl
  have h4 : minsU (chN8 N [98] false) chP (chO8 3) [0, 0, -1] 1 = [(8, 0, 0, 1)] := by kernel_rfl
  unfold all8
  rw [if_pos (c8_place1 N)]
  unfold allU
  rw [show (chN8 N [98] false).length = 3 from rfl, show (chO8 3).length = 1 from rfl, h1, h2, h3, h4, c8_spread1, show skewO [2, 0] 1 = 1 by kernel_rfl]
  rfl
theorem c8_all2 (N : Nat) : all8 (chN8 N [98] false) chP (chO8 3) [0, 1, 2] = capsL 0 ++ [(2, 0, 0, 0), (2, 1, 0, 0), (2, 2, 0, 0), (3, 0, 0, 0), (3, 1, 0, 0), (3, 2, 0, 0), (7, 0, 0, 0), (8, 0, 0, 0)] := by
  have h1 : capsU (chN8 N [98] false) chP [0, 1, 2] 3 = capsL 0 := by kernel_rfl
  have h2 : kindsU (chN8 N [98] false) chP (chO8 3) [0, 1, 2] 5 = [(2, 0, 0, 0), (2, 1, 0, 0), (2, 2, 0, 0), (3, 0, 0, 0), (3, 1, 0, 0), (3, 2, 0, 0)] := by kernel_rfl
  have h3 : spreadsU (chN8 N [98] false) chP (chO8 3) [0, 1, 2] 1 = [(7, 0, 0, skewO (spreadF (chN8 N [98] false) chP (chO8 3) [0, 1, 2] 0) 1)] := rfl
  have h4 : minsU (chN8 N [98] false) chP (chO8 3) [0, 1, 2] 1 = [(8, 0, 0, 0)] := by kernel_rfl
  unfold all8
  rw [if_pos (c8_place2 N)]
  unfold allU
  rw [show (chN8 N [98] false).length = 3 from rfl, show (chO8 3).length = 1 from rfl, h1, h2, h3, h4, c8_spread2, show skewO [1, 1] 1 = 0 by kernel_rfl]
  rfl
theorem c8_with (N : Nat) : findC (all8 (chN8 N [98] false) chP (chO8 3) [0, 0, -1]) 4 0 0 = none := by rw [c8_all1]; rfl
theorem c8_cap (N : Nat) : findC (all8 (chN8 N [98] false) chP (chO8 3) [0, 0, -1]) 1 0 0 = some 5 := by rw [c8_all1]; rfl
theorem c8_skew (N : Nat) : findC (all8 (chN8 N [98] false) chP (chO8 3) [0, 0, -1]) 7 0 0 = some 1 := by rw [c8_all1]; rfl
theorem c8_min (N : Nat) : findC (all8 (chN8 N [98] false) chP (chO8 3) [0, 0, -1]) 8 0 0 = some 1 := by rw [c8_all1]; rfl
theorem c8_pod (N : Nat) : (all8 (chN8 N [98] false) chP (chO8 3) [0, 1, 2]).filter (podC 1) = [(2, 1, 0, 0), (3, 1, 0, 0)] := by rw [c8_all2]; rfl
theorem c8_broken (N : Nat) : (all8 (chN8 N [98] false) chP (chO8 3) [0, 1, 2]).filter brokC = [] := by rw [c8_all2]; rfl
end Go.Proofs.YtpdaohkpgconkaaGreat

namespace Go.Proofs.YtpdaohkpgconkaaGreat
open Go.RowKit

/-- The cluster, its box, a placement lie in memory. -/
structure WkAt8 (mn : Int) (w W : World) (N Sb : Nat) (B : Option Addr) (cb : Nat) (P : Option Addr) (p : List Int) : Prop where
  s : SnapAt W (some ⟨N + 4, 0, none⟩) B (some ⟨N + 5, 0, none⟩) 3 cb 1 (chN8 N [98] false) chP (chO8 mn)
  b : Blk W Sb #[.slice (some ⟨N + 4, 0, none⟩) 3 3, .slice B 3 cb, .slice (some ⟨N + 5, 0, none⟩) 1 1] 26
  p : IntsAt W P p.length p
  w : Below w.heap.size w W
theorem WkAt8.below {mn : Int} {w W W' : World} {N Sb : Nat} {B : Option Addr} {cb : Nat} {P : Option Addr} {p : List Int} (h : WkAt8 mn w W N Sb B cb P p) (hb : Below W.heap.size W W') : WkAt8 mn w W' N Sb B cb P p :=
  ⟨h.s.below hb, h.b.below hb h.b.lt, h.p.below hb, h.w.trans (hb.mono h.w.size)⟩
theorem WkAt8.c0 {mn : Int} {w W : World} {N Sb : Nat} {B : Option Addr} {cb : Nat} {P : Option Addr} {p : List Int} (h : WkAt8 mn w W N Sb B cb P p) : W.cell? ⟨Sb, 0, none⟩ = some (.slice (some ⟨N + 4, 0, none⟩) 3 3) ∧ W.cell? ⟨Sb, 1, none⟩ = some (.slice B 3 cb) ∧ W.cell? ⟨Sb, 2, none⟩ = some (.slice (some ⟨N + 5, 0, none⟩) 1 1) :=
  ⟨Blk.cell h.b 0, Blk.cell h.b 1, Blk.cell h.b 2⟩

set_option maxRecDepth 100000 in
set_option maxHeartbeats 2000000 in
theorem by8_any (A B C P : Option Addr) (ca cb cc cp : Nat) (ns : List NodeD) (ps : List PodD) (os : List OwnD) (p : List Int) (c : ClT) (w : World) (h : SnapAt w A B C ca cb cc ns ps os) (hp : IntsAt w P cp p) :
    Calls Tryz.prog 14 #[snapV A B C ca cb cc ns ps os, .slice P p.length cp, clV c] w fun e w' => e = .returned (.bool (decide (findC (all8 ns ps os p) c.1 c.2.1 c.2.2.1 = some c.2.2.2))) ∧ Below w.heap.size w w' := by
  have B0 : Hid (Below w.heap.size w ((w.alloc (.cells (snapC A B C ca cb cc ns ps os) 26)).alloc (.cells #[.int .i64 c.1, .int .i64 c.2.1, .int .i64 c.2.2.1, .int .i64 c.2.2.2] 47))) := Lib.hid (Qu.below2 w _ _)
  have Q0 : Hid (Blk ((w.alloc (.cells (snapC A B C ca cb cc ns ps os) 26)).alloc (.cells #[.int .i64 c.1, .int .i64 c.2.1, .int .i64 c.2.2.1, .int .i64 c.2.2.2] 47)) (w.heap.size + 1) #[.int .i64 c.1, .int .i64 c.2.1, .int .i64 c.2.2.1, .int .i64 c.2.2.2] 47) := Lib.hid (blk2 w _ _ _)
  have S0 : Hid (Blk ((w.alloc (.cells (snapC A B C ca cb cc ns ps os) 26)).alloc (.cells #[.int .i64 c.1, .int .i64 c.2.1, .int .i64 c.2.2.1, .int .i64 c.2.2.2] 47)) w.heap.size (snapC A B C ca cb cc ns ps os) 26) := Lib.hid (Blk.alloc (Blk.new w _ _) _)
  have K := Lib.hid (ofP_any A B C P ca cb cc cp ns ps os p c.1 c.2.1 c.2.2.1 _ (h.below B0.out) (hp.below B0.out))
  generalize findC (all8 ns ps os p) c.1 c.2.1 c.2.2.1 = R at K ⊢
  clear h hp
  go_enter Tryz.func14, Tryz.ntmps14
  go_upto_region 1 with fail
  try change Code.wp _ _ _ _ ((w.alloc (.cells (snapC A B C ca cb cc ns ps os) 26)).alloc (.cells #[.int .i64 c.1, .int .i64 c.2.1, .int .i64 c.2.2.1, .int .i64 c.2.2.2] 47))
  generalize ((w.alloc (.cells (snapC A B C ca cb cc ns ps os) 26)).alloc (.cells #[.int .i64 c.1, .int .i64 c.2.1, .int .i64 c.2.2.1, .int .i64 c.2.2.2] 47)) = W at B0 Q0 S0 K ⊢
  have z0 : W.cell? ⟨w.heap.size, 0, none⟩ = some (.slice A ns.length ca) := Blk.cell S0.out 0
  have z1 : W.cell? ⟨w.heap.size, 1, none⟩ = some (.slice B ps.length cb) := Blk.cell S0.out 1
  have z2 : W.cell? ⟨w.heap.size, 2, none⟩ = some (.slice C os.length cc) := Blk.cell S0.out 2
  have q0 : W.cell? ⟨w.heap.size + 1, 0, none⟩ = some (.int .i64 c.1) := Blk.cell Q0.out 0
  have q1 : W.cell? ⟨w.heap.size + 1, 1, none⟩ = some (.int .i64 c.2.1) := Blk.cell Q0.out 1
  have q2 : W.cell? ⟨w.heap.size + 1, 2, none⟩ = some (.int .i64 c.2.2.1) := Blk.cell Q0.out 2
  go_wp2_with fail
  refine (K.out).mono ?_
  rintro e w1 ⟨rfl, hb⟩
  have B1 := Lib.hid (B0.out.trans (hb.mono B0.out.size))
  have q3 : w1.cell? ⟨w.heap.size + 1, 3, none⟩ = some (.int .i64 c.2.2.2) := Blk.cell (Q0.out.below hb Q0.out.lt) 3
  clear hb K z0 z1 z2 q0 q1 q2
  cases R with
  | none =>
    go_wp2
    go_ret
    exact ⟨rfl, B1.out⟩
  | some n =>
    by_cases hn : n = c.2.2.2
    · have h1 : (n == c.2.2.2) = true := by simpa using hn
      have hd : decide (some n = some c.2.2.2) = true := decide_eq_true (by rw [hn])
      have HD := Lib.hid hd
      clear hd hn
      go_wp2
      go_ret
      exact ⟨La.retB HD.out.symm, B1.out⟩
    · have h1 : (n == c.2.2.2) = false := by simpa using hn
      have hd : decide (some n = some c.2.2.2) = false := decide_eq_false (fun h => hn (Option.some.inj h))
      have HD := Lib.hid hd
      clear hd hn
      go_wp2
      go_ret
      exact ⟨La.retB HD.out.symm, B1.out⟩

set_option maxRecDepth 100000 in
set_option maxHeartbeats 8000000 in
theorem works8_any (w : World) :
    Calls Tryz.prog 17 #[] w fun e w' => e = .returned (.bool true) ∧ Below w.heap.size w w' := by
  have KC := Lib.hid (chapter8_any w)
  have hmg := cl_guard
  go_enter Tryz.func17, Tryz.ntmps17
  go_wp2_with fail
  refine (KC.out).mono ?_
  rintro e w1 ⟨B, cb, rfl, hch, hb⟩
  have hsn := hch.snap (by simp)
  have H0 : Hid (WkAt8 3 w ((w1.alloc (.cells #[.slice (some ⟨w.heap.size + 4, 0, none⟩) 3 3, .slice B 3 cb, .slice (some ⟨w.heap.size + 5, 0, none⟩) 1 1] 26)).alloc (.cells (intsC [0, 0, -1]).toArray 3)) w.heap.size w1.heap.size B cb (some ⟨w1.heap.size + 1, 0, none⟩) [0, 0, -1]) := Lib.hid (by
    have h1 := below1 w1 (.cells #[.slice (some ⟨w.heap.size + 4, 0, none⟩) 3 3, .slice B 3 cb, .slice (some ⟨w.heap.size + 5, 0, none⟩) 1 1] 26)
    have h2 := Qu.below2 w1 (.cells #[.slice (some ⟨w.heap.size + 4, 0, none⟩) 3 3, .slice B 3 cb, .slice (some ⟨w.heap.size + 5, 0, none⟩) 1 1] 26) (.cells (intsC [0, 0, -1]).toArray 3)
    refine ⟨hsn.below h2, Blk.alloc (Blk.new w1 _ _) _, ?_, hb.trans (h2.mono hb.size)⟩
    have := ints_new (w1.alloc (.cells #[.slice (some ⟨w.heap.size + 4, 0, none⟩) 3 3, .slice B 3 cb, .slice (some ⟨w.heap.size + 5, 0, none⟩) 1 1] 26)) [0, 0, -1] (by simp)
    rwa [World.size_alloc] at this)
  clear hch hsn hb KC
  go_upto_region 3 with fail
  try change Code.wp _ _ _ _ ((w1.alloc (.cells #[.slice (some ⟨w.heap.size + 4, 0, none⟩) 3 3, .slice B 3 cb, .slice (some ⟨w.heap.size + 5, 0, none⟩) 1 1] 26)).alloc (.cells (intsC [0, 0, -1]).toArray 3))
  generalize ((w1.alloc (.cells #[.slice (some ⟨w.heap.size + 4, 0, none⟩) 3 3, .slice B 3 cb, .slice (some ⟨w.heap.size + 5, 0, none⟩) 1 1] 26)).alloc (.cells (intsC [0, 0, -1]).toArray 3)) = W0 at H0 ⊢
  generalize w1.heap.size + 1 = Pb at H0 ⊢
  generalize w1.heap.size = Sb at H0 ⊢
  obtain ⟨b0, b1, b2⟩ := H0.out.c0
  have KO := Lib.hid (ofP_any _ B _ (some ⟨Pb, 0, none⟩) 3 cb 1 3 (chN8 w.heap.size [98] false) chP (chO8 3) [0, 0, -1] 4 0 0 _ H0.out.s H0.out.p)
  rw [c8_with] at KO
  go_wp2_with fail
  refine (KO.out).mono ?_
  rintro e V1 ⟨rfl, hb⟩
  have H1 := Lib.hid (H0.out.below hb)
  clear hb KO H0 b0 b1 b2
  obtain ⟨b0, b1, b2⟩ := H1.out.c0
  have H1a := Lib.hid (H1.out.below (below1 V1 (.cells (intsC [0, 1, 2]).toArray 3)))
  have I1a := Lib.hid (ints_new V1 [0, 1, 2] (by simp))
  have KPd := Lib.hid (podP_any _ B _ (some ⟨V1.heap.size, 0, none⟩) 3 cb 1 3 (chN8 w.heap.size [98] false) chP (chO8 3) [0, 1, 2] 1 _ H1a.out.s I1a.out)
  rw [c8_pod] at KPd
  go_wp2_with fail
  refine (KPd.out).mono ?_
  rintro e V2 ⟨v2, rfl, ho2, hb⟩
  obtain ⟨G2, cg2, rfl, _⟩ := La.own_slice ho2
  have O2 := Lib.hid (La.own_slat ho2)
  have H2 := Lib.hid (H1a.out.below hb)
  clear ho2 hb KPd H1 H1a I1a b0 b1 b2
  obtain ⟨b0, b1, b2⟩ := H2.out.c0
  have K1 := Lib.hid (by8_any _ B _ (some ⟨Pb, 0, none⟩) 3 cb 1 3 (chN8 w.heap.size [98] false) chP (chO8 3) [0, 0, -1] (1, 0, 0, 5) _ H2.out.s H2.out.p)
  rw [show decide (findC (all8 (chN8 w.heap.size [98] false) chP (chO8 3) [0, 0, -1]) 1 0 0 = some 5) = true from decide_eq_true (c8_cap _)] at K1
  go_wp2_with fail
  refine (K1.out).mono ?_
  rintro e V3 ⟨rfl, hb⟩
  have H3 := Lib.hid (H2.out.below hb)
  have O3 := Lib.hid (La.SlAt.below O2.out hb)
  clear hb K1 H2 O2 b0 b1 b2
  obtain ⟨b0, b1, b2⟩ := H3.out.c0
  have K2 := Lib.hid (by8_any _ B _ (some ⟨Pb, 0, none⟩) 3 cb 1 3 (chN8 w.heap.size [98] false) chP (chO8 3) [0, 0, -1] (7, 0, 0, 1) _ H3.out.s H3.out.p)
  rw [show decide (findC (all8 (chN8 w.heap.size [98] false) chP (chO8 3) [0, 0, -1]) 7 0 0 = some 1) = true from decide_eq_true (c8_skew _)] at K2
  go_wp2_with fail
  refine (K2.out).mono ?_
  rintro e V4 ⟨rfl, hb⟩
  have H4 := Lib.hid (H3.out.below hb)
  have O4 := Lib.hid (La.SlAt.below O3.out hb)
  clear hb K2 H3 O3 b0 b1 b2
  obtain ⟨b0, b1, b2⟩ := H4.out.c0
  have K3 := Lib.hid (by8_any _ B _ (some ⟨Pb, 0, none⟩) 3 cb 1 3 (chN8 w.heap.size [98] false) chP (chO8 3) [0, 0, -1] (8, 0, 0, 1) _ H4.out.s H4.out.p)
  rw [show decide (findC (all8 (chN8 w.heap.size [98] false) chP (chO8 3) [0, 0, -1]) 8 0 0 = some 1) = true from decide_eq_true (c8_min _)] at K3
  go_wp2_with fail
  refine (K3.out).mono ?_
  rintro e V5 ⟨rfl, hb⟩
  have H5 := Lib.hid (H4.out.below hb)
  have O5 := Lib.hid (La.SlAt.below O4.out hb)
  clear hb K3 H4 O4 b0 b1 b2
  obtain ⟨b0, b1, b2⟩ := H5.out.c0
  have H5a := Lib.hid (H5.out.below (below1 V5 (.cells (intsC [0, 1, 2]).toArray 3)))
  have I5a := Lib.hid (ints_new V5 [0, 1, 2] (by simp))
  have O5a := Lib.hid (La.SlAt.below O5.out (below1 V5 (.cells (intsC [0, 1, 2]).toArray 3)))
  have KBr := Lib.hid (brokenP_any _ B _ (some ⟨V5.heap.size, 0, none⟩) 3 cb 1 3 (chN8 w.heap.size [98] false) chP (chO8 3) [0, 1, 2] (by rw [c8_all2]; decide) _ H5a.out.s I5a.out)
  rw [c8_broken] at KBr
  go_wp2_with fail
  refine (KBr.out).mono ?_
  rintro e V6 ⟨v6, rfl, ho6, hb⟩
  obtain ⟨G6, cg6, rfl, _⟩ := La.own_slice ho6
  have O6 := Lib.hid (La.SlAt.below O5a.out hb)
  have W6 := Lib.hid (H5a.out.w.trans (hb.mono H5a.out.w.size))
  clear ho6 hb KBr H5 H5a I5a O5 O5a b0 b1 b2
  obtain ⟨g, o, hG, _, c0, c1, c2, c3⟩ := atC O6.out (k := 0) (x := (2, 1, 0, 0)) rfl
  subst hG
  obtain ⟨g', o', hG', _, d0, d1, d2, d3⟩ := atC O6.out (k := 1) (x := (3, 1, 0, 0)) rfl
  cases hG'
  simp only [Nat.zero_mul, Nat.add_zero, Nat.one_mul] at c0 c1 c2 c3 d0 d1 d2 d3
  have hq1 := fun w => eq_cl 2 1 0 0 w
  have hq2 := fun w => eq_cl 3 1 0 0 w
  clear O6
  go_wp2
  go_ret
  exact ⟨rfl, W6.out⟩
end Go.Proofs.YtpdaohkpgconkaaGreat

namespace Go.Proofs.YtpdaohkpgconkaaGreat
open Go.RowKit

end Go.Proofs.YtpdaohkpgconkaaGreat

namespace Go.Proofs.YtpdaohkpgconkaaGreat
open Go.RowKit

theorem SnapIn.below8 {w w' : World} {A B C : Option Addr} {ca cb cc : Nat} {ns : List NodeD} {ps : List PodD} {os : List OwnD} (h : SnapIn w A B C ca cb cc ns ps os) (hb : Below w.heap.size w w') : SnapIn w' A B C ca cb cc ns ps os :=
  ⟨⟨h.n.cells.below hb, fun x hx => (h.n.fit x hx).below hb⟩, ⟨h.p.cells.below hb, fun x hx => (h.p.fit x hx).below hb⟩, h.o.below hb, h.fo, h.can, h.cap, h.cao⟩
theorem all8_few {ns : List NodeD} {ps : List PodD} {os : List OwnD} {p : List Int} (hn : ns.length ≤ 12) (hp : ps.length ≤ 30) (ho : os.length ≤ 12) : (all8 ns ps os p).length ≤ 1000 := by
  by_cases hE : placeE ns ps os p = 0
  · have := all8_len ns ps os p
    have := placeE_len hE
    omega
  · unfold all8
    rw [if_neg hE]
    simp
end Go.Proofs.YtpdaohkpgconkaaGreat

namespace Go.Proofs.YtpdaohkpgconkaaGreat
open Go.RowKit

theorem eqSame9 (A B : Option Addr) (ca cb : Nat) (l : List Int) (w : World) (hl : l.length ≤ 9223372036854775807) (ha : IntsAt w A ca l) (hb : IntsAt w B cb l) :
    Calls Tryz.prog 28 #[.slice A l.length ca, .slice B l.length cb] w fun e w' => e = .returned (.bool true) ∧ Below w.heap.size w w' := by
  have q := eqInts_anyL A B ca cb l l w hl ha hb
  rwa [decide_eq_true (rfl : l = l)] at q
end Go.Proofs.YtpdaohkpgconkaaGreat
