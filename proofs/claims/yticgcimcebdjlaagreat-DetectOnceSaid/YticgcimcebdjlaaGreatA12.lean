/- Why a pod is to go, whichever it is: the contract of the view's why. Condition: what detect keeps lies in memory; whether the pod is crowded is asked only where that is on. A policy of two shares only: it may be; why a pod is to go by it. Numbers alone. Conditions: what they say. The chapter's cluster of layer 13, and what the plain functions tell of it. No conditions. Why a pod is to go: the contract of Why. Condition: the arguments lie in memory; whether a pod is crowded is asked only where that is on. -/
import Derived.Test.YticgcimcebdjlaaGreatA11

namespace Go.Proofs.YticgcimcebdjlaaGreat
open Go.RowKit

set_option maxRecDepth 100000 in
set_option maxHeartbeats 2000000 in
theorem why_out (v : VwD) (pod : Int) (w : World) (h : pod < 0 ∨ (v.p.length : Int) ≤ pod) :
    Calls Tryz.prog 52 #[.agg (cellsVw v), .int .i64 pod] w fun e w' => e = .returned (.int .i64 0) ∧ Below w.heap.size w w' := by
  have B0 := Lib.hid (below1 w (.cells (cellsVw v) 92))
  have Q0 := Lib.hid (Blk.new w (cellsVw v) 92)
  by_cases h0 : pod < 0
  · have h0d : decide (pod < 0) = true := decide_eq_true h0
    clear h
    go_enter Tryz.func52, Tryz.ntmps52
    go_upto_region 1 with fail
    try change Code.wp _ _ _ _ (w.alloc (.cells (cellsVw v) 92))
    generalize (w.alloc (.cells (cellsVw v) 92)) = W at B0 Q0 ⊢
    go_wp2
    go_ret
    exact ⟨rfl, B0.out⟩
  · have h0d : decide (pod < 0) = false := decide_eq_false h0
    have h1 : (v.p.length : Int) ≤ pod := h.resolve_left h0
    have h1d : decide ((v.p.length : Int) ≤ pod) = true := decide_eq_true h1
    clear h
    go_enter Tryz.func52, Tryz.ntmps52
    go_upto_region 1 with fail
    try change Code.wp _ _ _ _ (w.alloc (.cells (cellsVw v) 92))
    generalize (w.alloc (.cells (cellsVw v) 92)) = W at B0 Q0 ⊢
    have z3 : W.cell? ⟨w.heap.size, 3, none⟩ = some (.slice v.P v.p.length v.cp) := Blk.cell Q0.out 3
    go_wp2
    go_ret
    exact ⟨rfl, B0.out⟩
set_option maxRecDepth 100000 in
set_option maxHeartbeats 2000000 in
theorem why_wait (v : VwD) (k : Nat) (w : World) (h : IntsAt w v.P v.cp v.p) (hk : v.p[k]? = some (-1)) :
    Calls Tryz.prog 52 #[.agg (cellsVw v), .int .i64 (k : Int)] w fun e w' => e = .returned (.int .i64 0) ∧ Below w.heap.size w w' := by
  have B0 := Lib.hid (below1 w (.cells (cellsVw v) 92))
  have Q0 := Lib.hid (Blk.new w (cellsVw v) 92)
  have hkl := (List.getElem?_eq_some_iff.1 hk).1
  have k0 : (0 : Int) ≤ (k : Int) := by omega
  have k1 : (k : Int) < (v.p.length : Int) := by omega
  have k2 : ¬ (k : Int) < 0 := by omega
  have k3 : decide ((v.p.length : Int) ≤ (k : Int)) = false := decide_eq_false (by omega)
  have HH := Lib.hid h
  have HK := Lib.hid hk
  clear h hk
  go_enter Tryz.func52, Tryz.ntmps52
  go_upto_region 1 with fail
  try change Code.wp _ _ _ _ (w.alloc (.cells (cellsVw v) 92))
  generalize (w.alloc (.cells (cellsVw v) 92)) = W at B0 Q0 ⊢
  obtain ⟨b, o, hA, _, hc⟩ := atI (HH.out.below B0.out).cells HK.out
  have z3 : W.cell? ⟨w.heap.size, 3, none⟩ = some (.slice v.P v.p.length v.cp) := Blk.cell Q0.out 3
  rw [hA] at z3
  clear hA
  go_wp2
  go_ret
  exact ⟨rfl, B0.out⟩
theorem why_all (v : VwD) (k : Nat) (n : Int) (cr : Bool) (w : World) (h : VwAt w v) (hk : v.p[k]? = some n)
    (hC : onB v.g.on 8 = true → 0 ≤ n → ∀ W', VwAt W' v → Calls Tryz.prog 145 #[.agg (cellsVw v), .int .i64 (k : Int)] W' fun e w' => e = .returned (.bool cr) ∧ Below W'.heap.size W' w') :
    Calls Tryz.prog 52 #[.agg (cellsVw v), .int .i64 (k : Int)] w fun e w' => e = .returned (.int .i64 (whyD v k n cr)) ∧ Below w.heap.size w w' := by
  have hok := (placeE_zero h.e).2.2 n (List.mem_of_getElem? hk)
  by_cases hn : n = -1
  · subst hn
    exact why_wait v k w h.p hk
  · have hn0 : 0 ≤ n := by
      unfold okB tpB at hok
      simp at hok
      omega
    have e : whyD v k n cr = firstD (reasL v k n cr) := by
      unfold whyD
      rw [if_neg hn]
    rw [e]
    exact why_on v k n cr w h hk hn0 (fun ho => hC ho hn0)
/-- The view that has no pods. -/
abbrev zeroV : VwD := ⟨none, none, none, none, none, none, none, none, none, 0, 0, 0, 0, 0, 0, 0, 0, 0, [], [], [], [], ⟨0, 0, 0, 0, 0, [], 0, 0, false⟩, [], [], [], []⟩
/-- What a view tells, wherever it lies. -/
abbrev pureV (ns : List NodeD) (ps : List PodD) (os : List OwnD) (p : List Int) (g : Pol) : VwD := vwMk none none none none none 0 0 0 0 0 ns ps os p g none none none none 0 0 0 0
/-- Why pod k on node n is to go. -/
def whyK (ns : List NodeD) (ps : List PodD) (os : List OwnD) (p : List Int) (g : Pol) (cr : Nat → Bool) (k : Nat) (n : Int) : Int := whyD (pureV ns ps os p g) k n (cr k)
/-- What Why tells. -/
def whyF (ns : List NodeD) (ps : List PodD) (os : List OwnD) (p : List Int) (g : Pol) (cr : Nat → Bool) (pod : Int) : Int :=
  if checkG g = 0 ∧ placeE ns ps os p = 0 then (if 0 ≤ pod then (match p[pod.toNat]? with
    | some n => whyK ns ps os p g cr pod.toNat n
    | none => 0) else 0) else 0
/-- What Pods tells, ahead of the sort. -/
def wrongF (ns : List NodeD) (ps : List PodD) (os : List OwnD) (p : List Int) (g : Pol) (cr : Nat → Bool) : List W3T := if checkG g = 0 ∧ placeE ns ps os p = 0 then wrongK p (whyK ns ps os p g cr) p.length else []
/-- Whether a pod is crowded is told so, if it is asked. -/
abbrev CrowdOk (A B C P G : Option Addr) (ca cb cc cp cg : Nat) (ns : List NodeD) (ps : List PodD) (os : List OwnD) (p : List Int) (g : Pol) (cr : Nat → Bool) : Prop :=
  onB g.on 8 = true → ∀ (K X Y F : Option Addr) (ck cx cy cf k : Nat) (n : Int) (W' : World), p[k]? = some n → 0 ≤ n → VwAt W' (vwMk A B C P G ca cb cc cp cg ns ps os p g K X Y F ck cx cy cf) → Calls Tryz.prog 145 #[.agg (cellsVw (vwMk A B C P G ca cb cc cp cg ns ps os p g K X Y F ck cx cy cf)), .int .i64 (k : Int)] W' fun e w' => e = .returned (.bool (cr k)) ∧ Below W'.heap.size W' w'
theorem why_mk {A B C P G : Option Addr} {ca cb cc cp cg : Nat} {ns : List NodeD} {ps : List PodD} {os : List OwnD} {p : List Int} {g : Pol} {cr : Nat → Bool} (HC : CrowdOk A B C P G ca cb cc cp cg ns ps os p g cr) (K X Y F : Option Addr) (ck cx cy cf k : Nat) (n : Int) (W' : World) (hk : p[k]? = some n) (h : VwAt W' (vwMk A B C P G ca cb cc cp cg ns ps os p g K X Y F ck cx cy cf)) :
    Calls Tryz.prog 52 #[.agg (cellsVw (vwMk A B C P G ca cb cc cp cg ns ps os p g K X Y F ck cx cy cf)), .int .i64 (k : Int)] W' fun e w' => e = .returned (.int .i64 (whyK ns ps os p g cr k n)) ∧ Below W'.heap.size W' w' :=
  why_all _ k n (cr k) W' h hk (fun ho hn W'' h' => HC ho K X Y F ck cx cy cf k n W'' hk hn h')
theorem why_mkP {A B C P G : Option Addr} {ca cb cc cp cg : Nat} {ns : List NodeD} {ps : List PodD} {os : List OwnD} {p : List Int} {g : Pol} {cr : Nat → Bool} (HC : CrowdOk A B C P G ca cb cc cp cg ns ps os p g cr) (hok : checkG g = 0 ∧ placeE ns ps os p = 0) (K X Y F : Option Addr) (ck cx cy cf : Nat) (pod : Int) (W' : World) (h : VwAt W' (vwMk A B C P G ca cb cc cp cg ns ps os p g K X Y F ck cx cy cf)) :
    Calls Tryz.prog 52 #[.agg (cellsVw (vwMk A B C P G ca cb cc cp cg ns ps os p g K X Y F ck cx cy cf)), .int .i64 pod] W' fun e w' => e = .returned (.int .i64 (whyF ns ps os p g cr pod)) ∧ Below W'.heap.size W' w' := by
  unfold whyF
  rw [if_pos hok]
  by_cases h0 : 0 ≤ pod
  · rw [if_pos h0]
    obtain ⟨k, rfl⟩ : ∃ k : Nat, pod = (k : Int) := ⟨pod.toNat, by omega⟩
    rw [Int.toNat_natCast]
    cases hk : p[k]? with
    | some n => exact why_mk HC K X Y F ck cx cy cf k n W' hk h
    | none =>
      have := List.getElem?_eq_none_iff.1 hk
      exact why_out _ _ W' (.inr (by show (p.length : Int) ≤ (k : Int); omega))
  · rw [if_neg h0]
    exact why_out _ _ W' (.inl (by omega))
theorem zeroV_at (w : World) : VwAt w zeroV := by
  have hn : IntsAt w none 0 [] := ⟨fun j y hj => (by simp [intsC] at hj), Nat.le_refl _, by omega⟩
  have hs : NamesAt w none 0 [] := ⟨fun j y hj => (by simp [strC] at hj), Nat.le_refl _, by omega, fun x hx => (by cases hx)⟩
  exact ⟨⟨⟨fun j y hj => (by simp [cellsN] at hj), fun x hx => (by cases hx)⟩, ⟨fun j y hj => (by simp [cellsP] at hj), fun x hx => (by cases hx)⟩, fun j y hj => (by simp [cellsO] at hj), fun x hx => (by cases hx), ⟨Nat.le_refl _, Nat.zero_le _⟩, ⟨Nat.le_refl _, Nat.zero_le _⟩, ⟨Nat.le_refl _, Nat.zero_le _⟩⟩, hn, hs, fun j y hj => (by simp [cells4] at hj), hn, hn, fun i ds hi => (by cases hi), Nat.zero_le _, by kernel_rfl⟩
/-- What a view that look answers tells. -/
structure LookD (ns : List NodeD) (ps : List PodD) (os : List OwnD) (p : List Int) (g : Pol) (cr : Nat → Bool) (v : VwD) (b : Bool) (w : World) : Prop where
  why : ∀ (pod : Int) (W' : World), Below w.heap.size w W' → Calls Tryz.prog 52 #[.agg (cellsVw v), .int .i64 pod] W' fun e w' => e = .returned (.int .i64 (whyF ns ps os p g cr pod)) ∧ Below W'.heap.size W' w'
  wrong : ∀ W', Below w.heap.size w W' → Calls Tryz.prog 46 #[.agg (cellsVw v)] W' fun e w' => ∃ x, e = .returned x ∧ w'.ownsRow W'.heap.size 98 3 x (wrongF ns ps os p g cr).length (cellsW3 (wrongF ns ps os p g cr)) ∧ Below W'.heap.size W' w'
  is : b = decide (checkG g = 0 ∧ placeE ns ps os p = 0)
theorem wrongF_few (ns : List NodeD) (ps : List PodD) (os : List OwnD) (p : List Int) (g : Pol) (cr : Nat → Bool) : (wrongF ns ps os p g cr).length ≤ 1000 := by
  unfold wrongF
  split
  · rename_i hok
    have h1 := placeE_len hok.2
    have h2 := (placeE_few hok.2).2.1
    have h3 := wrongK_len p (whyK ns ps os p g cr) p.length
    omega
  · exact Nat.zero_le _
theorem look_any (A B C P G : Option Addr) (ca cb cc cp cg : Nat) (ns : List NodeD) (ps : List PodD) (os : List OwnD) (p : List Int) (g : Pol) (cr : Nat → Bool) (w : World) (h : SnapIn w A B C ca cb cc ns ps os) (hp : IntsAt w P cp p) (hg : NamesAt w G cg g.drain) (HC : CrowdOk A B C P G ca cb cc cp cg ns ps os p g cr) :
    Calls Tryz.prog 45 #[snapV A B C ca cb cc ns ps os, .slice P p.length cp, valG g G cg] w fun e w' => ∃ v b, e = .returned (.tuple #[.agg (cellsVw v), .bool b]) ∧ LookD ns ps os p g cr v b w' ∧ Below w.heap.size w w' := by
  by_cases hok : checkG g = 0 ∧ placeE ns ps os p = 0
  · refine (look_ok A B C P G ca cb cc cp cg ns ps os p g w h hp hg hok.1 hok.2).mono ?_
    rintro e w' ⟨K, X, Y, F, ck, cx, cy, cf, rfl, hv, hb⟩
    refine ⟨_, _, rfl, ⟨fun pod W' hb' => why_mkP HC hok K X Y F ck cx cy cf pod W' (hv.below hb'), fun W' hb' => ?_, (decide_eq_true hok).symm⟩, hb⟩
    have e0 : wrongF ns ps os p g cr = wrongK p (whyK ns ps os p g cr) p.length := by
      unfold wrongF
      rw [if_pos hok]
    have h1 := placeE_len hok.2
    have h2 := (placeE_few hok.2).2.1
    rw [e0]
    exact wrong_any (vwMk A B C P G ca cb cc cp cg ns ps os p g K X Y F ck cx cy cf) (whyK ns ps os p g cr) W' (hv.below hb') (by show p.length ≤ 1000; omega) (fun k n W'' hk h' => why_mk HC K X Y F ck cx cy cf k n W'' hk h')
  · refine (look_no A B C P G ca cb cc cp cg ns ps os p g w h hp hg hok).mono ?_
    rintro e w' ⟨rfl, hb⟩
    refine ⟨zeroV, _, rfl, ⟨fun pod W' hb' => ?_, fun W' hb' => ?_, (decide_eq_false hok).symm⟩, hb⟩
    · have e0 : whyF ns ps os p g cr pod = 0 := by
        unfold whyF
        rw [if_neg hok]
      rw [e0]
      exact why_out zeroV pod W' (by show pod < 0 ∨ (0 : Int) ≤ pod; omega)
    · have e0 : wrongF ns ps os p g cr = [] := by
        unfold wrongF
        rw [if_neg hok]
      rw [e0]
      exact wrong_any zeroV (fun _ _ => 0) W' (zeroV_at W') (Nat.zero_le _) (fun k n W'' hk => by cases hk)
end Go.Proofs.YticgcimcebdjlaaGreat

namespace Go.Proofs.YticgcimcebdjlaaGreat
open Go.RowKit Go.Maps

/-- A policy that says what is high, and nothing else. -/
def heatG (x0 x1 : Int) : Pol := { l0 := 0, l1 := 0, h0 := x0, h1 := x1, on := 0, drain := [], mx := 0, tr := 0, rb := false }
theorem heatG_may {x0 x1 : Int} (h0 : 0 ≤ x0) (h1 : x0 ≤ 1000) (h2 : 0 ≤ x1) (h3 : x1 ≤ 1000) : checkG (heatG x0 x1) = 0 := by
  have e : polB (heatG x0 x1) = true := by
    unfold polB sharesB upB drainB heatG
    simp only [Bool.and_eq_true, decide_eq_true_eq]
    refine ⟨⟨⟨⟨⟨⟨⟨?_, ?_⟩, ?_, ?_⟩, ⟨?_, ?_⟩, ?_, ?_⟩, ?_, ?_⟩, ?_, ?_⟩, ?_, ?_⟩, ?_, ?_⟩ <;> first | omega | decide | simp
  unfold checkG
  rw [if_pos e]
theorem high_pos {ns : List NodeD} {ps : List PodD} {os : List OwnD} {p : List Int} {g : Pol} : ∀ x ∈ highF ns ps os p g, 0 ≤ x := by
  intro x hx
  unfold highF at hx
  split at hx
  · unfold pickF at hx
    split at hx
    · obtain ⟨k, _, rfl⟩ := List.mem_map.1 hx
      omega
    · cases hx
  · cases hx
theorem heat_told {ns : List NodeD} {ps : List PodD} {os : List OwnD} {p : List Int} {x0 x1 : Int} (hE : placeE ns ps os p = 0) (hG : checkG (heatG x0 x1) = 0) {k : Nat} {n : Int} (hk : p[k]? = some n) :
    whyF ns ps os p (heatG x0 x1) (fun _ => false) (k : Int) = if 0 < (findC (all8 ns ps os p) 2 (k : Int) 0).getD 0 then 2 else if (highF ns ps os p (heatG x0 x1)).contains n then 6 else 0 := by
  unfold whyF
  rw [if_pos ⟨hG, hE⟩, if_pos (by omega), Int.toNat_natCast, hk]
  dsimp only
  unfold whyK whyD
  by_cases hn : n = -1
  · subst hn
    rw [if_pos rfl, of_wait (by omega) (by omega) hk]
    have h6 : (highF ns ps os p (heatG x0 x1)).contains (-1) = false := by
      rw [Bool.eq_false_iff]
      intro h
      have := high_pos (-1) (List.contains_iff_mem.1 h)
      omega
    rw [h6]
    simp
  · rw [if_neg hn, heat_why rfl rfl]
    show (if ((all8 ns ps os p).filter brokC).any (podCD (k : Int) [2]) = true then 2 else if (highF ns ps os p (heatG x0 x1)).contains n = true then 6 else 0) = _
    rw [of_broken (by omega) (by omega)]
    simp only [decide_eq_true_eq]
end Go.Proofs.YticgcimcebdjlaaGreat

namespace Go.Proofs.YticgcimcebdjlaaGreat
open Go.RowKit

abbrev row5D (a b : Int) : Nat → Int := fun k => if k = 0 then a else if k = 1 then b else 0
def deNode1 : NodeD := { name := [97], cap := row5D 100 100, labels := [], taints := [], cordon := false, lost := false, al := none, cl := 0, at_ := none, ct := 0 }
def dePod1 : PodD := { name := [112], owner := [], req := row5D 30 10, labels := [], whr := [], bears := [], wt := [], wtm := [], ap := [], apm := [], on := [], al := none, cl := 0, aw := none, cw := 0, ab := none, cb := 0, awt := none, cwt := 0, aap := none, cap := 0 }
def deNode (N : Nat) : NodeD := { name := [98], cap := row5D 100 0, labels := [], taints := [([107], [118])], cordon := false, lost := false, al := none, cl := 0, at_ := some ⟨N, 0, none⟩, ct := 1 }
def dePod (N : Nat) : PodD := { name := [113], owner := [], req := row5D 90 1, labels := [], whr := [(1, [110, 111, 110, 101], [49])], bears := [], wt := [], wtm := [], ap := [], apm := [], on := [], al := none, cl := 0, aw := some ⟨N + 2, 0, none⟩, cw := 1, ab := none, cb := 0, awt := none, cwt := 0, aap := none, cap := 0 }
def deN (N : Nat) : List NodeD := [deNode1, deNode N]
def deP (N : Nat) : List PodD := [dePod1, dePod N]
def deG0 : Pol := { l0 := 0, l1 := 0, h0 := 0, h1 := 0, on := 0, drain := [], mx := 0, tr := 0, rb := false }
def deG4 : Pol := { l0 := 0, l1 := 0, h0 := 0, h1 := 0, on := 4, drain := [], mx := 0, tr := 0, rb := false }
def deGb : Pol := { l0 := 0, l1 := 0, h0 := 100, h1 := 0, on := 0, drain := [[98]], mx := 0, tr := 0, rb := false }
def deGa : Pol := { l0 := 0, l1 := 0, h0 := 0, h1 := 0, on := 0, drain := [[97]], mx := 0, tr := 0, rb := false }
abbrev noCr : Nat → Bool := fun _ => false
theorem de1 (N : Nat) : wrongF (deN N) (deP N) [] [1, 1] deG0 noCr = [(2, 1, 1)] := by kernel_rfl
theorem de2 (N : Nat) : wrongF (deN N) (deP N) [] [1, 1] deG4 noCr = [(2, 0, 1), (2, 1, 1)] := by kernel_rfl
theorem de3 (N : Nat) : wrongF (deN N) (deP N) [] [1, 0] deGb noCr = [(1, 0, 1), (2, 1, 0)] := by kernel_rfl
theorem de4 (N : Nat) : whyF (deN N) (deP N) [] [0, -1] deGa noCr 1 = 0 := by kernel_rfl
theorem results_c1D {P : Program} {fn : Func} {p : Tmp} {ty : TypeId} (h : fn.results = #[.cell p ty]) (tmps : Array Value) (w : World) (g : Nat) (t : TypeId) (cs : Array Value) (fr : Nat × Nat) (d : TypeDesc)
    (hp : tmps.getD p undef = .pointer (some ⟨g, 0, none⟩)) (hg : w.heap[g]? = some (.cells cs t fr)) (hu : P.underlying ty = some d)
    (hd : (match d with | .struct _ | .array _ _ => true | _ => false) = true) (hi : (P.info? ty).map (·.size) = some cs.size) :
    (results fn tmps).run P w = .ok (.agg cs) w := by
  have hp' : tmps[p]?.getD undef = .pointer (some ⟨g, 0, none⟩) := by simpa using hp
  simp [results, h, hp', asAddr, run_loadVar_row w g t ty cs fr d hg hu hd hi]
theorem bodyPost_c1D {P : Program} {fn : Func} {p : Tmp} {ty : TypeId} {R : Ending → World → Prop} {a : Act} {w : World} (h : fn.results = #[.cell p ty]) (g : Nat) (t : TypeId) (cs : Array Value) (fr : Nat × Nat) (d : TypeDesc)
    (hd0 : a.defers = []) (hp : a.tmps.getD p undef = .pointer (some ⟨g, 0, none⟩)) (hg : w.heap[g]? = some (.cells cs t fr))
    (hu : P.underlying ty = some d) (hd : (match d with | .struct _ | .array _ _ => true | _ => false) = true) (hi : (P.info? ty).map (·.size) = some cs.size)
    (hR : R (.returned (.agg cs)) w) : bodyPost P fn R .ret a w :=
  bodyPost_ret (results_c1D h a.tmps w g t cs fr d hp hg hu hd hi) hd0 hR
set_option maxRecDepth 100000 in
theorem de_in {W : World} {N : Nat} (hT : Blk W N #[strV [107], strV [118]] 133) (hN : Blk W (N + 1) (cellsN (deN N)).toArray 114) (hX : Blk W (N + 2) #[.int .i64 1, strV [110, 111, 110, 101], strV [49]] 135) (hP : Blk W (N + 3) (cellsP (deP N)).toArray 83) :
    SnapIn W (some ⟨N + 1, 0, none⟩) (some ⟨N + 3, 0, none⟩) none 2 2 0 (deN N) (deP N) [] := by
  have nolab : ListL W none 0 [] := ⟨by simp, by omega, fun j y hj => by simp [La.cellsL] at hj, fun x hx => by cases hx⟩
  have noter : ListT W none 0 [] := ⟨by simp, by omega, fun j y hj => by simp [La.cellsT] at hj, fun x hx => by cases hx⟩
  have tai : ListL W (some ⟨N, 0, none⟩) 1 [([107], [118])] := by
    refine ⟨by simp, by omega, fun j y hj => ⟨N, 0, rfl, ?_⟩, fun x hx => ?_⟩
    · rw [Nat.zero_add, Blk.cell hT j, ← hj, ← List.getElem?_toArray]
      rfl
    · simp only [List.mem_singleton] at hx
      subst hx
      exact ⟨by simp, by simp⟩
  have ter : ListT W (some ⟨N + 2, 0, none⟩) 1 [(1, [110, 111, 110, 101], [49])] := by
    refine ⟨by simp, by omega, fun j y hj => ⟨N + 2, 0, rfl, ?_⟩, fun x hx => ?_⟩
    · rw [Nat.zero_add, Blk.cell hX j, ← hj, ← List.getElem?_toArray]
      rfl
    · simp only [List.mem_singleton] at hx
      subst hx
      exact ⟨by simp, by simp⟩
  refine ⟨⟨fun j y hj => ⟨N + 1, 0, rfl, ?_⟩, fun x hx => ?_⟩, ⟨fun j y hj => ⟨N + 3, 0, rfl, ?_⟩, fun x hx => ?_⟩, fun j y hj => (by simp [cellsO] at hj), fun x hx => (by cases hx), ⟨by simp [deN], by omega⟩, ⟨by simp [deP], by omega⟩, ⟨by simp, by omega⟩⟩
  · rw [Nat.zero_add, Blk.cell hN j, ← hj, ← List.getElem?_toArray]
  · simp only [deN, List.mem_cons, List.not_mem_nil, or_false] at hx
    rcases hx with rfl | rfl
    · exact ⟨nolab, nolab, by simp [deNode1]⟩
    · exact ⟨nolab, tai, by simp [deNode]⟩
  · rw [Nat.zero_add, Blk.cell hP j, ← hj, ← List.getElem?_toArray]
  · simp only [deP, List.mem_cons, List.not_mem_nil, or_false] at hx
    rcases hx with rfl | rfl
    · exact ⟨nolab, noter, nolab, noter, noter, by simp [dePod1]⟩
    · exact ⟨nolab, ter, nolab, noter, noter, by simp [dePod]⟩
set_option maxRecDepth 100000 in
set_option maxHeartbeats 2000000 in
theorem example13_any (w : World) :
    Calls Tryz.prog 37 #[] w fun e w' => e = .returned (.agg #[.slice (some ⟨w.heap.size + 1 + 1, 0, none⟩) 2 2, .slice (some ⟨w.heap.size + 1 + 3, 0, none⟩) 2 2, .slice none 0 0]) ∧ SnapIn w' (some ⟨w.heap.size + 1 + 1, 0, none⟩) (some ⟨w.heap.size + 1 + 3, 0, none⟩) none 2 2 0 (deN (w.heap.size + 1)) (deP (w.heap.size + 1)) [] ∧ Below w.heap.size w w' := by
  have hZ : Blk (((((w.alloc (.cells #[.slice (some ⟨w.heap.size + 1 + 1, 0, none⟩) 2 2, .slice (some ⟨w.heap.size + 1 + 3, 0, none⟩) 2 2, .slice none 0 0] 26)).alloc (.cells #[strV [107], strV [118]] 133)).alloc (.cells (cellsN (deN (w.heap.size + 1))).toArray 114)).alloc (.cells #[.int .i64 1, strV [110, 111, 110, 101], strV [49]] 135)).alloc (.cells (cellsP (deP (w.heap.size + 1))).toArray 83)) w.heap.size #[.slice (some ⟨w.heap.size + 1 + 1, 0, none⟩) 2 2, .slice (some ⟨w.heap.size + 1 + 3, 0, none⟩) 2 2, .slice none 0 0] 26 := Blk.alloc (Blk.alloc (Blk.alloc (Blk.alloc (Blk.new w _ _) _) _) _) _
  have hT : Blk (((((w.alloc (.cells #[.slice (some ⟨w.heap.size + 1 + 1, 0, none⟩) 2 2, .slice (some ⟨w.heap.size + 1 + 3, 0, none⟩) 2 2, .slice none 0 0] 26)).alloc (.cells #[strV [107], strV [118]] 133)).alloc (.cells (cellsN (deN (w.heap.size + 1))).toArray 114)).alloc (.cells #[.int .i64 1, strV [110, 111, 110, 101], strV [49]] 135)).alloc (.cells (cellsP (deP (w.heap.size + 1))).toArray 83)) (w.heap.size + 1) #[strV [107], strV [118]] 133 := Blk.alloc (Blk.alloc (Blk.alloc (blk_newD (by simp) _ _) _) _) _
  have hN : Blk (((((w.alloc (.cells #[.slice (some ⟨w.heap.size + 1 + 1, 0, none⟩) 2 2, .slice (some ⟨w.heap.size + 1 + 3, 0, none⟩) 2 2, .slice none 0 0] 26)).alloc (.cells #[strV [107], strV [118]] 133)).alloc (.cells (cellsN (deN (w.heap.size + 1))).toArray 114)).alloc (.cells #[.int .i64 1, strV [110, 111, 110, 101], strV [49]] 135)).alloc (.cells (cellsP (deP (w.heap.size + 1))).toArray 83)) (w.heap.size + 1 + 1) (cellsN (deN (w.heap.size + 1))).toArray 114 := Blk.alloc (Blk.alloc (blk_newD (by simp) _ _) _) _
  have hX : Blk (((((w.alloc (.cells #[.slice (some ⟨w.heap.size + 1 + 1, 0, none⟩) 2 2, .slice (some ⟨w.heap.size + 1 + 3, 0, none⟩) 2 2, .slice none 0 0] 26)).alloc (.cells #[strV [107], strV [118]] 133)).alloc (.cells (cellsN (deN (w.heap.size + 1))).toArray 114)).alloc (.cells #[.int .i64 1, strV [110, 111, 110, 101], strV [49]] 135)).alloc (.cells (cellsP (deP (w.heap.size + 1))).toArray 83)) (w.heap.size + 1 + 2) #[.int .i64 1, strV [110, 111, 110, 101], strV [49]] 135 := Blk.alloc (blk_newD (by simp) _ _) _
  have hP : Blk (((((w.alloc (.cells #[.slice (some ⟨w.heap.size + 1 + 1, 0, none⟩) 2 2, .slice (some ⟨w.heap.size + 1 + 3, 0, none⟩) 2 2, .slice none 0 0] 26)).alloc (.cells #[strV [107], strV [118]] 133)).alloc (.cells (cellsN (deN (w.heap.size + 1))).toArray 114)).alloc (.cells #[.int .i64 1, strV [110, 111, 110, 101], strV [49]] 135)).alloc (.cells (cellsP (deP (w.heap.size + 1))).toArray 83)) (w.heap.size + 1 + 3) (cellsP (deP (w.heap.size + 1))).toArray 83 := blk_newD (by simp) _ _
  have hB : Below w.heap.size w (((((w.alloc (.cells #[.slice (some ⟨w.heap.size + 1 + 1, 0, none⟩) 2 2, .slice (some ⟨w.heap.size + 1 + 3, 0, none⟩) 2 2, .slice none 0 0] 26)).alloc (.cells #[strV [107], strV [118]] 133)).alloc (.cells (cellsN (deN (w.heap.size + 1))).toArray 114)).alloc (.cells #[.int .i64 1, strV [110, 111, 110, 101], strV [49]] 135)).alloc (.cells (cellsP (deP (w.heap.size + 1))).toArray 83)) := ((((below1 w _).alloc (by simp) _).alloc (by simp; omega) _).alloc (by simp; omega) _).alloc (by simp; omega) _
  have HZ := Lib.hid hZ
  have HI := Lib.hid (de_in hT hN hX hP)
  have HB := Lib.hid hB
  clear hZ hT hN hX hP hB
  go_enter Tryz.func37, Tryz.ntmps37
  go_wp2
  refine bodyPost_c1D Tryz.results37 w.heap.size _ _ _ _ (by rfl) (by rfl) HZ.out Tryz.underlying26 rfl (by kernel_rfl) ?_
  exact ⟨rfl, HI.out, HB.out⟩
end Go.Proofs.YticgcimcebdjlaaGreat

namespace Go.Proofs.YticgcimcebdjlaaGreat
open Go.RowKit

set_option maxRecDepth 100000 in
set_option maxHeartbeats 4000000 in
theorem Why_any (A B C P G : Option Addr) (ca cb cc cp cg : Nat) (ns : List NodeD) (ps : List PodD) (os : List OwnD) (p : List Int) (g : Pol) (cr : Nat → Bool) (pod : Int) (w : World) (h : SnapIn w A B C ca cb cc ns ps os) (hp : IntsAt w P cp p) (hg : NamesAt w G cg g.drain) (HC : CrowdOk A B C P G ca cb cc cp cg ns ps os p g cr) :
    Calls Tryz.prog 16 #[snapV A B C ca cb cc ns ps os, .slice P p.length cp, valG g G cg, .int .i64 pod] w fun e w' => e = .returned (.int .i64 (whyF ns ps os p g cr pod)) ∧ Below w.heap.size w w' := by
  obtain ⟨y, hy⟩ : ∃ y, whyF ns ps os p g cr pod = y := ⟨_, rfl⟩
  rw [hy]
  have HY := Lib.hid hy
  clear hy
  have B0 : Hid (Below w.heap.size w ((w.alloc (.cells (snapC A B C ca cb cc ns ps os) 26)).alloc (.cells (cellsG g G cg) 30))) := Lib.hid (Qu.below2 w _ _)
  have S0 : Hid (Blk ((w.alloc (.cells (snapC A B C ca cb cc ns ps os) 26)).alloc (.cells (cellsG g G cg) 30)) w.heap.size (snapC A B C ca cb cc ns ps os) 26) := Lib.hid (Blk.alloc (Blk.new w _ _) _)
  have G0 : Hid (Blk ((w.alloc (.cells (snapC A B C ca cb cc ns ps os) 26)).alloc (.cells (cellsG g G cg) 30)) (w.heap.size + 1) (cellsG g G cg) 30) := Lib.hid (blk2 w _ _ _)
  have KL := Lib.hid (fun W' (hb : Below w.heap.size w W') => look_any A B C P G ca cb cc cp cg ns ps os p g cr W' (h.low hb) (hp.below hb) (hg.below hb) HC)
  clear h hp hg HC
  go_enter Tryz.func16, Tryz.ntmps16
  go_upto_region 1 with fail
  try change Code.wp _ _ _ _ ((w.alloc (.cells (snapC A B C ca cb cc ns ps os) 26)).alloc (.cells (cellsG g G cg) 30))
  generalize ((w.alloc (.cells (snapC A B C ca cb cc ns ps os) 26)).alloc (.cells (cellsG g G cg) 30)) = W0 at B0 S0 G0 ⊢
  obtain ⟨Gb, hGb⟩ : ∃ b, w.heap.size + 1 = b := ⟨_, rfl⟩
  rw [hGb] at G0 ⊢
  clear hGb
  have s0 : W0.cell? ⟨w.heap.size, 0, none⟩ = some (.slice A ns.length ca) := Blk.cell S0.out 0
  have s1 : W0.cell? ⟨w.heap.size, 1, none⟩ = some (.slice B ps.length cb) := Blk.cell S0.out 1
  have s2 : W0.cell? ⟨w.heap.size, 2, none⟩ = some (.slice C os.length cc) := Blk.cell S0.out 2
  have g0 : W0.cell? ⟨Gb, 0, none⟩ = some (.int .i64 g.l0) := Blk.cell G0.out 0
  have g1 : W0.cell? ⟨Gb, 1, none⟩ = some (.int .i64 g.l1) := Blk.cell G0.out 1
  have g2 : W0.cell? ⟨Gb, 2, none⟩ = some (.int .i64 g.h0) := Blk.cell G0.out 2
  have g3 : W0.cell? ⟨Gb, 3, none⟩ = some (.int .i64 g.h1) := Blk.cell G0.out 3
  have g4 : W0.cell? ⟨Gb, 4, none⟩ = some (.int .i64 g.on) := Blk.cell G0.out 4
  have g5 : W0.cell? ⟨Gb, 5, none⟩ = some (.slice G g.drain.length cg) := Blk.cell G0.out 5
  have g6 : W0.cell? ⟨Gb, 6, none⟩ = some (.int .i64 g.mx) := Blk.cell G0.out 6
  have g7 : W0.cell? ⟨Gb, 7, none⟩ = some (.int .i64 g.tr) := Blk.cell G0.out 7
  have g8 : W0.cell? ⟨Gb, 8, none⟩ = some (.bool g.rb) := Blk.cell G0.out 8
  go_wp2_with fail
  refine (KL.out _ B0.out).mono ?_
  rintro e w1 ⟨v, bv, rfl, hv, hb⟩
  have B1 : Hid (Below w.heap.size w w1) := Lib.hid (B0.out.trans (hb.mono B0.out.size))
  have KW := Lib.hid (fun W' hb => hv.why pod W' hb)
  rw [HY.out] at KW
  clear hv hb s0 s1 s2 g0 g1 g2 g3 g4 g5 g6 g7 g8 KL S0 G0 B0
  have BV := Lib.hid (below1 w1 (.cells (cellsVw v) 92))
  have QV := Lib.hid (Blk.new w1 (cellsVw v) 92)
  go_upto_region 2 with fail
  try change Code.wp _ _ _ _ (w1.alloc (.cells (cellsVw v) 92))
  generalize (w1.alloc (.cells (cellsVw v) 92)) = W2 at BV QV ⊢
  generalize w1.heap.size = Vb at QV ⊢
  have m0 : W2.cell? ⟨Vb, 0, none⟩ = some (.slice v.A v.ns.length v.ca) := Blk.cell QV.out 0
  have m1 : W2.cell? ⟨Vb, 1, none⟩ = some (.slice v.B v.ps.length v.cb) := Blk.cell QV.out 1
  have m2 : W2.cell? ⟨Vb, 2, none⟩ = some (.slice v.C v.os.length v.cc) := Blk.cell QV.out 2
  have m3 : W2.cell? ⟨Vb, 3, none⟩ = some (.slice v.P v.p.length v.cp) := Blk.cell QV.out 3
  have m4 : W2.cell? ⟨Vb, 4, none⟩ = some (.int .i64 v.g.l0) := Blk.cell QV.out 4
  have m5 : W2.cell? ⟨Vb, 5, none⟩ = some (.int .i64 v.g.l1) := Blk.cell QV.out 5
  have m6 : W2.cell? ⟨Vb, 6, none⟩ = some (.int .i64 v.g.h0) := Blk.cell QV.out 6
  have m7 : W2.cell? ⟨Vb, 7, none⟩ = some (.int .i64 v.g.h1) := Blk.cell QV.out 7
  have m8 : W2.cell? ⟨Vb, 8, none⟩ = some (.int .i64 v.g.on) := Blk.cell QV.out 8
  have m9 : W2.cell? ⟨Vb, 9, none⟩ = some (.slice v.G v.g.drain.length v.cg) := Blk.cell QV.out 9
  have m10 : W2.cell? ⟨Vb, 10, none⟩ = some (.int .i64 v.g.mx) := Blk.cell QV.out 10
  have m11 : W2.cell? ⟨Vb, 11, none⟩ = some (.int .i64 v.g.tr) := Blk.cell QV.out 11
  have m12 : W2.cell? ⟨Vb, 12, none⟩ = some (.bool v.g.rb) := Blk.cell QV.out 12
  have m13 : W2.cell? ⟨Vb, 13, none⟩ = some (.slice v.K v.l.length v.ck) := Blk.cell QV.out 13
  have m14 : W2.cell? ⟨Vb, 14, none⟩ = some (.slice v.X v.hs.length v.cx) := Blk.cell QV.out 14
  have m15 : W2.cell? ⟨Vb, 15, none⟩ = some (.slice v.Y v.ws.length v.cy) := Blk.cell QV.out 15
  have m16 : W2.cell? ⟨Vb, 16, none⟩ = some (.slice v.F v.full.length v.cf) := Blk.cell QV.out 16
  have KW1 := Lib.hid (KW.out W2 BV.out)
  clear KW
  go_wp2_with fail
  refine (KW1.out).mono ?_
  rintro e w3 ⟨rfl, hb⟩
  have D := Lib.hid (B1.out.trans ((BV.out.trans (hb.mono BV.out.size)).mono B1.out.size))
  clear hb m0 m1 m2 m3 m4 m5 m6 m7 m8 m9 m10 m11 m12 m13 m14 m15 m16
  go_wp2
  go_ret
  exact ⟨rfl, D.out⟩
end Go.Proofs.YticgcimcebdjlaaGreat
